import Derived.Test.YtfmjalbiimhdhaaDoorDReadN
import Derived.Test.YtfmjalbiimhdhaaDoorDTree
namespace Go.Proofs.YtfmjalbiimhdhaaDoor
open Go.RowKit

/-- The way of spec.DecodeTree. -/
def SS (w : World) (ys : List Int) (W : World) (v : Value) (ns : List Nd) (p : Nat) : Prop :=
  Par ys ns (ys.drop p) ∧ SzN ns ∧ Below w.heap.size w W ∧ Zt W w.heap.size ∧ B1 W (w.heap.size + 1) v ∧ OwnN 74 W (w.heap.size + 2) v ns
theorem SS.later {w W W' : World} {ys : List Int} {v : Value} {ns : List Nd} {p : Nat} (h : SS w ys W v ns p) (hb : Below W.heap.size W W') : SS w ys W' v ns p := by
  obtain ⟨t1, t2, t3, t4, t5, t6⟩ := h
  exact ⟨t1, t2, t3.trans (hb.mono t3.size), t4.turn (grown_of hb none) (by simp), t5.turn (grown_of hb none) (by simp), t6.below hb⟩
theorem SS.push {w W W3 : World} {ys : List Int} {v v3 : Value} {ns : List Nd} {p q : Nat} {n : Nd} (h : SS w ys W v ns p) (hb : Byt ys) (hr : rdNd (ys.drop p) = some (n, ys.drop q)) (hg : W.grownBy W3 v.ownBlock) (ho : W3.ownsRow (w.heap.size + 2) 74 7 v3 (ns.length + 1) (nrow ns ++ ndL n)) :
    SS w ys (W3.setCell ⟨w.heap.size + 1, 0, none⟩ v3) v3 (ns ++ [n]) q := by
  obtain ⟨t1, t2, t3, t4, t5, t6⟩ := h
  have hne : ∀ k, k < w.heap.size + 2 → some k ≠ v.ownBlock := fun k hk e => by have := (World.ownsRow.lt t6 k e.symm).1; omega
  have hlo : ∀ g, v.ownBlock = some g → w.heap.size ≤ g := fun g e => by have := (World.ownsRow.lt t6 g e).1; omega
  have b6 := t5.turn hg (hne _ (by omega))
  have hby := byt_drop hb p
  have hsz := rdNd_byt hr hby
  refine ⟨t1.step hby hr, ?_, (t3.grown hg t3.size hlo).setCell (p := ⟨w.heap.size + 1, 0, none⟩) (Nat.le_succ _) _, (t4.turn hg (hne _ (by omega))).set (by omega) _ _, ⟨by simpa using b6.1, World.cell?_setCell_same _ _ _ b6.2.1, by rw [World.frozen?_setCell]; exact b6.2.2⟩, ?_⟩
  · intro m hm
    rcases List.mem_append.1 hm with hm | hm
    · exact t2 m hm
    · simp at hm; subst hm; exact hsz.2.2
  · have : OwnN 74 W3 (w.heap.size + 2) v3 (ns ++ [n]) := by unfold OwnN; rw [nrow_one, List.length_append]; exact ho
    exact OwnN.setBelow this (by show w.heap.size + 1 < w.heap.size + 2; omega) _

set_option maxHeartbeats 4000000 in
set_option maxRecDepth 100000 in
theorem specDecT_any (w : World) (v : Value) (ys : List Int) (h : Rd .u8 w v ys) (hby : Byt ys) (hl : ys.length ≤ 1048576) :
    Calls Tryd.prog 29 #[v] w fun e w' => DtPost w ys e w' := by
  obtain ⟨i0, hi, hz0, hz1, hz2⟩ := info_parts Tryd.infoN
  obtain ⟨ao, cap, rfl, -, -⟩ := h.len
  have HR : Hid (Rd .u8 w (.slice ao ys.length cap) ys) := h
  have HBY : Hid (Byt ys) := hby
  have S0 : Hid (SS w ys ((w.alloc (.cells #[.bool false, .slice none 0 0] 55)).alloc (.cells #[.slice none 0 0] 29)) (.slice none 0 0) [] 0) := by
    refine ⟨by rw [List.drop_zero]; exact Par.start ys, (fun n hn => by cases hn), ((Below.refl _ _).alloc (Nat.le_refl _) _).alloc (by simp) _, ⟨by simp; omega, (by go_simp), (by go_simp), fun j => (by go_simp)⟩, ⟨by simp, (by go_simp), (by go_simp)⟩, World.ownsRow_nil _ _ _ _⟩
  clear h hby
  go_enter Tryd.func29, Tryd.ntmps29
  go_wp2
  generalize (w.alloc (.cells #[.bool false, .slice none 0 0] 55)).alloc (.cells #[.slice none 0 0] 29) = W0 at *
  go_loopw [4] (fun va wr => ∃ p v ns, va = .int .i64 (p : Nat) ∧ p ≤ ys.length ∧ Hid (SS w ys wr v ns p)) (fun i _ => ys.length - (intOf i).toNat)
  case atStart => exact ⟨0, _, _, rfl, Nat.zero_le _, S0⟩
  case round =>
    clear S0
    obtain ⟨p, v, ns, rfl, hp, D⟩ := hrel
    obtain ⟨va, vc, hva⟩ := D.out.2.2.2.2.2.slice
    subst hva
    by_cases hlt : p < ys.length
    · have hltI : (p : Int) < (ys.length : Int) := by omega
      have HNE : Hid (ys.drop p ≠ []) := fun e => by have := congrArg List.length e; rw [List.length_drop] at this; simp at this; omega
      have hns : ns.length ≤ 1048576 := by obtain ⟨f, -, -, h⟩ := D.out.1; omega
      go_wp2_with fail
      refine (rN_any wr _ ys p (HR.out.below D.out.2.2.1) HBY.out hl).mono ?_
      rintro e w1 ⟨b1, hpp⟩
      have D1 : Hid (SS w ys w1 (.slice va ns.length vc) ns p) := D.out.later b1
      clear b1 D
      rcases hpp with ⟨hr, rfl⟩ | ⟨n, q, hr, hpq, hq, rfl⟩
      · have HNO : Hid (decT ys = none) := by show _ = _; unfold decT; rw [D1.out.1.bad HNE.out hr]
        clear hr
        obtain ⟨-, z0, z1, zf⟩ := D1.out.2.2.2.1
        have f0 := zf 0
        have f1 := zf 1
        have zl := D1.out.2.2.2.1.1
        clear zf
        unfold ndV nd0
        have E : ∀ (j : Nat) (ob : Obj), (((w1.setCell ⟨w.heap.size, 0, none⟩ (.bool false)).setCell ⟨w.heap.size, 1, none⟩ (.slice none 0 0)).alloc ob).cell? ⟨w.heap.size, j, none⟩ = ((w1.setCell ⟨w.heap.size, 0, none⟩ (.bool false)).setCell ⟨w.heap.size, 1, none⟩ (.slice none 0 0)).cell? ⟨w.heap.size, j, none⟩ :=
          fun j ob => ((Below.refl _ _).alloc (Nat.le_refl _) ob).cell (p := ⟨w.heap.size, j, none⟩) (by simpa using zl)
        have E0 : ((w1.setCell ⟨w.heap.size, 0, none⟩ (.bool false)).setCell ⟨w.heap.size, 1, none⟩ (.slice none 0 0)).cell? ⟨w.heap.size, 0, none⟩ = some (.bool false) := by
          rw [World.cell?_setCell_other _ _ _ _ (by intro e; injection e with _ e; omega)]; exact World.cell?_setCell_same _ _ _ z0
        have E1 : ((w1.setCell ⟨w.heap.size, 0, none⟩ (.bool false)).setCell ⟨w.heap.size, 1, none⟩ (.slice none 0 0)).cell? ⟨w.heap.size, 1, none⟩ = some (.slice none 0 0) :=
          World.cell?_setCell_same _ _ _ ((World.cell?_setCell_other _ _ _ _ (by intro e; injection e with _ e; omega)).trans z1)
        have HE : Hid (∀ ob : Obj, (((w1.setCell ⟨w.heap.size, 0, none⟩ (.bool false)).setCell ⟨w.heap.size, 1, none⟩ (.slice none 0 0)).alloc ob).cell? ⟨w.heap.size, 0, none⟩ = some (.bool false) ∧ (((w1.setCell ⟨w.heap.size, 0, none⟩ (.bool false)).setCell ⟨w.heap.size, 1, none⟩ (.slice none 0 0)).alloc ob).cell? ⟨w.heap.size, 1, none⟩ = some (.slice none 0 0)) := fun ob => ⟨(E 0 ob).trans E0, (E 1 ob).trans E1⟩
        clear E E0 E1
        go_wp2
        refine bodyPost_ret (v := .agg #[.bool false, .slice none 0 0]) (by simp [results, Tryd.results29, go_sem, (HE.out _).1, (HE.out _).2]) rfl ⟨((D1.out.2.2.1.setCell (p := ⟨w.heap.size, 0, none⟩) (Nat.le_refl _) _).setCell (p := ⟨w.heap.size, 1, none⟩) (Nat.le_refl _) _).alloc (by simp; omega) _, .inl ⟨HNO.out, rfl⟩⟩
      · have HRD : Hid (rdNd (ys.drop p) = some (n, ys.drop q)) := hr
        have D2 : Hid (SS w ys (w1.alloc (.cells #[.string n.path, .string n.data, .int .i64 n.ver, .int .i64 n.cver, .int .i64 n.cz, .int .i64 n.mz, .int .i64 n.pz] 74)) (.slice va ns.length vc) ns p) := D1.out.later ((Below.refl _ _).alloc (Nat.le_refl _) _)
        have D3 : Hid (SS w ys ((w1.alloc (.cells #[.string n.path, .string n.data, .int .i64 n.ver, .int .i64 n.cver, .int .i64 n.cz, .int .i64 n.mz, .int .i64 n.pz] 74)).alloc (.cells #[.string n.path, .string n.data, .int .i64 n.ver, .int .i64 n.cver, .int .i64 n.cz, .int .i64 n.mz, .int .i64 n.pz] 74)) (.slice va ns.length vc) ns p) := D2.out.later ((Below.refl _ _).alloc (Nat.le_refl _) _)
        obtain ⟨zt, c0, -⟩ := D1.out.2.2.2.2.1
        clear hr
        unfold ndV
        have hqI : ¬ (q : Int) < 0 := by omega
        go_wp2_with (at_builtin; go_must (refine wpList_append_own _ rfl _ _ 27 rfl (w.heap.size + 2) 74 i0 (.agg #[.string ByteArray.empty, .string ByteArray.empty, .int .i64 0, .int .i64 0, .int .i64 0, .int .i64 0, .int .i64 0]) 7 72 Tryd.underlying27 hi hz0 hz1 hz2 rfl (by decide) _ _ _ rfl D3.out.2.2.2.2.2 ⟨w1.heap.size + 1, 0, none⟩ 1 1 (ndL n) rfl rfl ?n1 (ndL_one n) ?n2 ?n3 ?n4 ?_))
        case n1 =>
          have := ndL_cells (w1.alloc (.cells #[.string n.path, .string n.data, .int .i64 n.ver, .int .i64 n.cver, .int .i64 n.cz, .int .i64 n.mz, .int .i64 n.pz] 74)) n 74
          rw [show (w1.alloc (.cells #[.string n.path, .string n.data, .int .i64 n.ver, .int .i64 n.cver, .int .i64 n.cz, .int .i64 n.mz, .int .i64 n.pz] 74)).heap.size = w1.heap.size + 1 by simp] at this
          exact this
        case n2 => unfold maxLen; omega
        case n3 => omega
        case n4 => simp; omega
        intro v3 W3 ho3 hg3 _
        have D4 : Hid (SS w ys (W3.setCell ⟨w.heap.size + 1, 0, none⟩ v3) v3 (ns ++ [n]) q) := D3.out.push HBY.out HRD.out hg3 ho3
        obtain ⟨a3, q3, hv3⟩ := D4.out.2.2.2.2.2.slice
        rw [show (ns ++ [n]).length = ns.length + 1 by simp] at hv3
        subst hv3
        obtain ⟨-, c3, f3⟩ := D3.out.2.2.2.2.1.turn hg3 (fun e => by have := (World.ownsRow.lt D3.out.2.2.2.2.2 _ e.symm).1; omega)
        clear ho3 hg3 c0 D1 D2 D3 HRD
        go_wp2
        exact ⟨⟨q, _, _, rfl, hq, D4⟩, by simp [intOf]; omega⟩
    · have hpn : ys.drop p = [] := List.drop_eq_nil_of_le (by omega)
      obtain ⟨t1, t2, t3, t4, ⟨-, b0, -⟩, t6⟩ := D.out
      rw [hpn] at t1
      have HPD : Hid (pNs ys.length ys = some ns) := t1.done
      have HSZ : Hid (SzN ns) := t2
      have HON : Hid (OwnN 74 wr (w.heap.size + 2) (.slice va ns.length vc) ns) := t6
      have hns : ns.length ≤ 1048576 := by obtain ⟨f, -, -, h⟩ := t1; omega
      clear t1 t2 t3 t4 t6 hpn
      go_wp2_with fail
      refine (specTree_any _ _ ns HON.out.rd hns HSZ.out.at).mono ?_
      rintro e w2 ⟨rfl, b2⟩
      have HON2 : Hid (OwnN 74 w2 (w.heap.size + 2) (.slice va ns.length vc) ns) := HON.out.below b2
      have D2 : Hid (SS w ys w2 (.slice va ns.length vc) ns p) := D.out.later b2
      obtain ⟨-, z0, z1, zf⟩ := D2.out.2.2.2.1
      obtain ⟨-, d0, -⟩ := D2.out.2.2.2.2.1
      have f0 := zf 0
      have f1 := zf 1
      clear b2 zf b0 HON
      by_cases hok : okTree ns = true
      · have HDT : Hid (decT ys = some ns) := by show _ = _; unfold decT; rw [HPD.out]; simp only; rw [if_pos hok]
        rw [hok]
        clear hok
        go_wp2
        refine bodyPost_ret (v := .agg #[.bool true, .slice va ns.length vc]) (by simp [results, Tryd.results29, go_sem, z0, z1]) rfl ⟨(D2.out.2.2.1.setCell (p := ⟨w.heap.size, 0, none⟩) (Nat.le_refl _) _).setCell (p := ⟨w.heap.size, 1, none⟩) (Nat.le_refl _) _, .inr ⟨ns, _, HDT.out, rfl, ?_⟩⟩
        exact OwnN.mono (OwnN.setBelow (OwnN.setBelow HON2.out (by show w.heap.size < w.heap.size + 2; omega) _) (by show w.heap.size < w.heap.size + 2; omega) _) (by omega)
      · have hok' : okTree ns = false := by simpa using hok
        have HDT : Hid (decT ys = none) := by show _ = _; unfold decT; rw [HPD.out]; simp only; rw [if_neg hok]
        rw [hok']
        clear hok hok'
        go_wp2
        refine bodyPost_ret (v := .agg #[.bool false, .slice none 0 0]) (by simp [results, Tryd.results29, go_sem, z0, z1]) rfl ⟨(D2.out.2.2.1.setCell (p := ⟨w.heap.size, 0, none⟩) (Nat.le_refl _) _).setCell (p := ⟨w.heap.size, 1, none⟩) (Nat.le_refl _) _, .inl ⟨HDT.out, rfl⟩⟩

end Go.Proofs.YtfmjalbiimhdhaaDoor
