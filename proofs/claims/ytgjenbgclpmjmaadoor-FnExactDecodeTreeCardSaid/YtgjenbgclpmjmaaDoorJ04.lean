import Derived.Test.YtgjenbgclpmjmaaDoorJ03
import Derived.Test.YtgjenbgclpmjmaaDoorJ02
import Derived.Test.YtgjenbgclpmjmaaDoorJ01
namespace Go.Proofs.YtgjenbgclpmjmaaDoor
open Go.RowKit

def zeroT : Value := .agg #[.bool false, .slice none 0 0]
/-- What an answer of DecodeTree is. -/
def DtPost (w : World) (ys : List Int) (e : Ending) (w' : World) : Prop :=
  Below w.heap.size w w' ∧ ((decT ys = none ∧ e = .returned zeroT) ∨ ∃ ns v, decT ys = some ns ∧ e = .returned (.agg #[.bool true, v]) ∧ OwnN 81 w' w.heap.size v ns)
/-- The answer's own variable, still zero. -/
def Zt (W : World) (k : Nat) : Prop := k < W.heap.size ∧ W.cell? ⟨k, 0, none⟩ = some (.bool false) ∧ W.cell? ⟨k, 1, none⟩ = some (.slice none 0 0) ∧ ∀ j, W.frozen? ⟨k, j, none⟩ = false
theorem Zt.turn {W W' : World} {k : Nat} {row : Option Nat} (h : Zt W k) (hg : W.grownBy W' row) (hne : some k ≠ row) : Zt W' k := by
  have hb := hg.block k h.1 hne
  exact ⟨Nat.lt_of_lt_of_le h.1 hg.size, (World.cell?_of_block (a := ⟨k, 0, none⟩) hb).trans h.2.1, (World.cell?_of_block (a := ⟨k, 1, none⟩) hb).trans h.2.2.1, fun j => (World.frozen?_of_block (a := ⟨k, j, none⟩) hb).trans (h.2.2.2 j)⟩
theorem Zt.set {W : World} {k B : Nat} (h : Zt W k) (hne : k ≠ B) (i : Nat) (u : Value) : Zt (W.setCell ⟨B, i, none⟩ u) k :=
  ⟨by simpa using h.1, (World.cell?_setCell_other _ _ _ _ (by intro e; injection e with e; omega)).trans h.2.1, (World.cell?_setCell_other _ _ _ _ (by intro e; injection e with e; omega)).trans h.2.2.1, fun j => by rw [World.frozen?_setCell]; exact h.2.2.2 j⟩
/-- A box of one cell that may be written. -/
def B1 (W : World) (k : Nat) (v : Value) : Prop := k < W.heap.size ∧ W.cell? ⟨k, 0, none⟩ = some v ∧ W.frozen? ⟨k, 0, none⟩ = false
theorem B1.turn {W W' : World} {k : Nat} {v : Value} {row : Option Nat} (h : B1 W k v) (hg : W.grownBy W' row) (hne : some k ≠ row) : B1 W' k v := by
  have hb := hg.block k h.1 hne
  exact ⟨Nat.lt_of_lt_of_le h.1 hg.size, (World.cell?_of_block (a := ⟨k, 0, none⟩) hb).trans h.2.1, (World.frozen?_of_block (a := ⟨k, 0, none⟩) hb).trans h.2.2⟩
theorem OwnN.turn {W W' : World} {lo : Nat} {v : Value} {ns : List Nd} {k : Nat} (h : OwnN 81 W lo v ns) (hg : W.grownBy W' (some k)) (hk : k < lo) : OwnN 81 W' lo v ns := by
  refine World.ownsRow.kept h hg ?_
  cases e : v.ownBlock with
  | none => exact .inl rfl
  | some g =>
    refine .inr fun e2 => ?_
    have := (World.ownsRow.lt h g e).1
    simp only [Option.some.injEq] at e2
    omega
theorem nrow_one (ns : List Nd) (n : Nd) : nrow (ns ++ [n]) = nrow ns ++ ndL n := by rw [nrow_append]; simp [nrow]
theorem ndL_cells (w : World) (n : Nd) (t : TypeId) : ∀ j u, (ndL n)[j]? = some u → (w.alloc (.cells #[.string n.path, .string n.data, .int .i64 n.ver, .int .i64 n.cver, .int .i64 n.cz, .int .i64 n.mz, .int .i64 n.pz] t)).cell? ((⟨w.heap.size, 0, none⟩ : Addr).add j) = some u := by
  intro j u hj
  rw [Addr.add_lit, Nat.zero_add, cell_of (heap_alloc_new w _) j, ← hj]
  simp [ndL]
theorem ndL_one (n : Nd) : ∀ u ∈ ndL n, u.oneCell' = true := by
  intro u hu
  simp only [ndL, List.mem_cons, List.mem_nil_iff, or_false] at hu
  rcases hu with rfl | rfl | rfl | rfl | rfl | rfl | rfl <;> rfl
theorem field_node (n : Nd) (W : World) : (Instr.field 102 (.agg #[.string n.path, .string n.data, .int .i64 n.ver, .int .i64 n.cver, .int .i64 n.cz, .int .i64 n.mz, .int .i64 n.pz]) 0).run Tryd.prog W = .ok (.agg #[.string n.path, .string n.data, .int .i64 n.ver, .int .i64 n.cver, .int .i64 n.cz, .int .i64 n.mz, .int .i64 n.pz]) W := by kernel_rfl
def SzN (ns : List Nd) : Prop := ∀ n ∈ ns, n.path.size < 256 ∧ n.data.size < 256
theorem SzN.at {ns : List Nd} (h : SzN ns) (i : Nat) : (nAt ns i).path.size ≤ 1048576 ∧ (nAt ns i).data.size ≤ 1048576 := by
  by_cases hi : i < ns.length
  · rw [nAt_get hi]
    have := h _ (List.getElem_mem hi)
    omega
  · unfold nAt; rw [List.getD, List.getElem?_eq_none (by omega)]; exact ⟨Nat.zero_le _, Nat.zero_le _⟩
/-- The way of DecodeTree. -/
def TS (w : World) (ys : List Int) (W : World) (v : Value) (ns : List Nd) (r : List Int) : Prop :=
  Par ys ns r ∧ Byt r ∧ SzN ns ∧ RS w W (w.heap.size + 1) r ∧ Zt W w.heap.size ∧ B1 W (w.heap.size + 1 + 1) v ∧ OwnN 81 W (w.heap.size + 3) v ns
def lenAt (W : World) (k : Nat) : Nat := match W.cell? ⟨k, 0, none⟩ with | some (.slice _ n _) => n | _ => 0
theorem RS.lenAt {w0 W : World} {k : Nat} {r : List Int} (h : RS w0 W k r) : lenAt W k = r.length := by
  obtain ⟨-, -, -, -, v, h5, h6⟩ := h
  obtain ⟨ao, c, rfl, -⟩ := h6
  unfold Go.Proofs.YtgjenbgclpmjmaaDoor.lenAt
  rw [h5]
theorem TS.start (w : World) (ao : Option Addr) (ys : List Int) (cap : Nat) (h : Rd .u8 w (.slice ao ys.length cap) ys) (hb : Byt ys) :
    TS w ys (((w.alloc (.cells #[.bool false, .slice none 0 0] 56)).alloc (.cells #[.slice ao ys.length cap] 99)).alloc (.cells #[.slice none 0 0] 30)) (.slice none 0 0) [] ys := by
  refine ⟨Par.start ys, hb, (fun n hn => by cases hn), ⟨by omega, by simp, (by go_simp), (((Below.refl _ _).alloc (Nat.le_refl _) _).alloc (by simp) _).alloc (by simp; omega) _, _, (by go_simp), h⟩, ⟨by simp; omega, (by go_simp), (by go_simp), fun j => (by go_simp)⟩, ⟨by simp, (by go_simp), (by go_simp)⟩, World.ownsRow_nil _ _ _ _⟩

theorem TS.drewN {w W : World} {ys : List Int} {v : Value} {ns : List Nd} {r : List Int} (h : TS w ys W v ns r) (q : Nat) : TS w ys (W.drewN q) v ns r := ⟨h.1, h.2.1, h.2.2.1, h.2.2.2.1.drewN q, h.2.2.2.2.1, h.2.2.2.2.2.1, h.2.2.2.2.2.2⟩
theorem TS.below {w W : World} {ys : List Int} {v : Value} {ns : List Nd} {r : List Int} (h : TS w ys W v ns r) : Below w.heap.size w W := h.2.2.2.1.2.2.2.1

set_option maxHeartbeats 400000 in
theorem done_any (w0 w : World) (k : Nat) (ys : List Int) (h : RS w0 w k ys) :
    Calls Tryd.prog 76 #[.pointer (some ⟨k, 0, none⟩)] w fun e w' => e = .returned (.bool (decide (ys = []))) ∧ w' = w := by
  obtain ⟨-, -, -, -, v, h5, h6⟩ := h
  obtain ⟨ao, c, rfl, -⟩ := h6
  by_cases hy : ys = []
  · subst hy
    have h0 : ((List.length ([] : List Int) : Int) == 0) = true := rfl
    go_enter Tryd.func76, Tryd.ntmps76
    go_wp2
    go_ret
    exact ⟨rfl, rfl⟩
  · have hl : 0 < ys.length := List.length_pos_iff.2 hy
    have h0 : ((ys.length : Int) == 0) = false := beq_eq_false_iff_ne.2 (by omega)
    rw [decide_eq_false hy]
    go_enter Tryd.func76, Tryd.ntmps76
    go_wp2
    go_ret
    exact ⟨rfl, rfl⟩

theorem hmf (fn : Fn) (first cap : Array Value) (w : World) : (Instr.makeFunc fn first cap).run Tryd.prog w = .ok (.func fn first cap) w := rfl

theorem RS.turn {w0 W W' : World} {k : Nat} {r : List Int} {row : Option Nat} (h : RS w0 W k r) (hg : W.grownBy W' row) (hne : some k ≠ row) (hlo : ∀ g, row = some g → w0.heap.size ≤ g) : RS w0 W' k r := by
  obtain ⟨h1, h2, h3, h4, v, h5, h6⟩ := h
  have hb := hg.block k h2 hne
  exact ⟨h1, Nat.lt_of_lt_of_le h2 hg.size, (World.frozen?_of_block (a := ⟨k, 0, none⟩) hb).trans h3, h4.grown hg h4.size hlo, v, (World.cell?_of_block (a := ⟨k, 0, none⟩) hb).trans h5, h6⟩
/-- A node was read. -/
def TR (w : World) (ys : List Int) (W : World) (v : Value) (ns : List Nd) (n : Nd) (r : List Int) : Prop :=
  Par ys (ns ++ [n]) r ∧ Byt r ∧ SzN (ns ++ [n]) ∧ RS w W (w.heap.size + 1) r ∧ Zt W w.heap.size ∧ B1 W (w.heap.size + 1 + 1) v ∧ OwnN 81 W (w.heap.size + 3) v ns
theorem TS.read {w W W1 : World} {ys : List Int} {v : Value} {ns : List Nd} {r r' : List Int} {n : Nd} (h : TS w ys W v ns r) (hg : W.grownBy W1 (some (w.heap.size + 1))) (hp : rdNd r = some (n, r')) (hr : RS w W1 (w.heap.size + 1) r') : TR w ys W1 v ns n r' := by
  obtain ⟨t1, t2, t3, t4, t5, t6, t7⟩ := h
  have hb := rdNd_byt hp t2
  refine ⟨t1.step t2 hp, hb.1, ?_, hr, t5.turn hg (by simp), t6.turn hg (by simp), t7.turn hg (by omega)⟩
  intro m hm
  rcases List.mem_append.1 hm with hm | hm
  · exact t3 m hm
  · simp at hm; subst hm; exact hb.2.2
theorem TR.alloc {w W : World} {ys : List Int} {v : Value} {ns : List Nd} {r : List Int} {n : Nd} (h : TR w ys W v ns n r) (o : Obj) : TR w ys (W.alloc o) v ns n r := by
  obtain ⟨t1, t2, t3, t4, t5, t6, t7⟩ := h
  exact ⟨t1, t2, t3, t4.new ((Below.refl _ _).alloc (Nat.le_refl _) _), t5.turn (grown_alloc _ _ none) (by simp), t6.turn (grown_alloc _ _ none) (by simp), t7.below ((Below.refl _ _).alloc (Nat.le_refl _) _)⟩
theorem TR.push {w W W3 : World} {ys : List Int} {v v3 : Value} {ns : List Nd} {r : List Int} {n : Nd} (h : TR w ys W v ns n r) (hg : W.grownBy W3 v.ownBlock) (ho : W3.ownsRow (w.heap.size + 3) 81 7 v3 (ns.length + 1) (nrow ns ++ ndL n)) :
    TS w ys (W3.setCell ⟨w.heap.size + 1 + 1, 0, none⟩ v3) v3 (ns ++ [n]) r := by
  obtain ⟨t1, t2, t3, t4, t5, t6, t7⟩ := h
  have hne : ∀ k, k < w.heap.size + 3 → some k ≠ v.ownBlock := fun k hk e => by have := (World.ownsRow.lt t7 k e.symm).1; omega
  have hlo : ∀ g, v.ownBlock = some g → w.heap.size ≤ g := fun g e => by have := (World.ownsRow.lt t7 g e).1; omega
  have b6 := t6.turn hg (hne _ (by omega))
  refine ⟨t1, t2, t3, (t4.turn hg (hne _ (by omega)) hlo).setOther (by omega) (by omega) _ _, (t5.turn hg (hne _ (by omega))).set (by omega) _ _, ⟨by simpa using b6.1, World.cell?_setCell_same _ _ _ b6.2.1, by rw [World.frozen?_setCell]; exact b6.2.2⟩, ?_⟩
  have : OwnN 81 W3 (w.heap.size + 3) v3 (ns ++ [n]) := by unfold OwnN; rw [nrow_one, List.length_append]; exact ho
  exact OwnN.setBelow this (by show w.heap.size + 1 + 1 < w.heap.size + 3; omega) _

set_option maxHeartbeats 4000000 in
set_option maxRecDepth 100000 in
theorem implDecT_any (w : World) (v : Value) (ys : List Int) (h : Rd .u8 w v ys) (hby : Byt ys) (hl : ys.length ≤ 1048576) :
    Calls Tryd.prog 33 #[v] w fun e w' => DtPost w ys e w' := by
  obtain ⟨i0, hi, hz0, hz1, hz2⟩ := info_parts Tryd.infoN
  obtain ⟨ao, cap, rfl, -, -⟩ := h.len
  have D0 : Hid (TS w ys (((w.alloc (.cells #[.bool false, .slice none 0 0] 56)).alloc (.cells #[.slice ao ys.length cap] 99)).alloc (.cells #[.slice none 0 0] 30)) (.slice none 0 0) [] ys) := TS.start w ao ys cap h hby
  clear h hby
  have hm := hmf
  go_enter_defers Tryd.func33, Tryd.ntmps33
  go_wp2
  generalize (((w.alloc (.cells #[.bool false, .slice none 0 0] 56)).alloc (.cells #[.slice ao ys.length cap] 99)).alloc (.cells #[.slice none 0 0] 30)) = W0 at *
  go_loopw [9] (fun u9 wr => ∃ v ns r, Hid (TS w ys wr v ns r)) (fun _ wr => lenAt wr (w.heap.size + 1))
  case atStart => exact ⟨_, _, _, D0⟩
  case round =>
    clear D0
    obtain ⟨v, ns, r, D⟩ := hrel
    obtain ⟨va, vc, hva⟩ := D.out.2.2.2.2.2.2.slice
    subst hva
    go_wp2_with fail
    refine (done_any w wr (w.heap.size + 1) r D.out.2.2.2.1).mono ?_
    rintro e w1 ⟨rfl, rfl⟩
    by_cases hr : r = []
    · subst hr
      rw [show decide (([] : List Int) = []) = true from rfl]
      obtain ⟨t1, -, t3, -, ⟨tz, z0, z1, zf⟩, ⟨-, b0, -⟩, t7⟩ := D.out
      have HPD : Hid (pNs ys.length ys = some ns) := t1.done
      have HSZ : Hid (SzN ns) := t3
      have HON : Hid (OwnN 81 w1 (w.heap.size + 3) (.slice va ns.length vc) ns) := t7
      clear t1 t3 t7 z0 z1 zf
      go_wp2_with fail
      refine (implTree_any _ _ ns HON.out.rd HSZ.out.at).mono ?_
      rintro e w2 ⟨rfl, b2⟩
      have HON2 : Hid (OwnN 81 w2 (w.heap.size + 3) (.slice va ns.length vc) ns) := HON.out.below b2
      have HB2 : Hid (Below w.heap.size w w2) := D.out.below.trans (b2.mono D.out.below.size)
      obtain ⟨-, z0, z1, zf⟩ := D.out.2.2.2.2.1.turn (grown_of b2 none) (by simp)
      obtain ⟨-, d0, -⟩ := D.out.2.2.2.2.2.1.turn (grown_of b2 none) (by simp)
      have f0 := zf 0
      have f1 := zf 1
      clear b2 zf b0 HON
      by_cases hok : okTree ns = true
      · have HF : Hid (∀ W, W = (w2.setCell ⟨w.heap.size, 0, none⟩ (.bool true)).setCell ⟨w.heap.size, 1, none⟩ (.slice va ns.length vc) → DtPost w ys (.returned (.agg #[.bool true, .slice va ns.length vc])) W) := by
          rintro W rfl
          refine ⟨(HB2.out.setCell (p := ⟨w.heap.size, 0, none⟩) (Nat.le_refl _) _).setCell (p := ⟨w.heap.size, 1, none⟩) (Nat.le_refl _) _, .inr ⟨ns, _, ?_, rfl, ?_⟩⟩
          · unfold decT; rw [HPD.out]; simp only; rw [if_pos hok]
          · exact OwnN.mono (OwnN.setBelow (OwnN.setBelow HON2.out (by show w.heap.size < w.heap.size + 3; omega) _) (by show w.heap.size < w.heap.size + 3; omega) _) (by omega)
        rw [hok]
        clear hok
        go_wp2
        refine leaves_cons (f := 78) (args := #[]) (by simp) (by simp [go_sem]) ?_
        refine (catchT_idle _).mono ?_
        rintro e u' w3 ⟨rfl, rfl, rfl⟩
        simp [Leaves, settle, results, Tryd.results33, go_sem, z0, z1]
        exact HF.out _ rfl
      · have hok' : okTree ns = false := by simpa using hok
        have HF : Hid (∀ W, W = (w2.setCell ⟨w.heap.size, 0, none⟩ (.bool false)).setCell ⟨w.heap.size, 1, none⟩ (.slice none 0 0) → DtPost w ys (.returned (.agg #[.bool false, .slice none 0 0])) W) := by
          rintro W rfl
          refine ⟨(HB2.out.setCell (p := ⟨w.heap.size, 0, none⟩) (Nat.le_refl _) _).setCell (p := ⟨w.heap.size, 1, none⟩) (Nat.le_refl _) _, .inl ⟨?_, rfl⟩⟩
          unfold decT; rw [HPD.out]; simp only; rw [if_neg hok]
        rw [hok']
        clear hok hok'
        go_wp2
        refine leaves_cons (f := 78) (args := #[]) (by simp) (by simp [go_sem]) ?_
        refine (catchT_idle _).mono ?_
        rintro e u' w3 ⟨rfl, rfl, rfl⟩
        simp [Leaves, settle, results, Tryd.results33, go_sem, z0, z1]
        exact HF.out _ rfl
    · rw [decide_eq_false hr]
      have HBAD : Hid (rdNd r = none → ∀ W W', w1.drew.grownBy W (some (w.heap.size + 1)) → Below W.heap.size W W' → W'.cell? ⟨w.heap.size, 0, none⟩ = some (.bool false) ∧ W'.cell? ⟨w.heap.size, 1, none⟩ = some (.slice none 0 0) ∧ DtPost w ys (.returned (.agg #[.bool false, .slice none 0 0])) W') := by
        intro hp W W' hg hb
        have z := ((D.out.drewN 1).2.2.2.2.1.turn hg (by simp)).turn (grown_of hb none) (by simp)
        have hB : Below w.heap.size w W := (D.out.drewN 1).below.grown hg (D.out.drewN 1).below.size (fun q hq => by simp only [Option.some.injEq] at hq; omega)
        refine ⟨z.2.1, z.2.2.1, hB.trans (hb.mono hB.size), .inl ⟨?_, rfl⟩⟩
        unfold decT; rw [D.out.1.bad hr hp]
      have HNE : Hid (r ≠ []) := hr
      have HLE : Hid (ns.length + r.length ≤ ys.length) := by obtain ⟨f, -, -, h⟩ := D.out.1; exact h
      have hns : ns.length ≤ 1048576 := by have := HLE.out; omega
      clear hr
      have c0 := D.out.2.2.2.2.2.1.2.1
      cases hrd : rdNd r with
      | none =>
        have HRD : Hid (rdNd r = none) := hrd
        clear hrd
        go_wp2
        refine wp_region_held_drew (S := fun _ => True) (by kernel_rfl) trivial (fun hHeld => ?_)
        refine wpAnyH_ready (rs := [0, 2]) (by kernel_rfl) (by simp) ?_
        refine (AllReadyH.cons (o := { dst := some 11, op := _, type := _, pos := _, after := _, guard := _ }) rfl (fun K hK => ?_) (AllReadyH.cons (o := { dst := some 13, op := _, type := _, pos := _, after := _, guard := _ }) rfl (fun K hK => ?_) AllReadyH.nil))
        · go_simp
          refine hK.out _ _ trivial (fun hx9 => ?_)
          clear hK K hx9
          try simp only [Act.put, List.setIfInBounds_toArray, List.set_cons_zero, List.set_cons_succ]
          refine wpAnyH_ready (rs := [1, 2]) (by kernel_rfl) (by simp) ?_
          refine (AllReadyH.cons (o := { dst := some 12, op := _, type := _, pos := _, after := _, guard := _ }) rfl (fun K hK => ?_) (AllReadyH.cons (o := { dst := some 13, op := _, type := _, pos := _, after := _, guard := _ }) rfl (fun K hK => ?_) AllReadyH.nil))
          · go_simp
            refine hK.out _ _ trivial (fun hx9 => ?_)
            clear hK K hx9
            try simp only [Act.put, List.setIfInBounds_toArray, List.set_cons_zero, List.set_cons_succ]
            refine wpAnyH_ready (rs := [2]) (by kernel_rfl) (by simp) ?_
            refine (AllReadyH.cons (o := { dst := some 13, op := _, type := _, pos := _, after := _, guard := _ }) rfl (fun K hK => ?_) AllReadyH.nil)
            · go_simp
              refine hK.out _ _ trivial (fun hx9 => ?_)
              clear hK K hx9
              try simp only [Act.put, List.setIfInBounds_toArray, List.set_cons_zero, List.set_cons_succ]
              refine wpAnyH_ready (rs := [3]) (by kernel_rfl) (by simp) ?_
              refine (AllReadyH.cons (o := { dst := some 14, op := _, type := _, pos := _, after := _, guard := _ }) rfl (fun K hK => ?_) AllReadyH.nil)
              · go_simp
                refine (nodeImage_any w w1.drew (w.heap.size + 1) r (D.out.drewN 1).2.2.2.1 D.out.2.1).mono ?_
                rintro e W1 ⟨g1, hp⟩
                rcases hp with ⟨hp, rfl⟩ | ⟨n, r', hp, rfl, hr1⟩
                · refine leaves_cons (f := 78) (args := #[]) (by simp) (by simp [go_sem]) ?_
                  refine (catchT_bad [] _).mono ?_
                  rintro e u' w3 ⟨rfl, rfl, b3⟩
                  obtain ⟨z0, z1, hF⟩ := HBAD.out hp _ _ g1 b3
                  simp [Leaves, settle, results, Tryd.results33, go_sem, z0, z1]
                  exact hF
                · rw [HRD.out] at hp; cases hp
          · go_simp
            refine hK.out _ _ trivial (fun hx9 => ?_)
            clear hK K hx9
            try simp only [Act.put, List.setIfInBounds_toArray, List.set_cons_zero, List.set_cons_succ]
            refine wpAnyH_ready (rs := [1, 3]) (by kernel_rfl) (by simp) ?_
            refine (AllReadyH.cons (o := { dst := some 12, op := _, type := _, pos := _, after := _, guard := _ }) rfl (fun K hK => ?_) (AllReadyH.cons (o := { dst := some 14, op := _, type := _, pos := _, after := _, guard := _ }) rfl (fun K hK => ?_) AllReadyH.nil))
            · go_simp
              refine hK.out _ _ trivial (fun hx9 => ?_)
              clear hK K hx9
              try simp only [Act.put, List.setIfInBounds_toArray, List.set_cons_zero, List.set_cons_succ]
              refine wpAnyH_ready (rs := [3]) (by kernel_rfl) (by simp) ?_
              refine (AllReadyH.cons (o := { dst := some 14, op := _, type := _, pos := _, after := _, guard := _ }) rfl (fun K hK => ?_) AllReadyH.nil)
              · go_simp
                refine (nodeImage_any w w1.drew (w.heap.size + 1) r (D.out.drewN 1).2.2.2.1 D.out.2.1).mono ?_
                rintro e W1 ⟨g1, hp⟩
                rcases hp with ⟨hp, rfl⟩ | ⟨n, r', hp, rfl, hr1⟩
                · refine leaves_cons (f := 78) (args := #[]) (by simp) (by simp [go_sem]) ?_
                  refine (catchT_bad [] _).mono ?_
                  rintro e u' w3 ⟨rfl, rfl, b3⟩
                  obtain ⟨z0, z1, hF⟩ := HBAD.out hp _ _ g1 b3
                  simp [Leaves, settle, results, Tryd.results33, go_sem, z0, z1]
                  exact hF
                · rw [HRD.out] at hp; cases hp
            · go_simp
              refine (nodeImage_any w w1.drew (w.heap.size + 1) r (D.out.drewN 1).2.2.2.1 D.out.2.1).mono ?_
              rintro e W1 ⟨g1, hp⟩
              rcases hp with ⟨hp, rfl⟩ | ⟨n, r', hp, rfl, hr1⟩
              · refine leaves_cons (f := 78) (args := #[]) (by simp) (by simp [go_sem]) ?_
                refine (catchT_bad [] _).mono ?_
                rintro e u' w3 ⟨rfl, rfl, b3⟩
                obtain ⟨z0, z1, hF⟩ := HBAD.out hp _ _ g1 b3
                simp [Leaves, settle, results, Tryd.results33, go_sem, z0, z1]
                exact hF
              · rw [HRD.out] at hp; cases hp
        · go_simp
          refine hK.out _ _ trivial (fun hx9 => ?_)
          clear hK K hx9
          try simp only [Act.put, List.setIfInBounds_toArray, List.set_cons_zero, List.set_cons_succ]
          refine wpAnyH_ready (rs := [0, 3]) (by kernel_rfl) (by simp) ?_
          refine (AllReadyH.cons (o := { dst := some 11, op := _, type := _, pos := _, after := _, guard := _ }) rfl (fun K hK => ?_) (AllReadyH.cons (o := { dst := some 14, op := _, type := _, pos := _, after := _, guard := _ }) rfl (fun K hK => ?_) AllReadyH.nil))
          · go_simp
            refine hK.out _ _ trivial (fun hx9 => ?_)
            clear hK K hx9
            try simp only [Act.put, List.setIfInBounds_toArray, List.set_cons_zero, List.set_cons_succ]
            refine wpAnyH_ready (rs := [1, 3]) (by kernel_rfl) (by simp) ?_
            refine (AllReadyH.cons (o := { dst := some 12, op := _, type := _, pos := _, after := _, guard := _ }) rfl (fun K hK => ?_) (AllReadyH.cons (o := { dst := some 14, op := _, type := _, pos := _, after := _, guard := _ }) rfl (fun K hK => ?_) AllReadyH.nil))
            · go_simp
              refine hK.out _ _ trivial (fun hx9 => ?_)
              clear hK K hx9
              try simp only [Act.put, List.setIfInBounds_toArray, List.set_cons_zero, List.set_cons_succ]
              refine wpAnyH_ready (rs := [3]) (by kernel_rfl) (by simp) ?_
              refine (AllReadyH.cons (o := { dst := some 14, op := _, type := _, pos := _, after := _, guard := _ }) rfl (fun K hK => ?_) AllReadyH.nil)
              · go_simp
                refine (nodeImage_any w w1.drew (w.heap.size + 1) r (D.out.drewN 1).2.2.2.1 D.out.2.1).mono ?_
                rintro e W1 ⟨g1, hp⟩
                rcases hp with ⟨hp, rfl⟩ | ⟨n, r', hp, rfl, hr1⟩
                · refine leaves_cons (f := 78) (args := #[]) (by simp) (by simp [go_sem]) ?_
                  refine (catchT_bad [] _).mono ?_
                  rintro e u' w3 ⟨rfl, rfl, b3⟩
                  obtain ⟨z0, z1, hF⟩ := HBAD.out hp _ _ g1 b3
                  simp [Leaves, settle, results, Tryd.results33, go_sem, z0, z1]
                  exact hF
                · rw [HRD.out] at hp; cases hp
            · go_simp
              refine (nodeImage_any w w1.drew (w.heap.size + 1) r (D.out.drewN 1).2.2.2.1 D.out.2.1).mono ?_
              rintro e W1 ⟨g1, hp⟩
              rcases hp with ⟨hp, rfl⟩ | ⟨n, r', hp, rfl, hr1⟩
              · refine leaves_cons (f := 78) (args := #[]) (by simp) (by simp [go_sem]) ?_
                refine (catchT_bad [] _).mono ?_
                rintro e u' w3 ⟨rfl, rfl, b3⟩
                obtain ⟨z0, z1, hF⟩ := HBAD.out hp _ _ g1 b3
                simp [Leaves, settle, results, Tryd.results33, go_sem, z0, z1]
                exact hF
              · rw [HRD.out] at hp; cases hp
          · go_simp
            refine (nodeImage_any w w1.drew (w.heap.size + 1) r (D.out.drewN 1).2.2.2.1 D.out.2.1).mono ?_
            rintro e W1 ⟨g1, hp⟩
            rcases hp with ⟨hp, rfl⟩ | ⟨n, r', hp, rfl, hr1⟩
            · refine leaves_cons (f := 78) (args := #[]) (by simp) (by simp [go_sem]) ?_
              refine (catchT_bad [] _).mono ?_
              rintro e u' w3 ⟨rfl, rfl, b3⟩
              obtain ⟨z0, z1, hF⟩ := HBAD.out hp _ _ g1 b3
              simp [Leaves, settle, results, Tryd.results33, go_sem, z0, z1]
              exact hF
            · rw [HRD.out] at hp; cases hp
      | some q =>
        obtain ⟨n0, r0⟩ := q
        have HRD : Hid (rdNd r = some (n0, r0)) := hrd
        clear hrd
        go_wp2
        refine wp_region_noPanic ?_
        refine wp_region_held_drew (S := fun _ => True) (by kernel_rfl) (trivial) (fun hHeld => ?_)
        refine wpAnyH_take (i := 0) (oi := { dst := some 11, op := _, type := _, pos := _, after := _, guard := _ }) (v := (.pointer (some ⟨w.heap.size + 1 + 1, 0, none⟩))) rfl (by kernel_rfl) (by kernel_rfl) (by kernel_rfl) (fun _ _ _ h => h) (Or.inl ⟨by rfl, ?hy1⟩) (by assumption) ?rest1
        case hy1 =>
          intro w9 hS9
          go_simp
          try with_reducible rfl
        try simp only [Act.put, List.setIfInBounds_toArray, List.set_cons_zero, List.set_cons_succ]
        refine wpAnyH_take (i := 2) (oi := { dst := some 13, op := _, type := _, pos := _, after := _, guard := _ }) (v := (.pointer (some ⟨w.heap.size + 1, 0, none⟩))) rfl (by kernel_rfl) (by kernel_rfl) (by kernel_rfl) (fun _ _ _ h => h) (Or.inl ⟨by rfl, ?hy2⟩) (by assumption) ?rest2
        case hy2 =>
          intro w9 hS9
          go_simp
          try with_reducible rfl
        try simp only [Act.put, List.setIfInBounds_toArray, List.set_cons_zero, List.set_cons_succ]
        refine wpAnyH_ready (rs := [1, 3]) (by kernel_rfl) (by simp) ?_
        refine AllReadyH.cons (o := { dst := some 12, op := _, type := _, pos := _, after := _, guard := _ }) rfl (fun K hK => ?_) (AllReadyH.cons (o := { dst := some 14, op := _, type := _, pos := _, after := _, guard := _ }) rfl (fun K hK => ?_) AllReadyH.nil)
        · go_simp
          refine hK.out _ _ trivial (fun hx9 => ?_)
          clear hK K hx9
          try simp only [Act.put, List.setIfInBounds_toArray, List.set_cons_zero, List.set_cons_succ]
          refine wpAnyH_ready (rs := [3]) (by kernel_rfl) (by simp) ?_
          refine AllReadyH.cons (o := { dst := some 14, op := _, type := _, pos := _, after := _, guard := _ }) rfl (fun K hK => ?_) AllReadyH.nil
          go_simp
          refine (nodeImage_any w w1.drew (w.heap.size + 1) r (D.out.drewN 1).2.2.2.1 D.out.2.1).mono ?_
          rintro e W1 ⟨g1, hp⟩
          rcases hp with ⟨hp, rfl⟩ | ⟨n, r', hp, rfl, hr1⟩
          · rw [HRD.out] at hp; cases hp
          have T1 : Hid (TR w ys W1 (.slice va ns.length vc) ns n r') := (D.out.drewN 1).read g1 hp hr1
          have HLT : Hid (r'.length < r.length) := (rdNd_byt hp D.out.2.1).2.1
          have c1 := T1.out.2.2.2.2.2.1.2.1
          clear g1 hp hr1
          refine hK.out _ _ trivial (fun hx9 => ?_)
          clear hK K hx9
          try simp only [Act.put, List.setIfInBounds_toArray, List.set_cons_zero, List.set_cons_succ]
          refine wpAnyH_take (i := 4) (oi := { dst := some 15, op := _, type := _, pos := _, after := _, guard := _ }) (v := (ndV n)) rfl (by kernel_rfl) (by kernel_rfl) (by kernel_rfl) (fun _ _ _ h => h) (Or.inl ⟨by rfl, ?hy3⟩) (by assumption) ?rest3
          case hy3 =>
            intro w9 hS9
            unfold ndV
            have hfd := field_node n w9
            go_simp
          try simp only [Act.put, List.setIfInBounds_toArray, List.set_cons_zero, List.set_cons_succ]
          refine wpAnyH_ready (rs := [5]) (by kernel_rfl) (by simp) ?_
          refine AllReadyH.cons (o := { dst := some 16, op := _, type := _, pos := _, after := _, guard := _ }) rfl (fun K hK => ?_) AllReadyH.nil
          unfold ndV
          go_simp
          have T2 : Hid (TR w ys (W1.alloc (.cells #[.string n.path, .string n.data, .int .i64 n.ver, .int .i64 n.cver, .int .i64 n.cz, .int .i64 n.mz, .int .i64 n.pz] 81)) (.slice va ns.length vc) ns n r') := T1.out.alloc _
          have NC : Hid (∀ j u, (ndL n)[j]? = some u → (W1.alloc (.cells #[.string n.path, .string n.data, .int .i64 n.ver, .int .i64 n.cver, .int .i64 n.cz, .int .i64 n.mz, .int .i64 n.pz] 81)).cell? ((⟨W1.heap.size, 0, none⟩ : Addr).add j) = some u) := ndL_cells _ _ _
          refine hK.out _ _ trivial (fun hx9 => ?_)
          clear hK K hx9 c1
          generalize W1.alloc (.cells #[.string n.path, .string n.data, .int .i64 n.ver, .int .i64 n.cver, .int .i64 n.cz, .int .i64 n.mz, .int .i64 n.pz] 81) = W2 at *
          generalize W1.heap.size = G1 at *
          have c1 := T2.out.2.2.2.2.2.1.2.1
          try simp only [Act.put, List.setIfInBounds_toArray, List.set_cons_zero, List.set_cons_succ]
          refine wpAnyH_ready (rs := [6]) (by kernel_rfl) (by simp) ?_
          refine AllReadyH.cons (o := { dst := some 17, op := _, type := _, pos := _, after := _, guard := _ }) rfl (fun K hK => ?_) AllReadyH.nil
          refine step_append rfl (.tmp 12) (.tmp 16) 28 rfl (w.heap.size + 3) 81 i0 (.agg #[.string ByteArray.empty, .string ByteArray.empty, .int .i64 0, .int .i64 0, .int .i64 0, .int .i64 0, .int .i64 0]) 7 72 Tryd.underlying28 hi hz0 hz1 hz2 rfl (by decide) (.slice va ns.length vc) ns.length _ rfl T2.out.2.2.2.2.2.2 ⟨G1, 0, none⟩ 1 1 (ndL n) rfl rfl NC.out (ndL_one n) (by unfold maxLen; omega) (by omega) (by have := T2.out.2.2.2.2.2.1.1; omega) ?_
          intro v3 W3 ho3 hg3
          have D3 : Hid (TS w ys (W3.setCell ⟨w.heap.size + 1 + 1, 0, none⟩ v3) v3 (ns ++ [n]) r') := T2.out.push hg3 ho3
          obtain ⟨a3, q3, hv3⟩ := D3.out.2.2.2.2.2.2.slice
          rw [show (ns ++ [n]).length = ns.length + 1 by simp] at hv3
          subst hv3
          obtain ⟨-, c3, f3⟩ := T2.out.2.2.2.2.2.1.turn hg3 (fun e => by have := (World.ownsRow.lt T2.out.2.2.2.2.2.2 _ e.symm).1; omega)
          clear ho3 hg3
          refine hK.out _ _ trivial (fun hx9 => ?_)
          clear hK K hx9
          try simp only [Act.put, List.setIfInBounds_toArray, List.set_cons_zero, List.set_cons_succ]
          refine wpAnyH_take (i := 7) (oi := { dst := some 18, op := _, type := _, pos := _, after := _, guard := _ }) (v := (.pointer (some ⟨w.heap.size + 1 + 1, 0, none⟩))) rfl (by kernel_rfl) (by kernel_rfl) (by kernel_rfl) (fun _ _ _ h => h) (Or.inl ⟨by rfl, ?hy4⟩) (by assumption) ?rest4
          case hy4 =>
            intro w9 hS9
            go_simp
            try with_reducible rfl
          try simp only [Act.put, List.setIfInBounds_toArray, List.set_cons_zero, List.set_cons_succ]
          refine wpAnyH_ready (rs := [8]) (by kernel_rfl) (by simp) ?_
          refine AllReadyH.cons (o := { dst := none, op := _, type := _, pos := _, after := _, guard := _ }) rfl (fun K hK => ?_) AllReadyH.nil
          go_simp
          refine hK.out _ _ trivial (fun hx9 => ?_)
          clear hK K hx9
          try simp only [Act.put, List.setIfInBounds_toArray, List.set_cons_zero, List.set_cons_succ]
          refine wpAnyH_done (by kernel_rfl) (NoPanic.normal ?_) _
          clear c0 c1 c3 f3 hHeld
          go_wp2
          refine ⟨⟨_, _, _, D3⟩, ?_⟩
          rw [D3.out.2.2.2.1.lenAt, D.out.2.2.2.1.lenAt]
          exact HLT.out
        · go_simp
          refine (nodeImage_any w w1.drew (w.heap.size + 1) r (D.out.drewN 1).2.2.2.1 D.out.2.1).mono ?_
          rintro e W1 ⟨g1, hp⟩
          rcases hp with ⟨hp, rfl⟩ | ⟨n, r', hp, rfl, hr1⟩
          · rw [HRD.out] at hp; cases hp
          have T1 : Hid (TR w ys W1 (.slice va ns.length vc) ns n r') := (D.out.drewN 1).read g1 hp hr1
          have HLT : Hid (r'.length < r.length) := (rdNd_byt hp D.out.2.1).2.1
          have c1 := T1.out.2.2.2.2.2.1.2.1
          clear g1 hp hr1
          refine hK.out _ _ trivial (fun hx9 => ?_)
          clear hK K hx9
          try simp only [Act.put, List.setIfInBounds_toArray, List.set_cons_zero, List.set_cons_succ]
          refine wpAnyH_take (i := 4) (oi := { dst := some 15, op := _, type := _, pos := _, after := _, guard := _ }) (v := (ndV n)) rfl (by kernel_rfl) (by kernel_rfl) (by kernel_rfl) (fun _ _ _ h => h) (Or.inl ⟨by rfl, ?hy5⟩) (by assumption) ?rest5
          case hy5 =>
            intro w9 hS9
            unfold ndV
            have hfd := field_node n w9
            go_simp
          try simp only [Act.put, List.setIfInBounds_toArray, List.set_cons_zero, List.set_cons_succ]
          refine wpAnyH_ready (rs := [1, 5]) (by kernel_rfl) (by simp) ?_
          refine AllReadyH.cons (o := { dst := some 12, op := _, type := _, pos := _, after := _, guard := _ }) rfl (fun K hK => ?_) (AllReadyH.cons (o := { dst := some 16, op := _, type := _, pos := _, after := _, guard := _ }) rfl (fun K hK => ?_) AllReadyH.nil)
          · go_simp
            refine hK.out _ _ trivial (fun hx9 => ?_)
            clear hK K hx9
            try simp only [Act.put, List.setIfInBounds_toArray, List.set_cons_zero, List.set_cons_succ]
            refine wpAnyH_ready (rs := [5]) (by kernel_rfl) (by simp) ?_
            refine AllReadyH.cons (o := { dst := some 16, op := _, type := _, pos := _, after := _, guard := _ }) rfl (fun K hK => ?_) AllReadyH.nil
            unfold ndV
            go_simp
            have T2 : Hid (TR w ys (W1.alloc (.cells #[.string n.path, .string n.data, .int .i64 n.ver, .int .i64 n.cver, .int .i64 n.cz, .int .i64 n.mz, .int .i64 n.pz] 81)) (.slice va ns.length vc) ns n r') := T1.out.alloc _
            have NC : Hid (∀ j u, (ndL n)[j]? = some u → (W1.alloc (.cells #[.string n.path, .string n.data, .int .i64 n.ver, .int .i64 n.cver, .int .i64 n.cz, .int .i64 n.mz, .int .i64 n.pz] 81)).cell? ((⟨W1.heap.size, 0, none⟩ : Addr).add j) = some u) := ndL_cells _ _ _
            refine hK.out _ _ trivial (fun hx9 => ?_)
            clear hK K hx9 c1
            generalize W1.alloc (.cells #[.string n.path, .string n.data, .int .i64 n.ver, .int .i64 n.cver, .int .i64 n.cz, .int .i64 n.mz, .int .i64 n.pz] 81) = W2 at *
            generalize W1.heap.size = G1 at *
            have c1 := T2.out.2.2.2.2.2.1.2.1
            try simp only [Act.put, List.setIfInBounds_toArray, List.set_cons_zero, List.set_cons_succ]
            refine wpAnyH_ready (rs := [6]) (by kernel_rfl) (by simp) ?_
            refine AllReadyH.cons (o := { dst := some 17, op := _, type := _, pos := _, after := _, guard := _ }) rfl (fun K hK => ?_) AllReadyH.nil
            refine step_append rfl (.tmp 12) (.tmp 16) 28 rfl (w.heap.size + 3) 81 i0 (.agg #[.string ByteArray.empty, .string ByteArray.empty, .int .i64 0, .int .i64 0, .int .i64 0, .int .i64 0, .int .i64 0]) 7 72 Tryd.underlying28 hi hz0 hz1 hz2 rfl (by decide) (.slice va ns.length vc) ns.length _ rfl T2.out.2.2.2.2.2.2 ⟨G1, 0, none⟩ 1 1 (ndL n) rfl rfl NC.out (ndL_one n) (by unfold maxLen; omega) (by omega) (by have := T2.out.2.2.2.2.2.1.1; omega) ?_
            intro v3 W3 ho3 hg3
            have D3 : Hid (TS w ys (W3.setCell ⟨w.heap.size + 1 + 1, 0, none⟩ v3) v3 (ns ++ [n]) r') := T2.out.push hg3 ho3
            obtain ⟨a3, q3, hv3⟩ := D3.out.2.2.2.2.2.2.slice
            rw [show (ns ++ [n]).length = ns.length + 1 by simp] at hv3
            subst hv3
            obtain ⟨-, c3, f3⟩ := T2.out.2.2.2.2.2.1.turn hg3 (fun e => by have := (World.ownsRow.lt T2.out.2.2.2.2.2.2 _ e.symm).1; omega)
            clear ho3 hg3
            refine hK.out _ _ trivial (fun hx9 => ?_)
            clear hK K hx9
            try simp only [Act.put, List.setIfInBounds_toArray, List.set_cons_zero, List.set_cons_succ]
            refine wpAnyH_take (i := 7) (oi := { dst := some 18, op := _, type := _, pos := _, after := _, guard := _ }) (v := (.pointer (some ⟨w.heap.size + 1 + 1, 0, none⟩))) rfl (by kernel_rfl) (by kernel_rfl) (by kernel_rfl) (fun _ _ _ h => h) (Or.inl ⟨by rfl, ?hy6⟩) (by assumption) ?rest6
            case hy6 =>
              intro w9 hS9
              go_simp
              try with_reducible rfl
            try simp only [Act.put, List.setIfInBounds_toArray, List.set_cons_zero, List.set_cons_succ]
            refine wpAnyH_ready (rs := [8]) (by kernel_rfl) (by simp) ?_
            refine AllReadyH.cons (o := { dst := none, op := _, type := _, pos := _, after := _, guard := _ }) rfl (fun K hK => ?_) AllReadyH.nil
            go_simp
            refine hK.out _ _ trivial (fun hx9 => ?_)
            clear hK K hx9
            try simp only [Act.put, List.setIfInBounds_toArray, List.set_cons_zero, List.set_cons_succ]
            refine wpAnyH_done (by kernel_rfl) (NoPanic.normal ?_) _
            clear c0 c1 c3 f3 hHeld
            go_wp2
            refine ⟨⟨_, _, _, D3⟩, ?_⟩
            rw [D3.out.2.2.2.1.lenAt, D.out.2.2.2.1.lenAt]
            exact HLT.out
          · unfold ndV
            go_simp
            have T2 : Hid (TR w ys (W1.alloc (.cells #[.string n.path, .string n.data, .int .i64 n.ver, .int .i64 n.cver, .int .i64 n.cz, .int .i64 n.mz, .int .i64 n.pz] 81)) (.slice va ns.length vc) ns n r') := T1.out.alloc _
            have NC : Hid (∀ j u, (ndL n)[j]? = some u → (W1.alloc (.cells #[.string n.path, .string n.data, .int .i64 n.ver, .int .i64 n.cver, .int .i64 n.cz, .int .i64 n.mz, .int .i64 n.pz] 81)).cell? ((⟨W1.heap.size, 0, none⟩ : Addr).add j) = some u) := ndL_cells _ _ _
            refine hK.out _ _ trivial (fun hx9 => ?_)
            clear hK K hx9 c1
            generalize W1.alloc (.cells #[.string n.path, .string n.data, .int .i64 n.ver, .int .i64 n.cver, .int .i64 n.cz, .int .i64 n.mz, .int .i64 n.pz] 81) = W2 at *
            generalize W1.heap.size = G1 at *
            have c1 := T2.out.2.2.2.2.2.1.2.1
            try simp only [Act.put, List.setIfInBounds_toArray, List.set_cons_zero, List.set_cons_succ]
            refine wpAnyH_ready (rs := [1]) (by kernel_rfl) (by simp) ?_
            refine AllReadyH.cons (o := { dst := some 12, op := _, type := _, pos := _, after := _, guard := _ }) rfl (fun K hK => ?_) AllReadyH.nil
            go_simp
            refine hK.out _ _ trivial (fun hx9 => ?_)
            clear hK K hx9
            try simp only [Act.put, List.setIfInBounds_toArray, List.set_cons_zero, List.set_cons_succ]
            refine wpAnyH_ready (rs := [6]) (by kernel_rfl) (by simp) ?_
            refine AllReadyH.cons (o := { dst := some 17, op := _, type := _, pos := _, after := _, guard := _ }) rfl (fun K hK => ?_) AllReadyH.nil
            refine step_append rfl (.tmp 12) (.tmp 16) 28 rfl (w.heap.size + 3) 81 i0 (.agg #[.string ByteArray.empty, .string ByteArray.empty, .int .i64 0, .int .i64 0, .int .i64 0, .int .i64 0, .int .i64 0]) 7 72 Tryd.underlying28 hi hz0 hz1 hz2 rfl (by decide) (.slice va ns.length vc) ns.length _ rfl T2.out.2.2.2.2.2.2 ⟨G1, 0, none⟩ 1 1 (ndL n) rfl rfl NC.out (ndL_one n) (by unfold maxLen; omega) (by omega) (by have := T2.out.2.2.2.2.2.1.1; omega) ?_
            intro v3 W3 ho3 hg3
            have D3 : Hid (TS w ys (W3.setCell ⟨w.heap.size + 1 + 1, 0, none⟩ v3) v3 (ns ++ [n]) r') := T2.out.push hg3 ho3
            obtain ⟨a3, q3, hv3⟩ := D3.out.2.2.2.2.2.2.slice
            rw [show (ns ++ [n]).length = ns.length + 1 by simp] at hv3
            subst hv3
            obtain ⟨-, c3, f3⟩ := T2.out.2.2.2.2.2.1.turn hg3 (fun e => by have := (World.ownsRow.lt T2.out.2.2.2.2.2.2 _ e.symm).1; omega)
            clear ho3 hg3
            refine hK.out _ _ trivial (fun hx9 => ?_)
            clear hK K hx9
            try simp only [Act.put, List.setIfInBounds_toArray, List.set_cons_zero, List.set_cons_succ]
            refine wpAnyH_take (i := 7) (oi := { dst := some 18, op := _, type := _, pos := _, after := _, guard := _ }) (v := (.pointer (some ⟨w.heap.size + 1 + 1, 0, none⟩))) rfl (by kernel_rfl) (by kernel_rfl) (by kernel_rfl) (fun _ _ _ h => h) (Or.inl ⟨by rfl, ?hy7⟩) (by assumption) ?rest7
            case hy7 =>
              intro w9 hS9
              go_simp
              try with_reducible rfl
            try simp only [Act.put, List.setIfInBounds_toArray, List.set_cons_zero, List.set_cons_succ]
            refine wpAnyH_ready (rs := [8]) (by kernel_rfl) (by simp) ?_
            refine AllReadyH.cons (o := { dst := none, op := _, type := _, pos := _, after := _, guard := _ }) rfl (fun K hK => ?_) AllReadyH.nil
            go_simp
            refine hK.out _ _ trivial (fun hx9 => ?_)
            clear hK K hx9
            try simp only [Act.put, List.setIfInBounds_toArray, List.set_cons_zero, List.set_cons_succ]
            refine wpAnyH_done (by kernel_rfl) (NoPanic.normal ?_) _
            clear c0 c1 c3 f3 hHeld
            go_wp2
            refine ⟨⟨_, _, _, D3⟩, ?_⟩
            rw [D3.out.2.2.2.1.lenAt, D.out.2.2.2.1.lenAt]
            exact HLT.out

end Go.Proofs.YtgjenbgclpmjmaaDoor

namespace Go.Proofs.YtgjenbgclpmjmaaDoor
open Go.RowKit

/-- The way of spec.DecodeTree. -/
def SS (w : World) (ys : List Int) (W : World) (v : Value) (ns : List Nd) (p : Nat) : Prop :=
  Par ys ns (ys.drop p) ∧ SzN ns ∧ Below w.heap.size w W ∧ Zt W w.heap.size ∧ B1 W (w.heap.size + 1) v ∧ OwnN 81 W (w.heap.size + 2) v ns
theorem SS.later {w W W' : World} {ys : List Int} {v : Value} {ns : List Nd} {p : Nat} (h : SS w ys W v ns p) (hb : Below W.heap.size W W') : SS w ys W' v ns p := by
  obtain ⟨t1, t2, t3, t4, t5, t6⟩ := h
  exact ⟨t1, t2, t3.trans (hb.mono t3.size), t4.turn (grown_of hb none) (by simp), t5.turn (grown_of hb none) (by simp), t6.below hb⟩
theorem SS.push {w W W3 : World} {ys : List Int} {v v3 : Value} {ns : List Nd} {p q : Nat} {n : Nd} (h : SS w ys W v ns p) (hb : Byt ys) (hr : rdNd (ys.drop p) = some (n, ys.drop q)) (hg : W.grownBy W3 v.ownBlock) (ho : W3.ownsRow (w.heap.size + 2) 81 7 v3 (ns.length + 1) (nrow ns ++ ndL n)) :
    SS w ys (W3.setCell ⟨w.heap.size + 1, 0, none⟩ v3) v3 (ns ++ [n]) q := by
  obtain ⟨t1, t2, t3, t4, t5, t6⟩ := h
  have hne : ∀ k, k < w.heap.size + 2 → some k ≠ v.ownBlock := fun k hk e => by have := (World.ownsRow.lt t6 k e.symm).1; omega
  have hlo : ∀ g, v.ownBlock = some g → w.heap.size ≤ g := fun g e => by have := (World.ownsRow.lt t6 g e).1; omega
  have b6 := t5.turn hg (hne _ (by omega))
  have hby := byt_drop hb p
  have hsz := rdNd_byt hr hby
  refine ⟨t1.step hby hr, ?_, (t3.grown hg t3.size hlo).setCell (p := ⟨w.heap.size + 1, 0, none⟩) (Nat.le_succ _) _, (t4.turn hg (hne _ (by omega))).set (by omega) _ _, ⟨by simpa using b6.1, World.cell?_setCell_same _ _ _ b6.2.1, by rw [World.frozen?_setCell]; exact b6.2.2⟩, ?_⟩
  · intro m hm
    rcases List.mem_append.1 hm with hm | hm
    · exact t2 m hm
    · simp at hm; subst hm; exact hsz.2.2
  · have : OwnN 81 W3 (w.heap.size + 2) v3 (ns ++ [n]) := by unfold OwnN; rw [nrow_one, List.length_append]; exact ho
    exact OwnN.setBelow this (by show w.heap.size + 1 < w.heap.size + 2; omega) _

set_option maxHeartbeats 4000000 in
set_option maxRecDepth 100000 in
theorem specDecT_any (w : World) (v : Value) (ys : List Int) (h : Rd .u8 w v ys) (hby : Byt ys) (hl : ys.length ≤ 1048576) :
    Calls Tryd.prog 32 #[v] w fun e w' => DtPost w ys e w' := by
  obtain ⟨i0, hi, hz0, hz1, hz2⟩ := info_parts Tryd.infoN
  obtain ⟨ao, cap, rfl, -, -⟩ := h.len
  have HR : Hid (Rd .u8 w (.slice ao ys.length cap) ys) := h
  have HBY : Hid (Byt ys) := hby
  have S0 : Hid (SS w ys ((w.alloc (.cells #[.bool false, .slice none 0 0] 56)).alloc (.cells #[.slice none 0 0] 30)) (.slice none 0 0) [] 0) := by
    refine ⟨by rw [List.drop_zero]; exact Par.start ys, (fun n hn => by cases hn), ((Below.refl _ _).alloc (Nat.le_refl _) _).alloc (by simp) _, ⟨by simp; omega, (by go_simp), (by go_simp), fun j => (by go_simp)⟩, ⟨by simp, (by go_simp), (by go_simp)⟩, World.ownsRow_nil _ _ _ _⟩
  clear h hby
  go_enter Tryd.func32, Tryd.ntmps32
  go_wp2
  generalize (w.alloc (.cells #[.bool false, .slice none 0 0] 56)).alloc (.cells #[.slice none 0 0] 30) = W0 at *
  go_loopw [4] (fun va wr => ∃ p v ns, va = .int .i64 (p : Nat) ∧ p ≤ ys.length ∧ Hid (SS w ys wr v ns p)) (fun i _ => ys.length - (intOf i).toNat)
  case atStart => exact ⟨0, _, _, rfl, Nat.zero_le _, S0⟩
  case round =>
    clear S0
    obtain ⟨p, v, ns, rfl, hp, D⟩ := hrel
    obtain ⟨va, vc, hva⟩ := D.out.2.2.2.2.2.slice
    subst hva
    by_cases hlt : p < ys.length
    · have hltI : (p : Int) < (ys.length : Int) := by omega
      have HNE : Hid (ys.drop p ≠ []) := fun e => by have := congrArg List.length e; rw [List.length_drop] at this; simp at this; omega
      have hns : ns.length ≤ 1048576 := by obtain ⟨f, -, -, h⟩ := D.out.1; omega
      go_wp2_with fail
      refine (rN_any wr _ ys p (HR.out.below D.out.2.2.1) HBY.out hl).mono ?_
      rintro e w1 ⟨b1, hpp⟩
      have D1 : Hid (SS w ys w1 (.slice va ns.length vc) ns p) := D.out.later b1
      clear b1 D
      rcases hpp with ⟨hr, rfl⟩ | ⟨n, q, hr, hpq, hq, rfl⟩
      · have HNO : Hid (decT ys = none) := by show _ = _; unfold decT; rw [D1.out.1.bad HNE.out hr]
        clear hr
        obtain ⟨-, z0, z1, zf⟩ := D1.out.2.2.2.1
        have f0 := zf 0
        have f1 := zf 1
        have zl := D1.out.2.2.2.1.1
        clear zf
        unfold ndV nd0
        have E : ∀ (j : Nat) (ob : Obj), (((w1.setCell ⟨w.heap.size, 0, none⟩ (.bool false)).setCell ⟨w.heap.size, 1, none⟩ (.slice none 0 0)).alloc ob).cell? ⟨w.heap.size, j, none⟩ = ((w1.setCell ⟨w.heap.size, 0, none⟩ (.bool false)).setCell ⟨w.heap.size, 1, none⟩ (.slice none 0 0)).cell? ⟨w.heap.size, j, none⟩ :=
          fun j ob => ((Below.refl _ _).alloc (Nat.le_refl _) ob).cell (p := ⟨w.heap.size, j, none⟩) (by simpa using zl)
        have E0 : ((w1.setCell ⟨w.heap.size, 0, none⟩ (.bool false)).setCell ⟨w.heap.size, 1, none⟩ (.slice none 0 0)).cell? ⟨w.heap.size, 0, none⟩ = some (.bool false) := by
          rw [World.cell?_setCell_other _ _ _ _ (by intro e; injection e with _ e; omega)]; exact World.cell?_setCell_same _ _ _ z0
        have E1 : ((w1.setCell ⟨w.heap.size, 0, none⟩ (.bool false)).setCell ⟨w.heap.size, 1, none⟩ (.slice none 0 0)).cell? ⟨w.heap.size, 1, none⟩ = some (.slice none 0 0) :=
          World.cell?_setCell_same _ _ _ ((World.cell?_setCell_other _ _ _ _ (by intro e; injection e with _ e; omega)).trans z1)
        have HE : Hid (∀ ob : Obj, (((w1.setCell ⟨w.heap.size, 0, none⟩ (.bool false)).setCell ⟨w.heap.size, 1, none⟩ (.slice none 0 0)).alloc ob).cell? ⟨w.heap.size, 0, none⟩ = some (.bool false) ∧ (((w1.setCell ⟨w.heap.size, 0, none⟩ (.bool false)).setCell ⟨w.heap.size, 1, none⟩ (.slice none 0 0)).alloc ob).cell? ⟨w.heap.size, 1, none⟩ = some (.slice none 0 0)) := fun ob => ⟨(E 0 ob).trans E0, (E 1 ob).trans E1⟩
        clear E E0 E1
        go_wp2
        refine bodyPost_ret (v := .agg #[.bool false, .slice none 0 0]) (by simp [results, Tryd.results32, go_sem, (HE.out _).1, (HE.out _).2]) rfl ⟨((D1.out.2.2.1.setCell (p := ⟨w.heap.size, 0, none⟩) (Nat.le_refl _) _).setCell (p := ⟨w.heap.size, 1, none⟩) (Nat.le_refl _) _).alloc (by simp; omega) _, .inl ⟨HNO.out, rfl⟩⟩
      · have HRD : Hid (rdNd (ys.drop p) = some (n, ys.drop q)) := hr
        have D2 : Hid (SS w ys (w1.alloc (.cells #[.string n.path, .string n.data, .int .i64 n.ver, .int .i64 n.cver, .int .i64 n.cz, .int .i64 n.mz, .int .i64 n.pz] 81)) (.slice va ns.length vc) ns p) := D1.out.later ((Below.refl _ _).alloc (Nat.le_refl _) _)
        have D3 : Hid (SS w ys ((w1.alloc (.cells #[.string n.path, .string n.data, .int .i64 n.ver, .int .i64 n.cver, .int .i64 n.cz, .int .i64 n.mz, .int .i64 n.pz] 81)).alloc (.cells #[.string n.path, .string n.data, .int .i64 n.ver, .int .i64 n.cver, .int .i64 n.cz, .int .i64 n.mz, .int .i64 n.pz] 81)) (.slice va ns.length vc) ns p) := D2.out.later ((Below.refl _ _).alloc (Nat.le_refl _) _)
        obtain ⟨zt, c0, -⟩ := D1.out.2.2.2.2.1
        clear hr
        unfold ndV
        have hqI : ¬ (q : Int) < 0 := by omega
        go_wp2_with (at_builtin; go_must (refine wpList_append_own _ rfl _ _ 28 rfl (w.heap.size + 2) 81 i0 (.agg #[.string ByteArray.empty, .string ByteArray.empty, .int .i64 0, .int .i64 0, .int .i64 0, .int .i64 0, .int .i64 0]) 7 72 Tryd.underlying28 hi hz0 hz1 hz2 rfl (by decide) _ _ _ rfl D3.out.2.2.2.2.2 ⟨w1.heap.size + 1, 0, none⟩ 1 1 (ndL n) rfl rfl ?n1 (ndL_one n) ?n2 ?n3 ?n4 ?_))
        case n1 =>
          have := ndL_cells (w1.alloc (.cells #[.string n.path, .string n.data, .int .i64 n.ver, .int .i64 n.cver, .int .i64 n.cz, .int .i64 n.mz, .int .i64 n.pz] 81)) n 81
          rw [show (w1.alloc (.cells #[.string n.path, .string n.data, .int .i64 n.ver, .int .i64 n.cver, .int .i64 n.cz, .int .i64 n.mz, .int .i64 n.pz] 81)).heap.size = w1.heap.size + 1 by simp] at this
          exact this
        case n2 => unfold maxLen; omega
        case n3 => omega
        case n4 => simp; omega
        intro v3 W3 ho3 hg3 _
        have D4 : Hid (SS w ys (W3.setCell ⟨w.heap.size + 1, 0, none⟩ v3) v3 (ns ++ [n]) q) := D3.out.push HBY.out HRD.out hg3 ho3
        obtain ⟨a3, q3, hv3⟩ := D4.out.2.2.2.2.2.slice
        rw [show (ns ++ [n]).length = ns.length + 1 by simp] at hv3
        subst hv3
        obtain ⟨-, c3, f3⟩ := D3.out.2.2.2.2.1.turn hg3 (fun e => by have := (World.ownsRow.lt D3.out.2.2.2.2.2 _ e.symm).1; omega)
        clear ho3 hg3 c0 D1 D2 D3 HRD
        go_wp2
        exact ⟨⟨q, _, _, rfl, hq, D4⟩, by simp [intOf]; omega⟩
    · have hpn : ys.drop p = [] := List.drop_eq_nil_of_le (by omega)
      obtain ⟨t1, t2, t3, t4, ⟨-, b0, -⟩, t6⟩ := D.out
      rw [hpn] at t1
      have HPD : Hid (pNs ys.length ys = some ns) := t1.done
      have HSZ : Hid (SzN ns) := t2
      have HON : Hid (OwnN 81 wr (w.heap.size + 2) (.slice va ns.length vc) ns) := t6
      have hns : ns.length ≤ 1048576 := by obtain ⟨f, -, -, h⟩ := t1; omega
      clear t1 t2 t3 t4 t6 hpn
      go_wp2_with fail
      refine (specTree_any _ _ ns HON.out.rd hns HSZ.out.at).mono ?_
      rintro e w2 ⟨rfl, b2⟩
      have HON2 : Hid (OwnN 81 w2 (w.heap.size + 2) (.slice va ns.length vc) ns) := HON.out.below b2
      have D2 : Hid (SS w ys w2 (.slice va ns.length vc) ns p) := D.out.later b2
      obtain ⟨-, z0, z1, zf⟩ := D2.out.2.2.2.1
      obtain ⟨-, d0, -⟩ := D2.out.2.2.2.2.1
      have f0 := zf 0
      have f1 := zf 1
      clear b2 zf b0 HON
      by_cases hok : okTree ns = true
      · have HDT : Hid (decT ys = some ns) := by show _ = _; unfold decT; rw [HPD.out]; simp only; rw [if_pos hok]
        rw [hok]
        clear hok
        go_wp2
        refine bodyPost_ret (v := .agg #[.bool true, .slice va ns.length vc]) (by simp [results, Tryd.results32, go_sem, z0, z1]) rfl ⟨(D2.out.2.2.1.setCell (p := ⟨w.heap.size, 0, none⟩) (Nat.le_refl _) _).setCell (p := ⟨w.heap.size, 1, none⟩) (Nat.le_refl _) _, .inr ⟨ns, _, HDT.out, rfl, ?_⟩⟩
        exact OwnN.mono (OwnN.setBelow (OwnN.setBelow HON2.out (by show w.heap.size < w.heap.size + 2; omega) _) (by show w.heap.size < w.heap.size + 2; omega) _) (by omega)
      · have hok' : okTree ns = false := by simpa using hok
        have HDT : Hid (decT ys = none) := by show _ = _; unfold decT; rw [HPD.out]; simp only; rw [if_neg hok]
        rw [hok']
        clear hok hok'
        go_wp2
        refine bodyPost_ret (v := .agg #[.bool false, .slice none 0 0]) (by simp [results, Tryd.results32, go_sem, z0, z1]) rfl ⟨(D2.out.2.2.1.setCell (p := ⟨w.heap.size, 0, none⟩) (Nat.le_refl _) _).setCell (p := ⟨w.heap.size, 1, none⟩) (Nat.le_refl _) _, .inl ⟨HDT.out, rfl⟩⟩

end Go.Proofs.YtgjenbgclpmjmaaDoor

namespace Go.Proofs.YtgjenbgclpmjmaaDoor
open Go.RowKit

def digsF : Nat → Nat → List UInt8 → List UInt8
  | 0, _, acc => acc
  | f + 1, k, acc => if k = 0 then acc else digsF f (k / 10) (UInt8.ofNat (48 + k % 10) :: acc)
theorem digsF_more : ∀ (f g k : Nat) (acc : List UInt8), k ≤ f → k ≤ g → digsF f k acc = digsF g k acc
  | 0, g, k, acc, h1, h2 => by
    obtain rfl : k = 0 := by omega
    cases g <;> simp [digsF]
  | f + 1, 0, k, acc, h1, h2 => by
    obtain rfl : k = 0 := by omega
    simp [digsF]
  | f + 1, g + 1, k, acc, h1, h2 => by
    unfold digsF
    by_cases h : k = 0
    · rw [if_pos h, if_pos h]
    · rw [if_neg h, if_neg h]
      exact digsF_more f g (k / 10) _ (by omega) (by omega)
def digs (k : Nat) (acc : List UInt8) : List UInt8 := digsF k k acc
theorem digs_zero (acc : List UInt8) : digs 0 acc = acc := rfl
theorem digs_pos {k : Nat} (h : 0 < k) (acc : List UInt8) : digs k acc = digs (k / 10) (UInt8.ofNat (48 + k % 10) :: acc) := by
  unfold digs
  obtain ⟨j, rfl⟩ : ∃ j, k = j + 1 := ⟨k - 1, by omega⟩
  conv => lhs; unfold digsF
  rw [if_neg (by omega)]
  exact digsF_more _ _ _ _ (by omega) (Nat.le_refl _)
def mtx (k : Nat) : ByteArray := if k = 0 then ⟨#[109, 48]⟩ else ⟨(109 :: digs k []).toArray⟩

theorem ba_app (a b : List UInt8) : (⟨a.toArray⟩ ++ ⟨b.toArray⟩ : ByteArray) = ⟨(a ++ b).toArray⟩ := by
  apply ByteArray.ext
  simp [ByteArray.data_append]

set_option maxHeartbeats 1000000 in
set_option maxRecDepth 100000 in
theorem markText_any (w : World) (k : Nat) (h : k ≤ 1099511627776) :
    Calls Tryd.prog 85 #[.int .i64 k] w fun e w' => e = .returned (.string (mtx k)) ∧ Below w.heap.size w w' := by
  go_enter Tryd.func85, Tryd.ntmps85
  by_cases h0 : k = 0
  · subst h0
    go_wp2
    go_ret
    exact ⟨rfl, Below.refl _ _⟩
  · have hI : ¬ (k : Int) ≤ 0 := by omega
    go_wp2
    go_loopw [0, 3] (fun vk vo wr => ∃ (j d : Nat) (acc : List UInt8), vk = .int .i64 j ∧ vo = .string ⟨acc.toArray⟩ ∧ j < 10 ^ d ∧ acc.length + d ≤ 13 ∧ j ≤ 1099511627776 ∧ Hid (digs j acc = digs k []) ∧ Hid (Below w.heap.size w wr)) (fun i _ _ => (intOf i).toNat)
    case atStart => exact ⟨k, 13, [], rfl, rfl, by omega, by simp, h, rfl, Below.refl _ _⟩
    case round =>
      obtain ⟨j, d, acc, rfl, rfl, hjd, had, hj, HD, HB⟩ := hrel
      by_cases hp : 0 < j
      · have hpI : (0 : Int) < (j : Int) := by omega
        obtain ⟨u, hu⟩ : ∃ u, u = UInt8.ofNat (48 + j % 10) := ⟨_, rfl⟩
        have HD2 : Hid (digs (j / 10) (u :: acc) = digs k []) := by show _ = _; rw [hu, ← digs_pos hp]; exact HD.out
        have hcv : (convert 45 9 (.slice (some ⟨wr.heap.size, 0, none⟩) 1 1)).run Tryd.prog (wr.alloc (.cells #[.int .u8 (48 + (j : Int) % 10)] 5)) = .ok (.string ⟨[u].toArray⟩) (wr.alloc (.cells #[.int .u8 (48 + (j : Int) % 10)] 5)) := by
          have O1 : Own .u8 5 (wr.alloc (.cells #[.int .u8 (48 + (j : Int) % 10)] 5)) wr.heap.size (.slice (some ⟨wr.heap.size, 0, none⟩) 1 1) [48 + (j : Int) % 10] := World.ownsRow_lit wr #[.int .u8 (48 + (j : Int) % 10)] 1 (Nat.le_refl _) (by unfold maxLen; omega) rfl
          have := conv_any O1.rd
          rw [this]
          have e : (48 + (j : Int) % 10).toNat = 48 + j % 10 := by omega
          rw [hu]
          simp only [strOfNums, List.map_cons, List.map_nil, e]
        clear hu
        obtain ⟨d', rfl⟩ : ∃ d', d = d' + 1 := by
          cases d with
          | zero => simp at hjd; omega
          | succ d' => exact ⟨d', rfl⟩
        rw [Nat.pow_succ] at hjd
        have HJ : Hid (j / 10 < 10 ^ d') := by show _ < _; omega
        clear hjd
        go_wp2
        refine ⟨⟨j / 10, d', u :: acc, by rw [show ((j / 10 : Nat) : Int) = (j : Int) / 10 by omega], congrArg Value.string (ba_app [u] acc), HJ.out, by simp; omega, by omega, HD2, HB.out.alloc HB.out.size _⟩, ?_⟩
        simp [intOf]
        omega
      · have hj0 : j = 0 := by omega
        subst hj0
        clear hI
        go_wp2
        go_ret
        refine ⟨?_, HB.out⟩
        have e := HD.out
        rw [digs_zero] at e
        rw [e, mtx, if_neg h0]
        exact congrArg (fun x => Ending.returned (.string x)) (ba_app [109] (digs k []))

end Go.Proofs.YtgjenbgclpmjmaaDoor

namespace Go.Proofs.YtgjenbgclpmjmaaDoor
open Go.RowKit Go.Shelf

theorem rowcell {w : World} {lo g n cap z : Nat} {e : TypeId} {us : List Value} (h : w.ownsRow lo e z (.slice (some ⟨g, 0, none⟩) n cap) n us) (i : Nat) (hi : i < n * z) : ∃ u, w.cell? ⟨g, i, none⟩ = some u ∧ w.frozen? ⟨g, i, none⟩ = false := by
  have hl : i < us.length := by rw [h.1]; exact hi
  have h1 := World.ownsRow.cells h (g := g) rfl i us[i] (List.getElem?_eq_getElem hl)
  rw [Addr.add_lit, Nat.zero_add] at h1
  exact ⟨_, h1, World.ownsRow.frozenAt h i⟩
theorem row_keep {w w' : World} {lo n z : Nat} {e : TypeId} {v : Value} {us : List Value} (ho : w.ownsRow lo e z v n us) (hb : Below w.heap.size w w') : w'.ownsRow lo e z v n us := by
  refine ⟨ho.1, ?_⟩
  rcases ho.2 with hn | ⟨g, cap, cur, rfl, hbg, hgg, rest⟩
  · exact .inl hn
  · exact .inr ⟨g, cap, cur, rfl, hbg, by rw [hb.block g (Array.getElem?_eq_some_iff.1 hgg).1]; exact hgg, rest⟩
/-- A row that is written on the way. -/
def RowW (w : World) (lo g n cap z : Nat) (e : TypeId) (w' : World) : Prop := (∃ us, w'.ownsRow lo e z (.slice (some ⟨g, 0, none⟩) n cap) n us) ∧ Below lo w w' ∧ KT e w w'
theorem RowW.set {w w' : World} {lo g n cap z : Nat} {e : TypeId} (h : RowW w lo g n cap z e w') (i : Nat) (u : Value) : RowW w lo g n cap z e (w'.setCell ⟨g, i, none⟩ u) := by
  obtain ⟨⟨us, h1⟩, h2, h3⟩ := h
  have hs := World.ownsRow.stored h1 i u
  have hg := (World.ownsRow.lt h1 g rfl).1
  exact ⟨⟨_, hs.1⟩, h2.setCell hg _, h3.grown h1 hs.2⟩
theorem RowW.below {w w' w2 : World} {lo g n cap z : Nat} {e : TypeId} (h : RowW w lo g n cap z e w') (hb : Below w'.heap.size w' w2) : RowW w lo g n cap z e w2 := by
  obtain ⟨⟨us, h1⟩, h2, h3⟩ := h
  refine ⟨⟨_, row_keep h1 hb⟩, h2.trans (hb.mono ?_), h3.below hb⟩
  have := World.ownsRow.lt h1 g rfl
  omega
theorem RowW.cell {w w' : World} {lo g n cap z : Nat} {e : TypeId} (h : RowW w lo g n cap z e w') (i : Nat) (hi : i < n * z) : ∃ u, w'.cell? ⟨g, i, none⟩ = some u ∧ w'.frozen? ⟨g, i, none⟩ = false := by
  obtain ⟨⟨us, h1⟩, -, -⟩ := h
  exact rowcell h1 i hi

set_option maxHeartbeats 2000000 in
set_option maxRecDepth 100000 in
theorem markNodeS_row (w : World) (lo g n cap k : Nat) (us : List Value) (ho : w.ownsRow lo 81 7 (.slice (some ⟨g, 0, none⟩) n cap) n us) (hk : k ≤ 1048576) (hn : n ≤ 1048576) :
    Calls Tryd.prog 84 #[.slice (some ⟨g, 0, none⟩) n cap, .int .i64 k] w fun e w' => e = .returned (.int .i64 ((k + 7 * n : Nat) : Int)) ∧ RowW w lo g n cap 7 81 w' := by
  have R0 : Hid (RowW w lo g n cap 7 81 w) := ⟨⟨us, ho⟩, Below.refl _ _, KT.refl _ _⟩
  clear ho
  go_enter Tryd.func84, Tryd.ntmps84
  go_wp2
  go_loopw [1, 5] (fun vk vi wr => ∃ j K : Nat, j ≤ n ∧ K = k + 7 * j ∧ vi = .int .i64 j ∧ vk = .int .i64 K ∧ Hid (RowW w lo g n cap 7 81 wr)) (fun _ i _ => n - (intOf i).toNat)
  case atStart => exact ⟨0, k, Nat.zero_le _, by omega, rfl, rfl, R0⟩
  case round =>
    obtain ⟨j, K, hj, hK, rfl, rfl, HR⟩ := hrel
    have HKE : Hid (K = k + 7 * j) := hK
    by_cases hlt : j < n
    · have hltI : (j : Int) < (n : Int) := by omega
      have hK2 : K ≤ 10000000 := by omega
      clear hK
      go_wp2_with fail
      refine (markText_any _ K (by omega)).mono ?_
      rintro e w1 ⟨rfl, b1⟩
      have R1 : Hid (RowW w lo g n cap 7 81 w1) := HR.out.below b1
      clear b1 HR
      obtain ⟨x0, d0, f0⟩ := R1.out.cell (j * 7) (by omega)
      have R2 : Hid (RowW w lo g n cap 7 81 (w1.setCell ⟨g, j * 7, none⟩ (.string (mtx K)))) := R1.out.set _ _
      go_wp2_with fail
      generalize w1.setCell ⟨g, j * 7, none⟩ (.string (mtx K)) = w2 at *
      clear d0 f0 R1
      have hm := markText_any w2 (K + 1) (by omega)
      rw [show ((K + 1 : Nat) : Int) = (K : Int) + 1 by omega] at hm
      refine hm.mono ?_
      clear hm
      rintro e w3 ⟨rfl, b3⟩
      have R3 : Hid (RowW w lo g n cap 7 81 w3) := R2.out.below b3
      clear b3 R2
      obtain ⟨x1, d1, f1⟩ := R3.out.cell (j * 7 + 1) (by omega)
      obtain ⟨x2, d2, f2⟩ := R3.out.cell (j * 7 + 2) (by omega)
      obtain ⟨x3, d3, f3⟩ := R3.out.cell (j * 7 + 3) (by omega)
      obtain ⟨x4, d4, f4⟩ := R3.out.cell (j * 7 + 4) (by omega)
      obtain ⟨x5, d5, f5⟩ := R3.out.cell (j * 7 + 5) (by omega)
      obtain ⟨x6, d6, f6⟩ := R3.out.cell (j * 7 + 6) (by omega)
      go_wp2
      refine ⟨⟨j + 1, K + 7, by omega, by have := HKE.out; omega, by go_num, by go_num, ?_⟩, by simp [intOf]; omega⟩
      exact ((((((R3.out.set _ _).set _ _).set _ _).set _ _).set _ _).set _ _)
    · have hjn : j = n := by omega
      subst hjn
      subst hK
      go_wp2
      go_ret
      exact ⟨rfl, HR.out⟩

set_option maxHeartbeats 400000 in
theorem markNodeS_nil (w : World) (ao : Option Addr) (cap k : Nat) : Calls Tryd.prog 84 #[.slice ao 0 cap, .int .i64 k] w fun e w' => e = .returned (.int .i64 k) ∧ w' = w := by
  go_enter Tryd.func84, Tryd.ntmps84
  go_wp2
  go_rounds 1
  go_ret
  exact ⟨rfl, rfl⟩

theorem markNodeS_any (w : World) (lo k : Nat) (v : Value) (ns : List Nd) (h : OwnN 81 w lo v ns) (hk : k ≤ 1048576) (hn : ns.length ≤ 1048576) :
    Calls Tryd.prog 84 #[v, .int .i64 k] w fun e w' => e = .returned (.int .i64 ((k + 7 * ns.length : Nat) : Int)) ∧ Below lo w w' ∧ KT 81 w w' := by
  have h0 := h
  rcases h.2 with ⟨rfl, h1⟩ | ⟨g, cap, cur, rfl, rest⟩
  · refine (markNodeS_nil w none 0 k).mono ?_
    rintro e w' ⟨rfl, rfl⟩
    rw [h1]
    exact ⟨rfl, Below.refl _ _, KT.refl _ _⟩
  · refine (markNodeS_row w lo g ns.length cap k _ h0 hk hn).mono ?_
    rintro e w' ⟨rfl, -, h2, h3⟩
    exact ⟨rfl, h2, h3⟩

set_option maxHeartbeats 400000 in
theorem markTree_any (w : World) (lo k : Nat) (v : Value) (ns : List Nd) (h : OwnN 81 w lo v ns) (hl : lo ≤ w.heap.size) (hk : k ≤ 1048576) (hn : ns.length ≤ 1048576) :
    Calls Tryd.prog 40 #[.agg #[v], .int .i64 k] w fun e w' => e = .returned (.int .i64 ((k + 7 * ns.length : Nat) : Int)) ∧ Below lo w w' ∧ KT 81 w w' := by
  have H : Hid (OwnN 81 w lo v ns) := h
  clear h
  go_enter Tryd.func40, Tryd.ntmps40
  go_wp2_with fail
  refine (markNodeS_any _ lo k v ns (H.out.below ((Below.refl _ _).alloc (Nat.le_refl _) _)) hk hn).mono ?_
  rintro e w1 ⟨rfl, b1, k1⟩
  have B1 : Hid (Below lo w w1) := ((Below.refl _ _).alloc hl _).trans b1
  have K1 : Hid (KT 81 w w1) := ((KT.refl _ _).alloc _).trans k1
  clear b1 k1
  go_wp2
  go_ret
  exact ⟨rfl, B1.out, K1.out⟩

end Go.Proofs.YtgjenbgclpmjmaaDoor

namespace Go.Proofs.YtgjenbgclpmjmaaDoor
open Go.RowKit Go.Shelf

/-- A marked node. -/
def mkN (K : Nat) : Nd := ⟨mtx K, mtx (K + 1), (K : Int) + 1 + 1, (K : Int) + 1 + 1 + 1, (K : Int) + 1 + 1 + 1 + 1, (K : Int) + 1 + 1 + 1 + 1 + 1, (K : Int) + 1 + 1 + 1 + 1 + 1 + 1⟩
def mkNs (k n : Nat) : List Nd := (List.range n).map fun j => mkN (k + 7 * j)
theorem mkNs_len (k n : Nat) : (mkNs k n).length = n := by simp [mkNs]
theorem mkNs_at (k n j : Nat) (h : j < n) : nAt (mkNs k n) j = mkN (k + 7 * j) := by unfold nAt mkNs; simp [List.getD, h]
def mkMix (k : Nat) (ns : List Nd) (j : Nat) : List Nd := mkNs k j ++ ns.drop j
theorem mkMix_len (k : Nat) (ns : List Nd) (j : Nat) (h : j ≤ ns.length) : (mkMix k ns j).length = ns.length := by unfold mkMix; rw [List.length_append, mkNs_len, List.length_drop]; omega
theorem mkMix_set (k : Nat) (ns : List Nd) (j : Nat) (h : j < ns.length) : (mkMix k ns j).set j (mkN (k + 7 * j)) = mkMix k ns (j + 1) := by
  unfold mkMix
  rw [List.set_append_right _ _ (by rw [mkNs_len]; exact Nat.le_refl _), mkNs_len, Nat.sub_self, List.drop_eq_getElem_cons h, List.set_cons_zero]
  unfold mkNs
  rw [List.range_succ, List.map_append, List.append_assoc]
  rfl
theorem mkMix_all (k : Nat) (ns : List Nd) : mkMix k ns ns.length = mkNs k ns.length := by unfold mkMix; simp
/-- A row of nodes on the way. -/
def RowL (w : World) (lo g n cap : Nat) (us : List Value) (w' : World) : Prop := w'.ownsRow lo 81 7 (.slice (some ⟨g, 0, none⟩) n cap) n us ∧ Below lo w w' ∧ KT 81 w w'
theorem RowL.set {w w' : World} {lo g n cap : Nat} {us : List Value} (h : RowL w lo g n cap us w') (i : Nat) (u : Value) : RowL w lo g n cap (us.set i u) (w'.setCell ⟨g, i, none⟩ u) := by
  obtain ⟨h1, h2, h3⟩ := h
  have hs := World.ownsRow.stored h1 i u
  exact ⟨hs.1, h2.setCell (World.ownsRow.lt h1 g rfl).1 _, h3.grown h1 hs.2⟩
theorem RowL.below {w w' w2 : World} {lo g n cap : Nat} {us : List Value} (h : RowL w lo g n cap us w') (hb : Below w'.heap.size w' w2) : RowL w lo g n cap us w2 := by
  obtain ⟨h1, h2, h3⟩ := h
  refine ⟨row_keep h1 hb, h2.trans (hb.mono ?_), h3.below hb⟩
  have := World.ownsRow.lt h1 g rfl
  omega
theorem RowL.cell {w w' : World} {lo g n cap : Nat} {us : List Value} (h : RowL w lo g n cap us w') (i : Nat) (hi : i < n * 7) : ∃ u, w'.cell? ⟨g, i, none⟩ = some u ∧ w'.frozen? ⟨g, i, none⟩ = false := rowcell h.1 i hi

set_option maxHeartbeats 2000000 in
set_option maxRecDepth 100000 in
theorem markNodeL_row (w : World) (lo g n cap k : Nat) (ns : List Nd) (hp : ns.length = n) (ho : w.ownsRow lo 81 7 (.slice (some ⟨g, 0, none⟩) n cap) n (nrow ns)) (hk : k ≤ 1048576) (hn : n ≤ 1048576) :
    Calls Tryd.prog 84 #[.slice (some ⟨g, 0, none⟩) n cap, .int .i64 k] w fun e w' => e = .returned (.int .i64 ((k + 7 * n : Nat) : Int)) ∧ RowL w lo g n cap (nrow (mkNs k n)) w' := by
  have R0 : Hid (RowL w lo g n cap (nrow (mkMix k ns 0)) w) := ⟨by unfold mkMix mkNs; simpa using ho, Below.refl _ _, KT.refl _ _⟩
  have HP : Hid (ns.length = n) := hp
  clear ho hp
  go_enter Tryd.func84, Tryd.ntmps84
  go_wp2
  go_loopw [1, 5] (fun vk vi wr => ∃ j K : Nat, j ≤ n ∧ K = k + 7 * j ∧ vi = .int .i64 j ∧ vk = .int .i64 K ∧ Hid (RowL w lo g n cap (nrow (mkMix k ns j)) wr)) (fun _ i _ => n - (intOf i).toNat)
  case atStart => exact ⟨0, k, Nat.zero_le _, by omega, rfl, rfl, R0⟩
  case round =>
    obtain ⟨j, K, hj, hK, rfl, rfl, HR⟩ := hrel
    have HKE : Hid (K = k + 7 * j) := hK
    by_cases hlt : j < n
    · have hltI : (j : Int) < (n : Int) := by omega
      have hK2 : K ≤ 10000000 := by omega
      have HS : Hid (set7 (nrow (mkMix k ns j)) (j * 7) (mkN K) = nrow (mkMix k ns (j + 1))) := by
        show _ = _
        rw [nrow_set _ _ _ (by rw [mkMix_len _ _ _ (by rw [HP.out]; omega), HP.out]; exact hlt), hK, mkMix_set _ _ _ (by rw [HP.out]; exact hlt)]
      generalize nrow (mkMix k ns j) = us at *
      clear hK
      go_wp2_with fail
      refine (markText_any _ K (by omega)).mono ?_
      rintro e w1 ⟨rfl, b1⟩
      have R1 : Hid (RowL w lo g n cap us w1) := HR.out.below b1
      clear b1 HR
      obtain ⟨x0, d0, f0⟩ := R1.out.cell (j * 7) (by omega)
      have R2 : Hid (RowL w lo g n cap (us.set (j * 7) (.string (mtx K))) (w1.setCell ⟨g, j * 7, none⟩ (.string (mtx K)))) := R1.out.set _ _
      go_wp2_with fail
      generalize w1.setCell ⟨g, j * 7, none⟩ (.string (mtx K)) = w2 at *
      clear d0 f0 R1
      have hm := markText_any w2 (K + 1) (by omega)
      rw [show ((K + 1 : Nat) : Int) = (K : Int) + 1 by omega] at hm
      refine hm.mono ?_
      clear hm
      rintro e w3 ⟨rfl, b3⟩
      have R3 : Hid (RowL w lo g n cap (us.set (j * 7) (.string (mtx K))) w3) := R2.out.below b3
      clear b3 R2
      obtain ⟨x1, d1, f1⟩ := R3.out.cell (j * 7 + 1) (by omega)
      obtain ⟨x2, d2, f2⟩ := R3.out.cell (j * 7 + 2) (by omega)
      obtain ⟨x3, d3, f3⟩ := R3.out.cell (j * 7 + 3) (by omega)
      obtain ⟨x4, d4, f4⟩ := R3.out.cell (j * 7 + 4) (by omega)
      obtain ⟨x5, d5, f5⟩ := R3.out.cell (j * 7 + 5) (by omega)
      obtain ⟨x6, d6, f6⟩ := R3.out.cell (j * 7 + 6) (by omega)
      go_wp2
      refine ⟨⟨j + 1, K + 7, by omega, by have := HKE.out; omega, by go_num, by go_num, ?_⟩, by simp [intOf]; omega⟩
      show RowL _ _ _ _ _ _ _
      rw [← HS.out]
      exact ((((((R3.out.set _ _).set _ _).set _ _).set _ _).set _ _).set _ _)
    · have hjn : j = n := by omega
      subst hjn
      subst hK
      have HF : Hid (RowL w lo g j cap (nrow (mkNs k j)) wr) := by have := HR.out; rw [← HP.out, mkMix_all, HP.out] at this; exact this
      go_wp2
      go_ret
      exact ⟨rfl, HF.out⟩

theorem markNodeL_any (w : World) (lo k : Nat) (v : Value) (ns : List Nd) (h : OwnN 81 w lo v ns) (hk : k ≤ 1048576) (hn : ns.length ≤ 1048576) :
    Calls Tryd.prog 84 #[v, .int .i64 k] w fun e w' => e = .returned (.int .i64 ((k + 7 * ns.length : Nat) : Int)) ∧ OwnN 81 w' lo v (mkNs k ns.length) ∧ Below lo w w' ∧ KT 81 w w' := by
  have h0 := h
  rcases h.2 with ⟨rfl, h1⟩ | ⟨g, cap, cur, rfl, rest⟩
  · refine (markNodeS_nil w none 0 k).mono ?_
    rintro e w' ⟨rfl, rfl⟩
    rw [h1]
    exact ⟨rfl, World.ownsRow_nil _ _ _ _, Below.refl _ _, KT.refl _ _⟩
  · refine (markNodeL_row w lo g ns.length cap k ns rfl h0 hk hn).mono ?_
    rintro e w' ⟨rfl, h1, h2, h3⟩
    exact ⟨rfl, by unfold OwnN; rw [mkNs_len]; exact h1, h2, h3⟩

set_option maxHeartbeats 2000000 in
set_option maxRecDepth 100000 in
theorem heldNodeS_row (w : World) (b o n cap k : Nat) (hb : b < w.heap.size) (hc : ∀ i, i < n → CellsN w b (o + i * 7) (nAt (mkNs k n) i)) (hk : k ≤ 1048576) (hn : n ≤ 1048576) :
    Calls Tryd.prog 98 #[.slice (some ⟨b, o, none⟩) n cap, .int .i64 k] w fun e w' => e = .returned (.int .i64 ((k + 7 * n : Nat) : Int)) ∧ Below w.heap.size w w' := by
  have HC : Hid (∀ i, i < n → CellsN w b (o + i * 7) (mkN (k + 7 * i))) := fun i hi => by have := hc i hi; rw [mkNs_at k n i hi] at this; exact this
  clear hc
  go_enter Tryd.func98, Tryd.ntmps98
  go_wp2
  go_loopw [1, 5] (fun vk vi wr => ∃ j K : Nat, j ≤ n ∧ K = k + 7 * j ∧ vi = .int .i64 j ∧ vk = .int .i64 K ∧ Hid (Below w.heap.size w wr)) (fun _ i _ => n - (intOf i).toNat)
  case atStart => exact ⟨0, k, Nat.zero_le _, by omega, rfl, rfl, Below.refl _ _⟩
  case round =>
    obtain ⟨j, K, hj, hK, rfl, rfl, HB⟩ := hrel
    have HKE : Hid (K = k + 7 * j) := hK
    by_cases hlt : j < n
    · have hltI : (j : Int) < (n : Int) := by omega
      have hK2 : K ≤ 10000000 := by omega
      have HCJ : Hid (CellsN w b (o + j * 7) (mkN K)) := by have := HC.out j hlt; rw [← hK] at this; exact this
      have hm0 : Hid (∀ W, Calls Tryd.prog 85 #[.int .i64 (K : Int)] W fun e w' => e = .returned (.string (mtx K)) ∧ Below W.heap.size W w') := fun W => markText_any W K (by omega)
      have hm1 : Hid (∀ W, Calls Tryd.prog 85 #[.int .i64 ((K : Int) + 1)] W fun e w' => e = .returned (.string (mtx (K + 1))) ∧ Below W.heap.size W w') := by
        intro W
        have hm := markText_any W (K + 1) (by omega)
        rw [show ((K + 1 : Nat) : Int) = (K : Int) + 1 by omega] at hm
        exact hm
      have hpp : ((mtx K).toList == (mtx K).toList) = true := by simp
      have hpp1 : ((mtx (K + 1)).toList == (mtx (K + 1)).toList) = true := by simp
      clear hK
      go_wp2
      refine wp_region_held_drew (S := fun W => Hid (Below w.heap.size w W) ∧ W.cell? ⟨b, o + j * 7, none⟩ = some (.string (mtx K))) (by kernel_rfl) (⟨HB.out.trans ((below_drewN' _ 1).mono HB.out.size), ((HCJ.out.below HB.out hb).below (below_drewN' _ 1) (Nat.lt_of_lt_of_le hb HB.out.size)).c0⟩) (fun hHeld => ?_)
      refine wpAnyH_take (i := 0) (oi := { dst := some 12, op := _, type := _, pos := _, after := _, guard := _ }) (v := (.slice (some ⟨b, o, none⟩) n cap)) rfl (by kernel_rfl) (by kernel_rfl) (by kernel_rfl) (fun _ _ _ h => h) (Or.inl ⟨by rfl, ?hy1⟩) (by assumption) ?rest1
      case hy1 =>
        intro w9 hS9
        obtain ⟨-, y0⟩ := hS9
        go_simp
        try with_reducible rfl
      try simp only [Act.put, List.setIfInBounds_toArray, List.set_cons_zero, List.set_cons_succ]
      refine wpAnyH_take (i := 1) (oi := { dst := some 13, op := _, type := _, pos := _, after := _, guard := _ }) (v := (.int .i64 (j : Int))) rfl (by kernel_rfl) (by kernel_rfl) (by kernel_rfl) (fun _ _ _ h => h) (Or.inl ⟨by rfl, ?hy2⟩) (by assumption) ?rest2
      case hy2 =>
        intro w9 hS9
        obtain ⟨-, y0⟩ := hS9
        go_simp
        try with_reducible rfl
      try simp only [Act.put, List.setIfInBounds_toArray, List.set_cons_zero, List.set_cons_succ]
      refine wpAnyH_take (i := 2) (oi := { dst := some 14, op := _, type := _, pos := _, after := _, guard := _ }) (v := (.pointer (some ⟨b, o + j * 7, none⟩))) rfl (by kernel_rfl) (by kernel_rfl) (by kernel_rfl) (fun _ _ _ h => h) (Or.inl ⟨by rfl, ?hy3⟩) (by assumption) ?rest3
      case hy3 =>
        intro w9 hS9
        obtain ⟨-, y0⟩ := hS9
        go_simp
        try with_reducible rfl
      try simp only [Act.put, List.setIfInBounds_toArray, List.set_cons_zero, List.set_cons_succ]
      refine wpAnyH_take (i := 3) (oi := { dst := some 15, op := _, type := _, pos := _, after := _, guard := _ }) (v := (.pointer (some ⟨b, o + j * 7, none⟩))) rfl (by kernel_rfl) (by kernel_rfl) (by kernel_rfl) (fun _ _ _ h => h) (Or.inl ⟨by rfl, ?hy4⟩) (by assumption) ?rest4
      case hy4 =>
        intro w9 hS9
        obtain ⟨-, y0⟩ := hS9
        go_simp
        try with_reducible rfl
      try simp only [Act.put, List.setIfInBounds_toArray, List.set_cons_zero, List.set_cons_succ]
      refine wpAnyH_take (i := 4) (oi := { dst := some 16, op := _, type := _, pos := _, after := _, guard := _ }) (v := (.string (mtx K))) rfl (by kernel_rfl) (by kernel_rfl) (by kernel_rfl) (fun _ _ _ h => h) (Or.inl ⟨by rfl, ?hy5⟩) (by assumption) ?rest5
      case hy5 =>
        intro w9 hS9
        obtain ⟨-, y0⟩ := hS9
        go_simp
        try with_reducible rfl
      try simp only [Act.put, List.setIfInBounds_toArray, List.set_cons_zero, List.set_cons_succ]
      refine wpAnyH_take (i := 5) (oi := { dst := some 17, op := _, type := _, pos := _, after := _, guard := _ }) (v := (.int .i64 (K : Int))) rfl (by kernel_rfl) (by kernel_rfl) (by kernel_rfl) (fun _ _ _ h => h) (Or.inl ⟨by rfl, ?hy6⟩) (by assumption) ?rest6
      case hy6 =>
        intro w9 hS9
        obtain ⟨-, y0⟩ := hS9
        go_simp
        try with_reducible rfl
      try simp only [Act.put, List.setIfInBounds_toArray, List.set_cons_zero, List.set_cons_succ]
      refine wpAnyH_ready (rs := [6]) (by kernel_rfl) (by simp) ?_
      refine AllReadyH.cons (o := { dst := some 18, op := _, type := _, pos := _, after := _, guard := _ }) rfl (fun KK hK => ?_) AllReadyH.nil
      go_simp
      refine (hm0.out _).mono ?_
      rintro e w4 ⟨rfl, b4⟩
      have HB4 : Hid (Below w.heap.size w w4) := (HB.out.trans ((below_drewN' _ 1).mono HB.out.size)).trans (b4.mono HB.out.size)
      clear b4
      refine hK.out _ _ ((show Hid (Below w.heap.size w w4) ∧ w4.cell? ⟨b, o + j * 7, none⟩ = some (.string (mtx K)) from ⟨HB4, (HCJ.out.below HB4.out hb).c0⟩)) (fun hx9 => ?_)
      clear hK KK hHeld hx9
      have hHeld := (show Hid (Below w.heap.size w w4) ∧ w4.cell? ⟨b, o + j * 7, none⟩ = some (.string (mtx K)) from ⟨HB4, (HCJ.out.below HB4.out hb).c0⟩)
      try simp only [Act.put, List.setIfInBounds_toArray, List.set_cons_zero, List.set_cons_succ]
      refine wpAnyH_take (i := 7) (oi := { dst := some 19, op := _, type := _, pos := _, after := _, guard := _ }) (v := (.bool false)) rfl (by kernel_rfl) (by kernel_rfl) (by kernel_rfl) (fun _ _ _ h => h) (Or.inl ⟨by rfl, ?hy7⟩) (by assumption) ?rest7
      case hy7 =>
        intro w9 hS9
        go_simp
        try with_reducible rfl
      try simp only [Act.put, List.setIfInBounds_toArray, List.set_cons_zero, List.set_cons_succ]
      refine wpAnyH_done (by kernel_rfl) ?_ _
      clear hHeld
      go_wp2
      refine wp_region_held_drew (S := fun W => Hid (Below w.heap.size w W) ∧ W.cell? ⟨b, o + j * 7 + 1, none⟩ = some (.string (mtx (K + 1)))) (by kernel_rfl) (⟨HB4.out.trans ((below_drewN' _ 1).mono HB4.out.size), ((HCJ.out.below HB4.out hb).below (below_drewN' _ 1) (Nat.lt_of_lt_of_le hb HB4.out.size)).c1⟩) (fun hHeld => ?_)
      refine wpAnyH_take (i := 0) (oi := { dst := some 22, op := _, type := _, pos := _, after := _, guard := _ }) (v := (.slice (some ⟨b, o, none⟩) n cap)) rfl (by kernel_rfl) (by kernel_rfl) (by kernel_rfl) (fun _ _ _ h => h) (Or.inl ⟨by rfl, ?hy8⟩) (by assumption) ?rest8
      case hy8 =>
        intro w9 hS9
        obtain ⟨-, y0⟩ := hS9
        go_simp
        try with_reducible rfl
      try simp only [Act.put, List.setIfInBounds_toArray, List.set_cons_zero, List.set_cons_succ]
      refine wpAnyH_take (i := 1) (oi := { dst := some 23, op := _, type := _, pos := _, after := _, guard := _ }) (v := (.int .i64 (j : Int))) rfl (by kernel_rfl) (by kernel_rfl) (by kernel_rfl) (fun _ _ _ h => h) (Or.inl ⟨by rfl, ?hy9⟩) (by assumption) ?rest9
      case hy9 =>
        intro w9 hS9
        obtain ⟨-, y0⟩ := hS9
        go_simp
        try with_reducible rfl
      try simp only [Act.put, List.setIfInBounds_toArray, List.set_cons_zero, List.set_cons_succ]
      refine wpAnyH_take (i := 2) (oi := { dst := some 24, op := _, type := _, pos := _, after := _, guard := _ }) (v := (.pointer (some ⟨b, o + j * 7, none⟩))) rfl (by kernel_rfl) (by kernel_rfl) (by kernel_rfl) (fun _ _ _ h => h) (Or.inl ⟨by rfl, ?hy10⟩) (by assumption) ?rest10
      case hy10 =>
        intro w9 hS9
        obtain ⟨-, y0⟩ := hS9
        go_simp
        try with_reducible rfl
      try simp only [Act.put, List.setIfInBounds_toArray, List.set_cons_zero, List.set_cons_succ]
      refine wpAnyH_take (i := 3) (oi := { dst := some 25, op := _, type := _, pos := _, after := _, guard := _ }) (v := (.pointer (some ⟨b, o + j * 7 + 1, none⟩))) rfl (by kernel_rfl) (by kernel_rfl) (by kernel_rfl) (fun _ _ _ h => h) (Or.inl ⟨by rfl, ?hy11⟩) (by assumption) ?rest11
      case hy11 =>
        intro w9 hS9
        obtain ⟨-, y0⟩ := hS9
        go_simp
        try with_reducible rfl
      try simp only [Act.put, List.setIfInBounds_toArray, List.set_cons_zero, List.set_cons_succ]
      refine wpAnyH_take (i := 4) (oi := { dst := some 26, op := _, type := _, pos := _, after := _, guard := _ }) (v := (.string (mtx (K + 1)))) rfl (by kernel_rfl) (by kernel_rfl) (by kernel_rfl) (fun _ _ _ h => h) (Or.inl ⟨by rfl, ?hy12⟩) (by assumption) ?rest12
      case hy12 =>
        intro w9 hS9
        obtain ⟨-, y0⟩ := hS9
        go_simp
        try with_reducible rfl
      try simp only [Act.put, List.setIfInBounds_toArray, List.set_cons_zero, List.set_cons_succ]
      refine wpAnyH_take (i := 5) (oi := { dst := some 27, op := _, type := _, pos := _, after := _, guard := _ }) (v := (.int .i64 ((K : Int) + 1))) rfl (by kernel_rfl) (by kernel_rfl) (by kernel_rfl) (fun _ _ _ h => h) (Or.inl ⟨by rfl, ?hy13⟩) (by assumption) ?rest13
      case hy13 =>
        intro w9 hS9
        obtain ⟨-, y0⟩ := hS9
        go_simp
        try with_reducible rfl
      try simp only [Act.put, List.setIfInBounds_toArray, List.set_cons_zero, List.set_cons_succ]
      refine wpAnyH_ready (rs := [6]) (by kernel_rfl) (by simp) ?_
      refine AllReadyH.cons (o := { dst := some 28, op := _, type := _, pos := _, after := _, guard := _ }) rfl (fun KK hK => ?_) AllReadyH.nil
      go_simp
      refine (hm1.out _).mono ?_
      rintro e w5 ⟨rfl, b5⟩
      have HB5 : Hid (Below w.heap.size w w5) := (HB4.out.trans ((below_drewN' _ 1).mono HB4.out.size)).trans (b5.mono HB4.out.size)
      clear b5
      refine hK.out _ _ ((show Hid (Below w.heap.size w w5) ∧ w5.cell? ⟨b, o + j * 7 + 1, none⟩ = some (.string (mtx (K + 1))) from ⟨HB5, (HCJ.out.below HB5.out hb).c1⟩)) (fun hx9 => ?_)
      clear hK KK hHeld hx9
      have hHeld := (show Hid (Below w.heap.size w w5) ∧ w5.cell? ⟨b, o + j * 7 + 1, none⟩ = some (.string (mtx (K + 1))) from ⟨HB5, (HCJ.out.below HB5.out hb).c1⟩)
      try simp only [Act.put, List.setIfInBounds_toArray, List.set_cons_zero, List.set_cons_succ]
      refine wpAnyH_take (i := 7) (oi := { dst := some 29, op := _, type := _, pos := _, after := _, guard := _ }) (v := (.bool false)) rfl (by kernel_rfl) (by kernel_rfl) (by kernel_rfl) (fun _ _ _ h => h) (Or.inl ⟨by rfl, ?hy14⟩) (by assumption) ?rest14
      case hy14 =>
        intro w9 hS9
        go_simp
        try with_reducible rfl
      try simp only [Act.put, List.setIfInBounds_toArray, List.set_cons_zero, List.set_cons_succ]
      refine wpAnyH_done (by kernel_rfl) ?_ _
      clear hHeld
      obtain ⟨-, -, y2, y3, y4, y5, y6⟩ := HCJ.out.below HB5.out hb
      unfold mkN at y2 y3 y4 y5 y6
      simp only at y2 y3 y4 y5 y6
      go_wp2
      exact ⟨⟨j + 1, K + 7, by omega, by have := HKE.out; omega, by go_num, by go_num, HB5⟩, by simp [intOf]; omega⟩
    · have hjn : j = n := by omega
      subst hjn
      subst hK
      go_wp2
      go_ret
      exact ⟨rfl, HB.out⟩

set_option maxHeartbeats 400000 in
theorem heldNodeS_nil (w : World) (ao : Option Addr) (cap k : Nat) : Calls Tryd.prog 98 #[.slice ao 0 cap, .int .i64 k] w fun e w' => e = .returned (.int .i64 k) ∧ w' = w := by
  go_enter Tryd.func98, Tryd.ntmps98
  go_wp2
  go_rounds 1
  go_ret
  exact ⟨rfl, rfl⟩

theorem heldNodeS_any (w : World) (v : Value) (k n : Nat) (h : RdN w v (mkNs k n)) (hk : k ≤ 1048576) (hn : n ≤ 1048576) :
    Calls Tryd.prog 98 #[v, .int .i64 k] w fun e w' => e = .returned (.int .i64 ((k + 7 * n : Nat) : Int)) ∧ Below w.heap.size w w' := by
  obtain ⟨ao, cap, rfl, h1, h2, h3⟩ := h
  rw [mkNs_len] at h1 h3 ⊢
  rcases h3 with h3 | ⟨b, o, rfl, hb, hc⟩
  · have : n = 0 := by have := congrArg List.length h3; rw [mkNs_len] at this; exact this
    subst this
    refine (heldNodeS_nil w ao cap k).mono ?_
    rintro e w' ⟨rfl, rfl⟩
    exact ⟨rfl, Below.refl _ _⟩
  · exact heldNodeS_row w b o n cap k hb hc hk hn

end Go.Proofs.YtgjenbgclpmjmaaDoor

namespace Go.Proofs.YtgjenbgclpmjmaaDoor
open Go.RowKit Go.Shelf

theorem OwnN.keepT {w w' : World} {lo : Nat} {v : Value} {ns : List Nd} {t : TypeId} (h : OwnN 81 w lo v ns) (hk : KT t w w') (ht : 81 ≠ t) : OwnN 81 w' lo v ns := by
  refine ⟨h.1, ?_⟩
  rcases h.2 with hn | ⟨g, cap, cur, rfl, hbg, hgg, rest⟩
  · exact .inl hn
  · exact .inr ⟨g, cap, cur, rfl, hbg, hk.box hgg ht, rest⟩
theorem OwnN.belowM {w w' : World} {lo m : Nat} {v : Value} {ns : List Nd} (h : OwnN 81 w lo v ns) (hb : Below m w w') (hlt : ∀ g, v.ownBlock = some g → g < m) : OwnN 81 w' lo v ns := by
  refine ⟨h.1, ?_⟩
  rcases h.2 with hn | ⟨g, cap, cur, rfl, hbg, hgg, rest⟩
  · exact .inl hn
  · exact .inr ⟨g, cap, cur, rfl, hbg, (hb.block g (hlt g rfl)).trans hgg, rest⟩

set_option maxHeartbeats 400000 in
theorem heldTree_any (w : World) (k n : Nat) (v : Value) (h : RdN w v (mkNs k n)) (hk : k ≤ 1048576) (hn : n ≤ 1048576) :
    Calls Tryd.prog 51 #[.agg #[v], .int .i64 k] w fun e w' => e = .returned (.int .i64 ((k + 7 * n : Nat) : Int)) ∧ Below w.heap.size w w' := by
  have B0 : Hid (Below w.heap.size w (w.alloc (.cells #[v] 30))) := (Below.refl _ _).alloc (Nat.le_refl _) _
  have H : Hid (RdN (w.alloc (.cells #[v] 30)) v (mkNs k n)) := h.below B0.out
  clear h
  go_enter Tryd.func51, Tryd.ntmps51
  go_wp2_with fail
  refine (heldNodeS_any _ _ k n H.out hk hn).mono ?_
  rintro e w1 ⟨rfl, b1⟩
  have B1 : Hid (Below w.heap.size w w1) := B0.out.trans (b1.mono (by simp))
  have hI : ¬ ((k + 7 * n : Nat) : Int) < 0 := by omega
  clear b1
  go_wp2
  go_ret
  exact ⟨rfl, B1.out⟩

end Go.Proofs.YtgjenbgclpmjmaaDoor

namespace Go.Proofs.YtgjenbgclpmjmaaDoor
open Go.RowKit Go.Shelf

theorem BxN.new (w : World) (o : Obj) (n : Nd) : BxN ((w.alloc o).alloc (.cells #[.string n.path, .string n.data, .int .i64 n.ver, .int .i64 n.cver, .int .i64 n.cz, .int .i64 n.mz, .int .i64 n.pz] 102)) (w.heap.size + 1) n := by
  have := heap_alloc_new (w.alloc o) (.cells #[.string n.path, .string n.data, .int .i64 n.ver, .int .i64 n.cver, .int .i64 n.cz, .int .i64 n.mz, .int .i64 n.pz] 102)
  rw [show (w.alloc o).heap.size = w.heap.size + 1 by simp] at this
  exact ⟨⟨_, _, _, this, by decide⟩, (cell_of this _).trans rfl, (cell_of this _).trans rfl, (cell_of this _).trans rfl, (cell_of this _).trans rfl, (cell_of this _).trans rfl, (cell_of this _).trans rfl, (cell_of this _).trans rfl⟩

set_option maxHeartbeats 1000000 in
set_option maxRecDepth 100000 in
theorem encTree_row (w : World) (b o n cap : Nat) (ns : List Nd) (hp : ns.length = n) (hb : b < w.heap.size) (hc : ∀ i, i < n → CellsN w b (o + i * 7) (nAt ns i)) (hR : RdN w (.slice (some ⟨b, o, none⟩) n cap) ns)
    (hsz : ∀ i, (nAt ns i).path.size ≤ 1048576 ∧ (nAt ns i).data.size ≤ 1048576) :
    Calls Tryd.prog 44 #[.agg #[.slice (some ⟨b, o, none⟩) n cap]] w fun e w' => ∃ v', e = .returned v' ∧ Own .u8 5 w' w.heap.size v' (treeB ns) ∧ Below w.heap.size w w' := by
  have HC : Hid (∀ i, i < n → CellsN w b (o + i * 7) (nAt ns i)) := hc
  have HP : Hid (ns.length = n) := hp
  have HR : Hid (RdN w (.slice (some ⟨b, o, none⟩) n cap) ns) := hR
  have HZ : Hid (∀ i, (nAt ns i).path.size ≤ 1048576 ∧ (nAt ns i).data.size ≤ 1048576) := hsz
  have B0 : Hid (Below w.heap.size w (w.alloc (.cells #[.slice (some ⟨b, o, none⟩) n cap] 30))) := (Below.refl _ _).alloc (Nat.le_refl _) _
  have X0 : Hid (Boxed (w.alloc (.cells #[.slice (some ⟨b, o, none⟩) n cap] 30)) w.heap.size 30 (.slice (some ⟨b, o, none⟩) n cap)) := Boxed.new _ _ _
  clear hc hp hR hsz
  go_enter Tryd.func44, Tryd.ntmps44
  go_wp2_with fail
  generalize w.alloc (.cells #[.slice (some ⟨b, o, none⟩) n cap] 30) = w0 at *
  refine (implTree_any _ _ ns (HR.out.below B0.out) HZ.out).mono ?_
  rintro e w1 ⟨rfl, b1⟩
  have B1 : Hid (Below w.heap.size w w1) := B0.out.trans (b1.mono B0.out.size)
  have X1 : Hid (Boxed w1 w.heap.size 30 (.slice (some ⟨b, o, none⟩) n cap)) := boxed_below b1 X0.out
  clear b1 X0 B0
  by_cases hok : okTree ns = true
  rotate_left
  · have hok' : okTree ns = false := by simpa using hok
    have HT : Hid (treeB ns = []) := by show _ = _; unfold treeB; rw [if_neg hok]
    rw [hok']
    clear hok hok'
    go_wp2
    go_ret
    exact ⟨_, rfl, (by rw [HT.out]; exact World.ownsRow_nil _ _ _ _), B1.out⟩
  have hn : n ≤ 1000 := by have := okTree_len hok; rw [HP.out] at this; exact this
  have HT : Hid (treeB ns = nodesB ns) := by show _ = _; unfold treeB; rw [if_pos hok]
  have HOK : Hid (∀ k, k < n → okNd (nAt ns k) = true) := fun k hk => okTree_nd hok k (by rw [HP.out]; exact hk)
  have HLN : Hid (∀ k, k ≤ n → (nodesB (ns.take k)).length ≤ k * 188) := fun k hk => nodesB_len (okTree_nd hok) k (by rw [HP.out]; exact hk)
  rw [hok]
  clear hok
  have c0 := X1.out.cell
  go_wp2
  go_loopw [3, 13] (fun vi vk wr => ∃ k : Nat, k ≤ n ∧ vk = .int .i64 k ∧ Hid (Own .u8 5 wr w.heap.size vi (nodesB (ns.take k))) ∧ Hid (Below w.heap.size w wr)) (fun _ i _ => n - (intOf i).toNat)
  case atStart => exact ⟨0, Nat.zero_le _, rfl, World.ownsRow_nil _ _ _ _, B1⟩
  case round =>
    clear c0
    obtain ⟨k, hk, rfl, HW, HB⟩ := hrel
    have sB := HB.out.size
    by_cases hlt : k < n
    · have hltI : (k : Int) < (n : Int) := by omega
      obtain ⟨c0, c1, c2, c3, c4, c5, c6⟩ := (HC.out k hlt).below HB.out hb
      go_wp2_with fail
      clear c0 c1 c2 c3 c4 c5 c6
      refine (encNode_any _ w.heap.size u3 (nodesB (ns.take k)) (wr.heap.size + 1) (nAt ns k) ?e1 ?e2 ?e3 ?e4 (HOK.out k hlt)).mono ?_
      case e1 => exact (HW.out.below ((Below.refl _ _).alloc (Nat.le_refl _) _)).below ((Below.refl _ _).alloc (Nat.le_refl _) _)
      case e2 => simp; omega
      case e3 => have := HLN.out k hk; omega
      case e4 => exact BxN.new _ _ _
      rintro e w4 ⟨v4, rfl, o4, b4, -⟩
      have O4 : Hid (Own .u8 5 w4 w.heap.size v4 (nodesB (ns.take (k + 1)))) := by
        rw [nodesB_succ ns k (by rw [HP.out]; exact hlt)] at o4; exact o4
      have B4 : Hid (Below w.heap.size w w4) := ((HB.out.alloc sB _).alloc (by simp; omega) _).trans b4
      clear o4 b4 HW HB
      go_wp2
      exact ⟨⟨k + 1, by omega, by go_num, O4, B4⟩, by simp [intOf]; omega⟩
    · have hkn : k = n := by omega
      subst hkn
      go_wp2
      go_ret
      refine ⟨_, rfl, ?_, HB.out⟩
      rw [HT.out, ← nodesB_all ns k (by rw [HP.out]; exact Nat.le_refl _)]
      exact HW.out

set_option maxHeartbeats 1000000 in
set_option maxRecDepth 100000 in
theorem encTree_nil (w : World) (ao : Option Addr) (cap : Nat) (hc : cap ≤ maxLen) :
    Calls Tryd.prog 44 #[.agg #[.slice ao 0 cap]] w fun e w' => ∃ v', e = .returned v' ∧ Own .u8 5 w' w.heap.size v' [] ∧ Below w.heap.size w w' := by
  have HR : Hid (RdN w (.slice ao 0 cap) []) := ⟨ao, cap, rfl, Nat.zero_le _, hc, .inl rfl⟩
  have B0 : Hid (Below w.heap.size w (w.alloc (.cells #[.slice ao 0 cap] 30))) := (Below.refl _ _).alloc (Nat.le_refl _) _
  have X0 : Hid (Boxed (w.alloc (.cells #[.slice ao 0 cap] 30)) w.heap.size 30 (.slice ao 0 cap)) := Boxed.new _ _ _
  go_enter Tryd.func44, Tryd.ntmps44
  go_wp2_with fail
  generalize w.alloc (.cells #[.slice ao 0 cap] 30) = w0 at *
  refine (implTree_any _ _ [] (HR.out.below B0.out) (fun i => by simp [nAt, nd0])).mono ?_
  rintro e w1 ⟨rfl, b1⟩
  have B1 : Hid (Below w.heap.size w w1) := B0.out.trans (b1.mono B0.out.size)
  have X1 : Hid (Boxed w1 w.heap.size 30 (.slice ao 0 cap)) := boxed_below b1 X0.out
  clear b1 X0 B0
  rw [show okTree [] = true from rfl]
  have c0 := X1.out.cell
  go_wp2
  go_rounds 1
  go_ret
  exact ⟨_, rfl, World.ownsRow_nil _ _ _ _, B1.out⟩

theorem encTree_any (w : World) (v : Value) (ns : List Nd) (h : RdN w v ns) (hsz : ∀ i, (nAt ns i).path.size ≤ 1048576 ∧ (nAt ns i).data.size ≤ 1048576) :
    Calls Tryd.prog 44 #[.agg #[v]] w fun e w' => ∃ v', e = .returned v' ∧ Own .u8 5 w' w.heap.size v' (treeB ns) ∧ Below w.heap.size w w' := by
  have h0 := h
  obtain ⟨ao, cap, rfl, h1, h2, h3⟩ := h
  rcases h3 with rfl | ⟨b, o, rfl, hb, hc⟩
  · exact encTree_nil w ao cap h2
  · exact encTree_row w b o ns.length cap ns rfl hb hc h0 hsz

end Go.Proofs.YtgjenbgclpmjmaaDoor

namespace Go.Proofs.YtgjenbgclpmjmaaDoor
open Go.RowKit Go.Shelf

theorem own_full {e : TypeId} {w : World} {base : Nat} {v : Value} {xs : List Int} (h : Own .u8 e w base v xs) (hn : 0 < xs.length) : ∃ g c, v = .slice (some ⟨g, 0, none⟩) xs.length c := by
  rcases h.2 with ⟨-, h0⟩ | ⟨g, cap, cur, rfl, -⟩
  · omega
  · exact ⟨g, cap, rfl⟩
theorem u8_oneCell (xs : List Int) : ∀ u ∈ xs.map (Value.int .u8), u.oneCell' = true := by
  intro u hu
  obtain ⟨x, -, rfl⟩ := List.mem_map.1 hu
  rfl
theorem BoxN.belowM {w w' : World} {B m : Nat} {n : Nd} (h : BoxN w B n) (hb : Below m w w') (hl : B < m) : BoxN w' B n :=
  ⟨Nat.lt_of_lt_of_le h.lt hb.size, (hb.cell (p := ⟨B, _, none⟩) hl).trans h.c0, (hb.cell (p := ⟨B, _, none⟩) hl).trans h.c1, (hb.cell (p := ⟨B, _, none⟩) hl).trans h.c2, (hb.cell (p := ⟨B, _, none⟩) hl).trans h.c3,
   (hb.cell (p := ⟨B, _, none⟩) hl).trans h.c4, (hb.cell (p := ⟨B, _, none⟩) hl).trans h.c5, (hb.cell (p := ⟨B, _, none⟩) hl).trans h.c6⟩

set_option maxHeartbeats 2000000 in
set_option maxRecDepth 100000 in
theorem sNode_any (w : World) (n : Nd) (hn : okNd n = true) :
    Calls Tryd.prog 90 #[.agg #[.string n.path, .string n.data, .int .i64 n.ver, .int .i64 n.cver, .int .i64 n.cz, .int .i64 n.mz, .int .i64 n.pz]] w fun e w' => ∃ v', e = .returned v' ∧ Own .u8 5 w' w.heap.size v' (nodeB n) ∧ Below w.heap.size w w' := by
  obtain ⟨i0, hi, hz0, hz1, hz2⟩ := info_parts Tryd.infoB
  obtain ⟨p1, p2, p3, p4, p5, p6, p7⟩ := okNd_all hn
  clear hn
  obtain ⟨z0, hz0'⟩ : ∃ z : Nat, n.ver = (z : Int) := ⟨n.ver.toNat, by omega⟩
  have HZ0 : Hid (n.ver = (z0 : Int)) := hz0'
  have hb0 : z0 ≤ 2147483647 := by omega
  obtain ⟨z1, hz1'⟩ : ∃ z : Nat, n.cver = (z : Int) := ⟨n.cver.toNat, by omega⟩
  have HZ1 : Hid (n.cver = (z1 : Int)) := hz1'
  have hb1 : z1 ≤ 2147483647 := by omega
  obtain ⟨z2, hz2'⟩ : ∃ z : Nat, n.cz = (z : Int) := ⟨n.cz.toNat, by omega⟩
  have HZ2 : Hid (n.cz = (z2 : Int)) := hz2'
  have hb2 : z2 ≤ 2147483647 := by omega
  obtain ⟨z3, hz3'⟩ : ∃ z : Nat, n.mz = (z : Int) := ⟨n.mz.toNat, by omega⟩
  have HZ3 : Hid (n.mz = (z3 : Int)) := hz3'
  have hb3 : z3 ≤ 2147483647 := by omega
  obtain ⟨z4, hz4'⟩ : ∃ z : Nat, n.pz = (z : Int) := ⟨n.pz.toNat, by omega⟩
  have HZ4 : Hid (n.pz = (z4 : Int)) := hz4'
  have hb4 : z4 ≤ 2147483647 := by omega
  have HZ : Hid (nodeB n = txB n.path ++ txB n.data ++ bigR z0 4 ++ bigR z1 4 ++ bigR z2 4 ++ bigR z3 4 ++ bigR z4 4) := by
    show _ = _
    unfold nodeB stB
    simp [hz0', hz1', hz2', hz3', hz4']
  clear hz0' hz1' hz2' hz3' hz4' p3 p4 p5 p6 p7
  have X0 : Hid (BoxN (w.alloc (.cells #[.string n.path, .string n.data, .int .i64 n.ver, .int .i64 n.cver, .int .i64 n.cz, .int .i64 n.mz, .int .i64 n.pz] 81)) w.heap.size n) := BoxN.new _ _ _
  have B0 : Hid (Below w.heap.size w (w.alloc (.cells #[.string n.path, .string n.data, .int .i64 n.ver, .int .i64 n.cver, .int .i64 n.cz, .int .i64 n.mz, .int .i64 n.pz] 81))) := (Below.refl _ _).alloc (Nat.le_refl _) _
  go_enter Tryd.func90, Tryd.ntmps90
  go_wp2
  generalize w.alloc (.cells #[.string n.path, .string n.data, .int .i64 n.ver, .int .i64 n.cver, .int .i64 n.cz, .int .i64 n.mz, .int .i64 n.pz] 81) = w0 at *
  have s0 : w.heap.size + 1 ≤ w0.heap.size := X0.out.lt
  refine wp_region_held_drew (S := fun W => BoxN W w.heap.size n) (by kernel_rfl) (X0.out.below (below_drewN' w0 1)) (fun hHeld => ?_)
  refine wpAnyH_take (i := 0) (oi := { dst := some 4, op := _, type := _, pos := _, after := _, guard := _ }) (v := (.pointer (some ⟨w.heap.size, 0, none⟩))) rfl (by kernel_rfl) (by kernel_rfl) (by kernel_rfl) (fun _ _ _ h => h) (Or.inl ⟨by rfl, ?hy1⟩) (by assumption) ?rest1
  case hy1 =>
    intro w9 hS9
    obtain ⟨-, y0, y1, y2, y3, y4, y5, y6⟩ := hS9
    go_simp
    try with_reducible rfl
  try simp only [Act.put, List.setIfInBounds_toArray, List.set_cons_zero, List.set_cons_succ]
  refine wpAnyH_take (i := 1) (oi := { dst := some 5, op := _, type := _, pos := _, after := _, guard := _ }) (v := (.string n.path)) rfl (by kernel_rfl) (by kernel_rfl) (by kernel_rfl) (fun _ _ _ h => h) (Or.inl ⟨by rfl, ?hy2⟩) (by assumption) ?rest2
  case hy2 =>
    intro w9 hS9
    obtain ⟨-, y0, y1, y2, y3, y4, y5, y6⟩ := hS9
    go_simp
    try with_reducible rfl
  try simp only [Act.put, List.setIfInBounds_toArray, List.set_cons_zero, List.set_cons_succ]
  refine wpAnyH_take (i := 3) (oi := { dst := some 7, op := _, type := _, pos := _, after := _, guard := _ }) (v := (.pointer (some ⟨w.heap.size, 1, none⟩))) rfl (by kernel_rfl) (by kernel_rfl) (by kernel_rfl) (fun _ _ _ h => h) (Or.inl ⟨by rfl, ?hy3⟩) (by assumption) ?rest3
  case hy3 =>
    intro w9 hS9
    obtain ⟨-, y0, y1, y2, y3, y4, y5, y6⟩ := hS9
    go_simp
    try with_reducible rfl
  try simp only [Act.put, List.setIfInBounds_toArray, List.set_cons_zero, List.set_cons_succ]
  refine wpAnyH_take (i := 4) (oi := { dst := some 8, op := _, type := _, pos := _, after := _, guard := _ }) (v := (.string n.data)) rfl (by kernel_rfl) (by kernel_rfl) (by kernel_rfl) (fun _ _ _ h => h) (Or.inl ⟨by rfl, ?hy4⟩) (by assumption) ?rest4
  case hy4 =>
    intro w9 hS9
    obtain ⟨-, y0, y1, y2, y3, y4, y5, y6⟩ := hS9
    go_simp
    try with_reducible rfl
  try simp only [Act.put, List.setIfInBounds_toArray, List.set_cons_zero, List.set_cons_succ]
  refine wpAnyH_ready (rs := [2]) (by kernel_rfl) (by simp) ?_
  refine AllReadyH.cons (o := { dst := some 6, op := _, type := _, pos := _, after := _, guard := _ }) rfl (fun K hK => ?_) AllReadyH.nil
  go_simp
  refine (specText_any _ n.path (by omega)).mono ?_
  rintro e w1 ⟨v1, rfl, o1, b1⟩
  have X1 : Hid (BoxN w1 w.heap.size n) := (X0.out.below (below_drewN' w0 1)).below b1
  have B1 : Hid (Below w.heap.size w w1) := (B0.out.trans ((below_drewN' w0 1).mono B0.out.size)).trans (b1.mono (by show w.heap.size ≤ w0.heap.size; omega))
  have O1 : Hid (Own .u8 5 w1 (w.heap.size + 1) v1 (txB n.path)) := o1.mono s0
  clear o1 b1
  refine hK.out _ _ (X1.out) (fun hx9 => ?_)
  clear hK K hHeld hx9
  have hHeld := X1.out
  try simp only [Act.put, List.setIfInBounds_toArray, List.set_cons_zero, List.set_cons_succ]
  refine wpAnyH_ready (rs := [5]) (by kernel_rfl) (by simp) ?_
  refine AllReadyH.cons (o := { dst := some 9, op := _, type := _, pos := _, after := _, guard := _ }) rfl (fun K hK => ?_) AllReadyH.nil
  go_simp
  refine (specText_any _ n.data (by omega)).mono ?_
  rintro e w2 ⟨v2, rfl, o2, b2⟩
  have s1 : w.heap.size + 1 ≤ w1.heap.size := X1.out.lt
  have X2 : Hid (BoxN w2 w.heap.size n) := X1.out.below b2
  have B2 : Hid (Below w.heap.size w w2) := B1.out.trans (b2.mono (by omega))
  obtain ⟨g2, c2, hv2⟩ := own_full o2 (by rw [txB_len]; omega)
  rw [txB_len] at hv2
  subst hv2
  have O2 : Hid (w2.ownsRow (w.heap.size + 1) 5 1 v1 (1 + n.path.size) ((txB n.path).map (Value.int .u8))) := by have := O1.out.below b2; unfold Own at this; rw [txB_len] at this; exact this
  have N2 : Hid (∀ j u, ((txB n.data).map (Value.int .u8))[j]? = some u → w2.cell? ((⟨g2, 0, none⟩ : Addr).add j) = some u) := World.ownsRow.cells o2 rfl
  have s2 : w.heap.size + 1 ≤ w2.heap.size := X2.out.lt
  clear o2 b2 O1 X1 B1
  refine hK.out _ _ (X2.out) (fun hx9 => ?_)
  clear hK K hHeld hx9
  have hHeld := X2.out
  try simp only [Act.put, List.setIfInBounds_toArray, List.set_cons_zero, List.set_cons_succ]
  refine wpAnyH_ready (rs := [6]) (by kernel_rfl) (by simp) ?_
  refine AllReadyH.cons (o := { dst := some 10, op := _, type := _, pos := _, after := _, guard := _ }) rfl (fun K hK => ?_) AllReadyH.nil
  refine step_append rfl (.tmp 6) (.tmp 9) 45 rfl (w.heap.size + 1) 5 i0 (.int .u8 0) 1 1 Tryd.underlying45 hi hz0 hz1 hz2 rfl (by decide) v1 (1 + n.path.size) _ rfl O2.out ⟨g2, 0, none⟩ (1 + n.data.size) c2 ((txB n.data).map (Value.int .u8)) rfl (by rw [List.length_map, txB_len, Nat.mul_one]) N2.out (u8_oneCell _) (by unfold maxLen; omega) (by omega) s2 ?_
  intro v3 w3 ho3 hg3
  have b3 : Below (w.heap.size + 1) w2 w3 := (Below.refl _ _).grown hg3 s2 (fun q hq => (World.ownsRow.lt O2.out q hq).1)
  have X3 : Hid (BoxN w3 w.heap.size n) := X2.out.belowM b3 (by omega)
  have B3 : Hid (Below w.heap.size w w3) := B2.out.trans (b3.mono (by omega))
  have O3 : Hid (w3.ownsRow (w.heap.size + 1) 5 1 v3 (1 + n.path.size + (1 + n.data.size)) ((txB n.path ++ txB n.data).map (Value.int .u8))) := by show World.ownsRow _ _ _ _ _ _ _; rw [List.map_append]; exact ho3
  clear ho3 hg3 b3 O2 N2 X2 B2
  refine hK.out _ _ (X3.out) (fun hx9 => ?_)
  clear hK K hHeld hx9
  have hHeld := X3.out
  try simp only [Act.put, List.setIfInBounds_toArray, List.set_cons_zero, List.set_cons_succ]
  refine wpAnyH_take (i := 7) (oi := { dst := some 3, op := _, type := _, pos := _, after := _, guard := _ }) (v := v3) rfl (by kernel_rfl) (by kernel_rfl) (by kernel_rfl) (fun _ _ _ h => h) (Or.inl ⟨by rfl, ?hy5⟩) (by assumption) ?rest5
  case hy5 =>
    intro w9 hS9
    go_simp
  try simp only [Act.put, List.setIfInBounds_toArray, List.set_cons_zero, List.set_cons_succ]
  refine wpAnyH_done (by kernel_rfl) ?_ _
  clear hHeld
  obtain ⟨M, hM⟩ : ∃ M, M = 1 + n.path.size + (1 + n.data.size) := ⟨_, rfl⟩
  obtain ⟨L3, hL3⟩ : ∃ L, L = txB n.path ++ txB n.data := ⟨_, rfl⟩
  have hM2 : M ≤ 200 := by omega
  have HL3 : Hid (L3.length = M) := by show _ = _; rw [hL3, hM, List.length_append, txB_len, txB_len]
  rw [← hM, ← hL3] at O3
  rw [← hL3] at HZ
  clear hM hL3
  have s3 : w.heap.size + 1 ≤ w3.heap.size := X3.out.lt
  obtain ⟨-, y0, y1, y2, y3, y4, y5, y6⟩ := X3.out
  rw [HZ0.out] at y2
  go_wp2_with fail
  refine (specBig_any 4 _ z0 (by omega) (by omega)).mono ?_
  rintro e w4 ⟨v4, rfl, o4, b4⟩
  obtain ⟨g4, c4, hv4⟩ := own_full o4 (by rw [bigR_len]; omega)
  rw [bigR_len] at hv4
  subst hv4
  have X4 : Hid (BoxN w4 w.heap.size n) := X3.out.below b4
  have B4 : Hid (Below w.heap.size w w4) := B3.out.trans (b4.mono (by omega))
  have s4 : w.heap.size + 1 ≤ w4.heap.size := X4.out.lt
  have O4 : Hid (w4.ownsRow (w.heap.size + 1) 5 1 v3 M (L3.map (Value.int .u8))) := by
    refine World.ownsRow.kept O3.out (row := none) ⟨b4.os, b4.tape, b4.output, b4.size, fun k hk _ => b4.block k hk⟩ ?_
    cases hq : v3.ownBlock with
    | none => exact .inl rfl
    | some g => exact .inr (by simp)
  have N4 : Hid (∀ j u, ((bigR z0 4).map (Value.int .u8))[j]? = some u → w4.cell? ((⟨g4, 0, none⟩ : Addr).add j) = some u) := World.ownsRow.cells o4 rfl
  clear y0 y1 y2 y3 y4 y5 y6 o4 b4 X3 B3 O3
  go_wp2_with (at_builtin; go_must (refine wpList_append_own _ rfl _ _ 45 rfl (w.heap.size + 1) 5 i0 (.int .u8 0) 1 1 Tryd.underlying45 hi hz0 hz1 hz2 rfl (by decide) _ _ _ rfl O4.out ⟨g4, 0, none⟩ 4 c4 ((bigR z0 4).map (Value.int .u8)) rfl ?_ N4.out (u8_oneCell _) ?_ ?_ ?_ ?_))
  · rw [List.length_map, bigR_len]
  · unfold maxLen; omega
  · omega
  · exact s4
  intro v5 w5 ho5 hg5 _
  have b5 : Below (w.heap.size + 1) w4 w5 := (Below.refl _ _).grown hg5 s4 (fun q hq => (World.ownsRow.lt O4.out q hq).1)
  have X5 : Hid (BoxN w5 w.heap.size n) := X4.out.belowM b5 (by omega)
  have B5 : Hid (Below w.heap.size w w5) := B4.out.trans (b5.mono (by omega))
  have s5 : w.heap.size + 1 ≤ w5.heap.size := X5.out.lt
  obtain ⟨L5, hL5⟩ : ∃ L, L = L3 ++ bigR z0 4 := ⟨_, rfl⟩
  have O5 : Hid (w5.ownsRow (w.heap.size + 1) 5 1 v5 (M + 4) (L5.map (Value.int .u8))) := by
    show World.ownsRow _ _ _ _ _ _ _
    rw [hL5, List.map_append]; exact ho5
  have HL5 : Hid (L5.length = M + 4) := by show _ = _; rw [hL5, List.length_append, HL3.out, bigR_len]
  rw [← hL5] at HZ
  clear ho5 hg5 b5 X4 B4 O4 N4 hL5
  obtain ⟨-, y0, y1, y2, y3, y4, y5, y6⟩ := X5.out
  rw [HZ1.out] at y3
  go_wp2_with fail
  refine (specBig_any 4 _ z1 (by omega) (by omega)).mono ?_
  rintro e w6 ⟨v6, rfl, o6, b6⟩
  obtain ⟨g6, c6, hv6⟩ := own_full o6 (by rw [bigR_len]; omega)
  rw [bigR_len] at hv6
  subst hv6
  have X6 : Hid (BoxN w6 w.heap.size n) := X5.out.below b6
  have B6 : Hid (Below w.heap.size w w6) := B5.out.trans (b6.mono (by omega))
  have s6 : w.heap.size + 1 ≤ w6.heap.size := X6.out.lt
  have O6 : Hid (w6.ownsRow (w.heap.size + 1) 5 1 v5 (M + 4) (L5.map (Value.int .u8))) := by
    refine World.ownsRow.kept O5.out (row := none) ⟨b6.os, b6.tape, b6.output, b6.size, fun k hk _ => b6.block k hk⟩ ?_
    cases hq : v5.ownBlock with
    | none => exact .inl rfl
    | some g => exact .inr (by simp)
  have N6 : Hid (∀ j u, ((bigR z1 4).map (Value.int .u8))[j]? = some u → w6.cell? ((⟨g6, 0, none⟩ : Addr).add j) = some u) := World.ownsRow.cells o6 rfl
  clear y0 y1 y2 y3 y4 y5 y6 o6 b6 X5 B5 O5
  go_wp2_with (at_builtin; go_must (refine wpList_append_own _ rfl _ _ 45 rfl (w.heap.size + 1) 5 i0 (.int .u8 0) 1 1 Tryd.underlying45 hi hz0 hz1 hz2 rfl (by decide) _ _ _ rfl O6.out ⟨g6, 0, none⟩ 4 c6 ((bigR z1 4).map (Value.int .u8)) rfl ?_ N6.out (u8_oneCell _) ?_ ?_ ?_ ?_))
  · rw [List.length_map, bigR_len]
  · unfold maxLen; omega
  · omega
  · exact s6
  intro v7 w7 ho7 hg7 _
  have b7 : Below (w.heap.size + 1) w6 w7 := (Below.refl _ _).grown hg7 s6 (fun q hq => (World.ownsRow.lt O6.out q hq).1)
  have X7 : Hid (BoxN w7 w.heap.size n) := X6.out.belowM b7 (by omega)
  have B7 : Hid (Below w.heap.size w w7) := B6.out.trans (b7.mono (by omega))
  have s7 : w.heap.size + 1 ≤ w7.heap.size := X7.out.lt
  obtain ⟨L7, hL7⟩ : ∃ L, L = L5 ++ bigR z1 4 := ⟨_, rfl⟩
  have O7 : Hid (w7.ownsRow (w.heap.size + 1) 5 1 v7 (M + 8) (L7.map (Value.int .u8))) := by
    show World.ownsRow _ _ _ _ _ _ _
    rw [hL7, List.map_append]; exact ho7
  have HL7 : Hid (L7.length = M + 8) := by show _ = _; rw [hL7, List.length_append, HL5.out, bigR_len]
  rw [← hL7] at HZ
  clear ho7 hg7 b7 X6 B6 O6 N6 hL7
  obtain ⟨-, y0, y1, y2, y3, y4, y5, y6⟩ := X7.out
  rw [HZ2.out] at y4
  go_wp2_with fail
  refine (specBig_any 4 _ z2 (by omega) (by omega)).mono ?_
  rintro e w8 ⟨v8, rfl, o8, b8⟩
  obtain ⟨g8, c8, hv8⟩ := own_full o8 (by rw [bigR_len]; omega)
  rw [bigR_len] at hv8
  subst hv8
  have X8 : Hid (BoxN w8 w.heap.size n) := X7.out.below b8
  have B8 : Hid (Below w.heap.size w w8) := B7.out.trans (b8.mono (by omega))
  have s8 : w.heap.size + 1 ≤ w8.heap.size := X8.out.lt
  have O8 : Hid (w8.ownsRow (w.heap.size + 1) 5 1 v7 (M + 8) (L7.map (Value.int .u8))) := by
    refine World.ownsRow.kept O7.out (row := none) ⟨b8.os, b8.tape, b8.output, b8.size, fun k hk _ => b8.block k hk⟩ ?_
    cases hq : v7.ownBlock with
    | none => exact .inl rfl
    | some g => exact .inr (by simp)
  have N8 : Hid (∀ j u, ((bigR z2 4).map (Value.int .u8))[j]? = some u → w8.cell? ((⟨g8, 0, none⟩ : Addr).add j) = some u) := World.ownsRow.cells o8 rfl
  clear y0 y1 y2 y3 y4 y5 y6 o8 b8 X7 B7 O7
  go_wp2_with (at_builtin; go_must (refine wpList_append_own _ rfl _ _ 45 rfl (w.heap.size + 1) 5 i0 (.int .u8 0) 1 1 Tryd.underlying45 hi hz0 hz1 hz2 rfl (by decide) _ _ _ rfl O8.out ⟨g8, 0, none⟩ 4 c8 ((bigR z2 4).map (Value.int .u8)) rfl ?_ N8.out (u8_oneCell _) ?_ ?_ ?_ ?_))
  · rw [List.length_map, bigR_len]
  · unfold maxLen; omega
  · omega
  · exact s8
  intro v9 w9 ho9 hg9 _
  have b9 : Below (w.heap.size + 1) w8 w9 := (Below.refl _ _).grown hg9 s8 (fun q hq => (World.ownsRow.lt O8.out q hq).1)
  have X9 : Hid (BoxN w9 w.heap.size n) := X8.out.belowM b9 (by omega)
  have B9 : Hid (Below w.heap.size w w9) := B8.out.trans (b9.mono (by omega))
  have s9 : w.heap.size + 1 ≤ w9.heap.size := X9.out.lt
  obtain ⟨L9, hL9⟩ : ∃ L, L = L7 ++ bigR z2 4 := ⟨_, rfl⟩
  have O9 : Hid (w9.ownsRow (w.heap.size + 1) 5 1 v9 (M + 12) (L9.map (Value.int .u8))) := by
    show World.ownsRow _ _ _ _ _ _ _
    rw [hL9, List.map_append]; exact ho9
  have HL9 : Hid (L9.length = M + 12) := by show _ = _; rw [hL9, List.length_append, HL7.out, bigR_len]
  rw [← hL9] at HZ
  clear ho9 hg9 b9 X8 B8 O8 N8 hL9
  obtain ⟨-, y0, y1, y2, y3, y4, y5, y6⟩ := X9.out
  rw [HZ3.out] at y5
  go_wp2_with fail
  refine (specBig_any 4 _ z3 (by omega) (by omega)).mono ?_
  rintro e w10 ⟨v10, rfl, o10, b10⟩
  obtain ⟨g10, c10, hv10⟩ := own_full o10 (by rw [bigR_len]; omega)
  rw [bigR_len] at hv10
  subst hv10
  have X10 : Hid (BoxN w10 w.heap.size n) := X9.out.below b10
  have B10 : Hid (Below w.heap.size w w10) := B9.out.trans (b10.mono (by omega))
  have s10 : w.heap.size + 1 ≤ w10.heap.size := X10.out.lt
  have O10 : Hid (w10.ownsRow (w.heap.size + 1) 5 1 v9 (M + 12) (L9.map (Value.int .u8))) := by
    refine World.ownsRow.kept O9.out (row := none) ⟨b10.os, b10.tape, b10.output, b10.size, fun k hk _ => b10.block k hk⟩ ?_
    cases hq : v9.ownBlock with
    | none => exact .inl rfl
    | some g => exact .inr (by simp)
  have N10 : Hid (∀ j u, ((bigR z3 4).map (Value.int .u8))[j]? = some u → w10.cell? ((⟨g10, 0, none⟩ : Addr).add j) = some u) := World.ownsRow.cells o10 rfl
  clear y0 y1 y2 y3 y4 y5 y6 o10 b10 X9 B9 O9
  go_wp2_with (at_builtin; go_must (refine wpList_append_own _ rfl _ _ 45 rfl (w.heap.size + 1) 5 i0 (.int .u8 0) 1 1 Tryd.underlying45 hi hz0 hz1 hz2 rfl (by decide) _ _ _ rfl O10.out ⟨g10, 0, none⟩ 4 c10 ((bigR z3 4).map (Value.int .u8)) rfl ?_ N10.out (u8_oneCell _) ?_ ?_ ?_ ?_))
  · rw [List.length_map, bigR_len]
  · unfold maxLen; omega
  · omega
  · exact s10
  intro v11 w11 ho11 hg11 _
  have b11 : Below (w.heap.size + 1) w10 w11 := (Below.refl _ _).grown hg11 s10 (fun q hq => (World.ownsRow.lt O10.out q hq).1)
  have X11 : Hid (BoxN w11 w.heap.size n) := X10.out.belowM b11 (by omega)
  have B11 : Hid (Below w.heap.size w w11) := B10.out.trans (b11.mono (by omega))
  have s11 : w.heap.size + 1 ≤ w11.heap.size := X11.out.lt
  obtain ⟨L11, hL11⟩ : ∃ L, L = L9 ++ bigR z3 4 := ⟨_, rfl⟩
  have O11 : Hid (w11.ownsRow (w.heap.size + 1) 5 1 v11 (M + 16) (L11.map (Value.int .u8))) := by
    show World.ownsRow _ _ _ _ _ _ _
    rw [hL11, List.map_append]; exact ho11
  have HL11 : Hid (L11.length = M + 16) := by show _ = _; rw [hL11, List.length_append, HL9.out, bigR_len]
  rw [← hL11] at HZ
  clear ho11 hg11 b11 X10 B10 O10 N10 hL11
  obtain ⟨-, y0, y1, y2, y3, y4, y5, y6⟩ := X11.out
  rw [HZ4.out] at y6
  go_wp2_with fail
  refine (specBig_any 4 _ z4 (by omega) (by omega)).mono ?_
  rintro e w12 ⟨v12, rfl, o12, b12⟩
  obtain ⟨g12, c12, hv12⟩ := own_full o12 (by rw [bigR_len]; omega)
  rw [bigR_len] at hv12
  subst hv12
  have X12 : Hid (BoxN w12 w.heap.size n) := X11.out.below b12
  have B12 : Hid (Below w.heap.size w w12) := B11.out.trans (b12.mono (by omega))
  have s12 : w.heap.size + 1 ≤ w12.heap.size := X12.out.lt
  have O12 : Hid (w12.ownsRow (w.heap.size + 1) 5 1 v11 (M + 16) (L11.map (Value.int .u8))) := by
    refine World.ownsRow.kept O11.out (row := none) ⟨b12.os, b12.tape, b12.output, b12.size, fun k hk _ => b12.block k hk⟩ ?_
    cases hq : v11.ownBlock with
    | none => exact .inl rfl
    | some g => exact .inr (by simp)
  have N12 : Hid (∀ j u, ((bigR z4 4).map (Value.int .u8))[j]? = some u → w12.cell? ((⟨g12, 0, none⟩ : Addr).add j) = some u) := World.ownsRow.cells o12 rfl
  clear y0 y1 y2 y3 y4 y5 y6 o12 b12 X11 B11 O11
  go_wp2_with (at_builtin; go_must (refine wpList_append_own _ rfl _ _ 45 rfl (w.heap.size + 1) 5 i0 (.int .u8 0) 1 1 Tryd.underlying45 hi hz0 hz1 hz2 rfl (by decide) _ _ _ rfl O12.out ⟨g12, 0, none⟩ 4 c12 ((bigR z4 4).map (Value.int .u8)) rfl ?_ N12.out (u8_oneCell _) ?_ ?_ ?_ ?_))
  · rw [List.length_map, bigR_len]
  · unfold maxLen; omega
  · omega
  · exact s12
  intro v13 w13 ho13 hg13 _
  have b13 : Below (w.heap.size + 1) w12 w13 := (Below.refl _ _).grown hg13 s12 (fun q hq => (World.ownsRow.lt O12.out q hq).1)
  have X13 : Hid (BoxN w13 w.heap.size n) := X12.out.belowM b13 (by omega)
  have B13 : Hid (Below w.heap.size w w13) := B12.out.trans (b13.mono (by omega))
  have s13 : w.heap.size + 1 ≤ w13.heap.size := X13.out.lt
  obtain ⟨L13, hL13⟩ : ∃ L, L = L11 ++ bigR z4 4 := ⟨_, rfl⟩
  have O13 : Hid (w13.ownsRow (w.heap.size + 1) 5 1 v13 (M + 20) (L13.map (Value.int .u8))) := by
    show World.ownsRow _ _ _ _ _ _ _
    rw [hL13, List.map_append]; exact ho13
  have HL13 : Hid (L13.length = M + 20) := by show _ = _; rw [hL13, List.length_append, HL11.out, bigR_len]
  rw [← hL13] at HZ
  clear ho13 hg13 b13 X12 B12 O12 N12 hL13
  go_wp2
  go_ret
  exact ⟨_, rfl, (own_of HL13.out HZ.out O13.out).mono (Nat.le_succ _), B13.out⟩

end Go.Proofs.YtgjenbgclpmjmaaDoor

namespace Go.Proofs.YtgjenbgclpmjmaaDoor
open Go.RowKit Go.Shelf

theorem ownsRow_keep {w w' : World} {lo n z : Nat} {e : TypeId} {v : Value} {us : List Value} (ho : w.ownsRow lo e z v n us) (hb : Below w.heap.size w w') : w'.ownsRow lo e z v n us := by
  refine ⟨ho.1, ?_⟩
  rcases ho.2 with hn | ⟨g, cap, cur, rfl, hbg, hgg, rest⟩
  · exact .inl hn
  · exact .inr ⟨g, cap, cur, rfl, hbg, by rw [hb.block g (Array.getElem?_eq_some_iff.1 hgg).1]; exact hgg, rest⟩

set_option maxHeartbeats 1000000 in
set_option maxRecDepth 100000 in
theorem sNodes_row (w : World) (b o n cap : Nat) (ns : List Nd) (hp : ns.length = n) (hn : n ≤ 1000) (hb : b < w.heap.size) (hc : ∀ i, i < n → CellsN w b (o + i * 7) (nAt ns i)) (hok : ∀ i, i < n → okNd (nAt ns i) = true) :
    Calls Tryd.prog 86 #[.slice (some ⟨b, o, none⟩) n cap] w fun e w' => ∃ v', e = .returned v' ∧ Own .u8 5 w' w.heap.size v' (nodesB ns) ∧ Below w.heap.size w w' := by
  obtain ⟨i0, hi, hz0, hz1, hz2⟩ := info_parts Tryd.infoB
  have HC : Hid (∀ i, i < n → CellsN w b (o + i * 7) (nAt ns i)) := hc
  have HP : Hid (ns.length = n) := hp
  have HOK : Hid (∀ k, k < n → okNd (nAt ns k) = true) := hok
  have HLN : Hid (∀ k, k ≤ n → (nodesB (ns.take k)).length ≤ k * 188) := fun k hk => nodesB_len (fun k hk => hok k (by rw [← hp]; exact hk)) k (by rw [hp]; exact hk)
  have O0 : Hid (Own .u8 5 (w.alloc (.cells #[] 5)) w.heap.size (.slice (some ⟨w.heap.size, 0, none⟩) 0 0) (nodesB (ns.take 0))) := World.ownsRow_lit w #[] 0 (Nat.le_refl _) (Nat.zero_le _) rfl
  have B0 : Hid (Below w.heap.size w (w.alloc (.cells #[] 5))) := (Below.refl _ _).alloc (Nat.le_refl _) _
  clear hc hp hok
  go_enter Tryd.func86, Tryd.ntmps86
  go_wp2
  go_loopw [3, 4] (fun vo vk wr => ∃ k : Nat, k ≤ n ∧ vk = .int .i64 k ∧ Hid (Own .u8 5 wr w.heap.size vo (nodesB (ns.take k))) ∧ Hid (Below w.heap.size w wr)) (fun _ i _ => n - (intOf i).toNat)
  case atStart => exact ⟨0, Nat.zero_le _, rfl, O0, B0⟩
  case round =>
    obtain ⟨k, hk, rfl, HW, HB⟩ := hrel
    have sB := HB.out.size
    by_cases hlt : k < n
    · have hltI : (k : Int) < (n : Int) := by omega
      obtain ⟨c0, c1, c2, c3, c4, c5, c6⟩ := (HC.out k hlt).below HB.out hb
      go_wp2_with fail
      clear c0 c1 c2 c3 c4 c5 c6
      refine (sNode_any _ (nAt ns k) (HOK.out k hlt)).mono ?_
      rintro e w1 ⟨v1, rfl, o1, b1⟩
      have hl1 : (nodeB (nAt ns k)).length ≤ 188 ∧ 0 < (nodeB (nAt ns k)).length := by
        have := okNd_all (HOK.out k hlt)
        rw [nodeB_len]; omega
      have hl0 := HLN.out k hk
      obtain ⟨g1, q1, hv1⟩ := own_full o1 hl1.2
      obtain ⟨L, hL⟩ : ∃ L, L = nodesB (ns.take k) := ⟨_, rfl⟩
      obtain ⟨N, hN⟩ : ∃ N, N = nodeB (nAt ns k) := ⟨_, rfl⟩
      have HS : Hid (L ++ N = nodesB (ns.take (k + 1))) := by show _ = _; rw [hL, hN]; exact nodesB_succ ns k (by rw [HP.out]; exact hlt)
      rw [← hN] at hv1 o1 hl1
      rw [← hL] at HW hl0
      generalize hm : N.length = m at *
      have HM : Hid (N.length = m) := hm
      subst hv1
      have O1 : Hid (w1.ownsRow w.heap.size 5 1 u3 L.length (L.map (Value.int .u8))) := HW.out.below b1
      have N1 : Hid (∀ j u, (N.map (Value.int .u8))[j]? = some u → w1.cell? ((⟨g1, 0, none⟩ : Addr).add j) = some u) := World.ownsRow.cells o1 rfl
      have B1 : Hid (Below w.heap.size w w1) := HB.out.trans (b1.mono sB)
      have s1 := B1.out.size
      clear o1 b1 HW HB hL hN hm
      go_wp2_with (at_builtin; go_must (refine wpList_append_own _ rfl _ _ 45 rfl w.heap.size 5 i0 (.int .u8 0) 1 1 Tryd.underlying45 hi hz0 hz1 hz2 rfl (by decide) _ _ _ rfl O1.out ⟨g1, 0, none⟩ m q1 (N.map (Value.int .u8)) rfl ?_ N1.out (u8_oneCell _) ?_ ?_ ?_ ?_))
      · rw [List.length_map, HM.out, Nat.mul_one]
      · unfold maxLen; omega
      · omega
      · exact s1
      intro v2 w2 ho2 hg2 _
      have O2 : Hid (Own .u8 5 w2 w.heap.size v2 (nodesB (ns.take (k + 1)))) := by
        refine own_of (q := L.length + m) (ys := L ++ N) (by rw [List.length_append, HM.out]) HS.out.symm ?_
        rw [List.map_append]; exact ho2
      have B2 : Hid (Below w.heap.size w w2) := B1.out.grown hg2 s1 (fun q hq => (World.ownsRow.lt O1.out q hq).1)
      clear ho2 hg2 O1 N1 B1 HS HM hl0 hl1
      go_wp2
      exact ⟨⟨k + 1, by omega, by go_num, O2, B2⟩, by simp [intOf]; omega⟩
    · have hkn : k = n := by omega
      subst hkn
      go_wp2
      go_ret
      refine ⟨_, rfl, ?_, HB.out⟩
      rw [← nodesB_all ns k (by rw [HP.out]; exact Nat.le_refl _)]
      exact HW.out

set_option maxHeartbeats 1000000 in
set_option maxRecDepth 100000 in
theorem sNodes_nil (w : World) (ao : Option Addr) (cap : Nat) :
    Calls Tryd.prog 86 #[.slice ao 0 cap] w fun e w' => ∃ v', e = .returned v' ∧ Own .u8 5 w' w.heap.size v' [] ∧ Below w.heap.size w w' := by
  have O0 : Hid (Own .u8 5 (w.alloc (.cells #[] 5)) w.heap.size (.slice (some ⟨w.heap.size, 0, none⟩) 0 0) []) := World.ownsRow_lit w #[] 0 (Nat.le_refl _) (Nat.zero_le _) rfl
  have B0 : Hid (Below w.heap.size w (w.alloc (.cells #[] 5))) := (Below.refl _ _).alloc (Nat.le_refl _) _
  go_enter Tryd.func86, Tryd.ntmps86
  go_wp2
  go_rounds 1
  go_ret
  exact ⟨_, rfl, O0.out, B0.out⟩

theorem sNodes_any (w : World) (v : Value) (ns : List Nd) (h : RdN w v ns) (hn : ns.length ≤ 1000) (hok : ∀ i, i < ns.length → okNd (nAt ns i) = true) :
    Calls Tryd.prog 86 #[v] w fun e w' => ∃ v', e = .returned v' ∧ Own .u8 5 w' w.heap.size v' (nodesB ns) ∧ Below w.heap.size w w' := by
  obtain ⟨ao, cap, rfl, h1, h2, h3⟩ := h
  rcases h3 with rfl | ⟨b, o, rfl, hb, hc⟩
  · exact sNodes_nil w ao cap
  · exact sNodes_row w b o ns.length cap ns rfl hn hb hc hok

set_option maxHeartbeats 1000000 in
set_option maxRecDepth 100000 in
theorem sTree_any (w : World) (v : Value) (ns : List Nd) (h : RdN w v ns) (hn : ns.length ≤ 1048576) (hsz : ∀ i, (nAt ns i).path.size ≤ 1048576 ∧ (nAt ns i).data.size ≤ 1048576) :
    Calls Tryd.prog 43 #[.agg #[v]] w fun e w' => ∃ v', e = .returned v' ∧ Own .u8 5 w' w.heap.size v' (treeB ns) ∧ Below w.heap.size w w' := by
  obtain ⟨ao, ca, rfl, _, _⟩ := h.len
  have HR : Hid (RdN w (.slice ao ns.length ca) ns) := h
  have HZ : Hid (∀ i, (nAt ns i).path.size ≤ 1048576 ∧ (nAt ns i).data.size ≤ 1048576) := hsz
  have B0 : Hid (Below w.heap.size w (w.alloc (.cells #[.slice ao ns.length ca] 30))) := (Below.refl _ _).alloc (Nat.le_refl _) _
  have X0 : Hid (Boxed (w.alloc (.cells #[.slice ao ns.length ca] 30)) w.heap.size 30 (.slice ao ns.length ca)) := Boxed.new _ _ _
  clear h hsz
  go_enter Tryd.func43, Tryd.ntmps43
  go_wp2_with fail
  generalize w.alloc (.cells #[.slice ao ns.length ca] 30) = w0 at *
  refine (specTree_any _ _ ns (HR.out.below B0.out) hn HZ.out).mono ?_
  rintro e w1 ⟨rfl, b1⟩
  have B1 : Hid (Below w.heap.size w w1) := B0.out.trans (b1.mono B0.out.size)
  have X1 : Hid (Boxed w1 w.heap.size 30 (.slice ao ns.length ca)) := boxed_below b1 X0.out
  clear b1 X0 B0
  have s1 := B1.out.size
  by_cases hok : okTree ns = true
  rotate_left
  · have hok' : okTree ns = false := by simpa using hok
    have HT : Hid (treeB ns = []) := by show _ = _; unfold treeB; rw [if_neg hok]
    have O2 : Hid (Own .u8 5 (w1.alloc (.cells #[] 5)) w.heap.size (.slice (some ⟨w1.heap.size, 0, none⟩) 0 0) []) := Own.mono (World.ownsRow_lit w1 #[] 0 (Nat.le_refl _) (Nat.zero_le _) rfl) s1
    rw [hok']
    clear hok hok'
    go_wp2
    go_ret
    exact ⟨_, rfl, (by rw [HT.out]; exact O2.out), B1.out.alloc s1 _⟩
  have HT : Hid (treeB ns = nodesB ns) := by show _ = _; unfold treeB; rw [if_pos hok]
  have HOK : Hid (∀ k, k < ns.length → okNd (nAt ns k) = true) := fun k hk => okTree_nd hok k hk
  have hn2 := okTree_len hok
  rw [hok]
  clear hok
  have c0 := X1.out.cell
  go_wp2_with fail
  refine (sNodes_any _ _ ns (HR.out.below B1.out) hn2 HOK.out).mono ?_
  rintro e w2 ⟨v2, rfl, o2, b2⟩
  have O2 : Hid (Own .u8 5 w2 w.heap.size v2 (treeB ns)) := by rw [HT.out]; exact o2.mono s1
  have B2 : Hid (Below w.heap.size w w2) := B1.out.trans (b2.mono s1)
  clear o2 b2 c0
  go_wp2
  go_ret
  exact ⟨_, rfl, O2.out, B2.out⟩

end Go.Proofs.YtgjenbgclpmjmaaDoor

namespace Go.Proofs.YtgjenbgclpmjmaaDoor
open Go.RowKit Go.Shelf

/-- What came in: a tree of the laws' own type. -/
def InT (w : World) (v : Value) (ns : List Nd) : Prop := RdN w v ns ∧ ∀ i, (nAt ns i).path.size ≤ maxLen ∧ (nAt ns i).data.size ≤ maxLen

set_option maxHeartbeats 2000000 in
set_option maxRecDepth 100000 in
theorem lawTree_walk (w : World) (v : Value) (ns : List Nd) (h : InT w v ns) :
    Calls Tryd.prog 4 #[.agg #[v]] w fun e w' => e = .returned (.bool true) ∧ Below w.heap.size w w' := by
  obtain ⟨hr, hsz⟩ := h
  obtain ⟨ao, ca, rfl, _, _⟩ := hr.len
  have B0 : Hid (Below w.heap.size w (w.alloc (.cells #[.slice ao ns.length ca] 25))) := (Below.refl _ _).alloc (Nat.le_refl _) _
  have X0 : Hid (Boxed (w.alloc (.cells #[.slice ao ns.length ca] 25)) w.heap.size 25 (.slice ao ns.length ca)) := Boxed.new _ _ _
  have HR : Hid (RdN w (.slice ao ns.length ca) ns) := hr
  have HZ : Hid (∀ i, (nAt ns i).path.size ≤ maxLen ∧ (nAt ns i).data.size ≤ maxLen) := hsz
  clear hr hsz
  go_enter Tryd.func4, Tryd.ntmps4
  go_wp2_with fail
  generalize w.alloc (.cells #[.slice ao ns.length ca] 25) = w0 at *
  refine (szTree_any _ _ ns (HR.out.below B0.out) HZ.out 1048576 (by omega) (by omega)).mono ?_
  rintro e w1 ⟨r, rfl, hsz, b1⟩
  have B1 : Hid (Below w.heap.size w w1) := B0.out.trans (b1.mono B0.out.size)
  have X1 : Hid (Boxed w1 w.heap.size 25 (.slice ao ns.length ca)) := boxed_below b1 X0.out
  clear b1 X0 B0
  by_cases hneg : r < 0
  · clear hsz
    go_wp2
    go_ret
    exact ⟨rfl, B1.out⟩
  · have hsz' : r + ns.length + totN ns = 1048576 := by omega
    have hn : ns.length ≤ 1048576 := by omega
    have hd : Hid (∀ i, (nAt ns i).path.size ≤ 1048576 ∧ (nAt ns i).data.size ≤ 1048576) := fun i => by have := totN_ge ns i; omega
    clear hsz hsz'
    have c0 := X1.out.cell
    go_wp2_with fail
    refine (toTree_any _ _ ns (HR.out.below B1.out) hn).mono ?_
    rintro e w2 ⟨a2, k2, rfl, o2, b2⟩
    have Q2 : Hid (RdN w2 (.slice a2 ns.length k2) ns) := o2.rd
    have B2 : Hid (Below w.heap.size w w2) := B1.out.trans (b2.mono B1.out.size)
    have X2 : Hid (Boxed w2 w.heap.size 25 (.slice ao ns.length ca)) := boxed_below b2 X1.out
    clear o2 b2 c0 X1
    go_wp2_with fail
    refine (specTree_any _ _ ns Q2.out hn hd.out).mono ?_
    rintro e w3 ⟨rfl, b3⟩
    have B3 : Hid (Below w.heap.size w w3) := B2.out.trans (b3.mono B2.out.size)
    have X3 : Hid (Boxed w3 w.heap.size 25 (.slice ao ns.length ca)) := boxed_below b3 X2.out
    clear b3 Q2 X2
    have c0 := X3.out.cell
    go_wp2_with fail
    refine (toTree_any _ _ ns (HR.out.below B3.out) hn).mono ?_
    rintro e w4 ⟨a4, k4, rfl, o4, b4⟩
    have Q4 : Hid (RdN w4 (.slice a4 ns.length k4) ns) := o4.rd
    have B4 : Hid (Below w.heap.size w w4) := B3.out.trans (b4.mono B3.out.size)
    have X4 : Hid (Boxed w4 w.heap.size 25 (.slice ao ns.length ca)) := boxed_below b4 X3.out
    clear o4 b4 c0 X3
    go_wp2_with fail
    have BA : Hid (Below w4.heap.size w4 (w4.alloc (.cells #[.slice a4 ns.length k4] 30))) := (Below.refl _ _).alloc (Nat.le_refl _) _
    have Y5 : Hid (Boxed (w4.alloc (.cells #[.slice a4 ns.length k4] 30)) w4.heap.size 30 (.slice a4 ns.length k4)) := Boxed.new _ _ _
    generalize w4.alloc (.cells #[.slice a4 ns.length k4] 30) = w5 at *
    have B5 : Hid (Below w.heap.size w w5) := B4.out.trans (BA.out.mono B4.out.size)
    have X5 : Hid (Boxed w5 w.heap.size 25 (.slice ao ns.length ca)) := boxed_below BA.out X4.out
    have Q5 : Hid (RdN w5 (.slice a4 ns.length k4) ns) := Q4.out.below BA.out
    clear X4 Q4 BA
    refine (implTree_any _ _ ns Q5.out hd.out).mono ?_
    rintro e w6 ⟨rfl, b6⟩
    have B6 : Hid (Below w.heap.size w w6) := B5.out.trans (b6.mono B5.out.size)
    have X6 : Hid (Boxed w6 w.heap.size 25 (.slice ao ns.length ca)) := boxed_below b6 X5.out
    have Y6 : Hid (Boxed w6 w4.heap.size 30 (.slice a4 ns.length k4)) := boxed_below b6 Y5.out
    have Q6 : Hid (RdN w6 (.slice a4 ns.length k4) ns) := Q5.out.below b6
    clear b6 X5 Y5 Q5 B5
    generalize okTree ns = vv at *
    have hvv : (vv != vv) = false := by simp
    have c0 := X6.out.cell
    have d0 := Y6.out.cell
    have HT : Hid (∀ q, Calls Tryd.prog 16 #[.agg #[.slice ao ns.length ca]] (w6.drewN q) fun e w' => ∃ a c, e = .returned (.agg #[.slice a ns.length c]) ∧ Hid (RdN w' (.slice a ns.length c) ns) ∧ Hid (RdN w' (.slice a4 ns.length k4) ns) ∧ w'.cell? ⟨w4.heap.size, 0, none⟩ = some (.slice a4 ns.length k4) ∧ Hid (Below w.heap.size w w')) := by
      intro q
      refine (toTree_any _ _ ns ((HR.out.below B6.out).below (below_drewN' w6 q)) hn).mono ?_
      rintro e w' ⟨a, c, rfl, o', b'⟩
      have b6' : Below w6.heap.size w6 w' := (below_drewN' w6 q).trans b'
      exact ⟨a, c, rfl, o'.rd, Q6.out.below b6', (boxed_below b6' Y6.out).cell, B6.out.trans (b6'.mono B6.out.size)⟩
    go_wp2
    go_region_with (first | (go_at_call 16; refine (HT.out 1).mono ?_; rintro e w' ⟨a, c, rfl, r1, r2, k0, bw⟩) | (go_at_call 18; refine (eqTree_same _ _ _ ns r2.out r1.out hn).mono ?_; rintro e w'' ⟨rfl, b''⟩))
    all_goals
      have HB : Hid (Below w.heap.size w w'') := bw.out.trans (b''.mono bw.out.size)
      clear b'' k0
      go_wp2
      go_ret
      exact ⟨rfl, HB.out⟩

end Go.Proofs.YtgjenbgclpmjmaaDoor

namespace Go.Proofs.YtgjenbgclpmjmaaDoor
open Go.RowKit Go.Shelf

theorem own_apart {k : IntKind} {e e' : TypeId} {w w' : World} {B B' : Nat} {v v' : Value} {xs xs' : List Int} (h : Own k e w B v xs) (h' : Own k e' w' B' v' xs') (hlt : w.heap.size ≤ B') : v.ownBlock = none ∨ v.ownBlock ≠ v'.ownBlock := by
  cases hv : v.ownBlock with
  | none => exact .inl rfl
  | some g =>
    refine .inr fun e => ?_
    have h1 := (h.lt g hv).2
    have h2 := (h'.lt g e.symm).1
    omega
theorem Own.keepT {w w' : World} {lo : Nat} {v : Value} {xs : List Int} {t : TypeId} (h : Own .u8 5 w lo v xs) (hk : KT t w w') (ht : 5 ≠ t) : Own .u8 5 w' lo v xs := by
  refine ⟨h.1, ?_⟩
  rcases h.2 with hn | ⟨g, cap, cur, rfl, hbg, hgg, rest⟩
  · exact .inl hn
  · exact .inr ⟨g, cap, cur, rfl, hbg, hk.box hgg ht, rest⟩

set_option maxHeartbeats 2000000 in
set_option maxRecDepth 100000 in
theorem lawEncTree_walk (w : World) (v : Value) (ns : List Nd) (h : InT w v ns) :
    Calls Tryd.prog 9 #[.agg #[v]] w fun e w' => e = .returned (.bool true) ∧ Below w.heap.size w w' := by
  obtain ⟨hr, hsz⟩ := h
  obtain ⟨ao, ca, rfl, _, _⟩ := hr.len
  have B0 : Hid (Below w.heap.size w (w.alloc (.cells #[.slice ao ns.length ca] 25))) := (Below.refl _ _).alloc (Nat.le_refl _) _
  have X0 : Hid (Boxed (w.alloc (.cells #[.slice ao ns.length ca] 25)) w.heap.size 25 (.slice ao ns.length ca)) := Boxed.new _ _ _
  have HR : Hid (RdN w (.slice ao ns.length ca) ns) := hr
  have HZ : Hid (∀ i, (nAt ns i).path.size ≤ maxLen ∧ (nAt ns i).data.size ≤ maxLen) := hsz
  clear hr hsz
  go_enter Tryd.func9, Tryd.ntmps9
  go_wp2_with fail
  generalize w.alloc (.cells #[.slice ao ns.length ca] 25) = w0 at *
  refine (szTree_any _ _ ns (HR.out.below B0.out) HZ.out 1048576 (by omega) (by omega)).mono ?_
  rintro e w1 ⟨r, rfl, hsz, b1⟩
  have B1 : Hid (Below w.heap.size w w1) := B0.out.trans (b1.mono B0.out.size)
  have X1 : Hid (Boxed w1 w.heap.size 25 (.slice ao ns.length ca)) := boxed_below b1 X0.out
  clear b1 X0 B0
  by_cases hneg : r < 0
  · clear hsz
    go_wp2
    go_ret
    exact ⟨rfl, B1.out⟩
  have hsz' : r + ns.length + totN ns = 1048576 := by omega
  have hn : ns.length ≤ 1048576 := by omega
  have hd : Hid (∀ i, (nAt ns i).path.size ≤ 1048576 ∧ (nAt ns i).data.size ≤ 1048576) := fun i => by have := totN_ge ns i; omega
  clear hsz hsz'
  have hls := treeB_len ns
  obtain ⟨L, hL⟩ : ∃ L, L = treeB ns := ⟨_, rfl⟩
  rw [← hL] at hls
  have HL : Hid (treeB ns = L) := hL.symm
  clear hL
  have c0 := X1.out.cell
  go_wp2_with fail
  refine (toTree_any _ _ ns (HR.out.below B1.out) hn).mono ?_
  rintro e w2 ⟨a2, k2, rfl, o2, b2⟩
  have Q2 : Hid (RdN w2 (.slice a2 ns.length k2) ns) := o2.rd
  have B2 : Hid (Below w.heap.size w w2) := B1.out.trans (b2.mono B1.out.size)
  have X2 : Hid (Boxed w2 w.heap.size 25 (.slice ao ns.length ca)) := boxed_below b2 X1.out
  clear o2 b2 c0 X1
  go_wp2_with fail
  refine (sTree_any _ _ ns Q2.out hn hd.out).mono ?_
  rw [HL.out]
  rintro e w3 ⟨v3, rfl, o3, b3⟩
  have s2 := B2.out.size
  have O3 : Hid (Own .u8 5 w3 w2.heap.size v3 L) := o3
  have B3 : Hid (Below w.heap.size w w3) := B2.out.trans (b3.mono s2)
  have X3 : Hid (Boxed w3 w.heap.size 25 (.slice ao ns.length ca)) := boxed_below b3 X2.out
  clear b3 o3 Q2 X2
  have c0 := X3.out.cell
  go_wp2_with fail
  refine (toTree_any _ _ ns (HR.out.below B3.out) hn).mono ?_
  rintro e w4 ⟨a4, k4, rfl, o4, b4⟩
  have s3 := B3.out.size
  have Q4 : Hid (OwnN 81 w4 w3.heap.size (.slice a4 ns.length k4) ns) := o4
  have B4 : Hid (Below w.heap.size w w4) := B3.out.trans (b4.mono s3)
  have X4 : Hid (Boxed w4 w.heap.size 25 (.slice ao ns.length ca)) := boxed_below b4 X3.out
  have O34 : Hid (Own .u8 5 w4 w2.heap.size v3 L) := O3.out.below b4
  have s34 := b4.size
  clear o4 b4 c0 X3 O3
  go_wp2_with fail
  have BA : Hid (Below w4.heap.size w4 (w4.alloc (.cells #[.slice a4 ns.length k4] 30))) := (Below.refl _ _).alloc (Nat.le_refl _) _
  have Y5 : Hid (Boxed (w4.alloc (.cells #[.slice a4 ns.length k4] 30)) w4.heap.size 30 (.slice a4 ns.length k4)) := Boxed.new _ _ _
  generalize w4.alloc (.cells #[.slice a4 ns.length k4] 30) = w5 at *
  have Y5lt := Y5.out.lt
  have s4 := B4.out.size
  have s45 := BA.out.size
  have B5 : Hid (Below w.heap.size w w5) := B4.out.trans (BA.out.mono s4)
  have X5 : Hid (Boxed w5 w.heap.size 25 (.slice ao ns.length ca)) := boxed_below BA.out X4.out
  have Q5 : Hid (OwnN 81 w5 w3.heap.size (.slice a4 ns.length k4) ns) := Q4.out.below BA.out
  have O35 : Hid (Own .u8 5 w5 w2.heap.size v3 L) := O34.out.below BA.out
  clear X4 Q4 BA O34
  refine (encTree_any _ _ ns Q5.out.rd hd.out).mono ?_
  rw [HL.out]
  rintro e w6 ⟨v6, rfl, o6, b6⟩
  have s5 := B5.out.size
  have O6 : Hid (Own .u8 5 w6 w5.heap.size v6 L) := o6
  have B6 : Hid (Below w.heap.size w w6) := B5.out.trans (b6.mono s5)
  have X6 : Hid (Boxed w6 w.heap.size 25 (.slice ao ns.length ca)) := boxed_below b6 X5.out
  have Y6 : Hid (Boxed w6 w4.heap.size 30 (.slice a4 ns.length k4)) := boxed_below b6 Y5.out
  have Q6 : Hid (OwnN 81 w6 w3.heap.size (.slice a4 ns.length k4) ns) := Q5.out.below b6
  have O36 : Hid (Own .u8 5 w6 w2.heap.size v3 L) := O35.out.below b6
  have N36 : Hid (v3.ownBlock = none ∨ v3.ownBlock ≠ v6.ownBlock) := own_apart O35.out O6.out (Nat.le_refl _)
  have s56 := b6.size
  clear o6 b6 X5 Y5 Q5 B5 O35
  go_wp2_with fail
  refine (eqByteS_any _ _ _ L L O6.out.rd O36.out.rd).mono ?_
  rintro e w7 ⟨rfl, q7, rfl⟩
  rw [show decide (L = L) = true by simp]
  have D7 : Hid (Below w6.heap.size w6 (w6.drewN q7)) := below_drewN' w6 q7
  generalize w6.drewN q7 = w7 at *
  have O7 : Hid (Own .u8 5 w7 w5.heap.size v6 L) := O6.out.below D7.out
  have O37 : Hid (Own .u8 5 w7 w2.heap.size v3 L) := O36.out.below D7.out
  have B7 : Hid (Below w.heap.size w w7) := B6.out.trans (D7.out.mono B6.out.size)
  have X7 : Hid (Boxed w7 w.heap.size 25 (.slice ao ns.length ca)) := boxed_below D7.out X6.out
  have Y7 : Hid (Boxed w7 w4.heap.size 30 (.slice a4 ns.length k4)) := boxed_below D7.out Y6.out
  have Q7 : Hid (OwnN 81 w7 w3.heap.size (.slice a4 ns.length k4) ns) := Q6.out.below D7.out
  have s67 := D7.out.size
  clear D7 O6 O36 B6 X6 Y6 Q6
  have c0 := X7.out.cell
  have d0 := Y7.out.cell
  have HT : Hid (∀ q, Calls Tryd.prog 16 #[.agg #[.slice ao ns.length ca]] (w7.drewN q) fun e w' => ∃ a c, e = .returned (.agg #[.slice a ns.length c]) ∧ Hid (RdN w' (.slice a ns.length c) ns) ∧ Hid (RdN w' (.slice a4 ns.length k4) ns) ∧ w'.cell? ⟨w4.heap.size, 0, none⟩ = some (.slice a4 ns.length k4) ∧ Hid (Below w7.heap.size w7 w')) := by
    intro q
    refine (toTree_any _ _ ns ((HR.out.below B7.out).below (below_drewN' w7 q)) hn).mono ?_
    rintro e w' ⟨a, c, rfl, o', b'⟩
    have b7' : Below w7.heap.size w7 w' := (below_drewN' w7 q).trans b'
    exact ⟨a, c, rfl, o'.rd, Q7.out.rd.below b7', (boxed_below b7' Y7.out).cell, b7'⟩
  go_wp2
  go_region_with (first | (go_at_call 16; refine (HT.out 1).mono ?_; rintro e w' ⟨a, c, rfl, r1, r2, k0, bw⟩) | (go_at_call 18; refine (eqTree_same _ _ _ ns r2.out r1.out hn).mono ?_; rintro e w'' ⟨rfl, b''⟩))
  all_goals
    have b8 : Below w7.heap.size w7 w'' := bw.out.trans (b''.mono bw.out.size)
    have O8 : Hid (Own .u8 5 w'' w5.heap.size v6 L) := O7.out.below b8
    have O38 : Hid (Own .u8 5 w'' w2.heap.size v3 L) := O37.out.below b8
    have B8 : Hid (Below w.heap.size w w'') := B7.out.trans (b8.mono B7.out.size)
    have X8 : Hid (Boxed w'' w.heap.size 25 (.slice ao ns.length ca)) := boxed_below b8 X7.out
    have Y8 : Hid (Boxed w'' w4.heap.size 30 (.slice a4 ns.length k4)) := boxed_below b8 Y7.out
    have Q8 : Hid (OwnN 81 w'' w3.heap.size (.slice a4 ns.length k4) ns) := Q7.out.below b8
    have s78 := b8.size
    clear b8 b'' bw k0 r1 r2 O7 O37 B7 X7 Y7 Q7 HT c0 d0
    have d0 := Y8.out.cell
    go_wp2_with fail
    refine (markTree_any _ w3.heap.size 1 _ ns Q8.out (by omega) (by omega) hn).mono ?_
    rintro e w9 ⟨rfl, b9, k9⟩
    have O9 : Hid (Own .u8 5 w9 w5.heap.size v6 L) := O8.out.keepT k9 (by decide)
    have O39 : Hid (Own .u8 5 w9 w2.heap.size v3 L) := O38.out.keepT k9 (by decide)
    have B9 : Hid (Below w.heap.size w w9) := B8.out.trans (b9.mono s3)
    have X9 : Hid (Boxed w9 w.heap.size 25 (.slice ao ns.length ca)) := k9.box X8.out (by decide)
    have s9 := b9.size
    clear b9 k9 O8 O38 B8 X8 Y8 Q8 d0
    have hk9 : ¬ ((1 + 7 * ns.length : Nat) : Int) < 0 := by omega
    go_wp2_with fail
    refine (eqByteS_any _ _ _ L L O9.out.rd O39.out.rd).mono ?_
    rintro e w10 ⟨rfl, q10, rfl⟩
    rw [show decide (L = L) = true by simp]
    go_wp2_with fail
    refine (markByteS_any _ _ _ L 1 (O9.out.drewN q10) (by omega) (by omega) (by omega)).mono ?_
    rintro e w11 ⟨rfl, o11, g11⟩
    have b11 : Below w5.heap.size w9 w11 := ((below_drewN' w9 q10).mono (by omega)).grown g11 (by show _ ≤ w9.heap.size; omega) (fun k hk => (O9.out.lt k hk).1)
    have X11 : Hid (Boxed w11 w.heap.size 25 (.slice ao ns.length ca)) := by
      have hlt : w.heap.size < w5.heap.size := by have := Y5lt; omega
      exact (b11.block _ hlt).trans X9.out
    have B11 : Hid (Below w.heap.size w w11) := B9.out.trans (b11.mono s5)
    have O311 : Hid (Own .u8 5 w11 w2.heap.size v3 L) := (O39.out.drewN q10).other g11 N36.out
    have O11 : Hid (Own .u8 5 w11 w5.heap.size v6 (marks 1 L.length)) := o11
    have s11 := b11.size
    clear o11 g11 b11 O9 O39 X9 B9
    generalize hm : L.length = m at *
    have HM : Hid (L.length = m) := hm
    clear hm
    go_wp2_with fail
    refine (heldByteS_any _ _ m 1 O11.out.rd (by omega) (by omega) (by omega)).mono ?_
    rintro e w12 ⟨rfl, rfl⟩
    have hq0 : ¬ (1 + (m : Int)) < 0 := by omega
    have c0 := X11.out.cell
    go_wp2_with fail
    refine (toTree_any _ _ ns (HR.out.below B11.out) hn).mono ?_
    rintro e w13 ⟨a13, k13, rfl, o13, b13⟩
    have Q13 : Hid (RdN w13 (.slice a13 ns.length k13) ns) := o13.rd
    have B13 : Hid (Below w.heap.size w w13) := B11.out.trans (b13.mono B11.out.size)
    have O313 : Hid (Own .u8 5 w13 w2.heap.size v3 L) := O311.out.below b13
    clear o13 b13 O311 O11 X11 B11 c0
    go_wp2_with fail
    refine (encTree_any _ _ ns Q13.out hd.out).mono ?_
    rw [HL.out]
    rintro e w14 ⟨v14, rfl, o14, b14⟩
    have O14 : Hid (Own .u8 5 w14 w13.heap.size v14 L) := o14
    have O314 : Hid (Own .u8 5 w14 w2.heap.size v3 L) := O313.out.below b14
    have B14 : Hid (Below w.heap.size w w14) := B13.out.trans (b14.mono B13.out.size)
    clear o14 b14 O313 Q13 B13
    go_wp2_with fail
    refine (eqByteS_any _ _ _ L L O14.out.rd O314.out.rd).mono ?_
    rintro e w15 ⟨rfl, q15, rfl⟩
    rw [show decide (L = L) = true by simp]
    have B15 : Hid (Below w.heap.size w (w14.drewN q15)) := B14.out.trans ((below_drewN' w14 q15).mono B14.out.size)
    go_wp2
    go_ret
    exact ⟨rfl, B15.out⟩

end Go.Proofs.YtgjenbgclpmjmaaDoor

