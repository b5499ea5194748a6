import Derived.Test.YtgjenbgclpmjmaaDoorJ03
import Derived.Test.YtgjenbgclpmjmaaDoorJ02
import Derived.Laws.Cover1
import Derived.Test.YtgjenbgclpmjmaaDoorJ01
namespace Go.Proofs.YtgjenbgclpmjmaaDoor
open Go.RowKit

def zeroT : Value := .agg #[.bool false, .slice none 0 0]
/-- What an answer of DecodeTree is. -/
def DtPost (w : World) (ys : List Int) (e : Ending) (w' : World) : Prop :=
  Below w.heap.size w w' ∧ ((decT ys = none ∧ e = .returned zeroT) ∨ ∃ ns v, decT ys = some ns ∧ e = .returned (.agg #[.bool true, v]) ∧ OwnN 81 w' w.heap.size v ns)
/-- The answer's own variable, still zero. -/
def Zt (W : World) (k : Nat) : Prop := k < W.heap.size ∧ W.cell? ⟨k, 0, none⟩ = some (.bool false) ∧ W.cell? ⟨k, 1, none⟩ = some (.slice none 0 0) ∧ ∀ j, W.frozen? ⟨k, j, none⟩ = false
theorem Zt.turn {W W' : World} {k : Nat} {row : Option Nat} (h : Zt W k) (hg : W.grownBy W' row) (hne : some k ≠ row) : Zt W' k := by
  have hb := hg.block k h.1 hne
  exact ⟨Nat.lt_of_lt_of_le h.1 hg.size, (World.cell?_of_block (a := ⟨k, 0, none⟩) hb).trans h.2.1, (World.cell?_of_block (a := ⟨k, 1, none⟩) hb).trans h.2.2.1, fun j => (World.frozen?_of_block (a := ⟨k, j, none⟩) hb).trans (h.2.2.2 j)⟩
theorem Zt.set {W : World} {k B : Nat} (h : Zt W k) (hne : k ≠ B) (i : Nat) (u : Value) : Zt (W.setCell ⟨B, i, none⟩ u) k :=
  ⟨by simpa using h.1, (World.cell?_setCell_other _ _ _ _ (by intro e; injection e with e; omega)).trans h.2.1, (World.cell?_setCell_other _ _ _ _ (by intro e; injection e with e; omega)).trans h.2.2.1, fun j => by rw [World.frozen?_setCell]; exact h.2.2.2 j⟩
/-- A box of one cell that may be written. -/
def B1 (W : World) (k : Nat) (v : Value) : Prop := k < W.heap.size ∧ W.cell? ⟨k, 0, none⟩ = some v ∧ W.frozen? ⟨k, 0, none⟩ = false
theorem B1.turn {W W' : World} {k : Nat} {v : Value} {row : Option Nat} (h : B1 W k v) (hg : W.grownBy W' row) (hne : some k ≠ row) : B1 W' k v := by
  have hb := hg.block k h.1 hne
  exact ⟨Nat.lt_of_lt_of_le h.1 hg.size, (World.cell?_of_block (a := ⟨k, 0, none⟩) hb).trans h.2.1, (World.frozen?_of_block (a := ⟨k, 0, none⟩) hb).trans h.2.2⟩
theorem OwnN.turn {W W' : World} {lo : Nat} {v : Value} {ns : List Nd} {k : Nat} (h : OwnN 81 W lo v ns) (hg : W.grownBy W' (some k)) (hk : k < lo) : OwnN 81 W' lo v ns := by
  refine World.ownsRow.kept h hg ?_
  cases e : v.ownBlock with
  | none => exact .inl rfl
  | some g =>
    refine .inr fun e2 => ?_
    have := (World.ownsRow.lt h g e).1
    simp only [Option.some.injEq] at e2
    omega
theorem nrow_one (ns : List Nd) (n : Nd) : nrow (ns ++ [n]) = nrow ns ++ ndL n := by rw [nrow_append]; simp [nrow]
theorem ndL_cells (w : World) (n : Nd) (t : TypeId) : ∀ j u, (ndL n)[j]? = some u → (w.alloc (.cells #[.string n.path, .string n.data, .int .i64 n.ver, .int .i64 n.cver, .int .i64 n.cz, .int .i64 n.mz, .int .i64 n.pz] t)).cell? ((⟨w.heap.size, 0, none⟩ : Addr).add j) = some u := by
  intro j u hj
  rw [Addr.add_lit, Nat.zero_add, cell_of (heap_alloc_new w _) j, ← hj]
  simp [ndL]
theorem ndL_one (n : Nd) : ∀ u ∈ ndL n, u.oneCell' = true := by
  intro u hu
  simp only [ndL, List.mem_cons, List.mem_nil_iff, or_false] at hu
  rcases hu with rfl | rfl | rfl | rfl | rfl | rfl | rfl <;> rfl
theorem field_node (n : Nd) (W : World) : (Instr.field 102 (.agg #[.string n.path, .string n.data, .int .i64 n.ver, .int .i64 n.cver, .int .i64 n.cz, .int .i64 n.mz, .int .i64 n.pz]) 0).run Tryd.prog W = .ok (.agg #[.string n.path, .string n.data, .int .i64 n.ver, .int .i64 n.cver, .int .i64 n.cz, .int .i64 n.mz, .int .i64 n.pz]) W := by kernel_rfl
def SzN (ns : List Nd) : Prop := ∀ n ∈ ns, n.path.size < 256 ∧ n.data.size < 256
theorem SzN.at {ns : List Nd} (h : SzN ns) (i : Nat) : (nAt ns i).path.size ≤ 1048576 ∧ (nAt ns i).data.size ≤ 1048576 := by
  by_cases hi : i < ns.length
  · rw [nAt_get hi]
    have := h _ (List.getElem_mem hi)
    omega
  · unfold nAt; rw [List.getD, List.getElem?_eq_none (by omega)]; exact ⟨Nat.zero_le _, Nat.zero_le _⟩
/-- The way of DecodeTree. -/
def TS (w : World) (ys : List Int) (W : World) (v : Value) (ns : List Nd) (r : List Int) : Prop :=
  Par ys ns r ∧ Byt r ∧ SzN ns ∧ RS w W (w.heap.size + 1) r ∧ Zt W w.heap.size ∧ B1 W (w.heap.size + 1 + 1) v ∧ OwnN 81 W (w.heap.size + 3) v ns
def lenAt (W : World) (k : Nat) : Nat := match W.cell? ⟨k, 0, none⟩ with | some (.slice _ n _) => n | _ => 0
theorem RS.lenAt {w0 W : World} {k : Nat} {r : List Int} (h : RS w0 W k r) : lenAt W k = r.length := by
  obtain ⟨-, -, -, -, v, h5, h6⟩ := h
  obtain ⟨ao, c, rfl, -⟩ := h6
  unfold Go.Proofs.YtgjenbgclpmjmaaDoor.lenAt
  rw [h5]
theorem TS.start (w : World) (ao : Option Addr) (ys : List Int) (cap : Nat) (h : Rd .u8 w (.slice ao ys.length cap) ys) (hb : Byt ys) :
    TS w ys (((w.alloc (.cells #[.bool false, .slice none 0 0] 56)).alloc (.cells #[.slice ao ys.length cap] 99)).alloc (.cells #[.slice none 0 0] 30)) (.slice none 0 0) [] ys := by
  refine ⟨Par.start ys, hb, (fun n hn => by cases hn), ⟨by omega, by simp, (by go_simp), (((Below.refl _ _).alloc (Nat.le_refl _) _).alloc (by simp) _).alloc (by simp; omega) _, _, (by go_simp), h⟩, ⟨by simp; omega, (by go_simp), (by go_simp), fun j => (by go_simp)⟩, ⟨by simp, (by go_simp), (by go_simp)⟩, World.ownsRow_nil _ _ _ _⟩

theorem TS.drewN {w W : World} {ys : List Int} {v : Value} {ns : List Nd} {r : List Int} (h : TS w ys W v ns r) (q : Nat) : TS w ys (W.drewN q) v ns r := ⟨h.1, h.2.1, h.2.2.1, h.2.2.2.1.drewN q, h.2.2.2.2.1, h.2.2.2.2.2.1, h.2.2.2.2.2.2⟩
theorem TS.below {w W : World} {ys : List Int} {v : Value} {ns : List Nd} {r : List Int} (h : TS w ys W v ns r) : Below w.heap.size w W := h.2.2.2.1.2.2.2.1

set_option maxHeartbeats 400000 in
theorem done_any (w0 w : World) (k : Nat) (ys : List Int) (h : RS w0 w k ys) :
    Calls Tryd.prog 76 #[.pointer (some ⟨k, 0, none⟩)] w fun e w' => e = .returned (.bool (decide (ys = []))) ∧ w' = w := by
  obtain ⟨-, -, -, -, v, h5, h6⟩ := h
  obtain ⟨ao, c, rfl, -⟩ := h6
  by_cases hy : ys = []
  · subst hy
    have h0 : ((List.length ([] : List Int) : Int) == 0) = true := rfl
    go_enter Tryd.func76, Tryd.ntmps76
    go_wp2
    go_ret
    exact ⟨rfl, rfl⟩
  · have hl : 0 < ys.length := List.length_pos_iff.2 hy
    have h0 : ((ys.length : Int) == 0) = false := beq_eq_false_iff_ne.2 (by omega)
    rw [decide_eq_false hy]
    go_enter Tryd.func76, Tryd.ntmps76
    go_wp2
    go_ret
    exact ⟨rfl, rfl⟩

theorem hmf (fn : Fn) (first cap : Array Value) (w : World) : (Instr.makeFunc fn first cap).run Tryd.prog w = .ok (.func fn first cap) w := rfl

theorem RS.turn {w0 W W' : World} {k : Nat} {r : List Int} {row : Option Nat} (h : RS w0 W k r) (hg : W.grownBy W' row) (hne : some k ≠ row) (hlo : ∀ g, row = some g → w0.heap.size ≤ g) : RS w0 W' k r := by
  obtain ⟨h1, h2, h3, h4, v, h5, h6⟩ := h
  have hb := hg.block k h2 hne
  exact ⟨h1, Nat.lt_of_lt_of_le h2 hg.size, (World.frozen?_of_block (a := ⟨k, 0, none⟩) hb).trans h3, h4.grown hg h4.size hlo, v, (World.cell?_of_block (a := ⟨k, 0, none⟩) hb).trans h5, h6⟩
/-- A node was read. -/
def TR (w : World) (ys : List Int) (W : World) (v : Value) (ns : List Nd) (n : Nd) (r : List Int) : Prop :=
  Par ys (ns ++ [n]) r ∧ Byt r ∧ SzN (ns ++ [n]) ∧ RS w W (w.heap.size + 1) r ∧ Zt W w.heap.size ∧ B1 W (w.heap.size + 1 + 1) v ∧ OwnN 81 W (w.heap.size + 3) v ns
theorem TS.read {w W W1 : World} {ys : List Int} {v : Value} {ns : List Nd} {r r' : List Int} {n : Nd} (h : TS w ys W v ns r) (hg : W.grownBy W1 (some (w.heap.size + 1))) (hp : rdNd r = some (n, r')) (hr : RS w W1 (w.heap.size + 1) r') : TR w ys W1 v ns n r' := by
  obtain ⟨t1, t2, t3, t4, t5, t6, t7⟩ := h
  have hb := rdNd_byt hp t2
  refine ⟨t1.step t2 hp, hb.1, ?_, hr, t5.turn hg (by simp), t6.turn hg (by simp), t7.turn hg (by omega)⟩
  intro m hm
  rcases List.mem_append.1 hm with hm | hm
  · exact t3 m hm
  · simp at hm; subst hm; exact hb.2.2
theorem TR.alloc {w W : World} {ys : List Int} {v : Value} {ns : List Nd} {r : List Int} {n : Nd} (h : TR w ys W v ns n r) (o : Obj) : TR w ys (W.alloc o) v ns n r := by
  obtain ⟨t1, t2, t3, t4, t5, t6, t7⟩ := h
  exact ⟨t1, t2, t3, t4.new ((Below.refl _ _).alloc (Nat.le_refl _) _), t5.turn (grown_alloc _ _ none) (by simp), t6.turn (grown_alloc _ _ none) (by simp), t7.below ((Below.refl _ _).alloc (Nat.le_refl _) _)⟩
theorem TR.push {w W W3 : World} {ys : List Int} {v v3 : Value} {ns : List Nd} {r : List Int} {n : Nd} (h : TR w ys W v ns n r) (hg : W.grownBy W3 v.ownBlock) (ho : W3.ownsRow (w.heap.size + 3) 81 7 v3 (ns.length + 1) (nrow ns ++ ndL n)) :
    TS w ys (W3.setCell ⟨w.heap.size + 1 + 1, 0, none⟩ v3) v3 (ns ++ [n]) r := by
  obtain ⟨t1, t2, t3, t4, t5, t6, t7⟩ := h
  have hne : ∀ k, k < w.heap.size + 3 → some k ≠ v.ownBlock := fun k hk e => by have := (World.ownsRow.lt t7 k e.symm).1; omega
  have hlo : ∀ g, v.ownBlock = some g → w.heap.size ≤ g := fun g e => by have := (World.ownsRow.lt t7 g e).1; omega
  have b6 := t6.turn hg (hne _ (by omega))
  refine ⟨t1, t2, t3, (t4.turn hg (hne _ (by omega)) hlo).setOther (by omega) (by omega) _ _, (t5.turn hg (hne _ (by omega))).set (by omega) _ _, ⟨by simpa using b6.1, World.cell?_setCell_same _ _ _ b6.2.1, by rw [World.frozen?_setCell]; exact b6.2.2⟩, ?_⟩
  have : OwnN 81 W3 (w.heap.size + 3) v3 (ns ++ [n]) := by unfold OwnN; rw [nrow_one, List.length_append]; exact ho
  exact OwnN.setBelow this (by show w.heap.size + 1 + 1 < w.heap.size + 3; omega) _

set_option maxHeartbeats 4000000 in
set_option maxRecDepth 100000 in
theorem implDecT_any (w : World) (v : Value) (ys : List Int) (h : Rd .u8 w v ys) (hby : Byt ys) (hl : ys.length ≤ 1048576) :
    Calls Tryd.prog 33 #[v] w fun e w' => DtPost w ys e w' := by
  obtain ⟨i0, hi, hz0, hz1, hz2⟩ := info_parts Tryd.infoN
  obtain ⟨ao, cap, rfl, -, -⟩ := h.len
  have D0 : Hid (TS w ys (((w.alloc (.cells #[.bool false, .slice none 0 0] 56)).alloc (.cells #[.slice ao ys.length cap] 99)).alloc (.cells #[.slice none 0 0] 30)) (.slice none 0 0) [] ys) := TS.start w ao ys cap h hby
  clear h hby
  have hm := hmf
  go_enter_defers Tryd.func33, Tryd.ntmps33
  go_wp2
  generalize (((w.alloc (.cells #[.bool false, .slice none 0 0] 56)).alloc (.cells #[.slice ao ys.length cap] 99)).alloc (.cells #[.slice none 0 0] 30)) = W0 at *
  go_loopw [9] (fun u9 wr => ∃ v ns r, Hid (TS w ys wr v ns r)) (fun _ wr => lenAt wr (w.heap.size + 1))
  case atStart => exact ⟨_, _, _, D0⟩
  case round =>
    clear D0
    obtain ⟨v, ns, r, D⟩ := hrel
    obtain ⟨va, vc, hva⟩ := D.out.2.2.2.2.2.2.slice
    subst hva
    go_wp2_with fail
    refine (done_any w wr (w.heap.size + 1) r D.out.2.2.2.1).mono ?_
    rintro e w1 ⟨rfl, rfl⟩
    by_cases hr : r = []
    · subst hr
      rw [show decide (([] : List Int) = []) = true from rfl]
      obtain ⟨t1, -, t3, -, ⟨tz, z0, z1, zf⟩, ⟨-, b0, -⟩, t7⟩ := D.out
      have HPD : Hid (pNs ys.length ys = some ns) := t1.done
      have HSZ : Hid (SzN ns) := t3
      have HON : Hid (OwnN 81 w1 (w.heap.size + 3) (.slice va ns.length vc) ns) := t7
      clear t1 t3 t7 z0 z1 zf
      go_wp2_with fail
      refine (implTree_any _ _ ns HON.out.rd HSZ.out.at).mono ?_
      rintro e w2 ⟨rfl, b2⟩
      have HON2 : Hid (OwnN 81 w2 (w.heap.size + 3) (.slice va ns.length vc) ns) := HON.out.below b2
      have HB2 : Hid (Below w.heap.size w w2) := D.out.below.trans (b2.mono D.out.below.size)
      obtain ⟨-, z0, z1, zf⟩ := D.out.2.2.2.2.1.turn (grown_of b2 none) (by simp)
      obtain ⟨-, d0, -⟩ := D.out.2.2.2.2.2.1.turn (grown_of b2 none) (by simp)
      have f0 := zf 0
      have f1 := zf 1
      clear b2 zf b0 HON
      by_cases hok : okTree ns = true
      · have HF : Hid (∀ W, W = (w2.setCell ⟨w.heap.size, 0, none⟩ (.bool true)).setCell ⟨w.heap.size, 1, none⟩ (.slice va ns.length vc) → DtPost w ys (.returned (.agg #[.bool true, .slice va ns.length vc])) W) := by
          rintro W rfl
          refine ⟨(HB2.out.setCell (p := ⟨w.heap.size, 0, none⟩) (Nat.le_refl _) _).setCell (p := ⟨w.heap.size, 1, none⟩) (Nat.le_refl _) _, .inr ⟨ns, _, ?_, rfl, ?_⟩⟩
          · unfold decT; rw [HPD.out]; simp only; rw [if_pos hok]
          · exact OwnN.mono (OwnN.setBelow (OwnN.setBelow HON2.out (by show w.heap.size < w.heap.size + 3; omega) _) (by show w.heap.size < w.heap.size + 3; omega) _) (by omega)
        rw [hok]
        clear hok
        go_wp2
        refine leaves_cons (f := 78) (args := #[]) (by simp) (by simp [go_sem]) ?_
        refine (catchT_idle _).mono ?_
        rintro e u' w3 ⟨rfl, rfl, rfl⟩
        simp [Leaves, settle, results, Tryd.results33, go_sem, z0, z1]
        exact HF.out _ rfl
      · have hok' : okTree ns = false := by simpa using hok
        have HF : Hid (∀ W, W = (w2.setCell ⟨w.heap.size, 0, none⟩ (.bool false)).setCell ⟨w.heap.size, 1, none⟩ (.slice none 0 0) → DtPost w ys (.returned (.agg #[.bool false, .slice none 0 0])) W) := by
          rintro W rfl
          refine ⟨(HB2.out.setCell (p := ⟨w.heap.size, 0, none⟩) (Nat.le_refl _) _).setCell (p := ⟨w.heap.size, 1, none⟩) (Nat.le_refl _) _, .inl ⟨?_, rfl⟩⟩
          unfold decT; rw [HPD.out]; simp only; rw [if_neg hok]
        rw [hok']
        clear hok hok'
        go_wp2
        refine leaves_cons (f := 78) (args := #[]) (by simp) (by simp [go_sem]) ?_
        refine (catchT_idle _).mono ?_
        rintro e u' w3 ⟨rfl, rfl, rfl⟩
        simp [Leaves, settle, results, Tryd.results33, go_sem, z0, z1]
        exact HF.out _ rfl
    · rw [decide_eq_false hr]
      have HBAD : Hid (rdNd r = none → ∀ W W', w1.drew.grownBy W (some (w.heap.size + 1)) → Below W.heap.size W W' → W'.cell? ⟨w.heap.size, 0, none⟩ = some (.bool false) ∧ W'.cell? ⟨w.heap.size, 1, none⟩ = some (.slice none 0 0) ∧ DtPost w ys (.returned (.agg #[.bool false, .slice none 0 0])) W') := by
        intro hp W W' hg hb
        have z := ((D.out.drewN 1).2.2.2.2.1.turn hg (by simp)).turn (grown_of hb none) (by simp)
        have hB : Below w.heap.size w W := (D.out.drewN 1).below.grown hg (D.out.drewN 1).below.size (fun q hq => by simp only [Option.some.injEq] at hq; omega)
        refine ⟨z.2.1, z.2.2.1, hB.trans (hb.mono hB.size), .inl ⟨?_, rfl⟩⟩
        unfold decT; rw [D.out.1.bad hr hp]
      have HNE : Hid (r ≠ []) := hr
      have HLE : Hid (ns.length + r.length ≤ ys.length) := by obtain ⟨f, -, -, h⟩ := D.out.1; exact h
      have hns : ns.length ≤ 1048576 := by have := HLE.out; omega
      clear hr
      have c0 := D.out.2.2.2.2.2.1.2.1
      cases hrd : rdNd r with
      | none =>
        have HRD : Hid (rdNd r = none) := hrd
        clear hrd
        go_wp2
        refine wp_region_held_drew (S := fun _ => True) (by kernel_rfl) trivial (fun hHeld => ?_)
        refine wpAnyH_ready (rs := [0, 2]) (by kernel_rfl) (by simp) ?_
        refine (AllReadyH.cons (o := { dst := some 11, op := _, type := _, pos := _, after := _, guard := _ }) rfl (fun K hK => ?_) (AllReadyH.cons (o := { dst := some 13, op := _, type := _, pos := _, after := _, guard := _ }) rfl (fun K hK => ?_) AllReadyH.nil))
        · go_simp
          refine hK.out _ _ trivial (fun hx9 => ?_)
          clear hK K hx9
          try simp only [Act.put, List.setIfInBounds_toArray, List.set_cons_zero, List.set_cons_succ]
          refine wpAnyH_ready (rs := [1, 2]) (by kernel_rfl) (by simp) ?_
          refine (AllReadyH.cons (o := { dst := some 12, op := _, type := _, pos := _, after := _, guard := _ }) rfl (fun K hK => ?_) (AllReadyH.cons (o := { dst := some 13, op := _, type := _, pos := _, after := _, guard := _ }) rfl (fun K hK => ?_) AllReadyH.nil))
          · go_simp
            refine hK.out _ _ trivial (fun hx9 => ?_)
            clear hK K hx9
            try simp only [Act.put, List.setIfInBounds_toArray, List.set_cons_zero, List.set_cons_succ]
            refine wpAnyH_ready (rs := [2]) (by kernel_rfl) (by simp) ?_
            refine (AllReadyH.cons (o := { dst := some 13, op := _, type := _, pos := _, after := _, guard := _ }) rfl (fun K hK => ?_) AllReadyH.nil)
            · go_simp
              refine hK.out _ _ trivial (fun hx9 => ?_)
              clear hK K hx9
              try simp only [Act.put, List.setIfInBounds_toArray, List.set_cons_zero, List.set_cons_succ]
              refine wpAnyH_ready (rs := [3]) (by kernel_rfl) (by simp) ?_
              refine (AllReadyH.cons (o := { dst := some 14, op := _, type := _, pos := _, after := _, guard := _ }) rfl (fun K hK => ?_) AllReadyH.nil)
              · go_simp
                refine (nodeImage_any w w1.drew (w.heap.size + 1) r (D.out.drewN 1).2.2.2.1 D.out.2.1).mono ?_
                rintro e W1 ⟨g1, hp⟩
                rcases hp with ⟨hp, rfl⟩ | ⟨n, r', hp, rfl, hr1⟩
                · refine leaves_cons (f := 78) (args := #[]) (by simp) (by simp [go_sem]) ?_
                  refine (catchT_bad [] _).mono ?_
                  rintro e u' w3 ⟨rfl, rfl, b3⟩
                  obtain ⟨z0, z1, hF⟩ := HBAD.out hp _ _ g1 b3
                  simp [Leaves, settle, results, Tryd.results33, go_sem, z0, z1]
                  exact hF
                · rw [HRD.out] at hp; cases hp
          · go_simp
            refine hK.out _ _ trivial (fun hx9 => ?_)
            clear hK K hx9
            try simp only [Act.put, List.setIfInBounds_toArray, List.set_cons_zero, List.set_cons_succ]
            refine wpAnyH_ready (rs := [1, 3]) (by kernel_rfl) (by simp) ?_
            refine (AllReadyH.cons (o := { dst := some 12, op := _, type := _, pos := _, after := _, guard := _ }) rfl (fun K hK => ?_) (AllReadyH.cons (o := { dst := some 14, op := _, type := _, pos := _, after := _, guard := _ }) rfl (fun K hK => ?_) AllReadyH.nil))
            · go_simp
              refine hK.out _ _ trivial (fun hx9 => ?_)
              clear hK K hx9
              try simp only [Act.put, List.setIfInBounds_toArray, List.set_cons_zero, List.set_cons_succ]
              refine wpAnyH_ready (rs := [3]) (by kernel_rfl) (by simp) ?_
              refine (AllReadyH.cons (o := { dst := some 14, op := _, type := _, pos := _, after := _, guard := _ }) rfl (fun K hK => ?_) AllReadyH.nil)
              · go_simp
                refine (nodeImage_any w w1.drew (w.heap.size + 1) r (D.out.drewN 1).2.2.2.1 D.out.2.1).mono ?_
                rintro e W1 ⟨g1, hp⟩
                rcases hp with ⟨hp, rfl⟩ | ⟨n, r', hp, rfl, hr1⟩
                · refine leaves_cons (f := 78) (args := #[]) (by simp) (by simp [go_sem]) ?_
                  refine (catchT_bad [] _).mono ?_
                  rintro e u' w3 ⟨rfl, rfl, b3⟩
                  obtain ⟨z0, z1, hF⟩ := HBAD.out hp _ _ g1 b3
                  simp [Leaves, settle, results, Tryd.results33, go_sem, z0, z1]
                  exact hF
                · rw [HRD.out] at hp; cases hp
            · go_simp
              refine (nodeImage_any w w1.drew (w.heap.size + 1) r (D.out.drewN 1).2.2.2.1 D.out.2.1).mono ?_
              rintro e W1 ⟨g1, hp⟩
              rcases hp with ⟨hp, rfl⟩ | ⟨n, r', hp, rfl, hr1⟩
              · refine leaves_cons (f := 78) (args := #[]) (by simp) (by simp [go_sem]) ?_
                refine (catchT_bad [] _).mono ?_
                rintro e u' w3 ⟨rfl, rfl, b3⟩
                obtain ⟨z0, z1, hF⟩ := HBAD.out hp _ _ g1 b3
                simp [Leaves, settle, results, Tryd.results33, go_sem, z0, z1]
                exact hF
              · rw [HRD.out] at hp; cases hp
        · go_simp
          refine hK.out _ _ trivial (fun hx9 => ?_)
          clear hK K hx9
          try simp only [Act.put, List.setIfInBounds_toArray, List.set_cons_zero, List.set_cons_succ]
          refine wpAnyH_ready (rs := [0, 3]) (by kernel_rfl) (by simp) ?_
          refine (AllReadyH.cons (o := { dst := some 11, op := _, type := _, pos := _, after := _, guard := _ }) rfl (fun K hK => ?_) (AllReadyH.cons (o := { dst := some 14, op := _, type := _, pos := _, after := _, guard := _ }) rfl (fun K hK => ?_) AllReadyH.nil))
          · go_simp
            refine hK.out _ _ trivial (fun hx9 => ?_)
            clear hK K hx9
            try simp only [Act.put, List.setIfInBounds_toArray, List.set_cons_zero, List.set_cons_succ]
            refine wpAnyH_ready (rs := [1, 3]) (by kernel_rfl) (by simp) ?_
            refine (AllReadyH.cons (o := { dst := some 12, op := _, type := _, pos := _, after := _, guard := _ }) rfl (fun K hK => ?_) (AllReadyH.cons (o := { dst := some 14, op := _, type := _, pos := _, after := _, guard := _ }) rfl (fun K hK => ?_) AllReadyH.nil))
            · go_simp
              refine hK.out _ _ trivial (fun hx9 => ?_)
              clear hK K hx9
              try simp only [Act.put, List.setIfInBounds_toArray, List.set_cons_zero, List.set_cons_succ]
              refine wpAnyH_ready (rs := [3]) (by kernel_rfl) (by simp) ?_
              refine (AllReadyH.cons (o := { dst := some 14, op := _, type := _, pos := _, after := _, guard := _ }) rfl (fun K hK => ?_) AllReadyH.nil)
              · go_simp
                refine (nodeImage_any w w1.drew (w.heap.size + 1) r (D.out.drewN 1).2.2.2.1 D.out.2.1).mono ?_
                rintro e W1 ⟨g1, hp⟩
                rcases hp with ⟨hp, rfl⟩ | ⟨n, r', hp, rfl, hr1⟩
                · refine leaves_cons (f := 78) (args := #[]) (by simp) (by simp [go_sem]) ?_
                  refine (catchT_bad [] _).mono ?_
                  rintro e u' w3 ⟨rfl, rfl, b3⟩
                  obtain ⟨z0, z1, hF⟩ := HBAD.out hp _ _ g1 b3
                  simp [Leaves, settle, results, Tryd.results33, go_sem, z0, z1]
                  exact hF
                · rw [HRD.out] at hp; cases hp
            · go_simp
              refine (nodeImage_any w w1.drew (w.heap.size + 1) r (D.out.drewN 1).2.2.2.1 D.out.2.1).mono ?_
              rintro e W1 ⟨g1, hp⟩
              rcases hp with ⟨hp, rfl⟩ | ⟨n, r', hp, rfl, hr1⟩
              · refine leaves_cons (f := 78) (args := #[]) (by simp) (by simp [go_sem]) ?_
                refine (catchT_bad [] _).mono ?_
                rintro e u' w3 ⟨rfl, rfl, b3⟩
                obtain ⟨z0, z1, hF⟩ := HBAD.out hp _ _ g1 b3
                simp [Leaves, settle, results, Tryd.results33, go_sem, z0, z1]
                exact hF
              · rw [HRD.out] at hp; cases hp
          · go_simp
            refine (nodeImage_any w w1.drew (w.heap.size + 1) r (D.out.drewN 1).2.2.2.1 D.out.2.1).mono ?_
            rintro e W1 ⟨g1, hp⟩
            rcases hp with ⟨hp, rfl⟩ | ⟨n, r', hp, rfl, hr1⟩
            · refine leaves_cons (f := 78) (args := #[]) (by simp) (by simp [go_sem]) ?_
              refine (catchT_bad [] _).mono ?_
              rintro e u' w3 ⟨rfl, rfl, b3⟩
              obtain ⟨z0, z1, hF⟩ := HBAD.out hp _ _ g1 b3
              simp [Leaves, settle, results, Tryd.results33, go_sem, z0, z1]
              exact hF
            · rw [HRD.out] at hp; cases hp
      | some q =>
        obtain ⟨n0, r0⟩ := q
        have HRD : Hid (rdNd r = some (n0, r0)) := hrd
        clear hrd
        go_wp2
        refine wp_region_noPanic ?_
        refine wp_region_held_drew (S := fun _ => True) (by kernel_rfl) (trivial) (fun hHeld => ?_)
        refine wpAnyH_take (i := 0) (oi := { dst := some 11, op := _, type := _, pos := _, after := _, guard := _ }) (v := (.pointer (some ⟨w.heap.size + 1 + 1, 0, none⟩))) rfl (by kernel_rfl) (by kernel_rfl) (by kernel_rfl) (fun _ _ _ h => h) (Or.inl ⟨by rfl, ?hy1⟩) (by assumption) ?rest1
        case hy1 =>
          intro w9 hS9
          go_simp
          try with_reducible rfl
        try simp only [Act.put, List.setIfInBounds_toArray, List.set_cons_zero, List.set_cons_succ]
        refine wpAnyH_take (i := 2) (oi := { dst := some 13, op := _, type := _, pos := _, after := _, guard := _ }) (v := (.pointer (some ⟨w.heap.size + 1, 0, none⟩))) rfl (by kernel_rfl) (by kernel_rfl) (by kernel_rfl) (fun _ _ _ h => h) (Or.inl ⟨by rfl, ?hy2⟩) (by assumption) ?rest2
        case hy2 =>
          intro w9 hS9
          go_simp
          try with_reducible rfl
        try simp only [Act.put, List.setIfInBounds_toArray, List.set_cons_zero, List.set_cons_succ]
        refine wpAnyH_ready (rs := [1, 3]) (by kernel_rfl) (by simp) ?_
        refine AllReadyH.cons (o := { dst := some 12, op := _, type := _, pos := _, after := _, guard := _ }) rfl (fun K hK => ?_) (AllReadyH.cons (o := { dst := some 14, op := _, type := _, pos := _, after := _, guard := _ }) rfl (fun K hK => ?_) AllReadyH.nil)
        · go_simp
          refine hK.out _ _ trivial (fun hx9 => ?_)
          clear hK K hx9
          try simp only [Act.put, List.setIfInBounds_toArray, List.set_cons_zero, List.set_cons_succ]
          refine wpAnyH_ready (rs := [3]) (by kernel_rfl) (by simp) ?_
          refine AllReadyH.cons (o := { dst := some 14, op := _, type := _, pos := _, after := _, guard := _ }) rfl (fun K hK => ?_) AllReadyH.nil
          go_simp
          refine (nodeImage_any w w1.drew (w.heap.size + 1) r (D.out.drewN 1).2.2.2.1 D.out.2.1).mono ?_
          rintro e W1 ⟨g1, hp⟩
          rcases hp with ⟨hp, rfl⟩ | ⟨n, r', hp, rfl, hr1⟩
          · rw [HRD.out] at hp; cases hp
          have T1 : Hid (TR w ys W1 (.slice va ns.length vc) ns n r') := (D.out.drewN 1).read g1 hp hr1
          have HLT : Hid (r'.length < r.length) := (rdNd_byt hp D.out.2.1).2.1
          have c1 := T1.out.2.2.2.2.2.1.2.1
          clear g1 hp hr1
          refine hK.out _ _ trivial (fun hx9 => ?_)
          clear hK K hx9
          try simp only [Act.put, List.setIfInBounds_toArray, List.set_cons_zero, List.set_cons_succ]
          refine wpAnyH_take (i := 4) (oi := { dst := some 15, op := _, type := _, pos := _, after := _, guard := _ }) (v := (ndV n)) rfl (by kernel_rfl) (by kernel_rfl) (by kernel_rfl) (fun _ _ _ h => h) (Or.inl ⟨by rfl, ?hy3⟩) (by assumption) ?rest3
          case hy3 =>
            intro w9 hS9
            unfold ndV
            have hfd := field_node n w9
            go_simp
          try simp only [Act.put, List.setIfInBounds_toArray, List.set_cons_zero, List.set_cons_succ]
          refine wpAnyH_ready (rs := [5]) (by kernel_rfl) (by simp) ?_
          refine AllReadyH.cons (o := { dst := some 16, op := _, type := _, pos := _, after := _, guard := _ }) rfl (fun K hK => ?_) AllReadyH.nil
          unfold ndV
          go_simp
          have T2 : Hid (TR w ys (W1.alloc (.cells #[.string n.path, .string n.data, .int .i64 n.ver, .int .i64 n.cver, .int .i64 n.cz, .int .i64 n.mz, .int .i64 n.pz] 81)) (.slice va ns.length vc) ns n r') := T1.out.alloc _
          have NC : Hid (∀ j u, (ndL n)[j]? = some u → (W1.alloc (.cells #[.string n.path, .string n.data, .int .i64 n.ver, .int .i64 n.cver, .int .i64 n.cz, .int .i64 n.mz, .int .i64 n.pz] 81)).cell? ((⟨W1.heap.size, 0, none⟩ : Addr).add j) = some u) := ndL_cells _ _ _
          refine hK.out _ _ trivial (fun hx9 => ?_)
          clear hK K hx9 c1
          generalize W1.alloc (.cells #[.string n.path, .string n.data, .int .i64 n.ver, .int .i64 n.cver, .int .i64 n.cz, .int .i64 n.mz, .int .i64 n.pz] 81) = W2 at *
          generalize W1.heap.size = G1 at *
          have c1 := T2.out.2.2.2.2.2.1.2.1
          try simp only [Act.put, List.setIfInBounds_toArray, List.set_cons_zero, List.set_cons_succ]
          refine wpAnyH_ready (rs := [6]) (by kernel_rfl) (by simp) ?_
          refine AllReadyH.cons (o := { dst := some 17, op := _, type := _, pos := _, after := _, guard := _ }) rfl (fun K hK => ?_) AllReadyH.nil
          refine step_append rfl (.tmp 12) (.tmp 16) 28 rfl (w.heap.size + 3) 81 i0 (.agg #[.string ByteArray.empty, .string ByteArray.empty, .int .i64 0, .int .i64 0, .int .i64 0, .int .i64 0, .int .i64 0]) 7 72 Tryd.underlying28 hi hz0 hz1 hz2 rfl (by decide) (.slice va ns.length vc) ns.length _ rfl T2.out.2.2.2.2.2.2 ⟨G1, 0, none⟩ 1 1 (ndL n) rfl rfl NC.out (ndL_one n) (by unfold maxLen; omega) (by omega) (by have := T2.out.2.2.2.2.2.1.1; omega) ?_
          intro v3 W3 ho3 hg3
          have D3 : Hid (TS w ys (W3.setCell ⟨w.heap.size + 1 + 1, 0, none⟩ v3) v3 (ns ++ [n]) r') := T2.out.push hg3 ho3
          obtain ⟨a3, q3, hv3⟩ := D3.out.2.2.2.2.2.2.slice
          rw [show (ns ++ [n]).length = ns.length + 1 by simp] at hv3
          subst hv3
          obtain ⟨-, c3, f3⟩ := T2.out.2.2.2.2.2.1.turn hg3 (fun e => by have := (World.ownsRow.lt T2.out.2.2.2.2.2.2 _ e.symm).1; omega)
          clear ho3 hg3
          refine hK.out _ _ trivial (fun hx9 => ?_)
          clear hK K hx9
          try simp only [Act.put, List.setIfInBounds_toArray, List.set_cons_zero, List.set_cons_succ]
          refine wpAnyH_take (i := 7) (oi := { dst := some 18, op := _, type := _, pos := _, after := _, guard := _ }) (v := (.pointer (some ⟨w.heap.size + 1 + 1, 0, none⟩))) rfl (by kernel_rfl) (by kernel_rfl) (by kernel_rfl) (fun _ _ _ h => h) (Or.inl ⟨by rfl, ?hy4⟩) (by assumption) ?rest4
          case hy4 =>
            intro w9 hS9
            go_simp
            try with_reducible rfl
          try simp only [Act.put, List.setIfInBounds_toArray, List.set_cons_zero, List.set_cons_succ]
          refine wpAnyH_ready (rs := [8]) (by kernel_rfl) (by simp) ?_
          refine AllReadyH.cons (o := { dst := none, op := _, type := _, pos := _, after := _, guard := _ }) rfl (fun K hK => ?_) AllReadyH.nil
          go_simp
          refine hK.out _ _ trivial (fun hx9 => ?_)
          clear hK K hx9
          try simp only [Act.put, List.setIfInBounds_toArray, List.set_cons_zero, List.set_cons_succ]
          refine wpAnyH_done (by kernel_rfl) (NoPanic.normal ?_) _
          clear c0 c1 c3 f3 hHeld
          go_wp2
          refine ⟨⟨_, _, _, D3⟩, ?_⟩
          rw [D3.out.2.2.2.1.lenAt, D.out.2.2.2.1.lenAt]
          exact HLT.out
        · go_simp
          refine (nodeImage_any w w1.drew (w.heap.size + 1) r (D.out.drewN 1).2.2.2.1 D.out.2.1).mono ?_
          rintro e W1 ⟨g1, hp⟩
          rcases hp with ⟨hp, rfl⟩ | ⟨n, r', hp, rfl, hr1⟩
          · rw [HRD.out] at hp; cases hp
          have T1 : Hid (TR w ys W1 (.slice va ns.length vc) ns n r') := (D.out.drewN 1).read g1 hp hr1
          have HLT : Hid (r'.length < r.length) := (rdNd_byt hp D.out.2.1).2.1
          have c1 := T1.out.2.2.2.2.2.1.2.1
          clear g1 hp hr1
          refine hK.out _ _ trivial (fun hx9 => ?_)
          clear hK K hx9
          try simp only [Act.put, List.setIfInBounds_toArray, List.set_cons_zero, List.set_cons_succ]
          refine wpAnyH_take (i := 4) (oi := { dst := some 15, op := _, type := _, pos := _, after := _, guard := _ }) (v := (ndV n)) rfl (by kernel_rfl) (by kernel_rfl) (by kernel_rfl) (fun _ _ _ h => h) (Or.inl ⟨by rfl, ?hy5⟩) (by assumption) ?rest5
          case hy5 =>
            intro w9 hS9
            unfold ndV
            have hfd := field_node n w9
            go_simp
          try simp only [Act.put, List.setIfInBounds_toArray, List.set_cons_zero, List.set_cons_succ]
          refine wpAnyH_ready (rs := [1, 5]) (by kernel_rfl) (by simp) ?_
          refine AllReadyH.cons (o := { dst := some 12, op := _, type := _, pos := _, after := _, guard := _ }) rfl (fun K hK => ?_) (AllReadyH.cons (o := { dst := some 16, op := _, type := _, pos := _, after := _, guard := _ }) rfl (fun K hK => ?_) AllReadyH.nil)
          · go_simp
            refine hK.out _ _ trivial (fun hx9 => ?_)
            clear hK K hx9
            try simp only [Act.put, List.setIfInBounds_toArray, List.set_cons_zero, List.set_cons_succ]
            refine wpAnyH_ready (rs := [5]) (by kernel_rfl) (by simp) ?_
            refine AllReadyH.cons (o := { dst := some 16, op := _, type := _, pos := _, after := _, guard := _ }) rfl (fun K hK => ?_) AllReadyH.nil
            unfold ndV
            go_simp
            have T2 : Hid (TR w ys (W1.alloc (.cells #[.string n.path, .string n.data, .int .i64 n.ver, .int .i64 n.cver, .int .i64 n.cz, .int .i64 n.mz, .int .i64 n.pz] 81)) (.slice va ns.length vc) ns n r') := T1.out.alloc _
            have NC : Hid (∀ j u, (ndL n)[j]? = some u → (W1.alloc (.cells #[.string n.path, .string n.data, .int .i64 n.ver, .int .i64 n.cver, .int .i64 n.cz, .int .i64 n.mz, .int .i64 n.pz] 81)).cell? ((⟨W1.heap.size, 0, none⟩ : Addr).add j) = some u) := ndL_cells _ _ _
            refine hK.out _ _ trivial (fun hx9 => ?_)
            clear hK K hx9 c1
            generalize W1.alloc (.cells #[.string n.path, .string n.data, .int .i64 n.ver, .int .i64 n.cver, .int .i64 n.cz, .int .i64 n.mz, .int .i64 n.pz] 81) = W2 at *
            generalize W1.heap.size = G1 at *
            have c1 := T2.out.2.2.2.2.2.1.2.1
            try simp only [Act.put, List.setIfInBounds_toArray, List.set_cons_zero, List.set_cons_succ]
            refine wpAnyH_ready (rs := [6]) (by kernel_rfl) (by simp) ?_
            refine AllReadyH.cons (o := { dst := some 17, op := _, type := _, pos := _, after := _, guard := _ }) rfl (fun K hK => ?_) AllReadyH.nil
            refine step_append rfl (.tmp 12) (.tmp 16) 28 rfl (w.heap.size + 3) 81 i0 (.agg #[.string ByteArray.empty, .string ByteArray.empty, .int .i64 0, .int .i64 0, .int .i64 0, .int .i64 0, .int .i64 0]) 7 72 Tryd.underlying28 hi hz0 hz1 hz2 rfl (by decide) (.slice va ns.length vc) ns.length _ rfl T2.out.2.2.2.2.2.2 ⟨G1, 0, none⟩ 1 1 (ndL n) rfl rfl NC.out (ndL_one n) (by unfold maxLen; omega) (by omega) (by have := T2.out.2.2.2.2.2.1.1; omega) ?_
            intro v3 W3 ho3 hg3
            have D3 : Hid (TS w ys (W3.setCell ⟨w.heap.size + 1 + 1, 0, none⟩ v3) v3 (ns ++ [n]) r') := T2.out.push hg3 ho3
            obtain ⟨a3, q3, hv3⟩ := D3.out.2.2.2.2.2.2.slice
            rw [show (ns ++ [n]).length = ns.length + 1 by simp] at hv3
            subst hv3
            obtain ⟨-, c3, f3⟩ := T2.out.2.2.2.2.2.1.turn hg3 (fun e => by have := (World.ownsRow.lt T2.out.2.2.2.2.2.2 _ e.symm).1; omega)
            clear ho3 hg3
            refine hK.out _ _ trivial (fun hx9 => ?_)
            clear hK K hx9
            try simp only [Act.put, List.setIfInBounds_toArray, List.set_cons_zero, List.set_cons_succ]
            refine wpAnyH_take (i := 7) (oi := { dst := some 18, op := _, type := _, pos := _, after := _, guard := _ }) (v := (.pointer (some ⟨w.heap.size + 1 + 1, 0, none⟩))) rfl (by kernel_rfl) (by kernel_rfl) (by kernel_rfl) (fun _ _ _ h => h) (Or.inl ⟨by rfl, ?hy6⟩) (by assumption) ?rest6
            case hy6 =>
              intro w9 hS9
              go_simp
              try with_reducible rfl
            try simp only [Act.put, List.setIfInBounds_toArray, List.set_cons_zero, List.set_cons_succ]
            refine wpAnyH_ready (rs := [8]) (by kernel_rfl) (by simp) ?_
            refine AllReadyH.cons (o := { dst := none, op := _, type := _, pos := _, after := _, guard := _ }) rfl (fun K hK => ?_) AllReadyH.nil
            go_simp
            refine hK.out _ _ trivial (fun hx9 => ?_)
            clear hK K hx9
            try simp only [Act.put, List.setIfInBounds_toArray, List.set_cons_zero, List.set_cons_succ]
            refine wpAnyH_done (by kernel_rfl) (NoPanic.normal ?_) _
            clear c0 c1 c3 f3 hHeld
            go_wp2
            refine ⟨⟨_, _, _, D3⟩, ?_⟩
            rw [D3.out.2.2.2.1.lenAt, D.out.2.2.2.1.lenAt]
            exact HLT.out
          · unfold ndV
            go_simp
            have T2 : Hid (TR w ys (W1.alloc (.cells #[.string n.path, .string n.data, .int .i64 n.ver, .int .i64 n.cver, .int .i64 n.cz, .int .i64 n.mz, .int .i64 n.pz] 81)) (.slice va ns.length vc) ns n r') := T1.out.alloc _
            have NC : Hid (∀ j u, (ndL n)[j]? = some u → (W1.alloc (.cells #[.string n.path, .string n.data, .int .i64 n.ver, .int .i64 n.cver, .int .i64 n.cz, .int .i64 n.mz, .int .i64 n.pz] 81)).cell? ((⟨W1.heap.size, 0, none⟩ : Addr).add j) = some u) := ndL_cells _ _ _
            refine hK.out _ _ trivial (fun hx9 => ?_)
            clear hK K hx9 c1
            generalize W1.alloc (.cells #[.string n.path, .string n.data, .int .i64 n.ver, .int .i64 n.cver, .int .i64 n.cz, .int .i64 n.mz, .int .i64 n.pz] 81) = W2 at *
            generalize W1.heap.size = G1 at *
            have c1 := T2.out.2.2.2.2.2.1.2.1
            try simp only [Act.put, List.setIfInBounds_toArray, List.set_cons_zero, List.set_cons_succ]
            refine wpAnyH_ready (rs := [1]) (by kernel_rfl) (by simp) ?_
            refine AllReadyH.cons (o := { dst := some 12, op := _, type := _, pos := _, after := _, guard := _ }) rfl (fun K hK => ?_) AllReadyH.nil
            go_simp
            refine hK.out _ _ trivial (fun hx9 => ?_)
            clear hK K hx9
            try simp only [Act.put, List.setIfInBounds_toArray, List.set_cons_zero, List.set_cons_succ]
            refine wpAnyH_ready (rs := [6]) (by kernel_rfl) (by simp) ?_
            refine AllReadyH.cons (o := { dst := some 17, op := _, type := _, pos := _, after := _, guard := _ }) rfl (fun K hK => ?_) AllReadyH.nil
            refine step_append rfl (.tmp 12) (.tmp 16) 28 rfl (w.heap.size + 3) 81 i0 (.agg #[.string ByteArray.empty, .string ByteArray.empty, .int .i64 0, .int .i64 0, .int .i64 0, .int .i64 0, .int .i64 0]) 7 72 Tryd.underlying28 hi hz0 hz1 hz2 rfl (by decide) (.slice va ns.length vc) ns.length _ rfl T2.out.2.2.2.2.2.2 ⟨G1, 0, none⟩ 1 1 (ndL n) rfl rfl NC.out (ndL_one n) (by unfold maxLen; omega) (by omega) (by have := T2.out.2.2.2.2.2.1.1; omega) ?_
            intro v3 W3 ho3 hg3
            have D3 : Hid (TS w ys (W3.setCell ⟨w.heap.size + 1 + 1, 0, none⟩ v3) v3 (ns ++ [n]) r') := T2.out.push hg3 ho3
            obtain ⟨a3, q3, hv3⟩ := D3.out.2.2.2.2.2.2.slice
            rw [show (ns ++ [n]).length = ns.length + 1 by simp] at hv3
            subst hv3
            obtain ⟨-, c3, f3⟩ := T2.out.2.2.2.2.2.1.turn hg3 (fun e => by have := (World.ownsRow.lt T2.out.2.2.2.2.2.2 _ e.symm).1; omega)
            clear ho3 hg3
            refine hK.out _ _ trivial (fun hx9 => ?_)
            clear hK K hx9
            try simp only [Act.put, List.setIfInBounds_toArray, List.set_cons_zero, List.set_cons_succ]
            refine wpAnyH_take (i := 7) (oi := { dst := some 18, op := _, type := _, pos := _, after := _, guard := _ }) (v := (.pointer (some ⟨w.heap.size + 1 + 1, 0, none⟩))) rfl (by kernel_rfl) (by kernel_rfl) (by kernel_rfl) (fun _ _ _ h => h) (Or.inl ⟨by rfl, ?hy7⟩) (by assumption) ?rest7
            case hy7 =>
              intro w9 hS9
              go_simp
              try with_reducible rfl
            try simp only [Act.put, List.setIfInBounds_toArray, List.set_cons_zero, List.set_cons_succ]
            refine wpAnyH_ready (rs := [8]) (by kernel_rfl) (by simp) ?_
            refine AllReadyH.cons (o := { dst := none, op := _, type := _, pos := _, after := _, guard := _ }) rfl (fun K hK => ?_) AllReadyH.nil
            go_simp
            refine hK.out _ _ trivial (fun hx9 => ?_)
            clear hK K hx9
            try simp only [Act.put, List.setIfInBounds_toArray, List.set_cons_zero, List.set_cons_succ]
            refine wpAnyH_done (by kernel_rfl) (NoPanic.normal ?_) _
            clear c0 c1 c3 f3 hHeld
            go_wp2
            refine ⟨⟨_, _, _, D3⟩, ?_⟩
            rw [D3.out.2.2.2.1.lenAt, D.out.2.2.2.1.lenAt]
            exact HLT.out

end Go.Proofs.YtgjenbgclpmjmaaDoor

namespace Go.Proofs.YtgjenbgclpmjmaaDoor
open Go.RowKit Go.Shelf

/-- The nodes without a path. -/
def woN (ns : List Nd) (p : ByteArray) : List Nd := ns.filter fun n => !(n.path.toList == p.toList)
theorem woN_yes (ns : List Nd) (p : ByteArray) (k : Nat) (h : k < ns.length) (hc : ((nAt ns k).path.toList == p.toList) = true) : woN (ns.take (k + 1)) p = woN (ns.take k) p := by
  unfold woN
  rw [List.take_succ_eq_append_getElem h, List.filter_append, ← nAt_get h]
  simp [hc]
theorem woN_no (ns : List Nd) (p : ByteArray) (k : Nat) (h : k < ns.length) (hc : ((nAt ns k).path.toList == p.toList) = false) : woN (ns.take (k + 1)) p = woN (ns.take k) p ++ [nAt ns k] := by
  unfold woN
  rw [List.take_succ_eq_append_getElem h, List.filter_append, ← nAt_get h]
  simp [hc]
theorem woN_len (ns : List Nd) (p : ByteArray) : (woN ns p).length ≤ ns.length := List.length_filter_le _ _

set_option maxHeartbeats 1000000 in
set_option maxRecDepth 100000 in
theorem without_any (w : World) (v : Value) (ns : List Nd) (p : ByteArray) (h : RdN w v ns) (hn : ns.length ≤ 1000000) :
    Calls Tryd.prog 95 #[v, .string p] w fun e w' => ∃ v', e = .returned v' ∧ OwnN 81 w' w.heap.size v' (woN ns p) ∧ Below w.heap.size w w' := by
  obtain ⟨i0, hi, hz0, hz1, hz2⟩ := info_parts Tryd.infoN
  obtain ⟨ao, ca, rfl, _, _⟩ := h.len
  have HR : Hid (RdN w (.slice ao ns.length ca) ns) := h
  have O0 : Hid (OwnN 81 (w.alloc (.cells #[] 81)) w.heap.size (.slice (some ⟨w.heap.size, 0, none⟩) 0 0) (woN (ns.take 0) p)) := World.ownsRow_lit w #[] 0 (Nat.le_refl _) (Nat.zero_le _) rfl
  have B0 : Hid (Below w.heap.size w (w.alloc (.cells #[] 81))) := (Below.refl _ _).alloc (Nat.le_refl _) _
  generalize hnn : ns.length = n at *
  have HP : Hid (ns.length = n) := hnn
  clear h hnn
  go_enter Tryd.func95, Tryd.ntmps95
  go_wp2
  go_loopw [5, 6] (fun vo vk wr => ∃ k : Nat, k ≤ n ∧ vk = .int .i64 k ∧ Hid (OwnN 81 wr w.heap.size vo (woN (ns.take k) p)) ∧ Hid (Below w.heap.size w wr)) (fun _ i _ => n - (intOf i).toNat)
  case atStart => exact ⟨0, Nat.zero_le _, rfl, O0, B0⟩
  case round =>
    obtain ⟨k, hk, rfl, HW, HB⟩ := hrel
    have sB := HB.out.size
    by_cases hlt : k < n
    · have hltI : (k : Int) < (n : Int) := by omega
      obtain ⟨b, o, hao, hb, hc⟩ : ∃ b o, ao = some ⟨b, o, none⟩ ∧ b < w.heap.size ∧ CellsN w b (o + k * 7) (nAt ns k) := by
        obtain ⟨ao', cap', e', -, -, h3⟩ := HR.out
        simp only [Value.slice.injEq] at e'
        obtain ⟨rfl, -, -⟩ := e'
        rcases h3 with h3 | ⟨b, o, rfl, hb, hc⟩
        · have := HP.out; rw [h3] at this; simp at this; omega
        · exact ⟨b, o, rfl, hb, hc k (by rw [HP.out]; exact hlt)⟩
      subst hao
      obtain ⟨c0, c1, c2, c3, c4, c5, c6⟩ := hc.below HB.out hb
      clear hc
      have hll : (woN (ns.take k) p).length ≤ 1000000 := by
        have := woN_len (ns.take k) p
        rw [List.length_take] at this
        omega
      cases hA : ((nAt ns k).path.toList == p.toList) with
      | true =>
        have HS : Hid (woN (ns.take (k + 1)) p = woN (ns.take k) p) := woN_yes ns p k (by rw [HP.out]; exact hlt) hA
        go_wp2
        exact ⟨⟨k + 1, by omega, by go_num, (by rw [HS.out]; exact HW), HB⟩, by simp [intOf]; omega⟩
      | false =>
        have HS : Hid (woN (ns.take (k + 1)) p = woN (ns.take k) p ++ [nAt ns k]) := woN_no ns p k (by rw [HP.out]; exact hlt) hA
        generalize woN (ns.take k) p = Lk at *
        generalize nAt ns k = m at *
        have OR : Hid (wr.ownsRow w.heap.size 81 7 u5 Lk.length (nrow Lk)) := HW.out
        go_wp2_with (at_builtin; go_must (refine wpList_append_own _ rfl _ _ 28 rfl w.heap.size 81 i0 (.agg #[.string ByteArray.empty, .string ByteArray.empty, .int .i64 0, .int .i64 0, .int .i64 0, .int .i64 0, .int .i64 0]) 7 72 Tryd.underlying28 hi hz0 hz1 hz2 rfl (by decide) _ _ _ rfl (OR.out.alloc _) ⟨wr.heap.size, 0, none⟩ 1 1 (ndL m) rfl rfl (ndL_cells wr m _) (ndL_one m) ?_ ?_ ?_ ?_))
        · unfold maxLen; omega
        · omega
        · simp; omega
        intro v5 w5 ho5 hg5 _
        have O5 : Hid (OwnN 81 w5 w.heap.size v5 (woN (ns.take (k + 1)) p)) := by
          rw [HS.out]
          unfold OwnN
          rw [List.length_append, nrow_one]
          exact ho5
        have B5 : Hid (Below w.heap.size w w5) := (HB.out.alloc sB _).grown hg5 (by simp; omega) (fun q hq => (World.ownsRow.lt OR.out q hq).1)
        clear ho5 hg5 OR HW HB HS c0 c1 c2 c3 c4 c5 c6
        go_wp2
        exact ⟨⟨k + 1, by omega, by go_num, O5, B5⟩, by simp [intOf]; omega⟩
    · have hkn : k = n := by omega
      subst hkn
      go_wp2
      go_ret
      refine ⟨_, rfl, ?_, HB.out⟩
      have := HW.out
      rw [List.take_of_length_le (by rw [HP.out]; exact Nat.le_refl _)] at this
      exact this

end Go.Proofs.YtgjenbgclpmjmaaDoor

namespace Go.Proofs.YtgjenbgclpmjmaaDoor
open Go.RowKit Go.Shelf

/-- A node put in its place, step by step. -/
def stW (n : Nd) (st : List Nd × Bool) (m : Nd) : List Nd × Bool :=
  let o := if !st.2 && !(Op.bytesLess m.path.toList n.path.toList) then (st.1 ++ [n], true) else st
  if m.path.toList == n.path.toList then o else (o.1 ++ [m], o.2)
def wiF (ns : List Nd) (n : Nd) : List Nd × Bool := ns.foldl (stW n) ([], false)
def wiN (ns : List Nd) (n : Nd) : List Nd := if (wiF ns n).2 then (wiF ns n).1 else (wiF ns n).1 ++ [n]
theorem wiF_succ (ns : List Nd) (n : Nd) (k : Nat) (h : k < ns.length) : wiF (ns.take (k + 1)) n = stW n (wiF (ns.take k) n) (nAt ns k) := by
  unfold wiF
  rw [List.take_succ_eq_append_getElem h, List.foldl_append, nAt_get h]
  rfl
theorem stW_len (n : Nd) (st : List Nd × Bool) (m : Nd) : (stW n st m).1.length ≤ st.1.length + 2 := by
  unfold stW
  simp only
  split <;> split <;> simp <;> omega
theorem wiF_len : ∀ (ns : List Nd) (n : Nd) (k : Nat), (wiF (ns.take k) n).1.length ≤ 2 * k
  | ns, n, 0 => by simp [wiF]
  | ns, n, k + 1 => by
    have h1 := wiF_len ns n k
    by_cases h : k < ns.length
    · rw [wiF_succ ns n k h]
      have := stW_len n (wiF (ns.take k) n) (nAt ns k)
      omega
    · rw [List.take_of_length_le (by omega)] at h1 ⊢
      omega

theorem BoxN.belowW {w w' : World} {B : Nat} {n : Nd} (h : BoxN w B n) (hb : Below (B + 1) w w') : BoxN w' B n :=
  ⟨Nat.lt_of_lt_of_le h.lt hb.size, (hb.cell (p := ⟨B, _, none⟩) (Nat.lt_succ_self _)).trans h.c0, (hb.cell (p := ⟨B, _, none⟩) (Nat.lt_succ_self _)).trans h.c1, (hb.cell (p := ⟨B, _, none⟩) (Nat.lt_succ_self _)).trans h.c2, (hb.cell (p := ⟨B, _, none⟩) (Nat.lt_succ_self _)).trans h.c3, (hb.cell (p := ⟨B, _, none⟩) (Nat.lt_succ_self _)).trans h.c4, (hb.cell (p := ⟨B, _, none⟩) (Nat.lt_succ_self _)).trans h.c5, (hb.cell (p := ⟨B, _, none⟩) (Nat.lt_succ_self _)).trans h.c6⟩

set_option maxHeartbeats 4000000 in
set_option maxRecDepth 100000 in
theorem with_any (w : World) (v : Value) (ns : List Nd) (n : Nd) (h : RdN w v ns) (hn : ns.length ≤ 100000) :
    Calls Tryd.prog 96 #[v, .agg #[.string n.path, .string n.data, .int .i64 n.ver, .int .i64 n.cver, .int .i64 n.cz, .int .i64 n.mz, .int .i64 n.pz]] w fun e w' => ∃ v', e = .returned v' ∧ OwnN 81 w' w.heap.size v' (wiN ns n) ∧ Below w.heap.size w w' := by
  obtain ⟨i0, hi, hz0, hz1, hz2⟩ := info_parts Tryd.infoN
  obtain ⟨ao, ca, rfl, _, _⟩ := h.len
  have HR : Hid (RdN w (.slice ao ns.length ca) ns) := h
  have X0 : Hid (BoxN ((w.alloc (.cells #[.string n.path, .string n.data, .int .i64 n.ver, .int .i64 n.cver, .int .i64 n.cz, .int .i64 n.mz, .int .i64 n.pz] 81)).alloc (.cells #[] 81)) w.heap.size n) := (BoxN.new w n _).below ((Below.refl _ _).alloc (Nat.le_refl _) _)
  have B0 : Hid (Below w.heap.size w ((w.alloc (.cells #[.string n.path, .string n.data, .int .i64 n.ver, .int .i64 n.cver, .int .i64 n.cz, .int .i64 n.mz, .int .i64 n.pz] 81)).alloc (.cells #[] 81))) := ((Below.refl _ _).alloc (Nat.le_refl _) _).alloc (by simp) _
  have O0 : Hid (OwnN 81 ((w.alloc (.cells #[.string n.path, .string n.data, .int .i64 n.ver, .int .i64 n.cver, .int .i64 n.cz, .int .i64 n.mz, .int .i64 n.pz] 81)).alloc (.cells #[] 81)) (w.heap.size + 1) (.slice (some ⟨w.heap.size + 1, 0, none⟩) 0 0) (wiF (ns.take 0) n).1) := by
    have := World.ownsRow_lit (base := w.heap.size + 1) (e := 81) (size := 7) (w.alloc (.cells #[.string n.path, .string n.data, .int .i64 n.ver, .int .i64 n.cver, .int .i64 n.cz, .int .i64 n.mz, .int .i64 n.pz] 81)) #[] 0 (by simp) (Nat.zero_le _) rfl
    rw [show (w.alloc (.cells #[.string n.path, .string n.data, .int .i64 n.ver, .int .i64 n.cver, .int .i64 n.cz, .int .i64 n.mz, .int .i64 n.pz] 81)).heap.size = w.heap.size + 1 by simp] at this
    exact this
  generalize hnn : ns.length = N at *
  have HP : Hid (ns.length = N) := hnn
  clear h hnn
  go_enter Tryd.func96, Tryd.ntmps96
  go_wp2
  generalize (w.alloc (.cells #[.string n.path, .string n.data, .int .i64 n.ver, .int .i64 n.cver, .int .i64 n.cz, .int .i64 n.mz, .int .i64 n.pz] 81)).alloc (.cells #[] 81) = w0 at *
  have D0 : Hid (Below (w.heap.size + 1) w0 w0) := Below.refl _ _
  have s0 : w.heap.size + 1 ≤ w0.heap.size := X0.out.lt
  go_loopw [5, 6, 7] (fun vo vd vk wr => ∃ k : Nat, k ≤ N ∧ vk = .int .i64 k ∧ vd = .bool (wiF (ns.take k) n).2 ∧ Hid (OwnN 81 wr (w.heap.size + 1) vo (wiF (ns.take k) n).1) ∧ Hid (Below (w.heap.size + 1) w0 wr)) (fun _ _ i _ => N - (intOf i).toNat)
  case atStart => exact ⟨0, Nat.zero_le _, rfl, rfl, O0, D0⟩
  case round =>
    obtain ⟨k, hk, rfl, rfl, HW, HD⟩ := hrel
    have sD : w.heap.size + 1 ≤ wr.heap.size := Nat.le_trans s0 HD.out.size
    have hll := wiF_len ns n k
    by_cases hlt : k < N
    · have hltI : (k : Int) < (N : Int) := by omega
      obtain ⟨b, o, hao, hb, hc⟩ : ∃ b o, ao = some ⟨b, o, none⟩ ∧ b < w.heap.size ∧ CellsN w b (o + k * 7) (nAt ns k) := by
        obtain ⟨ao', cap', e', -, -, h3⟩ := HR.out
        simp only [Value.slice.injEq] at e'
        obtain ⟨rfl, -, -⟩ := e'
        rcases h3 with h3 | ⟨b, o, rfl, hb, hc⟩
        · have := HP.out; rw [h3] at this; simp at this; omega
        · exact ⟨b, o, rfl, hb, hc k (by rw [HP.out]; exact hlt)⟩
      subst hao
      have HCk : Hid (CellsN w0 b (o + k * 7) (nAt ns k)) := hc.below B0.out hb
      have hb1 : b < w.heap.size + 1 := Nat.lt_succ_of_lt hb
      clear hc
      have HST : Hid (wiF (ns.take (k + 1)) n = stW n (wiF (ns.take k) n) (nAt ns k)) := wiF_succ ns n k (by rw [HP.out]; exact hlt)
      generalize hst : wiF (ns.take k) n = st at *
      clear hst
      generalize hm : nAt ns k = m at *
      clear hm
      obtain ⟨st1, st2⟩ := st
      simp only at hll HW
      cases st2 with
      | true =>
        go_wp2
        refine wp_region_held_drew (S := fun W => W.cell? ⟨b, o + k * 7, none⟩ = some (.string m.path) ∧ W.cell? ⟨w.heap.size, 0, none⟩ = some (.string n.path)) (by kernel_rfl) (⟨(HCk.out.below (HD.out.trans ((below_drewN' _ 1).mono (Nat.le_trans s0 HD.out.size))) hb1).c0, (X0.out.belowW (HD.out.trans ((below_drewN' _ 1).mono (Nat.le_trans s0 HD.out.size)))).c0⟩) (fun hHeld => ?_)
        refine wpAnyH_take (i := 0) (oi := { dst := some 15, op := _, type := _, pos := _, after := _, guard := _ }) (v := (.bool true)) rfl (by kernel_rfl) (by kernel_rfl) (by kernel_rfl) (fun _ _ _ h => h) (Or.inl ⟨by rfl, ?hy1⟩) (by assumption) ?rest1
        case hy1 =>
          intro w9 hS9
          obtain ⟨y0, y1⟩ := hS9
          go_simp
          try with_reducible rfl
        try simp only [Act.put, List.setIfInBounds_toArray, List.set_cons_zero, List.set_cons_succ]
        refine wpAnyH_take (i := 1) (oi := { dst := some 16, op := _, type := _, pos := _, after := _, guard := _ }) (v := (.bool false)) rfl (by kernel_rfl) (by kernel_rfl) (by kernel_rfl) (fun _ _ _ h => h) (Or.inl ⟨by rfl, ?hy2⟩) (by assumption) ?rest2
        case hy2 =>
          intro w9 hS9
          obtain ⟨y0, y1⟩ := hS9
          go_simp
          try with_reducible rfl
        try simp only [Act.put, List.setIfInBounds_toArray, List.set_cons_zero, List.set_cons_succ]
        refine wpAnyH_take (i := 2) (oi := { dst := some 17, op := _, type := _, pos := _, after := _, guard := _ }) (v := (.bool false)) rfl (by kernel_rfl) (by kernel_rfl) (by kernel_rfl) (fun _ _ _ h => h) (Or.inl ⟨by rfl, ?hy3⟩) (by assumption) ?rest3
        case hy3 =>
          intro w9 hS9
          obtain ⟨y0, y1⟩ := hS9
          go_simp
          try with_reducible rfl
        try simp only [Act.put, List.setIfInBounds_toArray, List.set_cons_zero, List.set_cons_succ]
        refine wpAnyH_take (i := 3) (oi := { dst := some 18, op := _, type := _, pos := _, after := _, guard := _ }) (v := undef) rfl (by kernel_rfl) (by kernel_rfl) (by kernel_rfl) (fun _ _ _ h => h) (Or.inr ⟨by rfl, rfl⟩) (by assumption) ?_
        try simp only [Act.put, List.setIfInBounds_toArray, List.set_cons_zero, List.set_cons_succ]
        refine wpAnyH_take (i := 4) (oi := { dst := some 19, op := _, type := _, pos := _, after := _, guard := _ }) (v := undef) rfl (by kernel_rfl) (by kernel_rfl) (by kernel_rfl) (fun _ _ _ h => h) (Or.inr ⟨by rfl, rfl⟩) (by assumption) ?_
        try simp only [Act.put, List.setIfInBounds_toArray, List.set_cons_zero, List.set_cons_succ]
        refine wpAnyH_take (i := 5) (oi := { dst := some 20, op := _, type := _, pos := _, after := _, guard := _ }) (v := undef) rfl (by kernel_rfl) (by kernel_rfl) (by kernel_rfl) (fun _ _ _ h => h) (Or.inr ⟨by rfl, rfl⟩) (by assumption) ?_
        try simp only [Act.put, List.setIfInBounds_toArray, List.set_cons_zero, List.set_cons_succ]
        refine wpAnyH_take (i := 6) (oi := { dst := some 21, op := _, type := _, pos := _, after := _, guard := _ }) (v := undef) rfl (by kernel_rfl) (by kernel_rfl) (by kernel_rfl) (fun _ _ _ h => h) (Or.inr ⟨by rfl, rfl⟩) (by assumption) ?_
        try simp only [Act.put, List.setIfInBounds_toArray, List.set_cons_zero, List.set_cons_succ]
        refine wpAnyH_take (i := 7) (oi := { dst := some 22, op := _, type := _, pos := _, after := _, guard := _ }) (v := undef) rfl (by kernel_rfl) (by kernel_rfl) (by kernel_rfl) (fun _ _ _ h => h) (Or.inr ⟨by rfl, rfl⟩) (by assumption) ?_
        try simp only [Act.put, List.setIfInBounds_toArray, List.set_cons_zero, List.set_cons_succ]
        refine wpAnyH_take (i := 8) (oi := { dst := some 23, op := _, type := _, pos := _, after := _, guard := _ }) (v := undef) rfl (by kernel_rfl) (by kernel_rfl) (by kernel_rfl) (fun _ _ _ h => h) (Or.inr ⟨by rfl, rfl⟩) (by assumption) ?_
        try simp only [Act.put, List.setIfInBounds_toArray, List.set_cons_zero, List.set_cons_succ]
        refine wpAnyH_take (i := 9) (oi := { dst := some 24, op := _, type := _, pos := _, after := _, guard := _ }) (v := undef) rfl (by kernel_rfl) (by kernel_rfl) (by kernel_rfl) (fun _ _ _ h => h) (Or.inr ⟨by rfl, rfl⟩) (by assumption) ?_
        try simp only [Act.put, List.setIfInBounds_toArray, List.set_cons_zero, List.set_cons_succ]
        refine wpAnyH_take (i := 10) (oi := { dst := some 25, op := _, type := _, pos := _, after := _, guard := _ }) (v := undef) rfl (by kernel_rfl) (by kernel_rfl) (by kernel_rfl) (fun _ _ _ h => h) (Or.inr ⟨by rfl, rfl⟩) (by assumption) ?_
        try simp only [Act.put, List.setIfInBounds_toArray, List.set_cons_zero, List.set_cons_succ]
        refine wpAnyH_take (i := 11) (oi := { dst := some 26, op := _, type := _, pos := _, after := _, guard := _ }) (v := (.bool false)) rfl (by kernel_rfl) (by kernel_rfl) (by kernel_rfl) (fun _ _ _ h => h) (Or.inl ⟨by rfl, ?hy4⟩) (by assumption) ?rest4
        case hy4 =>
          intro w9 hS9
          obtain ⟨y0, y1⟩ := hS9
          go_simp
          try with_reducible rfl
        try simp only [Act.put, List.setIfInBounds_toArray, List.set_cons_zero, List.set_cons_succ]
        refine wpAnyH_done (by kernel_rfl) ?_ _
        clear hHeld
        have Dw1 : Hid (Below (w.heap.size + 1) w0 wr.drew) := HD.out.trans ((below_drewN' wr 1).mono (Nat.le_trans s0 HD.out.size))
        have Ow1 : Hid (OwnN 81 wr.drew (w.heap.size + 1) u5 st1) := HW.out
        generalize wr.drew = w1 at *
        cases heq : (m.path.toList == n.path.toList) with
        | true =>
          have HS : Hid (stW n (st1, true) m = (st1, true)) := by show _ = _; unfold stW; simp [heq]
          go_wp2
          refine wp_region_held_drew (S := fun W => W.cell? ⟨b, o + k * 7, none⟩ = some (.string m.path) ∧ W.cell? ⟨w.heap.size, 0, none⟩ = some (.string n.path)) (by kernel_rfl) (⟨(HCk.out.below (Dw1.out.trans ((below_drewN' _ 1).mono (Nat.le_trans s0 Dw1.out.size))) hb1).c0, (X0.out.belowW (Dw1.out.trans ((below_drewN' _ 1).mono (Nat.le_trans s0 Dw1.out.size)))).c0⟩) (fun hHeld => ?_)
          refine wpAnyH_take (i := 0) (oi := { dst := some 31, op := _, type := _, pos := _, after := _, guard := _ }) (v := (.slice (some ⟨b, o, none⟩) N ca)) rfl (by kernel_rfl) (by kernel_rfl) (by kernel_rfl) (fun _ _ _ h => h) (Or.inl ⟨by rfl, ?hy5⟩) (by assumption) ?rest5
          case hy5 =>
            intro w9 hS9
            obtain ⟨y0, y1⟩ := hS9
            go_simp
            try with_reducible rfl
          try simp only [Act.put, List.setIfInBounds_toArray, List.set_cons_zero, List.set_cons_succ]
          refine wpAnyH_take (i := 1) (oi := { dst := some 32, op := _, type := _, pos := _, after := _, guard := _ }) (v := (.int .i64 (k : Int))) rfl (by kernel_rfl) (by kernel_rfl) (by kernel_rfl) (fun _ _ _ h => h) (Or.inl ⟨by rfl, ?hy6⟩) (by assumption) ?rest6
          case hy6 =>
            intro w9 hS9
            obtain ⟨y0, y1⟩ := hS9
            go_simp
            try with_reducible rfl
          try simp only [Act.put, List.setIfInBounds_toArray, List.set_cons_zero, List.set_cons_succ]
          refine wpAnyH_take (i := 2) (oi := { dst := some 33, op := _, type := _, pos := _, after := _, guard := _ }) (v := (.pointer (some ⟨b, o + k * 7, none⟩))) rfl (by kernel_rfl) (by kernel_rfl) (by kernel_rfl) (fun _ _ _ h => h) (Or.inl ⟨by rfl, ?hy7⟩) (by assumption) ?rest7
          case hy7 =>
            intro w9 hS9
            obtain ⟨y0, y1⟩ := hS9
            go_simp
            try with_reducible rfl
          try simp only [Act.put, List.setIfInBounds_toArray, List.set_cons_zero, List.set_cons_succ]
          refine wpAnyH_take (i := 3) (oi := { dst := some 34, op := _, type := _, pos := _, after := _, guard := _ }) (v := (.pointer (some ⟨b, o + k * 7, none⟩))) rfl (by kernel_rfl) (by kernel_rfl) (by kernel_rfl) (fun _ _ _ h => h) (Or.inl ⟨by rfl, ?hy8⟩) (by assumption) ?rest8
          case hy8 =>
            intro w9 hS9
            obtain ⟨y0, y1⟩ := hS9
            go_simp
            try with_reducible rfl
          try simp only [Act.put, List.setIfInBounds_toArray, List.set_cons_zero, List.set_cons_succ]
          refine wpAnyH_take (i := 4) (oi := { dst := some 35, op := _, type := _, pos := _, after := _, guard := _ }) (v := (.string m.path)) rfl (by kernel_rfl) (by kernel_rfl) (by kernel_rfl) (fun _ _ _ h => h) (Or.inl ⟨by rfl, ?hy9⟩) (by assumption) ?rest9
          case hy9 =>
            intro w9 hS9
            obtain ⟨y0, y1⟩ := hS9
            go_simp
            try with_reducible rfl
          try simp only [Act.put, List.setIfInBounds_toArray, List.set_cons_zero, List.set_cons_succ]
          refine wpAnyH_take (i := 5) (oi := { dst := some 36, op := _, type := _, pos := _, after := _, guard := _ }) (v := (.pointer (some ⟨w.heap.size, 0, none⟩))) rfl (by kernel_rfl) (by kernel_rfl) (by kernel_rfl) (fun _ _ _ h => h) (Or.inl ⟨by rfl, ?hy10⟩) (by assumption) ?rest10
          case hy10 =>
            intro w9 hS9
            obtain ⟨y0, y1⟩ := hS9
            go_simp
            try with_reducible rfl
          try simp only [Act.put, List.setIfInBounds_toArray, List.set_cons_zero, List.set_cons_succ]
          refine wpAnyH_take (i := 6) (oi := { dst := some 37, op := _, type := _, pos := _, after := _, guard := _ }) (v := (.string n.path)) rfl (by kernel_rfl) (by kernel_rfl) (by kernel_rfl) (fun _ _ _ h => h) (Or.inl ⟨by rfl, ?hy11⟩) (by assumption) ?rest11
          case hy11 =>
            intro w9 hS9
            obtain ⟨y0, y1⟩ := hS9
            go_simp
            try with_reducible rfl
          try simp only [Act.put, List.setIfInBounds_toArray, List.set_cons_zero, List.set_cons_succ]
          refine wpAnyH_take (i := 7) (oi := { dst := some 38, op := _, type := _, pos := _, after := _, guard := _ }) (v := (.bool false)) rfl (by kernel_rfl) (by kernel_rfl) (by kernel_rfl) (fun _ _ _ h => h) (Or.inl ⟨by rfl, ?hy12⟩) (by assumption) ?rest12
          case hy12 =>
            intro w9 hS9
            obtain ⟨y0, y1⟩ := hS9
            go_simp
            try with_reducible rfl
          try simp only [Act.put, List.setIfInBounds_toArray, List.set_cons_zero, List.set_cons_succ]
          refine wpAnyH_done (by kernel_rfl) ?_ _
          clear hHeld
          have Dwz : Hid (Below (w.heap.size + 1) w0 w1.drew) := Dw1.out.trans ((below_drewN' w1 1).mono (Nat.le_trans s0 Dw1.out.size))
          have Owz : Hid (OwnN 81 w1.drew (w.heap.size + 1) u5 st1) := Ow1.out
          generalize w1.drew = wz at *
          go_wp2
          exact ⟨⟨k + 1, by omega, by go_num, (by rw [HST.out, HS.out]), (by rw [HST.out, HS.out]; exact Owz), Dwz⟩, by simp [intOf]; omega⟩
        | false =>
          have HS : Hid (stW n (st1, true) m = (st1 ++ [m], true)) := by show _ = _; unfold stW; simp [heq]
          go_wp2
          refine wp_region_held_drew (S := fun W => W.cell? ⟨b, o + k * 7, none⟩ = some (.string m.path) ∧ W.cell? ⟨w.heap.size, 0, none⟩ = some (.string n.path)) (by kernel_rfl) (⟨(HCk.out.below (Dw1.out.trans ((below_drewN' _ 1).mono (Nat.le_trans s0 Dw1.out.size))) hb1).c0, (X0.out.belowW (Dw1.out.trans ((below_drewN' _ 1).mono (Nat.le_trans s0 Dw1.out.size)))).c0⟩) (fun hHeld => ?_)
          refine wpAnyH_take (i := 0) (oi := { dst := some 31, op := _, type := _, pos := _, after := _, guard := _ }) (v := (.slice (some ⟨b, o, none⟩) N ca)) rfl (by kernel_rfl) (by kernel_rfl) (by kernel_rfl) (fun _ _ _ h => h) (Or.inl ⟨by rfl, ?hy13⟩) (by assumption) ?rest13
          case hy13 =>
            intro w9 hS9
            obtain ⟨y0, y1⟩ := hS9
            go_simp
            try with_reducible rfl
          try simp only [Act.put, List.setIfInBounds_toArray, List.set_cons_zero, List.set_cons_succ]
          refine wpAnyH_take (i := 1) (oi := { dst := some 32, op := _, type := _, pos := _, after := _, guard := _ }) (v := (.int .i64 (k : Int))) rfl (by kernel_rfl) (by kernel_rfl) (by kernel_rfl) (fun _ _ _ h => h) (Or.inl ⟨by rfl, ?hy14⟩) (by assumption) ?rest14
          case hy14 =>
            intro w9 hS9
            obtain ⟨y0, y1⟩ := hS9
            go_simp
            try with_reducible rfl
          try simp only [Act.put, List.setIfInBounds_toArray, List.set_cons_zero, List.set_cons_succ]
          refine wpAnyH_take (i := 2) (oi := { dst := some 33, op := _, type := _, pos := _, after := _, guard := _ }) (v := (.pointer (some ⟨b, o + k * 7, none⟩))) rfl (by kernel_rfl) (by kernel_rfl) (by kernel_rfl) (fun _ _ _ h => h) (Or.inl ⟨by rfl, ?hy15⟩) (by assumption) ?rest15
          case hy15 =>
            intro w9 hS9
            obtain ⟨y0, y1⟩ := hS9
            go_simp
            try with_reducible rfl
          try simp only [Act.put, List.setIfInBounds_toArray, List.set_cons_zero, List.set_cons_succ]
          refine wpAnyH_take (i := 3) (oi := { dst := some 34, op := _, type := _, pos := _, after := _, guard := _ }) (v := (.pointer (some ⟨b, o + k * 7, none⟩))) rfl (by kernel_rfl) (by kernel_rfl) (by kernel_rfl) (fun _ _ _ h => h) (Or.inl ⟨by rfl, ?hy16⟩) (by assumption) ?rest16
          case hy16 =>
            intro w9 hS9
            obtain ⟨y0, y1⟩ := hS9
            go_simp
            try with_reducible rfl
          try simp only [Act.put, List.setIfInBounds_toArray, List.set_cons_zero, List.set_cons_succ]
          refine wpAnyH_take (i := 4) (oi := { dst := some 35, op := _, type := _, pos := _, after := _, guard := _ }) (v := (.string m.path)) rfl (by kernel_rfl) (by kernel_rfl) (by kernel_rfl) (fun _ _ _ h => h) (Or.inl ⟨by rfl, ?hy17⟩) (by assumption) ?rest17
          case hy17 =>
            intro w9 hS9
            obtain ⟨y0, y1⟩ := hS9
            go_simp
            try with_reducible rfl
          try simp only [Act.put, List.setIfInBounds_toArray, List.set_cons_zero, List.set_cons_succ]
          refine wpAnyH_take (i := 5) (oi := { dst := some 36, op := _, type := _, pos := _, after := _, guard := _ }) (v := (.pointer (some ⟨w.heap.size, 0, none⟩))) rfl (by kernel_rfl) (by kernel_rfl) (by kernel_rfl) (fun _ _ _ h => h) (Or.inl ⟨by rfl, ?hy18⟩) (by assumption) ?rest18
          case hy18 =>
            intro w9 hS9
            obtain ⟨y0, y1⟩ := hS9
            go_simp
            try with_reducible rfl
          try simp only [Act.put, List.setIfInBounds_toArray, List.set_cons_zero, List.set_cons_succ]
          refine wpAnyH_take (i := 6) (oi := { dst := some 37, op := _, type := _, pos := _, after := _, guard := _ }) (v := (.string n.path)) rfl (by kernel_rfl) (by kernel_rfl) (by kernel_rfl) (fun _ _ _ h => h) (Or.inl ⟨by rfl, ?hy19⟩) (by assumption) ?rest19
          case hy19 =>
            intro w9 hS9
            obtain ⟨y0, y1⟩ := hS9
            go_simp
            try with_reducible rfl
          try simp only [Act.put, List.setIfInBounds_toArray, List.set_cons_zero, List.set_cons_succ]
          refine wpAnyH_take (i := 7) (oi := { dst := some 38, op := _, type := _, pos := _, after := _, guard := _ }) (v := (.bool true)) rfl (by kernel_rfl) (by kernel_rfl) (by kernel_rfl) (fun _ _ _ h => h) (Or.inl ⟨by rfl, ?hy20⟩) (by assumption) ?rest20
          case hy20 =>
            intro w9 hS9
            obtain ⟨y0, y1⟩ := hS9
            go_simp
            try with_reducible rfl
          try simp only [Act.put, List.setIfInBounds_toArray, List.set_cons_zero, List.set_cons_succ]
          refine wpAnyH_done (by kernel_rfl) ?_ _
          clear hHeld
          have Dwz : Hid (Below (w.heap.size + 1) w0 w1.drew) := Dw1.out.trans ((below_drewN' w1 1).mono (Nat.le_trans s0 Dw1.out.size))
          have Owz : Hid (OwnN 81 w1.drew (w.heap.size + 1) u5 st1) := Ow1.out
          generalize w1.drew = wz at *
          obtain ⟨c0, c1, c2, c3, c4, c5, c6⟩ := HCk.out.below Dwz.out hb1
          obtain ⟨-, x0, x1, x2, x3, x4, x5, x6⟩ := X0.out.belowW Dwz.out
          have ORwy : Hid (wz.ownsRow (w.heap.size + 1) 81 7 u5 st1.length (nrow st1)) := Owz.out
          have swy : w.heap.size + 1 ≤ wz.heap.size := Nat.le_trans s0 Dwz.out.size
          go_wp2_with (at_builtin; go_must (refine wpList_append_own _ rfl _ _ 28 rfl (w.heap.size + 1) 81 i0 (.agg #[.string ByteArray.empty, .string ByteArray.empty, .int .i64 0, .int .i64 0, .int .i64 0, .int .i64 0, .int .i64 0]) 7 72 Tryd.underlying28 hi hz0 hz1 hz2 rfl (by decide) _ _ _ rfl (ORwy.out.alloc _) ⟨wz.heap.size, 0, none⟩ 1 1 (ndL m) rfl rfl (ndL_cells wz m _) (ndL_one m) ?_ ?_ ?_ ?_))
          · unfold maxLen; (try simp only [List.length_append, List.length_cons, List.length_nil]); omega
          · (try simp only [List.length_append, List.length_cons, List.length_nil]); omega
          · simp; omega
          intro vy wy howy hgwy _
          have Owy : Hid (OwnN 81 wy (w.heap.size + 1) vy (st1 ++ [m])) := by
            show OwnN _ _ _ _ _
            unfold OwnN
            rw [nrow_one]
            simpa using howy
          have Dwy : Hid (Below (w.heap.size + 1) w0 wy) := (Dwz.out.alloc swy _).grown hgwy (by simp; omega) (fun q hq => (World.ownsRow.lt ORwy.out q hq).1)
          clear howy hgwy ORwy
          clear c0 c1 c2 c3 c4 c5 c6 x0 x1 x2 x3 x4 x5 x6
          go_wp2
          exact ⟨⟨k + 1, by omega, by go_num, (by rw [HST.out, HS.out]), (by rw [HST.out, HS.out]; exact Owy), Dwy⟩, by simp [intOf]; omega⟩
      | false =>
        cases hls : Op.bytesLess m.path.toList n.path.toList with
        | true =>
          go_wp2
          refine wp_region_held_drew (S := fun W => W.cell? ⟨b, o + k * 7, none⟩ = some (.string m.path) ∧ W.cell? ⟨w.heap.size, 0, none⟩ = some (.string n.path)) (by kernel_rfl) (⟨(HCk.out.below (HD.out.trans ((below_drewN' _ 1).mono (Nat.le_trans s0 HD.out.size))) hb1).c0, (X0.out.belowW (HD.out.trans ((below_drewN' _ 1).mono (Nat.le_trans s0 HD.out.size)))).c0⟩) (fun hHeld => ?_)
          refine wpAnyH_take (i := 0) (oi := { dst := some 15, op := _, type := _, pos := _, after := _, guard := _ }) (v := (.bool false)) rfl (by kernel_rfl) (by kernel_rfl) (by kernel_rfl) (fun _ _ _ h => h) (Or.inl ⟨by rfl, ?hy21⟩) (by assumption) ?rest21
          case hy21 =>
            intro w9 hS9
            obtain ⟨y0, y1⟩ := hS9
            go_simp
            try with_reducible rfl
          try simp only [Act.put, List.setIfInBounds_toArray, List.set_cons_zero, List.set_cons_succ]
          refine wpAnyH_take (i := 1) (oi := { dst := some 16, op := _, type := _, pos := _, after := _, guard := _ }) (v := (.bool true)) rfl (by kernel_rfl) (by kernel_rfl) (by kernel_rfl) (fun _ _ _ h => h) (Or.inl ⟨by rfl, ?hy22⟩) (by assumption) ?rest22
          case hy22 =>
            intro w9 hS9
            obtain ⟨y0, y1⟩ := hS9
            go_simp
            try with_reducible rfl
          try simp only [Act.put, List.setIfInBounds_toArray, List.set_cons_zero, List.set_cons_succ]
          refine wpAnyH_take (i := 2) (oi := { dst := some 17, op := _, type := _, pos := _, after := _, guard := _ }) (v := (.bool true)) rfl (by kernel_rfl) (by kernel_rfl) (by kernel_rfl) (fun _ _ _ h => h) (Or.inl ⟨by rfl, ?hy23⟩) (by assumption) ?rest23
          case hy23 =>
            intro w9 hS9
            obtain ⟨y0, y1⟩ := hS9
            go_simp
            try with_reducible rfl
          try simp only [Act.put, List.setIfInBounds_toArray, List.set_cons_zero, List.set_cons_succ]
          refine wpAnyH_take (i := 3) (oi := { dst := some 18, op := _, type := _, pos := _, after := _, guard := _ }) (v := (.slice (some ⟨b, o, none⟩) N ca)) rfl (by kernel_rfl) (by kernel_rfl) (by kernel_rfl) (fun _ _ _ h => h) (Or.inl ⟨by rfl, ?hy24⟩) (by assumption) ?rest24
          case hy24 =>
            intro w9 hS9
            obtain ⟨y0, y1⟩ := hS9
            go_simp
            try with_reducible rfl
          try simp only [Act.put, List.setIfInBounds_toArray, List.set_cons_zero, List.set_cons_succ]
          refine wpAnyH_take (i := 4) (oi := { dst := some 19, op := _, type := _, pos := _, after := _, guard := _ }) (v := (.int .i64 (k : Int))) rfl (by kernel_rfl) (by kernel_rfl) (by kernel_rfl) (fun _ _ _ h => h) (Or.inl ⟨by rfl, ?hy25⟩) (by assumption) ?rest25
          case hy25 =>
            intro w9 hS9
            obtain ⟨y0, y1⟩ := hS9
            go_simp
            try with_reducible rfl
          try simp only [Act.put, List.setIfInBounds_toArray, List.set_cons_zero, List.set_cons_succ]
          refine wpAnyH_take (i := 5) (oi := { dst := some 20, op := _, type := _, pos := _, after := _, guard := _ }) (v := (.pointer (some ⟨b, o + k * 7, none⟩))) rfl (by kernel_rfl) (by kernel_rfl) (by kernel_rfl) (fun _ _ _ h => h) (Or.inl ⟨by rfl, ?hy26⟩) (by assumption) ?rest26
          case hy26 =>
            intro w9 hS9
            obtain ⟨y0, y1⟩ := hS9
            go_simp
            try with_reducible rfl
          try simp only [Act.put, List.setIfInBounds_toArray, List.set_cons_zero, List.set_cons_succ]
          refine wpAnyH_take (i := 6) (oi := { dst := some 21, op := _, type := _, pos := _, after := _, guard := _ }) (v := (.pointer (some ⟨b, o + k * 7, none⟩))) rfl (by kernel_rfl) (by kernel_rfl) (by kernel_rfl) (fun _ _ _ h => h) (Or.inl ⟨by rfl, ?hy27⟩) (by assumption) ?rest27
          case hy27 =>
            intro w9 hS9
            obtain ⟨y0, y1⟩ := hS9
            go_simp
            try with_reducible rfl
          try simp only [Act.put, List.setIfInBounds_toArray, List.set_cons_zero, List.set_cons_succ]
          refine wpAnyH_take (i := 7) (oi := { dst := some 22, op := _, type := _, pos := _, after := _, guard := _ }) (v := (.string m.path)) rfl (by kernel_rfl) (by kernel_rfl) (by kernel_rfl) (fun _ _ _ h => h) (Or.inl ⟨by rfl, ?hy28⟩) (by assumption) ?rest28
          case hy28 =>
            intro w9 hS9
            obtain ⟨y0, y1⟩ := hS9
            go_simp
            try with_reducible rfl
          try simp only [Act.put, List.setIfInBounds_toArray, List.set_cons_zero, List.set_cons_succ]
          refine wpAnyH_take (i := 8) (oi := { dst := some 23, op := _, type := _, pos := _, after := _, guard := _ }) (v := (.pointer (some ⟨w.heap.size, 0, none⟩))) rfl (by kernel_rfl) (by kernel_rfl) (by kernel_rfl) (fun _ _ _ h => h) (Or.inl ⟨by rfl, ?hy29⟩) (by assumption) ?rest29
          case hy29 =>
            intro w9 hS9
            obtain ⟨y0, y1⟩ := hS9
            go_simp
            try with_reducible rfl
          try simp only [Act.put, List.setIfInBounds_toArray, List.set_cons_zero, List.set_cons_succ]
          refine wpAnyH_take (i := 9) (oi := { dst := some 24, op := _, type := _, pos := _, after := _, guard := _ }) (v := (.string n.path)) rfl (by kernel_rfl) (by kernel_rfl) (by kernel_rfl) (fun _ _ _ h => h) (Or.inl ⟨by rfl, ?hy30⟩) (by assumption) ?rest30
          case hy30 =>
            intro w9 hS9
            obtain ⟨y0, y1⟩ := hS9
            go_simp
            try with_reducible rfl
          try simp only [Act.put, List.setIfInBounds_toArray, List.set_cons_zero, List.set_cons_succ]
          refine wpAnyH_take (i := 10) (oi := { dst := some 25, op := _, type := _, pos := _, after := _, guard := _ }) (v := (.bool false)) rfl (by kernel_rfl) (by kernel_rfl) (by kernel_rfl) (fun _ _ _ h => h) (Or.inl ⟨by rfl, ?hy31⟩) (by assumption) ?rest31
          case hy31 =>
            intro w9 hS9
            obtain ⟨y0, y1⟩ := hS9
            go_simp
            try with_reducible rfl
          try simp only [Act.put, List.setIfInBounds_toArray, List.set_cons_zero, List.set_cons_succ]
          refine wpAnyH_take (i := 11) (oi := { dst := some 26, op := _, type := _, pos := _, after := _, guard := _ }) (v := (.bool false)) rfl (by kernel_rfl) (by kernel_rfl) (by kernel_rfl) (fun _ _ _ h => h) (Or.inl ⟨by rfl, ?hy32⟩) (by assumption) ?rest32
          case hy32 =>
            intro w9 hS9
            obtain ⟨y0, y1⟩ := hS9
            go_simp
            try with_reducible rfl
          try simp only [Act.put, List.setIfInBounds_toArray, List.set_cons_zero, List.set_cons_succ]
          refine wpAnyH_done (by kernel_rfl) ?_ _
          clear hHeld
          have Dw1 : Hid (Below (w.heap.size + 1) w0 wr.drew) := HD.out.trans ((below_drewN' wr 1).mono (Nat.le_trans s0 HD.out.size))
          have Ow1 : Hid (OwnN 81 wr.drew (w.heap.size + 1) u5 st1) := HW.out
          generalize wr.drew = w1 at *
          cases heq : (m.path.toList == n.path.toList) with
          | true =>
            have HS : Hid (stW n (st1, false) m = (st1, false)) := by show _ = _; unfold stW; simp [hls, heq]
            go_wp2
            refine wp_region_held_drew (S := fun W => W.cell? ⟨b, o + k * 7, none⟩ = some (.string m.path) ∧ W.cell? ⟨w.heap.size, 0, none⟩ = some (.string n.path)) (by kernel_rfl) (⟨(HCk.out.below (Dw1.out.trans ((below_drewN' _ 1).mono (Nat.le_trans s0 Dw1.out.size))) hb1).c0, (X0.out.belowW (Dw1.out.trans ((below_drewN' _ 1).mono (Nat.le_trans s0 Dw1.out.size)))).c0⟩) (fun hHeld => ?_)
            refine wpAnyH_take (i := 0) (oi := { dst := some 31, op := _, type := _, pos := _, after := _, guard := _ }) (v := (.slice (some ⟨b, o, none⟩) N ca)) rfl (by kernel_rfl) (by kernel_rfl) (by kernel_rfl) (fun _ _ _ h => h) (Or.inl ⟨by rfl, ?hy33⟩) (by assumption) ?rest33
            case hy33 =>
              intro w9 hS9
              obtain ⟨y0, y1⟩ := hS9
              go_simp
              try with_reducible rfl
            try simp only [Act.put, List.setIfInBounds_toArray, List.set_cons_zero, List.set_cons_succ]
            refine wpAnyH_take (i := 1) (oi := { dst := some 32, op := _, type := _, pos := _, after := _, guard := _ }) (v := (.int .i64 (k : Int))) rfl (by kernel_rfl) (by kernel_rfl) (by kernel_rfl) (fun _ _ _ h => h) (Or.inl ⟨by rfl, ?hy34⟩) (by assumption) ?rest34
            case hy34 =>
              intro w9 hS9
              obtain ⟨y0, y1⟩ := hS9
              go_simp
              try with_reducible rfl
            try simp only [Act.put, List.setIfInBounds_toArray, List.set_cons_zero, List.set_cons_succ]
            refine wpAnyH_take (i := 2) (oi := { dst := some 33, op := _, type := _, pos := _, after := _, guard := _ }) (v := (.pointer (some ⟨b, o + k * 7, none⟩))) rfl (by kernel_rfl) (by kernel_rfl) (by kernel_rfl) (fun _ _ _ h => h) (Or.inl ⟨by rfl, ?hy35⟩) (by assumption) ?rest35
            case hy35 =>
              intro w9 hS9
              obtain ⟨y0, y1⟩ := hS9
              go_simp
              try with_reducible rfl
            try simp only [Act.put, List.setIfInBounds_toArray, List.set_cons_zero, List.set_cons_succ]
            refine wpAnyH_take (i := 3) (oi := { dst := some 34, op := _, type := _, pos := _, after := _, guard := _ }) (v := (.pointer (some ⟨b, o + k * 7, none⟩))) rfl (by kernel_rfl) (by kernel_rfl) (by kernel_rfl) (fun _ _ _ h => h) (Or.inl ⟨by rfl, ?hy36⟩) (by assumption) ?rest36
            case hy36 =>
              intro w9 hS9
              obtain ⟨y0, y1⟩ := hS9
              go_simp
              try with_reducible rfl
            try simp only [Act.put, List.setIfInBounds_toArray, List.set_cons_zero, List.set_cons_succ]
            refine wpAnyH_take (i := 4) (oi := { dst := some 35, op := _, type := _, pos := _, after := _, guard := _ }) (v := (.string m.path)) rfl (by kernel_rfl) (by kernel_rfl) (by kernel_rfl) (fun _ _ _ h => h) (Or.inl ⟨by rfl, ?hy37⟩) (by assumption) ?rest37
            case hy37 =>
              intro w9 hS9
              obtain ⟨y0, y1⟩ := hS9
              go_simp
              try with_reducible rfl
            try simp only [Act.put, List.setIfInBounds_toArray, List.set_cons_zero, List.set_cons_succ]
            refine wpAnyH_take (i := 5) (oi := { dst := some 36, op := _, type := _, pos := _, after := _, guard := _ }) (v := (.pointer (some ⟨w.heap.size, 0, none⟩))) rfl (by kernel_rfl) (by kernel_rfl) (by kernel_rfl) (fun _ _ _ h => h) (Or.inl ⟨by rfl, ?hy38⟩) (by assumption) ?rest38
            case hy38 =>
              intro w9 hS9
              obtain ⟨y0, y1⟩ := hS9
              go_simp
              try with_reducible rfl
            try simp only [Act.put, List.setIfInBounds_toArray, List.set_cons_zero, List.set_cons_succ]
            refine wpAnyH_take (i := 6) (oi := { dst := some 37, op := _, type := _, pos := _, after := _, guard := _ }) (v := (.string n.path)) rfl (by kernel_rfl) (by kernel_rfl) (by kernel_rfl) (fun _ _ _ h => h) (Or.inl ⟨by rfl, ?hy39⟩) (by assumption) ?rest39
            case hy39 =>
              intro w9 hS9
              obtain ⟨y0, y1⟩ := hS9
              go_simp
              try with_reducible rfl
            try simp only [Act.put, List.setIfInBounds_toArray, List.set_cons_zero, List.set_cons_succ]
            refine wpAnyH_take (i := 7) (oi := { dst := some 38, op := _, type := _, pos := _, after := _, guard := _ }) (v := (.bool false)) rfl (by kernel_rfl) (by kernel_rfl) (by kernel_rfl) (fun _ _ _ h => h) (Or.inl ⟨by rfl, ?hy40⟩) (by assumption) ?rest40
            case hy40 =>
              intro w9 hS9
              obtain ⟨y0, y1⟩ := hS9
              go_simp
              try with_reducible rfl
            try simp only [Act.put, List.setIfInBounds_toArray, List.set_cons_zero, List.set_cons_succ]
            refine wpAnyH_done (by kernel_rfl) ?_ _
            clear hHeld
            have Dwz : Hid (Below (w.heap.size + 1) w0 w1.drew) := Dw1.out.trans ((below_drewN' w1 1).mono (Nat.le_trans s0 Dw1.out.size))
            have Owz : Hid (OwnN 81 w1.drew (w.heap.size + 1) u5 st1) := Ow1.out
            generalize w1.drew = wz at *
            go_wp2
            exact ⟨⟨k + 1, by omega, by go_num, (by rw [HST.out, HS.out]), (by rw [HST.out, HS.out]; exact Owz), Dwz⟩, by simp [intOf]; omega⟩
          | false =>
            have HS : Hid (stW n (st1, false) m = (st1 ++ [m], false)) := by show _ = _; unfold stW; simp [hls, heq]
            go_wp2
            refine wp_region_held_drew (S := fun W => W.cell? ⟨b, o + k * 7, none⟩ = some (.string m.path) ∧ W.cell? ⟨w.heap.size, 0, none⟩ = some (.string n.path)) (by kernel_rfl) (⟨(HCk.out.below (Dw1.out.trans ((below_drewN' _ 1).mono (Nat.le_trans s0 Dw1.out.size))) hb1).c0, (X0.out.belowW (Dw1.out.trans ((below_drewN' _ 1).mono (Nat.le_trans s0 Dw1.out.size)))).c0⟩) (fun hHeld => ?_)
            refine wpAnyH_take (i := 0) (oi := { dst := some 31, op := _, type := _, pos := _, after := _, guard := _ }) (v := (.slice (some ⟨b, o, none⟩) N ca)) rfl (by kernel_rfl) (by kernel_rfl) (by kernel_rfl) (fun _ _ _ h => h) (Or.inl ⟨by rfl, ?hy41⟩) (by assumption) ?rest41
            case hy41 =>
              intro w9 hS9
              obtain ⟨y0, y1⟩ := hS9
              go_simp
              try with_reducible rfl
            try simp only [Act.put, List.setIfInBounds_toArray, List.set_cons_zero, List.set_cons_succ]
            refine wpAnyH_take (i := 1) (oi := { dst := some 32, op := _, type := _, pos := _, after := _, guard := _ }) (v := (.int .i64 (k : Int))) rfl (by kernel_rfl) (by kernel_rfl) (by kernel_rfl) (fun _ _ _ h => h) (Or.inl ⟨by rfl, ?hy42⟩) (by assumption) ?rest42
            case hy42 =>
              intro w9 hS9
              obtain ⟨y0, y1⟩ := hS9
              go_simp
              try with_reducible rfl
            try simp only [Act.put, List.setIfInBounds_toArray, List.set_cons_zero, List.set_cons_succ]
            refine wpAnyH_take (i := 2) (oi := { dst := some 33, op := _, type := _, pos := _, after := _, guard := _ }) (v := (.pointer (some ⟨b, o + k * 7, none⟩))) rfl (by kernel_rfl) (by kernel_rfl) (by kernel_rfl) (fun _ _ _ h => h) (Or.inl ⟨by rfl, ?hy43⟩) (by assumption) ?rest43
            case hy43 =>
              intro w9 hS9
              obtain ⟨y0, y1⟩ := hS9
              go_simp
              try with_reducible rfl
            try simp only [Act.put, List.setIfInBounds_toArray, List.set_cons_zero, List.set_cons_succ]
            refine wpAnyH_take (i := 3) (oi := { dst := some 34, op := _, type := _, pos := _, after := _, guard := _ }) (v := (.pointer (some ⟨b, o + k * 7, none⟩))) rfl (by kernel_rfl) (by kernel_rfl) (by kernel_rfl) (fun _ _ _ h => h) (Or.inl ⟨by rfl, ?hy44⟩) (by assumption) ?rest44
            case hy44 =>
              intro w9 hS9
              obtain ⟨y0, y1⟩ := hS9
              go_simp
              try with_reducible rfl
            try simp only [Act.put, List.setIfInBounds_toArray, List.set_cons_zero, List.set_cons_succ]
            refine wpAnyH_take (i := 4) (oi := { dst := some 35, op := _, type := _, pos := _, after := _, guard := _ }) (v := (.string m.path)) rfl (by kernel_rfl) (by kernel_rfl) (by kernel_rfl) (fun _ _ _ h => h) (Or.inl ⟨by rfl, ?hy45⟩) (by assumption) ?rest45
            case hy45 =>
              intro w9 hS9
              obtain ⟨y0, y1⟩ := hS9
              go_simp
              try with_reducible rfl
            try simp only [Act.put, List.setIfInBounds_toArray, List.set_cons_zero, List.set_cons_succ]
            refine wpAnyH_take (i := 5) (oi := { dst := some 36, op := _, type := _, pos := _, after := _, guard := _ }) (v := (.pointer (some ⟨w.heap.size, 0, none⟩))) rfl (by kernel_rfl) (by kernel_rfl) (by kernel_rfl) (fun _ _ _ h => h) (Or.inl ⟨by rfl, ?hy46⟩) (by assumption) ?rest46
            case hy46 =>
              intro w9 hS9
              obtain ⟨y0, y1⟩ := hS9
              go_simp
              try with_reducible rfl
            try simp only [Act.put, List.setIfInBounds_toArray, List.set_cons_zero, List.set_cons_succ]
            refine wpAnyH_take (i := 6) (oi := { dst := some 37, op := _, type := _, pos := _, after := _, guard := _ }) (v := (.string n.path)) rfl (by kernel_rfl) (by kernel_rfl) (by kernel_rfl) (fun _ _ _ h => h) (Or.inl ⟨by rfl, ?hy47⟩) (by assumption) ?rest47
            case hy47 =>
              intro w9 hS9
              obtain ⟨y0, y1⟩ := hS9
              go_simp
              try with_reducible rfl
            try simp only [Act.put, List.setIfInBounds_toArray, List.set_cons_zero, List.set_cons_succ]
            refine wpAnyH_take (i := 7) (oi := { dst := some 38, op := _, type := _, pos := _, after := _, guard := _ }) (v := (.bool true)) rfl (by kernel_rfl) (by kernel_rfl) (by kernel_rfl) (fun _ _ _ h => h) (Or.inl ⟨by rfl, ?hy48⟩) (by assumption) ?rest48
            case hy48 =>
              intro w9 hS9
              obtain ⟨y0, y1⟩ := hS9
              go_simp
              try with_reducible rfl
            try simp only [Act.put, List.setIfInBounds_toArray, List.set_cons_zero, List.set_cons_succ]
            refine wpAnyH_done (by kernel_rfl) ?_ _
            clear hHeld
            have Dwz : Hid (Below (w.heap.size + 1) w0 w1.drew) := Dw1.out.trans ((below_drewN' w1 1).mono (Nat.le_trans s0 Dw1.out.size))
            have Owz : Hid (OwnN 81 w1.drew (w.heap.size + 1) u5 st1) := Ow1.out
            generalize w1.drew = wz at *
            obtain ⟨c0, c1, c2, c3, c4, c5, c6⟩ := HCk.out.below Dwz.out hb1
            obtain ⟨-, x0, x1, x2, x3, x4, x5, x6⟩ := X0.out.belowW Dwz.out
            have ORwy : Hid (wz.ownsRow (w.heap.size + 1) 81 7 u5 st1.length (nrow st1)) := Owz.out
            have swy : w.heap.size + 1 ≤ wz.heap.size := Nat.le_trans s0 Dwz.out.size
            go_wp2_with (at_builtin; go_must (refine wpList_append_own _ rfl _ _ 28 rfl (w.heap.size + 1) 81 i0 (.agg #[.string ByteArray.empty, .string ByteArray.empty, .int .i64 0, .int .i64 0, .int .i64 0, .int .i64 0, .int .i64 0]) 7 72 Tryd.underlying28 hi hz0 hz1 hz2 rfl (by decide) _ _ _ rfl (ORwy.out.alloc _) ⟨wz.heap.size, 0, none⟩ 1 1 (ndL m) rfl rfl (ndL_cells wz m _) (ndL_one m) ?_ ?_ ?_ ?_))
            · unfold maxLen; (try simp only [List.length_append, List.length_cons, List.length_nil]); omega
            · (try simp only [List.length_append, List.length_cons, List.length_nil]); omega
            · simp; omega
            intro vy wy howy hgwy _
            have Owy : Hid (OwnN 81 wy (w.heap.size + 1) vy (st1 ++ [m])) := by
              show OwnN _ _ _ _ _
              unfold OwnN
              rw [nrow_one]
              simpa using howy
            have Dwy : Hid (Below (w.heap.size + 1) w0 wy) := (Dwz.out.alloc swy _).grown hgwy (by simp; omega) (fun q hq => (World.ownsRow.lt ORwy.out q hq).1)
            clear howy hgwy ORwy
            clear c0 c1 c2 c3 c4 c5 c6 x0 x1 x2 x3 x4 x5 x6
            go_wp2
            exact ⟨⟨k + 1, by omega, by go_num, (by rw [HST.out, HS.out]), (by rw [HST.out, HS.out]; exact Owy), Dwy⟩, by simp [intOf]; omega⟩
        | false =>
          go_wp2
          refine wp_region_held_drew (S := fun W => W.cell? ⟨b, o + k * 7, none⟩ = some (.string m.path) ∧ W.cell? ⟨w.heap.size, 0, none⟩ = some (.string n.path)) (by kernel_rfl) (⟨(HCk.out.below (HD.out.trans ((below_drewN' _ 1).mono (Nat.le_trans s0 HD.out.size))) hb1).c0, (X0.out.belowW (HD.out.trans ((below_drewN' _ 1).mono (Nat.le_trans s0 HD.out.size)))).c0⟩) (fun hHeld => ?_)
          refine wpAnyH_take (i := 0) (oi := { dst := some 15, op := _, type := _, pos := _, after := _, guard := _ }) (v := (.bool false)) rfl (by kernel_rfl) (by kernel_rfl) (by kernel_rfl) (fun _ _ _ h => h) (Or.inl ⟨by rfl, ?hy49⟩) (by assumption) ?rest49
          case hy49 =>
            intro w9 hS9
            obtain ⟨y0, y1⟩ := hS9
            go_simp
            try with_reducible rfl
          try simp only [Act.put, List.setIfInBounds_toArray, List.set_cons_zero, List.set_cons_succ]
          refine wpAnyH_take (i := 1) (oi := { dst := some 16, op := _, type := _, pos := _, after := _, guard := _ }) (v := (.bool true)) rfl (by kernel_rfl) (by kernel_rfl) (by kernel_rfl) (fun _ _ _ h => h) (Or.inl ⟨by rfl, ?hy50⟩) (by assumption) ?rest50
          case hy50 =>
            intro w9 hS9
            obtain ⟨y0, y1⟩ := hS9
            go_simp
            try with_reducible rfl
          try simp only [Act.put, List.setIfInBounds_toArray, List.set_cons_zero, List.set_cons_succ]
          refine wpAnyH_take (i := 2) (oi := { dst := some 17, op := _, type := _, pos := _, after := _, guard := _ }) (v := (.bool true)) rfl (by kernel_rfl) (by kernel_rfl) (by kernel_rfl) (fun _ _ _ h => h) (Or.inl ⟨by rfl, ?hy51⟩) (by assumption) ?rest51
          case hy51 =>
            intro w9 hS9
            obtain ⟨y0, y1⟩ := hS9
            go_simp
            try with_reducible rfl
          try simp only [Act.put, List.setIfInBounds_toArray, List.set_cons_zero, List.set_cons_succ]
          refine wpAnyH_take (i := 3) (oi := { dst := some 18, op := _, type := _, pos := _, after := _, guard := _ }) (v := (.slice (some ⟨b, o, none⟩) N ca)) rfl (by kernel_rfl) (by kernel_rfl) (by kernel_rfl) (fun _ _ _ h => h) (Or.inl ⟨by rfl, ?hy52⟩) (by assumption) ?rest52
          case hy52 =>
            intro w9 hS9
            obtain ⟨y0, y1⟩ := hS9
            go_simp
            try with_reducible rfl
          try simp only [Act.put, List.setIfInBounds_toArray, List.set_cons_zero, List.set_cons_succ]
          refine wpAnyH_take (i := 4) (oi := { dst := some 19, op := _, type := _, pos := _, after := _, guard := _ }) (v := (.int .i64 (k : Int))) rfl (by kernel_rfl) (by kernel_rfl) (by kernel_rfl) (fun _ _ _ h => h) (Or.inl ⟨by rfl, ?hy53⟩) (by assumption) ?rest53
          case hy53 =>
            intro w9 hS9
            obtain ⟨y0, y1⟩ := hS9
            go_simp
            try with_reducible rfl
          try simp only [Act.put, List.setIfInBounds_toArray, List.set_cons_zero, List.set_cons_succ]
          refine wpAnyH_take (i := 5) (oi := { dst := some 20, op := _, type := _, pos := _, after := _, guard := _ }) (v := (.pointer (some ⟨b, o + k * 7, none⟩))) rfl (by kernel_rfl) (by kernel_rfl) (by kernel_rfl) (fun _ _ _ h => h) (Or.inl ⟨by rfl, ?hy54⟩) (by assumption) ?rest54
          case hy54 =>
            intro w9 hS9
            obtain ⟨y0, y1⟩ := hS9
            go_simp
            try with_reducible rfl
          try simp only [Act.put, List.setIfInBounds_toArray, List.set_cons_zero, List.set_cons_succ]
          refine wpAnyH_take (i := 6) (oi := { dst := some 21, op := _, type := _, pos := _, after := _, guard := _ }) (v := (.pointer (some ⟨b, o + k * 7, none⟩))) rfl (by kernel_rfl) (by kernel_rfl) (by kernel_rfl) (fun _ _ _ h => h) (Or.inl ⟨by rfl, ?hy55⟩) (by assumption) ?rest55
          case hy55 =>
            intro w9 hS9
            obtain ⟨y0, y1⟩ := hS9
            go_simp
            try with_reducible rfl
          try simp only [Act.put, List.setIfInBounds_toArray, List.set_cons_zero, List.set_cons_succ]
          refine wpAnyH_take (i := 7) (oi := { dst := some 22, op := _, type := _, pos := _, after := _, guard := _ }) (v := (.string m.path)) rfl (by kernel_rfl) (by kernel_rfl) (by kernel_rfl) (fun _ _ _ h => h) (Or.inl ⟨by rfl, ?hy56⟩) (by assumption) ?rest56
          case hy56 =>
            intro w9 hS9
            obtain ⟨y0, y1⟩ := hS9
            go_simp
            try with_reducible rfl
          try simp only [Act.put, List.setIfInBounds_toArray, List.set_cons_zero, List.set_cons_succ]
          refine wpAnyH_take (i := 8) (oi := { dst := some 23, op := _, type := _, pos := _, after := _, guard := _ }) (v := (.pointer (some ⟨w.heap.size, 0, none⟩))) rfl (by kernel_rfl) (by kernel_rfl) (by kernel_rfl) (fun _ _ _ h => h) (Or.inl ⟨by rfl, ?hy57⟩) (by assumption) ?rest57
          case hy57 =>
            intro w9 hS9
            obtain ⟨y0, y1⟩ := hS9
            go_simp
            try with_reducible rfl
          try simp only [Act.put, List.setIfInBounds_toArray, List.set_cons_zero, List.set_cons_succ]
          refine wpAnyH_take (i := 9) (oi := { dst := some 24, op := _, type := _, pos := _, after := _, guard := _ }) (v := (.string n.path)) rfl (by kernel_rfl) (by kernel_rfl) (by kernel_rfl) (fun _ _ _ h => h) (Or.inl ⟨by rfl, ?hy58⟩) (by assumption) ?rest58
          case hy58 =>
            intro w9 hS9
            obtain ⟨y0, y1⟩ := hS9
            go_simp
            try with_reducible rfl
          try simp only [Act.put, List.setIfInBounds_toArray, List.set_cons_zero, List.set_cons_succ]
          refine wpAnyH_take (i := 10) (oi := { dst := some 25, op := _, type := _, pos := _, after := _, guard := _ }) (v := (.bool true)) rfl (by kernel_rfl) (by kernel_rfl) (by kernel_rfl) (fun _ _ _ h => h) (Or.inl ⟨by rfl, ?hy59⟩) (by assumption) ?rest59
          case hy59 =>
            intro w9 hS9
            obtain ⟨y0, y1⟩ := hS9
            go_simp
            try with_reducible rfl
          try simp only [Act.put, List.setIfInBounds_toArray, List.set_cons_zero, List.set_cons_succ]
          refine wpAnyH_take (i := 11) (oi := { dst := some 26, op := _, type := _, pos := _, after := _, guard := _ }) (v := (.bool true)) rfl (by kernel_rfl) (by kernel_rfl) (by kernel_rfl) (fun _ _ _ h => h) (Or.inl ⟨by rfl, ?hy60⟩) (by assumption) ?rest60
          case hy60 =>
            intro w9 hS9
            obtain ⟨y0, y1⟩ := hS9
            go_simp
            try with_reducible rfl
          try simp only [Act.put, List.setIfInBounds_toArray, List.set_cons_zero, List.set_cons_succ]
          refine wpAnyH_done (by kernel_rfl) ?_ _
          clear hHeld
          have Dw1 : Hid (Below (w.heap.size + 1) w0 wr.drew) := HD.out.trans ((below_drewN' wr 1).mono (Nat.le_trans s0 HD.out.size))
          have Ow1 : Hid (OwnN 81 wr.drew (w.heap.size + 1) u5 st1) := HW.out
          generalize wr.drew = w1 at *
          obtain ⟨c0, c1, c2, c3, c4, c5, c6⟩ := HCk.out.below Dw1.out hb1
          obtain ⟨-, x0, x1, x2, x3, x4, x5, x6⟩ := X0.out.belowW Dw1.out
          have ORw2 : Hid (w1.ownsRow (w.heap.size + 1) 81 7 u5 st1.length (nrow st1)) := Ow1.out
          have sw2 : w.heap.size + 1 ≤ w1.heap.size := Nat.le_trans s0 Dw1.out.size
          go_wp2_with (at_builtin; go_must (refine wpList_append_own _ rfl _ _ 28 rfl (w.heap.size + 1) 81 i0 (.agg #[.string ByteArray.empty, .string ByteArray.empty, .int .i64 0, .int .i64 0, .int .i64 0, .int .i64 0, .int .i64 0]) 7 72 Tryd.underlying28 hi hz0 hz1 hz2 rfl (by decide) _ _ _ rfl (ORw2.out.alloc _) ⟨w1.heap.size, 0, none⟩ 1 1 (ndL n) rfl rfl (ndL_cells w1 n _) (ndL_one n) ?_ ?_ ?_ ?_))
          · unfold maxLen; (try simp only [List.length_append, List.length_cons, List.length_nil]); omega
          · (try simp only [List.length_append, List.length_cons, List.length_nil]); omega
          · simp; omega
          intro v2 w2 how2 hgw2 _
          have Ow2 : Hid (OwnN 81 w2 (w.heap.size + 1) v2 (st1 ++ [n])) := by
            show OwnN _ _ _ _ _
            unfold OwnN
            rw [nrow_one]
            simpa using how2
          have Dw2 : Hid (Below (w.heap.size + 1) w0 w2) := (Dw1.out.alloc sw2 _).grown hgw2 (by simp; omega) (fun q hq => (World.ownsRow.lt ORw2.out q hq).1)
          clear how2 hgw2 ORw2
          clear c0 c1 c2 c3 c4 c5 c6 x0 x1 x2 x3 x4 x5 x6
          cases heq : (m.path.toList == n.path.toList) with
          | true =>
            have HS : Hid (stW n (st1, false) m = (st1 ++ [n], true)) := by show _ = _; unfold stW; simp [hls, heq]
            go_wp2
            refine wp_region_held_drew (S := fun W => W.cell? ⟨b, o + k * 7, none⟩ = some (.string m.path) ∧ W.cell? ⟨w.heap.size, 0, none⟩ = some (.string n.path)) (by kernel_rfl) (⟨(HCk.out.below (Dw2.out.trans ((below_drewN' _ 1).mono (Nat.le_trans s0 Dw2.out.size))) hb1).c0, (X0.out.belowW (Dw2.out.trans ((below_drewN' _ 1).mono (Nat.le_trans s0 Dw2.out.size)))).c0⟩) (fun hHeld => ?_)
            refine wpAnyH_take (i := 0) (oi := { dst := some 31, op := _, type := _, pos := _, after := _, guard := _ }) (v := (.slice (some ⟨b, o, none⟩) N ca)) rfl (by kernel_rfl) (by kernel_rfl) (by kernel_rfl) (fun _ _ _ h => h) (Or.inl ⟨by rfl, ?hy61⟩) (by assumption) ?rest61
            case hy61 =>
              intro w9 hS9
              obtain ⟨y0, y1⟩ := hS9
              go_simp
              try with_reducible rfl
            try simp only [Act.put, List.setIfInBounds_toArray, List.set_cons_zero, List.set_cons_succ]
            refine wpAnyH_take (i := 1) (oi := { dst := some 32, op := _, type := _, pos := _, after := _, guard := _ }) (v := (.int .i64 (k : Int))) rfl (by kernel_rfl) (by kernel_rfl) (by kernel_rfl) (fun _ _ _ h => h) (Or.inl ⟨by rfl, ?hy62⟩) (by assumption) ?rest62
            case hy62 =>
              intro w9 hS9
              obtain ⟨y0, y1⟩ := hS9
              go_simp
              try with_reducible rfl
            try simp only [Act.put, List.setIfInBounds_toArray, List.set_cons_zero, List.set_cons_succ]
            refine wpAnyH_take (i := 2) (oi := { dst := some 33, op := _, type := _, pos := _, after := _, guard := _ }) (v := (.pointer (some ⟨b, o + k * 7, none⟩))) rfl (by kernel_rfl) (by kernel_rfl) (by kernel_rfl) (fun _ _ _ h => h) (Or.inl ⟨by rfl, ?hy63⟩) (by assumption) ?rest63
            case hy63 =>
              intro w9 hS9
              obtain ⟨y0, y1⟩ := hS9
              go_simp
              try with_reducible rfl
            try simp only [Act.put, List.setIfInBounds_toArray, List.set_cons_zero, List.set_cons_succ]
            refine wpAnyH_take (i := 3) (oi := { dst := some 34, op := _, type := _, pos := _, after := _, guard := _ }) (v := (.pointer (some ⟨b, o + k * 7, none⟩))) rfl (by kernel_rfl) (by kernel_rfl) (by kernel_rfl) (fun _ _ _ h => h) (Or.inl ⟨by rfl, ?hy64⟩) (by assumption) ?rest64
            case hy64 =>
              intro w9 hS9
              obtain ⟨y0, y1⟩ := hS9
              go_simp
              try with_reducible rfl
            try simp only [Act.put, List.setIfInBounds_toArray, List.set_cons_zero, List.set_cons_succ]
            refine wpAnyH_take (i := 4) (oi := { dst := some 35, op := _, type := _, pos := _, after := _, guard := _ }) (v := (.string m.path)) rfl (by kernel_rfl) (by kernel_rfl) (by kernel_rfl) (fun _ _ _ h => h) (Or.inl ⟨by rfl, ?hy65⟩) (by assumption) ?rest65
            case hy65 =>
              intro w9 hS9
              obtain ⟨y0, y1⟩ := hS9
              go_simp
              try with_reducible rfl
            try simp only [Act.put, List.setIfInBounds_toArray, List.set_cons_zero, List.set_cons_succ]
            refine wpAnyH_take (i := 5) (oi := { dst := some 36, op := _, type := _, pos := _, after := _, guard := _ }) (v := (.pointer (some ⟨w.heap.size, 0, none⟩))) rfl (by kernel_rfl) (by kernel_rfl) (by kernel_rfl) (fun _ _ _ h => h) (Or.inl ⟨by rfl, ?hy66⟩) (by assumption) ?rest66
            case hy66 =>
              intro w9 hS9
              obtain ⟨y0, y1⟩ := hS9
              go_simp
              try with_reducible rfl
            try simp only [Act.put, List.setIfInBounds_toArray, List.set_cons_zero, List.set_cons_succ]
            refine wpAnyH_take (i := 6) (oi := { dst := some 37, op := _, type := _, pos := _, after := _, guard := _ }) (v := (.string n.path)) rfl (by kernel_rfl) (by kernel_rfl) (by kernel_rfl) (fun _ _ _ h => h) (Or.inl ⟨by rfl, ?hy67⟩) (by assumption) ?rest67
            case hy67 =>
              intro w9 hS9
              obtain ⟨y0, y1⟩ := hS9
              go_simp
              try with_reducible rfl
            try simp only [Act.put, List.setIfInBounds_toArray, List.set_cons_zero, List.set_cons_succ]
            refine wpAnyH_take (i := 7) (oi := { dst := some 38, op := _, type := _, pos := _, after := _, guard := _ }) (v := (.bool false)) rfl (by kernel_rfl) (by kernel_rfl) (by kernel_rfl) (fun _ _ _ h => h) (Or.inl ⟨by rfl, ?hy68⟩) (by assumption) ?rest68
            case hy68 =>
              intro w9 hS9
              obtain ⟨y0, y1⟩ := hS9
              go_simp
              try with_reducible rfl
            try simp only [Act.put, List.setIfInBounds_toArray, List.set_cons_zero, List.set_cons_succ]
            refine wpAnyH_done (by kernel_rfl) ?_ _
            clear hHeld
            have Dwz : Hid (Below (w.heap.size + 1) w0 w2.drew) := Dw2.out.trans ((below_drewN' w2 1).mono (Nat.le_trans s0 Dw2.out.size))
            have Owz : Hid (OwnN 81 w2.drew (w.heap.size + 1) v2 (st1 ++ [n])) := Ow2.out
            generalize w2.drew = wz at *
            go_wp2
            exact ⟨⟨k + 1, by omega, by go_num, (by rw [HST.out, HS.out]), (by rw [HST.out, HS.out]; exact Owz), Dwz⟩, by simp [intOf]; omega⟩
          | false =>
            have HS : Hid (stW n (st1, false) m = (st1 ++ [n] ++ [m], true)) := by show _ = _; unfold stW; simp [hls, heq]
            go_wp2
            refine wp_region_held_drew (S := fun W => W.cell? ⟨b, o + k * 7, none⟩ = some (.string m.path) ∧ W.cell? ⟨w.heap.size, 0, none⟩ = some (.string n.path)) (by kernel_rfl) (⟨(HCk.out.below (Dw2.out.trans ((below_drewN' _ 1).mono (Nat.le_trans s0 Dw2.out.size))) hb1).c0, (X0.out.belowW (Dw2.out.trans ((below_drewN' _ 1).mono (Nat.le_trans s0 Dw2.out.size)))).c0⟩) (fun hHeld => ?_)
            refine wpAnyH_take (i := 0) (oi := { dst := some 31, op := _, type := _, pos := _, after := _, guard := _ }) (v := (.slice (some ⟨b, o, none⟩) N ca)) rfl (by kernel_rfl) (by kernel_rfl) (by kernel_rfl) (fun _ _ _ h => h) (Or.inl ⟨by rfl, ?hy69⟩) (by assumption) ?rest69
            case hy69 =>
              intro w9 hS9
              obtain ⟨y0, y1⟩ := hS9
              go_simp
              try with_reducible rfl
            try simp only [Act.put, List.setIfInBounds_toArray, List.set_cons_zero, List.set_cons_succ]
            refine wpAnyH_take (i := 1) (oi := { dst := some 32, op := _, type := _, pos := _, after := _, guard := _ }) (v := (.int .i64 (k : Int))) rfl (by kernel_rfl) (by kernel_rfl) (by kernel_rfl) (fun _ _ _ h => h) (Or.inl ⟨by rfl, ?hy70⟩) (by assumption) ?rest70
            case hy70 =>
              intro w9 hS9
              obtain ⟨y0, y1⟩ := hS9
              go_simp
              try with_reducible rfl
            try simp only [Act.put, List.setIfInBounds_toArray, List.set_cons_zero, List.set_cons_succ]
            refine wpAnyH_take (i := 2) (oi := { dst := some 33, op := _, type := _, pos := _, after := _, guard := _ }) (v := (.pointer (some ⟨b, o + k * 7, none⟩))) rfl (by kernel_rfl) (by kernel_rfl) (by kernel_rfl) (fun _ _ _ h => h) (Or.inl ⟨by rfl, ?hy71⟩) (by assumption) ?rest71
            case hy71 =>
              intro w9 hS9
              obtain ⟨y0, y1⟩ := hS9
              go_simp
              try with_reducible rfl
            try simp only [Act.put, List.setIfInBounds_toArray, List.set_cons_zero, List.set_cons_succ]
            refine wpAnyH_take (i := 3) (oi := { dst := some 34, op := _, type := _, pos := _, after := _, guard := _ }) (v := (.pointer (some ⟨b, o + k * 7, none⟩))) rfl (by kernel_rfl) (by kernel_rfl) (by kernel_rfl) (fun _ _ _ h => h) (Or.inl ⟨by rfl, ?hy72⟩) (by assumption) ?rest72
            case hy72 =>
              intro w9 hS9
              obtain ⟨y0, y1⟩ := hS9
              go_simp
              try with_reducible rfl
            try simp only [Act.put, List.setIfInBounds_toArray, List.set_cons_zero, List.set_cons_succ]
            refine wpAnyH_take (i := 4) (oi := { dst := some 35, op := _, type := _, pos := _, after := _, guard := _ }) (v := (.string m.path)) rfl (by kernel_rfl) (by kernel_rfl) (by kernel_rfl) (fun _ _ _ h => h) (Or.inl ⟨by rfl, ?hy73⟩) (by assumption) ?rest73
            case hy73 =>
              intro w9 hS9
              obtain ⟨y0, y1⟩ := hS9
              go_simp
              try with_reducible rfl
            try simp only [Act.put, List.setIfInBounds_toArray, List.set_cons_zero, List.set_cons_succ]
            refine wpAnyH_take (i := 5) (oi := { dst := some 36, op := _, type := _, pos := _, after := _, guard := _ }) (v := (.pointer (some ⟨w.heap.size, 0, none⟩))) rfl (by kernel_rfl) (by kernel_rfl) (by kernel_rfl) (fun _ _ _ h => h) (Or.inl ⟨by rfl, ?hy74⟩) (by assumption) ?rest74
            case hy74 =>
              intro w9 hS9
              obtain ⟨y0, y1⟩ := hS9
              go_simp
              try with_reducible rfl
            try simp only [Act.put, List.setIfInBounds_toArray, List.set_cons_zero, List.set_cons_succ]
            refine wpAnyH_take (i := 6) (oi := { dst := some 37, op := _, type := _, pos := _, after := _, guard := _ }) (v := (.string n.path)) rfl (by kernel_rfl) (by kernel_rfl) (by kernel_rfl) (fun _ _ _ h => h) (Or.inl ⟨by rfl, ?hy75⟩) (by assumption) ?rest75
            case hy75 =>
              intro w9 hS9
              obtain ⟨y0, y1⟩ := hS9
              go_simp
              try with_reducible rfl
            try simp only [Act.put, List.setIfInBounds_toArray, List.set_cons_zero, List.set_cons_succ]
            refine wpAnyH_take (i := 7) (oi := { dst := some 38, op := _, type := _, pos := _, after := _, guard := _ }) (v := (.bool true)) rfl (by kernel_rfl) (by kernel_rfl) (by kernel_rfl) (fun _ _ _ h => h) (Or.inl ⟨by rfl, ?hy76⟩) (by assumption) ?rest76
            case hy76 =>
              intro w9 hS9
              obtain ⟨y0, y1⟩ := hS9
              go_simp
              try with_reducible rfl
            try simp only [Act.put, List.setIfInBounds_toArray, List.set_cons_zero, List.set_cons_succ]
            refine wpAnyH_done (by kernel_rfl) ?_ _
            clear hHeld
            have Dwz : Hid (Below (w.heap.size + 1) w0 w2.drew) := Dw2.out.trans ((below_drewN' w2 1).mono (Nat.le_trans s0 Dw2.out.size))
            have Owz : Hid (OwnN 81 w2.drew (w.heap.size + 1) v2 (st1 ++ [n])) := Ow2.out
            generalize w2.drew = wz at *
            obtain ⟨c0, c1, c2, c3, c4, c5, c6⟩ := HCk.out.below Dwz.out hb1
            obtain ⟨-, x0, x1, x2, x3, x4, x5, x6⟩ := X0.out.belowW Dwz.out
            have ORwy : Hid (wz.ownsRow (w.heap.size + 1) 81 7 v2 (st1 ++ [n]).length (nrow (st1 ++ [n]))) := Owz.out
            have swy : w.heap.size + 1 ≤ wz.heap.size := Nat.le_trans s0 Dwz.out.size
            go_wp2_with (at_builtin; go_must (refine wpList_append_own _ rfl _ _ 28 rfl (w.heap.size + 1) 81 i0 (.agg #[.string ByteArray.empty, .string ByteArray.empty, .int .i64 0, .int .i64 0, .int .i64 0, .int .i64 0, .int .i64 0]) 7 72 Tryd.underlying28 hi hz0 hz1 hz2 rfl (by decide) _ _ _ rfl (ORwy.out.alloc _) ⟨wz.heap.size, 0, none⟩ 1 1 (ndL m) rfl rfl (ndL_cells wz m _) (ndL_one m) ?_ ?_ ?_ ?_))
            · unfold maxLen; (try simp only [List.length_append, List.length_cons, List.length_nil]); omega
            · (try simp only [List.length_append, List.length_cons, List.length_nil]); omega
            · simp; omega
            intro vy wy howy hgwy _
            have Owy : Hid (OwnN 81 wy (w.heap.size + 1) vy ((st1 ++ [n]) ++ [m])) := by
              show OwnN _ _ _ _ _
              unfold OwnN
              rw [nrow_one]
              simpa using howy
            have Dwy : Hid (Below (w.heap.size + 1) w0 wy) := (Dwz.out.alloc swy _).grown hgwy (by simp; omega) (fun q hq => (World.ownsRow.lt ORwy.out q hq).1)
            clear howy hgwy ORwy
            clear c0 c1 c2 c3 c4 c5 c6 x0 x1 x2 x3 x4 x5 x6
            go_wp2
            exact ⟨⟨k + 1, by omega, by go_num, (by rw [HST.out, HS.out]), (by rw [HST.out, HS.out]; exact Owy), Dwy⟩, by simp [intOf]; omega⟩
    · have hkn : k = N := by omega
      subst hkn
      have HT : Hid (wiF (ns.take k) n = wiF ns n) := by show _ = _; rw [List.take_of_length_le (by rw [HP.out]; exact Nat.le_refl _)]
      rw [HT.out] at HW ⊢
      have HWN : Hid (wiN ns n = if (wiF ns n).2 then (wiF ns n).1 else (wiF ns n).1 ++ [n]) := rfl
      rw [HT.out] at hll
      generalize wiF ns n = st at *
      obtain ⟨st1, st2⟩ := st
      simp only at hll HW HWN
      obtain ⟨-, x0, x1, x2, x3, x4, x5, x6⟩ := X0.out.belowW HD.out
      cases st2 with
      | true =>
        go_wp2
        go_ret
        exact ⟨_, rfl, (by rw [HWN.out]; exact OwnN.mono HW.out (Nat.le_succ _)), B0.out.trans (HD.out.mono (Nat.le_succ _))⟩
      | false =>
        have ORw2 : Hid (wr.ownsRow (w.heap.size + 1) 81 7 u5 st1.length (nrow st1)) := HW.out
        have sw2 : w.heap.size + 1 ≤ wr.heap.size := Nat.le_trans s0 HD.out.size
        go_wp2_with (at_builtin; go_must (refine wpList_append_own _ rfl _ _ 28 rfl (w.heap.size + 1) 81 i0 (.agg #[.string ByteArray.empty, .string ByteArray.empty, .int .i64 0, .int .i64 0, .int .i64 0, .int .i64 0, .int .i64 0]) 7 72 Tryd.underlying28 hi hz0 hz1 hz2 rfl (by decide) _ _ _ rfl (ORw2.out.alloc _) ⟨wr.heap.size, 0, none⟩ 1 1 (ndL n) rfl rfl (ndL_cells wr n _) (ndL_one n) ?_ ?_ ?_ ?_))
        · unfold maxLen; (try simp only [List.length_append, List.length_cons, List.length_nil]); omega
        · (try simp only [List.length_append, List.length_cons, List.length_nil]); omega
        · simp; omega
        intro v2 w2 how2 hgw2 _
        have Ow2 : Hid (OwnN 81 w2 (w.heap.size + 1) v2 (st1 ++ [n])) := by
          show OwnN _ _ _ _ _
          unfold OwnN
          rw [nrow_one]
          simpa using how2
        have Dw2 : Hid (Below (w.heap.size + 1) w0 w2) := (HD.out.alloc sw2 _).grown hgw2 (by simp; omega) (fun q hq => (World.ownsRow.lt ORw2.out q hq).1)
        clear how2 hgw2 ORw2
        go_wp2
        go_ret
        exact ⟨_, rfl, (by rw [HWN.out]; exact OwnN.mono Ow2.out (Nat.le_succ _)), B0.out.trans (Dw2.out.mono (Nat.le_succ _))⟩

end Go.Proofs.YtgjenbgclpmjmaaDoor

namespace Go.Proofs.YtgjenbgclpmjmaaDoor
open Go.RowKit

/-- An effect. -/
structure Ef where
  del : Bool
  nd : Nd
def efL (e : Ef) : List Value := [.bool e.del, .string e.nd.path, .string e.nd.data, .int .i64 e.nd.ver, .int .i64 e.nd.cver, .int .i64 e.nd.cz, .int .i64 e.nd.mz, .int .i64 e.nd.pz]
def ef0 : Ef := ⟨false, nd0⟩
def eAt (ns : List Ef) (i : Nat) : Ef := ns.getD i ef0
theorem eAt_get {ns : List Ef} {i : Nat} (h : i < ns.length) : eAt ns i = ns[i] := by unfold eAt; simp [List.getD, h]

/-- The cells of an effect. -/
structure CellsE (w : World) (b p : Nat) (n : Ef) : Prop where
  c0 : w.cell? ⟨b, p, none⟩ = some (.bool n.del)
  c1 : w.cell? ⟨b, p + 1, none⟩ = some (.string n.nd.path)
  c2 : w.cell? ⟨b, p + 2, none⟩ = some (.string n.nd.data)
  c3 : w.cell? ⟨b, p + 3, none⟩ = some (.int .i64 n.nd.ver)
  c4 : w.cell? ⟨b, p + 4, none⟩ = some (.int .i64 n.nd.cver)
  c5 : w.cell? ⟨b, p + 5, none⟩ = some (.int .i64 n.nd.cz)
  c6 : w.cell? ⟨b, p + 6, none⟩ = some (.int .i64 n.nd.mz)
  c7 : w.cell? ⟨b, p + 7, none⟩ = some (.int .i64 n.nd.pz)
theorem CellsE.below {w w' : World} {m b p : Nat} {n : Ef} (h : CellsE w b p n) (hb : Below m w w') (hl : b < m) : CellsE w' b p n :=
  ⟨(hb.cell (p := ⟨b, _, none⟩) hl).trans h.c0, (hb.cell (p := ⟨b, _, none⟩) hl).trans h.c1, (hb.cell (p := ⟨b, _, none⟩) hl).trans h.c2, (hb.cell (p := ⟨b, _, none⟩) hl).trans h.c3, (hb.cell (p := ⟨b, _, none⟩) hl).trans h.c4, (hb.cell (p := ⟨b, _, none⟩) hl).trans h.c5, (hb.cell (p := ⟨b, _, none⟩) hl).trans h.c6, (hb.cell (p := ⟨b, _, none⟩) hl).trans h.c7⟩
theorem CellsE.nd {w : World} {b p : Nat} {n : Ef} (h : CellsE w b p n) : CellsN w b (p + 1) n.nd := ⟨h.c1, h.c2, h.c3, h.c4, h.c5, h.c6, h.c7⟩

/-- A slice of nodes that reads as ns. -/
def RdE (w : World) (v : Value) (ns : List Ef) : Prop :=
  ∃ ao cap, v = .slice ao ns.length cap ∧ ns.length ≤ cap ∧ cap ≤ maxLen ∧
    (ns = [] ∨ ∃ b off, ao = some ⟨b, off, none⟩ ∧ b < w.heap.size ∧ ∀ i, i < ns.length → CellsE w b (off + i * 8) (eAt ns i))
theorem RdE.len {w : World} {v : Value} {ns : List Ef} (h : RdE w v ns) : ∃ ao cap, v = .slice ao ns.length cap ∧ ns.length ≤ cap ∧ cap ≤ maxLen := by
  obtain ⟨ao, cap, h0, h1, h2, _⟩ := h
  exact ⟨ao, cap, h0, h1, h2⟩
theorem RdE.below {w w' : World} {v : Value} {ns : List Ef} (h : RdE w v ns) (hb : Below w.heap.size w w') : RdE w' v ns := by
  obtain ⟨ao, cap, rfl, h1, h2, h3⟩ := h
  refine ⟨ao, cap, rfl, h1, h2, ?_⟩
  rcases h3 with h3 | ⟨b, off, rfl, hlt, hc⟩
  · exact .inl h3
  · exact .inr ⟨b, off, rfl, Nat.lt_of_lt_of_le hlt hb.size, fun i hi => (hc i hi).below hb hlt⟩

/-! ### rows of nodes -/
def erow (ns : List Ef) : List Value := ns.flatMap efL
theorem erow_cons (n : Ef) (ns : List Ef) : erow (n :: ns) = efL n ++ erow ns := by simp [erow]
theorem erow_append (ns ms : List Ef) : erow (ns ++ ms) = erow ns ++ erow ms := by simp [erow]
theorem erow_length : ∀ ns : List Ef, (erow ns).length = ns.length * 8
  | [] => rfl
  | n :: ns => by rw [erow_cons, List.length_append, erow_length ns, List.length_cons]; show 8 + _ = _; omega
theorem erow_get : ∀ (ns : List Ef) (i j : Nat), i < ns.length → j < 8 → (erow ns)[i * 8 + j]? = (efL (eAt ns i))[j]?
  | [], i, j, h, _ => by simp at h
  | n :: ns, 0, j, _, hj => by
    rw [erow_cons, Nat.zero_mul, Nat.zero_add, List.getElem?_append_left (by show j < 8; exact hj)]; rfl
  | n :: ns, i + 1, j, h, hj => by
    rw [erow_cons, List.getElem?_append_right (by show 8 ≤ _; omega), show (i + 1) * 8 + j - (efL n).length = i * 8 + j by show (i + 1) * 8 + j - 8 = _; omega, erow_get ns i j (by simpa using h) hj]
    rfl
def set8 (L : List Value) (p : Nat) (n : Ef) : List Value :=
  (((((((L.set p (.bool n.del)).set (p + 1) (.string n.nd.path)).set (p + 2) (.string n.nd.data)).set (p + 3) (.int .i64 n.nd.ver)).set (p + 4) (.int .i64 n.nd.cver)).set (p + 5) (.int .i64 n.nd.cz)).set (p + 6) (.int .i64 n.nd.mz)).set (p + 7) (.int .i64 n.nd.pz)
theorem set8_app (a L : List Value) (p : Nat) (n : Ef) (h : a.length = 8) : set8 (a ++ L) (8 + p) n = a ++ set8 L p n := by
  unfold set8
  have e : ∀ (M : List Value) (q : Nat) (v : Value), (a ++ M).set (8 + q) v = a ++ M.set q v := fun M q v => by
    rw [List.set_append_right _ _ (by omega)]; congr 2; omega
  rw [e, show 8 + p + 1 = 8 + (p + 1) by omega, e, show 8 + p + 2 = 8 + (p + 2) by omega, e, show 8 + p + 3 = 8 + (p + 3) by omega, e, show 8 + p + 4 = 8 + (p + 4) by omega, e, show 8 + p + 5 = 8 + (p + 5) by omega, e, show 8 + p + 6 = 8 + (p + 6) by omega, e, show 8 + p + 7 = 8 + (p + 7) by omega, e]
theorem erow_set : ∀ (ns : List Ef) (k : Nat) (n : Ef), k < ns.length → set8 (erow ns) (k * 8) n = erow (ns.set k n)
  | [], k, n, h => by simp at h
  | m :: ns, 0, n, _ => by
    rw [erow_cons, List.set_cons_zero, erow_cons]
    rfl
  | m :: ns, k + 1, n, h => by
    rw [erow_cons, List.set_cons_succ, erow_cons, show (k + 1) * 8 = 8 + k * 8 by omega, set8_app _ _ _ _ rfl, erow_set ns k n (by simpa using h)]
theorem erow_zero (n : Nat) : (madeCells #[Value.bool false, Value.string ByteArray.empty, Value.string ByteArray.empty, Value.int .i64 0, Value.int .i64 0, Value.int .i64 0, Value.int .i64 0, Value.int .i64 0] (n * 8)).toList = erow (List.replicate n ef0) := by
  apply List.ext_getElem?
  intro j
  by_cases hj : j < n * 8
  · have h1 := erow_get (List.replicate n ef0) (j / 8) (j % 8) (by rw [List.length_replicate]; omega) (Nat.mod_lt _ (by decide))
    rw [show j / 8 * 8 + j % 8 = j by omega] at h1
    rw [h1, eAt_get (by rw [List.length_replicate]; omega), List.getElem_replicate]
    have h8 : j % 8 < 8 := Nat.mod_lt _ (by decide)
    rw [made_get _ _ _ hj]
    show some (#[Value.bool false, Value.string ByteArray.empty, Value.string ByteArray.empty, Value.int .i64 0, Value.int .i64 0, Value.int .i64 0, Value.int .i64 0, Value.int .i64 0][j % 8]!) = _
    clear h1
    generalize j % 8 = r at *
    match r, h8 with
    | 0, _ => rfl
    | 1, _ => rfl
    | 2, _ => rfl
    | 3, _ => rfl
    | 4, _ => rfl
    | 5, _ => rfl
    | 6, _ => rfl
    | 7, _ => rfl
  · rw [List.getElem?_eq_none (by simp [madeCells]; omega), List.getElem?_eq_none (by rw [erow_length, List.length_replicate]; omega)]

/-- The first k written. -/
def mixE (ns : List Ef) (k : Nat) : List Ef := ns.take k ++ List.replicate (ns.length - k) ef0
theorem mixE_len (ns : List Ef) (k : Nat) (h : k ≤ ns.length) : (mixE ns k).length = ns.length := by unfold mixE; rw [List.length_append, List.length_take, List.length_replicate]; omega
theorem mixE_all (ns : List Ef) : mixE ns ns.length = ns := by unfold mixE; simp
theorem mixE_zero (ns : List Ef) : mixE ns 0 = List.replicate ns.length ef0 := by unfold mixE; simp
theorem mixE_set (ns : List Ef) (k : Nat) (h : k < ns.length) : (mixE ns k).set k (eAt ns k) = mixE ns (k + 1) := by
  unfold mixE
  rw [List.set_append_right _ _ (by rw [List.length_take]; omega), List.length_take, show k - min k ns.length = 0 by omega, show ns.length - k = (ns.length - (k + 1)) + 1 by omega, List.replicate_succ, List.set_cons_zero, List.take_succ_eq_append_getElem h, eAt_get h, List.append_assoc]
  rfl

/-- A slice of nodes of the call's own. -/
def OwnE (e : TypeId) (w : World) (lo : Nat) (v : Value) (ns : List Ef) : Prop := w.ownsRow lo e 8 v ns.length (erow ns)
theorem OwnE.rd {e : TypeId} {w : World} {lo : Nat} {v : Value} {ns : List Ef} (h : OwnE e w lo v ns) : RdE w v ns := by
  rcases h.2 with ⟨rfl, h0⟩ | ⟨g, cap, cur, rfl, hb, hg, hn, hm, hs, ht⟩
  · have : ns = [] := List.eq_nil_of_length_eq_zero h0
    subst this
    exact ⟨none, 0, rfl, Nat.le_refl _, Nat.zero_le _, .inl rfl⟩
  · refine ⟨_, cap, rfl, hn, hm, .inr ⟨g, 0, rfl, (Array.getElem?_eq_some_iff.1 hg).1, fun i hi => ?_⟩⟩
    have c : ∀ j, j < 8 → w.cell? ⟨g, 0 + (i * 8 + j), none⟩ = (efL (eAt ns i))[j]? := fun j hj => by
      have hh := erow_get ns i j hi hj
      have h9 : (efL (eAt ns i))[j]? = some ((efL (eAt ns i)).getD j undef) := by
        match j, hj with
        | 0, _ => rfl
        | 1, _ => rfl
        | 2, _ => rfl
        | 3, _ => rfl
        | 4, _ => rfl
        | 5, _ => rfl
        | 6, _ => rfl
        | 7, _ => rfl
      rw [h9] at hh
      have := World.ownsRow.cells h (g := g) rfl (i * 8 + j) _ hh
      rw [Addr.add_lit] at this
      rw [this, h9]
    exact ⟨c 0 (by omega), c 1 (by omega), c 2 (by omega), c 3 (by omega), c 4 (by omega), c 5 (by omega), c 6 (by omega), c 7 (by omega)⟩
theorem OwnE.below {e : TypeId} {w w' : World} {lo : Nat} {v : Value} {ns : List Ef} (h : OwnE e w lo v ns) (hb : Below w.heap.size w w') : OwnE e w' lo v ns := by
  refine ⟨h.1, ?_⟩
  rcases h.2 with hn | ⟨g, cap, cur, rfl, hbg, hgg, rest⟩
  · exact .inl hn
  · exact .inr ⟨g, cap, cur, rfl, hbg, by rw [hb.block g (Array.getElem?_eq_some_iff.1 hgg).1]; exact hgg, rest⟩
theorem OwnE.mono {e : TypeId} {w : World} {lo lo' : Nat} {v : Value} {ns : List Ef} (h : OwnE e w lo v ns) (hl : lo' ≤ lo) : OwnE e w lo' v ns := by
  refine ⟨h.1, ?_⟩
  rcases h.2 with hn | ⟨g, cap, cur, rfl, hbg, rest⟩
  · exact .inl hn
  · exact .inr ⟨g, cap, cur, rfl, Nat.le_trans hl hbg, rest⟩
theorem OwnE.slice {e : TypeId} {w : World} {lo : Nat} {v : Value} {ns : List Ef} (h : OwnE e w lo v ns) : ∃ a c, v = .slice a ns.length c := by
  obtain ⟨a, c, h0, _⟩ := h.rd.len
  exact ⟨a, c, h0⟩


/-- All the bytes of the texts. -/
def totE (ns : List Ef) : Nat := (ns.map fun n => n.nd.path.size + n.nd.data.size).sum
theorem totE_take_succ (ns : List Ef) (k : Nat) (h : k < ns.length) : totE (ns.take (k + 1)) = totE (ns.take k) + ((eAt ns k).nd.path.size + (eAt ns k).nd.data.size) := by
  unfold totE
  rw [List.take_succ_eq_append_getElem h, List.map_append, List.sum_append, eAt_get h]
  simp
theorem totE_all (ns : List Ef) (k : Nat) (h : ns.length ≤ k) : totE (ns.take k) = totE ns := by rw [List.take_of_length_le h]
theorem totE_ge (ns : List Ef) (i : Nat) : (eAt ns i).nd.path.size + (eAt ns i).nd.data.size ≤ totE ns := by
  by_cases h : i < ns.length
  · have h1 := totE_take_succ ns i h
    have h2 : totE (ns.take (i + 1)) ≤ totE ns := by
      unfold totE
      conv => rhs; rw [← List.take_append_drop (i + 1) ns, List.map_append, List.sum_append]
      omega
    omega
  · unfold eAt; rw [List.getD, List.getElem?_eq_none (by omega)]; exact Nat.zero_le _

end Go.Proofs.YtgjenbgclpmjmaaDoor

namespace Go.Proofs.YtgjenbgclpmjmaaDoor
open Go.RowKit

set_option maxHeartbeats 1000000 in
set_option maxRecDepth 100000 in
theorem szEffect_any (w : World) (n : Ef) (left : Int) (hp : n.nd.path.size ≤ maxLen) (hd : n.nd.data.size ≤ maxLen) (h0 : 0 ≤ left) (h1 : left ≤ 1048576) :
    Calls Tryd.prog 105 #[.agg #[.bool n.del, .string n.nd.path, .string n.nd.data, .int .i64 n.nd.ver, .int .i64 n.nd.cver, .int .i64 n.nd.cz, .int .i64 n.nd.mz, .int .i64 n.nd.pz], .int .i64 left] w fun e w' => e = .returned (.int .i64 (szr left (n.nd.path.size + n.nd.data.size))) ∧ Below w.heap.size w w' := by
  have B0 : Hid (Below w.heap.size w (w.alloc (.cells #[.bool n.del, .string n.nd.path, .string n.nd.data, .int .i64 n.nd.ver, .int .i64 n.nd.cver, .int .i64 n.nd.cz, .int .i64 n.nd.mz, .int .i64 n.nd.pz] 130))) := (Below.refl _ _).alloc (Nat.le_refl _) _
  go_enter Tryd.func105, Tryd.ntmps105
  go_wp2_with fail
  refine (szNode_any _ n.nd left hp hd h0 h1).mono ?_
  rintro e w1 ⟨rfl, b1⟩
  have B1 : Hid (Below w.heap.size w w1) := B0.out.trans (b1.mono (by simp))
  clear b1
  unfold maxLen at hp hd
  by_cases h : left < ((n.nd.path.size + n.nd.data.size : Nat) : Int)
  · have HS : Hid (szr left (n.nd.path.size + n.nd.data.size) = -1) := szr_neg h
    rw [szr_neg h]
    clear h
    go_wp2
    go_ret
    exact ⟨ret_i HS.out.symm, B1.out⟩
  · have HS := szr_pos h
    rw [szr_pos h]
    obtain ⟨L2, hL2⟩ : ∃ L2 : Int, L2 = left - ((n.nd.path.size + n.nd.data.size : Nat) : Int) := ⟨_, rfl⟩
    rw [← hL2] at HS
    rw [← hL2]
    have HS2 : Hid (szr left (n.nd.path.size + n.nd.data.size) = L2) := HS
    have h3 : ¬ L2 < 0 := by omega
    clear hL2 h HS
    go_wp2
    go_ret
    exact ⟨ret_i HS2.out.symm, B1.out⟩

set_option maxHeartbeats 1000000 in
set_option maxRecDepth 100000 in
theorem szEffectS_row (w : World) (b o n cap : Nat) (ns : List Ef) (hp : ns.length = n) (hn : n ≤ maxLen) (hb : b < w.heap.size) (hsz : ∀ i, (eAt ns i).nd.path.size ≤ maxLen ∧ (eAt ns i).nd.data.size ≤ maxLen)
    (hc : ∀ i, i < n → CellsE w b (o + i * 8) (eAt ns i)) (left : Int) (h0 : 0 ≤ left) (h1 : left ≤ 1048576) :
    Calls Tryd.prog 62 #[.slice (some ⟨b, o, none⟩) n cap, .int .i64 left] w fun e w' => ∃ r : Int, e = .returned (.int .i64 r) ∧ (r < 0 ∨ r + n + totE ns = left) ∧ Below w.heap.size w w' := by
  have HC : Hid (∀ i, i < n → CellsE w b (o + i * 8) (eAt ns i)) := hc
  have HP : Hid (ns.length = n) := hp
  have HZ : Hid (∀ i, (eAt ns i).nd.path.size ≤ maxLen ∧ (eAt ns i).nd.data.size ≤ maxLen) := hsz
  clear hc hp hsz
  unfold maxLen at hn
  by_cases hl : left < n
  · have h2 : left - (n : Int) < 0 := by omega
    go_enter Tryd.func62, Tryd.ntmps62
    go_wp2
    go_ret
    exact ⟨-1, rfl, .inl (by omega), Below.refl _ _⟩
  · have h2 : ¬ left - (n : Int) < 0 := by omega
    go_enter Tryd.func62, Tryd.ntmps62
    go_wp2
    go_loopw [1, 5] (fun l i wr => ∃ (k : Nat) (L : Int), k ≤ n ∧ i = .int .i64 k ∧ 0 ≤ L ∧ L ≤ 1048576 ∧ l = .int .i64 L ∧ Hid (L + n + totE (ns.take k) = left) ∧ Hid (Below w.heap.size w wr)) (fun _ i _ => n - (intOf i).toNat)
    case atStart => exact ⟨0, left - n, Nat.zero_le _, rfl, by omega, by omega, rfl, (by show _ = _; simp [totE]), Below.refl _ _⟩
    case round =>
      obtain ⟨k, L, hk, rfl, hL0, hL1, rfl, HE, HG⟩ := hrel
      by_cases hlt : k < n
      · have hltI : (k : Int) < (n : Int) := by omega
        obtain ⟨c0, c1, c2, c3, c4, c5, c6, c7⟩ := (HC.out k hlt).below HG.out hb
        have HTS : Hid (totE (ns.take (k + 1)) = totE (ns.take k) + ((eAt ns k).nd.path.size + (eAt ns k).nd.data.size)) := totE_take_succ ns k (by rw [HP.out]; exact hlt)
        have sg := HG.out.size
        go_wp2_with fail
        refine (szEffect_any _ (eAt ns k) L (HZ.out k).1 (HZ.out k).2 hL0 hL1).mono ?_
        rintro e w1 ⟨rfl, b1⟩
        have HG1 : Hid (Below w.heap.size w w1) := HG.out.trans (b1.mono sg)
        clear b1 c0 c1 c2 c3 c4 c5 c6 c7
        obtain ⟨hz1, hz2⟩ := HZ.out k
        unfold maxLen at hz1 hz2
        by_cases hneg : L < (((eAt ns k).nd.path.size + (eAt ns k).nd.data.size : Nat) : Int)
        · rw [szr_neg hneg]
          clear hneg
          go_wp2
          go_ret
          exact ⟨-1, rfl, .inl (by omega), HG1.out⟩
        · rw [szr_pos hneg]
          obtain ⟨L2, hL2⟩ : ∃ L2 : Int, L2 = L - (((eAt ns k).nd.path.size + (eAt ns k).nd.data.size : Nat) : Int) := ⟨_, rfl⟩
          have HL2 : Hid (L2 = L - (((eAt ns k).nd.path.size + (eAt ns k).nd.data.size : Nat) : Int)) := hL2
          rw [← hL2]
          have h3 : ¬ L2 < 0 := by omega
          have h4 : L2 ≤ 1048576 := by omega
          clear hL2 hneg
          go_wp2
          go_roundw
          case rel => exact ⟨k + 1, L2, by omega, by go_num, by omega, by omega, rfl, (by show _ = _; rw [HTS.out]; have := HE.out; have := HL2.out; omega), HG1⟩
          case measure => simp [intOf]; omega
      · go_wp2
        go_ret
        exact ⟨L, rfl, .inr (by have := HE.out; rw [totE_all ns k (by rw [HP.out]; omega)] at this; exact this), HG.out⟩

set_option maxHeartbeats 400000 in
theorem szEffectS_nil (w : World) (ao : Option Addr) (cap : Nat) (left : Int) (h0 : 0 ≤ left) (h1 : left ≤ 1048576) :
    Calls Tryd.prog 62 #[.slice ao 0 cap, .int .i64 left] w fun e w' => e = .returned (.int .i64 left) ∧ w' = w := by
  have h2 : ¬ left < 0 := by omega
  go_enter Tryd.func62, Tryd.ntmps62
  go_wp2
  go_rounds 1
  go_ret
  exact ⟨by simp, rfl⟩

theorem szEffectS_any (w : World) (v : Value) (ns : List Ef) (h : RdE w v ns) (hsz : ∀ i, (eAt ns i).nd.path.size ≤ maxLen ∧ (eAt ns i).nd.data.size ≤ maxLen) (left : Int) (h0 : 0 ≤ left) (h1 : left ≤ 1048576) :
    Calls Tryd.prog 62 #[v, .int .i64 left] w fun e w' => ∃ r : Int, e = .returned (.int .i64 r) ∧ (r < 0 ∨ r + ns.length + totE ns = left) ∧ Below w.heap.size w w' := by
  obtain ⟨ao, cap, rfl, k1, k2, k3⟩ := h
  rcases k3 with rfl | ⟨b, o, rfl, hb, hc⟩
  · refine (szEffectS_nil w ao cap left h0 h1).mono ?_
    rintro e w' ⟨rfl, rfl⟩
    exact ⟨left, rfl, .inr (by simp [totE]), Below.refl _ _⟩
  · exact szEffectS_row w b o ns.length cap ns rfl (by omega) hb hsz hc left h0 h1

set_option maxHeartbeats 400000 in
theorem szTxn_any (w : World) (z : Int) (v : Value) (ns : List Ef) (h : RdE w v ns) (hsz : ∀ i, (eAt ns i).nd.path.size ≤ maxLen ∧ (eAt ns i).nd.data.size ≤ maxLen) (left : Int) (h0 : 0 ≤ left) (h1 : left ≤ 1048576) :
    Calls Tryd.prog 19 #[.agg #[.int .i64 z, v], .int .i64 left] w fun e w' => ∃ r : Int, e = .returned (.int .i64 r) ∧ (r < 0 ∨ r + ns.length + totE ns = left) ∧ Below w.heap.size w w' := by
  have B0 : Hid (Below w.heap.size w (w.alloc (.cells #[.int .i64 z, v] 36))) := (Below.refl _ _).alloc (Nat.le_refl _) _
  obtain ⟨ao, cap, rfl, k1, k2⟩ := h.len
  have HR : Hid (RdE (w.alloc (.cells #[.int .i64 z, .slice ao ns.length cap] 36)) (.slice ao ns.length cap) ns) := h.below B0.out
  clear h
  go_enter Tryd.func19, Tryd.ntmps19
  go_wp2_with fail
  refine (szEffectS_any _ _ ns HR.out hsz left h0 h1).mono ?_
  rintro e w1 ⟨r, rfl, hr, b1⟩
  have B1 : Hid (Below w.heap.size w w1) := B0.out.trans (b1.mono (by simp))
  have hr2 : r ≤ 1048576 := by omega
  have HRR : Hid (r < 0 ∨ r + ns.length + totE ns = left) := hr
  clear b1 hr
  by_cases hneg : r < 0
  · go_wp2
    go_ret
    exact ⟨-1, rfl, .inl (by omega), B1.out⟩
  · go_wp2
    go_ret
    exact ⟨r, rfl, HRR.out, B1.out⟩

end Go.Proofs.YtgjenbgclpmjmaaDoor

namespace Go.Proofs.YtgjenbgclpmjmaaDoor
open Go.RowKit

theorem Tryd.infoE : (Tryd.prog.info? 86).map (fun i => (i.zero, i.size, i.bytes)) = some (some (.agg #[.bool false, .string ByteArray.empty, .string ByteArray.empty, .int .i64 0, .int .i64 0, .int .i64 0, .int .i64 0, .int .i64 0]), 8, 80) := by kernel_rfl

set_option maxHeartbeats 2000000 in
set_option maxRecDepth 100000 in
theorem toEffect_any (w : World) (n : Ef) :
    Calls Tryd.prog 107 #[.agg #[.bool n.del, .string n.nd.path, .string n.nd.data, .int .i64 n.nd.ver, .int .i64 n.nd.cver, .int .i64 n.nd.cz, .int .i64 n.nd.mz, .int .i64 n.nd.pz]] w fun e w' => e = .returned (.agg #[.bool n.del, .string n.nd.path, .string n.nd.data, .int .i64 n.nd.ver, .int .i64 n.nd.cver, .int .i64 n.nd.cz, .int .i64 n.nd.mz, .int .i64 n.nd.pz]) ∧ Below w.heap.size w w' := by
  have HB : Hid (∀ o1 o2 o3 o4 o5 o6, Below w.heap.size w ((((((w.alloc o1).alloc o2).alloc o3).alloc o4).alloc o5).alloc o6)) := fun o1 o2 o3 o4 o5 o6 => ((((((Below.refl _ _).alloc (Nat.le_refl _) _).alloc (by simp) _).alloc (by simp; omega) _).alloc (by simp; omega) _).alloc (by simp; omega) _).alloc (by simp; omega) _
  go_enter Tryd.func107, Tryd.ntmps107
  go_wp2
  refine bodyPost_ret (v := .agg #[.bool n.del, .string n.nd.path, .string n.nd.data, .int .i64 n.nd.ver, .int .i64 n.nd.cver, .int .i64 n.nd.cz, .int .i64 n.nd.mz, .int .i64 n.nd.pz]) (by simp [results, Tryd.results107, go_sem]) rfl ⟨rfl, HB.out _ _ _ _ _ _⟩

theorem estored {w : World} {lo g n cap : Nat} {e : TypeId} {ms : List Ef} (ho : w.ownsRow lo e 8 (.slice (some ⟨g, 0, none⟩) n cap) n (erow ms)) (k : Nat) (hk : k < ms.length) (m : Ef) :
    ((((((((w.setCell ⟨g, k * 8, none⟩ (.bool m.del)).setCell ⟨g, k * 8 + 1, none⟩ (.string m.nd.path)).setCell ⟨g, k * 8 + 2, none⟩ (.string m.nd.data)).setCell ⟨g, k * 8 + 3, none⟩ (.int .i64 m.nd.ver)).setCell ⟨g, k * 8 + 4, none⟩ (.int .i64 m.nd.cver)).setCell ⟨g, k * 8 + 5, none⟩ (.int .i64 m.nd.cz)).setCell ⟨g, k * 8 + 6, none⟩ (.int .i64 m.nd.mz)).setCell ⟨g, k * 8 + 7, none⟩ (.int .i64 m.nd.pz)).ownsRow lo e 8 (.slice (some ⟨g, 0, none⟩) n cap) n (erow (ms.set k m)) := by
  have s0 := (World.ownsRow.stored ho (k * 8) (.bool m.del)).1
  have s1 := (World.ownsRow.stored s0 (k * 8 + 1) (.string m.nd.path)).1
  have s2 := (World.ownsRow.stored s1 (k * 8 + 2) (.string m.nd.data)).1
  have s3 := (World.ownsRow.stored s2 (k * 8 + 3) (.int .i64 m.nd.ver)).1
  have s4 := (World.ownsRow.stored s3 (k * 8 + 4) (.int .i64 m.nd.cver)).1
  have s5 := (World.ownsRow.stored s4 (k * 8 + 5) (.int .i64 m.nd.cz)).1
  have s6 := (World.ownsRow.stored s5 (k * 8 + 6) (.int .i64 m.nd.mz)).1
  have s7 := (World.ownsRow.stored s6 (k * 8 + 7) (.int .i64 m.nd.pz)).1
  rw [← erow_set ms k m hk]
  exact s7

set_option maxHeartbeats 2000000 in
set_option maxRecDepth 100000 in
theorem toEffectS_row (w : World) (b o n cap : Nat) (ns : List Ef) (hp : ns.length = n) (hb : b < w.heap.size) (hc : ∀ i, i < n → CellsE w b (o + i * 8) (eAt ns i)) (hn : n ≤ 1048576) :
    Calls Tryd.prog 64 #[.slice (some ⟨b, o, none⟩) n cap] w fun e w' => ∃ v', e = .returned v' ∧ OwnE 86 w' w.heap.size v' ns ∧ Below w.heap.size w w' := by
  obtain ⟨i0, hi, hz0, hz1, hz2⟩ := info_parts Tryd.infoE
  have HC : Hid (∀ i, i < n → CellsE w b (o + i * 8) (eAt ns i)) := hc
  have HP : Hid (ns.length = n) := hp
  clear hc hp
  go_enter Tryd.func64, Tryd.ntmps64
  go_wp2_with (at_make; go_must (refine wpList_make_full _ rfl _ _ 39 rfl w.heap.size 86 i0 (.agg #[.bool false, .string ByteArray.empty, .string ByteArray.empty, .int .i64 0, .int .i64 0, .int .i64 0, .int .i64 0, .int .i64 0]) 8 Tryd.underlying39 hi hz0 hz1 _ _ _ _ n rfl rfl rfl rfl ?b2 ?b3 ?b4 ?_))
  case b2 => rw [hz2]; omega
  case b3 => unfold maxLen; omega
  case b4 => exact Nat.le_refl _
  intro w1 hown hgrow
  have HO : Hid (w1.ownsRow w.heap.size 86 8 (.slice (some ⟨w.heap.size, 0, none⟩) n n) n (erow (mixE ns 0))) := by
    show World.ownsRow _ _ _ _ _ _ _
    rw [mixE_zero, HP.out, ← erow_zero]
    exact hown
  have HG : Hid (Below w.heap.size w w1) := (Below.refl _ _).grown hgrow (Nat.le_refl _) (by simp)
  clear hown hgrow hi hz0 hz1 hz2
  go_wp2
  go_loopw [4] (fun i wr => ∃ k : Nat, k ≤ n ∧ i = .int .i64 k ∧ Hid (wr.ownsRow w.heap.size 86 8 (.slice (some ⟨w.heap.size, 0, none⟩) n n) n (erow (mixE ns k))) ∧ Hid (Below w.heap.size w wr)) (fun i _ => n - (intOf i).toNat)
  case atStart => exact ⟨0, Nat.zero_le _, rfl, HO, HG⟩
  case round =>
    obtain ⟨k, hk, rfl, HOr, HGr⟩ := hrel
    by_cases hlt : k < n
    · have hltI : (k : Int) < (n : Int) := by omega
      obtain ⟨c0, c1, c2, c3, c4, c5, c6, c7⟩ := (HC.out k hlt).below HGr.out hb
      go_wp2_with fail
      refine (toEffect_any _ (eAt ns k)).mono ?_
      rintro e w2 ⟨rfl, b2⟩
      have HO2 : w2.ownsRow w.heap.size 86 8 (.slice (some ⟨w.heap.size, 0, none⟩) n n) n (erow (mixE ns k)) :=
        World.ownsRow.kept HOr.out (row := none) ⟨b2.os, b2.tape, b2.output, b2.size, fun k hk _ => b2.block k hk⟩ (.inr (by simp [Value.ownBlock]))
      have hml : (mixE ns k).length = n := by rw [mixE_len ns k (by rw [HP.out]; exact hk), HP.out]
      have hrd := (show OwnE 86 w2 w.heap.size (.slice (some ⟨w.heap.size, 0, none⟩) n n) (mixE ns k) by unfold OwnE; rw [hml]; exact HO2).rd
      have hD : CellsE w2 w.heap.size (k * 8) (eAt (mixE ns k) k) := by
        obtain ⟨ao', cap', e', -, -, h3⟩ := hrd
        rcases h3 with h3 | ⟨b', off', rfl, -, hc'⟩
        · rw [h3] at hml; simp at hml; omega
        · simp only [Value.slice.injEq, Option.some.injEq, Addr.mk.injEq] at e'
          obtain ⟨⟨rfl, rfl, -⟩, -, -⟩ := e'
          have := hc' k (by rw [hml]; exact hlt)
          rwa [Nat.zero_add] at this
      obtain ⟨d0, d1, d2, d3, d4, d5, d6, d7⟩ := hD
      have f0 := World.ownsRow.frozenAt HO2 (k * 8)
      have f1 := World.ownsRow.frozenAt HO2 (k * 8 + 1)
      have f2 := World.ownsRow.frozenAt HO2 (k * 8 + 2)
      have f3 := World.ownsRow.frozenAt HO2 (k * 8 + 3)
      have f4 := World.ownsRow.frozenAt HO2 (k * 8 + 4)
      have f5 := World.ownsRow.frozenAt HO2 (k * 8 + 5)
      have f6 := World.ownsRow.frozenAt HO2 (k * 8 + 6)
      have f7 := World.ownsRow.frozenAt HO2 (k * 8 + 7)
      have HG2 : Hid (Below w.heap.size w w2) := HGr.out.trans (b2.mono HGr.out.size)
      have zw2 : w.heap.size < w2.heap.size := (World.ownsRow.lt HO2 w.heap.size rfl).2
      have S : Hid _ := estored HO2 k (by rw [hml]; exact hlt) (eAt ns k)
      have HMS : Hid ((mixE ns k).set k (eAt ns k) = mixE ns (k + 1)) := mixE_set ns k (by rw [HP.out]; exact hlt)
      clear b2 HO2 c0 c1 c2 c3 c4 c5 c6 c7 HOr hml hrd
      go_wp2
      go_roundw
      case rel => exact ⟨k + 1, by omega, by go_num, (by show World.ownsRow _ _ _ _ _ _ _; rw [← HMS.out]; exact S.out), (((((((HG2.out.setCell (Nat.le_refl _) _).setCell (Nat.le_refl _) _).setCell (Nat.le_refl _) _).setCell (Nat.le_refl _) _).setCell (Nat.le_refl _) _).setCell (Nat.le_refl _) _).setCell (Nat.le_refl _) _).setCell (Nat.le_refl _) _⟩
      case measure => simp [intOf]; omega
    · have hkn : k = n := by omega
      subst hkn
      go_wp2
      go_ret
      refine ⟨_, rfl, ?_, HGr.out⟩
      unfold OwnE
      have := HOr.out
      rw [← HP.out, mixE_all] at this
      rw [← HP.out]; exact this

set_option maxHeartbeats 400000 in
theorem toEffectS_nil (w : World) (ao : Option Addr) (cap : Nat) :
    Calls Tryd.prog 64 #[.slice ao 0 cap] w fun e w' => ∃ v', e = .returned v' ∧ OwnE 86 w' w.heap.size v' [] ∧ Below w.heap.size w w' := by
  obtain ⟨i0, hi, hz0, hz1, hz2⟩ := info_parts Tryd.infoE
  go_enter Tryd.func64, Tryd.ntmps64
  go_wp2_with (at_make; go_must (refine wpList_make_full _ rfl _ _ 39 rfl w.heap.size 86 i0 (.agg #[.bool false, .string ByteArray.empty, .string ByteArray.empty, .int .i64 0, .int .i64 0, .int .i64 0, .int .i64 0, .int .i64 0]) 8 Tryd.underlying39 hi hz0 hz1 _ _ _ _ 0 rfl rfl rfl rfl ?b2 ?b3 ?b4 ?_))
  case b2 => rw [hz2]; omega
  case b3 => unfold maxLen; omega
  case b4 => exact Nat.le_refl _
  intro w1 hown hgrow
  have HO : Hid (w1.ownsRow w.heap.size 86 8 (.slice (some ⟨w.heap.size, 0, none⟩) 0 0) 0 []) := by
    have e := erow_zero 0
    rw [Nat.zero_mul] at e
    rw [e] at hown
    exact hown
  have HG : Hid (Below w.heap.size w w1) := (Below.refl _ _).grown hgrow (Nat.le_refl _) (by simp)
  clear hown hgrow
  go_wp2
  go_rounds 1
  go_ret
  exact ⟨_, rfl, HO.out, HG.out⟩

theorem toEffectS_any (w : World) (v : Value) (ns : List Ef) (h : RdE w v ns) (hn : ns.length ≤ 1048576) :
    Calls Tryd.prog 64 #[v] w fun e w' => ∃ v', e = .returned v' ∧ OwnE 86 w' w.heap.size v' ns ∧ Below w.heap.size w w' := by
  obtain ⟨ao, cap, rfl, k1, k2, k3⟩ := h
  rcases k3 with rfl | ⟨b, o, rfl, hb, hc⟩
  · exact toEffectS_nil w ao cap
  · exact toEffectS_row w b o ns.length cap ns rfl hb hc hn

theorem OwnE.setBelow {e : TypeId} {w : World} {lo : Nat} {v : Value} {ns : List Ef} (h : OwnE e w lo v ns) {a : Addr} (ha : a.block < lo) (u : Value) : OwnE e (w.setCell a u) lo v ns := ownsRow_setCell_below h ha u

set_option maxHeartbeats 1000000 in
set_option maxRecDepth 100000 in
theorem toTxn_any (w : World) (z : Int) (v : Value) (ns : List Ef) (h : RdE w v ns) (hn : ns.length ≤ 1048576) :
    Calls Tryd.prog 21 #[.agg #[.int .i64 z, v]] w fun e w' => ∃ a c, e = .returned (.agg #[.int .i64 z, .slice a ns.length c]) ∧ OwnE 86 w' w.heap.size (.slice a ns.length c) ns ∧ Below w.heap.size w w' := by
  obtain ⟨ao, cap, rfl, k1, k2⟩ := h.len
  have HB : Hid (∀ o1 o2 o3, Below w.heap.size w (((w.alloc o1).alloc o2).alloc o3)) := fun o1 o2 o3 => (((Below.refl _ _).alloc (Nat.le_refl _) _).alloc (by simp) _).alloc (by simp; omega) _
  have HR : Hid (RdE w (.slice ao ns.length cap) ns) := h
  clear h
  go_enter Tryd.func21, Tryd.ntmps21
  go_wp2_with fail
  refine (toEffectS_any _ _ ns (HR.out.below (HB.out _ _ _)) hn).mono ?_
  rintro e w1 ⟨v1, rfl, o1, b1⟩
  obtain ⟨a1, c1, rfl⟩ := o1.slice
  have cR0 : w1.cell? ⟨w.heap.size + 1, 0, none⟩ = some (.int .i64 0) := (b1.cell (p := ⟨w.heap.size + 1, 0, none⟩) (by simp)).trans (by go_simp)
  have fR0 : w1.frozen? ⟨w.heap.size + 1, 0, none⟩ = false := (b1.frozen (p := ⟨w.heap.size + 1, 0, none⟩) (by simp)).trans (by go_simp)
  have cR : w1.cell? ⟨w.heap.size + 1, 1, none⟩ = some (.slice none 0 0) := (b1.cell (p := ⟨w.heap.size + 1, 1, none⟩) (by simp)).trans (by go_simp)
  have fR : w1.frozen? ⟨w.heap.size + 1, 1, none⟩ = false := (b1.frozen (p := ⟨w.heap.size + 1, 1, none⟩) (by simp)).trans (by go_simp)
  have cO0 : w1.cell? ⟨w.heap.size + 2, 0, none⟩ = some (.int .i64 z) := (b1.cell (p := ⟨w.heap.size + 2, 0, none⟩) (by simp)).trans (by go_simp)
  have cO : w1.cell? ⟨w.heap.size + 2, 1, none⟩ = some (.slice none 0 0) := (b1.cell (p := ⟨w.heap.size + 2, 1, none⟩) (by simp)).trans (by go_simp)
  have fO : w1.frozen? ⟨w.heap.size + 2, 1, none⟩ = false := (b1.frozen (p := ⟨w.heap.size + 2, 1, none⟩) (by simp)).trans (by go_simp)
  have O1 : Hid (OwnE 86 w1 (w.heap.size + 3) (.slice a1 ns.length c1) ns) := by have := o1; simp at this; exact this
  have z1 : w.heap.size + 3 ≤ w1.heap.size := by have := b1.size; simp at this; omega
  have B1 : Hid (Below w.heap.size w w1) := (HB.out _ _ _).trans (b1.mono (by simp; omega))
  clear o1 b1
  go_wp2
  refine bodyPost_ret (v := .agg #[.int .i64 z, .slice a1 ns.length c1]) (by simp [results, Tryd.results21, go_sem, cR0, cR]) rfl ⟨a1, c1, rfl, ?_, ?_⟩
  · refine OwnE.mono ?_ (show w.heap.size ≤ w.heap.size + 3 by omega)
    repeat (first | exact O1.out | refine OwnE.setBelow ?_ (by simp; try omega) _)
  · repeat (first | exact B1.out | refine Below.setCell ?_ (by simp; try omega) _)

end Go.Proofs.YtgjenbgclpmjmaaDoor

namespace Go.Proofs.YtgjenbgclpmjmaaDoor
open Go.RowKit

set_option maxHeartbeats 1000000 in
set_option maxRecDepth 100000 in
theorem eqEffect_same (w : World) (n : Ef) :
    Calls Tryd.prog 108 #[.agg #[.bool n.del, .string n.nd.path, .string n.nd.data, .int .i64 n.nd.ver, .int .i64 n.nd.cver, .int .i64 n.nd.cz, .int .i64 n.nd.mz, .int .i64 n.nd.pz], .agg #[.bool n.del, .string n.nd.path, .string n.nd.data, .int .i64 n.nd.ver, .int .i64 n.nd.cver, .int .i64 n.nd.cz, .int .i64 n.nd.mz, .int .i64 n.nd.pz]] w fun e w' => e = .returned (.bool true) ∧ Below w.heap.size w w' := by
  have B0 : Hid (Below w.heap.size w ((w.alloc (.cells #[.bool n.del, .string n.nd.path, .string n.nd.data, .int .i64 n.nd.ver, .int .i64 n.nd.cver, .int .i64 n.nd.cz, .int .i64 n.nd.mz, .int .i64 n.nd.pz] 86)).alloc (.cells #[.bool n.del, .string n.nd.path, .string n.nd.data, .int .i64 n.nd.ver, .int .i64 n.nd.cver, .int .i64 n.nd.cz, .int .i64 n.nd.mz, .int .i64 n.nd.pz] 86))) := ((Below.refl _ _).alloc (Nat.le_refl _) _).alloc (by simp) _
  have hdd : (n.del != n.del) = false := by simp
  go_enter Tryd.func108, Tryd.ntmps108
  go_wp2_with fail
  refine (eqNode_same _ n.nd).mono ?_
  rintro e w1 ⟨rfl, b1⟩
  have B1 : Hid (Below w.heap.size w w1) := B0.out.trans (b1.mono (by simp; omega))
  clear b1
  go_wp2
  go_ret
  exact ⟨rfl, B1.out⟩

set_option maxHeartbeats 1000000 in
set_option maxRecDepth 100000 in
theorem eqEffectS_row (w : World) (b o b2 o2 n ca cb : Nat) (ns : List Ef) (hn : n ≤ 1048576) (hb : b < w.heap.size) (hb2 : b2 < w.heap.size)
    (hc : ∀ i, i < n → CellsE w b (o + i * 8) (eAt ns i)) (hc2 : ∀ i, i < n → CellsE w b2 (o2 + i * 8) (eAt ns i)) :
    Calls Tryd.prog 67 #[.slice (some ⟨b, o, none⟩) n ca, .slice (some ⟨b2, o2, none⟩) n cb] w fun e w' => e = .returned (.bool true) ∧ Below w.heap.size w w' := by
  have HC : Hid (∀ i, i < n → CellsE w b (o + i * 8) (eAt ns i)) := hc
  have HC2 : Hid (∀ i, i < n → CellsE w b2 (o2 + i * 8) (eAt ns i)) := hc2
  clear hc hc2
  have h1 : ((n : Int) != (n : Int)) = false := by simp
  go_enter Tryd.func67, Tryd.ntmps67
  go_wp2
  go_loopw [5] (fun i wr => ∃ k : Nat, k ≤ n ∧ i = .int .i64 k ∧ Hid (Below w.heap.size w wr)) (fun i _ => n - (intOf i).toNat)
  case atStart => exact ⟨0, Nat.zero_le _, rfl, Below.refl _ _⟩
  case round =>
    obtain ⟨k, hk, rfl, HG⟩ := hrel
    by_cases hlt : k < n
    · obtain ⟨c0, c1, c2, c3, c4, c5, c6, c7⟩ := (HC.out k hlt).below HG.out hb
      obtain ⟨d0, d1, d2, d3, d4, d5, d6, d7⟩ := (HC2.out k hlt).below HG.out hb2
      have hltI : (k : Int) < (n : Int) := by omega
      have HE : Hid (∀ q, Calls Tryd.prog 108 #[.agg #[.bool (eAt ns k).del, .string (eAt ns k).nd.path, .string (eAt ns k).nd.data, .int .i64 (eAt ns k).nd.ver, .int .i64 (eAt ns k).nd.cver, .int .i64 (eAt ns k).nd.cz, .int .i64 (eAt ns k).nd.mz, .int .i64 (eAt ns k).nd.pz], .agg #[.bool (eAt ns k).del, .string (eAt ns k).nd.path, .string (eAt ns k).nd.data, .int .i64 (eAt ns k).nd.ver, .int .i64 (eAt ns k).nd.cver, .int .i64 (eAt ns k).nd.cz, .int .i64 (eAt ns k).nd.mz, .int .i64 (eAt ns k).nd.pz]] (wr.drewN q) fun e w' => e = .returned (.bool true) ∧ Below w.heap.size w w') := by
        intro q
        refine (eqEffect_same _ (eAt ns k)).mono ?_
        rintro e w' ⟨rfl, b'⟩
        exact ⟨rfl, (HG.out.trans ((below_drewN' wr q).mono HG.out.size)).trans (b'.mono HG.out.size)⟩
      go_wp2
      go_region_with (go_at_call 108; refine (HE.out 1).mono ?_; rintro e w' ⟨rfl, b'⟩)
      all_goals
        have HB : Hid (Below w.heap.size w w') := b'
        clear b'
        go_wp2
        go_roundw
        case rel => exact ⟨k + 1, by omega, by go_num, HB⟩
        case measure => simp [intOf]; omega
    · go_wp2
      go_ret
      exact ⟨rfl, HG.out⟩

set_option maxHeartbeats 400000 in
theorem eqEffectS_nil (w : World) (ao bo : Option Addr) (ca cb : Nat) :
    Calls Tryd.prog 67 #[.slice ao 0 ca, .slice bo 0 cb] w fun e w' => e = .returned (.bool true) ∧ w' = w := by
  go_enter Tryd.func67, Tryd.ntmps67
  go_wp2
  go_rounds 1
  go_ret
  exact ⟨rfl, rfl⟩

theorem eqEffectS_same (w : World) (va vb : Value) (ns : List Ef) (ha : RdE w va ns) (hb : RdE w vb ns) (hn : ns.length ≤ 1048576) :
    Calls Tryd.prog 67 #[va, vb] w fun e w' => e = .returned (.bool true) ∧ Below w.heap.size w w' := by
  obtain ⟨ao, ca, rfl, h1, h2, h3⟩ := ha
  obtain ⟨bo, cb, rfl, k1, k2, k3⟩ := hb
  rcases h3 with rfl | ⟨b, o, rfl, hb, hc⟩
  · refine (eqEffectS_nil w ao bo ca cb).mono ?_
    rintro e w' ⟨rfl, rfl⟩
    exact ⟨rfl, Below.refl _ _⟩
  · rcases k3 with rfl | ⟨b2, o2, rfl, hb2, hc2⟩
    · refine (eqEffectS_nil w _ bo ca cb).mono ?_
      rintro e w' ⟨rfl, rfl⟩
      exact ⟨rfl, Below.refl _ _⟩
    · exact eqEffectS_row w b o b2 o2 ns.length ca cb ns hn hb hb2 hc hc2

set_option maxHeartbeats 1000000 in
theorem eqTxn_same (w : World) (z : Int) (va vb : Value) (ns : List Ef) (ha : RdE w va ns) (hb : RdE w vb ns) (hn : ns.length ≤ 1048576) :
    Calls Tryd.prog 23 #[.agg #[.int .i64 z, va], .agg #[.int .i64 z, vb]] w fun e w' => e = .returned (.bool true) ∧ Below w.heap.size w w' := by
  have B0 : Hid (Below w.heap.size w ((w.alloc (.cells #[.int .i64 z, va] 41)).alloc (.cells #[.int .i64 z, vb] 41))) := ((Below.refl _ _).alloc (Nat.le_refl _) _).alloc (by simp) _
  have RA : Hid (RdE ((w.alloc (.cells #[.int .i64 z, va] 41)).alloc (.cells #[.int .i64 z, vb] 41)) va ns) := ha.below B0.out
  have RB : Hid (RdE ((w.alloc (.cells #[.int .i64 z, va] 41)).alloc (.cells #[.int .i64 z, vb] 41)) vb ns) := hb.below B0.out
  clear ha hb
  have hzz : (z != z) = false := by simp
  go_enter Tryd.func23, Tryd.ntmps23
  go_wp2_with fail
  refine (eqEffectS_same _ _ _ ns RA.out RB.out hn).mono ?_
  rintro e w1 ⟨rfl, b1⟩
  have B1 : Hid (Below w.heap.size w w1) := B0.out.trans (b1.mono (by simp; omega))
  clear b1
  go_wp2
  go_ret
  exact ⟨rfl, B1.out⟩

end Go.Proofs.YtgjenbgclpmjmaaDoor

