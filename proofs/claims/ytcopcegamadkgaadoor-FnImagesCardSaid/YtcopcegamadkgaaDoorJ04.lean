import Derived.Test.YtcopcegamadkgaaDoorJ03
import Derived.Test.YtcopcegamadkgaaDoorJ01
import Derived.Laws.Cover1
import Derived.Test.YtcopcegamadkgaaDoorJ02
namespace Go.Proofs.YtcopcegamadkgaaDoor
open Go.RowKit

def zeroT : Value := .agg #[.bool false, .slice none 0 0]
/-- What an answer of DecodeTree is. -/
def DtPost (w : World) (ys : List Int) (e : Ending) (w' : World) : Prop :=
  Below w.heap.size w w' ∧ ((decT ys = none ∧ e = .returned zeroT) ∨ ∃ ns v, decT ys = some ns ∧ e = .returned (.agg #[.bool true, v]) ∧ OwnN 84 w' w.heap.size v ns)
/-- The answer's own variable, still zero. -/
def Zt (W : World) (k : Nat) : Prop := k < W.heap.size ∧ W.cell? ⟨k, 0, none⟩ = some (.bool false) ∧ W.cell? ⟨k, 1, none⟩ = some (.slice none 0 0) ∧ ∀ j, W.frozen? ⟨k, j, none⟩ = false
theorem Zt.turn {W W' : World} {k : Nat} {row : Option Nat} (h : Zt W k) (hg : W.grownBy W' row) (hne : some k ≠ row) : Zt W' k := by
  have hb := hg.block k h.1 hne
  exact ⟨Nat.lt_of_lt_of_le h.1 hg.size, (World.cell?_of_block (a := ⟨k, 0, none⟩) hb).trans h.2.1, (World.cell?_of_block (a := ⟨k, 1, none⟩) hb).trans h.2.2.1, fun j => (World.frozen?_of_block (a := ⟨k, j, none⟩) hb).trans (h.2.2.2 j)⟩
theorem Zt.set {W : World} {k B : Nat} (h : Zt W k) (hne : k ≠ B) (i : Nat) (u : Value) : Zt (W.setCell ⟨B, i, none⟩ u) k :=
  ⟨by simpa using h.1, (World.cell?_setCell_other _ _ _ _ (by intro e; injection e with e; omega)).trans h.2.1, (World.cell?_setCell_other _ _ _ _ (by intro e; injection e with e; omega)).trans h.2.2.1, fun j => by rw [World.frozen?_setCell]; exact h.2.2.2 j⟩
/-- A box of one cell that may be written. -/
def B1 (W : World) (k : Nat) (v : Value) : Prop := k < W.heap.size ∧ W.cell? ⟨k, 0, none⟩ = some v ∧ W.frozen? ⟨k, 0, none⟩ = false
theorem B1.turn {W W' : World} {k : Nat} {v : Value} {row : Option Nat} (h : B1 W k v) (hg : W.grownBy W' row) (hne : some k ≠ row) : B1 W' k v := by
  have hb := hg.block k h.1 hne
  exact ⟨Nat.lt_of_lt_of_le h.1 hg.size, (World.cell?_of_block (a := ⟨k, 0, none⟩) hb).trans h.2.1, (World.frozen?_of_block (a := ⟨k, 0, none⟩) hb).trans h.2.2⟩
theorem OwnN.turn {W W' : World} {lo : Nat} {v : Value} {ns : List Nd} {k : Nat} (h : OwnN 84 W lo v ns) (hg : W.grownBy W' (some k)) (hk : k < lo) : OwnN 84 W' lo v ns := by
  refine World.ownsRow.kept h hg ?_
  cases e : v.ownBlock with
  | none => exact .inl rfl
  | some g =>
    refine .inr fun e2 => ?_
    have := (World.ownsRow.lt h g e).1
    simp only [Option.some.injEq] at e2
    omega
theorem nrow_one (ns : List Nd) (n : Nd) : nrow (ns ++ [n]) = nrow ns ++ ndL n := by rw [nrow_append]; simp [nrow]
theorem ndL_cells (w : World) (n : Nd) (t : TypeId) : ∀ j u, (ndL n)[j]? = some u → (w.alloc (.cells #[.string n.path, .string n.data, .int .i64 n.ver, .int .i64 n.cver, .int .i64 n.cz, .int .i64 n.mz, .int .i64 n.pz] t)).cell? ((⟨w.heap.size, 0, none⟩ : Addr).add j) = some u := by
  intro j u hj
  rw [Addr.add_lit, Nat.zero_add, cell_of (heap_alloc_new w _) j, ← hj]
  simp [ndL]
theorem ndL_one (n : Nd) : ∀ u ∈ ndL n, u.oneCell' = true := by
  intro u hu
  simp only [ndL, List.mem_cons, List.mem_nil_iff, or_false] at hu
  rcases hu with rfl | rfl | rfl | rfl | rfl | rfl | rfl <;> rfl
theorem field_node (n : Nd) (W : World) : (Instr.field 86 (.agg #[.string n.path, .string n.data, .int .i64 n.ver, .int .i64 n.cver, .int .i64 n.cz, .int .i64 n.mz, .int .i64 n.pz]) 0).run Tryd.prog W = .ok (.agg #[.string n.path, .string n.data, .int .i64 n.ver, .int .i64 n.cver, .int .i64 n.cz, .int .i64 n.mz, .int .i64 n.pz]) W := by kernel_rfl
def SzN (ns : List Nd) : Prop := ∀ n ∈ ns, n.path.size < 256 ∧ n.data.size < 256
theorem SzN.at {ns : List Nd} (h : SzN ns) (i : Nat) : (nAt ns i).path.size ≤ 1048576 ∧ (nAt ns i).data.size ≤ 1048576 := by
  by_cases hi : i < ns.length
  · rw [nAt_get hi]
    have := h _ (List.getElem_mem hi)
    omega
  · unfold nAt; rw [List.getD, List.getElem?_eq_none (by omega)]; exact ⟨Nat.zero_le _, Nat.zero_le _⟩
/-- The way of DecodeTree. -/
def TS (w : World) (ys : List Int) (W : World) (v : Value) (ns : List Nd) (r : List Int) : Prop :=
  Par ys ns r ∧ Byt r ∧ SzN ns ∧ RS w W (w.heap.size + 1) r ∧ Zt W w.heap.size ∧ B1 W (w.heap.size + 1 + 1) v ∧ OwnN 84 W (w.heap.size + 3) v ns
def lenAt (W : World) (k : Nat) : Nat := match W.cell? ⟨k, 0, none⟩ with | some (.slice _ n _) => n | _ => 0
theorem RS.lenAt {w0 W : World} {k : Nat} {r : List Int} (h : RS w0 W k r) : lenAt W k = r.length := by
  obtain ⟨-, -, -, -, v, h5, h6⟩ := h
  obtain ⟨ao, c, rfl, -⟩ := h6
  unfold Go.Proofs.YtcopcegamadkgaaDoor.lenAt
  rw [h5]
theorem TS.start (w : World) (ao : Option Addr) (ys : List Int) (cap : Nat) (h : Rd .u8 w (.slice ao ys.length cap) ys) (hb : Byt ys) :
    TS w ys (((w.alloc (.cells #[.bool false, .slice none 0 0] 41)).alloc (.cells #[.slice ao ys.length cap] 92)).alloc (.cells #[.slice none 0 0] 36)) (.slice none 0 0) [] ys := by
  refine ⟨Par.start ys, hb, (fun n hn => by cases hn), ⟨by omega, by simp, (by go_simp), (((Below.refl _ _).alloc (Nat.le_refl _) _).alloc (by simp) _).alloc (by simp; omega) _, _, (by go_simp), h⟩, ⟨by simp; omega, (by go_simp), (by go_simp), fun j => (by go_simp)⟩, ⟨by simp, (by go_simp), (by go_simp)⟩, World.ownsRow_nil _ _ _ _⟩

theorem TS.drewN {w W : World} {ys : List Int} {v : Value} {ns : List Nd} {r : List Int} (h : TS w ys W v ns r) (q : Nat) : TS w ys (W.drewN q) v ns r := ⟨h.1, h.2.1, h.2.2.1, h.2.2.2.1.drewN q, h.2.2.2.2.1, h.2.2.2.2.2.1, h.2.2.2.2.2.2⟩
theorem TS.below {w W : World} {ys : List Int} {v : Value} {ns : List Nd} {r : List Int} (h : TS w ys W v ns r) : Below w.heap.size w W := h.2.2.2.1.2.2.2.1

set_option maxHeartbeats 400000 in
theorem done_any (w0 w : World) (k : Nat) (ys : List Int) (h : RS w0 w k ys) :
    Calls Tryd.prog 59 #[.pointer (some ⟨k, 0, none⟩)] w fun e w' => e = .returned (.bool (decide (ys = []))) ∧ w' = w := by
  obtain ⟨-, -, -, -, v, h5, h6⟩ := h
  obtain ⟨ao, c, rfl, -⟩ := h6
  by_cases hy : ys = []
  · subst hy
    have h0 : ((List.length ([] : List Int) : Int) == 0) = true := rfl
    go_enter Tryd.func59, Tryd.ntmps59
    go_wp2
    go_ret
    exact ⟨rfl, rfl⟩
  · have hl : 0 < ys.length := List.length_pos_iff.2 hy
    have h0 : ((ys.length : Int) == 0) = false := beq_eq_false_iff_ne.2 (by omega)
    rw [decide_eq_false hy]
    go_enter Tryd.func59, Tryd.ntmps59
    go_wp2
    go_ret
    exact ⟨rfl, rfl⟩

theorem hmf (fn : Fn) (first cap : Array Value) (w : World) : (Instr.makeFunc fn first cap).run Tryd.prog w = .ok (.func fn first cap) w := rfl

theorem RS.turn {w0 W W' : World} {k : Nat} {r : List Int} {row : Option Nat} (h : RS w0 W k r) (hg : W.grownBy W' row) (hne : some k ≠ row) (hlo : ∀ g, row = some g → w0.heap.size ≤ g) : RS w0 W' k r := by
  obtain ⟨h1, h2, h3, h4, v, h5, h6⟩ := h
  have hb := hg.block k h2 hne
  exact ⟨h1, Nat.lt_of_lt_of_le h2 hg.size, (World.frozen?_of_block (a := ⟨k, 0, none⟩) hb).trans h3, h4.grown hg h4.size hlo, v, (World.cell?_of_block (a := ⟨k, 0, none⟩) hb).trans h5, h6⟩
/-- A node was read. -/
def TR (w : World) (ys : List Int) (W : World) (v : Value) (ns : List Nd) (n : Nd) (r : List Int) : Prop :=
  Par ys (ns ++ [n]) r ∧ Byt r ∧ SzN (ns ++ [n]) ∧ RS w W (w.heap.size + 1) r ∧ Zt W w.heap.size ∧ B1 W (w.heap.size + 1 + 1) v ∧ OwnN 84 W (w.heap.size + 3) v ns
theorem TS.read {w W W1 : World} {ys : List Int} {v : Value} {ns : List Nd} {r r' : List Int} {n : Nd} (h : TS w ys W v ns r) (hg : W.grownBy W1 (some (w.heap.size + 1))) (hp : rdNd r = some (n, r')) (hr : RS w W1 (w.heap.size + 1) r') : TR w ys W1 v ns n r' := by
  obtain ⟨t1, t2, t3, t4, t5, t6, t7⟩ := h
  have hb := rdNd_byt hp t2
  refine ⟨t1.step t2 hp, hb.1, ?_, hr, t5.turn hg (by simp), t6.turn hg (by simp), t7.turn hg (by omega)⟩
  intro m hm
  rcases List.mem_append.1 hm with hm | hm
  · exact t3 m hm
  · simp at hm; subst hm; exact hb.2.2
theorem TR.alloc {w W : World} {ys : List Int} {v : Value} {ns : List Nd} {r : List Int} {n : Nd} (h : TR w ys W v ns n r) (o : Obj) : TR w ys (W.alloc o) v ns n r := by
  obtain ⟨t1, t2, t3, t4, t5, t6, t7⟩ := h
  exact ⟨t1, t2, t3, t4.new ((Below.refl _ _).alloc (Nat.le_refl _) _), t5.turn (grown_alloc _ _ none) (by simp), t6.turn (grown_alloc _ _ none) (by simp), t7.below ((Below.refl _ _).alloc (Nat.le_refl _) _)⟩
theorem TR.push {w W W3 : World} {ys : List Int} {v v3 : Value} {ns : List Nd} {r : List Int} {n : Nd} (h : TR w ys W v ns n r) (hg : W.grownBy W3 v.ownBlock) (ho : W3.ownsRow (w.heap.size + 3) 84 7 v3 (ns.length + 1) (nrow ns ++ ndL n)) :
    TS w ys (W3.setCell ⟨w.heap.size + 1 + 1, 0, none⟩ v3) v3 (ns ++ [n]) r := by
  obtain ⟨t1, t2, t3, t4, t5, t6, t7⟩ := h
  have hne : ∀ k, k < w.heap.size + 3 → some k ≠ v.ownBlock := fun k hk e => by have := (World.ownsRow.lt t7 k e.symm).1; omega
  have hlo : ∀ g, v.ownBlock = some g → w.heap.size ≤ g := fun g e => by have := (World.ownsRow.lt t7 g e).1; omega
  have b6 := t6.turn hg (hne _ (by omega))
  refine ⟨t1, t2, t3, (t4.turn hg (hne _ (by omega)) hlo).setOther (by omega) (by omega) _ _, (t5.turn hg (hne _ (by omega))).set (by omega) _ _, ⟨by simpa using b6.1, World.cell?_setCell_same _ _ _ b6.2.1, by rw [World.frozen?_setCell]; exact b6.2.2⟩, ?_⟩
  have : OwnN 84 W3 (w.heap.size + 3) v3 (ns ++ [n]) := by unfold OwnN; rw [nrow_one, List.length_append]; exact ho
  exact OwnN.setBelow this (by show w.heap.size + 1 + 1 < w.heap.size + 3; omega) _

set_option maxHeartbeats 4000000 in
set_option maxRecDepth 100000 in
theorem implDecT_any (w : World) (v : Value) (ys : List Int) (h : Rd .u8 w v ys) (hby : Byt ys) (hl : ys.length ≤ 1048576) :
    Calls Tryd.prog 16 #[v] w fun e w' => DtPost w ys e w' := by
  obtain ⟨i0, hi, hz0, hz1, hz2⟩ := info_parts Tryd.infoN
  obtain ⟨ao, cap, rfl, -, -⟩ := h.len
  have D0 : Hid (TS w ys (((w.alloc (.cells #[.bool false, .slice none 0 0] 41)).alloc (.cells #[.slice ao ys.length cap] 92)).alloc (.cells #[.slice none 0 0] 36)) (.slice none 0 0) [] ys) := TS.start w ao ys cap h hby
  clear h hby
  have hm := hmf
  go_enter_defers Tryd.func16, Tryd.ntmps16
  go_wp2
  generalize (((w.alloc (.cells #[.bool false, .slice none 0 0] 41)).alloc (.cells #[.slice ao ys.length cap] 92)).alloc (.cells #[.slice none 0 0] 36)) = W0 at *
  go_loopw [9] (fun u9 wr => ∃ v ns r, Hid (TS w ys wr v ns r)) (fun _ wr => lenAt wr (w.heap.size + 1))
  case atStart => exact ⟨_, _, _, D0⟩
  case round =>
    clear D0
    obtain ⟨v, ns, r, D⟩ := hrel
    obtain ⟨va, vc, hva⟩ := D.out.2.2.2.2.2.2.slice
    subst hva
    go_wp2_with fail
    refine (done_any w wr (w.heap.size + 1) r D.out.2.2.2.1).mono ?_
    rintro e w1 ⟨rfl, rfl⟩
    by_cases hr : r = []
    · subst hr
      rw [show decide (([] : List Int) = []) = true from rfl]
      obtain ⟨t1, -, t3, -, ⟨tz, z0, z1, zf⟩, ⟨-, b0, -⟩, t7⟩ := D.out
      have HPD : Hid (pNs ys.length ys = some ns) := t1.done
      have HSZ : Hid (SzN ns) := t3
      have HON : Hid (OwnN 84 w1 (w.heap.size + 3) (.slice va ns.length vc) ns) := t7
      clear t1 t3 t7 z0 z1 zf
      go_wp2_with fail
      refine (implTree_any _ _ ns HON.out.rd HSZ.out.at).mono ?_
      rintro e w2 ⟨rfl, b2⟩
      have HON2 : Hid (OwnN 84 w2 (w.heap.size + 3) (.slice va ns.length vc) ns) := HON.out.below b2
      have HB2 : Hid (Below w.heap.size w w2) := D.out.below.trans (b2.mono D.out.below.size)
      obtain ⟨-, z0, z1, zf⟩ := D.out.2.2.2.2.1.turn (grown_of b2 none) (by simp)
      obtain ⟨-, d0, -⟩ := D.out.2.2.2.2.2.1.turn (grown_of b2 none) (by simp)
      have f0 := zf 0
      have f1 := zf 1
      clear b2 zf b0 HON
      by_cases hok : okTree ns = true
      · have HF : Hid (∀ W, W = (w2.setCell ⟨w.heap.size, 0, none⟩ (.bool true)).setCell ⟨w.heap.size, 1, none⟩ (.slice va ns.length vc) → DtPost w ys (.returned (.agg #[.bool true, .slice va ns.length vc])) W) := by
          rintro W rfl
          refine ⟨(HB2.out.setCell (p := ⟨w.heap.size, 0, none⟩) (Nat.le_refl _) _).setCell (p := ⟨w.heap.size, 1, none⟩) (Nat.le_refl _) _, .inr ⟨ns, _, ?_, rfl, ?_⟩⟩
          · unfold decT; rw [HPD.out]; simp only; rw [if_pos hok]
          · exact OwnN.mono (OwnN.setBelow (OwnN.setBelow HON2.out (by show w.heap.size < w.heap.size + 3; omega) _) (by show w.heap.size < w.heap.size + 3; omega) _) (by omega)
        rw [hok]
        clear hok
        go_wp2
        refine leaves_cons (f := 57) (args := #[]) (by simp) (by simp [go_sem]) ?_
        refine (catchT_idle _).mono ?_
        rintro e u' w3 ⟨rfl, rfl, rfl⟩
        simp [Leaves, settle, results, Tryd.results16, go_sem, z0, z1]
        exact HF.out _ rfl
      · have hok' : okTree ns = false := by simpa using hok
        have HF : Hid (∀ W, W = (w2.setCell ⟨w.heap.size, 0, none⟩ (.bool false)).setCell ⟨w.heap.size, 1, none⟩ (.slice none 0 0) → DtPost w ys (.returned (.agg #[.bool false, .slice none 0 0])) W) := by
          rintro W rfl
          refine ⟨(HB2.out.setCell (p := ⟨w.heap.size, 0, none⟩) (Nat.le_refl _) _).setCell (p := ⟨w.heap.size, 1, none⟩) (Nat.le_refl _) _, .inl ⟨?_, rfl⟩⟩
          unfold decT; rw [HPD.out]; simp only; rw [if_neg hok]
        rw [hok']
        clear hok hok'
        go_wp2
        refine leaves_cons (f := 57) (args := #[]) (by simp) (by simp [go_sem]) ?_
        refine (catchT_idle _).mono ?_
        rintro e u' w3 ⟨rfl, rfl, rfl⟩
        simp [Leaves, settle, results, Tryd.results16, go_sem, z0, z1]
        exact HF.out _ rfl
    · rw [decide_eq_false hr]
      have HBAD : Hid (rdNd r = none → ∀ W W', w1.drew.grownBy W (some (w.heap.size + 1)) → Below W.heap.size W W' → W'.cell? ⟨w.heap.size, 0, none⟩ = some (.bool false) ∧ W'.cell? ⟨w.heap.size, 1, none⟩ = some (.slice none 0 0) ∧ DtPost w ys (.returned (.agg #[.bool false, .slice none 0 0])) W') := by
        intro hp W W' hg hb
        have z := ((D.out.drewN 1).2.2.2.2.1.turn hg (by simp)).turn (grown_of hb none) (by simp)
        have hB : Below w.heap.size w W := (D.out.drewN 1).below.grown hg (D.out.drewN 1).below.size (fun q hq => by simp only [Option.some.injEq] at hq; omega)
        refine ⟨z.2.1, z.2.2.1, hB.trans (hb.mono hB.size), .inl ⟨?_, rfl⟩⟩
        unfold decT; rw [D.out.1.bad hr hp]
      have HNE : Hid (r ≠ []) := hr
      have HLE : Hid (ns.length + r.length ≤ ys.length) := by obtain ⟨f, -, -, h⟩ := D.out.1; exact h
      have hns : ns.length ≤ 1048576 := by have := HLE.out; omega
      clear hr
      have c0 := D.out.2.2.2.2.2.1.2.1
      cases hrd : rdNd r with
      | none =>
        have HRD : Hid (rdNd r = none) := hrd
        clear hrd
        go_wp2
        refine wp_region_held_drew (S := fun _ => True) (by kernel_rfl) trivial (fun hHeld => ?_)
        refine wpAnyH_ready (rs := [0, 2]) (by kernel_rfl) (by simp) ?_
        refine (AllReadyH.cons (o := { dst := some 11, op := _, type := _, pos := _, after := _, guard := _ }) rfl (fun K hK => ?_) (AllReadyH.cons (o := { dst := some 13, op := _, type := _, pos := _, after := _, guard := _ }) rfl (fun K hK => ?_) AllReadyH.nil))
        · go_simp
          refine hK.out _ _ trivial (fun hx9 => ?_)
          clear hK K hx9
          try simp only [Act.put, List.setIfInBounds_toArray, List.set_cons_zero, List.set_cons_succ]
          refine wpAnyH_ready (rs := [1, 2]) (by kernel_rfl) (by simp) ?_
          refine (AllReadyH.cons (o := { dst := some 12, op := _, type := _, pos := _, after := _, guard := _ }) rfl (fun K hK => ?_) (AllReadyH.cons (o := { dst := some 13, op := _, type := _, pos := _, after := _, guard := _ }) rfl (fun K hK => ?_) AllReadyH.nil))
          · go_simp
            refine hK.out _ _ trivial (fun hx9 => ?_)
            clear hK K hx9
            try simp only [Act.put, List.setIfInBounds_toArray, List.set_cons_zero, List.set_cons_succ]
            refine wpAnyH_ready (rs := [2]) (by kernel_rfl) (by simp) ?_
            refine (AllReadyH.cons (o := { dst := some 13, op := _, type := _, pos := _, after := _, guard := _ }) rfl (fun K hK => ?_) AllReadyH.nil)
            · go_simp
              refine hK.out _ _ trivial (fun hx9 => ?_)
              clear hK K hx9
              try simp only [Act.put, List.setIfInBounds_toArray, List.set_cons_zero, List.set_cons_succ]
              refine wpAnyH_ready (rs := [3]) (by kernel_rfl) (by simp) ?_
              refine (AllReadyH.cons (o := { dst := some 14, op := _, type := _, pos := _, after := _, guard := _ }) rfl (fun K hK => ?_) AllReadyH.nil)
              · go_simp
                refine (nodeImage_any w w1.drew (w.heap.size + 1) r (D.out.drewN 1).2.2.2.1 D.out.2.1).mono ?_
                rintro e W1 ⟨g1, hp⟩
                rcases hp with ⟨hp, rfl⟩ | ⟨n, r', hp, rfl, hr1⟩
                · refine leaves_cons (f := 57) (args := #[]) (by simp) (by simp [go_sem]) ?_
                  refine (catchT_bad [] _).mono ?_
                  rintro e u' w3 ⟨rfl, rfl, b3⟩
                  obtain ⟨z0, z1, hF⟩ := HBAD.out hp _ _ g1 b3
                  simp [Leaves, settle, results, Tryd.results16, go_sem, z0, z1]
                  exact hF
                · rw [HRD.out] at hp; cases hp
          · go_simp
            refine hK.out _ _ trivial (fun hx9 => ?_)
            clear hK K hx9
            try simp only [Act.put, List.setIfInBounds_toArray, List.set_cons_zero, List.set_cons_succ]
            refine wpAnyH_ready (rs := [1, 3]) (by kernel_rfl) (by simp) ?_
            refine (AllReadyH.cons (o := { dst := some 12, op := _, type := _, pos := _, after := _, guard := _ }) rfl (fun K hK => ?_) (AllReadyH.cons (o := { dst := some 14, op := _, type := _, pos := _, after := _, guard := _ }) rfl (fun K hK => ?_) AllReadyH.nil))
            · go_simp
              refine hK.out _ _ trivial (fun hx9 => ?_)
              clear hK K hx9
              try simp only [Act.put, List.setIfInBounds_toArray, List.set_cons_zero, List.set_cons_succ]
              refine wpAnyH_ready (rs := [3]) (by kernel_rfl) (by simp) ?_
              refine (AllReadyH.cons (o := { dst := some 14, op := _, type := _, pos := _, after := _, guard := _ }) rfl (fun K hK => ?_) AllReadyH.nil)
              · go_simp
                refine (nodeImage_any w w1.drew (w.heap.size + 1) r (D.out.drewN 1).2.2.2.1 D.out.2.1).mono ?_
                rintro e W1 ⟨g1, hp⟩
                rcases hp with ⟨hp, rfl⟩ | ⟨n, r', hp, rfl, hr1⟩
                · refine leaves_cons (f := 57) (args := #[]) (by simp) (by simp [go_sem]) ?_
                  refine (catchT_bad [] _).mono ?_
                  rintro e u' w3 ⟨rfl, rfl, b3⟩
                  obtain ⟨z0, z1, hF⟩ := HBAD.out hp _ _ g1 b3
                  simp [Leaves, settle, results, Tryd.results16, go_sem, z0, z1]
                  exact hF
                · rw [HRD.out] at hp; cases hp
            · go_simp
              refine (nodeImage_any w w1.drew (w.heap.size + 1) r (D.out.drewN 1).2.2.2.1 D.out.2.1).mono ?_
              rintro e W1 ⟨g1, hp⟩
              rcases hp with ⟨hp, rfl⟩ | ⟨n, r', hp, rfl, hr1⟩
              · refine leaves_cons (f := 57) (args := #[]) (by simp) (by simp [go_sem]) ?_
                refine (catchT_bad [] _).mono ?_
                rintro e u' w3 ⟨rfl, rfl, b3⟩
                obtain ⟨z0, z1, hF⟩ := HBAD.out hp _ _ g1 b3
                simp [Leaves, settle, results, Tryd.results16, go_sem, z0, z1]
                exact hF
              · rw [HRD.out] at hp; cases hp
        · go_simp
          refine hK.out _ _ trivial (fun hx9 => ?_)
          clear hK K hx9
          try simp only [Act.put, List.setIfInBounds_toArray, List.set_cons_zero, List.set_cons_succ]
          refine wpAnyH_ready (rs := [0, 3]) (by kernel_rfl) (by simp) ?_
          refine (AllReadyH.cons (o := { dst := some 11, op := _, type := _, pos := _, after := _, guard := _ }) rfl (fun K hK => ?_) (AllReadyH.cons (o := { dst := some 14, op := _, type := _, pos := _, after := _, guard := _ }) rfl (fun K hK => ?_) AllReadyH.nil))
          · go_simp
            refine hK.out _ _ trivial (fun hx9 => ?_)
            clear hK K hx9
            try simp only [Act.put, List.setIfInBounds_toArray, List.set_cons_zero, List.set_cons_succ]
            refine wpAnyH_ready (rs := [1, 3]) (by kernel_rfl) (by simp) ?_
            refine (AllReadyH.cons (o := { dst := some 12, op := _, type := _, pos := _, after := _, guard := _ }) rfl (fun K hK => ?_) (AllReadyH.cons (o := { dst := some 14, op := _, type := _, pos := _, after := _, guard := _ }) rfl (fun K hK => ?_) AllReadyH.nil))
            · go_simp
              refine hK.out _ _ trivial (fun hx9 => ?_)
              clear hK K hx9
              try simp only [Act.put, List.setIfInBounds_toArray, List.set_cons_zero, List.set_cons_succ]
              refine wpAnyH_ready (rs := [3]) (by kernel_rfl) (by simp) ?_
              refine (AllReadyH.cons (o := { dst := some 14, op := _, type := _, pos := _, after := _, guard := _ }) rfl (fun K hK => ?_) AllReadyH.nil)
              · go_simp
                refine (nodeImage_any w w1.drew (w.heap.size + 1) r (D.out.drewN 1).2.2.2.1 D.out.2.1).mono ?_
                rintro e W1 ⟨g1, hp⟩
                rcases hp with ⟨hp, rfl⟩ | ⟨n, r', hp, rfl, hr1⟩
                · refine leaves_cons (f := 57) (args := #[]) (by simp) (by simp [go_sem]) ?_
                  refine (catchT_bad [] _).mono ?_
                  rintro e u' w3 ⟨rfl, rfl, b3⟩
                  obtain ⟨z0, z1, hF⟩ := HBAD.out hp _ _ g1 b3
                  simp [Leaves, settle, results, Tryd.results16, go_sem, z0, z1]
                  exact hF
                · rw [HRD.out] at hp; cases hp
            · go_simp
              refine (nodeImage_any w w1.drew (w.heap.size + 1) r (D.out.drewN 1).2.2.2.1 D.out.2.1).mono ?_
              rintro e W1 ⟨g1, hp⟩
              rcases hp with ⟨hp, rfl⟩ | ⟨n, r', hp, rfl, hr1⟩
              · refine leaves_cons (f := 57) (args := #[]) (by simp) (by simp [go_sem]) ?_
                refine (catchT_bad [] _).mono ?_
                rintro e u' w3 ⟨rfl, rfl, b3⟩
                obtain ⟨z0, z1, hF⟩ := HBAD.out hp _ _ g1 b3
                simp [Leaves, settle, results, Tryd.results16, go_sem, z0, z1]
                exact hF
              · rw [HRD.out] at hp; cases hp
          · go_simp
            refine (nodeImage_any w w1.drew (w.heap.size + 1) r (D.out.drewN 1).2.2.2.1 D.out.2.1).mono ?_
            rintro e W1 ⟨g1, hp⟩
            rcases hp with ⟨hp, rfl⟩ | ⟨n, r', hp, rfl, hr1⟩
            · refine leaves_cons (f := 57) (args := #[]) (by simp) (by simp [go_sem]) ?_
              refine (catchT_bad [] _).mono ?_
              rintro e u' w3 ⟨rfl, rfl, b3⟩
              obtain ⟨z0, z1, hF⟩ := HBAD.out hp _ _ g1 b3
              simp [Leaves, settle, results, Tryd.results16, go_sem, z0, z1]
              exact hF
            · rw [HRD.out] at hp; cases hp
      | some q =>
        obtain ⟨n0, r0⟩ := q
        have HRD : Hid (rdNd r = some (n0, r0)) := hrd
        clear hrd
        go_wp2
        refine wp_region_noPanic ?_
        refine wp_region_held_drew (S := fun _ => True) (by kernel_rfl) (trivial) (fun hHeld => ?_)
        refine wpAnyH_take (i := 0) (oi := { dst := some 11, op := _, type := _, pos := _, after := _, guard := _ }) (v := (.pointer (some ⟨w.heap.size + 1 + 1, 0, none⟩))) rfl (by kernel_rfl) (by kernel_rfl) (by kernel_rfl) (fun _ _ _ h => h) (Or.inl ⟨by rfl, ?hy1⟩) (by assumption) ?rest1
        case hy1 =>
          intro w9 hS9
          go_simp
          try with_reducible rfl
        try simp only [Act.put, List.setIfInBounds_toArray, List.set_cons_zero, List.set_cons_succ]
        refine wpAnyH_take (i := 2) (oi := { dst := some 13, op := _, type := _, pos := _, after := _, guard := _ }) (v := (.pointer (some ⟨w.heap.size + 1, 0, none⟩))) rfl (by kernel_rfl) (by kernel_rfl) (by kernel_rfl) (fun _ _ _ h => h) (Or.inl ⟨by rfl, ?hy2⟩) (by assumption) ?rest2
        case hy2 =>
          intro w9 hS9
          go_simp
          try with_reducible rfl
        try simp only [Act.put, List.setIfInBounds_toArray, List.set_cons_zero, List.set_cons_succ]
        refine wpAnyH_ready (rs := [1, 3]) (by kernel_rfl) (by simp) ?_
        refine AllReadyH.cons (o := { dst := some 12, op := _, type := _, pos := _, after := _, guard := _ }) rfl (fun K hK => ?_) (AllReadyH.cons (o := { dst := some 14, op := _, type := _, pos := _, after := _, guard := _ }) rfl (fun K hK => ?_) AllReadyH.nil)
        · go_simp
          refine hK.out _ _ trivial (fun hx9 => ?_)
          clear hK K hx9
          try simp only [Act.put, List.setIfInBounds_toArray, List.set_cons_zero, List.set_cons_succ]
          refine wpAnyH_ready (rs := [3]) (by kernel_rfl) (by simp) ?_
          refine AllReadyH.cons (o := { dst := some 14, op := _, type := _, pos := _, after := _, guard := _ }) rfl (fun K hK => ?_) AllReadyH.nil
          go_simp
          refine (nodeImage_any w w1.drew (w.heap.size + 1) r (D.out.drewN 1).2.2.2.1 D.out.2.1).mono ?_
          rintro e W1 ⟨g1, hp⟩
          rcases hp with ⟨hp, rfl⟩ | ⟨n, r', hp, rfl, hr1⟩
          · rw [HRD.out] at hp; cases hp
          have T1 : Hid (TR w ys W1 (.slice va ns.length vc) ns n r') := (D.out.drewN 1).read g1 hp hr1
          have HLT : Hid (r'.length < r.length) := (rdNd_byt hp D.out.2.1).2.1
          have c1 := T1.out.2.2.2.2.2.1.2.1
          clear g1 hp hr1
          refine hK.out _ _ trivial (fun hx9 => ?_)
          clear hK K hx9
          try simp only [Act.put, List.setIfInBounds_toArray, List.set_cons_zero, List.set_cons_succ]
          refine wpAnyH_take (i := 4) (oi := { dst := some 15, op := _, type := _, pos := _, after := _, guard := _ }) (v := (ndV n)) rfl (by kernel_rfl) (by kernel_rfl) (by kernel_rfl) (fun _ _ _ h => h) (Or.inl ⟨by rfl, ?hy3⟩) (by assumption) ?rest3
          case hy3 =>
            intro w9 hS9
            unfold ndV
            have hfd := field_node n w9
            go_simp
          try simp only [Act.put, List.setIfInBounds_toArray, List.set_cons_zero, List.set_cons_succ]
          refine wpAnyH_ready (rs := [5]) (by kernel_rfl) (by simp) ?_
          refine AllReadyH.cons (o := { dst := some 16, op := _, type := _, pos := _, after := _, guard := _ }) rfl (fun K hK => ?_) AllReadyH.nil
          unfold ndV
          go_simp
          have T2 : Hid (TR w ys (W1.alloc (.cells #[.string n.path, .string n.data, .int .i64 n.ver, .int .i64 n.cver, .int .i64 n.cz, .int .i64 n.mz, .int .i64 n.pz] 84)) (.slice va ns.length vc) ns n r') := T1.out.alloc _
          have NC : Hid (∀ j u, (ndL n)[j]? = some u → (W1.alloc (.cells #[.string n.path, .string n.data, .int .i64 n.ver, .int .i64 n.cver, .int .i64 n.cz, .int .i64 n.mz, .int .i64 n.pz] 84)).cell? ((⟨W1.heap.size, 0, none⟩ : Addr).add j) = some u) := ndL_cells _ _ _
          refine hK.out _ _ trivial (fun hx9 => ?_)
          clear hK K hx9 c1
          generalize W1.alloc (.cells #[.string n.path, .string n.data, .int .i64 n.ver, .int .i64 n.cver, .int .i64 n.cz, .int .i64 n.mz, .int .i64 n.pz] 84) = W2 at *
          generalize W1.heap.size = G1 at *
          have c1 := T2.out.2.2.2.2.2.1.2.1
          try simp only [Act.put, List.setIfInBounds_toArray, List.set_cons_zero, List.set_cons_succ]
          refine wpAnyH_ready (rs := [6]) (by kernel_rfl) (by simp) ?_
          refine AllReadyH.cons (o := { dst := some 17, op := _, type := _, pos := _, after := _, guard := _ }) rfl (fun K hK => ?_) AllReadyH.nil
          refine step_append rfl (.tmp 12) (.tmp 16) 34 rfl (w.heap.size + 3) 84 i0 (.agg #[.string ByteArray.empty, .string ByteArray.empty, .int .i64 0, .int .i64 0, .int .i64 0, .int .i64 0, .int .i64 0]) 7 72 Tryd.underlying34 hi hz0 hz1 hz2 rfl (by decide) (.slice va ns.length vc) ns.length _ rfl T2.out.2.2.2.2.2.2 ⟨G1, 0, none⟩ 1 1 (ndL n) rfl rfl NC.out (ndL_one n) (by unfold maxLen; omega) (by omega) (by have := T2.out.2.2.2.2.2.1.1; omega) ?_
          intro v3 W3 ho3 hg3
          have D3 : Hid (TS w ys (W3.setCell ⟨w.heap.size + 1 + 1, 0, none⟩ v3) v3 (ns ++ [n]) r') := T2.out.push hg3 ho3
          obtain ⟨a3, q3, hv3⟩ := D3.out.2.2.2.2.2.2.slice
          rw [show (ns ++ [n]).length = ns.length + 1 by simp] at hv3
          subst hv3
          obtain ⟨-, c3, f3⟩ := T2.out.2.2.2.2.2.1.turn hg3 (fun e => by have := (World.ownsRow.lt T2.out.2.2.2.2.2.2 _ e.symm).1; omega)
          clear ho3 hg3
          refine hK.out _ _ trivial (fun hx9 => ?_)
          clear hK K hx9
          try simp only [Act.put, List.setIfInBounds_toArray, List.set_cons_zero, List.set_cons_succ]
          refine wpAnyH_take (i := 7) (oi := { dst := some 18, op := _, type := _, pos := _, after := _, guard := _ }) (v := (.pointer (some ⟨w.heap.size + 1 + 1, 0, none⟩))) rfl (by kernel_rfl) (by kernel_rfl) (by kernel_rfl) (fun _ _ _ h => h) (Or.inl ⟨by rfl, ?hy4⟩) (by assumption) ?rest4
          case hy4 =>
            intro w9 hS9
            go_simp
            try with_reducible rfl
          try simp only [Act.put, List.setIfInBounds_toArray, List.set_cons_zero, List.set_cons_succ]
          refine wpAnyH_ready (rs := [8]) (by kernel_rfl) (by simp) ?_
          refine AllReadyH.cons (o := { dst := none, op := _, type := _, pos := _, after := _, guard := _ }) rfl (fun K hK => ?_) AllReadyH.nil
          go_simp
          refine hK.out _ _ trivial (fun hx9 => ?_)
          clear hK K hx9
          try simp only [Act.put, List.setIfInBounds_toArray, List.set_cons_zero, List.set_cons_succ]
          refine wpAnyH_done (by kernel_rfl) (NoPanic.normal ?_) _
          clear c0 c1 c3 f3 hHeld
          go_wp2
          refine ⟨⟨_, _, _, D3⟩, ?_⟩
          rw [D3.out.2.2.2.1.lenAt, D.out.2.2.2.1.lenAt]
          exact HLT.out
        · go_simp
          refine (nodeImage_any w w1.drew (w.heap.size + 1) r (D.out.drewN 1).2.2.2.1 D.out.2.1).mono ?_
          rintro e W1 ⟨g1, hp⟩
          rcases hp with ⟨hp, rfl⟩ | ⟨n, r', hp, rfl, hr1⟩
          · rw [HRD.out] at hp; cases hp
          have T1 : Hid (TR w ys W1 (.slice va ns.length vc) ns n r') := (D.out.drewN 1).read g1 hp hr1
          have HLT : Hid (r'.length < r.length) := (rdNd_byt hp D.out.2.1).2.1
          have c1 := T1.out.2.2.2.2.2.1.2.1
          clear g1 hp hr1
          refine hK.out _ _ trivial (fun hx9 => ?_)
          clear hK K hx9
          try simp only [Act.put, List.setIfInBounds_toArray, List.set_cons_zero, List.set_cons_succ]
          refine wpAnyH_take (i := 4) (oi := { dst := some 15, op := _, type := _, pos := _, after := _, guard := _ }) (v := (ndV n)) rfl (by kernel_rfl) (by kernel_rfl) (by kernel_rfl) (fun _ _ _ h => h) (Or.inl ⟨by rfl, ?hy5⟩) (by assumption) ?rest5
          case hy5 =>
            intro w9 hS9
            unfold ndV
            have hfd := field_node n w9
            go_simp
          try simp only [Act.put, List.setIfInBounds_toArray, List.set_cons_zero, List.set_cons_succ]
          refine wpAnyH_ready (rs := [1, 5]) (by kernel_rfl) (by simp) ?_
          refine AllReadyH.cons (o := { dst := some 12, op := _, type := _, pos := _, after := _, guard := _ }) rfl (fun K hK => ?_) (AllReadyH.cons (o := { dst := some 16, op := _, type := _, pos := _, after := _, guard := _ }) rfl (fun K hK => ?_) AllReadyH.nil)
          · go_simp
            refine hK.out _ _ trivial (fun hx9 => ?_)
            clear hK K hx9
            try simp only [Act.put, List.setIfInBounds_toArray, List.set_cons_zero, List.set_cons_succ]
            refine wpAnyH_ready (rs := [5]) (by kernel_rfl) (by simp) ?_
            refine AllReadyH.cons (o := { dst := some 16, op := _, type := _, pos := _, after := _, guard := _ }) rfl (fun K hK => ?_) AllReadyH.nil
            unfold ndV
            go_simp
            have T2 : Hid (TR w ys (W1.alloc (.cells #[.string n.path, .string n.data, .int .i64 n.ver, .int .i64 n.cver, .int .i64 n.cz, .int .i64 n.mz, .int .i64 n.pz] 84)) (.slice va ns.length vc) ns n r') := T1.out.alloc _
            have NC : Hid (∀ j u, (ndL n)[j]? = some u → (W1.alloc (.cells #[.string n.path, .string n.data, .int .i64 n.ver, .int .i64 n.cver, .int .i64 n.cz, .int .i64 n.mz, .int .i64 n.pz] 84)).cell? ((⟨W1.heap.size, 0, none⟩ : Addr).add j) = some u) := ndL_cells _ _ _
            refine hK.out _ _ trivial (fun hx9 => ?_)
            clear hK K hx9 c1
            generalize W1.alloc (.cells #[.string n.path, .string n.data, .int .i64 n.ver, .int .i64 n.cver, .int .i64 n.cz, .int .i64 n.mz, .int .i64 n.pz] 84) = W2 at *
            generalize W1.heap.size = G1 at *
            have c1 := T2.out.2.2.2.2.2.1.2.1
            try simp only [Act.put, List.setIfInBounds_toArray, List.set_cons_zero, List.set_cons_succ]
            refine wpAnyH_ready (rs := [6]) (by kernel_rfl) (by simp) ?_
            refine AllReadyH.cons (o := { dst := some 17, op := _, type := _, pos := _, after := _, guard := _ }) rfl (fun K hK => ?_) AllReadyH.nil
            refine step_append rfl (.tmp 12) (.tmp 16) 34 rfl (w.heap.size + 3) 84 i0 (.agg #[.string ByteArray.empty, .string ByteArray.empty, .int .i64 0, .int .i64 0, .int .i64 0, .int .i64 0, .int .i64 0]) 7 72 Tryd.underlying34 hi hz0 hz1 hz2 rfl (by decide) (.slice va ns.length vc) ns.length _ rfl T2.out.2.2.2.2.2.2 ⟨G1, 0, none⟩ 1 1 (ndL n) rfl rfl NC.out (ndL_one n) (by unfold maxLen; omega) (by omega) (by have := T2.out.2.2.2.2.2.1.1; omega) ?_
            intro v3 W3 ho3 hg3
            have D3 : Hid (TS w ys (W3.setCell ⟨w.heap.size + 1 + 1, 0, none⟩ v3) v3 (ns ++ [n]) r') := T2.out.push hg3 ho3
            obtain ⟨a3, q3, hv3⟩ := D3.out.2.2.2.2.2.2.slice
            rw [show (ns ++ [n]).length = ns.length + 1 by simp] at hv3
            subst hv3
            obtain ⟨-, c3, f3⟩ := T2.out.2.2.2.2.2.1.turn hg3 (fun e => by have := (World.ownsRow.lt T2.out.2.2.2.2.2.2 _ e.symm).1; omega)
            clear ho3 hg3
            refine hK.out _ _ trivial (fun hx9 => ?_)
            clear hK K hx9
            try simp only [Act.put, List.setIfInBounds_toArray, List.set_cons_zero, List.set_cons_succ]
            refine wpAnyH_take (i := 7) (oi := { dst := some 18, op := _, type := _, pos := _, after := _, guard := _ }) (v := (.pointer (some ⟨w.heap.size + 1 + 1, 0, none⟩))) rfl (by kernel_rfl) (by kernel_rfl) (by kernel_rfl) (fun _ _ _ h => h) (Or.inl ⟨by rfl, ?hy6⟩) (by assumption) ?rest6
            case hy6 =>
              intro w9 hS9
              go_simp
              try with_reducible rfl
            try simp only [Act.put, List.setIfInBounds_toArray, List.set_cons_zero, List.set_cons_succ]
            refine wpAnyH_ready (rs := [8]) (by kernel_rfl) (by simp) ?_
            refine AllReadyH.cons (o := { dst := none, op := _, type := _, pos := _, after := _, guard := _ }) rfl (fun K hK => ?_) AllReadyH.nil
            go_simp
            refine hK.out _ _ trivial (fun hx9 => ?_)
            clear hK K hx9
            try simp only [Act.put, List.setIfInBounds_toArray, List.set_cons_zero, List.set_cons_succ]
            refine wpAnyH_done (by kernel_rfl) (NoPanic.normal ?_) _
            clear c0 c1 c3 f3 hHeld
            go_wp2
            refine ⟨⟨_, _, _, D3⟩, ?_⟩
            rw [D3.out.2.2.2.1.lenAt, D.out.2.2.2.1.lenAt]
            exact HLT.out
          · unfold ndV
            go_simp
            have T2 : Hid (TR w ys (W1.alloc (.cells #[.string n.path, .string n.data, .int .i64 n.ver, .int .i64 n.cver, .int .i64 n.cz, .int .i64 n.mz, .int .i64 n.pz] 84)) (.slice va ns.length vc) ns n r') := T1.out.alloc _
            have NC : Hid (∀ j u, (ndL n)[j]? = some u → (W1.alloc (.cells #[.string n.path, .string n.data, .int .i64 n.ver, .int .i64 n.cver, .int .i64 n.cz, .int .i64 n.mz, .int .i64 n.pz] 84)).cell? ((⟨W1.heap.size, 0, none⟩ : Addr).add j) = some u) := ndL_cells _ _ _
            refine hK.out _ _ trivial (fun hx9 => ?_)
            clear hK K hx9 c1
            generalize W1.alloc (.cells #[.string n.path, .string n.data, .int .i64 n.ver, .int .i64 n.cver, .int .i64 n.cz, .int .i64 n.mz, .int .i64 n.pz] 84) = W2 at *
            generalize W1.heap.size = G1 at *
            have c1 := T2.out.2.2.2.2.2.1.2.1
            try simp only [Act.put, List.setIfInBounds_toArray, List.set_cons_zero, List.set_cons_succ]
            refine wpAnyH_ready (rs := [1]) (by kernel_rfl) (by simp) ?_
            refine AllReadyH.cons (o := { dst := some 12, op := _, type := _, pos := _, after := _, guard := _ }) rfl (fun K hK => ?_) AllReadyH.nil
            go_simp
            refine hK.out _ _ trivial (fun hx9 => ?_)
            clear hK K hx9
            try simp only [Act.put, List.setIfInBounds_toArray, List.set_cons_zero, List.set_cons_succ]
            refine wpAnyH_ready (rs := [6]) (by kernel_rfl) (by simp) ?_
            refine AllReadyH.cons (o := { dst := some 17, op := _, type := _, pos := _, after := _, guard := _ }) rfl (fun K hK => ?_) AllReadyH.nil
            refine step_append rfl (.tmp 12) (.tmp 16) 34 rfl (w.heap.size + 3) 84 i0 (.agg #[.string ByteArray.empty, .string ByteArray.empty, .int .i64 0, .int .i64 0, .int .i64 0, .int .i64 0, .int .i64 0]) 7 72 Tryd.underlying34 hi hz0 hz1 hz2 rfl (by decide) (.slice va ns.length vc) ns.length _ rfl T2.out.2.2.2.2.2.2 ⟨G1, 0, none⟩ 1 1 (ndL n) rfl rfl NC.out (ndL_one n) (by unfold maxLen; omega) (by omega) (by have := T2.out.2.2.2.2.2.1.1; omega) ?_
            intro v3 W3 ho3 hg3
            have D3 : Hid (TS w ys (W3.setCell ⟨w.heap.size + 1 + 1, 0, none⟩ v3) v3 (ns ++ [n]) r') := T2.out.push hg3 ho3
            obtain ⟨a3, q3, hv3⟩ := D3.out.2.2.2.2.2.2.slice
            rw [show (ns ++ [n]).length = ns.length + 1 by simp] at hv3
            subst hv3
            obtain ⟨-, c3, f3⟩ := T2.out.2.2.2.2.2.1.turn hg3 (fun e => by have := (World.ownsRow.lt T2.out.2.2.2.2.2.2 _ e.symm).1; omega)
            clear ho3 hg3
            refine hK.out _ _ trivial (fun hx9 => ?_)
            clear hK K hx9
            try simp only [Act.put, List.setIfInBounds_toArray, List.set_cons_zero, List.set_cons_succ]
            refine wpAnyH_take (i := 7) (oi := { dst := some 18, op := _, type := _, pos := _, after := _, guard := _ }) (v := (.pointer (some ⟨w.heap.size + 1 + 1, 0, none⟩))) rfl (by kernel_rfl) (by kernel_rfl) (by kernel_rfl) (fun _ _ _ h => h) (Or.inl ⟨by rfl, ?hy7⟩) (by assumption) ?rest7
            case hy7 =>
              intro w9 hS9
              go_simp
              try with_reducible rfl
            try simp only [Act.put, List.setIfInBounds_toArray, List.set_cons_zero, List.set_cons_succ]
            refine wpAnyH_ready (rs := [8]) (by kernel_rfl) (by simp) ?_
            refine AllReadyH.cons (o := { dst := none, op := _, type := _, pos := _, after := _, guard := _ }) rfl (fun K hK => ?_) AllReadyH.nil
            go_simp
            refine hK.out _ _ trivial (fun hx9 => ?_)
            clear hK K hx9
            try simp only [Act.put, List.setIfInBounds_toArray, List.set_cons_zero, List.set_cons_succ]
            refine wpAnyH_done (by kernel_rfl) (NoPanic.normal ?_) _
            clear c0 c1 c3 f3 hHeld
            go_wp2
            refine ⟨⟨_, _, _, D3⟩, ?_⟩
            rw [D3.out.2.2.2.1.lenAt, D.out.2.2.2.1.lenAt]
            exact HLT.out

end Go.Proofs.YtcopcegamadkgaaDoor

namespace Go.Proofs.YtcopcegamadkgaaDoor
open Go.RowKit Go.Shelf

/-- The nodes without a path. -/
def woN (ns : List Nd) (p : ByteArray) : List Nd := ns.filter fun n => !(n.path.toList == p.toList)
theorem woN_yes (ns : List Nd) (p : ByteArray) (k : Nat) (h : k < ns.length) (hc : ((nAt ns k).path.toList == p.toList) = true) : woN (ns.take (k + 1)) p = woN (ns.take k) p := by
  unfold woN
  rw [List.take_succ_eq_append_getElem h, List.filter_append, ← nAt_get h]
  simp [hc]
theorem woN_no (ns : List Nd) (p : ByteArray) (k : Nat) (h : k < ns.length) (hc : ((nAt ns k).path.toList == p.toList) = false) : woN (ns.take (k + 1)) p = woN (ns.take k) p ++ [nAt ns k] := by
  unfold woN
  rw [List.take_succ_eq_append_getElem h, List.filter_append, ← nAt_get h]
  simp [hc]
theorem woN_len (ns : List Nd) (p : ByteArray) : (woN ns p).length ≤ ns.length := List.length_filter_le _ _

set_option maxHeartbeats 1000000 in
set_option maxRecDepth 100000 in
theorem without_any (w : World) (v : Value) (ns : List Nd) (p : ByteArray) (h : RdN w v ns) (hn : ns.length ≤ 1000000) :
    Calls Tryd.prog 67 #[v, .string p] w fun e w' => ∃ v', e = .returned v' ∧ OwnN 84 w' w.heap.size v' (woN ns p) ∧ Below w.heap.size w w' := by
  obtain ⟨i0, hi, hz0, hz1, hz2⟩ := info_parts Tryd.infoN
  obtain ⟨ao, ca, rfl, _, _⟩ := h.len
  have HR : Hid (RdN w (.slice ao ns.length ca) ns) := h
  have O0 : Hid (OwnN 84 (w.alloc (.cells #[] 84)) w.heap.size (.slice (some ⟨w.heap.size, 0, none⟩) 0 0) (woN (ns.take 0) p)) := World.ownsRow_lit w #[] 0 (Nat.le_refl _) (Nat.zero_le _) rfl
  have B0 : Hid (Below w.heap.size w (w.alloc (.cells #[] 84))) := (Below.refl _ _).alloc (Nat.le_refl _) _
  generalize hnn : ns.length = n at *
  have HP : Hid (ns.length = n) := hnn
  clear h hnn
  go_enter Tryd.func67, Tryd.ntmps67
  go_wp2
  go_loopw [5, 6] (fun vo vk wr => ∃ k : Nat, k ≤ n ∧ vk = .int .i64 k ∧ Hid (OwnN 84 wr w.heap.size vo (woN (ns.take k) p)) ∧ Hid (Below w.heap.size w wr)) (fun _ i _ => n - (intOf i).toNat)
  case atStart => exact ⟨0, Nat.zero_le _, rfl, O0, B0⟩
  case round =>
    obtain ⟨k, hk, rfl, HW, HB⟩ := hrel
    have sB := HB.out.size
    by_cases hlt : k < n
    · have hltI : (k : Int) < (n : Int) := by omega
      obtain ⟨b, o, hao, hb, hc⟩ : ∃ b o, ao = some ⟨b, o, none⟩ ∧ b < w.heap.size ∧ CellsN w b (o + k * 7) (nAt ns k) := by
        obtain ⟨ao', cap', e', -, -, h3⟩ := HR.out
        simp only [Value.slice.injEq] at e'
        obtain ⟨rfl, -, -⟩ := e'
        rcases h3 with h3 | ⟨b, o, rfl, hb, hc⟩
        · have := HP.out; rw [h3] at this; simp at this; omega
        · exact ⟨b, o, rfl, hb, hc k (by rw [HP.out]; exact hlt)⟩
      subst hao
      obtain ⟨c0, c1, c2, c3, c4, c5, c6⟩ := hc.below HB.out hb
      clear hc
      have hll : (woN (ns.take k) p).length ≤ 1000000 := by
        have := woN_len (ns.take k) p
        rw [List.length_take] at this
        omega
      cases hA : ((nAt ns k).path.toList == p.toList) with
      | true =>
        have HS : Hid (woN (ns.take (k + 1)) p = woN (ns.take k) p) := woN_yes ns p k (by rw [HP.out]; exact hlt) hA
        go_wp2
        exact ⟨⟨k + 1, by omega, by go_num, (by rw [HS.out]; exact HW), HB⟩, by simp [intOf]; omega⟩
      | false =>
        have HS : Hid (woN (ns.take (k + 1)) p = woN (ns.take k) p ++ [nAt ns k]) := woN_no ns p k (by rw [HP.out]; exact hlt) hA
        generalize woN (ns.take k) p = Lk at *
        generalize nAt ns k = m at *
        have OR : Hid (wr.ownsRow w.heap.size 84 7 u5 Lk.length (nrow Lk)) := HW.out
        go_wp2_with (at_builtin; go_must (refine wpList_append_own _ rfl _ _ 34 rfl w.heap.size 84 i0 (.agg #[.string ByteArray.empty, .string ByteArray.empty, .int .i64 0, .int .i64 0, .int .i64 0, .int .i64 0, .int .i64 0]) 7 72 Tryd.underlying34 hi hz0 hz1 hz2 rfl (by decide) _ _ _ rfl (OR.out.alloc _) ⟨wr.heap.size, 0, none⟩ 1 1 (ndL m) rfl rfl (ndL_cells wr m _) (ndL_one m) ?_ ?_ ?_ ?_))
        · unfold maxLen; omega
        · omega
        · simp; omega
        intro v5 w5 ho5 hg5 _
        have O5 : Hid (OwnN 84 w5 w.heap.size v5 (woN (ns.take (k + 1)) p)) := by
          rw [HS.out]
          unfold OwnN
          rw [List.length_append, nrow_one]
          exact ho5
        have B5 : Hid (Below w.heap.size w w5) := (HB.out.alloc sB _).grown hg5 (by simp; omega) (fun q hq => (World.ownsRow.lt OR.out q hq).1)
        clear ho5 hg5 OR HW HB HS c0 c1 c2 c3 c4 c5 c6
        go_wp2
        exact ⟨⟨k + 1, by omega, by go_num, O5, B5⟩, by simp [intOf]; omega⟩
    · have hkn : k = n := by omega
      subst hkn
      go_wp2
      go_ret
      refine ⟨_, rfl, ?_, HB.out⟩
      have := HW.out
      rw [List.take_of_length_le (by rw [HP.out]; exact Nat.le_refl _)] at this
      exact this

end Go.Proofs.YtcopcegamadkgaaDoor

namespace Go.Proofs.YtcopcegamadkgaaDoor
open Go.RowKit Go.Shelf

/-- A node put in its place, step by step. -/
def stW (n : Nd) (st : List Nd × Bool) (m : Nd) : List Nd × Bool :=
  let o := if !st.2 && !(Op.bytesLess m.path.toList n.path.toList) then (st.1 ++ [n], true) else st
  if m.path.toList == n.path.toList then o else (o.1 ++ [m], o.2)
def wiF (ns : List Nd) (n : Nd) : List Nd × Bool := ns.foldl (stW n) ([], false)
def wiN (ns : List Nd) (n : Nd) : List Nd := if (wiF ns n).2 then (wiF ns n).1 else (wiF ns n).1 ++ [n]
theorem wiF_succ (ns : List Nd) (n : Nd) (k : Nat) (h : k < ns.length) : wiF (ns.take (k + 1)) n = stW n (wiF (ns.take k) n) (nAt ns k) := by
  unfold wiF
  rw [List.take_succ_eq_append_getElem h, List.foldl_append, nAt_get h]
  rfl
theorem stW_len (n : Nd) (st : List Nd × Bool) (m : Nd) : (stW n st m).1.length ≤ st.1.length + 2 := by
  unfold stW
  simp only
  split <;> split <;> simp <;> omega
theorem wiF_len : ∀ (ns : List Nd) (n : Nd) (k : Nat), (wiF (ns.take k) n).1.length ≤ 2 * k
  | ns, n, 0 => by simp [wiF]
  | ns, n, k + 1 => by
    have h1 := wiF_len ns n k
    by_cases h : k < ns.length
    · rw [wiF_succ ns n k h]
      have := stW_len n (wiF (ns.take k) n) (nAt ns k)
      omega
    · rw [List.take_of_length_le (by omega)] at h1 ⊢
      omega

theorem BoxN.belowW {w w' : World} {B : Nat} {n : Nd} (h : BoxN w B n) (hb : Below (B + 1) w w') : BoxN w' B n :=
  ⟨Nat.lt_of_lt_of_le h.lt hb.size, (hb.cell (p := ⟨B, _, none⟩) (Nat.lt_succ_self _)).trans h.c0, (hb.cell (p := ⟨B, _, none⟩) (Nat.lt_succ_self _)).trans h.c1, (hb.cell (p := ⟨B, _, none⟩) (Nat.lt_succ_self _)).trans h.c2, (hb.cell (p := ⟨B, _, none⟩) (Nat.lt_succ_self _)).trans h.c3, (hb.cell (p := ⟨B, _, none⟩) (Nat.lt_succ_self _)).trans h.c4, (hb.cell (p := ⟨B, _, none⟩) (Nat.lt_succ_self _)).trans h.c5, (hb.cell (p := ⟨B, _, none⟩) (Nat.lt_succ_self _)).trans h.c6⟩

set_option maxHeartbeats 4000000 in
set_option maxRecDepth 100000 in
theorem with_any (w : World) (v : Value) (ns : List Nd) (n : Nd) (h : RdN w v ns) (hn : ns.length ≤ 100000) :
    Calls Tryd.prog 109 #[v, .agg #[.string n.path, .string n.data, .int .i64 n.ver, .int .i64 n.cver, .int .i64 n.cz, .int .i64 n.mz, .int .i64 n.pz]] w fun e w' => ∃ v', e = .returned v' ∧ OwnN 84 w' w.heap.size v' (wiN ns n) ∧ Below w.heap.size w w' := by
  obtain ⟨i0, hi, hz0, hz1, hz2⟩ := info_parts Tryd.infoN
  obtain ⟨ao, ca, rfl, _, _⟩ := h.len
  have HR : Hid (RdN w (.slice ao ns.length ca) ns) := h
  have X0 : Hid (BoxN ((w.alloc (.cells #[.string n.path, .string n.data, .int .i64 n.ver, .int .i64 n.cver, .int .i64 n.cz, .int .i64 n.mz, .int .i64 n.pz] 84)).alloc (.cells #[] 84)) w.heap.size n) := (BoxN.new w n _).below ((Below.refl _ _).alloc (Nat.le_refl _) _)
  have B0 : Hid (Below w.heap.size w ((w.alloc (.cells #[.string n.path, .string n.data, .int .i64 n.ver, .int .i64 n.cver, .int .i64 n.cz, .int .i64 n.mz, .int .i64 n.pz] 84)).alloc (.cells #[] 84))) := ((Below.refl _ _).alloc (Nat.le_refl _) _).alloc (by simp) _
  have O0 : Hid (OwnN 84 ((w.alloc (.cells #[.string n.path, .string n.data, .int .i64 n.ver, .int .i64 n.cver, .int .i64 n.cz, .int .i64 n.mz, .int .i64 n.pz] 84)).alloc (.cells #[] 84)) (w.heap.size + 1) (.slice (some ⟨w.heap.size + 1, 0, none⟩) 0 0) (wiF (ns.take 0) n).1) := by
    have := World.ownsRow_lit (base := w.heap.size + 1) (e := 84) (size := 7) (w.alloc (.cells #[.string n.path, .string n.data, .int .i64 n.ver, .int .i64 n.cver, .int .i64 n.cz, .int .i64 n.mz, .int .i64 n.pz] 84)) #[] 0 (by simp) (Nat.zero_le _) rfl
    rw [show (w.alloc (.cells #[.string n.path, .string n.data, .int .i64 n.ver, .int .i64 n.cver, .int .i64 n.cz, .int .i64 n.mz, .int .i64 n.pz] 84)).heap.size = w.heap.size + 1 by simp] at this
    exact this
  generalize hnn : ns.length = N at *
  have HP : Hid (ns.length = N) := hnn
  clear h hnn
  go_enter Tryd.func109, Tryd.ntmps109
  go_wp2
  generalize (w.alloc (.cells #[.string n.path, .string n.data, .int .i64 n.ver, .int .i64 n.cver, .int .i64 n.cz, .int .i64 n.mz, .int .i64 n.pz] 84)).alloc (.cells #[] 84) = w0 at *
  have D0 : Hid (Below (w.heap.size + 1) w0 w0) := Below.refl _ _
  have s0 : w.heap.size + 1 ≤ w0.heap.size := X0.out.lt
  go_loopw [5, 6, 7] (fun vo vd vk wr => ∃ k : Nat, k ≤ N ∧ vk = .int .i64 k ∧ vd = .bool (wiF (ns.take k) n).2 ∧ Hid (OwnN 84 wr (w.heap.size + 1) vo (wiF (ns.take k) n).1) ∧ Hid (Below (w.heap.size + 1) w0 wr)) (fun _ _ i _ => N - (intOf i).toNat)
  case atStart => exact ⟨0, Nat.zero_le _, rfl, rfl, O0, D0⟩
  case round =>
    obtain ⟨k, hk, rfl, rfl, HW, HD⟩ := hrel
    have sD : w.heap.size + 1 ≤ wr.heap.size := Nat.le_trans s0 HD.out.size
    have hll := wiF_len ns n k
    by_cases hlt : k < N
    · have hltI : (k : Int) < (N : Int) := by omega
      obtain ⟨b, o, hao, hb, hc⟩ : ∃ b o, ao = some ⟨b, o, none⟩ ∧ b < w.heap.size ∧ CellsN w b (o + k * 7) (nAt ns k) := by
        obtain ⟨ao', cap', e', -, -, h3⟩ := HR.out
        simp only [Value.slice.injEq] at e'
        obtain ⟨rfl, -, -⟩ := e'
        rcases h3 with h3 | ⟨b, o, rfl, hb, hc⟩
        · have := HP.out; rw [h3] at this; simp at this; omega
        · exact ⟨b, o, rfl, hb, hc k (by rw [HP.out]; exact hlt)⟩
      subst hao
      have HCk : Hid (CellsN w0 b (o + k * 7) (nAt ns k)) := hc.below B0.out hb
      have hb1 : b < w.heap.size + 1 := Nat.lt_succ_of_lt hb
      clear hc
      have HST : Hid (wiF (ns.take (k + 1)) n = stW n (wiF (ns.take k) n) (nAt ns k)) := wiF_succ ns n k (by rw [HP.out]; exact hlt)
      generalize hst : wiF (ns.take k) n = st at *
      clear hst
      generalize hm : nAt ns k = m at *
      clear hm
      obtain ⟨st1, st2⟩ := st
      simp only at hll HW
      cases st2 with
      | true =>
        go_wp2
        refine wp_region_held_drew (S := fun W => W.cell? ⟨b, o + k * 7, none⟩ = some (.string m.path) ∧ W.cell? ⟨w.heap.size, 0, none⟩ = some (.string n.path)) (by kernel_rfl) (⟨(HCk.out.below (HD.out.trans ((below_drewN' _ 1).mono (Nat.le_trans s0 HD.out.size))) hb1).c0, (X0.out.belowW (HD.out.trans ((below_drewN' _ 1).mono (Nat.le_trans s0 HD.out.size)))).c0⟩) (fun hHeld => ?_)
        refine wpAnyH_take (i := 0) (oi := { dst := some 15, op := _, type := _, pos := _, after := _, guard := _ }) (v := (.bool true)) rfl (by kernel_rfl) (by kernel_rfl) (by kernel_rfl) (fun _ _ _ h => h) (Or.inl ⟨by rfl, ?hy1⟩) (by assumption) ?rest1
        case hy1 =>
          intro w9 hS9
          obtain ⟨y0, y1⟩ := hS9
          go_simp
          try with_reducible rfl
        try simp only [Act.put, List.setIfInBounds_toArray, List.set_cons_zero, List.set_cons_succ]
        refine wpAnyH_take (i := 1) (oi := { dst := some 16, op := _, type := _, pos := _, after := _, guard := _ }) (v := (.bool false)) rfl (by kernel_rfl) (by kernel_rfl) (by kernel_rfl) (fun _ _ _ h => h) (Or.inl ⟨by rfl, ?hy2⟩) (by assumption) ?rest2
        case hy2 =>
          intro w9 hS9
          obtain ⟨y0, y1⟩ := hS9
          go_simp
          try with_reducible rfl
        try simp only [Act.put, List.setIfInBounds_toArray, List.set_cons_zero, List.set_cons_succ]
        refine wpAnyH_take (i := 2) (oi := { dst := some 17, op := _, type := _, pos := _, after := _, guard := _ }) (v := (.bool false)) rfl (by kernel_rfl) (by kernel_rfl) (by kernel_rfl) (fun _ _ _ h => h) (Or.inl ⟨by rfl, ?hy3⟩) (by assumption) ?rest3
        case hy3 =>
          intro w9 hS9
          obtain ⟨y0, y1⟩ := hS9
          go_simp
          try with_reducible rfl
        try simp only [Act.put, List.setIfInBounds_toArray, List.set_cons_zero, List.set_cons_succ]
        refine wpAnyH_take (i := 3) (oi := { dst := some 18, op := _, type := _, pos := _, after := _, guard := _ }) (v := undef) rfl (by kernel_rfl) (by kernel_rfl) (by kernel_rfl) (fun _ _ _ h => h) (Or.inr ⟨by rfl, rfl⟩) (by assumption) ?_
        try simp only [Act.put, List.setIfInBounds_toArray, List.set_cons_zero, List.set_cons_succ]
        refine wpAnyH_take (i := 4) (oi := { dst := some 19, op := _, type := _, pos := _, after := _, guard := _ }) (v := undef) rfl (by kernel_rfl) (by kernel_rfl) (by kernel_rfl) (fun _ _ _ h => h) (Or.inr ⟨by rfl, rfl⟩) (by assumption) ?_
        try simp only [Act.put, List.setIfInBounds_toArray, List.set_cons_zero, List.set_cons_succ]
        refine wpAnyH_take (i := 5) (oi := { dst := some 20, op := _, type := _, pos := _, after := _, guard := _ }) (v := undef) rfl (by kernel_rfl) (by kernel_rfl) (by kernel_rfl) (fun _ _ _ h => h) (Or.inr ⟨by rfl, rfl⟩) (by assumption) ?_
        try simp only [Act.put, List.setIfInBounds_toArray, List.set_cons_zero, List.set_cons_succ]
        refine wpAnyH_take (i := 6) (oi := { dst := some 21, op := _, type := _, pos := _, after := _, guard := _ }) (v := undef) rfl (by kernel_rfl) (by kernel_rfl) (by kernel_rfl) (fun _ _ _ h => h) (Or.inr ⟨by rfl, rfl⟩) (by assumption) ?_
        try simp only [Act.put, List.setIfInBounds_toArray, List.set_cons_zero, List.set_cons_succ]
        refine wpAnyH_take (i := 7) (oi := { dst := some 22, op := _, type := _, pos := _, after := _, guard := _ }) (v := undef) rfl (by kernel_rfl) (by kernel_rfl) (by kernel_rfl) (fun _ _ _ h => h) (Or.inr ⟨by rfl, rfl⟩) (by assumption) ?_
        try simp only [Act.put, List.setIfInBounds_toArray, List.set_cons_zero, List.set_cons_succ]
        refine wpAnyH_take (i := 8) (oi := { dst := some 23, op := _, type := _, pos := _, after := _, guard := _ }) (v := undef) rfl (by kernel_rfl) (by kernel_rfl) (by kernel_rfl) (fun _ _ _ h => h) (Or.inr ⟨by rfl, rfl⟩) (by assumption) ?_
        try simp only [Act.put, List.setIfInBounds_toArray, List.set_cons_zero, List.set_cons_succ]
        refine wpAnyH_take (i := 9) (oi := { dst := some 24, op := _, type := _, pos := _, after := _, guard := _ }) (v := undef) rfl (by kernel_rfl) (by kernel_rfl) (by kernel_rfl) (fun _ _ _ h => h) (Or.inr ⟨by rfl, rfl⟩) (by assumption) ?_
        try simp only [Act.put, List.setIfInBounds_toArray, List.set_cons_zero, List.set_cons_succ]
        refine wpAnyH_take (i := 10) (oi := { dst := some 25, op := _, type := _, pos := _, after := _, guard := _ }) (v := undef) rfl (by kernel_rfl) (by kernel_rfl) (by kernel_rfl) (fun _ _ _ h => h) (Or.inr ⟨by rfl, rfl⟩) (by assumption) ?_
        try simp only [Act.put, List.setIfInBounds_toArray, List.set_cons_zero, List.set_cons_succ]
        refine wpAnyH_take (i := 11) (oi := { dst := some 26, op := _, type := _, pos := _, after := _, guard := _ }) (v := (.bool false)) rfl (by kernel_rfl) (by kernel_rfl) (by kernel_rfl) (fun _ _ _ h => h) (Or.inl ⟨by rfl, ?hy4⟩) (by assumption) ?rest4
        case hy4 =>
          intro w9 hS9
          obtain ⟨y0, y1⟩ := hS9
          go_simp
          try with_reducible rfl
        try simp only [Act.put, List.setIfInBounds_toArray, List.set_cons_zero, List.set_cons_succ]
        refine wpAnyH_done (by kernel_rfl) ?_ _
        clear hHeld
        have Dw1 : Hid (Below (w.heap.size + 1) w0 wr.drew) := HD.out.trans ((below_drewN' wr 1).mono (Nat.le_trans s0 HD.out.size))
        have Ow1 : Hid (OwnN 84 wr.drew (w.heap.size + 1) u5 st1) := HW.out
        generalize wr.drew = w1 at *
        cases heq : (m.path.toList == n.path.toList) with
        | true =>
          have HS : Hid (stW n (st1, true) m = (st1, true)) := by show _ = _; unfold stW; simp [heq]
          go_wp2
          refine wp_region_held_drew (S := fun W => W.cell? ⟨b, o + k * 7, none⟩ = some (.string m.path) ∧ W.cell? ⟨w.heap.size, 0, none⟩ = some (.string n.path)) (by kernel_rfl) (⟨(HCk.out.below (Dw1.out.trans ((below_drewN' _ 1).mono (Nat.le_trans s0 Dw1.out.size))) hb1).c0, (X0.out.belowW (Dw1.out.trans ((below_drewN' _ 1).mono (Nat.le_trans s0 Dw1.out.size)))).c0⟩) (fun hHeld => ?_)
          refine wpAnyH_take (i := 0) (oi := { dst := some 31, op := _, type := _, pos := _, after := _, guard := _ }) (v := (.slice (some ⟨b, o, none⟩) N ca)) rfl (by kernel_rfl) (by kernel_rfl) (by kernel_rfl) (fun _ _ _ h => h) (Or.inl ⟨by rfl, ?hy5⟩) (by assumption) ?rest5
          case hy5 =>
            intro w9 hS9
            obtain ⟨y0, y1⟩ := hS9
            go_simp
            try with_reducible rfl
          try simp only [Act.put, List.setIfInBounds_toArray, List.set_cons_zero, List.set_cons_succ]
          refine wpAnyH_take (i := 1) (oi := { dst := some 32, op := _, type := _, pos := _, after := _, guard := _ }) (v := (.int .i64 (k : Int))) rfl (by kernel_rfl) (by kernel_rfl) (by kernel_rfl) (fun _ _ _ h => h) (Or.inl ⟨by rfl, ?hy6⟩) (by assumption) ?rest6
          case hy6 =>
            intro w9 hS9
            obtain ⟨y0, y1⟩ := hS9
            go_simp
            try with_reducible rfl
          try simp only [Act.put, List.setIfInBounds_toArray, List.set_cons_zero, List.set_cons_succ]
          refine wpAnyH_take (i := 2) (oi := { dst := some 33, op := _, type := _, pos := _, after := _, guard := _ }) (v := (.pointer (some ⟨b, o + k * 7, none⟩))) rfl (by kernel_rfl) (by kernel_rfl) (by kernel_rfl) (fun _ _ _ h => h) (Or.inl ⟨by rfl, ?hy7⟩) (by assumption) ?rest7
          case hy7 =>
            intro w9 hS9
            obtain ⟨y0, y1⟩ := hS9
            go_simp
            try with_reducible rfl
          try simp only [Act.put, List.setIfInBounds_toArray, List.set_cons_zero, List.set_cons_succ]
          refine wpAnyH_take (i := 3) (oi := { dst := some 34, op := _, type := _, pos := _, after := _, guard := _ }) (v := (.pointer (some ⟨b, o + k * 7, none⟩))) rfl (by kernel_rfl) (by kernel_rfl) (by kernel_rfl) (fun _ _ _ h => h) (Or.inl ⟨by rfl, ?hy8⟩) (by assumption) ?rest8
          case hy8 =>
            intro w9 hS9
            obtain ⟨y0, y1⟩ := hS9
            go_simp
            try with_reducible rfl
          try simp only [Act.put, List.setIfInBounds_toArray, List.set_cons_zero, List.set_cons_succ]
          refine wpAnyH_take (i := 4) (oi := { dst := some 35, op := _, type := _, pos := _, after := _, guard := _ }) (v := (.string m.path)) rfl (by kernel_rfl) (by kernel_rfl) (by kernel_rfl) (fun _ _ _ h => h) (Or.inl ⟨by rfl, ?hy9⟩) (by assumption) ?rest9
          case hy9 =>
            intro w9 hS9
            obtain ⟨y0, y1⟩ := hS9
            go_simp
            try with_reducible rfl
          try simp only [Act.put, List.setIfInBounds_toArray, List.set_cons_zero, List.set_cons_succ]
          refine wpAnyH_take (i := 5) (oi := { dst := some 36, op := _, type := _, pos := _, after := _, guard := _ }) (v := (.pointer (some ⟨w.heap.size, 0, none⟩))) rfl (by kernel_rfl) (by kernel_rfl) (by kernel_rfl) (fun _ _ _ h => h) (Or.inl ⟨by rfl, ?hy10⟩) (by assumption) ?rest10
          case hy10 =>
            intro w9 hS9
            obtain ⟨y0, y1⟩ := hS9
            go_simp
            try with_reducible rfl
          try simp only [Act.put, List.setIfInBounds_toArray, List.set_cons_zero, List.set_cons_succ]
          refine wpAnyH_take (i := 6) (oi := { dst := some 37, op := _, type := _, pos := _, after := _, guard := _ }) (v := (.string n.path)) rfl (by kernel_rfl) (by kernel_rfl) (by kernel_rfl) (fun _ _ _ h => h) (Or.inl ⟨by rfl, ?hy11⟩) (by assumption) ?rest11
          case hy11 =>
            intro w9 hS9
            obtain ⟨y0, y1⟩ := hS9
            go_simp
            try with_reducible rfl
          try simp only [Act.put, List.setIfInBounds_toArray, List.set_cons_zero, List.set_cons_succ]
          refine wpAnyH_take (i := 7) (oi := { dst := some 38, op := _, type := _, pos := _, after := _, guard := _ }) (v := (.bool false)) rfl (by kernel_rfl) (by kernel_rfl) (by kernel_rfl) (fun _ _ _ h => h) (Or.inl ⟨by rfl, ?hy12⟩) (by assumption) ?rest12
          case hy12 =>
            intro w9 hS9
            obtain ⟨y0, y1⟩ := hS9
            go_simp
            try with_reducible rfl
          try simp only [Act.put, List.setIfInBounds_toArray, List.set_cons_zero, List.set_cons_succ]
          refine wpAnyH_done (by kernel_rfl) ?_ _
          clear hHeld
          have Dwz : Hid (Below (w.heap.size + 1) w0 w1.drew) := Dw1.out.trans ((below_drewN' w1 1).mono (Nat.le_trans s0 Dw1.out.size))
          have Owz : Hid (OwnN 84 w1.drew (w.heap.size + 1) u5 st1) := Ow1.out
          generalize w1.drew = wz at *
          go_wp2
          exact ⟨⟨k + 1, by omega, by go_num, (by rw [HST.out, HS.out]), (by rw [HST.out, HS.out]; exact Owz), Dwz⟩, by simp [intOf]; omega⟩
        | false =>
          have HS : Hid (stW n (st1, true) m = (st1 ++ [m], true)) := by show _ = _; unfold stW; simp [heq]
          go_wp2
          refine wp_region_held_drew (S := fun W => W.cell? ⟨b, o + k * 7, none⟩ = some (.string m.path) ∧ W.cell? ⟨w.heap.size, 0, none⟩ = some (.string n.path)) (by kernel_rfl) (⟨(HCk.out.below (Dw1.out.trans ((below_drewN' _ 1).mono (Nat.le_trans s0 Dw1.out.size))) hb1).c0, (X0.out.belowW (Dw1.out.trans ((below_drewN' _ 1).mono (Nat.le_trans s0 Dw1.out.size)))).c0⟩) (fun hHeld => ?_)
          refine wpAnyH_take (i := 0) (oi := { dst := some 31, op := _, type := _, pos := _, after := _, guard := _ }) (v := (.slice (some ⟨b, o, none⟩) N ca)) rfl (by kernel_rfl) (by kernel_rfl) (by kernel_rfl) (fun _ _ _ h => h) (Or.inl ⟨by rfl, ?hy13⟩) (by assumption) ?rest13
          case hy13 =>
            intro w9 hS9
            obtain ⟨y0, y1⟩ := hS9
            go_simp
            try with_reducible rfl
          try simp only [Act.put, List.setIfInBounds_toArray, List.set_cons_zero, List.set_cons_succ]
          refine wpAnyH_take (i := 1) (oi := { dst := some 32, op := _, type := _, pos := _, after := _, guard := _ }) (v := (.int .i64 (k : Int))) rfl (by kernel_rfl) (by kernel_rfl) (by kernel_rfl) (fun _ _ _ h => h) (Or.inl ⟨by rfl, ?hy14⟩) (by assumption) ?rest14
          case hy14 =>
            intro w9 hS9
            obtain ⟨y0, y1⟩ := hS9
            go_simp
            try with_reducible rfl
          try simp only [Act.put, List.setIfInBounds_toArray, List.set_cons_zero, List.set_cons_succ]
          refine wpAnyH_take (i := 2) (oi := { dst := some 33, op := _, type := _, pos := _, after := _, guard := _ }) (v := (.pointer (some ⟨b, o + k * 7, none⟩))) rfl (by kernel_rfl) (by kernel_rfl) (by kernel_rfl) (fun _ _ _ h => h) (Or.inl ⟨by rfl, ?hy15⟩) (by assumption) ?rest15
          case hy15 =>
            intro w9 hS9
            obtain ⟨y0, y1⟩ := hS9
            go_simp
            try with_reducible rfl
          try simp only [Act.put, List.setIfInBounds_toArray, List.set_cons_zero, List.set_cons_succ]
          refine wpAnyH_take (i := 3) (oi := { dst := some 34, op := _, type := _, pos := _, after := _, guard := _ }) (v := (.pointer (some ⟨b, o + k * 7, none⟩))) rfl (by kernel_rfl) (by kernel_rfl) (by kernel_rfl) (fun _ _ _ h => h) (Or.inl ⟨by rfl, ?hy16⟩) (by assumption) ?rest16
          case hy16 =>
            intro w9 hS9
            obtain ⟨y0, y1⟩ := hS9
            go_simp
            try with_reducible rfl
          try simp only [Act.put, List.setIfInBounds_toArray, List.set_cons_zero, List.set_cons_succ]
          refine wpAnyH_take (i := 4) (oi := { dst := some 35, op := _, type := _, pos := _, after := _, guard := _ }) (v := (.string m.path)) rfl (by kernel_rfl) (by kernel_rfl) (by kernel_rfl) (fun _ _ _ h => h) (Or.inl ⟨by rfl, ?hy17⟩) (by assumption) ?rest17
          case hy17 =>
            intro w9 hS9
            obtain ⟨y0, y1⟩ := hS9
            go_simp
            try with_reducible rfl
          try simp only [Act.put, List.setIfInBounds_toArray, List.set_cons_zero, List.set_cons_succ]
          refine wpAnyH_take (i := 5) (oi := { dst := some 36, op := _, type := _, pos := _, after := _, guard := _ }) (v := (.pointer (some ⟨w.heap.size, 0, none⟩))) rfl (by kernel_rfl) (by kernel_rfl) (by kernel_rfl) (fun _ _ _ h => h) (Or.inl ⟨by rfl, ?hy18⟩) (by assumption) ?rest18
          case hy18 =>
            intro w9 hS9
            obtain ⟨y0, y1⟩ := hS9
            go_simp
            try with_reducible rfl
          try simp only [Act.put, List.setIfInBounds_toArray, List.set_cons_zero, List.set_cons_succ]
          refine wpAnyH_take (i := 6) (oi := { dst := some 37, op := _, type := _, pos := _, after := _, guard := _ }) (v := (.string n.path)) rfl (by kernel_rfl) (by kernel_rfl) (by kernel_rfl) (fun _ _ _ h => h) (Or.inl ⟨by rfl, ?hy19⟩) (by assumption) ?rest19
          case hy19 =>
            intro w9 hS9
            obtain ⟨y0, y1⟩ := hS9
            go_simp
            try with_reducible rfl
          try simp only [Act.put, List.setIfInBounds_toArray, List.set_cons_zero, List.set_cons_succ]
          refine wpAnyH_take (i := 7) (oi := { dst := some 38, op := _, type := _, pos := _, after := _, guard := _ }) (v := (.bool true)) rfl (by kernel_rfl) (by kernel_rfl) (by kernel_rfl) (fun _ _ _ h => h) (Or.inl ⟨by rfl, ?hy20⟩) (by assumption) ?rest20
          case hy20 =>
            intro w9 hS9
            obtain ⟨y0, y1⟩ := hS9
            go_simp
            try with_reducible rfl
          try simp only [Act.put, List.setIfInBounds_toArray, List.set_cons_zero, List.set_cons_succ]
          refine wpAnyH_done (by kernel_rfl) ?_ _
          clear hHeld
          have Dwz : Hid (Below (w.heap.size + 1) w0 w1.drew) := Dw1.out.trans ((below_drewN' w1 1).mono (Nat.le_trans s0 Dw1.out.size))
          have Owz : Hid (OwnN 84 w1.drew (w.heap.size + 1) u5 st1) := Ow1.out
          generalize w1.drew = wz at *
          obtain ⟨c0, c1, c2, c3, c4, c5, c6⟩ := HCk.out.below Dwz.out hb1
          obtain ⟨-, x0, x1, x2, x3, x4, x5, x6⟩ := X0.out.belowW Dwz.out
          have ORwy : Hid (wz.ownsRow (w.heap.size + 1) 84 7 u5 st1.length (nrow st1)) := Owz.out
          have swy : w.heap.size + 1 ≤ wz.heap.size := Nat.le_trans s0 Dwz.out.size
          go_wp2_with (at_builtin; go_must (refine wpList_append_own _ rfl _ _ 34 rfl (w.heap.size + 1) 84 i0 (.agg #[.string ByteArray.empty, .string ByteArray.empty, .int .i64 0, .int .i64 0, .int .i64 0, .int .i64 0, .int .i64 0]) 7 72 Tryd.underlying34 hi hz0 hz1 hz2 rfl (by decide) _ _ _ rfl (ORwy.out.alloc _) ⟨wz.heap.size, 0, none⟩ 1 1 (ndL m) rfl rfl (ndL_cells wz m _) (ndL_one m) ?_ ?_ ?_ ?_))
          · unfold maxLen; (try simp only [List.length_append, List.length_cons, List.length_nil]); omega
          · (try simp only [List.length_append, List.length_cons, List.length_nil]); omega
          · simp; omega
          intro vy wy howy hgwy _
          have Owy : Hid (OwnN 84 wy (w.heap.size + 1) vy (st1 ++ [m])) := by
            show OwnN _ _ _ _ _
            unfold OwnN
            rw [nrow_one]
            simpa using howy
          have Dwy : Hid (Below (w.heap.size + 1) w0 wy) := (Dwz.out.alloc swy _).grown hgwy (by simp; omega) (fun q hq => (World.ownsRow.lt ORwy.out q hq).1)
          clear howy hgwy ORwy
          clear c0 c1 c2 c3 c4 c5 c6 x0 x1 x2 x3 x4 x5 x6
          go_wp2
          exact ⟨⟨k + 1, by omega, by go_num, (by rw [HST.out, HS.out]), (by rw [HST.out, HS.out]; exact Owy), Dwy⟩, by simp [intOf]; omega⟩
      | false =>
        cases hls : Op.bytesLess m.path.toList n.path.toList with
        | true =>
          go_wp2
          refine wp_region_held_drew (S := fun W => W.cell? ⟨b, o + k * 7, none⟩ = some (.string m.path) ∧ W.cell? ⟨w.heap.size, 0, none⟩ = some (.string n.path)) (by kernel_rfl) (⟨(HCk.out.below (HD.out.trans ((below_drewN' _ 1).mono (Nat.le_trans s0 HD.out.size))) hb1).c0, (X0.out.belowW (HD.out.trans ((below_drewN' _ 1).mono (Nat.le_trans s0 HD.out.size)))).c0⟩) (fun hHeld => ?_)
          refine wpAnyH_take (i := 0) (oi := { dst := some 15, op := _, type := _, pos := _, after := _, guard := _ }) (v := (.bool false)) rfl (by kernel_rfl) (by kernel_rfl) (by kernel_rfl) (fun _ _ _ h => h) (Or.inl ⟨by rfl, ?hy21⟩) (by assumption) ?rest21
          case hy21 =>
            intro w9 hS9
            obtain ⟨y0, y1⟩ := hS9
            go_simp
            try with_reducible rfl
          try simp only [Act.put, List.setIfInBounds_toArray, List.set_cons_zero, List.set_cons_succ]
          refine wpAnyH_take (i := 1) (oi := { dst := some 16, op := _, type := _, pos := _, after := _, guard := _ }) (v := (.bool true)) rfl (by kernel_rfl) (by kernel_rfl) (by kernel_rfl) (fun _ _ _ h => h) (Or.inl ⟨by rfl, ?hy22⟩) (by assumption) ?rest22
          case hy22 =>
            intro w9 hS9
            obtain ⟨y0, y1⟩ := hS9
            go_simp
            try with_reducible rfl
          try simp only [Act.put, List.setIfInBounds_toArray, List.set_cons_zero, List.set_cons_succ]
          refine wpAnyH_take (i := 2) (oi := { dst := some 17, op := _, type := _, pos := _, after := _, guard := _ }) (v := (.bool true)) rfl (by kernel_rfl) (by kernel_rfl) (by kernel_rfl) (fun _ _ _ h => h) (Or.inl ⟨by rfl, ?hy23⟩) (by assumption) ?rest23
          case hy23 =>
            intro w9 hS9
            obtain ⟨y0, y1⟩ := hS9
            go_simp
            try with_reducible rfl
          try simp only [Act.put, List.setIfInBounds_toArray, List.set_cons_zero, List.set_cons_succ]
          refine wpAnyH_take (i := 3) (oi := { dst := some 18, op := _, type := _, pos := _, after := _, guard := _ }) (v := (.slice (some ⟨b, o, none⟩) N ca)) rfl (by kernel_rfl) (by kernel_rfl) (by kernel_rfl) (fun _ _ _ h => h) (Or.inl ⟨by rfl, ?hy24⟩) (by assumption) ?rest24
          case hy24 =>
            intro w9 hS9
            obtain ⟨y0, y1⟩ := hS9
            go_simp
            try with_reducible rfl
          try simp only [Act.put, List.setIfInBounds_toArray, List.set_cons_zero, List.set_cons_succ]
          refine wpAnyH_take (i := 4) (oi := { dst := some 19, op := _, type := _, pos := _, after := _, guard := _ }) (v := (.int .i64 (k : Int))) rfl (by kernel_rfl) (by kernel_rfl) (by kernel_rfl) (fun _ _ _ h => h) (Or.inl ⟨by rfl, ?hy25⟩) (by assumption) ?rest25
          case hy25 =>
            intro w9 hS9
            obtain ⟨y0, y1⟩ := hS9
            go_simp
            try with_reducible rfl
          try simp only [Act.put, List.setIfInBounds_toArray, List.set_cons_zero, List.set_cons_succ]
          refine wpAnyH_take (i := 5) (oi := { dst := some 20, op := _, type := _, pos := _, after := _, guard := _ }) (v := (.pointer (some ⟨b, o + k * 7, none⟩))) rfl (by kernel_rfl) (by kernel_rfl) (by kernel_rfl) (fun _ _ _ h => h) (Or.inl ⟨by rfl, ?hy26⟩) (by assumption) ?rest26
          case hy26 =>
            intro w9 hS9
            obtain ⟨y0, y1⟩ := hS9
            go_simp
            try with_reducible rfl
          try simp only [Act.put, List.setIfInBounds_toArray, List.set_cons_zero, List.set_cons_succ]
          refine wpAnyH_take (i := 6) (oi := { dst := some 21, op := _, type := _, pos := _, after := _, guard := _ }) (v := (.pointer (some ⟨b, o + k * 7, none⟩))) rfl (by kernel_rfl) (by kernel_rfl) (by kernel_rfl) (fun _ _ _ h => h) (Or.inl ⟨by rfl, ?hy27⟩) (by assumption) ?rest27
          case hy27 =>
            intro w9 hS9
            obtain ⟨y0, y1⟩ := hS9
            go_simp
            try with_reducible rfl
          try simp only [Act.put, List.setIfInBounds_toArray, List.set_cons_zero, List.set_cons_succ]
          refine wpAnyH_take (i := 7) (oi := { dst := some 22, op := _, type := _, pos := _, after := _, guard := _ }) (v := (.string m.path)) rfl (by kernel_rfl) (by kernel_rfl) (by kernel_rfl) (fun _ _ _ h => h) (Or.inl ⟨by rfl, ?hy28⟩) (by assumption) ?rest28
          case hy28 =>
            intro w9 hS9
            obtain ⟨y0, y1⟩ := hS9
            go_simp
            try with_reducible rfl
          try simp only [Act.put, List.setIfInBounds_toArray, List.set_cons_zero, List.set_cons_succ]
          refine wpAnyH_take (i := 8) (oi := { dst := some 23, op := _, type := _, pos := _, after := _, guard := _ }) (v := (.pointer (some ⟨w.heap.size, 0, none⟩))) rfl (by kernel_rfl) (by kernel_rfl) (by kernel_rfl) (fun _ _ _ h => h) (Or.inl ⟨by rfl, ?hy29⟩) (by assumption) ?rest29
          case hy29 =>
            intro w9 hS9
            obtain ⟨y0, y1⟩ := hS9
            go_simp
            try with_reducible rfl
          try simp only [Act.put, List.setIfInBounds_toArray, List.set_cons_zero, List.set_cons_succ]
          refine wpAnyH_take (i := 9) (oi := { dst := some 24, op := _, type := _, pos := _, after := _, guard := _ }) (v := (.string n.path)) rfl (by kernel_rfl) (by kernel_rfl) (by kernel_rfl) (fun _ _ _ h => h) (Or.inl ⟨by rfl, ?hy30⟩) (by assumption) ?rest30
          case hy30 =>
            intro w9 hS9
            obtain ⟨y0, y1⟩ := hS9
            go_simp
            try with_reducible rfl
          try simp only [Act.put, List.setIfInBounds_toArray, List.set_cons_zero, List.set_cons_succ]
          refine wpAnyH_take (i := 10) (oi := { dst := some 25, op := _, type := _, pos := _, after := _, guard := _ }) (v := (.bool false)) rfl (by kernel_rfl) (by kernel_rfl) (by kernel_rfl) (fun _ _ _ h => h) (Or.inl ⟨by rfl, ?hy31⟩) (by assumption) ?rest31
          case hy31 =>
            intro w9 hS9
            obtain ⟨y0, y1⟩ := hS9
            go_simp
            try with_reducible rfl
          try simp only [Act.put, List.setIfInBounds_toArray, List.set_cons_zero, List.set_cons_succ]
          refine wpAnyH_take (i := 11) (oi := { dst := some 26, op := _, type := _, pos := _, after := _, guard := _ }) (v := (.bool false)) rfl (by kernel_rfl) (by kernel_rfl) (by kernel_rfl) (fun _ _ _ h => h) (Or.inl ⟨by rfl, ?hy32⟩) (by assumption) ?rest32
          case hy32 =>
            intro w9 hS9
            obtain ⟨y0, y1⟩ := hS9
            go_simp
            try with_reducible rfl
          try simp only [Act.put, List.setIfInBounds_toArray, List.set_cons_zero, List.set_cons_succ]
          refine wpAnyH_done (by kernel_rfl) ?_ _
          clear hHeld
          have Dw1 : Hid (Below (w.heap.size + 1) w0 wr.drew) := HD.out.trans ((below_drewN' wr 1).mono (Nat.le_trans s0 HD.out.size))
          have Ow1 : Hid (OwnN 84 wr.drew (w.heap.size + 1) u5 st1) := HW.out
          generalize wr.drew = w1 at *
          cases heq : (m.path.toList == n.path.toList) with
          | true =>
            have HS : Hid (stW n (st1, false) m = (st1, false)) := by show _ = _; unfold stW; simp [hls, heq]
            go_wp2
            refine wp_region_held_drew (S := fun W => W.cell? ⟨b, o + k * 7, none⟩ = some (.string m.path) ∧ W.cell? ⟨w.heap.size, 0, none⟩ = some (.string n.path)) (by kernel_rfl) (⟨(HCk.out.below (Dw1.out.trans ((below_drewN' _ 1).mono (Nat.le_trans s0 Dw1.out.size))) hb1).c0, (X0.out.belowW (Dw1.out.trans ((below_drewN' _ 1).mono (Nat.le_trans s0 Dw1.out.size)))).c0⟩) (fun hHeld => ?_)
            refine wpAnyH_take (i := 0) (oi := { dst := some 31, op := _, type := _, pos := _, after := _, guard := _ }) (v := (.slice (some ⟨b, o, none⟩) N ca)) rfl (by kernel_rfl) (by kernel_rfl) (by kernel_rfl) (fun _ _ _ h => h) (Or.inl ⟨by rfl, ?hy33⟩) (by assumption) ?rest33
            case hy33 =>
              intro w9 hS9
              obtain ⟨y0, y1⟩ := hS9
              go_simp
              try with_reducible rfl
            try simp only [Act.put, List.setIfInBounds_toArray, List.set_cons_zero, List.set_cons_succ]
            refine wpAnyH_take (i := 1) (oi := { dst := some 32, op := _, type := _, pos := _, after := _, guard := _ }) (v := (.int .i64 (k : Int))) rfl (by kernel_rfl) (by kernel_rfl) (by kernel_rfl) (fun _ _ _ h => h) (Or.inl ⟨by rfl, ?hy34⟩) (by assumption) ?rest34
            case hy34 =>
              intro w9 hS9
              obtain ⟨y0, y1⟩ := hS9
              go_simp
              try with_reducible rfl
            try simp only [Act.put, List.setIfInBounds_toArray, List.set_cons_zero, List.set_cons_succ]
            refine wpAnyH_take (i := 2) (oi := { dst := some 33, op := _, type := _, pos := _, after := _, guard := _ }) (v := (.pointer (some ⟨b, o + k * 7, none⟩))) rfl (by kernel_rfl) (by kernel_rfl) (by kernel_rfl) (fun _ _ _ h => h) (Or.inl ⟨by rfl, ?hy35⟩) (by assumption) ?rest35
            case hy35 =>
              intro w9 hS9
              obtain ⟨y0, y1⟩ := hS9
              go_simp
              try with_reducible rfl
            try simp only [Act.put, List.setIfInBounds_toArray, List.set_cons_zero, List.set_cons_succ]
            refine wpAnyH_take (i := 3) (oi := { dst := some 34, op := _, type := _, pos := _, after := _, guard := _ }) (v := (.pointer (some ⟨b, o + k * 7, none⟩))) rfl (by kernel_rfl) (by kernel_rfl) (by kernel_rfl) (fun _ _ _ h => h) (Or.inl ⟨by rfl, ?hy36⟩) (by assumption) ?rest36
            case hy36 =>
              intro w9 hS9
              obtain ⟨y0, y1⟩ := hS9
              go_simp
              try with_reducible rfl
            try simp only [Act.put, List.setIfInBounds_toArray, List.set_cons_zero, List.set_cons_succ]
            refine wpAnyH_take (i := 4) (oi := { dst := some 35, op := _, type := _, pos := _, after := _, guard := _ }) (v := (.string m.path)) rfl (by kernel_rfl) (by kernel_rfl) (by kernel_rfl) (fun _ _ _ h => h) (Or.inl ⟨by rfl, ?hy37⟩) (by assumption) ?rest37
            case hy37 =>
              intro w9 hS9
              obtain ⟨y0, y1⟩ := hS9
              go_simp
              try with_reducible rfl
            try simp only [Act.put, List.setIfInBounds_toArray, List.set_cons_zero, List.set_cons_succ]
            refine wpAnyH_take (i := 5) (oi := { dst := some 36, op := _, type := _, pos := _, after := _, guard := _ }) (v := (.pointer (some ⟨w.heap.size, 0, none⟩))) rfl (by kernel_rfl) (by kernel_rfl) (by kernel_rfl) (fun _ _ _ h => h) (Or.inl ⟨by rfl, ?hy38⟩) (by assumption) ?rest38
            case hy38 =>
              intro w9 hS9
              obtain ⟨y0, y1⟩ := hS9
              go_simp
              try with_reducible rfl
            try simp only [Act.put, List.setIfInBounds_toArray, List.set_cons_zero, List.set_cons_succ]
            refine wpAnyH_take (i := 6) (oi := { dst := some 37, op := _, type := _, pos := _, after := _, guard := _ }) (v := (.string n.path)) rfl (by kernel_rfl) (by kernel_rfl) (by kernel_rfl) (fun _ _ _ h => h) (Or.inl ⟨by rfl, ?hy39⟩) (by assumption) ?rest39
            case hy39 =>
              intro w9 hS9
              obtain ⟨y0, y1⟩ := hS9
              go_simp
              try with_reducible rfl
            try simp only [Act.put, List.setIfInBounds_toArray, List.set_cons_zero, List.set_cons_succ]
            refine wpAnyH_take (i := 7) (oi := { dst := some 38, op := _, type := _, pos := _, after := _, guard := _ }) (v := (.bool false)) rfl (by kernel_rfl) (by kernel_rfl) (by kernel_rfl) (fun _ _ _ h => h) (Or.inl ⟨by rfl, ?hy40⟩) (by assumption) ?rest40
            case hy40 =>
              intro w9 hS9
              obtain ⟨y0, y1⟩ := hS9
              go_simp
              try with_reducible rfl
            try simp only [Act.put, List.setIfInBounds_toArray, List.set_cons_zero, List.set_cons_succ]
            refine wpAnyH_done (by kernel_rfl) ?_ _
            clear hHeld
            have Dwz : Hid (Below (w.heap.size + 1) w0 w1.drew) := Dw1.out.trans ((below_drewN' w1 1).mono (Nat.le_trans s0 Dw1.out.size))
            have Owz : Hid (OwnN 84 w1.drew (w.heap.size + 1) u5 st1) := Ow1.out
            generalize w1.drew = wz at *
            go_wp2
            exact ⟨⟨k + 1, by omega, by go_num, (by rw [HST.out, HS.out]), (by rw [HST.out, HS.out]; exact Owz), Dwz⟩, by simp [intOf]; omega⟩
          | false =>
            have HS : Hid (stW n (st1, false) m = (st1 ++ [m], false)) := by show _ = _; unfold stW; simp [hls, heq]
            go_wp2
            refine wp_region_held_drew (S := fun W => W.cell? ⟨b, o + k * 7, none⟩ = some (.string m.path) ∧ W.cell? ⟨w.heap.size, 0, none⟩ = some (.string n.path)) (by kernel_rfl) (⟨(HCk.out.below (Dw1.out.trans ((below_drewN' _ 1).mono (Nat.le_trans s0 Dw1.out.size))) hb1).c0, (X0.out.belowW (Dw1.out.trans ((below_drewN' _ 1).mono (Nat.le_trans s0 Dw1.out.size)))).c0⟩) (fun hHeld => ?_)
            refine wpAnyH_take (i := 0) (oi := { dst := some 31, op := _, type := _, pos := _, after := _, guard := _ }) (v := (.slice (some ⟨b, o, none⟩) N ca)) rfl (by kernel_rfl) (by kernel_rfl) (by kernel_rfl) (fun _ _ _ h => h) (Or.inl ⟨by rfl, ?hy41⟩) (by assumption) ?rest41
            case hy41 =>
              intro w9 hS9
              obtain ⟨y0, y1⟩ := hS9
              go_simp
              try with_reducible rfl
            try simp only [Act.put, List.setIfInBounds_toArray, List.set_cons_zero, List.set_cons_succ]
            refine wpAnyH_take (i := 1) (oi := { dst := some 32, op := _, type := _, pos := _, after := _, guard := _ }) (v := (.int .i64 (k : Int))) rfl (by kernel_rfl) (by kernel_rfl) (by kernel_rfl) (fun _ _ _ h => h) (Or.inl ⟨by rfl, ?hy42⟩) (by assumption) ?rest42
            case hy42 =>
              intro w9 hS9
              obtain ⟨y0, y1⟩ := hS9
              go_simp
              try with_reducible rfl
            try simp only [Act.put, List.setIfInBounds_toArray, List.set_cons_zero, List.set_cons_succ]
            refine wpAnyH_take (i := 2) (oi := { dst := some 33, op := _, type := _, pos := _, after := _, guard := _ }) (v := (.pointer (some ⟨b, o + k * 7, none⟩))) rfl (by kernel_rfl) (by kernel_rfl) (by kernel_rfl) (fun _ _ _ h => h) (Or.inl ⟨by rfl, ?hy43⟩) (by assumption) ?rest43
            case hy43 =>
              intro w9 hS9
              obtain ⟨y0, y1⟩ := hS9
              go_simp
              try with_reducible rfl
            try simp only [Act.put, List.setIfInBounds_toArray, List.set_cons_zero, List.set_cons_succ]
            refine wpAnyH_take (i := 3) (oi := { dst := some 34, op := _, type := _, pos := _, after := _, guard := _ }) (v := (.pointer (some ⟨b, o + k * 7, none⟩))) rfl (by kernel_rfl) (by kernel_rfl) (by kernel_rfl) (fun _ _ _ h => h) (Or.inl ⟨by rfl, ?hy44⟩) (by assumption) ?rest44
            case hy44 =>
              intro w9 hS9
              obtain ⟨y0, y1⟩ := hS9
              go_simp
              try with_reducible rfl
            try simp only [Act.put, List.setIfInBounds_toArray, List.set_cons_zero, List.set_cons_succ]
            refine wpAnyH_take (i := 4) (oi := { dst := some 35, op := _, type := _, pos := _, after := _, guard := _ }) (v := (.string m.path)) rfl (by kernel_rfl) (by kernel_rfl) (by kernel_rfl) (fun _ _ _ h => h) (Or.inl ⟨by rfl, ?hy45⟩) (by assumption) ?rest45
            case hy45 =>
              intro w9 hS9
              obtain ⟨y0, y1⟩ := hS9
              go_simp
              try with_reducible rfl
            try simp only [Act.put, List.setIfInBounds_toArray, List.set_cons_zero, List.set_cons_succ]
            refine wpAnyH_take (i := 5) (oi := { dst := some 36, op := _, type := _, pos := _, after := _, guard := _ }) (v := (.pointer (some ⟨w.heap.size, 0, none⟩))) rfl (by kernel_rfl) (by kernel_rfl) (by kernel_rfl) (fun _ _ _ h => h) (Or.inl ⟨by rfl, ?hy46⟩) (by assumption) ?rest46
            case hy46 =>
              intro w9 hS9
              obtain ⟨y0, y1⟩ := hS9
              go_simp
              try with_reducible rfl
            try simp only [Act.put, List.setIfInBounds_toArray, List.set_cons_zero, List.set_cons_succ]
            refine wpAnyH_take (i := 6) (oi := { dst := some 37, op := _, type := _, pos := _, after := _, guard := _ }) (v := (.string n.path)) rfl (by kernel_rfl) (by kernel_rfl) (by kernel_rfl) (fun _ _ _ h => h) (Or.inl ⟨by rfl, ?hy47⟩) (by assumption) ?rest47
            case hy47 =>
              intro w9 hS9
              obtain ⟨y0, y1⟩ := hS9
              go_simp
              try with_reducible rfl
            try simp only [Act.put, List.setIfInBounds_toArray, List.set_cons_zero, List.set_cons_succ]
            refine wpAnyH_take (i := 7) (oi := { dst := some 38, op := _, type := _, pos := _, after := _, guard := _ }) (v := (.bool true)) rfl (by kernel_rfl) (by kernel_rfl) (by kernel_rfl) (fun _ _ _ h => h) (Or.inl ⟨by rfl, ?hy48⟩) (by assumption) ?rest48
            case hy48 =>
              intro w9 hS9
              obtain ⟨y0, y1⟩ := hS9
              go_simp
              try with_reducible rfl
            try simp only [Act.put, List.setIfInBounds_toArray, List.set_cons_zero, List.set_cons_succ]
            refine wpAnyH_done (by kernel_rfl) ?_ _
            clear hHeld
            have Dwz : Hid (Below (w.heap.size + 1) w0 w1.drew) := Dw1.out.trans ((below_drewN' w1 1).mono (Nat.le_trans s0 Dw1.out.size))
            have Owz : Hid (OwnN 84 w1.drew (w.heap.size + 1) u5 st1) := Ow1.out
            generalize w1.drew = wz at *
            obtain ⟨c0, c1, c2, c3, c4, c5, c6⟩ := HCk.out.below Dwz.out hb1
            obtain ⟨-, x0, x1, x2, x3, x4, x5, x6⟩ := X0.out.belowW Dwz.out
            have ORwy : Hid (wz.ownsRow (w.heap.size + 1) 84 7 u5 st1.length (nrow st1)) := Owz.out
            have swy : w.heap.size + 1 ≤ wz.heap.size := Nat.le_trans s0 Dwz.out.size
            go_wp2_with (at_builtin; go_must (refine wpList_append_own _ rfl _ _ 34 rfl (w.heap.size + 1) 84 i0 (.agg #[.string ByteArray.empty, .string ByteArray.empty, .int .i64 0, .int .i64 0, .int .i64 0, .int .i64 0, .int .i64 0]) 7 72 Tryd.underlying34 hi hz0 hz1 hz2 rfl (by decide) _ _ _ rfl (ORwy.out.alloc _) ⟨wz.heap.size, 0, none⟩ 1 1 (ndL m) rfl rfl (ndL_cells wz m _) (ndL_one m) ?_ ?_ ?_ ?_))
            · unfold maxLen; (try simp only [List.length_append, List.length_cons, List.length_nil]); omega
            · (try simp only [List.length_append, List.length_cons, List.length_nil]); omega
            · simp; omega
            intro vy wy howy hgwy _
            have Owy : Hid (OwnN 84 wy (w.heap.size + 1) vy (st1 ++ [m])) := by
              show OwnN _ _ _ _ _
              unfold OwnN
              rw [nrow_one]
              simpa using howy
            have Dwy : Hid (Below (w.heap.size + 1) w0 wy) := (Dwz.out.alloc swy _).grown hgwy (by simp; omega) (fun q hq => (World.ownsRow.lt ORwy.out q hq).1)
            clear howy hgwy ORwy
            clear c0 c1 c2 c3 c4 c5 c6 x0 x1 x2 x3 x4 x5 x6
            go_wp2
            exact ⟨⟨k + 1, by omega, by go_num, (by rw [HST.out, HS.out]), (by rw [HST.out, HS.out]; exact Owy), Dwy⟩, by simp [intOf]; omega⟩
        | false =>
          go_wp2
          refine wp_region_held_drew (S := fun W => W.cell? ⟨b, o + k * 7, none⟩ = some (.string m.path) ∧ W.cell? ⟨w.heap.size, 0, none⟩ = some (.string n.path)) (by kernel_rfl) (⟨(HCk.out.below (HD.out.trans ((below_drewN' _ 1).mono (Nat.le_trans s0 HD.out.size))) hb1).c0, (X0.out.belowW (HD.out.trans ((below_drewN' _ 1).mono (Nat.le_trans s0 HD.out.size)))).c0⟩) (fun hHeld => ?_)
          refine wpAnyH_take (i := 0) (oi := { dst := some 15, op := _, type := _, pos := _, after := _, guard := _ }) (v := (.bool false)) rfl (by kernel_rfl) (by kernel_rfl) (by kernel_rfl) (fun _ _ _ h => h) (Or.inl ⟨by rfl, ?hy49⟩) (by assumption) ?rest49
          case hy49 =>
            intro w9 hS9
            obtain ⟨y0, y1⟩ := hS9
            go_simp
            try with_reducible rfl
          try simp only [Act.put, List.setIfInBounds_toArray, List.set_cons_zero, List.set_cons_succ]
          refine wpAnyH_take (i := 1) (oi := { dst := some 16, op := _, type := _, pos := _, after := _, guard := _ }) (v := (.bool true)) rfl (by kernel_rfl) (by kernel_rfl) (by kernel_rfl) (fun _ _ _ h => h) (Or.inl ⟨by rfl, ?hy50⟩) (by assumption) ?rest50
          case hy50 =>
            intro w9 hS9
            obtain ⟨y0, y1⟩ := hS9
            go_simp
            try with_reducible rfl
          try simp only [Act.put, List.setIfInBounds_toArray, List.set_cons_zero, List.set_cons_succ]
          refine wpAnyH_take (i := 2) (oi := { dst := some 17, op := _, type := _, pos := _, after := _, guard := _ }) (v := (.bool true)) rfl (by kernel_rfl) (by kernel_rfl) (by kernel_rfl) (fun _ _ _ h => h) (Or.inl ⟨by rfl, ?hy51⟩) (by assumption) ?rest51
          case hy51 =>
            intro w9 hS9
            obtain ⟨y0, y1⟩ := hS9
            go_simp
            try with_reducible rfl
          try simp only [Act.put, List.setIfInBounds_toArray, List.set_cons_zero, List.set_cons_succ]
          refine wpAnyH_take (i := 3) (oi := { dst := some 18, op := _, type := _, pos := _, after := _, guard := _ }) (v := (.slice (some ⟨b, o, none⟩) N ca)) rfl (by kernel_rfl) (by kernel_rfl) (by kernel_rfl) (fun _ _ _ h => h) (Or.inl ⟨by rfl, ?hy52⟩) (by assumption) ?rest52
          case hy52 =>
            intro w9 hS9
            obtain ⟨y0, y1⟩ := hS9
            go_simp
            try with_reducible rfl
          try simp only [Act.put, List.setIfInBounds_toArray, List.set_cons_zero, List.set_cons_succ]
          refine wpAnyH_take (i := 4) (oi := { dst := some 19, op := _, type := _, pos := _, after := _, guard := _ }) (v := (.int .i64 (k : Int))) rfl (by kernel_rfl) (by kernel_rfl) (by kernel_rfl) (fun _ _ _ h => h) (Or.inl ⟨by rfl, ?hy53⟩) (by assumption) ?rest53
          case hy53 =>
            intro w9 hS9
            obtain ⟨y0, y1⟩ := hS9
            go_simp
            try with_reducible rfl
          try simp only [Act.put, List.setIfInBounds_toArray, List.set_cons_zero, List.set_cons_succ]
          refine wpAnyH_take (i := 5) (oi := { dst := some 20, op := _, type := _, pos := _, after := _, guard := _ }) (v := (.pointer (some ⟨b, o + k * 7, none⟩))) rfl (by kernel_rfl) (by kernel_rfl) (by kernel_rfl) (fun _ _ _ h => h) (Or.inl ⟨by rfl, ?hy54⟩) (by assumption) ?rest54
          case hy54 =>
            intro w9 hS9
            obtain ⟨y0, y1⟩ := hS9
            go_simp
            try with_reducible rfl
          try simp only [Act.put, List.setIfInBounds_toArray, List.set_cons_zero, List.set_cons_succ]
          refine wpAnyH_take (i := 6) (oi := { dst := some 21, op := _, type := _, pos := _, after := _, guard := _ }) (v := (.pointer (some ⟨b, o + k * 7, none⟩))) rfl (by kernel_rfl) (by kernel_rfl) (by kernel_rfl) (fun _ _ _ h => h) (Or.inl ⟨by rfl, ?hy55⟩) (by assumption) ?rest55
          case hy55 =>
            intro w9 hS9
            obtain ⟨y0, y1⟩ := hS9
            go_simp
            try with_reducible rfl
          try simp only [Act.put, List.setIfInBounds_toArray, List.set_cons_zero, List.set_cons_succ]
          refine wpAnyH_take (i := 7) (oi := { dst := some 22, op := _, type := _, pos := _, after := _, guard := _ }) (v := (.string m.path)) rfl (by kernel_rfl) (by kernel_rfl) (by kernel_rfl) (fun _ _ _ h => h) (Or.inl ⟨by rfl, ?hy56⟩) (by assumption) ?rest56
          case hy56 =>
            intro w9 hS9
            obtain ⟨y0, y1⟩ := hS9
            go_simp
            try with_reducible rfl
          try simp only [Act.put, List.setIfInBounds_toArray, List.set_cons_zero, List.set_cons_succ]
          refine wpAnyH_take (i := 8) (oi := { dst := some 23, op := _, type := _, pos := _, after := _, guard := _ }) (v := (.pointer (some ⟨w.heap.size, 0, none⟩))) rfl (by kernel_rfl) (by kernel_rfl) (by kernel_rfl) (fun _ _ _ h => h) (Or.inl ⟨by rfl, ?hy57⟩) (by assumption) ?rest57
          case hy57 =>
            intro w9 hS9
            obtain ⟨y0, y1⟩ := hS9
            go_simp
            try with_reducible rfl
          try simp only [Act.put, List.setIfInBounds_toArray, List.set_cons_zero, List.set_cons_succ]
          refine wpAnyH_take (i := 9) (oi := { dst := some 24, op := _, type := _, pos := _, after := _, guard := _ }) (v := (.string n.path)) rfl (by kernel_rfl) (by kernel_rfl) (by kernel_rfl) (fun _ _ _ h => h) (Or.inl ⟨by rfl, ?hy58⟩) (by assumption) ?rest58
          case hy58 =>
            intro w9 hS9
            obtain ⟨y0, y1⟩ := hS9
            go_simp
            try with_reducible rfl
          try simp only [Act.put, List.setIfInBounds_toArray, List.set_cons_zero, List.set_cons_succ]
          refine wpAnyH_take (i := 10) (oi := { dst := some 25, op := _, type := _, pos := _, after := _, guard := _ }) (v := (.bool true)) rfl (by kernel_rfl) (by kernel_rfl) (by kernel_rfl) (fun _ _ _ h => h) (Or.inl ⟨by rfl, ?hy59⟩) (by assumption) ?rest59
          case hy59 =>
            intro w9 hS9
            obtain ⟨y0, y1⟩ := hS9
            go_simp
            try with_reducible rfl
          try simp only [Act.put, List.setIfInBounds_toArray, List.set_cons_zero, List.set_cons_succ]
          refine wpAnyH_take (i := 11) (oi := { dst := some 26, op := _, type := _, pos := _, after := _, guard := _ }) (v := (.bool true)) rfl (by kernel_rfl) (by kernel_rfl) (by kernel_rfl) (fun _ _ _ h => h) (Or.inl ⟨by rfl, ?hy60⟩) (by assumption) ?rest60
          case hy60 =>
            intro w9 hS9
            obtain ⟨y0, y1⟩ := hS9
            go_simp
            try with_reducible rfl
          try simp only [Act.put, List.setIfInBounds_toArray, List.set_cons_zero, List.set_cons_succ]
          refine wpAnyH_done (by kernel_rfl) ?_ _
          clear hHeld
          have Dw1 : Hid (Below (w.heap.size + 1) w0 wr.drew) := HD.out.trans ((below_drewN' wr 1).mono (Nat.le_trans s0 HD.out.size))
          have Ow1 : Hid (OwnN 84 wr.drew (w.heap.size + 1) u5 st1) := HW.out
          generalize wr.drew = w1 at *
          obtain ⟨c0, c1, c2, c3, c4, c5, c6⟩ := HCk.out.below Dw1.out hb1
          obtain ⟨-, x0, x1, x2, x3, x4, x5, x6⟩ := X0.out.belowW Dw1.out
          have ORw2 : Hid (w1.ownsRow (w.heap.size + 1) 84 7 u5 st1.length (nrow st1)) := Ow1.out
          have sw2 : w.heap.size + 1 ≤ w1.heap.size := Nat.le_trans s0 Dw1.out.size
          go_wp2_with (at_builtin; go_must (refine wpList_append_own _ rfl _ _ 34 rfl (w.heap.size + 1) 84 i0 (.agg #[.string ByteArray.empty, .string ByteArray.empty, .int .i64 0, .int .i64 0, .int .i64 0, .int .i64 0, .int .i64 0]) 7 72 Tryd.underlying34 hi hz0 hz1 hz2 rfl (by decide) _ _ _ rfl (ORw2.out.alloc _) ⟨w1.heap.size, 0, none⟩ 1 1 (ndL n) rfl rfl (ndL_cells w1 n _) (ndL_one n) ?_ ?_ ?_ ?_))
          · unfold maxLen; (try simp only [List.length_append, List.length_cons, List.length_nil]); omega
          · (try simp only [List.length_append, List.length_cons, List.length_nil]); omega
          · simp; omega
          intro v2 w2 how2 hgw2 _
          have Ow2 : Hid (OwnN 84 w2 (w.heap.size + 1) v2 (st1 ++ [n])) := by
            show OwnN _ _ _ _ _
            unfold OwnN
            rw [nrow_one]
            simpa using how2
          have Dw2 : Hid (Below (w.heap.size + 1) w0 w2) := (Dw1.out.alloc sw2 _).grown hgw2 (by simp; omega) (fun q hq => (World.ownsRow.lt ORw2.out q hq).1)
          clear how2 hgw2 ORw2
          clear c0 c1 c2 c3 c4 c5 c6 x0 x1 x2 x3 x4 x5 x6
          cases heq : (m.path.toList == n.path.toList) with
          | true =>
            have HS : Hid (stW n (st1, false) m = (st1 ++ [n], true)) := by show _ = _; unfold stW; simp [hls, heq]
            go_wp2
            refine wp_region_held_drew (S := fun W => W.cell? ⟨b, o + k * 7, none⟩ = some (.string m.path) ∧ W.cell? ⟨w.heap.size, 0, none⟩ = some (.string n.path)) (by kernel_rfl) (⟨(HCk.out.below (Dw2.out.trans ((below_drewN' _ 1).mono (Nat.le_trans s0 Dw2.out.size))) hb1).c0, (X0.out.belowW (Dw2.out.trans ((below_drewN' _ 1).mono (Nat.le_trans s0 Dw2.out.size)))).c0⟩) (fun hHeld => ?_)
            refine wpAnyH_take (i := 0) (oi := { dst := some 31, op := _, type := _, pos := _, after := _, guard := _ }) (v := (.slice (some ⟨b, o, none⟩) N ca)) rfl (by kernel_rfl) (by kernel_rfl) (by kernel_rfl) (fun _ _ _ h => h) (Or.inl ⟨by rfl, ?hy61⟩) (by assumption) ?rest61
            case hy61 =>
              intro w9 hS9
              obtain ⟨y0, y1⟩ := hS9
              go_simp
              try with_reducible rfl
            try simp only [Act.put, List.setIfInBounds_toArray, List.set_cons_zero, List.set_cons_succ]
            refine wpAnyH_take (i := 1) (oi := { dst := some 32, op := _, type := _, pos := _, after := _, guard := _ }) (v := (.int .i64 (k : Int))) rfl (by kernel_rfl) (by kernel_rfl) (by kernel_rfl) (fun _ _ _ h => h) (Or.inl ⟨by rfl, ?hy62⟩) (by assumption) ?rest62
            case hy62 =>
              intro w9 hS9
              obtain ⟨y0, y1⟩ := hS9
              go_simp
              try with_reducible rfl
            try simp only [Act.put, List.setIfInBounds_toArray, List.set_cons_zero, List.set_cons_succ]
            refine wpAnyH_take (i := 2) (oi := { dst := some 33, op := _, type := _, pos := _, after := _, guard := _ }) (v := (.pointer (some ⟨b, o + k * 7, none⟩))) rfl (by kernel_rfl) (by kernel_rfl) (by kernel_rfl) (fun _ _ _ h => h) (Or.inl ⟨by rfl, ?hy63⟩) (by assumption) ?rest63
            case hy63 =>
              intro w9 hS9
              obtain ⟨y0, y1⟩ := hS9
              go_simp
              try with_reducible rfl
            try simp only [Act.put, List.setIfInBounds_toArray, List.set_cons_zero, List.set_cons_succ]
            refine wpAnyH_take (i := 3) (oi := { dst := some 34, op := _, type := _, pos := _, after := _, guard := _ }) (v := (.pointer (some ⟨b, o + k * 7, none⟩))) rfl (by kernel_rfl) (by kernel_rfl) (by kernel_rfl) (fun _ _ _ h => h) (Or.inl ⟨by rfl, ?hy64⟩) (by assumption) ?rest64
            case hy64 =>
              intro w9 hS9
              obtain ⟨y0, y1⟩ := hS9
              go_simp
              try with_reducible rfl
            try simp only [Act.put, List.setIfInBounds_toArray, List.set_cons_zero, List.set_cons_succ]
            refine wpAnyH_take (i := 4) (oi := { dst := some 35, op := _, type := _, pos := _, after := _, guard := _ }) (v := (.string m.path)) rfl (by kernel_rfl) (by kernel_rfl) (by kernel_rfl) (fun _ _ _ h => h) (Or.inl ⟨by rfl, ?hy65⟩) (by assumption) ?rest65
            case hy65 =>
              intro w9 hS9
              obtain ⟨y0, y1⟩ := hS9
              go_simp
              try with_reducible rfl
            try simp only [Act.put, List.setIfInBounds_toArray, List.set_cons_zero, List.set_cons_succ]
            refine wpAnyH_take (i := 5) (oi := { dst := some 36, op := _, type := _, pos := _, after := _, guard := _ }) (v := (.pointer (some ⟨w.heap.size, 0, none⟩))) rfl (by kernel_rfl) (by kernel_rfl) (by kernel_rfl) (fun _ _ _ h => h) (Or.inl ⟨by rfl, ?hy66⟩) (by assumption) ?rest66
            case hy66 =>
              intro w9 hS9
              obtain ⟨y0, y1⟩ := hS9
              go_simp
              try with_reducible rfl
            try simp only [Act.put, List.setIfInBounds_toArray, List.set_cons_zero, List.set_cons_succ]
            refine wpAnyH_take (i := 6) (oi := { dst := some 37, op := _, type := _, pos := _, after := _, guard := _ }) (v := (.string n.path)) rfl (by kernel_rfl) (by kernel_rfl) (by kernel_rfl) (fun _ _ _ h => h) (Or.inl ⟨by rfl, ?hy67⟩) (by assumption) ?rest67
            case hy67 =>
              intro w9 hS9
              obtain ⟨y0, y1⟩ := hS9
              go_simp
              try with_reducible rfl
            try simp only [Act.put, List.setIfInBounds_toArray, List.set_cons_zero, List.set_cons_succ]
            refine wpAnyH_take (i := 7) (oi := { dst := some 38, op := _, type := _, pos := _, after := _, guard := _ }) (v := (.bool false)) rfl (by kernel_rfl) (by kernel_rfl) (by kernel_rfl) (fun _ _ _ h => h) (Or.inl ⟨by rfl, ?hy68⟩) (by assumption) ?rest68
            case hy68 =>
              intro w9 hS9
              obtain ⟨y0, y1⟩ := hS9
              go_simp
              try with_reducible rfl
            try simp only [Act.put, List.setIfInBounds_toArray, List.set_cons_zero, List.set_cons_succ]
            refine wpAnyH_done (by kernel_rfl) ?_ _
            clear hHeld
            have Dwz : Hid (Below (w.heap.size + 1) w0 w2.drew) := Dw2.out.trans ((below_drewN' w2 1).mono (Nat.le_trans s0 Dw2.out.size))
            have Owz : Hid (OwnN 84 w2.drew (w.heap.size + 1) v2 (st1 ++ [n])) := Ow2.out
            generalize w2.drew = wz at *
            go_wp2
            exact ⟨⟨k + 1, by omega, by go_num, (by rw [HST.out, HS.out]), (by rw [HST.out, HS.out]; exact Owz), Dwz⟩, by simp [intOf]; omega⟩
          | false =>
            have HS : Hid (stW n (st1, false) m = (st1 ++ [n] ++ [m], true)) := by show _ = _; unfold stW; simp [hls, heq]
            go_wp2
            refine wp_region_held_drew (S := fun W => W.cell? ⟨b, o + k * 7, none⟩ = some (.string m.path) ∧ W.cell? ⟨w.heap.size, 0, none⟩ = some (.string n.path)) (by kernel_rfl) (⟨(HCk.out.below (Dw2.out.trans ((below_drewN' _ 1).mono (Nat.le_trans s0 Dw2.out.size))) hb1).c0, (X0.out.belowW (Dw2.out.trans ((below_drewN' _ 1).mono (Nat.le_trans s0 Dw2.out.size)))).c0⟩) (fun hHeld => ?_)
            refine wpAnyH_take (i := 0) (oi := { dst := some 31, op := _, type := _, pos := _, after := _, guard := _ }) (v := (.slice (some ⟨b, o, none⟩) N ca)) rfl (by kernel_rfl) (by kernel_rfl) (by kernel_rfl) (fun _ _ _ h => h) (Or.inl ⟨by rfl, ?hy69⟩) (by assumption) ?rest69
            case hy69 =>
              intro w9 hS9
              obtain ⟨y0, y1⟩ := hS9
              go_simp
              try with_reducible rfl
            try simp only [Act.put, List.setIfInBounds_toArray, List.set_cons_zero, List.set_cons_succ]
            refine wpAnyH_take (i := 1) (oi := { dst := some 32, op := _, type := _, pos := _, after := _, guard := _ }) (v := (.int .i64 (k : Int))) rfl (by kernel_rfl) (by kernel_rfl) (by kernel_rfl) (fun _ _ _ h => h) (Or.inl ⟨by rfl, ?hy70⟩) (by assumption) ?rest70
            case hy70 =>
              intro w9 hS9
              obtain ⟨y0, y1⟩ := hS9
              go_simp
              try with_reducible rfl
            try simp only [Act.put, List.setIfInBounds_toArray, List.set_cons_zero, List.set_cons_succ]
            refine wpAnyH_take (i := 2) (oi := { dst := some 33, op := _, type := _, pos := _, after := _, guard := _ }) (v := (.pointer (some ⟨b, o + k * 7, none⟩))) rfl (by kernel_rfl) (by kernel_rfl) (by kernel_rfl) (fun _ _ _ h => h) (Or.inl ⟨by rfl, ?hy71⟩) (by assumption) ?rest71
            case hy71 =>
              intro w9 hS9
              obtain ⟨y0, y1⟩ := hS9
              go_simp
              try with_reducible rfl
            try simp only [Act.put, List.setIfInBounds_toArray, List.set_cons_zero, List.set_cons_succ]
            refine wpAnyH_take (i := 3) (oi := { dst := some 34, op := _, type := _, pos := _, after := _, guard := _ }) (v := (.pointer (some ⟨b, o + k * 7, none⟩))) rfl (by kernel_rfl) (by kernel_rfl) (by kernel_rfl) (fun _ _ _ h => h) (Or.inl ⟨by rfl, ?hy72⟩) (by assumption) ?rest72
            case hy72 =>
              intro w9 hS9
              obtain ⟨y0, y1⟩ := hS9
              go_simp
              try with_reducible rfl
            try simp only [Act.put, List.setIfInBounds_toArray, List.set_cons_zero, List.set_cons_succ]
            refine wpAnyH_take (i := 4) (oi := { dst := some 35, op := _, type := _, pos := _, after := _, guard := _ }) (v := (.string m.path)) rfl (by kernel_rfl) (by kernel_rfl) (by kernel_rfl) (fun _ _ _ h => h) (Or.inl ⟨by rfl, ?hy73⟩) (by assumption) ?rest73
            case hy73 =>
              intro w9 hS9
              obtain ⟨y0, y1⟩ := hS9
              go_simp
              try with_reducible rfl
            try simp only [Act.put, List.setIfInBounds_toArray, List.set_cons_zero, List.set_cons_succ]
            refine wpAnyH_take (i := 5) (oi := { dst := some 36, op := _, type := _, pos := _, after := _, guard := _ }) (v := (.pointer (some ⟨w.heap.size, 0, none⟩))) rfl (by kernel_rfl) (by kernel_rfl) (by kernel_rfl) (fun _ _ _ h => h) (Or.inl ⟨by rfl, ?hy74⟩) (by assumption) ?rest74
            case hy74 =>
              intro w9 hS9
              obtain ⟨y0, y1⟩ := hS9
              go_simp
              try with_reducible rfl
            try simp only [Act.put, List.setIfInBounds_toArray, List.set_cons_zero, List.set_cons_succ]
            refine wpAnyH_take (i := 6) (oi := { dst := some 37, op := _, type := _, pos := _, after := _, guard := _ }) (v := (.string n.path)) rfl (by kernel_rfl) (by kernel_rfl) (by kernel_rfl) (fun _ _ _ h => h) (Or.inl ⟨by rfl, ?hy75⟩) (by assumption) ?rest75
            case hy75 =>
              intro w9 hS9
              obtain ⟨y0, y1⟩ := hS9
              go_simp
              try with_reducible rfl
            try simp only [Act.put, List.setIfInBounds_toArray, List.set_cons_zero, List.set_cons_succ]
            refine wpAnyH_take (i := 7) (oi := { dst := some 38, op := _, type := _, pos := _, after := _, guard := _ }) (v := (.bool true)) rfl (by kernel_rfl) (by kernel_rfl) (by kernel_rfl) (fun _ _ _ h => h) (Or.inl ⟨by rfl, ?hy76⟩) (by assumption) ?rest76
            case hy76 =>
              intro w9 hS9
              obtain ⟨y0, y1⟩ := hS9
              go_simp
              try with_reducible rfl
            try simp only [Act.put, List.setIfInBounds_toArray, List.set_cons_zero, List.set_cons_succ]
            refine wpAnyH_done (by kernel_rfl) ?_ _
            clear hHeld
            have Dwz : Hid (Below (w.heap.size + 1) w0 w2.drew) := Dw2.out.trans ((below_drewN' w2 1).mono (Nat.le_trans s0 Dw2.out.size))
            have Owz : Hid (OwnN 84 w2.drew (w.heap.size + 1) v2 (st1 ++ [n])) := Ow2.out
            generalize w2.drew = wz at *
            obtain ⟨c0, c1, c2, c3, c4, c5, c6⟩ := HCk.out.below Dwz.out hb1
            obtain ⟨-, x0, x1, x2, x3, x4, x5, x6⟩ := X0.out.belowW Dwz.out
            have ORwy : Hid (wz.ownsRow (w.heap.size + 1) 84 7 v2 (st1 ++ [n]).length (nrow (st1 ++ [n]))) := Owz.out
            have swy : w.heap.size + 1 ≤ wz.heap.size := Nat.le_trans s0 Dwz.out.size
            go_wp2_with (at_builtin; go_must (refine wpList_append_own _ rfl _ _ 34 rfl (w.heap.size + 1) 84 i0 (.agg #[.string ByteArray.empty, .string ByteArray.empty, .int .i64 0, .int .i64 0, .int .i64 0, .int .i64 0, .int .i64 0]) 7 72 Tryd.underlying34 hi hz0 hz1 hz2 rfl (by decide) _ _ _ rfl (ORwy.out.alloc _) ⟨wz.heap.size, 0, none⟩ 1 1 (ndL m) rfl rfl (ndL_cells wz m _) (ndL_one m) ?_ ?_ ?_ ?_))
            · unfold maxLen; (try simp only [List.length_append, List.length_cons, List.length_nil]); omega
            · (try simp only [List.length_append, List.length_cons, List.length_nil]); omega
            · simp; omega
            intro vy wy howy hgwy _
            have Owy : Hid (OwnN 84 wy (w.heap.size + 1) vy ((st1 ++ [n]) ++ [m])) := by
              show OwnN _ _ _ _ _
              unfold OwnN
              rw [nrow_one]
              simpa using howy
            have Dwy : Hid (Below (w.heap.size + 1) w0 wy) := (Dwz.out.alloc swy _).grown hgwy (by simp; omega) (fun q hq => (World.ownsRow.lt ORwy.out q hq).1)
            clear howy hgwy ORwy
            clear c0 c1 c2 c3 c4 c5 c6 x0 x1 x2 x3 x4 x5 x6
            go_wp2
            exact ⟨⟨k + 1, by omega, by go_num, (by rw [HST.out, HS.out]), (by rw [HST.out, HS.out]; exact Owy), Dwy⟩, by simp [intOf]; omega⟩
    · have hkn : k = N := by omega
      subst hkn
      have HT : Hid (wiF (ns.take k) n = wiF ns n) := by show _ = _; rw [List.take_of_length_le (by rw [HP.out]; exact Nat.le_refl _)]
      rw [HT.out] at HW ⊢
      have HWN : Hid (wiN ns n = if (wiF ns n).2 then (wiF ns n).1 else (wiF ns n).1 ++ [n]) := rfl
      rw [HT.out] at hll
      generalize wiF ns n = st at *
      obtain ⟨st1, st2⟩ := st
      simp only at hll HW HWN
      obtain ⟨-, x0, x1, x2, x3, x4, x5, x6⟩ := X0.out.belowW HD.out
      cases st2 with
      | true =>
        go_wp2
        go_ret
        exact ⟨_, rfl, (by rw [HWN.out]; exact OwnN.mono HW.out (Nat.le_succ _)), B0.out.trans (HD.out.mono (Nat.le_succ _))⟩
      | false =>
        have ORw2 : Hid (wr.ownsRow (w.heap.size + 1) 84 7 u5 st1.length (nrow st1)) := HW.out
        have sw2 : w.heap.size + 1 ≤ wr.heap.size := Nat.le_trans s0 HD.out.size
        go_wp2_with (at_builtin; go_must (refine wpList_append_own _ rfl _ _ 34 rfl (w.heap.size + 1) 84 i0 (.agg #[.string ByteArray.empty, .string ByteArray.empty, .int .i64 0, .int .i64 0, .int .i64 0, .int .i64 0, .int .i64 0]) 7 72 Tryd.underlying34 hi hz0 hz1 hz2 rfl (by decide) _ _ _ rfl (ORw2.out.alloc _) ⟨wr.heap.size, 0, none⟩ 1 1 (ndL n) rfl rfl (ndL_cells wr n _) (ndL_one n) ?_ ?_ ?_ ?_))
        · unfold maxLen; (try simp only [List.length_append, List.length_cons, List.length_nil]); omega
        · (try simp only [List.length_append, List.length_cons, List.length_nil]); omega
        · simp; omega
        intro v2 w2 how2 hgw2 _
        have Ow2 : Hid (OwnN 84 w2 (w.heap.size + 1) v2 (st1 ++ [n])) := by
          show OwnN _ _ _ _ _
          unfold OwnN
          rw [nrow_one]
          simpa using how2
        have Dw2 : Hid (Below (w.heap.size + 1) w0 w2) := (HD.out.alloc sw2 _).grown hgw2 (by simp; omega) (fun q hq => (World.ownsRow.lt ORw2.out q hq).1)
        clear how2 hgw2 ORw2
        go_wp2
        go_ret
        exact ⟨_, rfl, (by rw [HWN.out]; exact OwnN.mono Ow2.out (Nat.le_succ _)), B0.out.trans (Dw2.out.mono (Nat.le_succ _))⟩

end Go.Proofs.YtcopcegamadkgaaDoor

namespace Go.Proofs.YtcopcegamadkgaaDoor
open Go.RowKit Go.Shelf

/-- Is it the node with this path? -/
def isP (p : ByteArray) (n : Nd) : Bool := n.path.toList == p.toList
/-- Where the node with this path stands, or -1. -/
def fdV (ns : List Nd) (p : ByteArray) : Int := if ns.findIdx (isP p) < ns.length then ((ns.findIdx (isP p) : Nat) : Int) else -1
theorem fdV_at {ns : List Nd} {p : ByteArray} {k : Nat} (hk : k < ns.length) (h : isP p (nAt ns k) = true) (hn : ∀ i, i < k → isP p (nAt ns i) = false) : fdV ns p = (k : Int) := by
  have e : ns.findIdx (isP p) = k := by
    rw [List.findIdx_eq hk]
    refine ⟨by rw [← nAt_get hk]; exact h, fun j hj => ?_⟩
    have := hn j hj
    rwa [nAt_get (by omega)] at this
  unfold fdV
  rw [e, if_pos hk]
theorem fdV_none {ns : List Nd} {p : ByteArray} (hn : ∀ i, i < ns.length → isP p (nAt ns i) = false) : fdV ns p = -1 := by
  have e : ns.findIdx (isP p) = ns.length := by
    rw [List.findIdx_eq_length]
    intro x hx
    obtain ⟨i, hi, rfl⟩ := List.mem_iff_getElem.1 hx
    have := hn i hi
    rwa [nAt_get hi] at this
  unfold fdV
  rw [e, if_neg (Nat.lt_irrefl _)]

set_option maxHeartbeats 1000000 in
set_option maxRecDepth 100000 in
theorem l3Find_any (w : World) (v : Value) (ns : List Nd) (p : ByteArray) (h : RdN w v ns) (hn : ns.length ≤ 1000000) :
    Calls Tryd.prog 163 #[v, .string p] w fun e w' => e = .returned (.int .i64 (fdV ns p)) ∧ w' = w := by
  obtain ⟨ao, ca, rfl, _, _⟩ := h.len
  have HR : Hid (RdN w (.slice ao ns.length ca) ns) := h
  generalize hnn : ns.length = n at *
  have HP : Hid (ns.length = n) := hnn
  clear h hnn
  go_enter Tryd.func163, Tryd.ntmps163
  go_wp2
  go_loopw [5] (fun vk wr => ∃ k : Nat, k ≤ n ∧ vk = .int .i64 (k : Int) ∧ Hid (∀ i, i < k → isP p (nAt ns i) = false) ∧ wr = w) (fun i _ => n - (intOf i).toNat)
  case atStart => exact ⟨0, Nat.zero_le _, rfl, fun i hi => by omega, rfl⟩
  case round =>
    obtain ⟨k, hk, rfl, HN, rfl⟩ := hrel
    by_cases hlt : k < n
    · have hltI : (k : Int) < (n : Int) := by omega
      obtain ⟨b, o, hao, hb, hc⟩ : ∃ b o, ao = some ⟨b, o, none⟩ ∧ b < wr.heap.size ∧ CellsN wr b (o + k * 7) (nAt ns k) := by
        obtain ⟨ao', cap', e', -, -, h3⟩ := HR.out
        simp only [Value.slice.injEq] at e'
        obtain ⟨rfl, -, -⟩ := e'
        rcases h3 with h3 | ⟨b, o, rfl, hb, hc⟩
        · have := HP.out; rw [h3] at this; simp at this; omega
        · exact ⟨b, o, rfl, hb, hc k (by rw [HP.out]; exact hlt)⟩
      subst hao
      obtain ⟨c0, c1, c2, c3, c4, c5, c6⟩ := hc
      cases hA : ((nAt ns k).path.toList == p.toList) with
      | true =>
        have HF : Hid (fdV ns p = (k : Int)) := fdV_at (by rw [HP.out]; exact hlt) hA HN.out
        go_wp2
        go_ret
        exact ⟨by rw [HF.out]; rfl, rfl⟩
      | false =>
        have HN2 : Hid (∀ i, i < k + 1 → isP p (nAt ns i) = false) := by
          intro i hi
          by_cases e : i < k
          · exact HN.out i e
          · rw [show i = k by omega]; exact hA
        go_wp2
        exact ⟨⟨k + 1, by omega, by go_num, HN2, trivial⟩, by simp [intOf]; omega⟩
    · have hkn : k = n := by omega
      subst hkn
      have HF : Hid (fdV ns p = -1) := fdV_none (fun i hi => HN.out i (by rw [HP.out] at hi; exact hi))
      go_wp2
      go_ret
      exact ⟨by rw [HF.out]; rfl, rfl⟩

end Go.Proofs.YtcopcegamadkgaaDoor

namespace Go.Proofs.YtcopcegamadkgaaDoor
open Go.RowKit Go.Shelf

/-- One more, up to the greatest number. -/
def mor (v : Int) : Int := if v = 2147483647 then v else v + 1
/-- The nodes whose parent, if it is there, has lost or got a child. -/
def toN (ns : List Nd) (p : ByteArray) (z : Int) : List Nd :=
  if ns.findIdx (isP p) < ns.length then wiN ns { nAt ns (ns.findIdx (isP p)) with cver := mor (nAt ns (ns.findIdx (isP p))).cver, pz := z } else ns

/-- A row made since. -/
def New (w : World) (v : Value) : Prop := (∃ n c, v = .slice none n c) ∨ ∃ g n c, v = .slice (some ⟨g, 0, none⟩) n c ∧ w.heap.size ≤ g
def Fresh (w : World) (v v' : Value) : Prop := v' = v ∨ New w v'
theorem OwnN.new9 {e : TypeId} {w w' : World} {lo : Nat} {v : Value} {ns : List Nd} (h : OwnN e w' lo v ns) (hl : w.heap.size ≤ lo) : New w v := by
  rcases h.2 with ⟨rfl, -⟩ | ⟨g, cap, cur, rfl, hb, -⟩
  · exact .inl ⟨_, _, rfl⟩
  · exact .inr ⟨g, _, _, rfl, Nat.le_trans hl hb⟩
theorem Fresh.new {w w7 : World} {v7 v8 : Value} (f : Fresh w7 v7 v8) (h : New w v7) (hs : w.heap.size ≤ w7.heap.size) : New w v8 := by
  rcases f with rfl | f | ⟨g, n, c, rfl, hg⟩
  · exact h
  · exact .inl f
  · exact .inr ⟨g, n, c, rfl, Nat.le_trans hs hg⟩

set_option maxHeartbeats 1000000 in
set_option maxRecDepth 100000 in
theorem l3More_any (w : World) (x : Int) (h0 : -1 ≤ x) (h1 : x ≤ 2147483647) : Calls Tryd.prog 166 #[.int .i64 x] w fun e w' => e = .returned (.int .i64 (mor x)) ∧ w' = w := by
  by_cases e : x = 2147483647
  · subst e
    go_enter Tryd.func166, Tryd.ntmps166
    go_wp2
    go_ret
    exact ⟨rfl, rfl⟩
  · have hb : (x == 2147483647) = false := by simp [e]
    have HM : Hid (mor x = x + 1) := by show _ = _; unfold mor; rw [if_neg e]
    clear e
    go_enter Tryd.func166, Tryd.ntmps166
    go_wp2
    go_ret
    exact ⟨by rw [HM.out]; rfl, rfl⟩

set_option maxHeartbeats 1000000 in
set_option maxRecDepth 100000 in
theorem l3Touch_any (w : World) (v : Value) (ns : List Nd) (p : ByteArray) (z : Int) (h : RdN w v ns) (hn : ns.length ≤ 100000) (hok : ∀ k, k < ns.length → -1 ≤ (nAt ns k).cver ∧ (nAt ns k).cver ≤ 2147483647) :
    Calls Tryd.prog 164 #[v, .string p, .int .i64 z] w fun e w' => ∃ v', e = .returned v' ∧ RdN w' v' (toN ns p z) ∧ Fresh w v v' ∧ Below w.heap.size w w' := by
  obtain ⟨ao, ca, rfl, _, _⟩ := h.len
  have HR : Hid (RdN w (.slice ao ns.length ca) ns) := h
  have HO : Hid (∀ k, k < ns.length → -1 ≤ (nAt ns k).cver ∧ (nAt ns k).cver ≤ 2147483647) := hok
  clear h hok
  go_enter Tryd.func164, Tryd.ntmps164
  go_wp2_with fail
  refine (l3Find_any w _ ns p HR.out (by omega)).mono ?_
  rintro e w1 ⟨rfl, rfl⟩
  by_cases hf : ns.findIdx (isP p) < ns.length
  · have HT : Hid (toN ns p z = wiN ns { nAt ns (ns.findIdx (isP p)) with cver := mor (nAt ns (ns.findIdx (isP p))).cver, pz := z }) := by show _ = _; unfold toN; rw [if_pos hf]
    rw [show fdV ns p = ((ns.findIdx (isP p) : Nat) : Int) by unfold fdV; rw [if_pos hf]]
    generalize ns.findIdx (isP p) = k at *
    have hI : ¬ (k : Int) < 0 := by omega
    have hkI : (k : Int) < (ns.length : Int) := by omega
    obtain ⟨b, o, hao, hb, hc⟩ : ∃ b o, ao = some ⟨b, o, none⟩ ∧ b < w1.heap.size ∧ CellsN w1 b (o + k * 7) (nAt ns k) := by
      obtain ⟨ao', cap', e', -, -, h3⟩ := HR.out
      simp only [Value.slice.injEq] at e'
      obtain ⟨rfl, -, -⟩ := e'
      rcases h3 with h3 | ⟨b, o, rfl, hb, hc⟩
      · rw [h3] at hf; simp at hf
      · exact ⟨b, o, rfl, hb, hc k hf⟩
    subst hao
    obtain ⟨c0, c1, c2, c3, c4, c5, c6⟩ := hc
    have hcv : -1 ≤ (nAt ns k).cver ∧ (nAt ns k).cver ≤ 2147483647 := HO.out k hf
    generalize nAt ns k = m at *
    go_wp2_with fail
    refine (l3More_any _ m.cver hcv.1 hcv.2).mono ?_
    rintro e w2 ⟨rfl, rfl⟩
    go_wp2_with fail
    have ba : Below w1.heap.size w1 (w1.alloc (.cells #[.string m.path, .string m.data, .int .i64 m.ver, .int .i64 (mor m.cver), .int .i64 m.cz, .int .i64 m.mz, .int .i64 z] 84)) := (Below.refl _ _).alloc (Nat.le_refl _) _
    refine (with_any _ _ ns ⟨m.path, m.data, m.ver, mor m.cver, m.cz, m.mz, z⟩ (HR.out.below ba) (by omega)).mono ?_
    rintro e w3 ⟨v3, rfl, o3, b3⟩
    obtain ⟨a3, k3, hv3⟩ := o3.slice
    subst hv3
    have R3 : Hid (RdN w3 (.slice a3 (wiN ns ⟨m.path, m.data, m.ver, mor m.cver, m.cz, m.mz, z⟩).length k3) (toN ns p z)) := by rw [HT.out]; exact o3.rd
    have F3 : Hid (New w1 (.slice a3 (wiN ns ⟨m.path, m.data, m.ver, mor m.cver, m.cz, m.mz, z⟩).length k3)) := OwnN.new9 o3 (by simp)
    have B3 : Hid (Below w1.heap.size w1 w3) := ba.trans (b3.mono (by simp))
    clear o3 b3 ba HT c0 c1 c2 c3 c4 c5 c6
    go_wp2
    go_ret
    exact ⟨_, rfl, R3.out, .inr F3.out, B3.out⟩
  · have HT : Hid (toN ns p z = ns) := by show _ = _; unfold toN; rw [if_neg hf]
    rw [show fdV ns p = -1 by unfold fdV; rw [if_neg hf]]
    go_wp2
    go_ret
    exact ⟨_, rfl, by rw [HT.out]; exact HR.out, .inl rfl, Below.refl _ _⟩

end Go.Proofs.YtcopcegamadkgaaDoor

namespace Go.Proofs.YtcopcegamadkgaaDoor
open Go.RowKit Go.Shelf

/-- An operation. -/
structure Op5 where
  kind : Int
  path : ByteArray
  data : ByteArray
  ver : Int
  seq : Bool
def wfO (o : Op5) : Bool :=
  decide (1 ≤ o.kind) && decide (o.kind ≤ 4) && okPath o.path && decide (o.data.size ≤ 64) && (decide (o.kind = 1) || decide (o.kind = 3) || decide (o.data.size = 0)) &&
    (if o.kind = 1 then decide (o.ver = 0) && !(o.path.toList == [47]) else decide (-1 ≤ o.ver) && decide (o.ver ≤ 2147483647) && !o.seq && (!decide (o.kind = 2) || !(o.path.toList == [47])))

set_option maxHeartbeats 1000000 in
set_option maxRecDepth 100000 in
theorem l3Well_any (w : World) (o : Op5) (hp : o.path.size ≤ 1048576) (hd : o.data.size ≤ 1048576) :
    Calls Tryd.prog 161 #[.agg #[.int .i64 o.kind, .string o.path, .string o.data, .int .i64 o.ver, .bool o.seq]] w fun e w' => e = .returned (.bool (wfO o)) ∧ Below w.heap.size w w' := by
  obtain ⟨kind, path, data, ver, seq⟩ := o
  simp only at *
  have B0 : Hid (Below w.heap.size w (w.alloc (.cells #[.int .i64 kind, .string path, .string data, .int .i64 ver, .bool seq] 176))) := (Below.refl _ _).alloc (Nat.le_refl _) _
  by_cases h1 : kind < 1
  · have HW : Hid (wfO ⟨kind, path, data, ver, seq⟩ = false) := by show _ = _; unfold wfO; simp only [Bool.and_eq_false_iff, decide_eq_false_iff_not]; omega
    go_enter Tryd.func161, Tryd.ntmps161
    go_wp2
    go_ret
    exact ⟨by rw [HW.out]; rfl, B0.out⟩
  by_cases h4 : 4 < kind
  · have HW : Hid (wfO ⟨kind, path, data, ver, seq⟩ = false) := by show _ = _; unfold wfO; simp only [Bool.and_eq_false_iff, decide_eq_false_iff_not]; omega
    go_enter Tryd.func161, Tryd.ntmps161
    go_wp2
    go_ret
    exact ⟨by rw [HW.out]; rfl, B0.out⟩
  have C0 : Hid (∀ W, Below (w.alloc (.cells #[.int .i64 kind, .string path, .string data, .int .i64 ver, .bool seq] 176)).heap.size (w.alloc (.cells #[.int .i64 kind, .string path, .string data, .int .i64 ver, .bool seq] 176)) W → W.cell? ⟨w.heap.size, 0, none⟩ = some (.int .i64 kind) ∧ W.cell? ⟨w.heap.size, 1, none⟩ = some (.string path) ∧ W.cell? ⟨w.heap.size, 2, none⟩ = some (.string data) ∧ W.cell? ⟨w.heap.size, 3, none⟩ = some (.int .i64 ver) ∧ W.cell? ⟨w.heap.size, 4, none⟩ = some (.bool seq)) := by
    intro W hW
    have hl : w.heap.size < (w.alloc (.cells #[.int .i64 kind, .string path, .string data, .int .i64 ver, .bool seq] 176)).heap.size := by simp
    refine ⟨(hW.cell (p := ⟨w.heap.size, 0, none⟩) hl).trans (by go_simp), (hW.cell (p := ⟨w.heap.size, 1, none⟩) hl).trans (by go_simp), (hW.cell (p := ⟨w.heap.size, 2, none⟩) hl).trans (by go_simp), (hW.cell (p := ⟨w.heap.size, 3, none⟩) hl).trans (by go_simp), (hW.cell (p := ⟨w.heap.size, 4, none⟩) hl).trans (by go_simp)⟩
  go_enter Tryd.func161, Tryd.ntmps161
  go_wp2_with fail
  refine (specPath_any _ path hp).mono ?_
  rintro e w1 ⟨rfl, b1⟩
  obtain ⟨c0, c1, c2, c3, c4⟩ := C0.out w1 b1
  have B1 : Hid (Below w.heap.size w w1) := B0.out.trans (b1.mono (by simp))
  clear b1 C0 B0
  cases hpk : okPath path with
  | false =>
    have HW : Hid (wfO ⟨kind, path, data, ver, seq⟩ = false) := by show _ = _; unfold wfO; simp [hpk]
    go_wp2
    go_ret
    exact ⟨by rw [HW.out]; rfl, B1.out⟩
  | true =>
    have HPK : Hid (okPath path = true) := hpk
    clear hpk
    by_cases hds : 64 < data.size
    · have HW : Hid (wfO ⟨kind, path, data, ver, seq⟩ = false) := by show _ = _; unfold wfO; simp; omega
      have hdI : (64 : Int) < (data.size : Int) := by omega
      go_wp2
      go_ret
      exact ⟨by rw [HW.out]; rfl, B1.out⟩
    have hdI : ¬ (64 : Int) < (data.size : Int) := by omega
    have hk : kind = 1 ∨ kind = 2 ∨ kind = 3 ∨ kind = 4 := by omega
    clear h1 h4
    have hds' : data.size ≤ 64 := by omega
    have HDE : Hid ((data.toList == []) = decide (data.size = 0)) := by
      show _ = _
      have e : data.size = data.data.toList.length := by rw [Array.length_toList]; rfl
      rw [ByteArray.toList_eq, e]
      cases data.data.toList <;> simp
    rcases hk with rfl | rfl | rfl | rfl
    all_goals
      cases hps : (path.toList == [47]) <;> cases hdd : (data.toList == []) <;> go_wp2
    all_goals
      go_ret
      refine ⟨ret_b ?_, B1.out⟩
      have hpk := HPK.out
      have hde := HDE.out
      rw [hdd] at hde
      unfold wfO
      simp only [hpk, hps]
      simp_all <;> (intros; omega)

end Go.Proofs.YtcopcegamadkgaaDoor

namespace Go.Proofs.YtcopcegamadkgaaDoor
open Go.RowKit

/-- The version that is asked for. -/
def Sr.vers (s : Sr) : Int × Sr := if (s.next 3).1 = 0 then ((((s.next 3).2.next 3).1 : Int), ((s.next 3).2.next 3).2) else (-1, (s.next 3).2)
/-- A drawn operation. -/
def Sr.op (s : Sr) (ns : List Nd) : Op5 × Sr :=
  if (s.next 12).1 < 5 then (⟨1, ((s.next 12).2.near ns).1, ((s.next 12).2.near ns).2.data.1, 0, (((s.next 12).2.near ns).2.data.2.next 4).1 == 0⟩, (((s.next 12).2.near ns).2.data.2.next 4).2)
  else if (s.next 12).1 < 7 then (⟨2, ((s.next 12).2.vers.2.near ns).1, ⟨#[]⟩, (s.next 12).2.vers.1, false⟩, ((s.next 12).2.vers.2.near ns).2)
  else if (s.next 12).1 < 10 then (⟨3, ((s.next 12).2.vers.2.near ns).1, ((s.next 12).2.vers.2.near ns).2.data.1, (s.next 12).2.vers.1, false⟩, ((s.next 12).2.vers.2.near ns).2.data.2)
  else (⟨4, ((s.next 12).2.vers.2.near ns).1, ⟨#[]⟩, (s.next 12).2.vers.1, false⟩, ((s.next 12).2.vers.2.near ns).2)

/-- What a drawing of an operation holds besides its source. -/
def NbO (W : World) (v : Value) (w : World) : Prop :=
  w.cell? ⟨W.heap.size, 0, none⟩ = some v ∧ w.cell? ⟨W.heap.size + 1, 0, none⟩ = some (.int .i64 0) ∧ w.cell? ⟨W.heap.size + 1, 1, none⟩ = some (.string ⟨#[]⟩) ∧ w.cell? ⟨W.heap.size + 1, 2, none⟩ = some (.string ⟨#[]⟩) ∧ w.cell? ⟨W.heap.size + 1, 3, none⟩ = some (.int .i64 0) ∧ w.cell? ⟨W.heap.size + 1, 4, none⟩ = some (.bool false) ∧ (∀ j, w.frozen? ⟨W.heap.size + 1, j, none⟩ = false) ∧ W.heap.size + 2 ≤ w.heap.size
theorem NbO.tch {W w w' : World} {v : Value} {k : Nat} (h : NbO W v w) (t : Tch k w w') (hk : k < W.heap.size) : NbO W v w' := by
  obtain ⟨h0, h1, h2, h3, h4, h5, hf, hs⟩ := h
  have a := t.2 W.heap.size (by omega) (by omega)
  have b := t.2 (W.heap.size + 1) (by omega) (by omega)
  exact ⟨(World.cell?_of_block (w := w) (a := ⟨W.heap.size, 0, none⟩) a).trans h0, (World.cell?_of_block (w := w) (a := ⟨W.heap.size + 1, 0, none⟩) b).trans h1, (World.cell?_of_block (w := w) (a := ⟨W.heap.size + 1, 1, none⟩) b).trans h2, (World.cell?_of_block (w := w) (a := ⟨W.heap.size + 1, 2, none⟩) b).trans h3, (World.cell?_of_block (w := w) (a := ⟨W.heap.size + 1, 3, none⟩) b).trans h4, (World.cell?_of_block (w := w) (a := ⟨W.heap.size + 1, 4, none⟩) b).trans h5, fun j => (World.frozen?_of_block (w := w) b).trans (hf j), Nat.le_trans hs t.size⟩
theorem NbO.new (W : World) (v : Value) (t1 t2 : TypeId) : NbO W v ((W.alloc (.cells #[v] t1)).alloc (.cells #[.int .i64 0, .string ⟨#[]⟩, .string ⟨#[]⟩, .int .i64 0, .bool false] t2)) := by
  have e : (W.alloc (.cells #[v] t1)).heap.size = W.heap.size + 1 := by simp
  have h1 : ((W.alloc (.cells #[v] t1)).alloc (.cells #[.int .i64 0, .string ⟨#[]⟩, .string ⟨#[]⟩, .int .i64 0, .bool false] t2)).heap[W.heap.size + 1]? = some (.cells #[.int .i64 0, .string ⟨#[]⟩, .string ⟨#[]⟩, .int .i64 0, .bool false] t2) := by
    rw [← e]; exact heap_alloc_new _ _
  refine ⟨by go_simp, (cell_of h1 _).trans rfl, (cell_of h1 _).trans rfl, (cell_of h1 _).trans rfl, (cell_of h1 _).trans rfl, (cell_of h1 _).trans rfl, fun j => by go_simp, by simp⟩

set_option maxHeartbeats 4000000 in
set_option maxRecDepth 100000 in
theorem op_k (W : World) (k B : Nat) (s : Sr) (v : Value) (ns : List Nd) (h : SRX W k B s) (ho : RdN W v ns) (hlo : OffK k v) (hn : ns.length ≤ 1000000) (hps : ∀ i, i < ns.length → (nAt ns i).path.size ≤ 1000) :
    Calls Tryd.prog 123 #[.pointer (some ⟨k, 0, none⟩), .agg #[v]] W fun e w' => e = .returned (.agg #[.int .i64 (s.op ns).1.kind, .string (s.op ns).1.path, .string (s.op ns).1.data, .int .i64 (s.op ns).1.ver, .bool (s.op ns).1.seq]) ∧ SRX w' k B (s.op ns).2 ∧ Tch k W w' := by
  have hk1 := h.kB
  have hk2 := h.lt
  have B0 : Hid (Below W.heap.size W ((W.alloc (.cells #[v] 36)).alloc (.cells #[.int .i64 0, .string ⟨#[]⟩, .string ⟨#[]⟩, .int .i64 0, .bool false] 176))) := ((Below.refl _ _).alloc (Nat.le_refl _) _).alloc (by simp) _
  have S0 : Hid (SRX ((W.alloc (.cells #[v] 36)).alloc (.cells #[.int .i64 0, .string ⟨#[]⟩, .string ⟨#[]⟩, .int .i64 0, .bool false] 176)) k B s) := h.keep (B0.out.mono hk2)
  have T0 : Hid (Tch k W ((W.alloc (.cells #[v] 36)).alloc (.cells #[.int .i64 0, .string ⟨#[]⟩, .string ⟨#[]⟩, .int .i64 0, .bool false] 176))) := Tch.of B0.out
  have X0 : Hid (NbO W v ((W.alloc (.cells #[v] 36)).alloc (.cells #[.int .i64 0, .string ⟨#[]⟩, .string ⟨#[]⟩, .int .i64 0, .bool false] 176))) := NbO.new _ _ _ _
  have HO : Hid (RdN W v ns) := ho
  obtain ⟨av, cv, rfl⟩ : ∃ a c, v = .slice a ns.length c := by
    obtain ⟨a, c, h0, _⟩ := ho.len
    exact ⟨a, c, h0⟩
  have HLO : Hid (OffK k (.slice av ns.length cv)) := hlo
  have HPS : Hid (∀ i, i < ns.length → (nAt ns i).path.size ≤ 1000) := hps
  -- a box's end: what is stored, what is left
  have HEND : Hid (∀ (w' : World) (o : Op5) (q : Sr), SRX w' k B q → Tch k W w' → SRX (((((w'.setCell ⟨W.heap.size + 1, 0, none⟩ (.int .i64 o.kind)).setCell ⟨W.heap.size + 1, 1, none⟩ (.string o.path)).setCell ⟨W.heap.size + 1, 2, none⟩ (.string o.data)).setCell ⟨W.heap.size + 1, 3, none⟩ (.int .i64 o.ver)).setCell ⟨W.heap.size + 1, 4, none⟩ (.bool o.seq)) k B q ∧ Tch k W (((((w'.setCell ⟨W.heap.size + 1, 0, none⟩ (.int .i64 o.kind)).setCell ⟨W.heap.size + 1, 1, none⟩ (.string o.path)).setCell ⟨W.heap.size + 1, 2, none⟩ (.string o.data)).setCell ⟨W.heap.size + 1, 3, none⟩ (.int .i64 o.ver)).setCell ⟨W.heap.size + 1, 4, none⟩ (.bool o.seq))) := by
    intro w' o q hs ht
    have bS : Below W.heap.size w' (((((w'.setCell ⟨W.heap.size + 1, 0, none⟩ (.int .i64 o.kind)).setCell ⟨W.heap.size + 1, 1, none⟩ (.string o.path)).setCell ⟨W.heap.size + 1, 2, none⟩ (.string o.data)).setCell ⟨W.heap.size + 1, 3, none⟩ (.int .i64 o.ver)).setCell ⟨W.heap.size + 1, 4, none⟩ (.bool o.seq)) := by
      repeat (first | exact Below.refl _ _ | refine Below.setCell ?_ (by simp) _)
    exact ⟨hs.keep (bS.mono hk2), ht.then bS⟩
  obtain ⟨res, hres⟩ : ∃ res, res = s.op ns := ⟨_, rfl⟩
  have HR : Hid (s.op ns = res) := hres.symm
  rw [← hres]
  have hkW : k < W.heap.size := by omega
  clear h hres ho hps hlo
  unfold Sr.op at HR
  go_enter Tryd.func123, Tryd.ntmps123
  go_wp2_with fail
  generalize (W.alloc (.cells #[.slice av ns.length cv] 36)).alloc (.cells #[.int .i64 0, .string ⟨#[]⟩, .string ⟨#[]⟩, .int .i64 0, .bool false] 176) = w0 at *
  refine (next_x _ k B 12 s S0.out (by omega)).mono ?_
  rintro e w1 ⟨rfl, s1, t1⟩
  have hn1 := s.next_lt 12 (by omega)
  generalize (s.next 12).2 = r1 at *
  generalize (s.next 12).1 = n1 at *
  have S1 : Hid (SRX w1 k B r1) := s1
  have T1 : Hid (Tch k W w1) := T0.out.trans t1
  have X1 : Hid (NbO W (.slice av ns.length cv) w1) := X0.out.tch t1 hkW
  clear s1 t1 S0 T0 X0 B0
  by_cases h5 : n1 < 5
  · rw [if_pos h5] at HR
    have h5I : (n1 : Int) < 5 := by omega
    have x0 := X1.out.1
    go_wp2_with fail
    clear x0
    refine (near_k _ k B r1 _ ns S1.out (HO.out.tchK HLO.out T1.out) HLO.out hn HPS.out).mono ?_
    rintro e w2 ⟨rfl, s2, t2⟩
    generalize r1.near ns = p at *
    have S2 : Hid (SRX w2 k B p.2) := s2
    have T2 : Hid (Tch k W w2) := T1.out.trans t2
    have X2 : Hid (NbO W (.slice av ns.length cv) w2) := X1.out.tch t2 hkW
    clear s2 t2 S1 T1 X1
    go_wp2_with fail
    refine (data_x _ k B p.2 S2.out).mono ?_
    rintro e w3 ⟨rfl, s3, t3⟩
    generalize p.2.data = d at *
    have S3 : Hid (SRX w3 k B d.2) := s3
    have T3 : Hid (Tch k W w3) := T2.out.trans t3
    have X3 : Hid (NbO W (.slice av ns.length cv) w3) := X2.out.tch t3 hkW
    clear s3 t3 S2 T2 X2
    go_wp2_with fail
    refine (next_x _ k B 4 d.2 S3.out (by omega)).mono ?_
    rintro e w4 ⟨rfl, s4, t4⟩
    have hn4 := d.2.next_lt 4 (by omega)
    have F := fun o => HEND.out w4 o _ s4 (T3.out.trans t4)
    generalize (d.2.next 4).2 = r4 at *
    generalize (d.2.next 4).1 = n4 at *
    have X4 : Hid (NbO W (.slice av ns.length cv) w4) := X3.out.tch t4 hkW
    have HF : Hid (∀ o : Op5, SRX (((((w4.setCell ⟨W.heap.size + 1, 0, none⟩ (.int .i64 o.kind)).setCell ⟨W.heap.size + 1, 1, none⟩ (.string o.path)).setCell ⟨W.heap.size + 1, 2, none⟩ (.string o.data)).setCell ⟨W.heap.size + 1, 3, none⟩ (.int .i64 o.ver)).setCell ⟨W.heap.size + 1, 4, none⟩ (.bool o.seq)) k B r4 ∧ Tch k W (((((w4.setCell ⟨W.heap.size + 1, 0, none⟩ (.int .i64 o.kind)).setCell ⟨W.heap.size + 1, 1, none⟩ (.string o.path)).setCell ⟨W.heap.size + 1, 2, none⟩ (.string o.data)).setCell ⟨W.heap.size + 1, 3, none⟩ (.int .i64 o.ver)).setCell ⟨W.heap.size + 1, 4, none⟩ (.bool o.seq))) := F
    clear F s4 t4 S3 T3 X3
    have e4 : ((n4 : Int) == 0) = (n4 == 0) := by
      rw [Bool.eq_iff_iff, beq_iff_eq, beq_iff_eq]; omega
    obtain ⟨-, d0, d1, d2, d3, d4, df, dz⟩ := X4.out
    have f0 := df 0
    have f1 := df 1
    have f2 := df 2
    have f3 := df 3
    have f4 := df 4
    clear df
    go_wp2
    rw [← HR.out]
    exact bodyPost_ret (v := .agg #[.int .i64 (1), .string p.1, .string d.1, .int .i64 (0), .bool (n4 == 0)]) (by simp [results, Tryd.results123, go_sem, d0, d1, d2, d3, d4]) rfl ⟨rfl, HF.out ⟨1, p.1, d.1, 0, n4 == 0⟩⟩
  · rw [if_neg h5] at HR
    have h5I : ¬ (n1 : Int) < 5 := by omega
    go_wp2_with fail
    refine (next_x _ k B 3 r1 S1.out (by omega)).mono ?_
    rintro e w2 ⟨rfl, s2, t2⟩
    have hn2 := r1.next_lt 3 (by omega)
    unfold Sr.vers at HR
    generalize (r1.next 3).2 = r2 at *
    generalize (r1.next 3).1 = n2 at *
    have S2 : Hid (SRX w2 k B r2) := s2
    have T2 : Hid (Tch k W w2) := T1.out.trans t2
    have X2 : Hid (NbO W (.slice av ns.length cv) w2) := X1.out.tch t2 hkW
    clear s2 t2 S1 T1 X1
    by_cases h0 : n2 = 0
    · subst h0
      simp only [if_true] at HR
      go_wp2_with fail
      refine (next_x _ k B 3 r2 S2.out (by omega)).mono ?_
      rintro e w3 ⟨rfl, s3, t3⟩
      have hn3 := r2.next_lt 3 (by omega)
      generalize (r2.next 3).2 = r3 at *
      generalize (r2.next 3).1 = n3 at *
      have S3 : Hid (SRX w3 k B r3) := s3
      have T3 : Hid (Tch k W w3) := T2.out.trans t3
      have X3 : Hid (NbO W (.slice av ns.length cv) w3) := X2.out.tch t3 hkW
      clear s3 t3 S2 T2 X2
      by_cases h7 : n1 < 7
      · rw [if_pos h7] at HR
        have h7I : (n1 : Int) < 7 := by omega
        have x0 := X3.out.1
        go_wp2_with fail
        clear x0
        refine (near_k _ k B r3 _ ns S3.out (HO.out.tchK HLO.out T3.out) HLO.out hn HPS.out).mono ?_
        rintro e w4 ⟨rfl, s4, t4⟩
        generalize r3.near ns = p at *
        have S4 : Hid (SRX w4 k B p.2) := s4
        have T4 : Hid (Tch k W w4) := T3.out.trans t4
        have X4 : Hid (NbO W (.slice av ns.length cv) w4) := X3.out.tch t4 hkW
        clear s4 t4 S3 T3 X3
        have HF : Hid (∀ o : Op5, SRX (((((w4.setCell ⟨W.heap.size + 1, 0, none⟩ (.int .i64 o.kind)).setCell ⟨W.heap.size + 1, 1, none⟩ (.string o.path)).setCell ⟨W.heap.size + 1, 2, none⟩ (.string o.data)).setCell ⟨W.heap.size + 1, 3, none⟩ (.int .i64 o.ver)).setCell ⟨W.heap.size + 1, 4, none⟩ (.bool o.seq)) k B p.2 ∧ Tch k W (((((w4.setCell ⟨W.heap.size + 1, 0, none⟩ (.int .i64 o.kind)).setCell ⟨W.heap.size + 1, 1, none⟩ (.string o.path)).setCell ⟨W.heap.size + 1, 2, none⟩ (.string o.data)).setCell ⟨W.heap.size + 1, 3, none⟩ (.int .i64 o.ver)).setCell ⟨W.heap.size + 1, 4, none⟩ (.bool o.seq))) := fun o => HEND.out w4 o _ S4.out T4.out
        obtain ⟨-, d0, d1, d2, d3, d4, df, dz⟩ := X4.out
        have f0 := df 0
        have f1 := df 1
        have f2 := df 2
        have f3 := df 3
        have f4 := df 4
        clear df
        clear S4 T4 X4 HEND
        go_wp2
        rw [← HR.out]
        exact bodyPost_ret (v := .agg #[.int .i64 (2), .string p.1, .string ⟨#[]⟩, .int .i64 ((n3 : Int)), .bool (false)]) (by simp [results, Tryd.results123, go_sem, d0, d1, d2, d3, d4]) rfl ⟨rfl, HF.out ⟨2, p.1, ⟨#[]⟩, (n3 : Int), false⟩⟩
      rw [if_neg h7] at HR
      have h7I : ¬ (n1 : Int) < 7 := by omega
      by_cases h10 : n1 < 10
      · rw [if_pos h10] at HR
        have h10I : (n1 : Int) < 10 := by omega
        have x0 := X3.out.1
        go_wp2_with fail
        clear x0
        refine (near_k _ k B r3 _ ns S3.out (HO.out.tchK HLO.out T3.out) HLO.out hn HPS.out).mono ?_
        rintro e w4 ⟨rfl, s4, t4⟩
        generalize r3.near ns = p at *
        have S4 : Hid (SRX w4 k B p.2) := s4
        have T4 : Hid (Tch k W w4) := T3.out.trans t4
        have X4 : Hid (NbO W (.slice av ns.length cv) w4) := X3.out.tch t4 hkW
        clear s4 t4 S3 T3 X3
        go_wp2_with fail
        refine (data_x _ k B p.2 S4.out).mono ?_
        rintro e w5 ⟨rfl, s5, t5⟩
        generalize p.2.data = d at *
        have S5 : Hid (SRX w5 k B d.2) := s5
        have T5 : Hid (Tch k W w5) := T4.out.trans t5
        have X5 : Hid (NbO W (.slice av ns.length cv) w5) := X4.out.tch t5 hkW
        clear s5 t5 S4 T4 X4
        have HF : Hid (∀ o : Op5, SRX (((((w5.setCell ⟨W.heap.size + 1, 0, none⟩ (.int .i64 o.kind)).setCell ⟨W.heap.size + 1, 1, none⟩ (.string o.path)).setCell ⟨W.heap.size + 1, 2, none⟩ (.string o.data)).setCell ⟨W.heap.size + 1, 3, none⟩ (.int .i64 o.ver)).setCell ⟨W.heap.size + 1, 4, none⟩ (.bool o.seq)) k B d.2 ∧ Tch k W (((((w5.setCell ⟨W.heap.size + 1, 0, none⟩ (.int .i64 o.kind)).setCell ⟨W.heap.size + 1, 1, none⟩ (.string o.path)).setCell ⟨W.heap.size + 1, 2, none⟩ (.string o.data)).setCell ⟨W.heap.size + 1, 3, none⟩ (.int .i64 o.ver)).setCell ⟨W.heap.size + 1, 4, none⟩ (.bool o.seq))) := fun o => HEND.out w5 o _ S5.out T5.out
        obtain ⟨-, d0, d1, d2, d3, d4, df, dz⟩ := X5.out
        have f0 := df 0
        have f1 := df 1
        have f2 := df 2
        have f3 := df 3
        have f4 := df 4
        clear df
        clear S5 T5 X5 HEND
        go_wp2
        rw [← HR.out]
        exact bodyPost_ret (v := .agg #[.int .i64 (3), .string p.1, .string d.1, .int .i64 ((n3 : Int)), .bool (false)]) (by simp [results, Tryd.results123, go_sem, d0, d1, d2, d3, d4]) rfl ⟨rfl, HF.out ⟨3, p.1, d.1, (n3 : Int), false⟩⟩
      rw [if_neg h10] at HR
      have h10I : ¬ (n1 : Int) < 10 := by omega
      have x0 := X3.out.1
      go_wp2_with fail
      clear x0
      refine (near_k _ k B r3 _ ns S3.out (HO.out.tchK HLO.out T3.out) HLO.out hn HPS.out).mono ?_
      rintro e w4 ⟨rfl, s4, t4⟩
      generalize r3.near ns = p at *
      have S4 : Hid (SRX w4 k B p.2) := s4
      have T4 : Hid (Tch k W w4) := T3.out.trans t4
      have X4 : Hid (NbO W (.slice av ns.length cv) w4) := X3.out.tch t4 hkW
      clear s4 t4 S3 T3 X3
      have HF : Hid (∀ o : Op5, SRX (((((w4.setCell ⟨W.heap.size + 1, 0, none⟩ (.int .i64 o.kind)).setCell ⟨W.heap.size + 1, 1, none⟩ (.string o.path)).setCell ⟨W.heap.size + 1, 2, none⟩ (.string o.data)).setCell ⟨W.heap.size + 1, 3, none⟩ (.int .i64 o.ver)).setCell ⟨W.heap.size + 1, 4, none⟩ (.bool o.seq)) k B p.2 ∧ Tch k W (((((w4.setCell ⟨W.heap.size + 1, 0, none⟩ (.int .i64 o.kind)).setCell ⟨W.heap.size + 1, 1, none⟩ (.string o.path)).setCell ⟨W.heap.size + 1, 2, none⟩ (.string o.data)).setCell ⟨W.heap.size + 1, 3, none⟩ (.int .i64 o.ver)).setCell ⟨W.heap.size + 1, 4, none⟩ (.bool o.seq))) := fun o => HEND.out w4 o _ S4.out T4.out
      obtain ⟨-, d0, d1, d2, d3, d4, df, dz⟩ := X4.out
      have f0 := df 0
      have f1 := df 1
      have f2 := df 2
      have f3 := df 3
      have f4 := df 4
      clear df
      clear S4 T4 X4 HEND
      go_wp2
      rw [← HR.out]
      exact bodyPost_ret (v := .agg #[.int .i64 (4), .string p.1, .string ⟨#[]⟩, .int .i64 ((n3 : Int)), .bool (false)]) (by simp [results, Tryd.results123, go_sem, d0, d1, d2, d3, d4]) rfl ⟨rfl, HF.out ⟨4, p.1, ⟨#[]⟩, (n3 : Int), false⟩⟩
    · rw [if_neg h0] at HR
      have h0b : ((n2 : Int) == 0) = false := beq_eq_false_iff_ne.2 (by omega)
      by_cases h7 : n1 < 7
      · rw [if_pos h7] at HR
        have h7I : (n1 : Int) < 7 := by omega
        have x0 := X2.out.1
        go_wp2_with fail
        clear x0
        refine (near_k _ k B r2 _ ns S2.out (HO.out.tchK HLO.out T2.out) HLO.out hn HPS.out).mono ?_
        rintro e w3 ⟨rfl, s3, t3⟩
        generalize r2.near ns = p at *
        have S3 : Hid (SRX w3 k B p.2) := s3
        have T3 : Hid (Tch k W w3) := T2.out.trans t3
        have X3 : Hid (NbO W (.slice av ns.length cv) w3) := X2.out.tch t3 hkW
        clear s3 t3 S2 T2 X2
        have HF : Hid (∀ o : Op5, SRX (((((w3.setCell ⟨W.heap.size + 1, 0, none⟩ (.int .i64 o.kind)).setCell ⟨W.heap.size + 1, 1, none⟩ (.string o.path)).setCell ⟨W.heap.size + 1, 2, none⟩ (.string o.data)).setCell ⟨W.heap.size + 1, 3, none⟩ (.int .i64 o.ver)).setCell ⟨W.heap.size + 1, 4, none⟩ (.bool o.seq)) k B p.2 ∧ Tch k W (((((w3.setCell ⟨W.heap.size + 1, 0, none⟩ (.int .i64 o.kind)).setCell ⟨W.heap.size + 1, 1, none⟩ (.string o.path)).setCell ⟨W.heap.size + 1, 2, none⟩ (.string o.data)).setCell ⟨W.heap.size + 1, 3, none⟩ (.int .i64 o.ver)).setCell ⟨W.heap.size + 1, 4, none⟩ (.bool o.seq))) := fun o => HEND.out w3 o _ S3.out T3.out
        obtain ⟨-, d0, d1, d2, d3, d4, df, dz⟩ := X3.out
        have f0 := df 0
        have f1 := df 1
        have f2 := df 2
        have f3 := df 3
        have f4 := df 4
        clear df
        clear S3 T3 X3 HEND
        go_wp2
        rw [← HR.out]
        exact bodyPost_ret (v := .agg #[.int .i64 (2), .string p.1, .string ⟨#[]⟩, .int .i64 (-1), .bool (false)]) (by simp [results, Tryd.results123, go_sem, d0, d1, d2, d3, d4]) rfl ⟨rfl, HF.out ⟨2, p.1, ⟨#[]⟩, -1, false⟩⟩
      rw [if_neg h7] at HR
      have h7I : ¬ (n1 : Int) < 7 := by omega
      by_cases h10 : n1 < 10
      · rw [if_pos h10] at HR
        have h10I : (n1 : Int) < 10 := by omega
        have x0 := X2.out.1
        go_wp2_with fail
        clear x0
        refine (near_k _ k B r2 _ ns S2.out (HO.out.tchK HLO.out T2.out) HLO.out hn HPS.out).mono ?_
        rintro e w3 ⟨rfl, s3, t3⟩
        generalize r2.near ns = p at *
        have S3 : Hid (SRX w3 k B p.2) := s3
        have T3 : Hid (Tch k W w3) := T2.out.trans t3
        have X3 : Hid (NbO W (.slice av ns.length cv) w3) := X2.out.tch t3 hkW
        clear s3 t3 S2 T2 X2
        go_wp2_with fail
        refine (data_x _ k B p.2 S3.out).mono ?_
        rintro e w4 ⟨rfl, s4, t4⟩
        generalize p.2.data = d at *
        have S4 : Hid (SRX w4 k B d.2) := s4
        have T4 : Hid (Tch k W w4) := T3.out.trans t4
        have X4 : Hid (NbO W (.slice av ns.length cv) w4) := X3.out.tch t4 hkW
        clear s4 t4 S3 T3 X3
        have HF : Hid (∀ o : Op5, SRX (((((w4.setCell ⟨W.heap.size + 1, 0, none⟩ (.int .i64 o.kind)).setCell ⟨W.heap.size + 1, 1, none⟩ (.string o.path)).setCell ⟨W.heap.size + 1, 2, none⟩ (.string o.data)).setCell ⟨W.heap.size + 1, 3, none⟩ (.int .i64 o.ver)).setCell ⟨W.heap.size + 1, 4, none⟩ (.bool o.seq)) k B d.2 ∧ Tch k W (((((w4.setCell ⟨W.heap.size + 1, 0, none⟩ (.int .i64 o.kind)).setCell ⟨W.heap.size + 1, 1, none⟩ (.string o.path)).setCell ⟨W.heap.size + 1, 2, none⟩ (.string o.data)).setCell ⟨W.heap.size + 1, 3, none⟩ (.int .i64 o.ver)).setCell ⟨W.heap.size + 1, 4, none⟩ (.bool o.seq))) := fun o => HEND.out w4 o _ S4.out T4.out
        obtain ⟨-, d0, d1, d2, d3, d4, df, dz⟩ := X4.out
        have f0 := df 0
        have f1 := df 1
        have f2 := df 2
        have f3 := df 3
        have f4 := df 4
        clear df
        clear S4 T4 X4 HEND
        go_wp2
        rw [← HR.out]
        exact bodyPost_ret (v := .agg #[.int .i64 (3), .string p.1, .string d.1, .int .i64 (-1), .bool (false)]) (by simp [results, Tryd.results123, go_sem, d0, d1, d2, d3, d4]) rfl ⟨rfl, HF.out ⟨3, p.1, d.1, -1, false⟩⟩
      rw [if_neg h10] at HR
      have h10I : ¬ (n1 : Int) < 10 := by omega
      have x0 := X2.out.1
      go_wp2_with fail
      clear x0
      refine (near_k _ k B r2 _ ns S2.out (HO.out.tchK HLO.out T2.out) HLO.out hn HPS.out).mono ?_
      rintro e w3 ⟨rfl, s3, t3⟩
      generalize r2.near ns = p at *
      have S3 : Hid (SRX w3 k B p.2) := s3
      have T3 : Hid (Tch k W w3) := T2.out.trans t3
      have X3 : Hid (NbO W (.slice av ns.length cv) w3) := X2.out.tch t3 hkW
      clear s3 t3 S2 T2 X2
      have HF : Hid (∀ o : Op5, SRX (((((w3.setCell ⟨W.heap.size + 1, 0, none⟩ (.int .i64 o.kind)).setCell ⟨W.heap.size + 1, 1, none⟩ (.string o.path)).setCell ⟨W.heap.size + 1, 2, none⟩ (.string o.data)).setCell ⟨W.heap.size + 1, 3, none⟩ (.int .i64 o.ver)).setCell ⟨W.heap.size + 1, 4, none⟩ (.bool o.seq)) k B p.2 ∧ Tch k W (((((w3.setCell ⟨W.heap.size + 1, 0, none⟩ (.int .i64 o.kind)).setCell ⟨W.heap.size + 1, 1, none⟩ (.string o.path)).setCell ⟨W.heap.size + 1, 2, none⟩ (.string o.data)).setCell ⟨W.heap.size + 1, 3, none⟩ (.int .i64 o.ver)).setCell ⟨W.heap.size + 1, 4, none⟩ (.bool o.seq))) := fun o => HEND.out w3 o _ S3.out T3.out
      obtain ⟨-, d0, d1, d2, d3, d4, df, dz⟩ := X3.out
      have f0 := df 0
      have f1 := df 1
      have f2 := df 2
      have f3 := df 3
      have f4 := df 4
      clear df
      clear S3 T3 X3 HEND
      go_wp2
      rw [← HR.out]
      exact bodyPost_ret (v := .agg #[.int .i64 (4), .string p.1, .string ⟨#[]⟩, .int .i64 (-1), .bool (false)]) (by simp [results, Tryd.results123, go_sem, d0, d1, d2, d3, d4]) rfl ⟨rfl, HF.out ⟨4, p.1, ⟨#[]⟩, -1, false⟩⟩

theorem op_x (W : World) (k B lo : Nat) (s : Sr) (v : Value) (ns : List Nd) (h : SRX W k B s) (ho : OwnN 84 W lo v ns) (hlo : k < lo) (hn : ns.length ≤ 1000000) (hps : ∀ i, i < ns.length → (nAt ns i).path.size ≤ 1000) :
    Calls Tryd.prog 123 #[.pointer (some ⟨k, 0, none⟩), .agg #[v]] W fun e w' => e = .returned (.agg #[.int .i64 (s.op ns).1.kind, .string (s.op ns).1.path, .string (s.op ns).1.data, .int .i64 (s.op ns).1.ver, .bool (s.op ns).1.seq]) ∧ SRX w' k B (s.op ns).2 ∧ Tch k W w' := op_k W k B s v ns h ho.rd (OwnN.offK ho hlo) hn hps

end Go.Proofs.YtcopcegamadkgaaDoor

namespace Go.Proofs.YtcopcegamadkgaaDoor
open Go.RowKit Go.Shelf

/-- The children's names. -/
def chN (ns : List Nd) (p : ByteArray) : List Nd := ns.filter fun n => chB n.path p
theorem chN_yes (ns : List Nd) (p : ByteArray) (k : Nat) (h : k < ns.length) (hc : chB (nAt ns k).path p = true) : chN (ns.take (k + 1)) p = chN (ns.take k) p ++ [nAt ns k] := by
  unfold chN
  rw [List.take_succ_eq_append_getElem h, List.filter_append, ← nAt_get h]
  simp [hc]
theorem chN_no (ns : List Nd) (p : ByteArray) (k : Nat) (h : k < ns.length) (hc : chB (nAt ns k).path p = false) : chN (ns.take (k + 1)) p = chN (ns.take k) p := by
  unfold chN
  rw [List.take_succ_eq_append_getElem h, List.filter_append, ← nAt_get h]
  simp [hc]
theorem chN_len (ns : List Nd) (p : ByteArray) : (chN ns p).length ≤ ns.length := List.length_filter_le _ _
theorem okNd_path {n : Nd} (h : okNd n = true) : okPath n.path = true := by
  unfold okNd at h
  simp only [Bool.and_eq_true] at h
  exact h.1.1.1.1.1.1
/-- A row of texts of the call's own. -/
def OwnS (w : World) (lo : Nat) (v : Value) (L : List (List UInt8)) : Prop := w.ownsRow lo 9 1 v L.length (L.map sV)
theorem OwnS.below {w w' : World} {lo : Nat} {v : Value} {L : List (List UInt8)} (h : OwnS w lo v L) (hb : Below w.heap.size w w') : OwnS w' lo v L := by
  refine ⟨h.1, ?_⟩
  rcases h.2 with hn | ⟨g, cap, cur, rfl, hbg, hgg, rest⟩
  · exact .inl hn
  · exact .inr ⟨g, cap, cur, rfl, hbg, by rw [hb.block g (Array.getElem?_eq_some_iff.1 hgg).1]; exact hgg, rest⟩
theorem OwnS.mono {w : World} {lo lo' : Nat} {v : Value} {L : List (List UInt8)} (h : OwnS w lo v L) (hl : lo' ≤ lo) : OwnS w lo' v L := by
  refine ⟨h.1, ?_⟩
  rcases h.2 with hn | ⟨g, cap, cur, rfl, hbg, rest⟩
  · exact .inl hn
  · exact .inr ⟨g, cap, cur, rfl, Nat.le_trans hl hbg, rest⟩


end Go.Proofs.YtcopcegamadkgaaDoor

