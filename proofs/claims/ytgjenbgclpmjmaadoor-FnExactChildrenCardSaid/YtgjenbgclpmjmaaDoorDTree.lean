import Derived.Test.YtgjenbgclpmjmaaDoorDNode
import Derived.Test.YtgjenbgclpmjmaaDoorCatchD
import Derived.Test.YtgjenbgclpmjmaaDoorTTree
import Derived.Test.YtgjenbgclpmjmaaDoorStepOwn
namespace Go.Proofs.YtgjenbgclpmjmaaDoor
open Go.RowKit

def zeroT : Value := .agg #[.bool false, .slice none 0 0]
/-- What an answer of DecodeTree is. -/
def DtPost (w : World) (ys : List Int) (e : Ending) (w' : World) : Prop :=
  Below w.heap.size w w' ∧ ((decT ys = none ∧ e = .returned zeroT) ∨ ∃ ns v, decT ys = some ns ∧ e = .returned (.agg #[.bool true, v]) ∧ OwnN 81 w' w.heap.size v ns)
/-- The answer's own variable, still zero. -/
def Zt (W : World) (k : Nat) : Prop := k < W.heap.size ∧ W.cell? ⟨k, 0, none⟩ = some (.bool false) ∧ W.cell? ⟨k, 1, none⟩ = some (.slice none 0 0) ∧ ∀ j, W.frozen? ⟨k, j, none⟩ = false
theorem Zt.turn {W W' : World} {k : Nat} {row : Option Nat} (h : Zt W k) (hg : W.grownBy W' row) (hne : some k ≠ row) : Zt W' k := by
  have hb := hg.block k h.1 hne
  exact ⟨Nat.lt_of_lt_of_le h.1 hg.size, (World.cell?_of_block (a := ⟨k, 0, none⟩) hb).trans h.2.1, (World.cell?_of_block (a := ⟨k, 1, none⟩) hb).trans h.2.2.1, fun j => (World.frozen?_of_block (a := ⟨k, j, none⟩) hb).trans (h.2.2.2 j)⟩
theorem Zt.set {W : World} {k B : Nat} (h : Zt W k) (hne : k ≠ B) (i : Nat) (u : Value) : Zt (W.setCell ⟨B, i, none⟩ u) k :=
  ⟨by simpa using h.1, (World.cell?_setCell_other _ _ _ _ (by intro e; injection e with e; omega)).trans h.2.1, (World.cell?_setCell_other _ _ _ _ (by intro e; injection e with e; omega)).trans h.2.2.1, fun j => by rw [World.frozen?_setCell]; exact h.2.2.2 j⟩
/-- A box of one cell that may be written. -/
def B1 (W : World) (k : Nat) (v : Value) : Prop := k < W.heap.size ∧ W.cell? ⟨k, 0, none⟩ = some v ∧ W.frozen? ⟨k, 0, none⟩ = false
theorem B1.turn {W W' : World} {k : Nat} {v : Value} {row : Option Nat} (h : B1 W k v) (hg : W.grownBy W' row) (hne : some k ≠ row) : B1 W' k v := by
  have hb := hg.block k h.1 hne
  exact ⟨Nat.lt_of_lt_of_le h.1 hg.size, (World.cell?_of_block (a := ⟨k, 0, none⟩) hb).trans h.2.1, (World.frozen?_of_block (a := ⟨k, 0, none⟩) hb).trans h.2.2⟩
theorem OwnN.turn {W W' : World} {lo : Nat} {v : Value} {ns : List Nd} {k : Nat} (h : OwnN 81 W lo v ns) (hg : W.grownBy W' (some k)) (hk : k < lo) : OwnN 81 W' lo v ns := by
  refine World.ownsRow.kept h hg ?_
  cases e : v.ownBlock with
  | none => exact .inl rfl
  | some g =>
    refine .inr fun e2 => ?_
    have := (World.ownsRow.lt h g e).1
    simp only [Option.some.injEq] at e2
    omega
theorem nrow_one (ns : List Nd) (n : Nd) : nrow (ns ++ [n]) = nrow ns ++ ndL n := by rw [nrow_append]; simp [nrow]
theorem ndL_cells (w : World) (n : Nd) (t : TypeId) : ∀ j u, (ndL n)[j]? = some u → (w.alloc (.cells #[.string n.path, .string n.data, .int .i64 n.ver, .int .i64 n.cver, .int .i64 n.cz, .int .i64 n.mz, .int .i64 n.pz] t)).cell? ((⟨w.heap.size, 0, none⟩ : Addr).add j) = some u := by
  intro j u hj
  rw [Addr.add_lit, Nat.zero_add, cell_of (heap_alloc_new w _) j, ← hj]
  simp [ndL]
theorem ndL_one (n : Nd) : ∀ u ∈ ndL n, u.oneCell' = true := by
  intro u hu
  simp only [ndL, List.mem_cons, List.mem_nil_iff, or_false] at hu
  rcases hu with rfl | rfl | rfl | rfl | rfl | rfl | rfl <;> rfl
theorem field_node (n : Nd) (W : World) : (Instr.field 102 (.agg #[.string n.path, .string n.data, .int .i64 n.ver, .int .i64 n.cver, .int .i64 n.cz, .int .i64 n.mz, .int .i64 n.pz]) 0).run Tryd.prog W = .ok (.agg #[.string n.path, .string n.data, .int .i64 n.ver, .int .i64 n.cver, .int .i64 n.cz, .int .i64 n.mz, .int .i64 n.pz]) W := by kernel_rfl
def SzN (ns : List Nd) : Prop := ∀ n ∈ ns, n.path.size < 256 ∧ n.data.size < 256
theorem SzN.at {ns : List Nd} (h : SzN ns) (i : Nat) : (nAt ns i).path.size ≤ 1048576 ∧ (nAt ns i).data.size ≤ 1048576 := by
  by_cases hi : i < ns.length
  · rw [nAt_get hi]
    have := h _ (List.getElem_mem hi)
    omega
  · unfold nAt; rw [List.getD, List.getElem?_eq_none (by omega)]; exact ⟨Nat.zero_le _, Nat.zero_le _⟩
/-- The way of DecodeTree. -/
def TS (w : World) (ys : List Int) (W : World) (v : Value) (ns : List Nd) (r : List Int) : Prop :=
  Par ys ns r ∧ Byt r ∧ SzN ns ∧ RS w W (w.heap.size + 1) r ∧ Zt W w.heap.size ∧ B1 W (w.heap.size + 1 + 1) v ∧ OwnN 81 W (w.heap.size + 3) v ns
def lenAt (W : World) (k : Nat) : Nat := match W.cell? ⟨k, 0, none⟩ with | some (.slice _ n _) => n | _ => 0
theorem RS.lenAt {w0 W : World} {k : Nat} {r : List Int} (h : RS w0 W k r) : lenAt W k = r.length := by
  obtain ⟨-, -, -, -, v, h5, h6⟩ := h
  obtain ⟨ao, c, rfl, -⟩ := h6
  unfold Go.Proofs.YtgjenbgclpmjmaaDoor.lenAt
  rw [h5]
theorem TS.start (w : World) (ao : Option Addr) (ys : List Int) (cap : Nat) (h : Rd .u8 w (.slice ao ys.length cap) ys) (hb : Byt ys) :
    TS w ys (((w.alloc (.cells #[.bool false, .slice none 0 0] 56)).alloc (.cells #[.slice ao ys.length cap] 99)).alloc (.cells #[.slice none 0 0] 30)) (.slice none 0 0) [] ys := by
  refine ⟨Par.start ys, hb, (fun n hn => by cases hn), ⟨by omega, by simp, (by go_simp), (((Below.refl _ _).alloc (Nat.le_refl _) _).alloc (by simp) _).alloc (by simp; omega) _, _, (by go_simp), h⟩, ⟨by simp; omega, (by go_simp), (by go_simp), fun j => (by go_simp)⟩, ⟨by simp, (by go_simp), (by go_simp)⟩, World.ownsRow_nil _ _ _ _⟩

theorem TS.drewN {w W : World} {ys : List Int} {v : Value} {ns : List Nd} {r : List Int} (h : TS w ys W v ns r) (q : Nat) : TS w ys (W.drewN q) v ns r := ⟨h.1, h.2.1, h.2.2.1, h.2.2.2.1.drewN q, h.2.2.2.2.1, h.2.2.2.2.2.1, h.2.2.2.2.2.2⟩
theorem TS.below {w W : World} {ys : List Int} {v : Value} {ns : List Nd} {r : List Int} (h : TS w ys W v ns r) : Below w.heap.size w W := h.2.2.2.1.2.2.2.1

set_option maxHeartbeats 400000 in
theorem done_any (w0 w : World) (k : Nat) (ys : List Int) (h : RS w0 w k ys) :
    Calls Tryd.prog 76 #[.pointer (some ⟨k, 0, none⟩)] w fun e w' => e = .returned (.bool (decide (ys = []))) ∧ w' = w := by
  obtain ⟨-, -, -, -, v, h5, h6⟩ := h
  obtain ⟨ao, c, rfl, -⟩ := h6
  by_cases hy : ys = []
  · subst hy
    have h0 : ((List.length ([] : List Int) : Int) == 0) = true := rfl
    go_enter Tryd.func76, Tryd.ntmps76
    go_wp2
    go_ret
    exact ⟨rfl, rfl⟩
  · have hl : 0 < ys.length := List.length_pos_iff.2 hy
    have h0 : ((ys.length : Int) == 0) = false := beq_eq_false_iff_ne.2 (by omega)
    rw [decide_eq_false hy]
    go_enter Tryd.func76, Tryd.ntmps76
    go_wp2
    go_ret
    exact ⟨rfl, rfl⟩

theorem hmf (fn : Fn) (first cap : Array Value) (w : World) : (Instr.makeFunc fn first cap).run Tryd.prog w = .ok (.func fn first cap) w := rfl

theorem RS.turn {w0 W W' : World} {k : Nat} {r : List Int} {row : Option Nat} (h : RS w0 W k r) (hg : W.grownBy W' row) (hne : some k ≠ row) (hlo : ∀ g, row = some g → w0.heap.size ≤ g) : RS w0 W' k r := by
  obtain ⟨h1, h2, h3, h4, v, h5, h6⟩ := h
  have hb := hg.block k h2 hne
  exact ⟨h1, Nat.lt_of_lt_of_le h2 hg.size, (World.frozen?_of_block (a := ⟨k, 0, none⟩) hb).trans h3, h4.grown hg h4.size hlo, v, (World.cell?_of_block (a := ⟨k, 0, none⟩) hb).trans h5, h6⟩
/-- A node was read. -/
def TR (w : World) (ys : List Int) (W : World) (v : Value) (ns : List Nd) (n : Nd) (r : List Int) : Prop :=
  Par ys (ns ++ [n]) r ∧ Byt r ∧ SzN (ns ++ [n]) ∧ RS w W (w.heap.size + 1) r ∧ Zt W w.heap.size ∧ B1 W (w.heap.size + 1 + 1) v ∧ OwnN 81 W (w.heap.size + 3) v ns
theorem TS.read {w W W1 : World} {ys : List Int} {v : Value} {ns : List Nd} {r r' : List Int} {n : Nd} (h : TS w ys W v ns r) (hg : W.grownBy W1 (some (w.heap.size + 1))) (hp : rdNd r = some (n, r')) (hr : RS w W1 (w.heap.size + 1) r') : TR w ys W1 v ns n r' := by
  obtain ⟨t1, t2, t3, t4, t5, t6, t7⟩ := h
  have hb := rdNd_byt hp t2
  refine ⟨t1.step t2 hp, hb.1, ?_, hr, t5.turn hg (by simp), t6.turn hg (by simp), t7.turn hg (by omega)⟩
  intro m hm
  rcases List.mem_append.1 hm with hm | hm
  · exact t3 m hm
  · simp at hm; subst hm; exact hb.2.2
theorem TR.alloc {w W : World} {ys : List Int} {v : Value} {ns : List Nd} {r : List Int} {n : Nd} (h : TR w ys W v ns n r) (o : Obj) : TR w ys (W.alloc o) v ns n r := by
  obtain ⟨t1, t2, t3, t4, t5, t6, t7⟩ := h
  exact ⟨t1, t2, t3, t4.new ((Below.refl _ _).alloc (Nat.le_refl _) _), t5.turn (grown_alloc _ _ none) (by simp), t6.turn (grown_alloc _ _ none) (by simp), t7.below ((Below.refl _ _).alloc (Nat.le_refl _) _)⟩
theorem TR.push {w W W3 : World} {ys : List Int} {v v3 : Value} {ns : List Nd} {r : List Int} {n : Nd} (h : TR w ys W v ns n r) (hg : W.grownBy W3 v.ownBlock) (ho : W3.ownsRow (w.heap.size + 3) 81 7 v3 (ns.length + 1) (nrow ns ++ ndL n)) :
    TS w ys (W3.setCell ⟨w.heap.size + 1 + 1, 0, none⟩ v3) v3 (ns ++ [n]) r := by
  obtain ⟨t1, t2, t3, t4, t5, t6, t7⟩ := h
  have hne : ∀ k, k < w.heap.size + 3 → some k ≠ v.ownBlock := fun k hk e => by have := (World.ownsRow.lt t7 k e.symm).1; omega
  have hlo : ∀ g, v.ownBlock = some g → w.heap.size ≤ g := fun g e => by have := (World.ownsRow.lt t7 g e).1; omega
  have b6 := t6.turn hg (hne _ (by omega))
  refine ⟨t1, t2, t3, (t4.turn hg (hne _ (by omega)) hlo).setOther (by omega) (by omega) _ _, (t5.turn hg (hne _ (by omega))).set (by omega) _ _, ⟨by simpa using b6.1, World.cell?_setCell_same _ _ _ b6.2.1, by rw [World.frozen?_setCell]; exact b6.2.2⟩, ?_⟩
  have : OwnN 81 W3 (w.heap.size + 3) v3 (ns ++ [n]) := by unfold OwnN; rw [nrow_one, List.length_append]; exact ho
  exact OwnN.setBelow this (by show w.heap.size + 1 + 1 < w.heap.size + 3; omega) _

set_option maxHeartbeats 4000000 in
set_option maxRecDepth 100000 in
theorem implDecT_any (w : World) (v : Value) (ys : List Int) (h : Rd .u8 w v ys) (hby : Byt ys) (hl : ys.length ≤ 1048576) :
    Calls Tryd.prog 33 #[v] w fun e w' => DtPost w ys e w' := by
  obtain ⟨i0, hi, hz0, hz1, hz2⟩ := info_parts Tryd.infoN
  obtain ⟨ao, cap, rfl, -, -⟩ := h.len
  have D0 : Hid (TS w ys (((w.alloc (.cells #[.bool false, .slice none 0 0] 56)).alloc (.cells #[.slice ao ys.length cap] 99)).alloc (.cells #[.slice none 0 0] 30)) (.slice none 0 0) [] ys) := TS.start w ao ys cap h hby
  clear h hby
  have hm := hmf
  go_enter_defers Tryd.func33, Tryd.ntmps33
  go_wp2
  generalize (((w.alloc (.cells #[.bool false, .slice none 0 0] 56)).alloc (.cells #[.slice ao ys.length cap] 99)).alloc (.cells #[.slice none 0 0] 30)) = W0 at *
  go_loopw [9] (fun u9 wr => ∃ v ns r, Hid (TS w ys wr v ns r)) (fun _ wr => lenAt wr (w.heap.size + 1))
  case atStart => exact ⟨_, _, _, D0⟩
  case round =>
    clear D0
    obtain ⟨v, ns, r, D⟩ := hrel
    obtain ⟨va, vc, hva⟩ := D.out.2.2.2.2.2.2.slice
    subst hva
    go_wp2_with fail
    refine (done_any w wr (w.heap.size + 1) r D.out.2.2.2.1).mono ?_
    rintro e w1 ⟨rfl, rfl⟩
    by_cases hr : r = []
    · subst hr
      rw [show decide (([] : List Int) = []) = true from rfl]
      obtain ⟨t1, -, t3, -, ⟨tz, z0, z1, zf⟩, ⟨-, b0, -⟩, t7⟩ := D.out
      have HPD : Hid (pNs ys.length ys = some ns) := t1.done
      have HSZ : Hid (SzN ns) := t3
      have HON : Hid (OwnN 81 w1 (w.heap.size + 3) (.slice va ns.length vc) ns) := t7
      clear t1 t3 t7 z0 z1 zf
      go_wp2_with fail
      refine (implTree_any _ _ ns HON.out.rd HSZ.out.at).mono ?_
      rintro e w2 ⟨rfl, b2⟩
      have HON2 : Hid (OwnN 81 w2 (w.heap.size + 3) (.slice va ns.length vc) ns) := HON.out.below b2
      have HB2 : Hid (Below w.heap.size w w2) := D.out.below.trans (b2.mono D.out.below.size)
      obtain ⟨-, z0, z1, zf⟩ := D.out.2.2.2.2.1.turn (grown_of b2 none) (by simp)
      obtain ⟨-, d0, -⟩ := D.out.2.2.2.2.2.1.turn (grown_of b2 none) (by simp)
      have f0 := zf 0
      have f1 := zf 1
      clear b2 zf b0 HON
      by_cases hok : okTree ns = true
      · have HF : Hid (∀ W, W = (w2.setCell ⟨w.heap.size, 0, none⟩ (.bool true)).setCell ⟨w.heap.size, 1, none⟩ (.slice va ns.length vc) → DtPost w ys (.returned (.agg #[.bool true, .slice va ns.length vc])) W) := by
          rintro W rfl
          refine ⟨(HB2.out.setCell (p := ⟨w.heap.size, 0, none⟩) (Nat.le_refl _) _).setCell (p := ⟨w.heap.size, 1, none⟩) (Nat.le_refl _) _, .inr ⟨ns, _, ?_, rfl, ?_⟩⟩
          · unfold decT; rw [HPD.out]; simp only; rw [if_pos hok]
          · exact OwnN.mono (OwnN.setBelow (OwnN.setBelow HON2.out (by show w.heap.size < w.heap.size + 3; omega) _) (by show w.heap.size < w.heap.size + 3; omega) _) (by omega)
        rw [hok]
        clear hok
        go_wp2
        refine leaves_cons (f := 78) (args := #[]) (by simp) (by simp [go_sem]) ?_
        refine (catchT_idle _).mono ?_
        rintro e u' w3 ⟨rfl, rfl, rfl⟩
        simp [Leaves, settle, results, Tryd.results33, go_sem, z0, z1]
        exact HF.out _ rfl
      · have hok' : okTree ns = false := by simpa using hok
        have HF : Hid (∀ W, W = (w2.setCell ⟨w.heap.size, 0, none⟩ (.bool false)).setCell ⟨w.heap.size, 1, none⟩ (.slice none 0 0) → DtPost w ys (.returned (.agg #[.bool false, .slice none 0 0])) W) := by
          rintro W rfl
          refine ⟨(HB2.out.setCell (p := ⟨w.heap.size, 0, none⟩) (Nat.le_refl _) _).setCell (p := ⟨w.heap.size, 1, none⟩) (Nat.le_refl _) _, .inl ⟨?_, rfl⟩⟩
          unfold decT; rw [HPD.out]; simp only; rw [if_neg hok]
        rw [hok']
        clear hok hok'
        go_wp2
        refine leaves_cons (f := 78) (args := #[]) (by simp) (by simp [go_sem]) ?_
        refine (catchT_idle _).mono ?_
        rintro e u' w3 ⟨rfl, rfl, rfl⟩
        simp [Leaves, settle, results, Tryd.results33, go_sem, z0, z1]
        exact HF.out _ rfl
    · rw [decide_eq_false hr]
      have HBAD : Hid (rdNd r = none → ∀ W W', w1.drew.grownBy W (some (w.heap.size + 1)) → Below W.heap.size W W' → W'.cell? ⟨w.heap.size, 0, none⟩ = some (.bool false) ∧ W'.cell? ⟨w.heap.size, 1, none⟩ = some (.slice none 0 0) ∧ DtPost w ys (.returned (.agg #[.bool false, .slice none 0 0])) W') := by
        intro hp W W' hg hb
        have z := ((D.out.drewN 1).2.2.2.2.1.turn hg (by simp)).turn (grown_of hb none) (by simp)
        have hB : Below w.heap.size w W := (D.out.drewN 1).below.grown hg (D.out.drewN 1).below.size (fun q hq => by simp only [Option.some.injEq] at hq; omega)
        refine ⟨z.2.1, z.2.2.1, hB.trans (hb.mono hB.size), .inl ⟨?_, rfl⟩⟩
        unfold decT; rw [D.out.1.bad hr hp]
      have HNE : Hid (r ≠ []) := hr
      have HLE : Hid (ns.length + r.length ≤ ys.length) := by obtain ⟨f, -, -, h⟩ := D.out.1; exact h
      have hns : ns.length ≤ 1048576 := by have := HLE.out; omega
      clear hr
      have c0 := D.out.2.2.2.2.2.1.2.1
      cases hrd : rdNd r with
      | none =>
        have HRD : Hid (rdNd r = none) := hrd
        clear hrd
        go_wp2
        refine wp_region_held_drew (S := fun _ => True) (by kernel_rfl) trivial (fun hHeld => ?_)
        refine wpAnyH_ready (rs := [0, 2]) (by kernel_rfl) (by simp) ?_
        refine (AllReadyH.cons (o := { dst := some 11, op := _, type := _, pos := _, after := _, guard := _ }) rfl (fun K hK => ?_) (AllReadyH.cons (o := { dst := some 13, op := _, type := _, pos := _, after := _, guard := _ }) rfl (fun K hK => ?_) AllReadyH.nil))
        · go_simp
          refine hK.out _ _ trivial (fun hx9 => ?_)
          clear hK K hx9
          try simp only [Act.put, List.setIfInBounds_toArray, List.set_cons_zero, List.set_cons_succ]
          refine wpAnyH_ready (rs := [1, 2]) (by kernel_rfl) (by simp) ?_
          refine (AllReadyH.cons (o := { dst := some 12, op := _, type := _, pos := _, after := _, guard := _ }) rfl (fun K hK => ?_) (AllReadyH.cons (o := { dst := some 13, op := _, type := _, pos := _, after := _, guard := _ }) rfl (fun K hK => ?_) AllReadyH.nil))
          · go_simp
            refine hK.out _ _ trivial (fun hx9 => ?_)
            clear hK K hx9
            try simp only [Act.put, List.setIfInBounds_toArray, List.set_cons_zero, List.set_cons_succ]
            refine wpAnyH_ready (rs := [2]) (by kernel_rfl) (by simp) ?_
            refine (AllReadyH.cons (o := { dst := some 13, op := _, type := _, pos := _, after := _, guard := _ }) rfl (fun K hK => ?_) AllReadyH.nil)
            · go_simp
              refine hK.out _ _ trivial (fun hx9 => ?_)
              clear hK K hx9
              try simp only [Act.put, List.setIfInBounds_toArray, List.set_cons_zero, List.set_cons_succ]
              refine wpAnyH_ready (rs := [3]) (by kernel_rfl) (by simp) ?_
              refine (AllReadyH.cons (o := { dst := some 14, op := _, type := _, pos := _, after := _, guard := _ }) rfl (fun K hK => ?_) AllReadyH.nil)
              · go_simp
                refine (nodeImage_any w w1.drew (w.heap.size + 1) r (D.out.drewN 1).2.2.2.1 D.out.2.1).mono ?_
                rintro e W1 ⟨g1, hp⟩
                rcases hp with ⟨hp, rfl⟩ | ⟨n, r', hp, rfl, hr1⟩
                · refine leaves_cons (f := 78) (args := #[]) (by simp) (by simp [go_sem]) ?_
                  refine (catchT_bad [] _).mono ?_
                  rintro e u' w3 ⟨rfl, rfl, b3⟩
                  obtain ⟨z0, z1, hF⟩ := HBAD.out hp _ _ g1 b3
                  simp [Leaves, settle, results, Tryd.results33, go_sem, z0, z1]
                  exact hF
                · rw [HRD.out] at hp; cases hp
          · go_simp
            refine hK.out _ _ trivial (fun hx9 => ?_)
            clear hK K hx9
            try simp only [Act.put, List.setIfInBounds_toArray, List.set_cons_zero, List.set_cons_succ]
            refine wpAnyH_ready (rs := [1, 3]) (by kernel_rfl) (by simp) ?_
            refine (AllReadyH.cons (o := { dst := some 12, op := _, type := _, pos := _, after := _, guard := _ }) rfl (fun K hK => ?_) (AllReadyH.cons (o := { dst := some 14, op := _, type := _, pos := _, after := _, guard := _ }) rfl (fun K hK => ?_) AllReadyH.nil))
            · go_simp
              refine hK.out _ _ trivial (fun hx9 => ?_)
              clear hK K hx9
              try simp only [Act.put, List.setIfInBounds_toArray, List.set_cons_zero, List.set_cons_succ]
              refine wpAnyH_ready (rs := [3]) (by kernel_rfl) (by simp) ?_
              refine (AllReadyH.cons (o := { dst := some 14, op := _, type := _, pos := _, after := _, guard := _ }) rfl (fun K hK => ?_) AllReadyH.nil)
              · go_simp
                refine (nodeImage_any w w1.drew (w.heap.size + 1) r (D.out.drewN 1).2.2.2.1 D.out.2.1).mono ?_
                rintro e W1 ⟨g1, hp⟩
                rcases hp with ⟨hp, rfl⟩ | ⟨n, r', hp, rfl, hr1⟩
                · refine leaves_cons (f := 78) (args := #[]) (by simp) (by simp [go_sem]) ?_
                  refine (catchT_bad [] _).mono ?_
                  rintro e u' w3 ⟨rfl, rfl, b3⟩
                  obtain ⟨z0, z1, hF⟩ := HBAD.out hp _ _ g1 b3
                  simp [Leaves, settle, results, Tryd.results33, go_sem, z0, z1]
                  exact hF
                · rw [HRD.out] at hp; cases hp
            · go_simp
              refine (nodeImage_any w w1.drew (w.heap.size + 1) r (D.out.drewN 1).2.2.2.1 D.out.2.1).mono ?_
              rintro e W1 ⟨g1, hp⟩
              rcases hp with ⟨hp, rfl⟩ | ⟨n, r', hp, rfl, hr1⟩
              · refine leaves_cons (f := 78) (args := #[]) (by simp) (by simp [go_sem]) ?_
                refine (catchT_bad [] _).mono ?_
                rintro e u' w3 ⟨rfl, rfl, b3⟩
                obtain ⟨z0, z1, hF⟩ := HBAD.out hp _ _ g1 b3
                simp [Leaves, settle, results, Tryd.results33, go_sem, z0, z1]
                exact hF
              · rw [HRD.out] at hp; cases hp
        · go_simp
          refine hK.out _ _ trivial (fun hx9 => ?_)
          clear hK K hx9
          try simp only [Act.put, List.setIfInBounds_toArray, List.set_cons_zero, List.set_cons_succ]
          refine wpAnyH_ready (rs := [0, 3]) (by kernel_rfl) (by simp) ?_
          refine (AllReadyH.cons (o := { dst := some 11, op := _, type := _, pos := _, after := _, guard := _ }) rfl (fun K hK => ?_) (AllReadyH.cons (o := { dst := some 14, op := _, type := _, pos := _, after := _, guard := _ }) rfl (fun K hK => ?_) AllReadyH.nil))
          · go_simp
            refine hK.out _ _ trivial (fun hx9 => ?_)
            clear hK K hx9
            try simp only [Act.put, List.setIfInBounds_toArray, List.set_cons_zero, List.set_cons_succ]
            refine wpAnyH_ready (rs := [1, 3]) (by kernel_rfl) (by simp) ?_
            refine (AllReadyH.cons (o := { dst := some 12, op := _, type := _, pos := _, after := _, guard := _ }) rfl (fun K hK => ?_) (AllReadyH.cons (o := { dst := some 14, op := _, type := _, pos := _, after := _, guard := _ }) rfl (fun K hK => ?_) AllReadyH.nil))
            · go_simp
              refine hK.out _ _ trivial (fun hx9 => ?_)
              clear hK K hx9
              try simp only [Act.put, List.setIfInBounds_toArray, List.set_cons_zero, List.set_cons_succ]
              refine wpAnyH_ready (rs := [3]) (by kernel_rfl) (by simp) ?_
              refine (AllReadyH.cons (o := { dst := some 14, op := _, type := _, pos := _, after := _, guard := _ }) rfl (fun K hK => ?_) AllReadyH.nil)
              · go_simp
                refine (nodeImage_any w w1.drew (w.heap.size + 1) r (D.out.drewN 1).2.2.2.1 D.out.2.1).mono ?_
                rintro e W1 ⟨g1, hp⟩
                rcases hp with ⟨hp, rfl⟩ | ⟨n, r', hp, rfl, hr1⟩
                · refine leaves_cons (f := 78) (args := #[]) (by simp) (by simp [go_sem]) ?_
                  refine (catchT_bad [] _).mono ?_
                  rintro e u' w3 ⟨rfl, rfl, b3⟩
                  obtain ⟨z0, z1, hF⟩ := HBAD.out hp _ _ g1 b3
                  simp [Leaves, settle, results, Tryd.results33, go_sem, z0, z1]
                  exact hF
                · rw [HRD.out] at hp; cases hp
            · go_simp
              refine (nodeImage_any w w1.drew (w.heap.size + 1) r (D.out.drewN 1).2.2.2.1 D.out.2.1).mono ?_
              rintro e W1 ⟨g1, hp⟩
              rcases hp with ⟨hp, rfl⟩ | ⟨n, r', hp, rfl, hr1⟩
              · refine leaves_cons (f := 78) (args := #[]) (by simp) (by simp [go_sem]) ?_
                refine (catchT_bad [] _).mono ?_
                rintro e u' w3 ⟨rfl, rfl, b3⟩
                obtain ⟨z0, z1, hF⟩ := HBAD.out hp _ _ g1 b3
                simp [Leaves, settle, results, Tryd.results33, go_sem, z0, z1]
                exact hF
              · rw [HRD.out] at hp; cases hp
          · go_simp
            refine (nodeImage_any w w1.drew (w.heap.size + 1) r (D.out.drewN 1).2.2.2.1 D.out.2.1).mono ?_
            rintro e W1 ⟨g1, hp⟩
            rcases hp with ⟨hp, rfl⟩ | ⟨n, r', hp, rfl, hr1⟩
            · refine leaves_cons (f := 78) (args := #[]) (by simp) (by simp [go_sem]) ?_
              refine (catchT_bad [] _).mono ?_
              rintro e u' w3 ⟨rfl, rfl, b3⟩
              obtain ⟨z0, z1, hF⟩ := HBAD.out hp _ _ g1 b3
              simp [Leaves, settle, results, Tryd.results33, go_sem, z0, z1]
              exact hF
            · rw [HRD.out] at hp; cases hp
      | some q =>
        obtain ⟨n0, r0⟩ := q
        have HRD : Hid (rdNd r = some (n0, r0)) := hrd
        clear hrd
        go_wp2
        refine wp_region_noPanic ?_
        refine wp_region_held_drew (S := fun _ => True) (by kernel_rfl) (trivial) (fun hHeld => ?_)
        refine wpAnyH_take (i := 0) (oi := { dst := some 11, op := _, type := _, pos := _, after := _, guard := _ }) (v := (.pointer (some ⟨w.heap.size + 1 + 1, 0, none⟩))) rfl (by kernel_rfl) (by kernel_rfl) (by kernel_rfl) (fun _ _ _ h => h) (Or.inl ⟨by rfl, ?hy1⟩) (by assumption) ?rest1
        case hy1 =>
          intro w9 hS9
          go_simp
          try with_reducible rfl
        try simp only [Act.put, List.setIfInBounds_toArray, List.set_cons_zero, List.set_cons_succ]
        refine wpAnyH_take (i := 2) (oi := { dst := some 13, op := _, type := _, pos := _, after := _, guard := _ }) (v := (.pointer (some ⟨w.heap.size + 1, 0, none⟩))) rfl (by kernel_rfl) (by kernel_rfl) (by kernel_rfl) (fun _ _ _ h => h) (Or.inl ⟨by rfl, ?hy2⟩) (by assumption) ?rest2
        case hy2 =>
          intro w9 hS9
          go_simp
          try with_reducible rfl
        try simp only [Act.put, List.setIfInBounds_toArray, List.set_cons_zero, List.set_cons_succ]
        refine wpAnyH_ready (rs := [1, 3]) (by kernel_rfl) (by simp) ?_
        refine AllReadyH.cons (o := { dst := some 12, op := _, type := _, pos := _, after := _, guard := _ }) rfl (fun K hK => ?_) (AllReadyH.cons (o := { dst := some 14, op := _, type := _, pos := _, after := _, guard := _ }) rfl (fun K hK => ?_) AllReadyH.nil)
        · go_simp
          refine hK.out _ _ trivial (fun hx9 => ?_)
          clear hK K hx9
          try simp only [Act.put, List.setIfInBounds_toArray, List.set_cons_zero, List.set_cons_succ]
          refine wpAnyH_ready (rs := [3]) (by kernel_rfl) (by simp) ?_
          refine AllReadyH.cons (o := { dst := some 14, op := _, type := _, pos := _, after := _, guard := _ }) rfl (fun K hK => ?_) AllReadyH.nil
          go_simp
          refine (nodeImage_any w w1.drew (w.heap.size + 1) r (D.out.drewN 1).2.2.2.1 D.out.2.1).mono ?_
          rintro e W1 ⟨g1, hp⟩
          rcases hp with ⟨hp, rfl⟩ | ⟨n, r', hp, rfl, hr1⟩
          · rw [HRD.out] at hp; cases hp
          have T1 : Hid (TR w ys W1 (.slice va ns.length vc) ns n r') := (D.out.drewN 1).read g1 hp hr1
          have HLT : Hid (r'.length < r.length) := (rdNd_byt hp D.out.2.1).2.1
          have c1 := T1.out.2.2.2.2.2.1.2.1
          clear g1 hp hr1
          refine hK.out _ _ trivial (fun hx9 => ?_)
          clear hK K hx9
          try simp only [Act.put, List.setIfInBounds_toArray, List.set_cons_zero, List.set_cons_succ]
          refine wpAnyH_take (i := 4) (oi := { dst := some 15, op := _, type := _, pos := _, after := _, guard := _ }) (v := (ndV n)) rfl (by kernel_rfl) (by kernel_rfl) (by kernel_rfl) (fun _ _ _ h => h) (Or.inl ⟨by rfl, ?hy3⟩) (by assumption) ?rest3
          case hy3 =>
            intro w9 hS9
            unfold ndV
            have hfd := field_node n w9
            go_simp
          try simp only [Act.put, List.setIfInBounds_toArray, List.set_cons_zero, List.set_cons_succ]
          refine wpAnyH_ready (rs := [5]) (by kernel_rfl) (by simp) ?_
          refine AllReadyH.cons (o := { dst := some 16, op := _, type := _, pos := _, after := _, guard := _ }) rfl (fun K hK => ?_) AllReadyH.nil
          unfold ndV
          go_simp
          have T2 : Hid (TR w ys (W1.alloc (.cells #[.string n.path, .string n.data, .int .i64 n.ver, .int .i64 n.cver, .int .i64 n.cz, .int .i64 n.mz, .int .i64 n.pz] 81)) (.slice va ns.length vc) ns n r') := T1.out.alloc _
          have NC : Hid (∀ j u, (ndL n)[j]? = some u → (W1.alloc (.cells #[.string n.path, .string n.data, .int .i64 n.ver, .int .i64 n.cver, .int .i64 n.cz, .int .i64 n.mz, .int .i64 n.pz] 81)).cell? ((⟨W1.heap.size, 0, none⟩ : Addr).add j) = some u) := ndL_cells _ _ _
          refine hK.out _ _ trivial (fun hx9 => ?_)
          clear hK K hx9 c1
          generalize W1.alloc (.cells #[.string n.path, .string n.data, .int .i64 n.ver, .int .i64 n.cver, .int .i64 n.cz, .int .i64 n.mz, .int .i64 n.pz] 81) = W2 at *
          generalize W1.heap.size = G1 at *
          have c1 := T2.out.2.2.2.2.2.1.2.1
          try simp only [Act.put, List.setIfInBounds_toArray, List.set_cons_zero, List.set_cons_succ]
          refine wpAnyH_ready (rs := [6]) (by kernel_rfl) (by simp) ?_
          refine AllReadyH.cons (o := { dst := some 17, op := _, type := _, pos := _, after := _, guard := _ }) rfl (fun K hK => ?_) AllReadyH.nil
          refine step_append rfl (.tmp 12) (.tmp 16) 28 rfl (w.heap.size + 3) 81 i0 (.agg #[.string ByteArray.empty, .string ByteArray.empty, .int .i64 0, .int .i64 0, .int .i64 0, .int .i64 0, .int .i64 0]) 7 72 Tryd.underlying28 hi hz0 hz1 hz2 rfl (by decide) (.slice va ns.length vc) ns.length _ rfl T2.out.2.2.2.2.2.2 ⟨G1, 0, none⟩ 1 1 (ndL n) rfl rfl NC.out (ndL_one n) (by unfold maxLen; omega) (by omega) (by have := T2.out.2.2.2.2.2.1.1; omega) ?_
          intro v3 W3 ho3 hg3
          have D3 : Hid (TS w ys (W3.setCell ⟨w.heap.size + 1 + 1, 0, none⟩ v3) v3 (ns ++ [n]) r') := T2.out.push hg3 ho3
          obtain ⟨a3, q3, hv3⟩ := D3.out.2.2.2.2.2.2.slice
          rw [show (ns ++ [n]).length = ns.length + 1 by simp] at hv3
          subst hv3
          obtain ⟨-, c3, f3⟩ := T2.out.2.2.2.2.2.1.turn hg3 (fun e => by have := (World.ownsRow.lt T2.out.2.2.2.2.2.2 _ e.symm).1; omega)
          clear ho3 hg3
          refine hK.out _ _ trivial (fun hx9 => ?_)
          clear hK K hx9
          try simp only [Act.put, List.setIfInBounds_toArray, List.set_cons_zero, List.set_cons_succ]
          refine wpAnyH_take (i := 7) (oi := { dst := some 18, op := _, type := _, pos := _, after := _, guard := _ }) (v := (.pointer (some ⟨w.heap.size + 1 + 1, 0, none⟩))) rfl (by kernel_rfl) (by kernel_rfl) (by kernel_rfl) (fun _ _ _ h => h) (Or.inl ⟨by rfl, ?hy4⟩) (by assumption) ?rest4
          case hy4 =>
            intro w9 hS9
            go_simp
            try with_reducible rfl
          try simp only [Act.put, List.setIfInBounds_toArray, List.set_cons_zero, List.set_cons_succ]
          refine wpAnyH_ready (rs := [8]) (by kernel_rfl) (by simp) ?_
          refine AllReadyH.cons (o := { dst := none, op := _, type := _, pos := _, after := _, guard := _ }) rfl (fun K hK => ?_) AllReadyH.nil
          go_simp
          refine hK.out _ _ trivial (fun hx9 => ?_)
          clear hK K hx9
          try simp only [Act.put, List.setIfInBounds_toArray, List.set_cons_zero, List.set_cons_succ]
          refine wpAnyH_done (by kernel_rfl) (NoPanic.normal ?_) _
          clear c0 c1 c3 f3 hHeld
          go_wp2
          refine ⟨⟨_, _, _, D3⟩, ?_⟩
          rw [D3.out.2.2.2.1.lenAt, D.out.2.2.2.1.lenAt]
          exact HLT.out
        · go_simp
          refine (nodeImage_any w w1.drew (w.heap.size + 1) r (D.out.drewN 1).2.2.2.1 D.out.2.1).mono ?_
          rintro e W1 ⟨g1, hp⟩
          rcases hp with ⟨hp, rfl⟩ | ⟨n, r', hp, rfl, hr1⟩
          · rw [HRD.out] at hp; cases hp
          have T1 : Hid (TR w ys W1 (.slice va ns.length vc) ns n r') := (D.out.drewN 1).read g1 hp hr1
          have HLT : Hid (r'.length < r.length) := (rdNd_byt hp D.out.2.1).2.1
          have c1 := T1.out.2.2.2.2.2.1.2.1
          clear g1 hp hr1
          refine hK.out _ _ trivial (fun hx9 => ?_)
          clear hK K hx9
          try simp only [Act.put, List.setIfInBounds_toArray, List.set_cons_zero, List.set_cons_succ]
          refine wpAnyH_take (i := 4) (oi := { dst := some 15, op := _, type := _, pos := _, after := _, guard := _ }) (v := (ndV n)) rfl (by kernel_rfl) (by kernel_rfl) (by kernel_rfl) (fun _ _ _ h => h) (Or.inl ⟨by rfl, ?hy5⟩) (by assumption) ?rest5
          case hy5 =>
            intro w9 hS9
            unfold ndV
            have hfd := field_node n w9
            go_simp
          try simp only [Act.put, List.setIfInBounds_toArray, List.set_cons_zero, List.set_cons_succ]
          refine wpAnyH_ready (rs := [1, 5]) (by kernel_rfl) (by simp) ?_
          refine AllReadyH.cons (o := { dst := some 12, op := _, type := _, pos := _, after := _, guard := _ }) rfl (fun K hK => ?_) (AllReadyH.cons (o := { dst := some 16, op := _, type := _, pos := _, after := _, guard := _ }) rfl (fun K hK => ?_) AllReadyH.nil)
          · go_simp
            refine hK.out _ _ trivial (fun hx9 => ?_)
            clear hK K hx9
            try simp only [Act.put, List.setIfInBounds_toArray, List.set_cons_zero, List.set_cons_succ]
            refine wpAnyH_ready (rs := [5]) (by kernel_rfl) (by simp) ?_
            refine AllReadyH.cons (o := { dst := some 16, op := _, type := _, pos := _, after := _, guard := _ }) rfl (fun K hK => ?_) AllReadyH.nil
            unfold ndV
            go_simp
            have T2 : Hid (TR w ys (W1.alloc (.cells #[.string n.path, .string n.data, .int .i64 n.ver, .int .i64 n.cver, .int .i64 n.cz, .int .i64 n.mz, .int .i64 n.pz] 81)) (.slice va ns.length vc) ns n r') := T1.out.alloc _
            have NC : Hid (∀ j u, (ndL n)[j]? = some u → (W1.alloc (.cells #[.string n.path, .string n.data, .int .i64 n.ver, .int .i64 n.cver, .int .i64 n.cz, .int .i64 n.mz, .int .i64 n.pz] 81)).cell? ((⟨W1.heap.size, 0, none⟩ : Addr).add j) = some u) := ndL_cells _ _ _
            refine hK.out _ _ trivial (fun hx9 => ?_)
            clear hK K hx9 c1
            generalize W1.alloc (.cells #[.string n.path, .string n.data, .int .i64 n.ver, .int .i64 n.cver, .int .i64 n.cz, .int .i64 n.mz, .int .i64 n.pz] 81) = W2 at *
            generalize W1.heap.size = G1 at *
            have c1 := T2.out.2.2.2.2.2.1.2.1
            try simp only [Act.put, List.setIfInBounds_toArray, List.set_cons_zero, List.set_cons_succ]
            refine wpAnyH_ready (rs := [6]) (by kernel_rfl) (by simp) ?_
            refine AllReadyH.cons (o := { dst := some 17, op := _, type := _, pos := _, after := _, guard := _ }) rfl (fun K hK => ?_) AllReadyH.nil
            refine step_append rfl (.tmp 12) (.tmp 16) 28 rfl (w.heap.size + 3) 81 i0 (.agg #[.string ByteArray.empty, .string ByteArray.empty, .int .i64 0, .int .i64 0, .int .i64 0, .int .i64 0, .int .i64 0]) 7 72 Tryd.underlying28 hi hz0 hz1 hz2 rfl (by decide) (.slice va ns.length vc) ns.length _ rfl T2.out.2.2.2.2.2.2 ⟨G1, 0, none⟩ 1 1 (ndL n) rfl rfl NC.out (ndL_one n) (by unfold maxLen; omega) (by omega) (by have := T2.out.2.2.2.2.2.1.1; omega) ?_
            intro v3 W3 ho3 hg3
            have D3 : Hid (TS w ys (W3.setCell ⟨w.heap.size + 1 + 1, 0, none⟩ v3) v3 (ns ++ [n]) r') := T2.out.push hg3 ho3
            obtain ⟨a3, q3, hv3⟩ := D3.out.2.2.2.2.2.2.slice
            rw [show (ns ++ [n]).length = ns.length + 1 by simp] at hv3
            subst hv3
            obtain ⟨-, c3, f3⟩ := T2.out.2.2.2.2.2.1.turn hg3 (fun e => by have := (World.ownsRow.lt T2.out.2.2.2.2.2.2 _ e.symm).1; omega)
            clear ho3 hg3
            refine hK.out _ _ trivial (fun hx9 => ?_)
            clear hK K hx9
            try simp only [Act.put, List.setIfInBounds_toArray, List.set_cons_zero, List.set_cons_succ]
            refine wpAnyH_take (i := 7) (oi := { dst := some 18, op := _, type := _, pos := _, after := _, guard := _ }) (v := (.pointer (some ⟨w.heap.size + 1 + 1, 0, none⟩))) rfl (by kernel_rfl) (by kernel_rfl) (by kernel_rfl) (fun _ _ _ h => h) (Or.inl ⟨by rfl, ?hy6⟩) (by assumption) ?rest6
            case hy6 =>
              intro w9 hS9
              go_simp
              try with_reducible rfl
            try simp only [Act.put, List.setIfInBounds_toArray, List.set_cons_zero, List.set_cons_succ]
            refine wpAnyH_ready (rs := [8]) (by kernel_rfl) (by simp) ?_
            refine AllReadyH.cons (o := { dst := none, op := _, type := _, pos := _, after := _, guard := _ }) rfl (fun K hK => ?_) AllReadyH.nil
            go_simp
            refine hK.out _ _ trivial (fun hx9 => ?_)
            clear hK K hx9
            try simp only [Act.put, List.setIfInBounds_toArray, List.set_cons_zero, List.set_cons_succ]
            refine wpAnyH_done (by kernel_rfl) (NoPanic.normal ?_) _
            clear c0 c1 c3 f3 hHeld
            go_wp2
            refine ⟨⟨_, _, _, D3⟩, ?_⟩
            rw [D3.out.2.2.2.1.lenAt, D.out.2.2.2.1.lenAt]
            exact HLT.out
          · unfold ndV
            go_simp
            have T2 : Hid (TR w ys (W1.alloc (.cells #[.string n.path, .string n.data, .int .i64 n.ver, .int .i64 n.cver, .int .i64 n.cz, .int .i64 n.mz, .int .i64 n.pz] 81)) (.slice va ns.length vc) ns n r') := T1.out.alloc _
            have NC : Hid (∀ j u, (ndL n)[j]? = some u → (W1.alloc (.cells #[.string n.path, .string n.data, .int .i64 n.ver, .int .i64 n.cver, .int .i64 n.cz, .int .i64 n.mz, .int .i64 n.pz] 81)).cell? ((⟨W1.heap.size, 0, none⟩ : Addr).add j) = some u) := ndL_cells _ _ _
            refine hK.out _ _ trivial (fun hx9 => ?_)
            clear hK K hx9 c1
            generalize W1.alloc (.cells #[.string n.path, .string n.data, .int .i64 n.ver, .int .i64 n.cver, .int .i64 n.cz, .int .i64 n.mz, .int .i64 n.pz] 81) = W2 at *
            generalize W1.heap.size = G1 at *
            have c1 := T2.out.2.2.2.2.2.1.2.1
            try simp only [Act.put, List.setIfInBounds_toArray, List.set_cons_zero, List.set_cons_succ]
            refine wpAnyH_ready (rs := [1]) (by kernel_rfl) (by simp) ?_
            refine AllReadyH.cons (o := { dst := some 12, op := _, type := _, pos := _, after := _, guard := _ }) rfl (fun K hK => ?_) AllReadyH.nil
            go_simp
            refine hK.out _ _ trivial (fun hx9 => ?_)
            clear hK K hx9
            try simp only [Act.put, List.setIfInBounds_toArray, List.set_cons_zero, List.set_cons_succ]
            refine wpAnyH_ready (rs := [6]) (by kernel_rfl) (by simp) ?_
            refine AllReadyH.cons (o := { dst := some 17, op := _, type := _, pos := _, after := _, guard := _ }) rfl (fun K hK => ?_) AllReadyH.nil
            refine step_append rfl (.tmp 12) (.tmp 16) 28 rfl (w.heap.size + 3) 81 i0 (.agg #[.string ByteArray.empty, .string ByteArray.empty, .int .i64 0, .int .i64 0, .int .i64 0, .int .i64 0, .int .i64 0]) 7 72 Tryd.underlying28 hi hz0 hz1 hz2 rfl (by decide) (.slice va ns.length vc) ns.length _ rfl T2.out.2.2.2.2.2.2 ⟨G1, 0, none⟩ 1 1 (ndL n) rfl rfl NC.out (ndL_one n) (by unfold maxLen; omega) (by omega) (by have := T2.out.2.2.2.2.2.1.1; omega) ?_
            intro v3 W3 ho3 hg3
            have D3 : Hid (TS w ys (W3.setCell ⟨w.heap.size + 1 + 1, 0, none⟩ v3) v3 (ns ++ [n]) r') := T2.out.push hg3 ho3
            obtain ⟨a3, q3, hv3⟩ := D3.out.2.2.2.2.2.2.slice
            rw [show (ns ++ [n]).length = ns.length + 1 by simp] at hv3
            subst hv3
            obtain ⟨-, c3, f3⟩ := T2.out.2.2.2.2.2.1.turn hg3 (fun e => by have := (World.ownsRow.lt T2.out.2.2.2.2.2.2 _ e.symm).1; omega)
            clear ho3 hg3
            refine hK.out _ _ trivial (fun hx9 => ?_)
            clear hK K hx9
            try simp only [Act.put, List.setIfInBounds_toArray, List.set_cons_zero, List.set_cons_succ]
            refine wpAnyH_take (i := 7) (oi := { dst := some 18, op := _, type := _, pos := _, after := _, guard := _ }) (v := (.pointer (some ⟨w.heap.size + 1 + 1, 0, none⟩))) rfl (by kernel_rfl) (by kernel_rfl) (by kernel_rfl) (fun _ _ _ h => h) (Or.inl ⟨by rfl, ?hy7⟩) (by assumption) ?rest7
            case hy7 =>
              intro w9 hS9
              go_simp
              try with_reducible rfl
            try simp only [Act.put, List.setIfInBounds_toArray, List.set_cons_zero, List.set_cons_succ]
            refine wpAnyH_ready (rs := [8]) (by kernel_rfl) (by simp) ?_
            refine AllReadyH.cons (o := { dst := none, op := _, type := _, pos := _, after := _, guard := _ }) rfl (fun K hK => ?_) AllReadyH.nil
            go_simp
            refine hK.out _ _ trivial (fun hx9 => ?_)
            clear hK K hx9
            try simp only [Act.put, List.setIfInBounds_toArray, List.set_cons_zero, List.set_cons_succ]
            refine wpAnyH_done (by kernel_rfl) (NoPanic.normal ?_) _
            clear c0 c1 c3 f3 hHeld
            go_wp2
            refine ⟨⟨_, _, _, D3⟩, ?_⟩
            rw [D3.out.2.2.2.1.lenAt, D.out.2.2.2.1.lenAt]
            exact HLT.out

end Go.Proofs.YtgjenbgclpmjmaaDoor
