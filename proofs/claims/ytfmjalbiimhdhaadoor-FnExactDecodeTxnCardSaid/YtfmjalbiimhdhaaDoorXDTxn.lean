import Derived.Test.YtfmjalbiimhdhaaDoorXDEff
import Derived.Test.YtfmjalbiimhdhaaDoorXTo
import Derived.Test.YtfmjalbiimhdhaaDoorLValidTxn
namespace Go.Proofs.YtfmjalbiimhdhaaDoor
open Go.RowKit

def zeroX : Value := .agg #[.bool false, .int .i64 0, .slice none 0 0]
/-- What an answer of DecodeTxn is. -/
def DxPost (w : World) (ys : List Int) (e : Ending) (w' : World) : Prop :=
  Below w.heap.size w w' ∧ ((decX ys = none ∧ e = .returned zeroX) ∨ ∃ z es v, decX ys = some (z, es) ∧ e = .returned (.agg #[.bool true, .int .i64 z, v]) ∧ OwnE 79 w' w.heap.size v es)
/-- The answer's own variable, still zero. -/
def Zx (W : World) (k : Nat) : Prop := k < W.heap.size ∧ W.cell? ⟨k, 0, none⟩ = some (.bool false) ∧ W.cell? ⟨k, 1, none⟩ = some (.int .i64 0) ∧ W.cell? ⟨k, 2, none⟩ = some (.slice none 0 0) ∧ ∀ j, W.frozen? ⟨k, j, none⟩ = false
theorem Zx.turn {W W' : World} {k : Nat} {row : Option Nat} (h : Zx W k) (hg : W.grownBy W' row) (hne : some k ≠ row) : Zx W' k := by
  have hb := hg.block k h.1 hne
  exact ⟨Nat.lt_of_lt_of_le h.1 hg.size, (World.cell?_of_block (a := ⟨k, 0, none⟩) hb).trans h.2.1, (World.cell?_of_block (a := ⟨k, 1, none⟩) hb).trans h.2.2.1, (World.cell?_of_block (a := ⟨k, 2, none⟩) hb).trans h.2.2.2.1, fun j => (World.frozen?_of_block (a := ⟨k, j, none⟩) hb).trans (h.2.2.2.2 j)⟩
theorem Zx.set {W : World} {k B : Nat} (h : Zx W k) (hne : k ≠ B) (i : Nat) (u : Value) : Zx (W.setCell ⟨B, i, none⟩ u) k :=
  ⟨by simpa using h.1, (World.cell?_setCell_other _ _ _ _ (by intro e; injection e with e; omega)).trans h.2.1, (World.cell?_setCell_other _ _ _ _ (by intro e; injection e with e; omega)).trans h.2.2.1, (World.cell?_setCell_other _ _ _ _ (by intro e; injection e with e; omega)).trans h.2.2.2.1, fun j => by rw [World.frozen?_setCell]; exact h.2.2.2.2 j⟩
/-- A local transaction that may be written. -/
def B2 (W : World) (k : Nat) (z : Int) (v : Value) : Prop := k < W.heap.size ∧ W.cell? ⟨k, 0, none⟩ = some (.int .i64 z) ∧ W.cell? ⟨k, 1, none⟩ = some v ∧ ∀ j, W.frozen? ⟨k, j, none⟩ = false
theorem B2.turn {W W' : World} {k : Nat} {z : Int} {v : Value} {row : Option Nat} (h : B2 W k z v) (hg : W.grownBy W' row) (hne : some k ≠ row) : B2 W' k z v := by
  have hb := hg.block k h.1 hne
  exact ⟨Nat.lt_of_lt_of_le h.1 hg.size, (World.cell?_of_block (a := ⟨k, 0, none⟩) hb).trans h.2.1, (World.cell?_of_block (a := ⟨k, 1, none⟩) hb).trans h.2.2.1, fun j => (World.frozen?_of_block (a := ⟨k, j, none⟩) hb).trans (h.2.2.2 j)⟩
theorem OwnE.turn {W W' : World} {lo : Nat} {v : Value} {ns : List Ef} {k : Nat} (h : OwnE 79 W lo v ns) (hg : W.grownBy W' (some k)) (hk : k < lo) : OwnE 79 W' lo v ns := by
  refine World.ownsRow.kept h hg ?_
  cases e : v.ownBlock with
  | none => exact .inl rfl
  | some g =>
    refine .inr fun e2 => ?_
    have := (World.ownsRow.lt h g e).1
    simp only [Option.some.injEq] at e2
    omega
theorem erow_one (ns : List Ef) (n : Ef) : erow (ns ++ [n]) = erow ns ++ efL n := by rw [erow_append]; simp [erow]
theorem efL_cells (w : World) (n : Ef) (t : TypeId) : ∀ j u, (efL n)[j]? = some u → (w.alloc (.cells #[.bool n.del, .string n.nd.path, .string n.nd.data, .int .i64 n.nd.ver, .int .i64 n.nd.cver, .int .i64 n.nd.cz, .int .i64 n.nd.mz, .int .i64 n.nd.pz] t)).cell? ((⟨w.heap.size, 0, none⟩ : Addr).add j) = some u := by
  intro j u hj
  rw [Addr.add_lit, Nat.zero_add, cell_of (heap_alloc_new w _) j, ← hj]
  simp [efL]
theorem efL_one (n : Ef) : ∀ u ∈ efL n, u.oneCell' = true := by
  intro u hu
  simp only [efL, List.mem_cons, List.mem_nil_iff, or_false] at hu
  rcases hu with rfl | rfl | rfl | rfl | rfl | rfl | rfl | rfl <;> rfl
/-- The way of DecodeTxn. -/
def TX (w : World) (ys : List Int) (TB : Nat) (W : World) (v : Value) (es fs : List Ef) (r : List Int) (c : Nat) : Prop :=
  ParE (cntX ys) (ys.drop 6) fs r c ∧ Byt r ∧ SzE fs ∧ RS w W (w.heap.size + 1) r ∧ Zx W w.heap.size ∧ B2 W TB (zX ys) v ∧ OwnE 79 W (TB + 1) v es
theorem TX.later {w W W' : World} {ys : List Int} {TB : Nat} {v : Value} {es fs : List Ef} {r : List Int} {c : Nat} (h : TX w ys TB W v es fs r c) (hb : Below W.heap.size W W') : TX w ys TB W' v es fs r c := by
  obtain ⟨t1, t2, t3, t4, t5, t6, t7⟩ := h
  exact ⟨t1, t2, t3, t4.new hb, t5.turn (grown_of hb none) (by simp), t6.turn (grown_of hb none) (by simp), t7.below hb⟩
theorem TX.below {w W : World} {ys : List Int} {TB : Nat} {v : Value} {es fs : List Ef} {r : List Int} {c : Nat} (h : TX w ys TB W v es fs r c) : Below w.heap.size w W := h.2.2.2.1.2.2.2.1
theorem TX.read {w W W1 : World} {ys : List Int} {TB : Nat} {v : Value} {es : List Ef} {r r' : List Int} {c : Nat} {n : Ef} (hT : w.heap.size + 2 ≤ TB) (h : TX w ys TB W v es es r (c + 1)) (hg : W.grownBy W1 (some (w.heap.size + 1))) (hp : rdE r = some (n, r')) (hr : RS w W1 (w.heap.size + 1) r') : TX w ys TB W1 v es (es ++ [n]) r' c := by
  obtain ⟨t1, t2, t3, t4, t5, t6, t7⟩ := h
  have hb := rdE_byt hp t2
  exact ⟨t1.step t2 hp, hb.1, t3.snoc hb.2.2.1 hb.2.2.2, hr, t5.turn hg (by simp), t6.turn hg (by simp; omega), t7.turn hg (by omega)⟩
theorem TX.push {w W W3 : World} {ys : List Int} {TB : Nat} {v v3 : Value} {es : List Ef} {r : List Int} {c : Nat} {n : Ef} (hT : w.heap.size + 2 ≤ TB) (h : TX w ys TB W v es (es ++ [n]) r c) (hg : W.grownBy W3 v.ownBlock) (ho : W3.ownsRow (TB + 1) 79 8 v3 (es.length + 1) (erow es ++ efL n)) :
    TX w ys TB (W3.setCell ⟨TB, 1, none⟩ v3) v3 (es ++ [n]) (es ++ [n]) r c := by
  obtain ⟨t1, t2, t3, t4, t5, t6, t7⟩ := h
  have hne : ∀ k, k < TB + 1 → some k ≠ v.ownBlock := fun k hk e => by have := (World.ownsRow.lt t7 k e.symm).1; omega
  have hlo : ∀ g, v.ownBlock = some g → w.heap.size ≤ g := fun g e => by have := (World.ownsRow.lt t7 g e).1; omega
  have b6 := t6.turn hg (hne _ (by omega))
  refine ⟨t1, t2, t3, (t4.turn hg (hne _ (by omega)) hlo).setOther (by omega) (by omega) _ _, (t5.turn hg (hne _ (by omega))).set (by omega) _ _, ⟨by simpa using b6.1, (World.cell?_setCell_other _ _ _ _ (by intro e; injection e with _ e; omega)).trans b6.2.1, World.cell?_setCell_same _ _ _ b6.2.2.1, fun j => by rw [World.frozen?_setCell]; exact b6.2.2.2 j⟩, ?_⟩
  have : OwnE 79 W3 (TB + 1) v3 (es ++ [n]) := by unfold OwnE; rw [erow_one, List.length_append]; exact ho
  exact OwnE.setBelow this (by show TB < TB + 1; omega) _
theorem decX_short {ys : List Int} (h : ys.length < 6) : decX ys = none := by unfold decX; rw [if_pos h]
theorem decX_bad {ys : List Int} (h : pEs (cntX ys) (ys.drop 6) = none) : decX ys = none := by unfold decX; split; rfl; rw [h]

set_option maxHeartbeats 4000000 in
set_option maxRecDepth 100000 in
theorem implDecX_any (w : World) (v : Value) (ys : List Int) (h : Rd .u8 w v ys) (hby : Byt ys) (hl : ys.length ≤ 1048576) :
    Calls Tryd.prog 23 #[v] w fun e w' => DxPost w ys e w' := by
  obtain ⟨i0, hi, hz0, hz1, hz2⟩ := info_parts Tryd.infoE
  obtain ⟨ao, cap, rfl, -, -⟩ := h.len
  have HBY : Hid (Byt ys) := hby
  have R0 : Hid (RS w ((w.alloc (.cells #[.bool false, .int .i64 0, .slice none 0 0] 46)).alloc (.cells #[.slice ao ys.length cap] 92)) (w.heap.size + 1) ys) := ⟨by omega, by simp, (by go_simp), ((Below.refl _ _).alloc (Nat.le_refl _) _).alloc (by simp) _, _, (by go_simp), h⟩
  have Z0 : Hid (Zx ((w.alloc (.cells #[.bool false, .int .i64 0, .slice none 0 0] 46)).alloc (.cells #[.slice ao ys.length cap] 92)) w.heap.size) := ⟨by simp; omega, (by go_simp), (by go_simp), (by go_simp), fun j => (by go_simp)⟩
  have s0 : ((w.alloc (.cells #[.bool false, .int .i64 0, .slice none 0 0] 46)).alloc (.cells #[.slice ao ys.length cap] 92)).heap.size = w.heap.size + 2 := by simp
  clear h hby
  have HBAD : Hid (decX ys = none → ∀ W W', Zx W w.heap.size → Below w.heap.size w W → Below W.heap.size W W' → W'.cell? ⟨w.heap.size, 0, none⟩ = some (.bool false) ∧ W'.cell? ⟨w.heap.size, 1, none⟩ = some (.int .i64 0) ∧ W'.cell? ⟨w.heap.size, 2, none⟩ = some (.slice none 0 0) ∧ DxPost w ys (.returned (.agg #[.bool false, .int .i64 0, .slice none 0 0])) W') := by
    intro hd W W' hz hB hb
    have z := hz.turn (grown_of hb none) (by simp)
    exact ⟨z.2.1, z.2.2.1, z.2.2.2.1, hB.trans (hb.mono hB.size), .inl ⟨hd, rfl⟩⟩
  have hm := hmf
  go_enter_defers Tryd.func23, Tryd.ntmps23
  go_wp2_with fail
  generalize ((w.alloc (.cells #[.bool false, .int .i64 0, .slice none 0 0] 46)).alloc (.cells #[.slice ao ys.length cap] 92)) = W0 at *
  by_cases hl4 : 4 ≤ ys.length
  rotate_left
  · refine (number_none w _ (w.heap.size + 1) 4 ys R0.out (by omega)).mono ?_
    rintro e W ⟨rfl, rfl⟩
    refine leaves_cons (f := 63) (args := #[]) (by simp) (by simp [go_sem]) ?_
    refine (catchX_bad [] _).mono ?_
    rintro e u' w2 ⟨rfl, rfl, b2⟩
    obtain ⟨z0, z1, z2, hF⟩ := HBAD.out (decX_short (by omega)) _ _ Z0.out R0.out.2.2.2.1 b2
    simp [Leaves, settle, results, Tryd.results23, go_sem, z0, z1, z2]
    exact hF
  refine (number_any w _ (w.heap.size + 1) 4 ys R0.out (by omega) (by omega) (by omega) HBY.out).mono ?_
  rintro e W ⟨rfl, r1, v1, q1, rfl⟩
  rw [wrap4 HBY.out]
  have g1 : W0.grownBy ((W0.setCell ⟨w.heap.size + 1, 0, none⟩ v1).drewN q1) (some (w.heap.size + 1)) := (grownBy_set _ _ _ _ _ (World.grownBy.refl _ _)).trans (grown_of (below_drewN' _ q1) _)
  have Z1 : Hid (Zx ((W0.setCell ⟨w.heap.size + 1, 0, none⟩ v1).drewN q1) w.heap.size) := Z0.out.turn g1 (by simp)
  have R1 : Hid (RS w ((W0.setCell ⟨w.heap.size + 1, 0, none⟩ v1).drewN q1) (w.heap.size + 1) (ys.drop 4)) := r1
  have s1 : w.heap.size + 2 ≤ ((W0.setCell ⟨w.heap.size + 1, 0, none⟩ v1).drewN q1).heap.size := by have := g1.size; omega
  clear r1 g1 R0 Z0 s0
  generalize (W0.setCell ⟨w.heap.size + 1, 0, none⟩ v1).drewN q1 = V0 at *
  have HZX : Hid (((numB (ys.take 4) : Nat) : Int) = (zX ys : Int)) := rfl
  rw [HZX.out]
  have R2 : Hid (RS w (V0.alloc (.cells #[.int .i64 (zX ys : Int), .slice none 0 0] 40)) (w.heap.size + 1) (ys.drop 4)) := R1.out.new ((Below.refl _ _).alloc (Nat.le_refl _) _)
  have Z2 : Hid (Zx (V0.alloc (.cells #[.int .i64 (zX ys : Int), .slice none 0 0] 40)) w.heap.size) := Z1.out.turn (grown_alloc _ _ none) (by simp)
  have X2 : Hid (B2 (V0.alloc (.cells #[.int .i64 (zX ys : Int), .slice none 0 0] 40)) V0.heap.size (zX ys) (.slice none 0 0)) := ⟨by simp, (by go_simp), (by go_simp), fun j => (by go_simp)⟩
  go_wp2_with fail
  clear R1 Z1
  generalize V0.alloc (.cells #[.int .i64 (zX ys : Int), .slice none 0 0] 40) = W1 at *
  generalize V0.heap.size = TB at *
  by_cases hl6 : 6 ≤ ys.length
  rotate_left
  · refine (number_none w _ (w.heap.size + 1) 2 (ys.drop 4) R2.out (by rw [List.length_drop]; omega)).mono ?_
    rintro e W ⟨rfl, rfl⟩
    refine leaves_cons (f := 63) (args := #[]) (by simp) (by simp [go_sem]) ?_
    refine (catchX_bad [] _).mono ?_
    rintro e u' w2 ⟨rfl, rfl, b2⟩
    obtain ⟨z0, z1, z2, hF⟩ := HBAD.out (decX_short (by omega)) _ _ Z2.out R2.out.2.2.2.1 b2
    simp [Leaves, settle, results, Tryd.results23, go_sem, z0, z1, z2]
    exact hF
  refine (number_any w _ (w.heap.size + 1) 2 (ys.drop 4) R2.out (by rw [List.length_drop]; omega) (by omega) (by omega) (byt_drop HBY.out 4)).mono ?_
  rintro e W ⟨rfl, r3, v3, q3, rfl⟩
  rw [(wrap2 (byt_drop HBY.out 4)).1]
  have hC := (wrap2 (byt_drop HBY.out 4)).2
  rw [show numB ((ys.drop 4).take 2) = cntX ys from rfl] at *
  rw [List.drop_drop] at r3
  have g3 : W1.grownBy ((W1.setCell ⟨w.heap.size + 1, 0, none⟩ v3).drewN q3) (some (w.heap.size + 1)) := (grownBy_set _ _ _ _ _ (World.grownBy.refl _ _)).trans (grown_of (below_drewN' _ q3) _)
  have D0 : Hid (TX w ys TB ((W1.setCell ⟨w.heap.size + 1, 0, none⟩ v3).drewN q3) (.slice none 0 0) [] [] (ys.drop 6) (cntX ys - 0)) := ⟨ParE.start _ _, byt_drop HBY.out 6, (fun n hn => by cases hn), r3, Z2.out.turn g3 (by simp), X2.out.turn g3 (by simp; omega), World.ownsRow_nil _ _ _ _⟩
  clear g3 r3 R2 Z2 X2
  generalize (W1.setCell ⟨w.heap.size + 1, 0, none⟩ v3).drewN q3 = V1 at *
  generalize hCC : cntX ys = C at *
  have HCC : Hid (cntX ys = C) := hCC
  clear hCC
  go_wp2
  go_loopw [14] (fun vi wr => ∃ (i : Nat) (v : Value) (es : List Ef) (r : List Int), i ≤ C ∧ vi = .int .i64 i ∧ Hid (TX w ys TB wr v es es r (C - i))) (fun i _ => C - (intOf i).toNat)
  case atStart => exact ⟨0, _, _, _, Nat.zero_le _, rfl, D0⟩
  case round =>
    clear D0
    obtain ⟨i, v, es, r, hi5, rfl, D⟩ := hrel
    obtain ⟨va, vc, hva⟩ := D.out.2.2.2.2.2.2.slice
    subst hva
    have hns : es.length ≤ 1048576 := by have := D.out.1.2; rw [List.length_drop] at this; omega
    by_cases hlt : i < C
    · have hltI : (i : Int) < (C : Int) := by omega
      obtain ⟨c, hc⟩ : ∃ c, C - i = c + 1 := ⟨C - i - 1, by omega⟩
      rw [hc] at D
      have HC2 : Hid (C - (i + 1) = c) := by show _ = _; omega
      clear hc
      go_wp2_with fail
      refine (effectImage_any w wr (w.heap.size + 1) r D.out.2.2.2.1 D.out.2.1).mono ?_
      rintro e W2 ⟨g2, hp⟩
      rcases hp with ⟨hp, rfl⟩ | ⟨n, r', hp, rfl, hr1⟩
      · refine leaves_cons (f := 63) (args := #[]) (by simp) (by simp [go_sem]) ?_
        refine (catchX_bad [] _).mono ?_
        rintro e u' w3 ⟨rfl, rfl, b3⟩
        have hB : Below w.heap.size w W2 := D.out.below.grown g2 D.out.below.size (fun q hq => by simp only [Option.some.injEq] at hq; omega)
        obtain ⟨z0, z1, z2, hF⟩ := HBAD.out (decX_bad (by rw [HCC.out]; exact (HCC.out ▸ D.out.1).bad hp)) _ _ (D.out.2.2.2.2.1.turn g2 (by simp)) hB b3
        simp [Leaves, settle, results, Tryd.results23, go_sem, z0, z1, z2]
        exact hF
      have T1 : Hid (TX w ys TB W2 (.slice va es.length vc) es (es ++ [n]) r' c) := D.out.read s1 g2 hp hr1
      clear g2 hp hr1 D
      have T2 : Hid (TX w ys TB (W2.alloc (.cells #[.string n.nd.path, .string n.nd.data, .int .i64 n.nd.ver, .int .i64 n.nd.cver, .int .i64 n.nd.cz, .int .i64 n.nd.mz, .int .i64 n.nd.pz, .int .u8 (mkB n)] 97)) (.slice va es.length vc) es (es ++ [n]) r' c) := T1.out.later ((Below.refl _ _).alloc (Nat.le_refl _) _)
      have E2 : Hid (EB (W2.alloc (.cells #[.string n.nd.path, .string n.nd.data, .int .i64 n.nd.ver, .int .i64 n.nd.cver, .int .i64 n.nd.cz, .int .i64 n.nd.mz, .int .i64 n.nd.pz, .int .u8 (mkB n)] 97)) W2.heap.size n.nd (mkB n)) := EB.new W2 n.nd (mkB n) _
      have c0 := T1.out.2.2.2.2.2.1.2.2.1
      have cl := T1.out.2.2.2.2.2.1.1
      unfold efIV
      go_wp2
      clear c0 cl T1
      generalize W2.alloc (.cells #[.string n.nd.path, .string n.nd.data, .int .i64 n.nd.ver, .int .i64 n.nd.cver, .int .i64 n.nd.cz, .int .i64 n.nd.mz, .int .i64 n.nd.pz, .int .u8 (mkB n)] 97) = W3 at *
      generalize W2.heap.size = BE at *
      have c0 := T2.out.2.2.2.2.2.1.2.2.1
      refine wp_region_noPanic ?_
      refine wp_region_held_drew (S := fun _ => True) (by kernel_rfl) (trivial) (fun hHeld => ?_)
      refine wpAnyH_take (i := 0) (oi := { dst := some 18, op := _, type := _, pos := _, after := _, guard := _ }) (v := (.pointer (some ⟨TB, 1, none⟩))) rfl (by kernel_rfl) (by kernel_rfl) (by kernel_rfl) (fun _ _ _ h => h) (Or.inl ⟨by rfl, ?hy1⟩) (by assumption) ?rest1
      case hy1 =>
        intro w9 hS9
        go_simp
        try with_reducible rfl
      try simp only [Act.put, List.setIfInBounds_toArray, List.set_cons_zero, List.set_cons_succ]
      refine wpAnyH_ready (rs := [1, 2]) (by kernel_rfl) (by simp) ?_
      refine AllReadyH.cons (o := { dst := some 19, op := _, type := _, pos := _, after := _, guard := _ }) rfl (fun K hK => ?_) (AllReadyH.cons (o := { dst := some 20, op := _, type := _, pos := _, after := _, guard := _ }) rfl (fun K hK => ?_) AllReadyH.nil)
      · go_simp
        refine hK.out _ _ trivial (fun hx9 => ?_)
        clear hK K hx9
        try simp only [Act.put, List.setIfInBounds_toArray, List.set_cons_zero, List.set_cons_succ]
        refine wpAnyH_ready (rs := [2]) (by kernel_rfl) (by simp) ?_
        refine AllReadyH.cons (o := { dst := some 20, op := _, type := _, pos := _, after := _, guard := _ }) rfl (fun K hK => ?_) AllReadyH.nil
        go_simp
        refine (effect_any W3.drew BE n (E2.out.turn (grown_of (below_drewN' W3 1) none) (by simp))).mono ?_
        rintro e W4 ⟨rfl, b4⟩
        have T4 : Hid (TX w ys TB W4 (.slice va es.length vc) es (es ++ [n]) r' c) := (T2.out.later (below_drewN' W3 1)).later b4
        have c1 := T4.out.2.2.2.2.2.1.2.2.1
        clear b4
        refine hK.out _ _ trivial (fun hx9 => ?_)
        clear hK K hx9
        try simp only [Act.put, List.setIfInBounds_toArray, List.set_cons_zero, List.set_cons_succ]
        refine wpAnyH_ready (rs := [3]) (by kernel_rfl) (by simp) ?_
        refine AllReadyH.cons (o := { dst := some 21, op := _, type := _, pos := _, after := _, guard := _ }) rfl (fun K hK => ?_) AllReadyH.nil
        unfold efV
        go_simp
        have T5 : Hid (TX w ys TB (W4.alloc (.cells #[.bool n.del, .string n.nd.path, .string n.nd.data, .int .i64 n.nd.ver, .int .i64 n.nd.cver, .int .i64 n.nd.cz, .int .i64 n.nd.mz, .int .i64 n.nd.pz] 79)) (.slice va es.length vc) es (es ++ [n]) r' c) := T4.out.later ((Below.refl _ _).alloc (Nat.le_refl _) _)
        have NC : Hid (∀ j u, (efL n)[j]? = some u → (W4.alloc (.cells #[.bool n.del, .string n.nd.path, .string n.nd.data, .int .i64 n.nd.ver, .int .i64 n.nd.cver, .int .i64 n.nd.cz, .int .i64 n.nd.mz, .int .i64 n.nd.pz] 79)).cell? ((⟨W4.heap.size, 0, none⟩ : Addr).add j) = some u) := efL_cells _ _ _
        refine hK.out _ _ trivial (fun hx9 => ?_)
        clear hK K hx9 c1
        generalize W4.alloc (.cells #[.bool n.del, .string n.nd.path, .string n.nd.data, .int .i64 n.nd.ver, .int .i64 n.nd.cver, .int .i64 n.nd.cz, .int .i64 n.nd.mz, .int .i64 n.nd.pz] 79) = W5 at *
        generalize W4.heap.size = G4 at *
        have c1 := T5.out.2.2.2.2.2.1.2.2.1
        try simp only [Act.put, List.setIfInBounds_toArray, List.set_cons_zero, List.set_cons_succ]
        refine wpAnyH_ready (rs := [4]) (by kernel_rfl) (by simp) ?_
        refine AllReadyH.cons (o := { dst := some 22, op := _, type := _, pos := _, after := _, guard := _ }) rfl (fun K hK => ?_) AllReadyH.nil
        refine step_append rfl (.tmp 19) (.tmp 21) 38 rfl (TB + 1) 79 i0 (.agg #[.bool false, .string ByteArray.empty, .string ByteArray.empty, .int .i64 0, .int .i64 0, .int .i64 0, .int .i64 0, .int .i64 0]) 8 80 Tryd.underlying38 hi hz0 hz1 hz2 rfl (by decide) (.slice va es.length vc) es.length _ rfl T5.out.2.2.2.2.2.2 ⟨G4, 0, none⟩ 1 1 (efL n) rfl rfl NC.out (efL_one n) (by unfold maxLen; omega) (by omega) (by have := T5.out.2.2.2.2.2.1.1; omega) ?_
        intro v6 W6 ho6 hg6
        have D6 : Hid (TX w ys TB (W6.setCell ⟨TB, 1, none⟩ v6) v6 (es ++ [n]) (es ++ [n]) r' c) := T5.out.push s1 hg6 ho6
        obtain ⟨a6, q6, hv6⟩ := D6.out.2.2.2.2.2.2.slice
        rw [show (es ++ [n]).length = es.length + 1 by simp] at hv6
        subst hv6
        obtain ⟨-, -, c6, ff⟩ := T5.out.2.2.2.2.2.1.turn hg6 (fun e => by have := (World.ownsRow.lt T5.out.2.2.2.2.2.2 _ e.symm).1; omega)
        have f6 := ff 1
        clear ho6 hg6 ff
        refine hK.out _ _ trivial (fun hx9 => ?_)
        clear hK K hx9
        try simp only [Act.put, List.setIfInBounds_toArray, List.set_cons_zero, List.set_cons_succ]
        refine wpAnyH_take (i := 5) (oi := { dst := some 23, op := _, type := _, pos := _, after := _, guard := _ }) (v := (.pointer (some ⟨TB, 1, none⟩))) rfl (by kernel_rfl) (by kernel_rfl) (by kernel_rfl) (fun _ _ _ h => h) (Or.inl ⟨by rfl, ?hy2⟩) (by assumption) ?rest2
        case hy2 =>
          intro w9 hS9
          go_simp
          try with_reducible rfl
        try simp only [Act.put, List.setIfInBounds_toArray, List.set_cons_zero, List.set_cons_succ]
        refine wpAnyH_ready (rs := [6]) (by kernel_rfl) (by simp) ?_
        refine AllReadyH.cons (o := { dst := none, op := _, type := _, pos := _, after := _, guard := _ }) rfl (fun K hK => ?_) AllReadyH.nil
        go_simp
        refine hK.out _ _ trivial (fun hx9 => ?_)
        clear hK K hx9
        try simp only [Act.put, List.setIfInBounds_toArray, List.set_cons_zero, List.set_cons_succ]
        refine wpAnyH_done (by kernel_rfl) (NoPanic.normal ?_) _
        clear c0 c1 c6 f6 hHeld
        go_wp2
        exact ⟨⟨i + 1, _, _, _, by omega, by go_num, (by rw [HC2.out]; exact D6)⟩, by simp [intOf]; omega⟩
      · go_simp
        refine (effect_any W3.drew BE n (E2.out.turn (grown_of (below_drewN' W3 1) none) (by simp))).mono ?_
        rintro e W4 ⟨rfl, b4⟩
        have T4 : Hid (TX w ys TB W4 (.slice va es.length vc) es (es ++ [n]) r' c) := (T2.out.later (below_drewN' W3 1)).later b4
        have c1 := T4.out.2.2.2.2.2.1.2.2.1
        clear b4
        refine hK.out _ _ trivial (fun hx9 => ?_)
        clear hK K hx9
        try simp only [Act.put, List.setIfInBounds_toArray, List.set_cons_zero, List.set_cons_succ]
        refine wpAnyH_ready (rs := [1, 3]) (by kernel_rfl) (by simp) ?_
        refine AllReadyH.cons (o := { dst := some 19, op := _, type := _, pos := _, after := _, guard := _ }) rfl (fun K hK => ?_) (AllReadyH.cons (o := { dst := some 21, op := _, type := _, pos := _, after := _, guard := _ }) rfl (fun K hK => ?_) AllReadyH.nil)
        · go_simp
          refine hK.out _ _ trivial (fun hx9 => ?_)
          clear hK K hx9
          try simp only [Act.put, List.setIfInBounds_toArray, List.set_cons_zero, List.set_cons_succ]
          refine wpAnyH_ready (rs := [3]) (by kernel_rfl) (by simp) ?_
          refine AllReadyH.cons (o := { dst := some 21, op := _, type := _, pos := _, after := _, guard := _ }) rfl (fun K hK => ?_) AllReadyH.nil
          unfold efV
          go_simp
          have T5 : Hid (TX w ys TB (W4.alloc (.cells #[.bool n.del, .string n.nd.path, .string n.nd.data, .int .i64 n.nd.ver, .int .i64 n.nd.cver, .int .i64 n.nd.cz, .int .i64 n.nd.mz, .int .i64 n.nd.pz] 79)) (.slice va es.length vc) es (es ++ [n]) r' c) := T4.out.later ((Below.refl _ _).alloc (Nat.le_refl _) _)
          have NC : Hid (∀ j u, (efL n)[j]? = some u → (W4.alloc (.cells #[.bool n.del, .string n.nd.path, .string n.nd.data, .int .i64 n.nd.ver, .int .i64 n.nd.cver, .int .i64 n.nd.cz, .int .i64 n.nd.mz, .int .i64 n.nd.pz] 79)).cell? ((⟨W4.heap.size, 0, none⟩ : Addr).add j) = some u) := efL_cells _ _ _
          refine hK.out _ _ trivial (fun hx9 => ?_)
          clear hK K hx9 c1
          generalize W4.alloc (.cells #[.bool n.del, .string n.nd.path, .string n.nd.data, .int .i64 n.nd.ver, .int .i64 n.nd.cver, .int .i64 n.nd.cz, .int .i64 n.nd.mz, .int .i64 n.nd.pz] 79) = W5 at *
          generalize W4.heap.size = G4 at *
          have c1 := T5.out.2.2.2.2.2.1.2.2.1
          try simp only [Act.put, List.setIfInBounds_toArray, List.set_cons_zero, List.set_cons_succ]
          refine wpAnyH_ready (rs := [4]) (by kernel_rfl) (by simp) ?_
          refine AllReadyH.cons (o := { dst := some 22, op := _, type := _, pos := _, after := _, guard := _ }) rfl (fun K hK => ?_) AllReadyH.nil
          refine step_append rfl (.tmp 19) (.tmp 21) 38 rfl (TB + 1) 79 i0 (.agg #[.bool false, .string ByteArray.empty, .string ByteArray.empty, .int .i64 0, .int .i64 0, .int .i64 0, .int .i64 0, .int .i64 0]) 8 80 Tryd.underlying38 hi hz0 hz1 hz2 rfl (by decide) (.slice va es.length vc) es.length _ rfl T5.out.2.2.2.2.2.2 ⟨G4, 0, none⟩ 1 1 (efL n) rfl rfl NC.out (efL_one n) (by unfold maxLen; omega) (by omega) (by have := T5.out.2.2.2.2.2.1.1; omega) ?_
          intro v6 W6 ho6 hg6
          have D6 : Hid (TX w ys TB (W6.setCell ⟨TB, 1, none⟩ v6) v6 (es ++ [n]) (es ++ [n]) r' c) := T5.out.push s1 hg6 ho6
          obtain ⟨a6, q6, hv6⟩ := D6.out.2.2.2.2.2.2.slice
          rw [show (es ++ [n]).length = es.length + 1 by simp] at hv6
          subst hv6
          obtain ⟨-, -, c6, ff⟩ := T5.out.2.2.2.2.2.1.turn hg6 (fun e => by have := (World.ownsRow.lt T5.out.2.2.2.2.2.2 _ e.symm).1; omega)
          have f6 := ff 1
          clear ho6 hg6 ff
          refine hK.out _ _ trivial (fun hx9 => ?_)
          clear hK K hx9
          try simp only [Act.put, List.setIfInBounds_toArray, List.set_cons_zero, List.set_cons_succ]
          refine wpAnyH_take (i := 5) (oi := { dst := some 23, op := _, type := _, pos := _, after := _, guard := _ }) (v := (.pointer (some ⟨TB, 1, none⟩))) rfl (by kernel_rfl) (by kernel_rfl) (by kernel_rfl) (fun _ _ _ h => h) (Or.inl ⟨by rfl, ?hy3⟩) (by assumption) ?rest3
          case hy3 =>
            intro w9 hS9
            go_simp
            try with_reducible rfl
          try simp only [Act.put, List.setIfInBounds_toArray, List.set_cons_zero, List.set_cons_succ]
          refine wpAnyH_ready (rs := [6]) (by kernel_rfl) (by simp) ?_
          refine AllReadyH.cons (o := { dst := none, op := _, type := _, pos := _, after := _, guard := _ }) rfl (fun K hK => ?_) AllReadyH.nil
          go_simp
          refine hK.out _ _ trivial (fun hx9 => ?_)
          clear hK K hx9
          try simp only [Act.put, List.setIfInBounds_toArray, List.set_cons_zero, List.set_cons_succ]
          refine wpAnyH_done (by kernel_rfl) (NoPanic.normal ?_) _
          clear c0 c1 c6 f6 hHeld
          go_wp2
          exact ⟨⟨i + 1, _, _, _, by omega, by go_num, (by rw [HC2.out]; exact D6)⟩, by simp [intOf]; omega⟩
        · unfold efV
          go_simp
          have T5 : Hid (TX w ys TB (W4.alloc (.cells #[.bool n.del, .string n.nd.path, .string n.nd.data, .int .i64 n.nd.ver, .int .i64 n.nd.cver, .int .i64 n.nd.cz, .int .i64 n.nd.mz, .int .i64 n.nd.pz] 79)) (.slice va es.length vc) es (es ++ [n]) r' c) := T4.out.later ((Below.refl _ _).alloc (Nat.le_refl _) _)
          have NC : Hid (∀ j u, (efL n)[j]? = some u → (W4.alloc (.cells #[.bool n.del, .string n.nd.path, .string n.nd.data, .int .i64 n.nd.ver, .int .i64 n.nd.cver, .int .i64 n.nd.cz, .int .i64 n.nd.mz, .int .i64 n.nd.pz] 79)).cell? ((⟨W4.heap.size, 0, none⟩ : Addr).add j) = some u) := efL_cells _ _ _
          refine hK.out _ _ trivial (fun hx9 => ?_)
          clear hK K hx9 c1
          generalize W4.alloc (.cells #[.bool n.del, .string n.nd.path, .string n.nd.data, .int .i64 n.nd.ver, .int .i64 n.nd.cver, .int .i64 n.nd.cz, .int .i64 n.nd.mz, .int .i64 n.nd.pz] 79) = W5 at *
          generalize W4.heap.size = G4 at *
          have c1 := T5.out.2.2.2.2.2.1.2.2.1
          try simp only [Act.put, List.setIfInBounds_toArray, List.set_cons_zero, List.set_cons_succ]
          refine wpAnyH_ready (rs := [1]) (by kernel_rfl) (by simp) ?_
          refine AllReadyH.cons (o := { dst := some 19, op := _, type := _, pos := _, after := _, guard := _ }) rfl (fun K hK => ?_) AllReadyH.nil
          go_simp
          refine hK.out _ _ trivial (fun hx9 => ?_)
          clear hK K hx9
          try simp only [Act.put, List.setIfInBounds_toArray, List.set_cons_zero, List.set_cons_succ]
          refine wpAnyH_ready (rs := [4]) (by kernel_rfl) (by simp) ?_
          refine AllReadyH.cons (o := { dst := some 22, op := _, type := _, pos := _, after := _, guard := _ }) rfl (fun K hK => ?_) AllReadyH.nil
          refine step_append rfl (.tmp 19) (.tmp 21) 38 rfl (TB + 1) 79 i0 (.agg #[.bool false, .string ByteArray.empty, .string ByteArray.empty, .int .i64 0, .int .i64 0, .int .i64 0, .int .i64 0, .int .i64 0]) 8 80 Tryd.underlying38 hi hz0 hz1 hz2 rfl (by decide) (.slice va es.length vc) es.length _ rfl T5.out.2.2.2.2.2.2 ⟨G4, 0, none⟩ 1 1 (efL n) rfl rfl NC.out (efL_one n) (by unfold maxLen; omega) (by omega) (by have := T5.out.2.2.2.2.2.1.1; omega) ?_
          intro v6 W6 ho6 hg6
          have D6 : Hid (TX w ys TB (W6.setCell ⟨TB, 1, none⟩ v6) v6 (es ++ [n]) (es ++ [n]) r' c) := T5.out.push s1 hg6 ho6
          obtain ⟨a6, q6, hv6⟩ := D6.out.2.2.2.2.2.2.slice
          rw [show (es ++ [n]).length = es.length + 1 by simp] at hv6
          subst hv6
          obtain ⟨-, -, c6, ff⟩ := T5.out.2.2.2.2.2.1.turn hg6 (fun e => by have := (World.ownsRow.lt T5.out.2.2.2.2.2.2 _ e.symm).1; omega)
          have f6 := ff 1
          clear ho6 hg6 ff
          refine hK.out _ _ trivial (fun hx9 => ?_)
          clear hK K hx9
          try simp only [Act.put, List.setIfInBounds_toArray, List.set_cons_zero, List.set_cons_succ]
          refine wpAnyH_take (i := 5) (oi := { dst := some 23, op := _, type := _, pos := _, after := _, guard := _ }) (v := (.pointer (some ⟨TB, 1, none⟩))) rfl (by kernel_rfl) (by kernel_rfl) (by kernel_rfl) (fun _ _ _ h => h) (Or.inl ⟨by rfl, ?hy4⟩) (by assumption) ?rest4
          case hy4 =>
            intro w9 hS9
            go_simp
            try with_reducible rfl
          try simp only [Act.put, List.setIfInBounds_toArray, List.set_cons_zero, List.set_cons_succ]
          refine wpAnyH_ready (rs := [6]) (by kernel_rfl) (by simp) ?_
          refine AllReadyH.cons (o := { dst := none, op := _, type := _, pos := _, after := _, guard := _ }) rfl (fun K hK => ?_) AllReadyH.nil
          go_simp
          refine hK.out _ _ trivial (fun hx9 => ?_)
          clear hK K hx9
          try simp only [Act.put, List.setIfInBounds_toArray, List.set_cons_zero, List.set_cons_succ]
          refine wpAnyH_done (by kernel_rfl) (NoPanic.normal ?_) _
          clear c0 c1 c6 f6 hHeld
          go_wp2
          exact ⟨⟨i + 1, _, _, _, by omega, by go_num, (by rw [HC2.out]; exact D6)⟩, by simp [intOf]; omega⟩
    · have hic : i = C := by omega
      subst hic
      rw [Nat.sub_self] at D
      have HPD : Hid (pEs i (ys.drop 6) = some (es, r)) := (HCC.out ▸ D.out.1).done
      go_wp2_with fail
      refine (done_any w wr (w.heap.size + 1) r D.out.2.2.2.1).mono ?_
      rintro e w1 ⟨rfl, rfl⟩
      obtain ⟨-, -, t3, -, ⟨tz, z0, z1, z2, zf⟩, ⟨-, b0, b1, -⟩, t7⟩ := D.out
      have f0 := zf 0
      have f1 := zf 1
      have f2 := zf 2
      have HSZ : Hid (SzE es) := t3
      have HON : Hid (OwnE 79 w1 (TB + 1) (.slice va es.length vc) es) := t7
      clear t3 t7 zf
      by_cases hr : r = []
      rotate_left
      · have HDX : Hid (decX ys = none) := by
          show _ = _
          unfold decX
          rw [if_neg (by omega), HCC.out, HPD.out]
          simp only
          rw [if_neg (fun h => hr h.1)]
        have HF : Hid (∀ W, W = ((w1.setCell ⟨w.heap.size, 0, none⟩ (.bool false)).setCell ⟨w.heap.size, 1, none⟩ (.int .i64 0)).setCell ⟨w.heap.size, 2, none⟩ (.slice none 0 0) → DxPost w ys (.returned (.agg #[.bool false, .int .i64 0, .slice none 0 0])) W) := by
          rintro W rfl
          exact ⟨((D.out.below.setCell (p := ⟨w.heap.size, 0, none⟩) (Nat.le_refl _) _).setCell (p := ⟨w.heap.size, 1, none⟩) (Nat.le_refl _) _).setCell (p := ⟨w.heap.size, 2, none⟩) (Nat.le_refl _) _, .inl ⟨HDX.out, rfl⟩⟩
        rw [decide_eq_false hr]
        clear b0 b1 hr
        go_wp2
        refine leaves_cons (f := 63) (args := #[]) (by simp) (by simp [go_sem]) ?_
        refine (catchX_idle _).mono ?_
        rintro e u' w3 ⟨rfl, rfl, rfl⟩
        simp [Leaves, settle, results, Tryd.results23, go_sem, z0, z1, z2]
        exact HF.out _ rfl
      · subst hr
        rw [show decide (([] : List Int) = []) = true from rfl]
        clear z0 z1 z2 f0 f1 f2
        go_wp2_with fail
        refine (implTxn_any _ _ _ es HON.out.rd HSZ.out.at).mono ?_
        rintro e w2 ⟨rfl, b2⟩
        have D2 : Hid (TX w ys TB w2 (.slice va es.length vc) es es [] 0) := D.out.later b2
        obtain ⟨-, -, -, -, ⟨-, z0, z1, z2, zf⟩, ⟨-, d0, d1, -⟩, t7⟩ := D2.out
        have f0 := zf 0
        have f1 := zf 1
        have f2 := zf 2
        have HON2 : Hid (OwnE 79 w2 (TB + 1) (.slice va es.length vc) es) := t7
        clear zf b2 t7 HON b0 b1
        by_cases hok : okTxn (zX ys : Int) es = true
        · have HDX : Hid (decX ys = some ((zX ys : Int), es)) := by
            show _ = _
            unfold decX
            rw [if_neg (by omega), HCC.out, HPD.out]
            simp only
            rw [if_pos ⟨trivial, hok⟩]
          have HF : Hid (∀ W, W = ((w2.setCell ⟨w.heap.size, 0, none⟩ (.bool true)).setCell ⟨w.heap.size, 1, none⟩ (.int .i64 (zX ys : Int))).setCell ⟨w.heap.size, 2, none⟩ (.slice va es.length vc) → DxPost w ys (.returned (.agg #[.bool true, .int .i64 (zX ys : Int), .slice va es.length vc])) W) := by
            rintro W rfl
            refine ⟨((D2.out.below.setCell (p := ⟨w.heap.size, 0, none⟩) (Nat.le_refl _) _).setCell (p := ⟨w.heap.size, 1, none⟩) (Nat.le_refl _) _).setCell (p := ⟨w.heap.size, 2, none⟩) (Nat.le_refl _) _, .inr ⟨_, es, _, HDX.out, rfl, ?_⟩⟩
            exact OwnE.mono (OwnE.setBelow (OwnE.setBelow (OwnE.setBelow HON2.out (by show w.heap.size < TB + 1; omega) _) (by show w.heap.size < TB + 1; omega) _) (by show w.heap.size < TB + 1; omega) _) (by omega)
          rw [hok]
          clear hok
          go_wp2
          refine leaves_cons (f := 63) (args := #[]) (by simp) (by simp [go_sem]) ?_
          refine (catchX_idle _).mono ?_
          rintro e u' w3 ⟨rfl, rfl, rfl⟩
          simp [Leaves, settle, results, Tryd.results23, go_sem, z0, z1, z2]
          exact HF.out _ rfl
        · have hok' : okTxn (zX ys : Int) es = false := by simpa using hok
          have HDX : Hid (decX ys = none) := by
            show _ = _
            unfold decX
            rw [if_neg (by omega), HCC.out, HPD.out]
            simp only
            rw [if_neg (fun h => hok h.2)]
          have HF : Hid (∀ W, W = ((w2.setCell ⟨w.heap.size, 0, none⟩ (.bool false)).setCell ⟨w.heap.size, 1, none⟩ (.int .i64 0)).setCell ⟨w.heap.size, 2, none⟩ (.slice none 0 0) → DxPost w ys (.returned (.agg #[.bool false, .int .i64 0, .slice none 0 0])) W) := by
            rintro W rfl
            exact ⟨((D2.out.below.setCell (p := ⟨w.heap.size, 0, none⟩) (Nat.le_refl _) _).setCell (p := ⟨w.heap.size, 1, none⟩) (Nat.le_refl _) _).setCell (p := ⟨w.heap.size, 2, none⟩) (Nat.le_refl _) _, .inl ⟨HDX.out, rfl⟩⟩
          rw [hok']
          clear hok hok'
          go_wp2
          refine leaves_cons (f := 63) (args := #[]) (by simp) (by simp [go_sem]) ?_
          refine (catchX_idle _).mono ?_
          rintro e u' w3 ⟨rfl, rfl, rfl⟩
          simp [Leaves, settle, results, Tryd.results23, go_sem, z0, z1, z2]
          exact HF.out _ rfl

end Go.Proofs.YtfmjalbiimhdhaaDoor
