import Derived.Test.YtdiingonnddkcaaGreatDoorJ28
import Derived.Test.YtdiingonnddkcaaGreatDoorJ13
import Derived.Test.YtdiingonnddkcaaGreatDoorJ22
import Derived.Test.YtdiingonnddkcaaGreatDoorJ27
import Derived.Test.YtdiingonnddkcaaGreatDoorJ18
namespace Go.Proofs.YtdiingonnddkcaaGreatDoor
open Go.RowKit

def zeroX : Value := .agg #[.bool false, .int .i64 0, .slice none 0 0]
/-- What an answer of DecodeTxn is. -/
def DxPost (w : World) (ys : List Int) (e : Ending) (w' : World) : Prop :=
  Below w.heap.size w w' ∧ ((decX ys = none ∧ e = .returned zeroX) ∨ ∃ z es v, decX ys = some (z, es) ∧ e = .returned (.agg #[.bool true, .int .i64 z, v]) ∧ OwnE 59 w' w.heap.size v es)
/-- The answer's own variable, still zero. -/
def Zx (W : World) (k : Nat) : Prop := k < W.heap.size ∧ W.cell? ⟨k, 0, none⟩ = some (.bool false) ∧ W.cell? ⟨k, 1, none⟩ = some (.int .i64 0) ∧ W.cell? ⟨k, 2, none⟩ = some (.slice none 0 0) ∧ ∀ j, W.frozen? ⟨k, j, none⟩ = false
theorem Zx.turn {W W' : World} {k : Nat} {row : Option Nat} (h : Zx W k) (hg : W.grownBy W' row) (hne : some k ≠ row) : Zx W' k := by
  have hb := hg.block k h.1 hne
  exact ⟨Nat.lt_of_lt_of_le h.1 hg.size, (World.cell?_of_block (a := ⟨k, 0, none⟩) hb).trans h.2.1, (World.cell?_of_block (a := ⟨k, 1, none⟩) hb).trans h.2.2.1, (World.cell?_of_block (a := ⟨k, 2, none⟩) hb).trans h.2.2.2.1, fun j => (World.frozen?_of_block (a := ⟨k, j, none⟩) hb).trans (h.2.2.2.2 j)⟩
theorem Zx.set {W : World} {k B : Nat} (h : Zx W k) (hne : k ≠ B) (i : Nat) (u : Value) : Zx (W.setCell ⟨B, i, none⟩ u) k :=
  ⟨by simpa using h.1, (World.cell?_setCell_other _ _ _ _ (by intro e; injection e with e; omega)).trans h.2.1, (World.cell?_setCell_other _ _ _ _ (by intro e; injection e with e; omega)).trans h.2.2.1, (World.cell?_setCell_other _ _ _ _ (by intro e; injection e with e; omega)).trans h.2.2.2.1, fun j => by rw [World.frozen?_setCell]; exact h.2.2.2.2 j⟩
/-- A local transaction that may be written. -/
def B2 (W : World) (k : Nat) (z : Int) (v : Value) : Prop := k < W.heap.size ∧ W.cell? ⟨k, 0, none⟩ = some (.int .i64 z) ∧ W.cell? ⟨k, 1, none⟩ = some v ∧ ∀ j, W.frozen? ⟨k, j, none⟩ = false
theorem B2.turn {W W' : World} {k : Nat} {z : Int} {v : Value} {row : Option Nat} (h : B2 W k z v) (hg : W.grownBy W' row) (hne : some k ≠ row) : B2 W' k z v := by
  have hb := hg.block k h.1 hne
  exact ⟨Nat.lt_of_lt_of_le h.1 hg.size, (World.cell?_of_block (a := ⟨k, 0, none⟩) hb).trans h.2.1, (World.cell?_of_block (a := ⟨k, 1, none⟩) hb).trans h.2.2.1, fun j => (World.frozen?_of_block (a := ⟨k, j, none⟩) hb).trans (h.2.2.2 j)⟩
theorem OwnE.turn {W W' : World} {lo : Nat} {v : Value} {ns : List Ef} {k : Nat} (h : OwnE 59 W lo v ns) (hg : W.grownBy W' (some k)) (hk : k < lo) : OwnE 59 W' lo v ns := by
  refine World.ownsRow.kept h hg ?_
  cases e : v.ownBlock with
  | none => exact .inl rfl
  | some g =>
    refine .inr fun e2 => ?_
    have := (World.ownsRow.lt h g e).1
    simp only [Option.some.injEq] at e2
    omega
theorem erow_one (ns : List Ef) (n : Ef) : erow (ns ++ [n]) = erow ns ++ efL n := by rw [erow_append]; simp [erow]
theorem efL_cells (w : World) (n : Ef) (t : TypeId) : ∀ j u, (efL n)[j]? = some u → (w.alloc (.cells #[.bool n.del, .string n.nd.path, .string n.nd.data, .int .i64 n.nd.ver, .int .i64 n.nd.cver, .int .i64 n.nd.cz, .int .i64 n.nd.mz, .int .i64 n.nd.pz] t)).cell? ((⟨w.heap.size, 0, none⟩ : Addr).add j) = some u := by
  intro j u hj
  rw [Addr.add_lit, Nat.zero_add, cell_of (heap_alloc_new w _) j, ← hj]
  simp [efL]
theorem efL_one (n : Ef) : ∀ u ∈ efL n, u.oneCell' = true := by
  intro u hu
  simp only [efL, List.mem_cons, List.mem_nil_iff, or_false] at hu
  rcases hu with rfl | rfl | rfl | rfl | rfl | rfl | rfl | rfl <;> rfl
/-- The way of DecodeTxn. -/
def TX (w : World) (ys : List Int) (TB : Nat) (W : World) (v : Value) (es fs : List Ef) (r : List Int) (c : Nat) : Prop :=
  ParE (cntX ys) (ys.drop 6) fs r c ∧ Byt r ∧ SzE fs ∧ RS w W (w.heap.size + 1) r ∧ Zx W w.heap.size ∧ B2 W TB (zX ys) v ∧ OwnE 59 W (TB + 1) v es
theorem TX.later {w W W' : World} {ys : List Int} {TB : Nat} {v : Value} {es fs : List Ef} {r : List Int} {c : Nat} (h : TX w ys TB W v es fs r c) (hb : Below W.heap.size W W') : TX w ys TB W' v es fs r c := by
  obtain ⟨t1, t2, t3, t4, t5, t6, t7⟩ := h
  exact ⟨t1, t2, t3, t4.new hb, t5.turn (grown_of hb none) (by simp), t6.turn (grown_of hb none) (by simp), t7.below hb⟩
theorem TX.below {w W : World} {ys : List Int} {TB : Nat} {v : Value} {es fs : List Ef} {r : List Int} {c : Nat} (h : TX w ys TB W v es fs r c) : Below w.heap.size w W := h.2.2.2.1.2.2.2.1
theorem TX.read {w W W1 : World} {ys : List Int} {TB : Nat} {v : Value} {es : List Ef} {r r' : List Int} {c : Nat} {n : Ef} (hT : w.heap.size + 2 ≤ TB) (h : TX w ys TB W v es es r (c + 1)) (hg : W.grownBy W1 (some (w.heap.size + 1))) (hp : rdE r = some (n, r')) (hr : RS w W1 (w.heap.size + 1) r') : TX w ys TB W1 v es (es ++ [n]) r' c := by
  obtain ⟨t1, t2, t3, t4, t5, t6, t7⟩ := h
  have hb := rdE_byt hp t2
  exact ⟨t1.step t2 hp, hb.1, t3.snoc hb.2.2.1 hb.2.2.2, hr, t5.turn hg (by simp), t6.turn hg (by simp; omega), t7.turn hg (by omega)⟩
theorem TX.push {w W W3 : World} {ys : List Int} {TB : Nat} {v v3 : Value} {es : List Ef} {r : List Int} {c : Nat} {n : Ef} (hT : w.heap.size + 2 ≤ TB) (h : TX w ys TB W v es (es ++ [n]) r c) (hg : W.grownBy W3 v.ownBlock) (ho : W3.ownsRow (TB + 1) 59 8 v3 (es.length + 1) (erow es ++ efL n)) :
    TX w ys TB (W3.setCell ⟨TB, 1, none⟩ v3) v3 (es ++ [n]) (es ++ [n]) r c := by
  obtain ⟨t1, t2, t3, t4, t5, t6, t7⟩ := h
  have hne : ∀ k, k < TB + 1 → some k ≠ v.ownBlock := fun k hk e => by have := (World.ownsRow.lt t7 k e.symm).1; omega
  have hlo : ∀ g, v.ownBlock = some g → w.heap.size ≤ g := fun g e => by have := (World.ownsRow.lt t7 g e).1; omega
  have b6 := t6.turn hg (hne _ (by omega))
  refine ⟨t1, t2, t3, (t4.turn hg (hne _ (by omega)) hlo).setOther (by omega) (by omega) _ _, (t5.turn hg (hne _ (by omega))).set (by omega) _ _, ⟨by simpa using b6.1, (World.cell?_setCell_other _ _ _ _ (by intro e; injection e with _ e; omega)).trans b6.2.1, World.cell?_setCell_same _ _ _ b6.2.2.1, fun j => by rw [World.frozen?_setCell]; exact b6.2.2.2 j⟩, ?_⟩
  have : OwnE 59 W3 (TB + 1) v3 (es ++ [n]) := by unfold OwnE; rw [erow_one, List.length_append]; exact ho
  exact OwnE.setBelow this (by show TB < TB + 1; omega) _
theorem decX_short {ys : List Int} (h : ys.length < 6) : decX ys = none := by unfold decX; rw [if_pos h]
theorem decX_bad {ys : List Int} (h : pEs (cntX ys) (ys.drop 6) = none) : decX ys = none := by unfold decX; split; rfl; rw [h]

set_option maxHeartbeats 4000000 in
set_option maxRecDepth 100000 in
theorem implDecX_any (w : World) (v : Value) (ys : List Int) (h : Rd .u8 w v ys) (hby : Byt ys) (hl : ys.length ≤ 1048576) :
    Calls Tryz.prog 15 #[v] w fun e w' => DxPost w ys e w' := by
  obtain ⟨i0, hi, hz0, hz1, hz2⟩ := info_parts Tryz.infoE
  obtain ⟨ao, cap, rfl, -, -⟩ := h.len
  have HBY := hd9 hby
  have R0 : Hid (RS w ((w.alloc (.cells #[.bool false, .int .i64 0, .slice none 0 0] 49)).alloc (.cells #[.slice ao ys.length cap] 94)) (w.heap.size + 1) ys) := ⟨by omega, by simp, (by go_simp), ((Below.refl _ _).alloc (Nat.le_refl _) _).alloc (by simp) _, _, (by go_simp), h⟩
  have Z0 : Hid (Zx ((w.alloc (.cells #[.bool false, .int .i64 0, .slice none 0 0] 49)).alloc (.cells #[.slice ao ys.length cap] 94)) w.heap.size) := ⟨by simp; omega, (by go_simp), (by go_simp), (by go_simp), fun j => (by go_simp)⟩
  have s0 : ((w.alloc (.cells #[.bool false, .int .i64 0, .slice none 0 0] 49)).alloc (.cells #[.slice ao ys.length cap] 94)).heap.size = w.heap.size + 2 := by simp
  clear h hby
  have HBAD : Hid (decX ys = none → ∀ W W', Zx W w.heap.size → Below w.heap.size w W → Below W.heap.size W W' → W'.cell? ⟨w.heap.size, 0, none⟩ = some (.bool false) ∧ W'.cell? ⟨w.heap.size, 1, none⟩ = some (.int .i64 0) ∧ W'.cell? ⟨w.heap.size, 2, none⟩ = some (.slice none 0 0) ∧ DxPost w ys (.returned (.agg #[.bool false, .int .i64 0, .slice none 0 0])) W') := by
    intro hd W W' hz hB hb
    have z := hz.turn (grown_of hb none) (by simp)
    exact ⟨z.2.1, z.2.2.1, z.2.2.2.1, hB.trans (hb.mono hB.size), .inl ⟨hd, rfl⟩⟩
  have hm := hmf
  go_enter_defers Tryz.func15, Tryz.ntmps15
  go_wp2_with fail
  generalize ((w.alloc (.cells #[.bool false, .int .i64 0, .slice none 0 0] 49)).alloc (.cells #[.slice ao ys.length cap] 94)) = W0 at *
  by_cases hl4 : 4 ≤ ys.length
  rotate_left
  · refine (number_none w _ (w.heap.size + 1) 4 ys R0.out (by omega)).mono ?_
    rintro e W ⟨rfl, rfl⟩
    refine leaves_cons (f := 42) (args := #[]) (by simp) (by simp [go_sem]) ?_
    refine (catchX_bad [] _).mono ?_
    rintro e u' w2 ⟨rfl, rfl, b2⟩
    obtain ⟨z0, z1, z2, hF⟩ := HBAD.out (decX_short (by omega)) _ _ Z0.out R0.out.2.2.2.1 b2
    simp [Leaves, settle, results, Tryz.results15, go_sem, z0, z1, z2]
    exact hF
  refine (number_any w _ (w.heap.size + 1) 4 ys R0.out (by omega) (by omega) (by omega) HBY.out).mono ?_
  rintro e W ⟨rfl, r1, v1, q1, rfl⟩
  rw [wrap4 HBY.out]
  have g1 : W0.grownBy ((W0.setCell ⟨w.heap.size + 1, 0, none⟩ v1).drewN q1) (some (w.heap.size + 1)) := (grownBy_set _ _ _ _ _ (World.grownBy.refl _ _)).trans (grown_of (below_drewN' _ q1) _)
  have Z1 := hd9 (Z0.out.turn g1 (by simp))
  have R1 := hd9 r1
  have s1 : w.heap.size + 2 ≤ ((W0.setCell ⟨w.heap.size + 1, 0, none⟩ v1).drewN q1).heap.size := by have := g1.size; omega
  clear r1 g1 R0 Z0 s0
  generalize (W0.setCell ⟨w.heap.size + 1, 0, none⟩ v1).drewN q1 = V0 at *
  have HZX : Hid (((numB (ys.take 4) : Nat) : Int) = (zX ys : Int)) := rfl
  rw [HZX.out]
  have R2 : Hid (RS w (V0.alloc (.cells #[.int .i64 (zX ys : Int), .slice none 0 0] 35)) (w.heap.size + 1) (ys.drop 4)) := R1.out.new ((Below.refl _ _).alloc (Nat.le_refl _) _)
  have Z2 : Hid (Zx (V0.alloc (.cells #[.int .i64 (zX ys : Int), .slice none 0 0] 35)) w.heap.size) := Z1.out.turn (grown_alloc _ _ none) (by simp)
  have X2 : Hid (B2 (V0.alloc (.cells #[.int .i64 (zX ys : Int), .slice none 0 0] 35)) V0.heap.size (zX ys) (.slice none 0 0)) := ⟨by simp, (by go_simp), (by go_simp), fun j => (by go_simp)⟩
  go_wp2_with fail
  clear R1 Z1
  generalize V0.alloc (.cells #[.int .i64 (zX ys : Int), .slice none 0 0] 35) = W1 at *
  generalize V0.heap.size = TB at *
  by_cases hl6 : 6 ≤ ys.length
  rotate_left
  · refine (number_none w _ (w.heap.size + 1) 2 (ys.drop 4) R2.out (by rw [List.length_drop]; omega)).mono ?_
    rintro e W ⟨rfl, rfl⟩
    refine leaves_cons (f := 42) (args := #[]) (by simp) (by simp [go_sem]) ?_
    refine (catchX_bad [] _).mono ?_
    rintro e u' w2 ⟨rfl, rfl, b2⟩
    obtain ⟨z0, z1, z2, hF⟩ := HBAD.out (decX_short (by omega)) _ _ Z2.out R2.out.2.2.2.1 b2
    simp [Leaves, settle, results, Tryz.results15, go_sem, z0, z1, z2]
    exact hF
  refine (number_any w _ (w.heap.size + 1) 2 (ys.drop 4) R2.out (by rw [List.length_drop]; omega) (by omega) (by omega) (byt_drop HBY.out 4)).mono ?_
  rintro e W ⟨rfl, r3, v3, q3, rfl⟩
  rw [(wrap2 (byt_drop HBY.out 4)).1]
  have hC := (wrap2 (byt_drop HBY.out 4)).2
  rw [show numB ((ys.drop 4).take 2) = cntX ys from rfl] at *
  rw [List.drop_drop] at r3
  have g3 : W1.grownBy ((W1.setCell ⟨w.heap.size + 1, 0, none⟩ v3).drewN q3) (some (w.heap.size + 1)) := (grownBy_set _ _ _ _ _ (World.grownBy.refl _ _)).trans (grown_of (below_drewN' _ q3) _)
  have D0 : Hid (TX w ys TB ((W1.setCell ⟨w.heap.size + 1, 0, none⟩ v3).drewN q3) (.slice none 0 0) [] [] (ys.drop 6) (cntX ys - 0)) := ⟨ParE.start _ _, byt_drop HBY.out 6, (fun n hn => by cases hn), r3, Z2.out.turn g3 (by simp), X2.out.turn g3 (by simp; omega), World.ownsRow_nil _ _ _ _⟩
  clear g3 r3 R2 Z2 X2
  generalize (W1.setCell ⟨w.heap.size + 1, 0, none⟩ v3).drewN q3 = V1 at *
  generalize hCC : cntX ys = C at *
  have HCC := hd9 hCC
  clear hCC
  go_wp2
  go_loopw [14] (fun vi wr => ∃ (i : Nat) (v : Value) (es : List Ef) (r : List Int), i ≤ C ∧ vi = .int .i64 i ∧ Hid (TX w ys TB wr v es es r (C - i))) (fun i _ => C - (intOf i).toNat)
  case atStart => exact ⟨0, _, _, _, Nat.zero_le _, rfl, D0⟩
  case round =>
    clear D0
    obtain ⟨i, v, es, r, hi5, rfl, D⟩ := hrel
    obtain ⟨va, vc, hva⟩ := D.out.2.2.2.2.2.2.slice
    subst hva
    have hns : es.length ≤ 1048576 := by have := D.out.1.2; rw [List.length_drop] at this; omega
    by_cases hlt : i < C
    · have hltI : (i : Int) < (C : Int) := by omega
      obtain ⟨c, hc⟩ : ∃ c, C - i = c + 1 := ⟨C - i - 1, by omega⟩
      rw [hc] at D
      have HC2 : Hid (C - (i + 1) = c) := by show _ = _; omega
      clear hc
      go_wp2_with fail
      refine (effectImage_any w wr (w.heap.size + 1) r D.out.2.2.2.1 D.out.2.1).mono ?_
      rintro e W2 ⟨g2, hp⟩
      rcases hp with ⟨hp, rfl⟩ | ⟨n, r', hp, rfl, hr1⟩
      · refine leaves_cons (f := 42) (args := #[]) (by simp) (by simp [go_sem]) ?_
        refine (catchX_bad [] _).mono ?_
        rintro e u' w3 ⟨rfl, rfl, b3⟩
        have hB := D.out.below.grown g2 D.out.below.size (fun q hq => by simp only [Option.some.injEq] at hq; omega)
        obtain ⟨z0, z1, z2, hF⟩ := HBAD.out (decX_bad (by rw [HCC.out]; exact (HCC.out ▸ D.out.1).bad hp)) _ _ (D.out.2.2.2.2.1.turn g2 (by simp)) hB b3
        simp [Leaves, settle, results, Tryz.results15, go_sem, z0, z1, z2]
        exact hF
      have T1 := hd9 (D.out.read s1 g2 hp hr1)
      clear g2 hp hr1 D
      have T2 : Hid (TX w ys TB (W2.alloc (.cells #[.string n.nd.path, .string n.nd.data, .int .i64 n.nd.ver, .int .i64 n.nd.cver, .int .i64 n.nd.cz, .int .i64 n.nd.mz, .int .i64 n.nd.pz, .int .u8 (mkB n)] 99)) (.slice va es.length vc) es (es ++ [n]) r' c) := T1.out.later ((Below.refl _ _).alloc (Nat.le_refl _) _)
      have E2 : Hid (EB (W2.alloc (.cells #[.string n.nd.path, .string n.nd.data, .int .i64 n.nd.ver, .int .i64 n.nd.cver, .int .i64 n.nd.cz, .int .i64 n.nd.mz, .int .i64 n.nd.pz, .int .u8 (mkB n)] 99)) W2.heap.size n.nd (mkB n)) := EB.new W2 n.nd (mkB n) _
      have c0 := T1.out.2.2.2.2.2.1.2.2.1
      have cl := T1.out.2.2.2.2.2.1.1
      unfold efIV
      go_wp2
      clear c0 cl T1
      generalize W2.alloc (.cells #[.string n.nd.path, .string n.nd.data, .int .i64 n.nd.ver, .int .i64 n.nd.cver, .int .i64 n.nd.cz, .int .i64 n.nd.mz, .int .i64 n.nd.pz, .int .u8 (mkB n)] 99) = W3 at *
      generalize W2.heap.size = BE at *
      have c0 := T2.out.2.2.2.2.2.1.2.2.1
      refine wp_region_noPanic ?_
      refine wp_region_held_drew (S := fun _ => True) (by kernel_rfl) (trivial) (fun hHeld => ?_)
      refine wpAnyH_take (i := 0) (oi := { dst := some 18, op := _, type := _, pos := _, after := _, guard := _ }) (v := (.pointer (some ⟨TB, 1, none⟩))) rfl (by kernel_rfl) (by kernel_rfl) (by kernel_rfl) (fun _ _ _ h => h) (Or.inl ⟨by rfl, ?hy1⟩) (by assumption) ?rest1
      case hy1 =>
        intro w9 hS9
        go_simp
      try simp only [Act.put, List.setIfInBounds_toArray, List.set_cons_zero, List.set_cons_succ]
      refine wpAnyH_ready (rs := [1, 2]) (by kernel_rfl) (by simp) ?_
      refine AllReadyH.cons (o := { dst := some 19, op := _, type := _, pos := _, after := _, guard := _ }) rfl (fun K hK => ?_) (AllReadyH.cons (o := { dst := some 20, op := _, type := _, pos := _, after := _, guard := _ }) rfl (fun K hK => ?_) AllReadyH.nil)
      · go_simp
        refine hK.out _ _ trivial (fun hx9 => ?_)
        clear hK K hx9
        refine wpAnyH_ready (rs := [2]) (by kernel_rfl) (by simp) ?_
        refine AllReadyH.cons (o := { dst := some 20, op := _, type := _, pos := _, after := _, guard := _ }) rfl (fun K hK => ?_) AllReadyH.nil
        go_simp
        refine (effect_any W3.drew BE n (E2.out.turn (grown_of (below_drewN' W3 1) none) (by simp))).mono ?_
        rintro e W4 ⟨rfl, b4⟩
        have T4 := hd9 ((T2.out.later (below_drewN' W3 1)).later b4)
        have c1 := T4.out.2.2.2.2.2.1.2.2.1
        clear b4
        refine hK.out _ _ trivial (fun hx9 => ?_)
        clear hK K hx9
        refine wpAnyH_ready (rs := [3]) (by kernel_rfl) (by simp) ?_
        refine AllReadyH.cons (o := { dst := some 21, op := _, type := _, pos := _, after := _, guard := _ }) rfl (fun K hK => ?_) AllReadyH.nil
        unfold efV
        go_simp
        have T5 : Hid (TX w ys TB (W4.alloc (.cells #[.bool n.del, .string n.nd.path, .string n.nd.data, .int .i64 n.nd.ver, .int .i64 n.nd.cver, .int .i64 n.nd.cz, .int .i64 n.nd.mz, .int .i64 n.nd.pz] 59)) (.slice va es.length vc) es (es ++ [n]) r' c) := T4.out.later ((Below.refl _ _).alloc (Nat.le_refl _) _)
        have NC : Hid (∀ j u, (efL n)[j]? = some u → (W4.alloc (.cells #[.bool n.del, .string n.nd.path, .string n.nd.data, .int .i64 n.nd.ver, .int .i64 n.nd.cver, .int .i64 n.nd.cz, .int .i64 n.nd.mz, .int .i64 n.nd.pz] 59)).cell? ((⟨W4.heap.size, 0, none⟩ : Addr).add j) = some u) := efL_cells _ _ _
        refine hK.out _ _ trivial (fun hx9 => ?_)
        clear hK K hx9 c1
        generalize W4.alloc (.cells #[.bool n.del, .string n.nd.path, .string n.nd.data, .int .i64 n.nd.ver, .int .i64 n.nd.cver, .int .i64 n.nd.cz, .int .i64 n.nd.mz, .int .i64 n.nd.pz] 59) = W5 at *
        generalize W4.heap.size = G4 at *
        have c1 := T5.out.2.2.2.2.2.1.2.2.1
        refine wpAnyH_ready (rs := [4]) (by kernel_rfl) (by simp) ?_
        refine AllReadyH.cons (o := { dst := some 22, op := _, type := _, pos := _, after := _, guard := _ }) rfl (fun K hK => ?_) AllReadyH.nil
        refine step_append rfl (.tmp 19) (.tmp 21) 33 rfl (TB + 1) 59 i0 (.agg #[.bool false, .string ByteArray.empty, .string ByteArray.empty, .int .i64 0, .int .i64 0, .int .i64 0, .int .i64 0, .int .i64 0]) 8 80 Tryz.underlying33 hi hz0 hz1 hz2 rfl (by decide) (.slice va es.length vc) es.length _ rfl T5.out.2.2.2.2.2.2 ⟨G4, 0, none⟩ 1 1 (efL n) rfl rfl NC.out (efL_one n) (by unfold maxLen; omega) (by omega) (by have := T5.out.2.2.2.2.2.1.1; omega) ?_
        intro v6 W6 ho6 hg6
        have D6 := hd9 (T5.out.push s1 hg6 ho6)
        obtain ⟨a6, q6, hv6⟩ := D6.out.2.2.2.2.2.2.slice
        rw [show (es ++ [n]).length = es.length + 1 by simp] at hv6
        subst hv6
        obtain ⟨-, -, c6, ff⟩ := T5.out.2.2.2.2.2.1.turn hg6 (fun e => by have := (World.ownsRow.lt T5.out.2.2.2.2.2.2 _ e.symm).1; omega)
        have f6 := ff 1
        clear ho6 hg6 ff
        refine hK.out _ _ trivial (fun hx9 => ?_)
        clear hK K hx9
        try simp only [Act.put, List.setIfInBounds_toArray, List.set_cons_zero, List.set_cons_succ]
        refine wpAnyH_take (i := 5) (oi := { dst := some 23, op := _, type := _, pos := _, after := _, guard := _ }) (v := (.pointer (some ⟨TB, 1, none⟩))) rfl (by kernel_rfl) (by kernel_rfl) (by kernel_rfl) (fun _ _ _ h => h) (Or.inl ⟨by rfl, ?hy2⟩) (by assumption) ?rest2
        case hy2 =>
          intro w9 hS9
          go_simp
        try simp only [Act.put, List.setIfInBounds_toArray, List.set_cons_zero, List.set_cons_succ]
        refine wpAnyH_ready (rs := [6]) (by kernel_rfl) (by simp) ?_
        refine AllReadyH.cons (o := { dst := none, op := _, type := _, pos := _, after := _, guard := _ }) rfl (fun K hK => ?_) AllReadyH.nil
        go_simp
        refine hK.out _ _ trivial (fun hx9 => ?_)
        clear hK K hx9
        refine wpAnyH_done (by kernel_rfl) (NoPanic.normal ?_) _
        clear c0 c1 c6 f6 hHeld
        go_wp2
        exact ⟨⟨i + 1, _, _, _, by omega, by go_num, (by rw [HC2.out]; exact D6)⟩, by simp [intOf]; omega⟩
      · go_simp
        refine (effect_any W3.drew BE n (E2.out.turn (grown_of (below_drewN' W3 1) none) (by simp))).mono ?_
        rintro e W4 ⟨rfl, b4⟩
        have T4 := hd9 ((T2.out.later (below_drewN' W3 1)).later b4)
        have c1 := T4.out.2.2.2.2.2.1.2.2.1
        clear b4
        refine hK.out _ _ trivial (fun hx9 => ?_)
        clear hK K hx9
        refine wpAnyH_ready (rs := [1, 3]) (by kernel_rfl) (by simp) ?_
        refine AllReadyH.cons (o := { dst := some 19, op := _, type := _, pos := _, after := _, guard := _ }) rfl (fun K hK => ?_) (AllReadyH.cons (o := { dst := some 21, op := _, type := _, pos := _, after := _, guard := _ }) rfl (fun K hK => ?_) AllReadyH.nil)
        · go_simp
          refine hK.out _ _ trivial (fun hx9 => ?_)
          clear hK K hx9
          refine wpAnyH_ready (rs := [3]) (by kernel_rfl) (by simp) ?_
          refine AllReadyH.cons (o := { dst := some 21, op := _, type := _, pos := _, after := _, guard := _ }) rfl (fun K hK => ?_) AllReadyH.nil
          unfold efV
          go_simp
          have T5 : Hid (TX w ys TB (W4.alloc (.cells #[.bool n.del, .string n.nd.path, .string n.nd.data, .int .i64 n.nd.ver, .int .i64 n.nd.cver, .int .i64 n.nd.cz, .int .i64 n.nd.mz, .int .i64 n.nd.pz] 59)) (.slice va es.length vc) es (es ++ [n]) r' c) := T4.out.later ((Below.refl _ _).alloc (Nat.le_refl _) _)
          have NC : Hid (∀ j u, (efL n)[j]? = some u → (W4.alloc (.cells #[.bool n.del, .string n.nd.path, .string n.nd.data, .int .i64 n.nd.ver, .int .i64 n.nd.cver, .int .i64 n.nd.cz, .int .i64 n.nd.mz, .int .i64 n.nd.pz] 59)).cell? ((⟨W4.heap.size, 0, none⟩ : Addr).add j) = some u) := efL_cells _ _ _
          refine hK.out _ _ trivial (fun hx9 => ?_)
          clear hK K hx9 c1
          generalize W4.alloc (.cells #[.bool n.del, .string n.nd.path, .string n.nd.data, .int .i64 n.nd.ver, .int .i64 n.nd.cver, .int .i64 n.nd.cz, .int .i64 n.nd.mz, .int .i64 n.nd.pz] 59) = W5 at *
          generalize W4.heap.size = G4 at *
          have c1 := T5.out.2.2.2.2.2.1.2.2.1
          refine wpAnyH_ready (rs := [4]) (by kernel_rfl) (by simp) ?_
          refine AllReadyH.cons (o := { dst := some 22, op := _, type := _, pos := _, after := _, guard := _ }) rfl (fun K hK => ?_) AllReadyH.nil
          refine step_append rfl (.tmp 19) (.tmp 21) 33 rfl (TB + 1) 59 i0 (.agg #[.bool false, .string ByteArray.empty, .string ByteArray.empty, .int .i64 0, .int .i64 0, .int .i64 0, .int .i64 0, .int .i64 0]) 8 80 Tryz.underlying33 hi hz0 hz1 hz2 rfl (by decide) (.slice va es.length vc) es.length _ rfl T5.out.2.2.2.2.2.2 ⟨G4, 0, none⟩ 1 1 (efL n) rfl rfl NC.out (efL_one n) (by unfold maxLen; omega) (by omega) (by have := T5.out.2.2.2.2.2.1.1; omega) ?_
          intro v6 W6 ho6 hg6
          have D6 := hd9 (T5.out.push s1 hg6 ho6)
          obtain ⟨a6, q6, hv6⟩ := D6.out.2.2.2.2.2.2.slice
          rw [show (es ++ [n]).length = es.length + 1 by simp] at hv6
          subst hv6
          obtain ⟨-, -, c6, ff⟩ := T5.out.2.2.2.2.2.1.turn hg6 (fun e => by have := (World.ownsRow.lt T5.out.2.2.2.2.2.2 _ e.symm).1; omega)
          have f6 := ff 1
          clear ho6 hg6 ff
          refine hK.out _ _ trivial (fun hx9 => ?_)
          clear hK K hx9
          try simp only [Act.put, List.setIfInBounds_toArray, List.set_cons_zero, List.set_cons_succ]
          refine wpAnyH_take (i := 5) (oi := { dst := some 23, op := _, type := _, pos := _, after := _, guard := _ }) (v := (.pointer (some ⟨TB, 1, none⟩))) rfl (by kernel_rfl) (by kernel_rfl) (by kernel_rfl) (fun _ _ _ h => h) (Or.inl ⟨by rfl, ?hy3⟩) (by assumption) ?rest3
          case hy3 =>
            intro w9 hS9
            go_simp
          try simp only [Act.put, List.setIfInBounds_toArray, List.set_cons_zero, List.set_cons_succ]
          refine wpAnyH_ready (rs := [6]) (by kernel_rfl) (by simp) ?_
          refine AllReadyH.cons (o := { dst := none, op := _, type := _, pos := _, after := _, guard := _ }) rfl (fun K hK => ?_) AllReadyH.nil
          go_simp
          refine hK.out _ _ trivial (fun hx9 => ?_)
          clear hK K hx9
          refine wpAnyH_done (by kernel_rfl) (NoPanic.normal ?_) _
          clear c0 c1 c6 f6 hHeld
          go_wp2
          exact ⟨⟨i + 1, _, _, _, by omega, by go_num, (by rw [HC2.out]; exact D6)⟩, by simp [intOf]; omega⟩
        · unfold efV
          go_simp
          have T5 : Hid (TX w ys TB (W4.alloc (.cells #[.bool n.del, .string n.nd.path, .string n.nd.data, .int .i64 n.nd.ver, .int .i64 n.nd.cver, .int .i64 n.nd.cz, .int .i64 n.nd.mz, .int .i64 n.nd.pz] 59)) (.slice va es.length vc) es (es ++ [n]) r' c) := T4.out.later ((Below.refl _ _).alloc (Nat.le_refl _) _)
          have NC : Hid (∀ j u, (efL n)[j]? = some u → (W4.alloc (.cells #[.bool n.del, .string n.nd.path, .string n.nd.data, .int .i64 n.nd.ver, .int .i64 n.nd.cver, .int .i64 n.nd.cz, .int .i64 n.nd.mz, .int .i64 n.nd.pz] 59)).cell? ((⟨W4.heap.size, 0, none⟩ : Addr).add j) = some u) := efL_cells _ _ _
          refine hK.out _ _ trivial (fun hx9 => ?_)
          clear hK K hx9 c1
          generalize W4.alloc (.cells #[.bool n.del, .string n.nd.path, .string n.nd.data, .int .i64 n.nd.ver, .int .i64 n.nd.cver, .int .i64 n.nd.cz, .int .i64 n.nd.mz, .int .i64 n.nd.pz] 59) = W5 at *
          generalize W4.heap.size = G4 at *
          have c1 := T5.out.2.2.2.2.2.1.2.2.1
          refine wpAnyH_ready (rs := [1]) (by kernel_rfl) (by simp) ?_
          refine AllReadyH.cons (o := { dst := some 19, op := _, type := _, pos := _, after := _, guard := _ }) rfl (fun K hK => ?_) AllReadyH.nil
          go_simp
          refine hK.out _ _ trivial (fun hx9 => ?_)
          clear hK K hx9
          refine wpAnyH_ready (rs := [4]) (by kernel_rfl) (by simp) ?_
          refine AllReadyH.cons (o := { dst := some 22, op := _, type := _, pos := _, after := _, guard := _ }) rfl (fun K hK => ?_) AllReadyH.nil
          refine step_append rfl (.tmp 19) (.tmp 21) 33 rfl (TB + 1) 59 i0 (.agg #[.bool false, .string ByteArray.empty, .string ByteArray.empty, .int .i64 0, .int .i64 0, .int .i64 0, .int .i64 0, .int .i64 0]) 8 80 Tryz.underlying33 hi hz0 hz1 hz2 rfl (by decide) (.slice va es.length vc) es.length _ rfl T5.out.2.2.2.2.2.2 ⟨G4, 0, none⟩ 1 1 (efL n) rfl rfl NC.out (efL_one n) (by unfold maxLen; omega) (by omega) (by have := T5.out.2.2.2.2.2.1.1; omega) ?_
          intro v6 W6 ho6 hg6
          have D6 := hd9 (T5.out.push s1 hg6 ho6)
          obtain ⟨a6, q6, hv6⟩ := D6.out.2.2.2.2.2.2.slice
          rw [show (es ++ [n]).length = es.length + 1 by simp] at hv6
          subst hv6
          obtain ⟨-, -, c6, ff⟩ := T5.out.2.2.2.2.2.1.turn hg6 (fun e => by have := (World.ownsRow.lt T5.out.2.2.2.2.2.2 _ e.symm).1; omega)
          have f6 := ff 1
          clear ho6 hg6 ff
          refine hK.out _ _ trivial (fun hx9 => ?_)
          clear hK K hx9
          try simp only [Act.put, List.setIfInBounds_toArray, List.set_cons_zero, List.set_cons_succ]
          refine wpAnyH_take (i := 5) (oi := { dst := some 23, op := _, type := _, pos := _, after := _, guard := _ }) (v := (.pointer (some ⟨TB, 1, none⟩))) rfl (by kernel_rfl) (by kernel_rfl) (by kernel_rfl) (fun _ _ _ h => h) (Or.inl ⟨by rfl, ?hy4⟩) (by assumption) ?rest4
          case hy4 =>
            intro w9 hS9
            go_simp
          try simp only [Act.put, List.setIfInBounds_toArray, List.set_cons_zero, List.set_cons_succ]
          refine wpAnyH_ready (rs := [6]) (by kernel_rfl) (by simp) ?_
          refine AllReadyH.cons (o := { dst := none, op := _, type := _, pos := _, after := _, guard := _ }) rfl (fun K hK => ?_) AllReadyH.nil
          go_simp
          refine hK.out _ _ trivial (fun hx9 => ?_)
          clear hK K hx9
          refine wpAnyH_done (by kernel_rfl) (NoPanic.normal ?_) _
          clear c0 c1 c6 f6 hHeld
          go_wp2
          exact ⟨⟨i + 1, _, _, _, by omega, by go_num, (by rw [HC2.out]; exact D6)⟩, by simp [intOf]; omega⟩
    · have hic : i = C := by omega
      subst hic
      rw [Nat.sub_self] at D
      have HPD := hd9 ((HCC.out ▸ D.out.1).done)
      go_wp2_with fail
      refine (done_any w wr (w.heap.size + 1) r D.out.2.2.2.1).mono ?_
      rintro e w1 ⟨rfl, rfl⟩
      obtain ⟨-, -, t3, -, ⟨tz, z0, z1, z2, zf⟩, ⟨-, b0, b1, -⟩, t7⟩ := D.out
      have f0 := zf 0
      have f1 := zf 1
      have f2 := zf 2
      have HSZ := hd9 t3
      have HON := hd9 t7
      clear t3 t7 zf
      by_cases hr : r = []
      rotate_left
      · have HDX : Hid (decX ys = none) := by
          show _ = _
          unfold decX
          rw [if_neg (by omega), HCC.out, HPD.out]
          simp only
          rw [if_neg (fun h => hr h.1)]
        have HF : Hid (∀ W, W = ((w1.setCell ⟨w.heap.size, 0, none⟩ (.bool false)).setCell ⟨w.heap.size, 1, none⟩ (.int .i64 0)).setCell ⟨w.heap.size, 2, none⟩ (.slice none 0 0) → DxPost w ys (.returned (.agg #[.bool false, .int .i64 0, .slice none 0 0])) W) := by
          rintro W rfl
          exact ⟨((D.out.below.setCell (p := ⟨w.heap.size, 0, none⟩) (Nat.le_refl _) _).setCell (p := ⟨w.heap.size, 1, none⟩) (Nat.le_refl _) _).setCell (p := ⟨w.heap.size, 2, none⟩) (Nat.le_refl _) _, .inl ⟨HDX.out, rfl⟩⟩
        rw [decide_eq_false hr]
        clear b0 b1 hr
        go_wp2
        refine leaves_cons (f := 42) (args := #[]) (by simp) (by simp [go_sem]) ?_
        refine (catchX_idle _).mono ?_
        rintro e u' w3 ⟨rfl, rfl, rfl⟩
        simp [Leaves, settle, results, Tryz.results15, go_sem, z0, z1, z2]
        exact HF.out _ rfl
      · subst hr
        rw [show decide (([] : List Int) = []) = true from rfl]
        clear z0 z1 z2 f0 f1 f2
        go_wp2_with fail
        refine (implTxn_any _ _ _ es HON.out.rd HSZ.out.at).mono ?_
        rintro e w2 ⟨rfl, b2⟩
        have D2 := hd9 (D.out.later b2)
        obtain ⟨-, -, -, -, ⟨-, z0, z1, z2, zf⟩, ⟨-, d0, d1, -⟩, t7⟩ := D2.out
        have f0 := zf 0
        have f1 := zf 1
        have f2 := zf 2
        have HON2 := hd9 t7
        clear zf b2 t7 HON b0 b1
        by_cases hok : okTxn (zX ys : Int) es = true
        · have HDX : Hid (decX ys = some ((zX ys : Int), es)) := by
            show _ = _
            unfold decX
            rw [if_neg (by omega), HCC.out, HPD.out]
            simp only
            rw [if_pos ⟨trivial, hok⟩]
          have HF : Hid (∀ W, W = ((w2.setCell ⟨w.heap.size, 0, none⟩ (.bool true)).setCell ⟨w.heap.size, 1, none⟩ (.int .i64 (zX ys : Int))).setCell ⟨w.heap.size, 2, none⟩ (.slice va es.length vc) → DxPost w ys (.returned (.agg #[.bool true, .int .i64 (zX ys : Int), .slice va es.length vc])) W) := by
            rintro W rfl
            refine ⟨((D2.out.below.setCell (p := ⟨w.heap.size, 0, none⟩) (Nat.le_refl _) _).setCell (p := ⟨w.heap.size, 1, none⟩) (Nat.le_refl _) _).setCell (p := ⟨w.heap.size, 2, none⟩) (Nat.le_refl _) _, .inr ⟨_, es, _, HDX.out, rfl, ?_⟩⟩
            exact OwnE.mono (OwnE.setBelow (OwnE.setBelow (OwnE.setBelow HON2.out (by show w.heap.size < TB + 1; omega) _) (by show w.heap.size < TB + 1; omega) _) (by show w.heap.size < TB + 1; omega) _) (by omega)
          rw [hok]
          clear hok
          go_wp2
          refine leaves_cons (f := 42) (args := #[]) (by simp) (by simp [go_sem]) ?_
          refine (catchX_idle _).mono ?_
          rintro e u' w3 ⟨rfl, rfl, rfl⟩
          simp [Leaves, settle, results, Tryz.results15, go_sem, z0, z1, z2]
          exact HF.out _ rfl
        · have hok' : okTxn (zX ys : Int) es = false := by simpa using hok
          have HDX : Hid (decX ys = none) := by
            show _ = _
            unfold decX
            rw [if_neg (by omega), HCC.out, HPD.out]
            simp only
            rw [if_neg (fun h => hok h.2)]
          have HF : Hid (∀ W, W = ((w2.setCell ⟨w.heap.size, 0, none⟩ (.bool false)).setCell ⟨w.heap.size, 1, none⟩ (.int .i64 0)).setCell ⟨w.heap.size, 2, none⟩ (.slice none 0 0) → DxPost w ys (.returned (.agg #[.bool false, .int .i64 0, .slice none 0 0])) W) := by
            rintro W rfl
            exact ⟨((D2.out.below.setCell (p := ⟨w.heap.size, 0, none⟩) (Nat.le_refl _) _).setCell (p := ⟨w.heap.size, 1, none⟩) (Nat.le_refl _) _).setCell (p := ⟨w.heap.size, 2, none⟩) (Nat.le_refl _) _, .inl ⟨HDX.out, rfl⟩⟩
          rw [hok']
          clear hok hok'
          go_wp2
          refine leaves_cons (f := 42) (args := #[]) (by simp) (by simp [go_sem]) ?_
          refine (catchX_idle _).mono ?_
          rintro e u' w3 ⟨rfl, rfl, rfl⟩
          simp [Leaves, settle, results, Tryz.results15, go_sem, z0, z1, z2]
          exact HF.out _ rfl

end Go.Proofs.YtdiingonnddkcaaGreatDoor
namespace Go.Proofs.YtdiingonnddkcaaGreatDoor
open Go.RowKit Go.Shelf

theorem prp_szs (s : Sr) (hs : s.size ≤ 7) : (∀ i, (nAt s.prp.1 i).path.size ≤ 1048576 ∧ (nAt s.prp.1 i).data.size ≤ 1048576) ∧ s.prp.1.length ≤ 2000 ∧ SzQ s.prp.2.1 := by
  have h1 := (tree_sz9 s hs).1
  have h2 := tree_le s hs
  have h3 : ∀ o ∈ (s.tree.2.req s.tree.1).1, SzO o := by
    unfold Sr.req
    exact Sr.rops_sz _ (sz9_T h1) _ _
  unfold Sr.prp
  generalize s.tree = t at *
  generalize t.2.req t.1 = q at *
  refine ⟨h1.at, h2, ?_⟩
  unfold prpD
  exact prpK_sz _ _ _ _ h3
theorem boxed_cell1 {W : World} {B : Nat} {t : TypeId} {x : Value} (h : Boxed W B t x) (j : Nat) : W.cell? ⟨B, j + 1, none⟩ = none := by simp [World.cell?, show W.heap[B]? = _ from h]
/-- What reads as nodes, or as operations, lies in no box of one cell. -/
theorem rdN_box {W : World} {B : Nat} {t : TypeId} {x v : Value} {ns : List Nd} (h : RdN W v ns) (hb : Boxed W B t x) (y : Value) : RdN (W.setCell ⟨B, 0, none⟩ y) v ns := by
  obtain ⟨ao, cap, rfl, h1, h2, h3⟩ := h
  refine ⟨ao, cap, rfl, h1, h2, ?_⟩
  rcases h3 with h3 | ⟨b, off, rfl, hlt, hc⟩
  · exact .inl h3
  · refine .inr ⟨b, off, rfl, by simpa using hlt, fun i hi => ?_⟩
    obtain ⟨c0, c1, c2, c3, c4, c5, c6⟩ := hc i hi
    have hne : b ≠ B := fun e => by
      subst e
      rw [boxed_cell1 hb] at c1
      cases c1
    have q : ∀ j, (W.setCell ⟨B, 0, none⟩ y).cell? ⟨b, j, none⟩ = W.cell? ⟨b, j, none⟩ := fun j => World.cell?_setCell_other _ _ _ _ (by intro e; injection e with e; exact hne (by first | exact e | exact e.symm))
    exact ⟨(q _).trans c0, (q _).trans c1, (q _).trans c2, (q _).trans c3, (q _).trans c4, (q _).trans c5, (q _).trans c6⟩
/-- What the law holds in its last drawing region. -/
structure LpS (AB GB TB PW : Nat) (va vg vt : Value) (L : Array Value) (W : World) : Prop where
  a : Boxed W AB 25 va
  g : Boxed W GB 25 vg
  t : Boxed W TB 25 vt
  p : St W PW L.toList
theorem LpS.later {AB GB TB PW : Nat} {va vg vt : Value} {L : Array Value} {W W' : World} (h : LpS AB GB TB PW va vg vt L W) (hb : Below W.heap.size W W') : LpS AB GB TB PW va vg vt L W' := ⟨boxed_below hb h.a, boxed_below hb h.g, boxed_below hb h.t, h.p.below hb⟩

set_option maxHeartbeats 8000000 in
set_option maxRecDepth 100000 in
theorem lawPA_walk (w : World) (v : Value) (cs : List Int) (h : Rd .u8 w v cs) (hby : Byt cs)
    (hg : w.cell? ⟨0, 0, none⟩ = some (.iface 171 (.agg #[.pointer (some ⟨7, 77, none⟩)]))) (h0 : 0 < w.heap.size) (htab : Lib.TabIs Tryz.prog w "internal/strconv.uint64pow10" .u64 Lib.pow10Tab) :
    Calls Tryz.prog 4 #[v] w fun e w' => e = .returned (.bool true) ∧ Below w.heap.size w w' := by
  obtain ⟨ca, cc, rfl, hl1, hl2⟩ := h.len
  unfold maxLen at hl2
  by_cases hbig : 1048576 < cs.length
  · have hbI : (1048576 : Int) < (cs.length : Int) := by omega
    go_enter Tryz.func4, Tryz.ntmps4
    go_wp2
    go_ret
    exact ⟨rfl, Below.refl _ _⟩
  have hbI : ¬ (1048576 : Int) < (cs.length : Int) := by omega
  obtain ⟨hsz, hnl, hsq⟩ := prp_szs (srcOf cs) (Nat.min_le_left _ _)
  have HD : Hid (∀ W, Below w.heap.size w W → Calls Tryz.prog 6 #[.slice ca cs.length cc] W fun e w' => ∃ v u, e = .returned (.tuple #[.agg #[v], .agg #[u], .int .i64 (srcOf cs).prp.2.2]) ∧ RdN w' v (srcOf cs).prp.1 ∧ RdO w' u (srcOf cs).prp.2.1 ∧ Below W.heap.size W w' ∧ NilOk v) :=
    fun W hW => drawPrep_x W _ cs (h.below hW) hby (by omega)
  generalize (srcOf cs).prp = Q at *
  obtain ⟨ns, os, z⟩ := Q
  replace hsz : ∀ i, (nAt ns i).path.size ≤ 1048576 ∧ (nAt ns i).data.size ≤ 1048576 := hsz
  replace hnl : ns.length ≤ 2000 := hnl
  replace hsq : ∀ i, (oAt os i).path.size ≤ 1048576 ∧ (oAt os i).data.size ≤ 1048576 := hsq
  have HS0 : ∀ W va vb, RdN W va ns → RdO W vb os → Calls Tryz.prog 9 #[.agg #[va], .agg #[vb], .int .i64 z] W fun e w' => PA W (prF ns os z) e w' := fun W va vb h1 h2 => specP_any W va vb ns os z h1 h2 (by omega) hsz hsq
  have HI0 : ∀ W va vb, Below w.heap.size w W → RdN W va ns → RdO W vb os → Calls Tryz.prog 8 #[.agg #[va], .agg #[vb], .int .i64 z] W fun e w' => PA W (prF ns os z) e w' :=
    fun W va vb hb h1 h2 => implP_any W va vb ns os z h1 h2 hsz hsq ((hb.cell (p := ⟨0, 0, none⟩) h0).trans hg) (Nat.lt_of_lt_of_le h0 hb.size) (tab_below htab hb)
  have hG0 : (prF ns os z).c = 0 → PrGood ns z (prF ns os z) (runO z os ns 0 []).2.2.1 := prF_good
  have hN0 : (prF ns os z).c ≠ 0 → (prF ns os z).L = [] ∧ (prF ns os z).es = [] ∧ (prF ns os z).z = 0 := prF_no
  have hL0 := prF_len ns os z
  generalize (runO z os ns 0 []).2.2.1 = B at *
  generalize prF ns os z = A at *
  obtain ⟨c, i, zz, L, es⟩ := A
  have HS : Hid (∀ W va vb, RdN W va ns → RdO W vb os → Calls Tryz.prog 9 #[.agg #[va], .agg #[vb], .int .i64 z] W fun e w' => ∃ vn ve, e = .returned (.agg #[.int .i64 c, .int .i64 i, vn, .int .i64 zz, ve]) ∧ OwnS w' W.heap.size vn L ∧ OwnE 59 w' W.heap.size ve es ∧ Below W.heap.size W w') := HS0
  have HI : Hid (∀ W va vb, Below w.heap.size w W → RdN W va ns → RdO W vb os → Calls Tryz.prog 8 #[.agg #[va], .agg #[vb], .int .i64 z] W fun e w' => ∃ vn ve, e = .returned (.agg #[.int .i64 c, .int .i64 i, vn, .int .i64 zz, ve]) ∧ OwnS w' W.heap.size vn L ∧ OwnE 59 w' W.heap.size ve es ∧ Below W.heap.size W w') := HI0
  have HG : Hid (c = 0 → PrGood ns z ⟨c, i, zz, L, es⟩ B) := hG0
  have HN : Hid (c ≠ 0 → L = [] ∧ es = [] ∧ zz = 0) := hN0
  have hLl : L.length ≤ 2000 := hL0.1
  have hel : es.length ≤ 2000 := hL0.2
  have HZ := hd9 hsz
  clear HS0 HI0 hG0 hN0 hL0 hsz hsq h hg htab h0
  go_enter Tryz.func4, Tryz.ntmps4
  go_wp2_with fail
  refine (HD.out w (Below.refl _ _)).mono ?_
  rintro e w1 ⟨v1, u1, rfl, r1, q1, b1, -⟩
  have hTB := b1.size
  obtain ⟨av, cv, hv, -⟩ := r1.len
  subst hv
  obtain ⟨au, cu, hu, -⟩ := q1.len
  subst hu
  have bA1 : Below w1.heap.size w1 (w1.alloc (.cells #[.slice av ns.length cv] 25)) := (Below.refl _ _).alloc (Nat.le_refl _) _
  have bA2 : Below (w1.alloc (.cells #[.slice av ns.length cv] 25)).heap.size (w1.alloc (.cells #[.slice av ns.length cv] 25)) ((w1.alloc (.cells #[.slice av ns.length cv] 25)).alloc (.cells #[.slice au os.length cu] 28)) := (Below.refl _ _).alloc (Nat.le_refl _) _
  have hs1 : (w1.alloc (.cells #[.slice av ns.length cv] 25)).heap.size = w1.heap.size + 1 := by simp
  have bA := bA1.trans (bA2.mono bA1.size)
  have X2 := hd9 (boxed_below bA2 (Boxed.new w1 25 (.slice av ns.length cv)))
  have Y2' := Boxed.new (w1.alloc (.cells #[.slice av ns.length cv] 25)) 28 (.slice au os.length cu)
  rw [hs1] at Y2'
  have Y2 := hd9 Y2'
  have B2 := hd9 (b1.trans (bA.mono b1.size))
  have RD2 := hd9 (r1.below bA)
  have RQ2 := hd9 (q1.below bA)
  clear bA1 bA2 hs1 bA Y2' b1 r1 q1
  go_wp2_with fail
  generalize (w1.alloc (.cells #[.slice av ns.length cv] 25)).alloc (.cells #[.slice au os.length cu] 28) = w2 at *
  generalize w1.heap.size = TB at *
  have hY2 := Y2.out.lt
  refine (HS.out w2 _ _ RD2.out RQ2.out).mono ?_
  rintro e w3 ⟨v3, u3, rfl, on, oe, b3⟩
  obtain ⟨an, kn, hv3⟩ : ∃ a k, v3 = .slice a L.length k := by
    rcases on.2 with ⟨rfl, h9⟩ | ⟨g9, cap9, cur9, rfl, -⟩
    · exact ⟨none, 0, by rw [h9]⟩
    · exact ⟨_, _, rfl⟩
  subst hv3
  obtain ⟨ae, ke, hu3⟩ := oe.slice
  subst hu3
  have bP : Below w3.heap.size w3 (w3.alloc (.cells #[.int .i64 c, .int .i64 i, .slice an L.length kn, .int .i64 zz, .slice ae es.length ke] 37)) := (Below.refl _ _).alloc (Nat.le_refl _) _
  have b3' := b3.trans (bP.mono b3.size)
  have X4 := hd9 (boxed_below b3' X2.out)
  have Y4 := hd9 (boxed_below b3' Y2.out)
  have B4 := hd9 (B2.out.trans (b3'.mono B2.out.size))
  have RD4 := hd9 (RD2.out.below b3')
  have RQ4 := hd9 (RQ2.out.below b3')
  have P4 := hd9 (St.new w3 #[.int .i64 c, .int .i64 i, .slice an L.length kn, .int .i64 zz, .slice ae es.length ke] 37)
  have WE4 := hd9 (oe.below bP)
  have c0 := (boxed_below b3 X2.out).cell
  have c1 := (boxed_below b3 Y2.out).cell
  have l0 := (boxed_below b3 X2.out).lt
  have l1 := (boxed_below b3 Y2.out).lt
  clear bP b3' b3 on oe X2 Y2 B2 RD2 RQ2 HS
  go_wp2_with fail
  clear c0 c1 l0
  generalize w3.alloc (.cells #[.int .i64 c, .int .i64 i, .slice an L.length kn, .int .i64 zz, .slice ae es.length ke] 37) = w4 at *
  generalize w3.heap.size = PW at *
  have hY4 := Y4.out.lt
  refine (HI.out w4 _ _ B4.out RD4.out RQ4.out).mono ?_
  rintro e w5 ⟨v5, u5, rfl, on, oe, b5⟩
  obtain ⟨gn, hn9, hv5⟩ : ∃ a k, v5 = .slice a L.length k := by
    rcases on.2 with ⟨rfl, h9⟩ | ⟨g9, cap9, cur9, rfl, -⟩
    · exact ⟨none, 0, by rw [h9]⟩
    · exact ⟨_, _, rfl⟩
  subst hv5
  obtain ⟨ge, he9, hu5⟩ := oe.slice
  subst hu5
  have bP : Below w5.heap.size w5 (w5.alloc (.cells #[.int .i64 c, .int .i64 i, .slice gn L.length hn9, .int .i64 zz, .slice ge es.length he9] 37)) := (Below.refl _ _).alloc (Nat.le_refl _) _
  have b5' := b5.trans (bP.mono b5.size)
  have X6 := hd9 (boxed_below b5' X4.out)
  have Y6 := hd9 (boxed_below b5' Y4.out)
  have B6 := hd9 (B4.out.trans (b5'.mono B4.out.size))
  have P6 := hd9 (P4.out.below b5')
  have WE6 := hd9 (WE4.out.below b5')
  have hPG := (P4.out.below b5).lt
  have G6 := hd9 (St.new w5 #[.int .i64 c, .int .i64 i, .slice gn L.length hn9, .int .i64 zz, .slice ge es.length he9] 37)
  have GE6 := hd9 (oe.below bP)
  clear bP b5' b5 on oe X4 Y4 B4 RD4 RQ4 P4 WE4 HI
  go_wp2_with fail
  generalize w5.alloc (.cells #[.int .i64 c, .int .i64 i, .slice gn L.length hn9, .int .i64 zz, .slice ge es.length he9] 37) = w6 at *
  generalize w5.heap.size = PG at *
  refine (HD.out w6 B6.out).mono ?_
  rintro e w7 ⟨v7, u7, rfl, r7, q7, b7, n7⟩
  obtain ⟨a7, k7, hv, -⟩ := r7.len
  subst hv
  obtain ⟨a8, k8, hu, -⟩ := q7.len
  subst hu
  have X7 := boxed_below b7 X6.out
  have Y7 := boxed_below b7 Y6.out
  have t0 := tch_set9 w7 TB 0 (.slice a7 ns.length k7)
  have t1 := tch_set9 (w7.setCell ⟨TB, 0, none⟩ (.slice a7 ns.length k7)) (TB + 1) 0 (.slice a8 os.length k8)
  have Y7' : Boxed (w7.setCell ⟨TB, 0, none⟩ (.slice a7 ns.length k7)) (TB + 1) 28 (.slice au os.length cu) := (Below.heap_setCell _ _ _ _ (by show TB + 1 ≠ TB; omega)).trans Y7
  have RD8 := hd9 (rdN_box (rdN_box r7 X7 (.slice a7 ns.length k7)) Y7' (.slice a8 os.length k8))
  have X8 : Hid (Boxed ((w7.setCell ⟨TB, 0, none⟩ (.slice a7 ns.length k7)).setCell ⟨TB + 1, 0, none⟩ (.slice a8 os.length k8)) TB 25 (.slice a7 ns.length k7)) := (Below.heap_setCell _ _ _ _ (by show TB ≠ TB + 1; omega)).trans (X7.set _)
  have B8 : Hid (Below w.heap.size w ((w7.setCell ⟨TB, 0, none⟩ (.slice a7 ns.length k7)).setCell ⟨TB + 1, 0, none⟩ (.slice a8 os.length k8))) := ((B6.out.trans (b7.mono B6.out.size)).setCell (by show _ ≤ TB; omega) _).setCell (by show _ ≤ TB + 1; omega) _
  have P8 := hd9 (((P6.out.below b7).tch t0 (by omega)).tch t1 (by omega))
  have G8 := hd9 (((G6.out.below b7).tch t0 (by omega)).tch t1 (by omega))
  have WE8 : Hid (OwnE 59 ((w7.setCell ⟨TB, 0, none⟩ (.slice a7 ns.length k7)).setCell ⟨TB + 1, 0, none⟩ (.slice a8 os.length k8)) w2.heap.size (.slice ae es.length ke) es) := row_tch (row_tch (WE6.out.below b7) t0 (fun e => by have := (World.ownsRow.lt WE6.out _ e).1; omega)) t1 (fun e => by have := (World.ownsRow.lt WE6.out _ e).1; omega)
  have GE8 : Hid (OwnE 59 ((w7.setCell ⟨TB, 0, none⟩ (.slice a7 ns.length k7)).setCell ⟨TB + 1, 0, none⟩ (.slice a8 os.length k8)) w4.heap.size (.slice ge es.length he9) es) := row_tch (row_tch (GE6.out.below b7) t0 (fun e => by have := (World.ownsRow.lt GE6.out _ e).1; omega)) t1 (fun e => by have := (World.ownsRow.lt GE6.out _ e).1; omega)
  have NK := hd9 n7
  have y0 := X7.cell
  have y1 := X7.frozen
  have y2 := Y7.cell
  have y3 := Y7.frozen
  clear r7 q7 n7 X7 Y7 Y7' t0 t1 b7 X6 Y6 B6 P6 WE6 G6 GE6
  go_upto_region 7 with fail
  clear y0 y1 y2 y3
  generalize (w7.setCell ⟨TB, 0, none⟩ (.slice a7 ns.length k7)).setCell ⟨TB + 1, 0, none⟩ (.slice a8 os.length k8) = w8 at *
  have hcc : (c != c) = false := by simp
  have hii : (i != i) = false := by simp
  have p0 := P8.out.cl 0 _ rfl
  have p1 := P8.out.cl 1 _ rfl
  have g0 := G8.out.cl 0 _ rfl
  have g1 := G8.out.cl 1 _ rfl
  by_cases hc : c = 0
  · subst hc
    have GG := HG.out rfl
    obtain rfl : zz = z := GG.zz
    have HEZ := hd9 (okTxn_szs GG.ok)
    have HBZ := hd9 (snd_szs GG.b)
    have hBl := GG.b.2.2
    have g3 := G8.out.cl 3 _ rfl
    have g4 := G8.out.cl 4 _ rfl
    have x0 := X8.out.cell
    go_wp2_with fail
    clear x0 g3 g4 p0 p1 g0 g1
    refine (implApply_any w8 _ ns zz _ es RD8.out NK.out GE8.out.rd HZ.out HEZ.out).mono ?_
    rintro e w9 ⟨v9, rfl, o9, b9⟩
    rw [show resA ns zz es = B from GG.one] at o9
    obtain ⟨a9, k9, hv9⟩ := OwnN.slice9 o9
    subst hv9
    have bP : Below w9.heap.size w9 (w9.alloc (.cells #[.slice a9 B.length k9] 25)) := (Below.refl _ _).alloc (Nat.le_refl _) _
    have b9' := b9.trans (bP.mono b9.size)
    have A10 := hd9 (Boxed.new w9 25 (.slice a9 B.length k9))
    have O10 := hd9 (o9.below bP)
    have X10 := hd9 (boxed_below b9' X8.out)
    have RD10 := hd9 (RD8.out.below b9')
    have B10 := hd9 (B8.out.trans (b9'.mono B8.out.size))
    have P10 := hd9 (P8.out.below b9')
    have G10 := hd9 (G8.out.below b9')
    have WE10 := hd9 (WE8.out.below b9')
    have GE10 := hd9 (GE8.out.below b9')
    have g3 := (G8.out.below b9).cl 3 _ rfl
    have g4 := (G8.out.below b9).cl 4 _ rfl
    have gl := (G8.out.below b9).lt
    clear bP b9 b9' o9 X8 RD8 B8 P8 G8 WE8 GE8
    go_wp2_with fail
    clear g3 g4 gl
    generalize w9.alloc (.cells #[.slice a9 B.length k9] 25) = w10 at *
    generalize w9.heap.size = AB at *
    refine (implApply_any w10 _ B zz _ es O10.out.rd (OwnN.nilOk O10.out) GE10.out.rd HBZ.out HEZ.out).mono ?_
    rintro e w11 ⟨v11, rfl, o11, b11⟩
    rw [show resA B zz es = B from GG.two] at o11
    obtain ⟨a11, k11, hv11⟩ := OwnN.slice9 o11
    subst hv11
    have bP : Below w11.heap.size w11 (w11.alloc (.cells #[.slice a11 B.length k11] 25)) := (Below.refl _ _).alloc (Nat.le_refl _) _
    have b11' := b11.trans (bP.mono b11.size)
    have C12 := hd9 (Boxed.new w11 25 (.slice a11 B.length k11))
    have Q12 := hd9 (o11.below bP)
    have A12 := hd9 (boxed_below b11' A10.out)
    have O12 := hd9 (O10.out.below b11')
    have X12 := hd9 (boxed_below b11' X10.out)
    have RD12 := hd9 (RD10.out.below b11')
    have B12 := hd9 (B10.out.trans (b11'.mono B10.out.size))
    have P12 := hd9 (P10.out.below b11')
    have G12 := hd9 (G10.out.below b11')
    have WE12 := hd9 (WE10.out.below b11')
    have GE12 := hd9 (GE10.out.below b11')
    clear bP b11 b11' o11 A10 O10 X10 RD10 B10 P10 G10 WE10 GE10
    go_wp2_with fail
    generalize w11.alloc (.cells #[.slice a11 B.length k11] 25) = w12 at *
    generalize w11.heap.size = GB at *
    have bD : Below w12.heap.size w12 w12.drew := below_drewN' w12 1
    have L12 : Hid (LpS AB GB TB PW (.slice a9 B.length k9) (.slice a11 B.length k11) (.slice a7 ns.length k7) #[.int .i64 0, .int .i64 i, .slice an L.length kn, .int .i64 zz, .slice ae es.length ke] w12) := ⟨A12.out, C12.out, X12.out, P12.out⟩
    refine wp_region_held_drew (S := fun W => LpS AB GB TB PW (.slice a9 B.length k9) (.slice a11 B.length k11) (.slice a7 ns.length k7) #[.int .i64 0, .int .i64 i, .slice an L.length kn, .int .i64 zz, .slice ae es.length ke] W) (by kernel_rfl) (L12.out.later bD) (fun hHeld => ?_)
    have Q13 := hd9 (Q12.out.below bD)
    have O13 := hd9 (O12.out.below bD)
    have RD13 := hd9 (RD12.out.below bD)
    have B13 := hd9 (B12.out.trans (bD.mono B12.out.size))
    have P13 := hd9 (P12.out.below bD)
    have G13 := hd9 (G12.out.below bD)
    have WE13 := hd9 (WE12.out.below bD)
    have GE13 := hd9 (GE12.out.below bD)
    clear L12 A12 C12 X12 Q12 O12 RD12 B12 P12 G12 WE12 GE12 bD
    generalize w12.drew = w13 at *
    refine wpAnyH_take (i := 0) (oi := { dst := some 67, op := _, type := _, pos := _, after := _, guard := _ }) (v := (.agg #[.slice a9 B.length k9])) rfl (by kernel_rfl) (by kernel_rfl) (by kernel_rfl) (fun _ _ _ h => h) (Or.inl ⟨by rfl, fun w9 hS9 => by (have h9 := hS9.a.cell; clear hS9; go_simp; try with_reducible rfl)⟩) (by assumption) ?_
    try simp only [Act.put, List.setIfInBounds_toArray, List.set_cons_zero, List.set_cons_succ]
    refine wpAnyH_take (i := 1) (oi := { dst := some 68, op := _, type := _, pos := _, after := _, guard := _ }) (v := (.agg #[.slice a7 ns.length k7])) rfl (by kernel_rfl) (by kernel_rfl) (by kernel_rfl) (fun _ _ _ h => h) (Or.inl ⟨by rfl, fun w9 hS9 => by (have h9 := hS9.t.cell; clear hS9; go_simp; try with_reducible rfl)⟩) (by assumption) ?_
    try simp only [Act.put, List.setIfInBounds_toArray, List.set_cons_zero, List.set_cons_succ]
    refine wpAnyH_take (i := 2) (oi := { dst := some 69, op := _, type := _, pos := _, after := _, guard := _ }) (v := (.pointer (some ⟨PW, 3, none⟩))) rfl (by kernel_rfl) (by kernel_rfl) (by kernel_rfl) (fun _ _ _ h => h) (Or.inl ⟨by rfl, fun w9 hS9 => by (clear hS9; go_simp; try with_reducible rfl)⟩) (by assumption) ?_
    try simp only [Act.put, List.setIfInBounds_toArray, List.set_cons_zero, List.set_cons_succ]
    refine wpAnyH_take (i := 3) (oi := { dst := some 70, op := _, type := _, pos := _, after := _, guard := _ }) (v := (.agg #[.int .i64 zz, .slice ae es.length ke])) rfl (by kernel_rfl) (by kernel_rfl) (by kernel_rfl) (fun _ _ _ h => h) (Or.inl ⟨by rfl, fun w9 hS9 => by (have h9 := hS9.p.cl 3 _ rfl; have h8 := hS9.p.cl 4 _ rfl; clear hS9; go_simp; try with_reducible rfl)⟩) (by assumption) ?_
    try simp only [Act.put, List.setIfInBounds_toArray, List.set_cons_zero, List.set_cons_succ]
    refine wpAnyH_ready (rs := [4]) (by kernel_rfl) (by simp) ?_
    refine AllReadyH.cons (o := { dst := some 71, op := _, type := _, pos := _, after := _, guard := _ }) rfl (fun K hK => ?_) AllReadyH.nil
    go_simp
    refine (specApply_any w13 _ ns zz _ es RD13.out WE13.out.rd (by omega) HZ.out HEZ.out).mono ?_
    rintro e w14 ⟨v14, rfl, o14, b14⟩
    rw [show resA ns zz es = B from GG.one] at o14
    obtain ⟨a14, k14, hv14⟩ := OwnN.slice9 o14
    subst hv14
    have SP14 := hd9 o14
    clear o14
    have hH2 := hHeld.later b14
    have Q14 := hd9 (Q13.out.below b14)
    have O14 := hd9 (O13.out.below b14)
    have RD14 := hd9 (RD13.out.below b14)
    have P14 := hd9 (P13.out.below b14)
    have G14 := hd9 (G13.out.below b14)
    have WE14 := hd9 (WE13.out.below b14)
    have GE14 := hd9 (GE13.out.below b14)
    have B14 := hd9 (B13.out.trans (b14.mono B13.out.size))
    clear Q13 O13 RD13 P13 G13 WE13 GE13 B13
    refine hK.out _ _ hH2 (fun hx9 => ?_)
    clear hK K hHeld hx9
    have hHeld := hH2
    clear hH2
    try simp only [Act.put, List.setIfInBounds_toArray, List.set_cons_zero, List.set_cons_succ]
    refine wpAnyH_ready (rs := [5]) (by kernel_rfl) (by simp) ?_
    refine AllReadyH.cons (o := { dst := some 72, op := _, type := _, pos := _, after := _, guard := _ }) rfl (fun K hK => ?_) AllReadyH.nil
    go_simp
    refine (sameTree_yes w14 _ _ B O14.out.rd SP14.out.rd (by omega)).mono ?_
    rintro e w15 ⟨rfl, b15⟩
    have hH2 := hHeld.later b15
    have Q15 := hd9 (Q14.out.below b15)
    have O15 := hd9 (O14.out.below b15)
    have RD15 := hd9 (RD14.out.below b15)
    have P15 := hd9 (P14.out.below b15)
    have G15 := hd9 (G14.out.below b15)
    have WE15 := hd9 (WE14.out.below b15)
    have GE15 := hd9 (GE14.out.below b15)
    have B15 := hd9 (B14.out.trans (b15.mono B14.out.size))
    clear Q14 O14 RD14 P14 G14 WE14 GE14 B14
    refine hK.out _ _ hH2 (fun hx9 => ?_)
    clear hK K hHeld hx9
    have hHeld := hH2
    clear hH2
    try simp only [Act.put, List.setIfInBounds_toArray, List.set_cons_zero, List.set_cons_succ]
    refine wpAnyH_take (i := 6) (oi := { dst := some 73, op := _, type := _, pos := _, after := _, guard := _ }) (v := (.bool false)) rfl (by kernel_rfl) (by kernel_rfl) (by kernel_rfl) (fun _ _ _ h => h) (Or.inl ⟨by rfl, fun w9 hS9 => by (clear hS9; go_simp; try with_reducible rfl)⟩) (by assumption) ?_
    try simp only [Act.put, List.setIfInBounds_toArray, List.set_cons_zero, List.set_cons_succ]
    refine wpAnyH_take (i := 7) (oi := { dst := some 74, op := _, type := _, pos := _, after := _, guard := _ }) (v := (.bool false)) rfl (by kernel_rfl) (by kernel_rfl) (by kernel_rfl) (fun _ _ _ h => h) (Or.inl ⟨by rfl, fun w9 hS9 => by (clear hS9; go_simp; try with_reducible rfl)⟩) (by assumption) ?_
    try simp only [Act.put, List.setIfInBounds_toArray, List.set_cons_zero, List.set_cons_succ]
    refine wpAnyH_take (i := 8) (oi := { dst := some 75, op := _, type := _, pos := _, after := _, guard := _ }) (v := (.agg #[.slice a11 B.length k11])) rfl (by kernel_rfl) (by kernel_rfl) (by kernel_rfl) (fun _ _ _ h => h) (Or.inl ⟨by rfl, fun w9 hS9 => by (have h9 := hS9.g.cell; clear hS9; go_simp; try with_reducible rfl)⟩) (by assumption) ?_
    try simp only [Act.put, List.setIfInBounds_toArray, List.set_cons_zero, List.set_cons_succ]
    refine wpAnyH_take (i := 9) (oi := { dst := some 76, op := _, type := _, pos := _, after := _, guard := _ }) (v := (.agg #[.slice a9 B.length k9])) rfl (by kernel_rfl) (by kernel_rfl) (by kernel_rfl) (fun _ _ _ h => h) (Or.inl ⟨by rfl, fun w9 hS9 => by (have h9 := hS9.a.cell; clear hS9; go_simp; try with_reducible rfl)⟩) (by assumption) ?_
    try simp only [Act.put, List.setIfInBounds_toArray, List.set_cons_zero, List.set_cons_succ]
    refine wpAnyH_ready (rs := [10]) (by kernel_rfl) (by simp) ?_
    refine AllReadyH.cons (o := { dst := some 77, op := _, type := _, pos := _, after := _, guard := _ }) rfl (fun K hK => ?_) AllReadyH.nil
    go_simp
    refine (sameTree_yes w15 _ _ B Q15.out.rd O15.out.rd (by omega)).mono ?_
    rintro e w16 ⟨rfl, b16⟩
    have hH2 := hHeld.later b16
    have Q16 := hd9 (Q15.out.below b16)
    have O16 := hd9 (O15.out.below b16)
    have RD16 := hd9 (RD15.out.below b16)
    have P16 := hd9 (P15.out.below b16)
    have G16 := hd9 (G15.out.below b16)
    have WE16 := hd9 (WE15.out.below b16)
    have GE16 := hd9 (GE15.out.below b16)
    have B16 := hd9 (B15.out.trans (b16.mono B15.out.size))
    clear Q15 O15 RD15 P15 G15 WE15 GE15 B15
    refine hK.out _ _ hH2 (fun hx9 => ?_)
    clear hK K hHeld hx9
    have hHeld := hH2
    clear hH2
    try simp only [Act.put, List.setIfInBounds_toArray, List.set_cons_zero, List.set_cons_succ]
    refine wpAnyH_take (i := 11) (oi := { dst := some 78, op := _, type := _, pos := _, after := _, guard := _ }) (v := (.bool false)) rfl (by kernel_rfl) (by kernel_rfl) (by kernel_rfl) (fun _ _ _ h => h) (Or.inl ⟨by rfl, fun w9 hS9 => by (clear hS9; go_simp; try with_reducible rfl)⟩) (by assumption) ?_
    try simp only [Act.put, List.setIfInBounds_toArray, List.set_cons_zero, List.set_cons_succ]
    refine wpAnyH_take (i := 12) (oi := { dst := some 79, op := _, type := _, pos := _, after := _, guard := _ }) (v := (.bool false)) rfl (by kernel_rfl) (by kernel_rfl) (by kernel_rfl) (fun _ _ _ h => h) (Or.inl ⟨by rfl, fun w9 hS9 => by (clear hS9; go_simp; try with_reducible rfl)⟩) (by assumption) ?_
    try simp only [Act.put, List.setIfInBounds_toArray, List.set_cons_zero, List.set_cons_succ]
    refine wpAnyH_done (by kernel_rfl) ?_ _
    clear hHeld SP14
    have g3 := G16.out.cl 3 _ rfl
    have g4 := G16.out.cl 4 _ rfl
    go_wp2_with fail
    clear g3 g4
    refine (encTxn_any w16 zz _ es GE16.out.rd HEZ.out).mono ?_
    rintro e w17 ⟨v17, rfl, o17, b17⟩
    have HDX := hd9 (decX_txn GG.ok)
    go_wp2_with fail
    refine (implDecX_any w17 _ _ o17.rd (txnB_byt _ _) (Nat.le_trans (txnB_len _ _) (by omega))).mono ?_
    rintro e w18 ⟨b18, hp⟩
    rcases hp with ⟨hp, -⟩ | ⟨z', es', v', hp, rfl, o18⟩
    · rw [HDX.out] at hp
      cases hp
    rw [HDX.out] at hp
    injection hp with hp
    injection hp with hp1 hp2
    subst hp1 hp2
    obtain ⟨a18, k18, hv18⟩ := o18.slice
    subst hv18
    have bX := b17.trans (b18.mono b17.size)
    have bP : Below w18.heap.size w18 (w18.alloc (.cells #[.bool true, .int .i64 zz, .slice a18 es.length k18] 49)) := (Below.refl _ _).alloc (Nat.le_refl _) _
    have bY := bX.trans (bP.mono bX.size)
    have WE := hd9 (WE16.out.below bY).rd
    have DE := hd9 (o18.below bP).rd
    have BE := hd9 (B16.out.trans (bY.mono B16.out.size))
    have p3 := (P16.out.below bX).cl 3 _ rfl
    have p4 := (P16.out.below bX).cl 4 _ rfl
    have pl := (P16.out.below bX).lt
    clear bP bX bY b17 b18 o17 o18 WE16 B16 P16 G16 GE16 Q16 O16 RD16
    go_wp2_with fail
    clear p3 p4 pl
    generalize w18.alloc (.cells #[.bool true, .int .i64 zz, .slice a18 es.length k18] 49) = w19 at *
    refine (sameTxn_yes w19 zz _ _ es DE.out WE.out (by omega)).mono ?_
    rintro e w20 ⟨rfl, b20⟩
    have BF := hd9 (BE.out.trans (b20.mono BE.out.size))
    clear b20
    go_wp2
    go_ret
    exact ⟨rfl, BF.out⟩
  · obtain ⟨rfl, rfl, rfl⟩ := HN.out hc
    have g2 := G8.out.cl 2 _ rfl
    have g3 := G8.out.cl 3 _ rfl
    go_wp2
    go_ret
    exact ⟨rfl, B8.out⟩

end Go.Proofs.YtdiingonnddkcaaGreatDoor


