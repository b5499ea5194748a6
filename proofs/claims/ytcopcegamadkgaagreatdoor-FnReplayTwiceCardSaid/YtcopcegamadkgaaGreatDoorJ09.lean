import Derived.Test.YtcopcegamadkgaaGreatDoorJ08
import Derived.Test.YtcopcegamadkgaaGreatDoorJ05
import Derived.Test.YtcopcegamadkgaaGreatDoorJ06
import Derived.Test.YtcopcegamadkgaaGreatDoorJ03
import Derived.Test.YtcopcegamadkgaaGreatDoorJ01
set_option maxRecDepth 100000
set_option maxHeartbeats 16000000
namespace Go.Proofs.YtcopcegamadkgaaGreatDoor
open Go.RowKit
def zeroX : Value := .agg #[.bool false, .int .i64 0, .slice none 0 0]
def DxPost (w : World) (ys : List Int) (e : Ending) (w' : World) : Prop :=
 Below w.heap.size w w' ∧ ((decX ys = none ∧ e = .returned zeroX) ∨ ∃ z es v, decX ys = some (z, es) ∧ e = .returned (.agg #[.bool true, .int .i64 z, v]) ∧ OwnE 139 w' w.heap.size v es)
def Zx (W : World) (k : Nat) : Prop := k < W.heap.size ∧ W.cell? ⟨k, 0, none⟩ = some (.bool false) ∧ W.cell? ⟨k, 1, none⟩ = some (.int .i64 0) ∧ W.cell? ⟨k, 2, none⟩ = some (.slice none 0 0) ∧ ∀ j, W.frozen? ⟨k, j, none⟩ = false
theorem Zx.turn {W W' : World} {k : Nat} {row : Option Nat} (h : Zx W k) (hg : W.grownBy W' row) (hne : some k ≠ row) : Zx W' k := by
 have hb := hg.block k h.1 hne
 exact ⟨Nat.lt_of_lt_of_le h.1 hg.size, (World.cell?_of_block (a := ⟨k, 0, none⟩) hb).trans h.2.1, (World.cell?_of_block (a := ⟨k, 1, none⟩) hb).trans h.2.2.1, (World.cell?_of_block (a := ⟨k, 2, none⟩) hb).trans h.2.2.2.1, fun j => (World.frozen?_of_block (a := ⟨k, j, none⟩) hb).trans (h.2.2.2.2 j)⟩
theorem Zx.set {W : World} {k B : Nat} (h : Zx W k) (hne : k ≠ B) (i : Nat) (u : Value) : Zx (W.setCell ⟨B, i, none⟩ u) k :=
 ⟨by simpa using h.1, (World.cell?_setCell_other _ _ _ _ (by intro e; injection e with e; omega)).trans h.2.1, (World.cell?_setCell_other _ _ _ _ (by intro e; injection e with e; omega)).trans h.2.2.1, (World.cell?_setCell_other _ _ _ _ (by intro e; injection e with e; omega)).trans h.2.2.2.1, fun j => by rw [World.frozen?_setCell]; exact h.2.2.2.2 j⟩
def B2 (W : World) (k : Nat) (z : Int) (v : Value) : Prop := k < W.heap.size ∧ W.cell? ⟨k, 0, none⟩ = some (.int .i64 z) ∧ W.cell? ⟨k, 1, none⟩ = some v ∧ ∀ j, W.frozen? ⟨k, j, none⟩ = false
theorem B2.turn {W W' : World} {k : Nat} {z : Int} {v : Value} {row : Option Nat} (h : B2 W k z v) (hg : W.grownBy W' row) (hne : some k ≠ row) : B2 W' k z v := by
 have hb := hg.block k h.1 hne
 exact ⟨Nat.lt_of_lt_of_le h.1 hg.size, (World.cell?_of_block (a := ⟨k, 0, none⟩) hb).trans h.2.1, (World.cell?_of_block (a := ⟨k, 1, none⟩) hb).trans h.2.2.1, fun j => (World.frozen?_of_block (a := ⟨k, j, none⟩) hb).trans (h.2.2.2 j)⟩
theorem OwnE.turn {W W' : World} {lo : Nat} {v : Value} {ns : List Ef} {k : Nat} (h : OwnE 139 W lo v ns) (hg : W.grownBy W' (some k)) (hk : k < lo) : OwnE 139 W' lo v ns := by
 refine World.ownsRow.kept h hg ?_
 cases e : v.ownBlock with
 | none => exact .inl rfl
 | some g =>
  refine .inr fun e2 => ?_
  have := (World.ownsRow.lt h g e).1
  simp only [Option.some.injEq] at e2
  omega
theorem erow_one (ns : List Ef) (n : Ef) : erow (ns ++ [n]) = erow ns ++ efL n := by rw [erow_append]; simp [erow]
theorem efL_cells (w : World) (n : Ef) (t : TypeId) : ∀ j u, (efL n)[j]? = some u → (w.alloc (.cells #[.bool n.del, .string n.nd.path, .string n.nd.data, .int .i64 n.nd.ver, .int .i64 n.nd.cver, .int .i64 n.nd.cz, .int .i64 n.nd.mz, .int .i64 n.nd.pz] t)).cell? ((⟨w.heap.size, 0, none⟩ : Addr).add j) = some u := by
 intro j u hj
 rw [Addr.add_lit, Nat.zero_add, cell_of (heap_alloc_new w _) j, ← hj]
 simp [efL]
theorem efL_one (n : Ef) : ∀ u ∈ efL n, u.oneCell' = true := by
 intro u hu
 simp only [efL, List.mem_cons, List.mem_nil_iff, or_false] at hu
 rcases hu with rfl | rfl | rfl | rfl | rfl | rfl | rfl | rfl <;> rfl
def TX (w : World) (ys : List Int) (TB : Nat) (W : World) (v : Value) (es fs : List Ef) (r : List Int) (c : Nat) : Prop :=
 ParE (cntX ys) (ys.drop 6) fs r c ∧ Byt r ∧ SzE fs ∧ RS w W (w.heap.size + 1) r ∧ Zx W w.heap.size ∧ B2 W TB (zX ys) v ∧ OwnE 139 W (TB + 1) v es
theorem TX.later {w W W' : World} {ys : List Int} {TB : Nat} {v : Value} {es fs : List Ef} {r : List Int} {c : Nat} (h : TX w ys TB W v es fs r c) (hb : Below W.heap.size W W') : TX w ys TB W' v es fs r c := by
 obtain ⟨t1, t2, t3, t4, t5, t6, t7⟩ := h
 exact ⟨t1, t2, t3, t4.new hb, t5.turn (grown_of hb none) (by simp), t6.turn (grown_of hb none) (by simp), t7.below hb⟩
theorem TX.below {w W : World} {ys : List Int} {TB : Nat} {v : Value} {es fs : List Ef} {r : List Int} {c : Nat} (h : TX w ys TB W v es fs r c) : Below w.heap.size w W := h.2.2.2.1.2.2.2.1
theorem TX.read {w W W1 : World} {ys : List Int} {TB : Nat} {v : Value} {es : List Ef} {r r' : List Int} {c : Nat} {n : Ef} (hT : w.heap.size + 2 ≤ TB) (h : TX w ys TB W v es es r (c + 1)) (hg : W.grownBy W1 (some (w.heap.size + 1))) (hp : rdE r = some (n, r')) (hr : RS w W1 (w.heap.size + 1) r') : TX w ys TB W1 v es (es ++ [n]) r' c := by
 obtain ⟨t1, t2, t3, t4, t5, t6, t7⟩ := h
 have hb := rdE_byt hp t2
 exact ⟨t1.step t2 hp, hb.1, t3.snoc hb.2.2.1 hb.2.2.2, hr, t5.turn hg (by simp), t6.turn hg (by simp; omega), t7.turn hg (by omega)⟩
theorem TX.push {w W W3 : World} {ys : List Int} {TB : Nat} {v v3 : Value} {es : List Ef} {r : List Int} {c : Nat} {n : Ef} (hT : w.heap.size + 2 ≤ TB) (h : TX w ys TB W v es (es ++ [n]) r c) (hg : W.grownBy W3 v.ownBlock) (ho : W3.ownsRow (TB + 1) 139 8 v3 (es.length + 1) (erow es ++ efL n)) :
    TX w ys TB (W3.setCell ⟨TB, 1, none⟩ v3) v3 (es ++ [n]) (es ++ [n]) r c := by
 obtain ⟨t1, t2, t3, t4, t5, t6, t7⟩ := h
 have hne : ∀ k, k < TB + 1 → some k ≠ v.ownBlock := fun k hk e => by have := (World.ownsRow.lt t7 k e.symm).1; omega
 have hlo : ∀ g, v.ownBlock = some g → w.heap.size ≤ g := fun g e => by have := (World.ownsRow.lt t7 g e).1; omega
 have b6 := t6.turn hg (hne _ (by omega))
 refine ⟨t1, t2, t3, (t4.turn hg (hne _ (by omega)) hlo).setOther (by omega) (by omega) _ _, (t5.turn hg (hne _ (by omega))).set (by omega) _ _, ⟨by simpa using b6.1, (World.cell?_setCell_other _ _ _ _ (by intro e; injection e with _ e; omega)).trans b6.2.1, World.cell?_setCell_same _ _ _ b6.2.2.1, fun j => by rw [World.frozen?_setCell]; exact b6.2.2.2 j⟩, ?_⟩
 have : OwnE 139 W3 (TB + 1) v3 (es ++ [n]) := by unfold OwnE; rw [erow_one, List.length_append]; exact ho
 exact OwnE.setBelow this (by show TB < TB + 1; omega) _
theorem decX_short {ys : List Int} (h : ys.length < 6) : decX ys = none := by unfold decX; rw [if_pos h]
theorem decX_bad {ys : List Int} (h : pEs (cntX ys) (ys.drop 6) = none) : decX ys = none := by unfold decX; split; rfl; rw [h]
theorem implDecX_any (w : World) (v : Value) (ys : List Int) (h : Rd .u8 w v ys) (hby : Byt ys) (hl : ys.length ≤ 1048576) :
    Calls Tryz.prog 37 #[v] w fun e w' => DxPost w ys e w' := by
 obtain ⟨i0, hi, hz0, hz1, hz2⟩ := info_parts Tryz.infoE
 obtain ⟨ao, cap, rfl, -, -⟩ := h.len
 have HBY : Hid (Byt ys) := hby
 have R0 : Hid (RS w ((w.alloc (.cells #[.bool false, .int .i64 0, .slice none 0 0] 80)).alloc (.cells #[.slice ao ys.length cap] 152)) (w.heap.size + 1) ys) := ⟨by omega, by simp, (by go_simp), ((Below.refl _ _).alloc (Nat.le_refl _) _).alloc (by simp) _, _, (by go_simp), h⟩
 have Z0 : Hid (Zx ((w.alloc (.cells #[.bool false, .int .i64 0, .slice none 0 0] 80)).alloc (.cells #[.slice ao ys.length cap] 152)) w.heap.size) := ⟨by simp; omega, (by go_simp), (by go_simp), (by go_simp), fun j => (by go_simp)⟩
 have s0 : ((w.alloc (.cells #[.bool false, .int .i64 0, .slice none 0 0] 80)).alloc (.cells #[.slice ao ys.length cap] 152)).heap.size = w.heap.size + 2 := by simp
 clear h hby
 have HBAD : Hid (decX ys = none → ∀ W W', Zx W w.heap.size → Below w.heap.size w W → Below W.heap.size W W' → W'.cell? ⟨w.heap.size, 0, none⟩ = some (.bool false) ∧ W'.cell? ⟨w.heap.size, 1, none⟩ = some (.int .i64 0) ∧ W'.cell? ⟨w.heap.size, 2, none⟩ = some (.slice none 0 0) ∧ DxPost w ys (.returned (.agg #[.bool false, .int .i64 0, .slice none 0 0])) W') := by
  intro hd W W' hz hB hb
  have z := hz.turn (grown_of hb none) (by simp)
  exact ⟨z.2.1, z.2.2.1, z.2.2.2.1, hB.trans (hb.mono hB.size), .inl ⟨hd, rfl⟩⟩
 have hm := hmf
 go_enter_defers Tryz.func37, Tryz.ntmps37
 go_wp2_with fail
 generalize ((w.alloc (.cells #[.bool false, .int .i64 0, .slice none 0 0] 80)).alloc (.cells #[.slice ao ys.length cap] 152)) = W0 at *
 by_cases hl4 : 4 ≤ ys.length
 rotate_left
 · refine (number_none w _ (w.heap.size + 1) 4 ys R0.out (by omega)).mono ?_
   rintro e W ⟨rfl, rfl⟩
   refine leaves_cons (f := 91) (args := #[]) (by simp) (by simp [go_sem]) ?_
   refine (catchX_bad [] _).mono ?_
   rintro e u' w2 ⟨rfl, rfl, b2⟩
   obtain ⟨z0, z1, z2, hF⟩ := HBAD.out (decX_short (by omega)) _ _ Z0.out R0.out.2.2.2.1 b2
   simp [Leaves, settle, results, Tryz.results37, go_sem, z0, z1, z2]
   exact hF
 refine (number_any w _ (w.heap.size + 1) 4 ys R0.out (by omega) (by omega) (by omega) HBY.out).mono ?_
 rintro e W ⟨rfl, r1, v1, q1, rfl⟩
 rw [wrap4 HBY.out]
 have g1 : W0.grownBy ((W0.setCell ⟨w.heap.size + 1, 0, none⟩ v1).drewN q1) (some (w.heap.size + 1)) := (grownBy_set _ _ _ _ _ (World.grownBy.refl _ _)).trans (grown_of (below_drewN' _ q1) _)
 have Z1 : Hid (Zx ((W0.setCell ⟨w.heap.size + 1, 0, none⟩ v1).drewN q1) w.heap.size) := Z0.out.turn g1 (by simp)
 have R1 : Hid (RS w ((W0.setCell ⟨w.heap.size + 1, 0, none⟩ v1).drewN q1) (w.heap.size + 1) (ys.drop 4)) := r1
 have s1 : w.heap.size + 2 ≤ ((W0.setCell ⟨w.heap.size + 1, 0, none⟩ v1).drewN q1).heap.size := by have := g1.size; omega
 clear r1 g1 R0 Z0 s0
 generalize (W0.setCell ⟨w.heap.size + 1, 0, none⟩ v1).drewN q1 = V0 at *
 have HZX : Hid (((numB (ys.take 4) : Nat) : Int) = (zX ys : Int)) := rfl
 rw [HZX.out]
 have R2 : Hid (RS w (V0.alloc (.cells #[.int .i64 (zX ys : Int), .slice none 0 0] 78)) (w.heap.size + 1) (ys.drop 4)) := R1.out.new ((Below.refl _ _).alloc (Nat.le_refl _) _)
 have Z2 : Hid (Zx (V0.alloc (.cells #[.int .i64 (zX ys : Int), .slice none 0 0] 78)) w.heap.size) := Z1.out.turn (grown_alloc _ _ none) (by simp)
 have X2 : Hid (B2 (V0.alloc (.cells #[.int .i64 (zX ys : Int), .slice none 0 0] 78)) V0.heap.size (zX ys) (.slice none 0 0)) := ⟨by simp, (by go_simp), (by go_simp), fun j => (by go_simp)⟩
 go_wp2_with fail
 clear R1 Z1
 generalize V0.alloc (.cells #[.int .i64 (zX ys : Int), .slice none 0 0] 78) = W1 at *
 generalize V0.heap.size = TB at *
 by_cases hl6 : 6 ≤ ys.length
 rotate_left
 · refine (number_none w _ (w.heap.size + 1) 2 (ys.drop 4) R2.out (by rw [List.length_drop]; omega)).mono ?_
   rintro e W ⟨rfl, rfl⟩
   refine leaves_cons (f := 91) (args := #[]) (by simp) (by simp [go_sem]) ?_
   refine (catchX_bad [] _).mono ?_
   rintro e u' w2 ⟨rfl, rfl, b2⟩
   obtain ⟨z0, z1, z2, hF⟩ := HBAD.out (decX_short (by omega)) _ _ Z2.out R2.out.2.2.2.1 b2
   simp [Leaves, settle, results, Tryz.results37, go_sem, z0, z1, z2]
   exact hF
 refine (number_any w _ (w.heap.size + 1) 2 (ys.drop 4) R2.out (by rw [List.length_drop]; omega) (by omega) (by omega) (byt_drop HBY.out 4)).mono ?_
 rintro e W ⟨rfl, r3, v3, q3, rfl⟩
 rw [(wrap2 (byt_drop HBY.out 4)).1]
 have hC := (wrap2 (byt_drop HBY.out 4)).2
 rw [show numB ((ys.drop 4).take 2) = cntX ys from rfl] at *
 rw [List.drop_drop] at r3
 have g3 : W1.grownBy ((W1.setCell ⟨w.heap.size + 1, 0, none⟩ v3).drewN q3) (some (w.heap.size + 1)) := (grownBy_set _ _ _ _ _ (World.grownBy.refl _ _)).trans (grown_of (below_drewN' _ q3) _)
 have D0 : Hid (TX w ys TB ((W1.setCell ⟨w.heap.size + 1, 0, none⟩ v3).drewN q3) (.slice none 0 0) [] [] (ys.drop 6) (cntX ys - 0)) := ⟨ParE.start _ _, byt_drop HBY.out 6, (fun n hn => by cases hn), r3, Z2.out.turn g3 (by simp), X2.out.turn g3 (by simp; omega), World.ownsRow_nil _ _ _ _⟩
 clear g3 r3 R2 Z2 X2
 generalize (W1.setCell ⟨w.heap.size + 1, 0, none⟩ v3).drewN q3 = V1 at *
 generalize hCC : cntX ys = C at *
 have HCC : Hid (cntX ys = C) := hCC
 clear hCC
 go_wp2
 go_loopw [14] (fun vi wr => ∃ (i : Nat) (v : Value) (es : List Ef) (r : List Int), i ≤ C ∧ vi = .int .i64 i ∧ Hid (TX w ys TB wr v es es r (C - i))) (fun i _ => C - (intOf i).toNat)
 case atStart => exact ⟨0, _, _, _, Nat.zero_le _, rfl, D0⟩
 case round =>
  clear D0
  obtain ⟨i, v, es, r, hi5, rfl, D⟩ := hrel
  obtain ⟨va, vc, hva⟩ := D.out.2.2.2.2.2.2.slice
  subst hva
  have hns : es.length ≤ 1048576 := by have := D.out.1.2; rw [List.length_drop] at this; omega
  by_cases hlt : i < C
  · have hltI : (i : Int) < (C : Int) := by omega
    obtain ⟨c, hc⟩ : ∃ c, C - i = c + 1 := ⟨C - i - 1, by omega⟩
    rw [hc] at D
    have HC2 : Hid (C - (i + 1) = c) := by show _ = _; omega
    clear hc
    go_wp2_with fail
    refine (effectImage_any w wr (w.heap.size + 1) r D.out.2.2.2.1 D.out.2.1).mono ?_
    rintro e W2 ⟨g2, hp⟩
    rcases hp with ⟨hp, rfl⟩ | ⟨n, r', hp, rfl, hr1⟩
    · refine leaves_cons (f := 91) (args := #[]) (by simp) (by simp [go_sem]) ?_
      refine (catchX_bad [] _).mono ?_
      rintro e u' w3 ⟨rfl, rfl, b3⟩
      have hB : Below w.heap.size w W2 := D.out.below.grown g2 D.out.below.size (fun q hq => by simp only [Option.some.injEq] at hq; omega)
      obtain ⟨z0, z1, z2, hF⟩ := HBAD.out (decX_bad (by rw [HCC.out]; exact (HCC.out ▸ D.out.1).bad hp)) _ _ (D.out.2.2.2.2.1.turn g2 (by simp)) hB b3
      simp [Leaves, settle, results, Tryz.results37, go_sem, z0, z1, z2]
      exact hF
    have T1 : Hid (TX w ys TB W2 (.slice va es.length vc) es (es ++ [n]) r' c) := D.out.read s1 g2 hp hr1
    clear g2 hp hr1 D
    have T2 : Hid (TX w ys TB (W2.alloc (.cells #[.string n.nd.path, .string n.nd.data, .int .i64 n.nd.ver, .int .i64 n.nd.cver, .int .i64 n.nd.cz, .int .i64 n.nd.mz, .int .i64 n.nd.pz, .int .u8 (mkB n)] 157)) (.slice va es.length vc) es (es ++ [n]) r' c) := T1.out.later ((Below.refl _ _).alloc (Nat.le_refl _) _)
    have E2 : Hid (EB (W2.alloc (.cells #[.string n.nd.path, .string n.nd.data, .int .i64 n.nd.ver, .int .i64 n.nd.cver, .int .i64 n.nd.cz, .int .i64 n.nd.mz, .int .i64 n.nd.pz, .int .u8 (mkB n)] 157)) W2.heap.size n.nd (mkB n)) := EB.new W2 n.nd (mkB n) _
    have c0 := T1.out.2.2.2.2.2.1.2.2.1
    have cl := T1.out.2.2.2.2.2.1.1
    unfold efIV
    go_wp2
    clear c0 cl T1
    generalize W2.alloc (.cells #[.string n.nd.path, .string n.nd.data, .int .i64 n.nd.ver, .int .i64 n.nd.cver, .int .i64 n.nd.cz, .int .i64 n.nd.mz, .int .i64 n.nd.pz, .int .u8 (mkB n)] 157) = W3 at *
    generalize W2.heap.size = BE at *
    have c0 := T2.out.2.2.2.2.2.1.2.2.1
    refine wp_region_noPanic ?_
    refine wp_region_held_drew (S := fun _ => True) (by kernel_rfl) (trivial) (fun hHeld => ?_)
    refine tkL9 (i := 0) (oi := ⟨some 18, _, _, _, _, _⟩) (v := (.pointer (some ⟨TB, 1, none⟩))) rfl (by kernel_rfl) (fun _ _ _ h => h) (by rfl) (by assumption) ?hy1 ?_
    case hy1 => intro w9 hS9; go_simp; try with_reducible rfl
    try simp only [Act.put, sT9, sZ9, sS9]
    refine wpAnyH_ready (rs := [1, 2]) (by kernel_rfl) (by simp) ?_
    refine AllReadyH.cons (o := ⟨some 19, _, _, _, _, _⟩) rfl (fun K hK => ?_) (AllReadyH.cons (o := ⟨some 20, _, _, _, _, _⟩) rfl (fun K hK => ?_) AllReadyH.nil)
    · go_simp
      refine hK.out _ _ trivial (fun hx9 => ?_)
      clear hK K hx9
      try simp only [Act.put, sT9, sZ9, sS9]
      refine wpAnyH_ready (rs := [2]) (by kernel_rfl) (by simp) ?_
      refine AllReadyH.cons (o := ⟨some 20, _, _, _, _, _⟩) rfl (fun K hK => ?_) AllReadyH.nil
      go_simp
      refine (effect_any W3.drew BE n (E2.out.turn (grown_of (below_drewN' W3 1) none) (by simp))).mono ?_
      rintro e W4 ⟨rfl, b4⟩
      have T4 : Hid (TX w ys TB W4 (.slice va es.length vc) es (es ++ [n]) r' c) := (T2.out.later (below_drewN' W3 1)).later b4
      have c1 := T4.out.2.2.2.2.2.1.2.2.1
      clear b4
      refine hK.out _ _ trivial (fun hx9 => ?_)
      clear hK K hx9
      try simp only [Act.put, sT9, sZ9, sS9]
      refine wpAnyH_ready (rs := [3]) (by kernel_rfl) (by simp) ?_
      refine AllReadyH.cons (o := ⟨some 21, _, _, _, _, _⟩) rfl (fun K hK => ?_) AllReadyH.nil
      unfold efV
      go_simp
      have T5 : Hid (TX w ys TB (W4.alloc (.cells #[.bool n.del, .string n.nd.path, .string n.nd.data, .int .i64 n.nd.ver, .int .i64 n.nd.cver, .int .i64 n.nd.cz, .int .i64 n.nd.mz, .int .i64 n.nd.pz] 139)) (.slice va es.length vc) es (es ++ [n]) r' c) := T4.out.later ((Below.refl _ _).alloc (Nat.le_refl _) _)
      have NC : Hid (∀ j u, (efL n)[j]? = some u → (W4.alloc (.cells #[.bool n.del, .string n.nd.path, .string n.nd.data, .int .i64 n.nd.ver, .int .i64 n.nd.cver, .int .i64 n.nd.cz, .int .i64 n.nd.mz, .int .i64 n.nd.pz] 139)).cell? ((⟨W4.heap.size, 0, none⟩ : Addr).add j) = some u) := efL_cells _ _ _
      refine hK.out _ _ trivial (fun hx9 => ?_)
      clear hK K hx9 c1
      generalize W4.alloc (.cells #[.bool n.del, .string n.nd.path, .string n.nd.data, .int .i64 n.nd.ver, .int .i64 n.nd.cver, .int .i64 n.nd.cz, .int .i64 n.nd.mz, .int .i64 n.nd.pz] 139) = W5 at *
      generalize W4.heap.size = G4 at *
      have c1 := T5.out.2.2.2.2.2.1.2.2.1
      try simp only [Act.put, sT9, sZ9, sS9]
      refine wpAnyH_ready (rs := [4]) (by kernel_rfl) (by simp) ?_
      refine AllReadyH.cons (o := ⟨some 22, _, _, _, _, _⟩) rfl (fun K hK => ?_) AllReadyH.nil
      refine step_append rfl (.tmp 19) (.tmp 21) 76 rfl (TB + 1) 139 i0 (.agg #[.bool false, .string ByteArray.empty, .string ByteArray.empty, .int .i64 0, .int .i64 0, .int .i64 0, .int .i64 0, .int .i64 0]) 8 80 Tryz.underlying76 hi hz0 hz1 hz2 rfl (by decide) (.slice va es.length vc) es.length _ rfl T5.out.2.2.2.2.2.2 ⟨G4, 0, none⟩ 1 1 (efL n) rfl rfl NC.out (efL_one n) (by unfold maxLen; omega) (by omega) (by have := T5.out.2.2.2.2.2.1.1; omega) ?_
      intro v6 W6 ho6 hg6
      have D6 : Hid (TX w ys TB (W6.setCell ⟨TB, 1, none⟩ v6) v6 (es ++ [n]) (es ++ [n]) r' c) := T5.out.push s1 hg6 ho6
      obtain ⟨a6, q6, hv6⟩ := D6.out.2.2.2.2.2.2.slice
      rw [show (es ++ [n]).length = es.length + 1 by simp] at hv6
      subst hv6
      obtain ⟨-, -, c6, ff⟩ := T5.out.2.2.2.2.2.1.turn hg6 (fun e => by have := (World.ownsRow.lt T5.out.2.2.2.2.2.2 _ e.symm).1; omega)
      have f6 := ff 1
      clear ho6 hg6 ff
      refine hK.out _ _ trivial (fun hx9 => ?_)
      clear hK K hx9
      try simp only [Act.put, sT9, sZ9, sS9]
      refine tkL9 (i := 5) (oi := ⟨some 23, _, _, _, _, _⟩) (v := (.pointer (some ⟨TB, 1, none⟩))) rfl (by kernel_rfl) (fun _ _ _ h => h) (by rfl) (by assumption) ?hy2 ?_
      case hy2 => intro w9 hS9; go_simp; try with_reducible rfl
      try simp only [Act.put, sT9, sZ9, sS9]
      refine wpAnyH_ready (rs := [6]) (by kernel_rfl) (by simp) ?_
      refine AllReadyH.cons (o := ⟨none, _, _, _, _, _⟩) rfl (fun K hK => ?_) AllReadyH.nil
      go_simp
      refine hK.out _ _ trivial (fun hx9 => ?_)
      clear hK K hx9
      try simp only [Act.put, sT9, sZ9, sS9]
      refine wpAnyH_done (by kernel_rfl) (NoPanic.normal ?_) _
      clear c0 c1 c6 f6 hHeld
      go_wp2
      exact ⟨⟨i + 1, _, _, _, by omega, by go_num, (by rw [HC2.out]; exact D6)⟩, by simp [intOf]; omega⟩
    · go_simp
      refine (effect_any W3.drew BE n (E2.out.turn (grown_of (below_drewN' W3 1) none) (by simp))).mono ?_
      rintro e W4 ⟨rfl, b4⟩
      have T4 : Hid (TX w ys TB W4 (.slice va es.length vc) es (es ++ [n]) r' c) := (T2.out.later (below_drewN' W3 1)).later b4
      have c1 := T4.out.2.2.2.2.2.1.2.2.1
      clear b4
      refine hK.out _ _ trivial (fun hx9 => ?_)
      clear hK K hx9
      try simp only [Act.put, sT9, sZ9, sS9]
      refine wpAnyH_ready (rs := [1, 3]) (by kernel_rfl) (by simp) ?_
      refine AllReadyH.cons (o := ⟨some 19, _, _, _, _, _⟩) rfl (fun K hK => ?_) (AllReadyH.cons (o := ⟨some 21, _, _, _, _, _⟩) rfl (fun K hK => ?_) AllReadyH.nil)
      · go_simp
        refine hK.out _ _ trivial (fun hx9 => ?_)
        clear hK K hx9
        try simp only [Act.put, sT9, sZ9, sS9]
        refine wpAnyH_ready (rs := [3]) (by kernel_rfl) (by simp) ?_
        refine AllReadyH.cons (o := ⟨some 21, _, _, _, _, _⟩) rfl (fun K hK => ?_) AllReadyH.nil
        unfold efV
        go_simp
        have T5 : Hid (TX w ys TB (W4.alloc (.cells #[.bool n.del, .string n.nd.path, .string n.nd.data, .int .i64 n.nd.ver, .int .i64 n.nd.cver, .int .i64 n.nd.cz, .int .i64 n.nd.mz, .int .i64 n.nd.pz] 139)) (.slice va es.length vc) es (es ++ [n]) r' c) := T4.out.later ((Below.refl _ _).alloc (Nat.le_refl _) _)
        have NC : Hid (∀ j u, (efL n)[j]? = some u → (W4.alloc (.cells #[.bool n.del, .string n.nd.path, .string n.nd.data, .int .i64 n.nd.ver, .int .i64 n.nd.cver, .int .i64 n.nd.cz, .int .i64 n.nd.mz, .int .i64 n.nd.pz] 139)).cell? ((⟨W4.heap.size, 0, none⟩ : Addr).add j) = some u) := efL_cells _ _ _
        refine hK.out _ _ trivial (fun hx9 => ?_)
        clear hK K hx9 c1
        generalize W4.alloc (.cells #[.bool n.del, .string n.nd.path, .string n.nd.data, .int .i64 n.nd.ver, .int .i64 n.nd.cver, .int .i64 n.nd.cz, .int .i64 n.nd.mz, .int .i64 n.nd.pz] 139) = W5 at *
        generalize W4.heap.size = G4 at *
        have c1 := T5.out.2.2.2.2.2.1.2.2.1
        try simp only [Act.put, sT9, sZ9, sS9]
        refine wpAnyH_ready (rs := [4]) (by kernel_rfl) (by simp) ?_
        refine AllReadyH.cons (o := ⟨some 22, _, _, _, _, _⟩) rfl (fun K hK => ?_) AllReadyH.nil
        refine step_append rfl (.tmp 19) (.tmp 21) 76 rfl (TB + 1) 139 i0 (.agg #[.bool false, .string ByteArray.empty, .string ByteArray.empty, .int .i64 0, .int .i64 0, .int .i64 0, .int .i64 0, .int .i64 0]) 8 80 Tryz.underlying76 hi hz0 hz1 hz2 rfl (by decide) (.slice va es.length vc) es.length _ rfl T5.out.2.2.2.2.2.2 ⟨G4, 0, none⟩ 1 1 (efL n) rfl rfl NC.out (efL_one n) (by unfold maxLen; omega) (by omega) (by have := T5.out.2.2.2.2.2.1.1; omega) ?_
        intro v6 W6 ho6 hg6
        have D6 : Hid (TX w ys TB (W6.setCell ⟨TB, 1, none⟩ v6) v6 (es ++ [n]) (es ++ [n]) r' c) := T5.out.push s1 hg6 ho6
        obtain ⟨a6, q6, hv6⟩ := D6.out.2.2.2.2.2.2.slice
        rw [show (es ++ [n]).length = es.length + 1 by simp] at hv6
        subst hv6
        obtain ⟨-, -, c6, ff⟩ := T5.out.2.2.2.2.2.1.turn hg6 (fun e => by have := (World.ownsRow.lt T5.out.2.2.2.2.2.2 _ e.symm).1; omega)
        have f6 := ff 1
        clear ho6 hg6 ff
        refine hK.out _ _ trivial (fun hx9 => ?_)
        clear hK K hx9
        try simp only [Act.put, sT9, sZ9, sS9]
        refine tkL9 (i := 5) (oi := ⟨some 23, _, _, _, _, _⟩) (v := (.pointer (some ⟨TB, 1, none⟩))) rfl (by kernel_rfl) (fun _ _ _ h => h) (by rfl) (by assumption) ?hy3 ?_
        case hy3 => intro w9 hS9; go_simp; try with_reducible rfl
        try simp only [Act.put, sT9, sZ9, sS9]
        refine wpAnyH_ready (rs := [6]) (by kernel_rfl) (by simp) ?_
        refine AllReadyH.cons (o := ⟨none, _, _, _, _, _⟩) rfl (fun K hK => ?_) AllReadyH.nil
        go_simp
        refine hK.out _ _ trivial (fun hx9 => ?_)
        clear hK K hx9
        try simp only [Act.put, sT9, sZ9, sS9]
        refine wpAnyH_done (by kernel_rfl) (NoPanic.normal ?_) _
        clear c0 c1 c6 f6 hHeld
        go_wp2
        exact ⟨⟨i + 1, _, _, _, by omega, by go_num, (by rw [HC2.out]; exact D6)⟩, by simp [intOf]; omega⟩
      · unfold efV
        go_simp
        have T5 : Hid (TX w ys TB (W4.alloc (.cells #[.bool n.del, .string n.nd.path, .string n.nd.data, .int .i64 n.nd.ver, .int .i64 n.nd.cver, .int .i64 n.nd.cz, .int .i64 n.nd.mz, .int .i64 n.nd.pz] 139)) (.slice va es.length vc) es (es ++ [n]) r' c) := T4.out.later ((Below.refl _ _).alloc (Nat.le_refl _) _)
        have NC : Hid (∀ j u, (efL n)[j]? = some u → (W4.alloc (.cells #[.bool n.del, .string n.nd.path, .string n.nd.data, .int .i64 n.nd.ver, .int .i64 n.nd.cver, .int .i64 n.nd.cz, .int .i64 n.nd.mz, .int .i64 n.nd.pz] 139)).cell? ((⟨W4.heap.size, 0, none⟩ : Addr).add j) = some u) := efL_cells _ _ _
        refine hK.out _ _ trivial (fun hx9 => ?_)
        clear hK K hx9 c1
        generalize W4.alloc (.cells #[.bool n.del, .string n.nd.path, .string n.nd.data, .int .i64 n.nd.ver, .int .i64 n.nd.cver, .int .i64 n.nd.cz, .int .i64 n.nd.mz, .int .i64 n.nd.pz] 139) = W5 at *
        generalize W4.heap.size = G4 at *
        have c1 := T5.out.2.2.2.2.2.1.2.2.1
        try simp only [Act.put, sT9, sZ9, sS9]
        refine wpAnyH_ready (rs := [1]) (by kernel_rfl) (by simp) ?_
        refine AllReadyH.cons (o := ⟨some 19, _, _, _, _, _⟩) rfl (fun K hK => ?_) AllReadyH.nil
        go_simp
        refine hK.out _ _ trivial (fun hx9 => ?_)
        clear hK K hx9
        try simp only [Act.put, sT9, sZ9, sS9]
        refine wpAnyH_ready (rs := [4]) (by kernel_rfl) (by simp) ?_
        refine AllReadyH.cons (o := ⟨some 22, _, _, _, _, _⟩) rfl (fun K hK => ?_) AllReadyH.nil
        refine step_append rfl (.tmp 19) (.tmp 21) 76 rfl (TB + 1) 139 i0 (.agg #[.bool false, .string ByteArray.empty, .string ByteArray.empty, .int .i64 0, .int .i64 0, .int .i64 0, .int .i64 0, .int .i64 0]) 8 80 Tryz.underlying76 hi hz0 hz1 hz2 rfl (by decide) (.slice va es.length vc) es.length _ rfl T5.out.2.2.2.2.2.2 ⟨G4, 0, none⟩ 1 1 (efL n) rfl rfl NC.out (efL_one n) (by unfold maxLen; omega) (by omega) (by have := T5.out.2.2.2.2.2.1.1; omega) ?_
        intro v6 W6 ho6 hg6
        have D6 : Hid (TX w ys TB (W6.setCell ⟨TB, 1, none⟩ v6) v6 (es ++ [n]) (es ++ [n]) r' c) := T5.out.push s1 hg6 ho6
        obtain ⟨a6, q6, hv6⟩ := D6.out.2.2.2.2.2.2.slice
        rw [show (es ++ [n]).length = es.length + 1 by simp] at hv6
        subst hv6
        obtain ⟨-, -, c6, ff⟩ := T5.out.2.2.2.2.2.1.turn hg6 (fun e => by have := (World.ownsRow.lt T5.out.2.2.2.2.2.2 _ e.symm).1; omega)
        have f6 := ff 1
        clear ho6 hg6 ff
        refine hK.out _ _ trivial (fun hx9 => ?_)
        clear hK K hx9
        try simp only [Act.put, sT9, sZ9, sS9]
        refine tkL9 (i := 5) (oi := ⟨some 23, _, _, _, _, _⟩) (v := (.pointer (some ⟨TB, 1, none⟩))) rfl (by kernel_rfl) (fun _ _ _ h => h) (by rfl) (by assumption) ?hy4 ?_
        case hy4 => intro w9 hS9; go_simp; try with_reducible rfl
        try simp only [Act.put, sT9, sZ9, sS9]
        refine wpAnyH_ready (rs := [6]) (by kernel_rfl) (by simp) ?_
        refine AllReadyH.cons (o := ⟨none, _, _, _, _, _⟩) rfl (fun K hK => ?_) AllReadyH.nil
        go_simp
        refine hK.out _ _ trivial (fun hx9 => ?_)
        clear hK K hx9
        try simp only [Act.put, sT9, sZ9, sS9]
        refine wpAnyH_done (by kernel_rfl) (NoPanic.normal ?_) _
        clear c0 c1 c6 f6 hHeld
        go_wp2
        exact ⟨⟨i + 1, _, _, _, by omega, by go_num, (by rw [HC2.out]; exact D6)⟩, by simp [intOf]; omega⟩
  · have hic : i = C := by omega
    subst hic
    rw [Nat.sub_self] at D
    have HPD : Hid (pEs i (ys.drop 6) = some (es, r)) := (HCC.out ▸ D.out.1).done
    go_wp2_with fail
    refine (done_any w wr (w.heap.size + 1) r D.out.2.2.2.1).mono ?_
    rintro e w1 ⟨rfl, rfl⟩
    obtain ⟨-, -, t3, -, ⟨tz, z0, z1, z2, zf⟩, ⟨-, b0, b1, -⟩, t7⟩ := D.out
    have f0 := zf 0
    have f1 := zf 1
    have f2 := zf 2
    have HSZ : Hid (SzE es) := t3
    have HON : Hid (OwnE 139 w1 (TB + 1) (.slice va es.length vc) es) := t7
    clear t3 t7 zf
    by_cases hr : r = []
    rotate_left
    · have HDX : Hid (decX ys = none) := by
       show _ = _
       unfold decX
       rw [if_neg (by omega), HCC.out, HPD.out]
       simp only
       rw [if_neg (fun h => hr h.1)]
      have HF : Hid (∀ W, W = ((w1.setCell ⟨w.heap.size, 0, none⟩ (.bool false)).setCell ⟨w.heap.size, 1, none⟩ (.int .i64 0)).setCell ⟨w.heap.size, 2, none⟩ (.slice none 0 0) → DxPost w ys (.returned (.agg #[.bool false, .int .i64 0, .slice none 0 0])) W) := by
       rintro W rfl
       exact ⟨((D.out.below.setCell (p := ⟨w.heap.size, 0, none⟩) (Nat.le_refl _) _).setCell (p := ⟨w.heap.size, 1, none⟩) (Nat.le_refl _) _).setCell (p := ⟨w.heap.size, 2, none⟩) (Nat.le_refl _) _, .inl ⟨HDX.out, rfl⟩⟩
      rw [decide_eq_false hr]
      clear b0 b1 hr
      go_wp2
      refine leaves_cons (f := 91) (args := #[]) (by simp) (by simp [go_sem]) ?_
      refine (catchX_idle _).mono ?_
      rintro e u' w3 ⟨rfl, rfl, rfl⟩
      simp [Leaves, settle, results, Tryz.results37, go_sem, z0, z1, z2]
      exact HF.out _ rfl
    · subst hr
      rw [show decide (([] : List Int) = []) = true from rfl]
      clear z0 z1 z2 f0 f1 f2
      go_wp2_with fail
      refine (implTxn_any _ _ _ es HON.out.rd HSZ.out.at).mono ?_
      rintro e w2 ⟨rfl, b2⟩
      have D2 := hd9 (D.out.later b2)
      obtain ⟨-, -, -, -, ⟨-, z0, z1, z2, zf⟩, ⟨-, d0, d1, -⟩, t7⟩ := D2.out
      have f0 := zf 0
      have f1 := zf 1
      have f2 := zf 2
      have HON2 : Hid (OwnE 139 w2 (TB + 1) (.slice va es.length vc) es) := t7
      clear zf b2 t7 HON b0 b1
      by_cases hok : okTxn (zX ys : Int) es = true
      · have HDX : Hid (decX ys = some ((zX ys : Int), es)) := by
         show _ = _
         unfold decX
         rw [if_neg (by omega), HCC.out, HPD.out]
         simp only
         rw [if_pos ⟨trivial, hok⟩]
        have HF : Hid (∀ W, W = ((w2.setCell ⟨w.heap.size, 0, none⟩ (.bool true)).setCell ⟨w.heap.size, 1, none⟩ (.int .i64 (zX ys : Int))).setCell ⟨w.heap.size, 2, none⟩ (.slice va es.length vc) → DxPost w ys (.returned (.agg #[.bool true, .int .i64 (zX ys : Int), .slice va es.length vc])) W) := by
         rintro W rfl
         refine ⟨((D2.out.below.setCell (p := ⟨w.heap.size, 0, none⟩) (Nat.le_refl _) _).setCell (p := ⟨w.heap.size, 1, none⟩) (Nat.le_refl _) _).setCell (p := ⟨w.heap.size, 2, none⟩) (Nat.le_refl _) _, .inr ⟨_, es, _, HDX.out, rfl, ?_⟩⟩
         exact OwnE.mono (OwnE.setBelow (OwnE.setBelow (OwnE.setBelow HON2.out (by show w.heap.size < TB + 1; omega) _) (by show w.heap.size < TB + 1; omega) _) (by show w.heap.size < TB + 1; omega) _) (by omega)
        rw [hok]
        clear hok
        go_wp2
        refine leaves_cons (f := 91) (args := #[]) (by simp) (by simp [go_sem]) ?_
        refine (catchX_idle _).mono ?_
        rintro e u' w3 ⟨rfl, rfl, rfl⟩
        simp [Leaves, settle, results, Tryz.results37, go_sem, z0, z1, z2]
        exact HF.out _ rfl
      · have hok' : okTxn (zX ys : Int) es = false := by simpa using hok
        have HDX : Hid (decX ys = none) := by
         show _ = _
         unfold decX
         rw [if_neg (by omega), HCC.out, HPD.out]
         simp only
         rw [if_neg (fun h => hok h.2)]
        have HF : Hid (∀ W, W = ((w2.setCell ⟨w.heap.size, 0, none⟩ (.bool false)).setCell ⟨w.heap.size, 1, none⟩ (.int .i64 0)).setCell ⟨w.heap.size, 2, none⟩ (.slice none 0 0) → DxPost w ys (.returned (.agg #[.bool false, .int .i64 0, .slice none 0 0])) W) := by
         rintro W rfl
         exact ⟨((D2.out.below.setCell (p := ⟨w.heap.size, 0, none⟩) (Nat.le_refl _) _).setCell (p := ⟨w.heap.size, 1, none⟩) (Nat.le_refl _) _).setCell (p := ⟨w.heap.size, 2, none⟩) (Nat.le_refl _) _, .inl ⟨HDX.out, rfl⟩⟩
        rw [hok']
        clear hok hok'
        go_wp2
        refine leaves_cons (f := 91) (args := #[]) (by simp) (by simp [go_sem]) ?_
        refine (catchX_idle _).mono ?_
        rintro e u' w3 ⟨rfl, rfl, rfl⟩
        simp [Leaves, settle, results, Tryz.results37, go_sem, z0, z1, z2]
        exact HF.out _ rfl
theorem numB_mono (xs : List Int) (i : Nat) (h : i ≤ xs.length) : numB (xs.take i) ≤ numB xs := by
 have key : ∀ d i, i + d = xs.length → numB (xs.take i) ≤ numB xs := by
  intro d
  induction d with
  | zero => intro i hi; rw [List.take_of_length_le (by omega)]; exact Nat.le_refl _
  | succ d ih =>
   intro i hi
   have := ih (i + 1) (by omega)
   rw [take_succ_getD xs i (by omega), numB_snoc] at this
   omega
 exact key (xs.length - i) i (by omega)
theorem specNum_any (w : World) (b o n c : Nat) (xs : List Int) (hx : xs.length = n) (hby : Byt xs) (hc : ∀ i, i < n → w.cell? ⟨b, o + i, none⟩ = some (.int .u8 (xs.getD i 0))) (hN : numB xs < 9223372036854775808) (hn : n ≤ 8) :
    Calls Tryz.prog 83 #[.slice (some ⟨b, o, none⟩) n c] w fun e w' => e = .returned (.int .i64 ((numB xs : Nat) : Int)) ∧ ∃ q, w' = w.drewN q := by
 have HC : Hid (∀ i, i < n → w.cell? ⟨b, o + i, none⟩ = some (.int .u8 (xs.getD i 0))) := hc
 have HBY : Hid (Byt xs) := hby
 have HX : Hid (xs.length = n) := hx
 have HN : Hid (numB xs < 9223372036854775808) := hN
 clear hc hby hx hN
 go_enter Tryz.func83, Tryz.ntmps83
 go_wp2
 go_loopw [3, 4] (fun vn vi wr => ∃ (i V : Nat), i ≤ n ∧ vi = .int .i64 i ∧ vn = .int .i64 V ∧ Hid (V = numB (xs.take i)) ∧ ∃ q, wr = w.drewN q) (fun _ i _ => n - (intOf i).toNat)
 case atStart => exact ⟨0, 0, Nat.zero_le _, rfl, rfl, (by show 0 = _; rw [List.take_zero, numB_nil]), 0, rfl⟩
 case round =>
  obtain ⟨i, V, hi, rfl, rfl, HV, q, rfl⟩ := hrel
  by_cases hlt : i < n
  · have hI : (i : Int) < (n : Int) := by omega
    obtain ⟨x, hx, hxe⟩ := byt_at HBY.out i
    have c1 : w.cell? ⟨b, o + i, none⟩ = some (.int .u8 (x : Int)) := by rw [HC.out i hlt, hxe]
    have HT : Hid (V * 256 + x = numB (xs.take (i + 1))) := by show _ = _; rw [take_succ_getD xs i (by rw [HX.out]; exact hlt), numB_snoc, hxe, HV.out, Int.toNat_natCast]
    have hle : V * 256 + x < 9223372036854775808 := by
     have h1 := numB_mono xs (i + 1) (by rw [HX.out]; omega)
     have h2 := HN.out
     rw [HT.out]; omega
    clear hxe
    go_wp2
    exact ⟨⟨i + 1, V * 256 + x, by omega, by go_num, by go_num, HT, q, rfl⟩, by simp [intOf]; omega⟩
  · have him : i = n := by omega
    subst him
    have HVE : Hid (((V : Nat) : Int) = ((numB xs : Nat) : Int)) := by show _ = _; rw [HV.out, List.take_of_length_le (by rw [HX.out]; exact Nat.le_refl _)]
    go_wp2
    go_ret
    exact ⟨ret_int HVE.out, _, rfl⟩
theorem num_small {xs : List Int} (h : Byt xs) (hl : xs.length ≤ 4) : numB xs < 9223372036854775808 := by
 have hb := (bigR_numB xs.length xs rfl h).2
 have h1 : 256 ^ xs.length ≤ 256 ^ 4 := Nat.pow_le_pow_right (by omega) hl
 have h2 : numB xs < 4294967296 := Nat.lt_of_lt_of_le hb h1
 omega
theorem sub_cells {w : World} {b o : Nat} {ys : List Int} {N : Nat} (hc : ∀ i, i < N → w.cell? ⟨b, o + i, none⟩ = some (.int .u8 (ys.getD i 0))) (p n : Nat) (h : p + n ≤ N) : ∀ i, i < n → w.cell? ⟨b, o + p + i, none⟩ = some (.int .u8 (((ys.drop p).take n).getD i 0)) := by
 intro i hi
 rw [Nat.add_assoc, hc (p + i) (by omega)]
 simp [List.getD, List.getElem?_take_of_lt hi]
def RtPost (ys : List Int) (p : Nat) (e : Ending) : Prop :=
 (rdT (ys.drop p) = none ∧ e = .returned (.tuple #[.string ⟨#[]⟩, .int .i64 (-1)])) ∨ ∃ s q, rdT (ys.drop p) = some (s, ys.drop q) ∧ p < q ∧ q ≤ ys.length ∧ e = .returned (.tuple #[.string s, .int .i64 (q : Int)])
theorem rT_neg (w : World) (v : Value) : Calls Tryz.prog 85 #[v, .int .i64 (-1)] w fun e w' => e = .returned (.tuple #[.string ⟨#[]⟩, .int .i64 (-1)]) ∧ w' = w := by
 go_enter Tryz.func85, Tryz.ntmps85
 go_wp2
 refine bodyPost_ret (v := .tuple #[.string ⟨#[]⟩, .int .i64 (-1)]) (by simp [results, Tryz.results85, go_sem]) rfl ⟨rfl, rfl⟩
theorem rT_end (w : World) (ao : Option Addr) (N cap p : Nat) (h : N ≤ p) : Calls Tryz.prog 85 #[.slice ao N cap, .int .i64 p] w fun e w' => e = .returned (.tuple #[.string ⟨#[]⟩, .int .i64 (-1)]) ∧ w' = w := by
 have h1 : (N : Int) ≤ (p : Int) := by omega
 go_enter Tryz.func85, Tryz.ntmps85
 go_wp2
 refine bodyPost_ret (v := .tuple #[.string ⟨#[]⟩, .int .i64 (-1)]) (by simp [results, Tryz.results85, go_sem]) rfl ⟨rfl, rfl⟩
theorem rT_short (w : World) (b o N cap p y : Nat) (hN : N ≤ 1048576) (h : p < N) (hy : y < 256) (hc : w.cell? ⟨b, o + p, none⟩ = some (.int .u8 (y : Int))) (h2 : N < p + 1 + y) : Calls Tryz.prog 85 #[.slice (some ⟨b, o, none⟩) N cap, .int .i64 p] w fun e w' => e = .returned (.tuple #[.string ⟨#[]⟩, .int .i64 (-1)]) ∧ w' = w := by
 have h1 : (p : Int) < (N : Int) := by omega
 have h3 : (N : Int) < (p : Int) + 1 + (y : Int) := by omega
 have hyI : (y : Int) < 256 := by omega
 go_enter Tryz.func85, Tryz.ntmps85
 go_wp2
 refine bodyPost_ret (v := .tuple #[.string ⟨#[]⟩, .int .i64 (-1)]) (by simp [results, Tryz.results85, go_sem]) rfl ⟨rfl, rfl⟩
theorem rT_ok (w : World) (b o N cap p y : Nat) (ys : List Int) (hl : ys.length = N) (hN : N ≤ 1048576) (h : p < N) (hy : y < 256) (hcc : N ≤ cap) (hcm : cap ≤ maxLen) (hR : Rd .u8 w (.slice (some ⟨b, o, none⟩) N cap) ys) (hc : w.cell? ⟨b, o + p, none⟩ = some (.int .u8 (y : Int))) (h2 : p + 1 + y ≤ N) :
    Calls Tryz.prog 85 #[.slice (some ⟨b, o, none⟩) N cap, .int .i64 p] w fun e w' => e = .returned (.tuple #[.string (strOfNums ((ys.drop (p + 1)).take y)), .int .i64 ((p + 1 + y : Nat) : Int)]) ∧ w' = w := by
 have h1 : (p : Int) < (N : Int) := by omega
 have h3 : ¬ (N : Int) < (p : Int) + 1 + (y : Int) := by omega
 have hyI : (y : Int) < 256 := by omega
 have HR : Hid (Rd .u8 w (.slice (some ⟨b, o, none⟩) N cap) ys) := hR
 have HL : Hid (ys.length = N) := hl
 clear hR hl
 by_cases hcp : cap = p + 1
 · have hy0 : y = 0 := by omega
   subst hy0
   subst hcp
   have hcv : (convert 22 9 (.slice (some ⟨b, o, none⟩) 0 0)).run Tryz.prog w = .ok (.string (strOfNums [])) w := conv_any (xs := []) ⟨_, 0, rfl, Nat.zero_le _, Nat.zero_le _, .inl rfl⟩
   go_enter Tryz.func85, Tryz.ntmps85
   go_wp2
   refine bodyPost_ret (v := .tuple #[.string (strOfNums []), .int .i64 ((p : Int) + 1)]) (by simp [results, Tryz.results85, go_sem]) rfl ⟨rfl, rfl⟩
 · have hcp' : p + 1 < cap := by omega
   have hcv : (convert 22 9 (.slice (some ⟨b, o + (p + 1), none⟩) y (cap - (p + 1)))).run Tryz.prog w = .ok (.string (strOfNums ((ys.drop (p + 1)).take y))) w := by
    refine conv_any ?_
    have := (Rd.split HR.out (p + 1) (by omega) (by omega)).2 (o + (p + 1)) (.inl rfl)
    by_cases hy0 : y = 0
    · subst hy0
      exact ⟨some ⟨b, o + (p + 1), none⟩, cap - (p + 1), by simp, Nat.zero_le _, by omega, .inl (by simp)⟩
    · exact (Rd.split this y (by omega) (by omega)).1
   go_enter Tryz.func85, Tryz.ntmps85
   go_wp2
   refine bodyPost_ret (v := .tuple #[.string (strOfNums ((ys.drop (p + 1)).take y)), .int .i64 ((p : Int) + 1 + (y : Int))]) (by simp [results, Tryz.results85, go_sem]) rfl ⟨rfl, rfl⟩
theorem rT_any (w : World) (v : Value) (ys : List Int) (p : Nat) (h : Rd .u8 w v ys) (hby : Byt ys) (hl : ys.length ≤ 1048576) :
    Calls Tryz.prog 85 #[v, .int .i64 p] w fun e w' => RtPost ys p e ∧ w' = w := by
 have h' := h
 obtain ⟨ao, cap, rfl, h1, h2, h3⟩ := h
 by_cases hp : p < ys.length
 rotate_left
 · refine (rT_end w ao ys.length cap p (by omega)).mono ?_
   rintro e w' ⟨rfl, rfl⟩
   exact ⟨.inl ⟨by rw [List.drop_eq_nil_of_le (by omega)]; rfl, rfl⟩, rfl⟩
 rcases h3 with rfl | ⟨b, o, rfl, hb, hc⟩
 · simp at hp
 obtain ⟨y, hy, hye⟩ := byt_at hby p
 have hcp := hc p hp
 rw [hye] at hcp
 have hd : ys.drop p = (y : Int) :: ys.drop (p + 1) := by
  rw [List.drop_eq_getElem_cons hp]
  simp only [List.getD, List.getElem?_eq_getElem hp, Option.getD_some] at hye
  rw [hye]
 by_cases h2' : p + 1 + y ≤ ys.length
 · refine (rT_ok w b o ys.length cap p y ys rfl hl hp hy h1 h2 h' hcp h2').mono ?_
   rintro e w' ⟨rfl, rfl⟩
   refine ⟨.inr ⟨_, p + 1 + y, ?_, by omega, h2', rfl⟩, rfl⟩
   rw [hd]
   simp only [rdT, Int.toNat_natCast]
   rw [if_pos (by rw [List.length_drop]; omega), List.drop_drop]
 · refine (rT_short w b o ys.length cap p y hl hp hy hcp (by omega)).mono ?_
   rintro e w' ⟨rfl, rfl⟩
   refine ⟨.inl ⟨?_, rfl⟩, rfl⟩
   rw [hd]
   simp only [rdT, Int.toNat_natCast]
   rw [if_neg (by rw [List.length_drop]; omega)]
theorem Tryz.infoIR : (Tryz.prog.info? 2).map (fun i => (i.zero, i.size, i.bytes)) = some (some (.int .i64 0), 1, 8) := by kernel_rfl
theorem below7 {w W : World} (h : Below w.heap.size w W) (v0 v1 v2 v3 v4 v5 v6 : Value) : Below w.heap.size w (((((((W.setCell ⟨w.heap.size, 0, none⟩ v0).setCell ⟨w.heap.size, 1, none⟩ v1).setCell ⟨w.heap.size, 2, none⟩ v2).setCell ⟨w.heap.size, 3, none⟩ v3).setCell ⟨w.heap.size, 4, none⟩ v4).setCell ⟨w.heap.size, 5, none⟩ v5).setCell ⟨w.heap.size, 6, none⟩ v6) := (((((((h.setCell (p := ⟨w.heap.size, 0, none⟩) (Nat.le_refl _) v0).setCell (p := ⟨w.heap.size, 1, none⟩) (Nat.le_refl _) v1).setCell (p := ⟨w.heap.size, 2, none⟩) (Nat.le_refl _) v2).setCell (p := ⟨w.heap.size, 3, none⟩) (Nat.le_refl _) v3).setCell (p := ⟨w.heap.size, 4, none⟩) (Nat.le_refl _) v4).setCell (p := ⟨w.heap.size, 5, none⟩) (Nat.le_refl _) v5).setCell (p := ⟨w.heap.size, 6, none⟩) (Nat.le_refl _) v6)
theorem keep7 {W : World} {B g : Nat} (hne : B ≠ g) (v0 v1 v2 v3 v4 v5 v6 : Value) (j : Nat) : World.cell? (World.drew (((((((W.setCell ⟨B, 0, none⟩ v0).setCell ⟨B, 1, none⟩ v1).setCell ⟨B, 2, none⟩ v2).setCell ⟨B, 3, none⟩ v3).setCell ⟨B, 4, none⟩ v4).setCell ⟨B, 5, none⟩ v5).setCell ⟨B, 6, none⟩ v6)) ⟨g, j, none⟩ = W.cell? ⟨g, j, none⟩ := by
 have e : ∀ (V : World) (a : Addr), V.drew.cell? a = V.cell? a := fun _ _ => rfl
 rw [e]
 iterate 7 rw [World.cell?_setCell_other _ _ _ _ (by intro e; injection e with e; omega)]
theorem own_fullI {e : TypeId} {w : World} {base : Nat} {v : Value} {xs : List Int} (h : Own .i64 e w base v xs) (hn : 0 < xs.length) : ∃ g c, v = .slice (some ⟨g, 0, none⟩) xs.length c := by
 rcases h.2 with ⟨-, h0⟩ | ⟨g, cap, cur, rfl, -⟩
 · omega
 · exact ⟨g, cap, rfl⟩
def numsL (R : List Int) (k : Nat) : List Int := (List.range k).map (num4 R)
theorem numsL_len (R : List Int) (k : Nat) : (numsL R k).length = k := by simp [numsL]
theorem numsL_succ (R : List Int) (k : Nat) : numsL R k ++ [num4 R k] = numsL R (k + 1) := by simp [numsL, List.range_succ]
def RnPost (w : World) (ys : List Int) (p : Nat) (e : Ending) (w' : World) : Prop :=
 Below w.heap.size w w' ∧ ((rdNd (ys.drop p) = none ∧ e = .returned (.tuple #[ndV nd0, .int .i64 (-1)])) ∨ ∃ n q, rdNd (ys.drop p) = some (n, ys.drop q) ∧ p < q ∧ q ≤ ys.length ∧ e = .returned (.tuple #[ndV n, .int .i64 (q : Int)]))
theorem NB.belowM {W W' : World} {B m : Nat} {n : Nd} (h : NB W B n) (hb : Below m W W') (hl : B < m) : NB W' B n := by
 refine ⟨⟨Nat.lt_of_lt_of_le h.1.lt hb.size, (hb.cell (p := ⟨B, _, none⟩) hl).trans h.1.c0, (hb.cell (p := ⟨B, _, none⟩) hl).trans h.1.c1, (hb.cell (p := ⟨B, _, none⟩) hl).trans h.1.c2, (hb.cell (p := ⟨B, _, none⟩) hl).trans h.1.c3, (hb.cell (p := ⟨B, _, none⟩) hl).trans h.1.c4, (hb.cell (p := ⟨B, _, none⟩) hl).trans h.1.c5, (hb.cell (p := ⟨B, _, none⟩) hl).trans h.1.c6⟩, fun j => ?_⟩
 rw [hb.frozen (p := ⟨B, j, none⟩) hl]; exact h.2 j
theorem rN_any (w : World) (v : Value) (ys : List Int) (p : Nat) (h : Rd .u8 w v ys) (hby : Byt ys) (hl : ys.length ≤ 1048576) :
    Calls Tryz.prog 84 #[v, .int .i64 p] w fun e w' => RnPost w ys p e w' := by
 obtain ⟨i0, hi, hz0, hz1, hz2⟩ := info_parts Tryz.infoIR
 obtain ⟨ao, cap, rfl, hcc, hcm⟩ := h.len
 have HR : Hid (Rd .u8 w (.slice ao ys.length cap) ys) := h
 have HBY : Hid (Byt ys) := hby
 have B0 : Hid (Below w.heap.size w (w.alloc (.cells #[.string ⟨#[]⟩, .string ⟨#[]⟩, .int .i64 0, .int .i64 0, .int .i64 0, .int .i64 0, .int .i64 0] 85))) := (Below.refl _ _).alloc (Nat.le_refl _) _
 have N0 : Hid (NB (w.alloc (.cells #[.string ⟨#[]⟩, .string ⟨#[]⟩, .int .i64 0, .int .i64 0, .int .i64 0, .int .i64 0, .int .i64 0] 85)) w.heap.size nd0) := NB.new w nd0 _
 clear h hby
 go_enter Tryz.func84, Tryz.ntmps84
 go_wp2_with fail
 generalize w.alloc (.cells #[.string ⟨#[]⟩, .string ⟨#[]⟩, .int .i64 0, .int .i64 0, .int .i64 0, .int .i64 0, .int .i64 0] 85) = w0 at *
 refine (rT_any w0 _ ys p (HR.out.below B0.out) HBY.out hl).mono ?_
 rintro e w1 ⟨hp, hw1⟩
 obtain rfl : w0 = w1 := hw1.symm
 rcases hp with ⟨hp, rfl⟩ | ⟨s, q, hp, hlt, hle, rfl⟩
 · have HNO : Hid (rdNd (ys.drop p) = none) := by show _ = _; unfold rdNd; rw [hp]
   clear hp
   go_wp2_with fail
   refine (rT_neg w0 _).mono ?_
   rintro e w1 ⟨rfl, hw1⟩
   obtain rfl : w0 = w1 := hw1.symm
   obtain ⟨⟨-, x0, x1, x2, x3, x4, x5, x6⟩, xf⟩ := N0.out
   go_wp2
   refine bodyPost_ret (v := .tuple #[ndV nd0, .int .i64 (-1)]) (by simp [results, Tryz.results84, go_sem, ndV, nd0, x0, x1, x2, x3, x4, x5, x6]; rfl) rfl ⟨?_, .inl ⟨HNO.out, rfl⟩⟩
   exact below7 B0.out _ _ _ _ _ _ _
 have HP1 : Hid (rdT (ys.drop p) = some (s, ys.drop q)) := hp
 clear hp
 go_wp2_with fail
 refine (rT_any w0 _ ys q (HR.out.below B0.out) HBY.out hl).mono ?_
 rintro e w1 ⟨hp, hw1⟩
 obtain rfl : w0 = w1 := hw1.symm
 rcases hp with ⟨hp, rfl⟩ | ⟨d, t, hp, hlt2, hle2, rfl⟩
 · have HNO : Hid (rdNd (ys.drop p) = none) := by show _ = _; unfold rdNd; rw [HP1.out]; simp only; rw [hp]
   clear hp
   obtain ⟨⟨-, x0, x1, x2, x3, x4, x5, x6⟩, xf⟩ := N0.out
   go_wp2
   refine bodyPost_ret (v := .tuple #[ndV nd0, .int .i64 (-1)]) (by simp [results, Tryz.results84, go_sem, ndV, nd0, x0, x1, x2, x3, x4, x5, x6]; rfl) rfl ⟨?_, .inl ⟨HNO.out, rfl⟩⟩
   exact below7 B0.out _ _ _ _ _ _ _
 have HP2 : Hid (rdT (ys.drop q) = some (d, ys.drop t)) := hp
 clear hp
 by_cases h20 : t + 20 ≤ ys.length
 rotate_left
 · have HNO : Hid (rdNd (ys.drop p) = none) := by show _ = _; unfold rdNd; rw [HP1.out]; simp only; rw [HP2.out]; simp only; rw [if_neg (by rw [List.length_drop]; omega)]
   have hI : (ys.length : Int) < (t : Int) + 20 := by omega
   obtain ⟨⟨-, x0, x1, x2, x3, x4, x5, x6⟩, xf⟩ := N0.out
   go_wp2
   refine bodyPost_ret (v := .tuple #[ndV nd0, .int .i64 (-1)]) (by simp [results, Tryz.results84, go_sem, ndV, nd0, x0, x1, x2, x3, x4, x5, x6]; rfl) rfl ⟨?_, .inl ⟨HNO.out, rfl⟩⟩
   exact below7 B0.out _ _ _ _ _ _ _
 have hI : ¬ (ys.length : Int) < (t : Int) + 20 := by omega
 obtain ⟨b, o, hao, hb, hc⟩ : ∃ b o, ao = some ⟨b, o, none⟩ ∧ b < w.heap.size ∧ ∀ i, i < ys.length → w.cell? ⟨b, o + i, none⟩ = some (.int .u8 (ys.getD i 0)) := by
  obtain ⟨ao', cap', e', -, -, h3⟩ := HR.out
  simp only [Value.slice.injEq] at e'
  obtain ⟨rfl, -, -⟩ := e'
  rcases h3 with h3 | ⟨b, o, rfl, hb, hc⟩
  · rw [h3] at h20; simp at h20
  · exact ⟨b, o, rfl, hb, hc⟩
 subst hao
 have HC : Hid (∀ i, i < ys.length → w.cell? ⟨b, o + i, none⟩ = some (.int .u8 (ys.getD i 0))) := hc
 clear hc
 obtain ⟨R, hR⟩ : ∃ R, R = ys.drop t := ⟨_, rfl⟩
 have HRR : Hid (R = ys.drop t) := hR
 clear hR
 have s0 : w.heap.size + 1 ≤ w0.heap.size := N0.out.1.lt
 have O0 : Hid (Own .i64 2 (w0.alloc (.cells #[] 2)) (w.heap.size + 1) (.slice (some ⟨w0.heap.size, 0, none⟩) 0 0) (numsL R 0)) := Own.mono (World.ownsRow_lit w0 #[] 0 (Nat.le_refl _) (Nat.zero_le _) rfl) s0
 have D0 : Hid (Below (w.heap.size + 1) w0 (w0.alloc (.cells #[] 2))) := (Below.refl _ _).alloc s0 _
 go_wp2
 go_loopw [10, 11] (fun vo vk wr => ∃ k : Nat, k ≤ 5 ∧ vk = .int .i64 k ∧ Hid (Own .i64 2 wr (w.heap.size + 1) vo (numsL R k)) ∧ Hid (Below (w.heap.size + 1) w0 wr)) (fun _ i _ => 5 - (intOf i).toNat)
 case atStart => exact ⟨0, by omega, rfl, O0, D0⟩
 case round =>
  obtain ⟨k, hk, rfl, HW, HD⟩ := hrel
  have sD : w.heap.size + 1 ≤ wr.heap.size := Nat.le_trans s0 HD.out.size
  by_cases hlt5 : k < 5
  · have hltI : (k : Int) < 5 := by omega
    have hq1 : t + 4 * k + 4 ≤ ys.length := by omega
    have hq2 : t + 4 * k < cap := by omega
    go_wp2_with fail
    have HN : Hid (num4 R k = ((numB ((ys.drop (t + 4 * k)).take 4) : Nat) : Int)) := by show _ = _; unfold num4; rw [HRR.out, List.drop_drop]
    refine (specNum_any _ b (o + (t + 4 * k)) 4 _ ((ys.drop (t + 4 * k)).take 4) ?n1 ?n2 ?n3 ?n4 (by omega)).mono ?_
    case n1 => rw [List.length_take, List.length_drop]; omega
    case n2 => exact fun x hx => HBY.out x (List.mem_of_mem_drop (List.mem_of_mem_take hx))
    case n3 =>
     intro i hi
     have := sub_cells HC.out (t + 4 * k) 4 hq1 i hi
     rw [HD.out.cell (p := ⟨b, o + (t + 4 * k) + i, none⟩) (by show b < _; omega), B0.out.cell (p := ⟨b, o + (t + 4 * k) + i, none⟩) hb]
     exact this
    case n4 => exact num_small (fun x hx => HBY.out x (List.mem_of_mem_drop (List.mem_of_mem_take hx))) (by rw [List.length_take]; omega)
    rintro e w2 ⟨rfl, q2, hw2⟩
    subst hw2
    rw [← HN.out]
    have OW : Hid ((wr.drewN q2).ownsRow (w.heap.size + 1) 2 1 u10 k ((numsL R k).map (Value.int .i64))) := by have := HW.out.drewN q2; unfold Own at this; rw [numsL_len] at this; exact this
    have D2 : Hid (Below (w.heap.size + 1) w0 (wr.drewN q2)) := HD.out.trans ((below_drewN' wr q2).mono sD)
    have s2 : w.heap.size + 1 ≤ (wr.drewN q2).heap.size := sD
    clear HN HW HD
    generalize wr.drewN q2 = w2 at *
    have HSU : Hid (numsL R k ++ [num4 R k] = numsL R (k + 1)) := numsL_succ R k
    generalize num4 R k = zk at *
    go_wp2_with (at_builtin; go_must (refine wpList_append_own _ rfl _ _ 162 rfl (w.heap.size + 1) 2 i0 (.int .i64 0) 1 8 Tryz.underlying162 hi hz0 hz1 hz2 rfl (by decide) _ _ _ rfl (OW.out.alloc _) ⟨w2.heap.size, 0, none⟩ 1 1 [.int .i64 zk] rfl rfl (cell_one_new _ _ _) (by intro u hu; simp at hu; subst hu; rfl) ?_ ?_ ?_ ?_))
    · unfold maxLen; omega
    · omega
    · simp; omega
    intro v3 w3 ho3 hg3 _
    have O3 : Hid (Own .i64 2 w3 (w.heap.size + 1) v3 (numsL R (k + 1))) := by
     refine own_of (q := k + 1) (ys := numsL R k ++ [zk]) (by rw [List.length_append, numsL_len]; rfl) HSU.out.symm ?_
     rw [List.map_append]; exact ho3
    have D3 : Hid (Below (w.heap.size + 1) w0 w3) := (D2.out.alloc s2 _).grown hg3 (by simp; omega) (fun q hq => (World.ownsRow.lt OW.out q hq).1)
    clear ho3 hg3 OW D2 HSU
    go_wp2
    exact ⟨⟨k + 1, by omega, by go_num, O3, D3⟩, by simp [intOf]; omega⟩
  · have hk5 : k = 5 := by omega
    subst hk5
    obtain ⟨g, c, hv⟩ := own_fullI HW.out (by rw [numsL_len]; omega)
    rw [numsL_len] at hv
    subst hv
    have CL : ∀ j, j < 5 → wr.cell? ⟨g, j, none⟩ = some (.int .i64 (num4 R j)) := by
     intro j hj
     have := World.ownsRow.cells HW.out (g := g) rfl j (.int .i64 (num4 R j)) (by simp [numsL, hj])
     rw [Addr.add_lit, Nat.zero_add] at this; exact this
    have hgl := (HW.out.lt g rfl).1
    have k0 := CL 0 (by omega)
    have k1 := CL 1 (by omega)
    have k2 := CL 2 (by omega)
    have k3 := CL 3 (by omega)
    have k4 := CL 4 (by omega)
    obtain ⟨⟨-, x0, x1, x2, x3, x4, x5, x6⟩, xf⟩ := N0.out.belowM HD.out (Nat.lt_succ_self _)
    have HYES : Hid (rdNd (ys.drop p) = some (⟨s, d, num4 R 0, num4 R 1, num4 R 2, num4 R 3, num4 R 4⟩, ys.drop (t + 20))) := by
     show _ = _
     unfold rdNd; rw [HP1.out]; simp only; rw [HP2.out]; simp only; rw [if_pos (by rw [List.length_drop]; omega), List.drop_drop, HRR.out]
    have HB : Hid (Below w.heap.size w wr) := B0.out.trans (HD.out.mono (Nat.le_succ _))
    have hwr : Hid (IntKind.i64.wrap ((t : Int) + 20) = (t : Int) + 20) := by show _ = _; rw [IntKind.wrap_i64]; omega
    clear CL
    generalize num4 R 0 = z0 at *
    generalize num4 R 1 = z1 at *
    generalize num4 R 2 = z2 at *
    generalize num4 R 3 = z3 at *
    generalize num4 R 4 = z4 at *
    go_wp2
    refine wp_region_held_drew (S := fun W => W.cell? ⟨g, 0, none⟩ = some (.int .i64 z0) ∧ W.cell? ⟨g, 1, none⟩ = some (.int .i64 z1) ∧ W.cell? ⟨g, 2, none⟩ = some (.int .i64 z2) ∧ W.cell? ⟨g, 3, none⟩ = some (.int .i64 z3) ∧ W.cell? ⟨g, 4, none⟩ = some (.int .i64 z4)) (by kernel_rfl) (⟨k0, k1, k2, k3, k4⟩) (fun hHeld => ?_)
    refine tkL9 (i := 0) (oi := ⟨some 54, _, _, _, _, _⟩) (v := (.string s)) rfl (by kernel_rfl) (fun _ _ _ h => h) (by rfl) (by assumption) ?hy1 ?_
    case hy1 => intro w9 hS9; obtain ⟨y0, y1, y2, y3, y4⟩ := hS9; go_simp; try with_reducible rfl
    try simp only [Act.put, sT9, sZ9, sS9]
    refine tkL9 (i := 1) (oi := ⟨some 55, _, _, _, _, _⟩) (v := (.string d)) rfl (by kernel_rfl) (fun _ _ _ h => h) (by rfl) (by assumption) ?hy2 ?_
    case hy2 => intro w9 hS9; obtain ⟨y0, y1, y2, y3, y4⟩ := hS9; go_simp; try with_reducible rfl
    try simp only [Act.put, sT9, sZ9, sS9]
    refine tkL9 (i := 2) (oi := ⟨some 56, _, _, _, _, _⟩) (v := (.slice (some ⟨g, 0, none⟩) 5 c)) rfl (by kernel_rfl) (fun _ _ _ h => h) (by rfl) (by assumption) ?hy3 ?_
    case hy3 => intro w9 hS9; obtain ⟨y0, y1, y2, y3, y4⟩ := hS9; go_simp; try with_reducible rfl
    try simp only [Act.put, sT9, sZ9, sS9]
    refine tkL9 (i := 3) (oi := ⟨some 57, _, _, _, _, _⟩) (v := (.pointer (some ⟨g, 0, none⟩))) rfl (by kernel_rfl) (fun _ _ _ h => h) (by rfl) (by assumption) ?hy4 ?_
    case hy4 => intro w9 hS9; obtain ⟨y0, y1, y2, y3, y4⟩ := hS9; go_simp; try with_reducible rfl
    try simp only [Act.put, sT9, sZ9, sS9]
    refine tkL9 (i := 4) (oi := ⟨some 58, _, _, _, _, _⟩) (v := (.int .i64 z0)) rfl (by kernel_rfl) (fun _ _ _ h => h) (by rfl) (by assumption) ?hy5 ?_
    case hy5 => intro w9 hS9; obtain ⟨y0, y1, y2, y3, y4⟩ := hS9; go_simp; try with_reducible rfl
    try simp only [Act.put, sT9, sZ9, sS9]
    refine tkL9 (i := 5) (oi := ⟨some 59, _, _, _, _, _⟩) (v := (.slice (some ⟨g, 0, none⟩) 5 c)) rfl (by kernel_rfl) (fun _ _ _ h => h) (by rfl) (by assumption) ?hy6 ?_
    case hy6 => intro w9 hS9; obtain ⟨y0, y1, y2, y3, y4⟩ := hS9; go_simp; try with_reducible rfl
    try simp only [Act.put, sT9, sZ9, sS9]
    refine tkL9 (i := 6) (oi := ⟨some 60, _, _, _, _, _⟩) (v := (.pointer (some ⟨g, 1, none⟩))) rfl (by kernel_rfl) (fun _ _ _ h => h) (by rfl) (by assumption) ?hy7 ?_
    case hy7 => intro w9 hS9; obtain ⟨y0, y1, y2, y3, y4⟩ := hS9; go_simp; try with_reducible rfl
    try simp only [Act.put, sT9, sZ9, sS9]
    refine tkL9 (i := 7) (oi := ⟨some 61, _, _, _, _, _⟩) (v := (.int .i64 z1)) rfl (by kernel_rfl) (fun _ _ _ h => h) (by rfl) (by assumption) ?hy8 ?_
    case hy8 => intro w9 hS9; obtain ⟨y0, y1, y2, y3, y4⟩ := hS9; go_simp; try with_reducible rfl
    try simp only [Act.put, sT9, sZ9, sS9]
    refine tkL9 (i := 8) (oi := ⟨some 62, _, _, _, _, _⟩) (v := (.slice (some ⟨g, 0, none⟩) 5 c)) rfl (by kernel_rfl) (fun _ _ _ h => h) (by rfl) (by assumption) ?hy9 ?_
    case hy9 => intro w9 hS9; obtain ⟨y0, y1, y2, y3, y4⟩ := hS9; go_simp; try with_reducible rfl
    try simp only [Act.put, sT9, sZ9, sS9]
    refine tkL9 (i := 9) (oi := ⟨some 63, _, _, _, _, _⟩) (v := (.pointer (some ⟨g, 2, none⟩))) rfl (by kernel_rfl) (fun _ _ _ h => h) (by rfl) (by assumption) ?hy10 ?_
    case hy10 => intro w9 hS9; obtain ⟨y0, y1, y2, y3, y4⟩ := hS9; go_simp; try with_reducible rfl
    try simp only [Act.put, sT9, sZ9, sS9]
    refine tkL9 (i := 10) (oi := ⟨some 64, _, _, _, _, _⟩) (v := (.int .i64 z2)) rfl (by kernel_rfl) (fun _ _ _ h => h) (by rfl) (by assumption) ?hy11 ?_
    case hy11 => intro w9 hS9; obtain ⟨y0, y1, y2, y3, y4⟩ := hS9; go_simp; try with_reducible rfl
    try simp only [Act.put, sT9, sZ9, sS9]
    refine tkL9 (i := 11) (oi := ⟨some 65, _, _, _, _, _⟩) (v := (.slice (some ⟨g, 0, none⟩) 5 c)) rfl (by kernel_rfl) (fun _ _ _ h => h) (by rfl) (by assumption) ?hy12 ?_
    case hy12 => intro w9 hS9; obtain ⟨y0, y1, y2, y3, y4⟩ := hS9; go_simp; try with_reducible rfl
    try simp only [Act.put, sT9, sZ9, sS9]
    refine tkL9 (i := 12) (oi := ⟨some 66, _, _, _, _, _⟩) (v := (.pointer (some ⟨g, 3, none⟩))) rfl (by kernel_rfl) (fun _ _ _ h => h) (by rfl) (by assumption) ?hy13 ?_
    case hy13 => intro w9 hS9; obtain ⟨y0, y1, y2, y3, y4⟩ := hS9; go_simp; try with_reducible rfl
    try simp only [Act.put, sT9, sZ9, sS9]
    refine tkL9 (i := 13) (oi := ⟨some 67, _, _, _, _, _⟩) (v := (.int .i64 z3)) rfl (by kernel_rfl) (fun _ _ _ h => h) (by rfl) (by assumption) ?hy14 ?_
    case hy14 => intro w9 hS9; obtain ⟨y0, y1, y2, y3, y4⟩ := hS9; go_simp; try with_reducible rfl
    try simp only [Act.put, sT9, sZ9, sS9]
    refine tkL9 (i := 14) (oi := ⟨some 68, _, _, _, _, _⟩) (v := (.slice (some ⟨g, 0, none⟩) 5 c)) rfl (by kernel_rfl) (fun _ _ _ h => h) (by rfl) (by assumption) ?hy15 ?_
    case hy15 => intro w9 hS9; obtain ⟨y0, y1, y2, y3, y4⟩ := hS9; go_simp; try with_reducible rfl
    try simp only [Act.put, sT9, sZ9, sS9]
    refine tkL9 (i := 15) (oi := ⟨some 69, _, _, _, _, _⟩) (v := (.pointer (some ⟨g, 4, none⟩))) rfl (by kernel_rfl) (fun _ _ _ h => h) (by rfl) (by assumption) ?hy16 ?_
    case hy16 => intro w9 hS9; obtain ⟨y0, y1, y2, y3, y4⟩ := hS9; go_simp; try with_reducible rfl
    try simp only [Act.put, sT9, sZ9, sS9]
    refine tkL9 (i := 16) (oi := ⟨some 70, _, _, _, _, _⟩) (v := (.int .i64 z4)) rfl (by kernel_rfl) (fun _ _ _ h => h) (by rfl) (by assumption) ?hy17 ?_
    case hy17 => intro w9 hS9; obtain ⟨y0, y1, y2, y3, y4⟩ := hS9; go_simp; try with_reducible rfl
    try simp only [Act.put, sT9, sZ9, sS9]
    refine tkL9 (i := 17) (oi := ⟨some 71, _, _, _, _, _⟩) (v := (.agg #[.string s, .string d, .int .i64 z0, .int .i64 z1, .int .i64 z2, .int .i64 z3, .int .i64 z4])) rfl (by kernel_rfl) (fun _ _ _ h => h) (by rfl) (by assumption) ?hy18 ?_
    case hy18 => intro w9 hS9; obtain ⟨y0, y1, y2, y3, y4⟩ := hS9; go_simp; try with_reducible rfl
    try simp only [Act.put, sT9, sZ9, sS9]
    refine tkL9 (i := 18) (oi := ⟨some 72, _, _, _, _, _⟩) (v := (.int .i64 (t : Int))) rfl (by kernel_rfl) (fun _ _ _ h => h) (by rfl) (by assumption) ?hy19 ?_
    case hy19 => intro w9 hS9; obtain ⟨y0, y1, y2, y3, y4⟩ := hS9; go_simp; try with_reducible rfl
    try simp only [Act.put, sT9, sZ9, sS9]
    refine tkL9 (i := 19) (oi := ⟨some 73, _, _, _, _, _⟩) (v := (.int .i64 ((t : Int) + 20))) rfl (by kernel_rfl) (fun _ _ _ h => h) (by rfl) (by assumption) ?hy20 ?_
    case hy20 => intro w9 hS9; go_simp; exact hwr.out
    try simp only [Act.put, sT9, sZ9, sS9]
    refine wpAnyH_ready (rs := [20]) (by kernel_rfl) (by simp) ?_
    refine AllReadyH.cons (o := ⟨none, _, _, _, _, _⟩) rfl (fun K hK => ?_) AllReadyH.nil
    go_simp
    refine hK.out _ _ ?sk (fun hx9 => ?_)
    case sk =>
     have hne : w.heap.size ≠ g := by omega
     exact ⟨(keep7 hne _ _ _ _ _ _ _ 0).trans k0, (keep7 hne _ _ _ _ _ _ _ 1).trans k1, (keep7 hne _ _ _ _ _ _ _ 2).trans k2, (keep7 hne _ _ _ _ _ _ _ 3).trans k3, (keep7 hne _ _ _ _ _ _ _ 4).trans k4⟩
    clear hK K hHeld
    have hHeld := hx9
    try simp only [Act.put, sT9, sZ9, sS9]
    refine tkL9 (i := 21) (oi := ⟨some 5, _, _, _, _, _⟩) (v := (.int .i64 ((t : Int) + 20))) rfl (by kernel_rfl) (fun _ _ _ h => h) (by rfl) (by assumption) ?hy21 ?_
    case hy21 => intro w9 hS9; go_simp; try with_reducible rfl
    try simp only [Act.put, sT9, sZ9, sS9]
    refine wpAnyH_done (by kernel_rfl) ?_ _
    clear hHeld hx9
    go_wp2
    refine bodyPost_ret (v := .tuple #[ndV ⟨s, d, z0, z1, z2, z3, z4⟩, .int .i64 ((t + 20 : Nat) : Int)]) (by simp [results, Tryz.results84, go_sem, ndV, x0, x1, x2, x3, x4, x5, x6]) rfl ⟨?_, .inr ⟨_, t + 20, HYES.out, by omega, h20, rfl⟩⟩
    exact (below7 HB.out _ _ _ _ _ _ _).trans ((below_drewN' _ 1).mono (below7 HB.out _ _ _ _ _ _ _).size)
def SX (w : World) (ys : List Int) (W : World) (v : Value) (es : List Ef) (p c : Nat) : Prop :=
 ParE (cntX ys) (ys.drop 6) es (ys.drop p) c ∧ SzE es ∧ Below w.heap.size w W ∧ Zx W w.heap.size ∧ B2 W (w.heap.size + 1) (zX ys) v ∧ OwnE 139 W (w.heap.size + 2) v es
theorem SX.later {w W W' : World} {ys : List Int} {v : Value} {es : List Ef} {p c : Nat} (h : SX w ys W v es p c) (hb : Below W.heap.size W W') : SX w ys W' v es p c := by
 obtain ⟨t1, t2, t3, t4, t5, t6⟩ := h
 exact ⟨t1, t2, t3.trans (hb.mono t3.size), t4.turn (grown_of hb none) (by simp), t5.turn (grown_of hb none) (by simp), t6.below hb⟩
theorem SX.push {w W W3 : World} {ys : List Int} {v v3 : Value} {es : List Ef} {p q c : Nat} {n : Ef} (h : SX w ys W v es p (c + 1)) (hb : Byt ys) (hr : rdE (ys.drop p) = some (n, ys.drop q)) (hg : W.grownBy W3 v.ownBlock) (ho : W3.ownsRow (w.heap.size + 2) 139 8 v3 (es.length + 1) (erow es ++ efL n)) :
    SX w ys (W3.setCell ⟨w.heap.size + 1, 1, none⟩ v3) v3 (es ++ [n]) q c := by
 obtain ⟨t1, t2, t3, t4, t5, t6⟩ := h
 have hne : ∀ k, k < w.heap.size + 2 → some k ≠ v.ownBlock := fun k hk e => by have := (World.ownsRow.lt t6 k e.symm).1; omega
 have hlo : ∀ g, v.ownBlock = some g → w.heap.size ≤ g := fun g e => by have := (World.ownsRow.lt t6 g e).1; omega
 have b6 := t5.turn hg (hne _ (by omega))
 have hby := byt_drop hb p
 have hsz := rdE_byt hr hby
 refine ⟨t1.step hby hr, t2.snoc hsz.2.2.1 hsz.2.2.2, (t3.grown hg t3.size hlo).setCell (p := ⟨w.heap.size + 1, 1, none⟩) (Nat.le_succ _) _, (t4.turn hg (hne _ (by omega))).set (by omega) _ _, ⟨by simpa using b6.1, (World.cell?_setCell_other _ _ _ _ (by intro e; injection e with _ e; omega)).trans b6.2.1, World.cell?_setCell_same _ _ _ b6.2.2.1, fun j => by rw [World.frozen?_setCell]; exact b6.2.2.2 j⟩, ?_⟩
 have : OwnE 139 W3 (w.heap.size + 2) v3 (es ++ [n]) := by unfold OwnE; rw [erow_one, List.length_append]; exact ho
 exact OwnE.setBelow this (by show w.heap.size + 1 < w.heap.size + 2; omega) _
structure EW (W : World) (B : Nat) (e : Ef) : Prop where
 lt : B < W.heap.size
 c0 : W.cell? ⟨B, 0, none⟩ = some (.bool e.del)
 c1 : W.cell? ⟨B, 1, none⟩ = some (.string e.nd.path)
 c2 : W.cell? ⟨B, 2, none⟩ = some (.string e.nd.data)
 c3 : W.cell? ⟨B, 3, none⟩ = some (.int .i64 e.nd.ver)
 c4 : W.cell? ⟨B, 4, none⟩ = some (.int .i64 e.nd.cver)
 c5 : W.cell? ⟨B, 5, none⟩ = some (.int .i64 e.nd.cz)
 c6 : W.cell? ⟨B, 6, none⟩ = some (.int .i64 e.nd.mz)
 c7 : W.cell? ⟨B, 7, none⟩ = some (.int .i64 e.nd.pz)
 fz : ∀ j, W.frozen? ⟨B, j, none⟩ = false
theorem EW.new (w : World) (e : Ef) (t : TypeId) : EW (w.alloc (.cells #[.bool e.del, .string e.nd.path, .string e.nd.data, .int .i64 e.nd.ver, .int .i64 e.nd.cver, .int .i64 e.nd.cz, .int .i64 e.nd.mz, .int .i64 e.nd.pz] t)) w.heap.size e :=
 ⟨by simp, by simp, by simp, by simp, by simp, by simp, by simp, by simp, by simp, fun j => (by go_simp)⟩
theorem EW.later {W W' : World} {B : Nat} {e : Ef} (h : EW W B e) (hb : Below W.heap.size W W') : EW W' B e :=
 ⟨Nat.lt_of_lt_of_le h.lt hb.size, (hb.cell (p := ⟨B, _, none⟩) h.lt).trans h.c0, (hb.cell (p := ⟨B, _, none⟩) h.lt).trans h.c1, (hb.cell (p := ⟨B, _, none⟩) h.lt).trans h.c2, (hb.cell (p := ⟨B, _, none⟩) h.lt).trans h.c3, (hb.cell (p := ⟨B, _, none⟩) h.lt).trans h.c4, (hb.cell (p := ⟨B, _, none⟩) h.lt).trans h.c5, (hb.cell (p := ⟨B, _, none⟩) h.lt).trans h.c6, (hb.cell (p := ⟨B, _, none⟩) h.lt).trans h.c7, fun j => (hb.frozen (p := ⟨B, j, none⟩) h.lt).trans (h.fz j)⟩
theorem setB_same {W : World} {B i : Nat} {u x : Value} (h : W.cell? ⟨B, i, none⟩ = some x) : (W.setCell ⟨B, i, none⟩ u).cell? ⟨B, i, none⟩ = some u := World.cell?_setCell_same _ _ _ h
theorem setB_other {W : World} {B i j : Nat} {u x : Value} (h : W.cell? ⟨B, j, none⟩ = some x) (hij : i ≠ j) : (W.setCell ⟨B, i, none⟩ u).cell? ⟨B, j, none⟩ = some x := (World.cell?_setCell_other _ _ _ _ (by intro e; injection e with _ e; omega)).trans h
theorem EW.putN {W : World} {B : Nat} {e : Ef} (h : EW W B e) (n : Nd) : EW (((((((W.setCell ⟨B, 1, none⟩ (.string n.path)).setCell ⟨B, 2, none⟩ (.string n.data)).setCell ⟨B, 3, none⟩ (.int .i64 n.ver)).setCell ⟨B, 4, none⟩ (.int .i64 n.cver)).setCell ⟨B, 5, none⟩ (.int .i64 n.cz)).setCell ⟨B, 6, none⟩ (.int .i64 n.mz)).setCell ⟨B, 7, none⟩ (.int .i64 n.pz)) B ⟨e.del, n⟩ := by
 refine ⟨by simpa using h.lt, ?_, ?_, ?_, ?_, ?_, ?_, ?_, ?_, fun j => by simp only [World.frozen?_setCell]; exact h.fz j⟩
 · exact (setB_other (setB_other (setB_other (setB_other (setB_other (setB_other (setB_other h.c0 (by omega)) (by omega)) (by omega)) (by omega)) (by omega)) (by omega)) (by omega))
 · exact (setB_other (setB_other (setB_other (setB_other (setB_other (setB_other (setB_same h.c1) (by omega)) (by omega)) (by omega)) (by omega)) (by omega)) (by omega))
 · exact (setB_other (setB_other (setB_other (setB_other (setB_other (setB_same (setB_other h.c2 (by omega))) (by omega)) (by omega)) (by omega)) (by omega)) (by omega))
 · exact (setB_other (setB_other (setB_other (setB_other (setB_same (setB_other (setB_other h.c3 (by omega)) (by omega))) (by omega)) (by omega)) (by omega)) (by omega))
 · exact (setB_other (setB_other (setB_other (setB_same (setB_other (setB_other (setB_other h.c4 (by omega)) (by omega)) (by omega))) (by omega)) (by omega)) (by omega))
 · exact (setB_other (setB_other (setB_same (setB_other (setB_other (setB_other (setB_other h.c5 (by omega)) (by omega)) (by omega)) (by omega))) (by omega)) (by omega))
 · exact (setB_other (setB_same (setB_other (setB_other (setB_other (setB_other (setB_other h.c6 (by omega)) (by omega)) (by omega)) (by omega)) (by omega))) (by omega))
 · exact (setB_same (setB_other (setB_other (setB_other (setB_other (setB_other (setB_other h.c7 (by omega)) (by omega)) (by omega)) (by omega)) (by omega)) (by omega)))
theorem EW.putD {W : World} {B : Nat} {e : Ef} (h : EW W B e) (s : ByteArray) : EW ((((((((W.setCell ⟨B, 0, none⟩ (.bool true)).setCell ⟨B, 1, none⟩ (.string s)).setCell ⟨B, 2, none⟩ (.string ⟨#[]⟩)).setCell ⟨B, 3, none⟩ (.int .i64 0)).setCell ⟨B, 4, none⟩ (.int .i64 0)).setCell ⟨B, 5, none⟩ (.int .i64 0)).setCell ⟨B, 6, none⟩ (.int .i64 0)).setCell ⟨B, 7, none⟩ (.int .i64 0)) B ⟨true, ndP s⟩ := by
 refine ⟨by simpa using h.lt, ?_, ?_, ?_, ?_, ?_, ?_, ?_, ?_, fun j => by simp only [World.frozen?_setCell]; exact h.fz j⟩
 · exact (setB_other (setB_other (setB_other (setB_other (setB_other (setB_other (setB_other (setB_same h.c0) (by omega)) (by omega)) (by omega)) (by omega)) (by omega)) (by omega)) (by omega))
 · exact (setB_other (setB_other (setB_other (setB_other (setB_other (setB_other (setB_same (setB_other h.c1 (by omega))) (by omega)) (by omega)) (by omega)) (by omega)) (by omega)) (by omega))
 · exact (setB_other (setB_other (setB_other (setB_other (setB_other (setB_same (setB_other (setB_other h.c2 (by omega)) (by omega))) (by omega)) (by omega)) (by omega)) (by omega)) (by omega))
 · exact (setB_other (setB_other (setB_other (setB_other (setB_same (setB_other (setB_other (setB_other h.c3 (by omega)) (by omega)) (by omega))) (by omega)) (by omega)) (by omega)) (by omega))
 · exact (setB_other (setB_other (setB_other (setB_same (setB_other (setB_other (setB_other (setB_other h.c4 (by omega)) (by omega)) (by omega)) (by omega))) (by omega)) (by omega)) (by omega))
 · exact (setB_other (setB_other (setB_same (setB_other (setB_other (setB_other (setB_other (setB_other h.c5 (by omega)) (by omega)) (by omega)) (by omega)) (by omega))) (by omega)) (by omega))
 · exact (setB_other (setB_same (setB_other (setB_other (setB_other (setB_other (setB_other (setB_other h.c6 (by omega)) (by omega)) (by omega)) (by omega)) (by omega)) (by omega))) (by omega))
 · exact (setB_same (setB_other (setB_other (setB_other (setB_other (setB_other (setB_other (setB_other h.c7 (by omega)) (by omega)) (by omega)) (by omega)) (by omega)) (by omega)) (by omega)))
theorem zx3 {W : World} {k : Nat} (h : Zx W k) (ob : Obj) : ((((W.setCell ⟨k, 0, none⟩ (.bool false)).setCell ⟨k, 1, none⟩ (.int .i64 0)).setCell ⟨k, 2, none⟩ (.slice none 0 0)).alloc ob).cell? ⟨k, 0, none⟩ = some (.bool false) ∧ ((((W.setCell ⟨k, 0, none⟩ (.bool false)).setCell ⟨k, 1, none⟩ (.int .i64 0)).setCell ⟨k, 2, none⟩ (.slice none 0 0)).alloc ob).cell? ⟨k, 1, none⟩ = some (.int .i64 0) ∧ ((((W.setCell ⟨k, 0, none⟩ (.bool false)).setCell ⟨k, 1, none⟩ (.int .i64 0)).setCell ⟨k, 2, none⟩ (.slice none 0 0)).alloc ob).cell? ⟨k, 2, none⟩ = some (.slice none 0 0) := by
 have E : ∀ j : Nat, ((((W.setCell ⟨k, 0, none⟩ (.bool false)).setCell ⟨k, 1, none⟩ (.int .i64 0)).setCell ⟨k, 2, none⟩ (.slice none 0 0)).alloc ob).cell? ⟨k, j, none⟩ = (((W.setCell ⟨k, 0, none⟩ (.bool false)).setCell ⟨k, 1, none⟩ (.int .i64 0)).setCell ⟨k, 2, none⟩ (.slice none 0 0)).cell? ⟨k, j, none⟩ := fun j => ((Below.refl _ _).alloc (Nat.le_refl _) ob).cell (p := ⟨k, j, none⟩) (by simpa using h.1)
 refine ⟨(E 0).trans ?_, (E 1).trans ?_, (E 2).trans ?_⟩
 · exact setB_other (setB_other (setB_same h.2.1) (by omega)) (by omega)
 · exact setB_other (setB_same (setB_other h.2.2.1 (by omega))) (by omega)
 · exact setB_same (setB_other (setB_other h.2.2.2.1 (by omega)) (by omega))
theorem specDecX_any (w : World) (v : Value) (ys : List Int) (h : Rd .u8 w v ys) (hby : Byt ys) (hl : ys.length ≤ 1048576) :
    Calls Tryz.prog 31 #[v] w fun e w' => DxPost w ys e w' := by
 obtain ⟨i0, hi, hz0, hz1, hz2⟩ := info_parts Tryz.infoE
 obtain ⟨ao, cap, rfl, hcc, hcm⟩ := h.len
 have HR : Hid (Rd .u8 w (.slice ao ys.length cap) ys) := h
 have HBY : Hid (Byt ys) := hby
 have B0 : Hid (Below w.heap.size w (w.alloc (.cells #[.bool false, .int .i64 0, .slice none 0 0] 80))) := (Below.refl _ _).alloc (Nat.le_refl _) _
 have Z0 : Hid (Zx (w.alloc (.cells #[.bool false, .int .i64 0, .slice none 0 0] 80)) w.heap.size) := ⟨by simp, (by go_simp), (by go_simp), (by go_simp), fun j => (by go_simp)⟩
 clear h hby
 go_enter Tryz.func31, Tryz.ntmps31
 by_cases h6 : ys.length < 6
 · have h6I : (ys.length : Int) < 6 := by omega
   have HF : Hid (DxPost w ys (.returned (.agg #[.bool false, .int .i64 0, .slice none 0 0])) (w.alloc (.cells #[.bool false, .int .i64 0, .slice none 0 0] 80))) := ⟨B0.out, .inl ⟨decX_short h6, rfl⟩⟩
   go_wp2
   refine bodyPost_ret (v := .agg #[.bool false, .int .i64 0, .slice none 0 0]) (by simp [results, Tryz.results31, go_sem]) rfl HF.out
 have h6I : ¬ (ys.length : Int) < 6 := by omega
 obtain ⟨b, o, hao, hb, hc⟩ : ∃ b o, ao = some ⟨b, o, none⟩ ∧ b < w.heap.size ∧ ∀ i, i < ys.length → w.cell? ⟨b, o + i, none⟩ = some (.int .u8 (ys.getD i 0)) := by
  obtain ⟨ao', cap', e', -, -, h3⟩ := HR.out
  simp only [Value.slice.injEq] at e'
  obtain ⟨rfl, -, -⟩ := e'
  rcases h3 with h3 | ⟨b, o, rfl, hb, hc⟩
  · rw [h3] at h6; simp at h6
  · exact ⟨b, o, rfl, hb, hc⟩
 subst hao
 have HC : Hid (∀ i, i < ys.length → w.cell? ⟨b, o + i, none⟩ = some (.int .u8 (ys.getD i 0))) := hc
 clear hc
 have hc4 : 4 ≤ cap := by omega
 go_wp2_with fail
 have hs0 : (w.alloc (.cells #[.bool false, .int .i64 0, .slice none 0 0] 80)).heap.size = w.heap.size + 1 := by simp
 generalize w.alloc (.cells #[.bool false, .int .i64 0, .slice none 0 0] 80) = W0 at *
 have HN1 : Hid (∀ i, i < 4 → W0.cell? ⟨b, o + i, none⟩ = some (.int .u8 ((ys.take 4).getD i 0))) := by
  intro i hi
  rw [B0.out.cell (p := ⟨b, o + i, none⟩) hb, HC.out i (by omega)]
  simp [List.getD, List.getElem?_take_of_lt hi]
 refine (specNum_any W0 b o 4 _ (ys.take 4) ?n1 ?n2 HN1.out ?n4 (by omega)).mono ?_
 case n1 => rw [List.length_take]; omega
 case n2 => exact fun x hx => HBY.out x (List.mem_of_mem_take hx)
 case n4 => exact num_small (fun x hx => HBY.out x (List.mem_of_mem_take hx)) (by rw [List.length_take]; omega)
 rintro e w1 ⟨rfl, q1, hw1⟩
 have D1 : Hid (Below W0.heap.size W0 w1) := by rw [hw1]; exact below_drewN' W0 q1
 have hs1 : w1.heap.size = W0.heap.size := by rw [hw1]; rfl
 clear hw1 HN1
 rw [show numB (ys.take 4) = zX ys from rfl]
 have Z1 := hd9 (Z0.out.turn (grown_of D1.out none) (by simp))
 have B1' := hd9 (B0.out.trans (D1.out.mono B0.out.size))
 clear D1 Z0
 go_wp2_with fail
 have ba : Below w1.heap.size w1 (w1.alloc (.cells #[.int .i64 (zX ys : Int), .slice none 0 0] 78)) := (Below.refl _ _).alloc (Nat.le_refl _) _
 have X2 : Hid (B2 (w1.alloc (.cells #[.int .i64 (zX ys : Int), .slice none 0 0] 78)) (w.heap.size + 1) (zX ys) (.slice none 0 0)) := by
  rw [← hs0, ← hs1]
  exact ⟨by simp, (by go_simp), (by go_simp), fun j => (by go_simp)⟩
 have Z2 := hd9 (Z1.out.turn (grown_of ba none) (by simp))
 have B2' := hd9 (B1'.out.trans (ba.mono B1'.out.size))
 clear ba Z1 B1' hs0 hs1
 generalize w1.alloc (.cells #[.int .i64 (zX ys : Int), .slice none 0 0] 78) = w2 at *
 have HN2 : Hid (∀ i, i < 2 → w2.cell? ⟨b, o + 4 + i, none⟩ = some (.int .u8 (((ys.drop 4).take 2).getD i 0))) := by
  intro i hi
  rw [B2'.out.cell (p := ⟨b, o + 4 + i, none⟩) hb, Nat.add_assoc, HC.out (4 + i) (by omega)]
  simp [List.getD, List.getElem?_take_of_lt hi]
 refine (specNum_any w2 b (o + 4) 2 _ ((ys.drop 4).take 2) ?m1 ?m2 HN2.out ?m4 (by omega)).mono ?_
 case m1 => rw [List.length_take, List.length_drop]; omega
 case m2 => exact fun x hx => HBY.out x (List.mem_of_mem_drop (List.mem_of_mem_take hx))
 case m4 => exact num_small (fun x hx => HBY.out x (List.mem_of_mem_drop (List.mem_of_mem_take hx))) (by rw [List.length_take]; omega)
 rintro e w3 ⟨rfl, q3, hw3⟩
 have D3 : Below w2.heap.size w2 w3 := by rw [hw3]; exact below_drewN' w2 q3
 have S3 : Hid (SX w ys w3 (.slice none 0 0) [] 6 (cntX ys - 0)) := ⟨ParE.start _ _, (fun n hn => by cases hn), B2'.out.trans (D3.mono B2'.out.size), Z2.out.turn (grown_of D3 none) (by simp), X2.out.turn (grown_of D3 none) (by simp), World.ownsRow_nil _ _ _ _⟩
 have hC := (wrap2 (byt_drop HBY.out 4)).2
 rw [show numB ((ys.drop 4).take 2) = cntX ys from rfl] at *
 clear hw3 D3 HN2 X2 Z2 B2'
 generalize hCC : cntX ys = C at *
 have HCC : Hid (cntX ys = C) := hCC
 clear hCC
 go_wp2
 go_loopw [5, 6] (fun va vi wr => ∃ (i p : Nat) (v : Value) (es : List Ef), i ≤ C ∧ p ≤ ys.length ∧ va = .int .i64 p ∧ vi = .int .i64 i ∧ Hid (SX w ys wr v es p (C - i))) (fun _ i _ => C - (intOf i).toNat)
 case atStart => exact ⟨0, 6, _, _, Nat.zero_le _, by omega, rfl, rfl, S3⟩
 case round =>
  clear S3
  obtain ⟨i, p, v, es, hiC, hp, rfl, rfl, D⟩ := hrel
  obtain ⟨va, vc, hva⟩ := D.out.2.2.2.2.2.slice
  subst hva
  have hns : es.length ≤ 1048576 := by have := D.out.1.2; simp only [List.length_drop] at this; omega
  by_cases hlt : i < C
  · have hltI : (i : Int) < (C : Int) := by omega
    obtain ⟨c, hc⟩ : ∃ c, C - i = c + 1 := ⟨C - i - 1, by omega⟩
    rw [hc] at D
    have HC2 : Hid (C - (i + 1) = c) := by show _ = _; omega
    clear hc
    have HNO : Hid (rdE (ys.drop p) = none → decX ys = none) := fun hr => decX_bad (by rw [HCC.out]; exact (HCC.out ▸ D.out.1).bad hr)
    by_cases hpN : p < ys.length
    rotate_left
    · have hpI : (ys.length : Int) ≤ (p : Int) := by omega
      have HDX : Hid (decX ys = none) := HNO.out (by rw [List.drop_eq_nil_of_le (by omega)]; rfl)
      obtain ⟨-, z0, z1, z2, zf⟩ := D.out.2.2.2.1
      have f0 := zf 0
      have f1 := zf 1
      have f2 := zf 2
      have HF : Hid (DxPost w ys (.returned (.agg #[.bool false, .int .i64 0, .slice none 0 0])) (((wr.setCell ⟨w.heap.size, 0, none⟩ (.bool false)).setCell ⟨w.heap.size, 1, none⟩ (.int .i64 0)).setCell ⟨w.heap.size, 2, none⟩ (.slice none 0 0))) := ⟨((D.out.2.2.1.setCell (p := ⟨w.heap.size, 0, none⟩) (Nat.le_refl _) _).setCell (p := ⟨w.heap.size, 1, none⟩) (Nat.le_refl _) _).setCell (p := ⟨w.heap.size, 2, none⟩) (Nat.le_refl _) _, .inl ⟨HDX.out, rfl⟩⟩
      clear zf
      go_wp2
      refine bodyPost_ret (v := .agg #[.bool false, .int .i64 0, .slice none 0 0]) (by simp [results, Tryz.results31, go_sem, z0, z1, z2]) rfl HF.out
    have hpI : (p : Int) < (ys.length : Int) := by omega
    obtain ⟨y, hy, hye⟩ := byt_at HBY.out p
    have HD : Hid (ys.drop p = (y : Int) :: ys.drop (p + 1)) := by
     show _ = _
     rw [List.drop_eq_getElem_cons hpN]
     simp only [List.getD, List.getElem?_eq_getElem hpN, Option.getD_some] at hye
     rw [hye]
    have HCP : Hid (∀ W, Below w.heap.size w W → W.cell? ⟨b, o + p, none⟩ = some (.int .u8 (y : Int))) := fun W hW => by rw [hW.cell (p := ⟨b, o + p, none⟩) hb, HC.out p hpN, hye]
    clear hye
    have D2 : Hid (SX w ys (wr.alloc (.cells #[.bool false, .string ⟨#[]⟩, .string ⟨#[]⟩, .int .i64 0, .int .i64 0, .int .i64 0, .int .i64 0, .int .i64 0] 139)) (.slice va es.length vc) es p (c + 1)) := D.out.later ((Below.refl _ _).alloc (Nat.le_refl _) _)
    have E2 : Hid (EW (wr.alloc (.cells #[.bool false, .string ⟨#[]⟩, .string ⟨#[]⟩, .int .i64 0, .int .i64 0, .int .i64 0, .int .i64 0, .int .i64 0] 139)) wr.heap.size ef0) := EW.new wr ef0 _
    have cp := HCP.out _ D2.out.2.2.1
    have BA : Hid (Below wr.heap.size wr (wr.alloc (.cells #[.bool false, .string ⟨#[]⟩, .string ⟨#[]⟩, .int .i64 0, .int .i64 0, .int .i64 0, .int .i64 0, .int .i64 0] 139))) := (Below.refl _ _).alloc (Nat.le_refl _) _
    by_cases h1 : y = 1
    · subst h1
      go_wp2_with fail
      rename_i K3 a3 hx K2 a2 K1 a1 K0 a0
      have HK2 : Hid _ := a2
      clear a2 cp
      generalize wr.alloc (.cells #[.bool false, .string ⟨#[]⟩, .string ⟨#[]⟩, .int .i64 0, .int .i64 0, .int .i64 0, .int .i64 0, .int .i64 0] 139) = wA at *
      have hm := rN_any wA _ ys (p + 1) (HR.out.below D2.out.2.2.1) HBY.out hl
      rw [show ((p + 1 : Nat) : Int) = (p : Int) + 1 by omega] at hm
      refine hm.mono ?_
      clear hm
      rintro e w1 ⟨b1, hpp⟩
      have E3 := hd9 (E2.out.later b1)
      have BW := hd9 (BA.out.trans (b1.mono BA.out.size))
      have sw := BW.out.size
      clear b1 E2 D2 BA
      have key : ∀ n : Nd, Hid (EW ((((((((w1.setCell ⟨wr.heap.size, 1, none⟩ (.string n.path)).setCell ⟨wr.heap.size, 2, none⟩ (.string n.data)).setCell ⟨wr.heap.size, 3, none⟩ (.int .i64 n.ver)).setCell ⟨wr.heap.size, 4, none⟩ (.int .i64 n.cver)).setCell ⟨wr.heap.size, 5, none⟩ (.int .i64 n.cz)).setCell ⟨wr.heap.size, 6, none⟩ (.int .i64 n.mz)).setCell ⟨wr.heap.size, 7, none⟩ (.int .i64 n.pz)).alloc (.cells #[.string n.path, .string n.data, .int .i64 n.ver, .int .i64 n.cver, .int .i64 n.cz, .int .i64 n.mz, .int .i64 n.pz] 85)) wr.heap.size ⟨false, n⟩) ∧ Hid (SX w ys ((((((((w1.setCell ⟨wr.heap.size, 1, none⟩ (.string n.path)).setCell ⟨wr.heap.size, 2, none⟩ (.string n.data)).setCell ⟨wr.heap.size, 3, none⟩ (.int .i64 n.ver)).setCell ⟨wr.heap.size, 4, none⟩ (.int .i64 n.cver)).setCell ⟨wr.heap.size, 5, none⟩ (.int .i64 n.cz)).setCell ⟨wr.heap.size, 6, none⟩ (.int .i64 n.mz)).setCell ⟨wr.heap.size, 7, none⟩ (.int .i64 n.pz)).alloc (.cells #[.string n.path, .string n.data, .int .i64 n.ver, .int .i64 n.cver, .int .i64 n.cz, .int .i64 n.mz, .int .i64 n.pz] 85)) (.slice va es.length vc) es p (c + 1)) := by
       intro n
       refine ⟨(E3.out.putN n).later ((Below.refl _ _).alloc (Nat.le_refl _) _), D.out.later (Below.alloc ?_ (by simp; omega) _)⟩
       exact (((((((BW.out.setCell (p := ⟨wr.heap.size, 1, none⟩) (Nat.le_refl _) _).setCell (p := ⟨wr.heap.size, 2, none⟩) (Nat.le_refl _) _).setCell (p := ⟨wr.heap.size, 3, none⟩) (Nat.le_refl _) _).setCell (p := ⟨wr.heap.size, 4, none⟩) (Nat.le_refl _) _).setCell (p := ⟨wr.heap.size, 5, none⟩) (Nat.le_refl _) _).setCell (p := ⟨wr.heap.size, 6, none⟩) (Nat.le_refl _) _).setCell (p := ⟨wr.heap.size, 7, none⟩) (Nat.le_refl _) _)
      have HKEY : Hid (∀ n : Nd, Hid (EW ((((((((w1.setCell ⟨wr.heap.size, 1, none⟩ (.string n.path)).setCell ⟨wr.heap.size, 2, none⟩ (.string n.data)).setCell ⟨wr.heap.size, 3, none⟩ (.int .i64 n.ver)).setCell ⟨wr.heap.size, 4, none⟩ (.int .i64 n.cver)).setCell ⟨wr.heap.size, 5, none⟩ (.int .i64 n.cz)).setCell ⟨wr.heap.size, 6, none⟩ (.int .i64 n.mz)).setCell ⟨wr.heap.size, 7, none⟩ (.int .i64 n.pz)).alloc (.cells #[.string n.path, .string n.data, .int .i64 n.ver, .int .i64 n.cver, .int .i64 n.cz, .int .i64 n.mz, .int .i64 n.pz] 85)) wr.heap.size ⟨false, n⟩) ∧ Hid (SX w ys ((((((((w1.setCell ⟨wr.heap.size, 1, none⟩ (.string n.path)).setCell ⟨wr.heap.size, 2, none⟩ (.string n.data)).setCell ⟨wr.heap.size, 3, none⟩ (.int .i64 n.ver)).setCell ⟨wr.heap.size, 4, none⟩ (.int .i64 n.cver)).setCell ⟨wr.heap.size, 5, none⟩ (.int .i64 n.cz)).setCell ⟨wr.heap.size, 6, none⟩ (.int .i64 n.mz)).setCell ⟨wr.heap.size, 7, none⟩ (.int .i64 n.pz)).alloc (.cells #[.string n.path, .string n.data, .int .i64 n.ver, .int .i64 n.cver, .int .i64 n.cz, .int .i64 n.mz, .int .i64 n.pz] 85)) (.slice va es.length vc) es p (c + 1))) := key
      clear key
      obtain ⟨el, e0, e1, e2, e3, e4, e5, e6, e7, ef⟩ := E3.out
      rcases hpp with ⟨hr, rfl⟩ | ⟨n, q, hr, hpq, hq, rfl⟩
      · have HDX : Hid (decX ys = none) := HNO.out (by rw [HD.out]; simp [rdE, hr])
        obtain ⟨E5, D5⟩ := HKEY.out nd0
        clear hr HKEY
        unfold ndV
        go_wp2
        refine HK2.out _ _ ?_
        clear el e0 e1 e2 e3 e4 e5 e6 e7 ef HK2 BW sw E3
        generalize (((((((w1.setCell ⟨wr.heap.size, 1, none⟩ (.string nd0.path)).setCell ⟨wr.heap.size, 2, none⟩ (.string nd0.data)).setCell ⟨wr.heap.size, 3, none⟩ (.int .i64 nd0.ver)).setCell ⟨wr.heap.size, 4, none⟩ (.int .i64 nd0.cver)).setCell ⟨wr.heap.size, 5, none⟩ (.int .i64 nd0.cz)).setCell ⟨wr.heap.size, 6, none⟩ (.int .i64 nd0.mz)).setCell ⟨wr.heap.size, 7, none⟩ (.int .i64 nd0.pz)).alloc (.cells #[.string nd0.path, .string nd0.data, .int .i64 nd0.ver, .int .i64 nd0.cver, .int .i64 nd0.cz, .int .i64 nd0.mz, .int .i64 nd0.pz] 85) = w5 at *
        have cp := HCP.out w5 D5.out.2.2.1
        obtain ⟨-, z0, z1, z2, zf⟩ := D5.out.2.2.2.1
        have f0 := zf 0
        have f1 := zf 1
        have f2 := zf 2
        have HF : Hid (DxPost w ys (.returned (.agg #[.bool false, .int .i64 0, .slice none 0 0])) (((w5.setCell ⟨w.heap.size, 0, none⟩ (.bool false)).setCell ⟨w.heap.size, 1, none⟩ (.int .i64 0)).setCell ⟨w.heap.size, 2, none⟩ (.slice none 0 0))) := ⟨((D5.out.2.2.1.setCell (p := ⟨w.heap.size, 0, none⟩) (Nat.le_refl _) _).setCell (p := ⟨w.heap.size, 1, none⟩) (Nat.le_refl _) _).setCell (p := ⟨w.heap.size, 2, none⟩) (Nat.le_refl _) _, .inl ⟨HDX.out, rfl⟩⟩
        clear zf
        go_wp2
        refine bodyPost_ret (v := .agg #[.bool false, .int .i64 0, .slice none 0 0]) (by simp [results, Tryz.results31, go_sem, z0, z1, z2]) rfl HF.out
      · have HRD : Hid (rdE (ys.drop p) = some (⟨false, n⟩, ys.drop q)) := by show _ = _; rw [HD.out]; simp [rdE, hr]
        obtain ⟨E5, D5⟩ := HKEY.out n
        clear hr HKEY
        unfold ndV
        go_wp2
        refine HK2.out _ _ ?_
        clear el e0 e1 e2 e3 e4 e5 e6 e7 ef HK2 BW sw E3
        generalize (((((((w1.setCell ⟨wr.heap.size, 1, none⟩ (.string n.path)).setCell ⟨wr.heap.size, 2, none⟩ (.string n.data)).setCell ⟨wr.heap.size, 3, none⟩ (.int .i64 n.ver)).setCell ⟨wr.heap.size, 4, none⟩ (.int .i64 n.cver)).setCell ⟨wr.heap.size, 5, none⟩ (.int .i64 n.cz)).setCell ⟨wr.heap.size, 6, none⟩ (.int .i64 n.mz)).setCell ⟨wr.heap.size, 7, none⟩ (.int .i64 n.pz)).alloc (.cells #[.string n.path, .string n.data, .int .i64 n.ver, .int .i64 n.cver, .int .i64 n.cz, .int .i64 n.mz, .int .i64 n.pz] 85) = w5 at *
        have cp := HCP.out w5 D5.out.2.2.1
        obtain ⟨n8, hn8⟩ : ∃ n8 : Ef, n8 = ⟨false, n⟩ := ⟨_, rfl⟩
        rw [← hn8] at E5 HRD
        clear hn8
        have D6 : Hid (SX w ys (w5.alloc (.cells #[.bool n8.del, .string n8.nd.path, .string n8.nd.data, .int .i64 n8.nd.ver, .int .i64 n8.nd.cver, .int .i64 n8.nd.cz, .int .i64 n8.nd.mz, .int .i64 n8.nd.pz] 139)) (.slice va es.length vc) es p (c + 1)) := D5.out.later ((Below.refl _ _).alloc (Nat.le_refl _) _)
        have N6 : Hid (∀ j u, (efL n8)[j]? = some u → (w5.alloc (.cells #[.bool n8.del, .string n8.nd.path, .string n8.nd.data, .int .i64 n8.nd.ver, .int .i64 n8.nd.cver, .int .i64 n8.nd.cz, .int .i64 n8.nd.mz, .int .i64 n8.nd.pz] 139)).cell? ((⟨w5.heap.size, 0, none⟩ : Addr).add j) = some u) := efL_cells _ _ _
        obtain ⟨el, e0, e1, e2, e3, e4, e5, e6, e7, -⟩ := E5.out
        obtain ⟨-, b0, b1, bf⟩ := D5.out.2.2.2.2.1
        have hqI : ¬ (q : Int) < 0 := by omega
        have s6 := D6.out.2.2.1.size
        have s52 := D5.out.2.2.2.2.1.1
        go_wp2_with (at_builtin; go_must (refine wpList_append_own _ rfl _ _ 76 rfl (w.heap.size + 2) 139 i0 (.agg #[.bool false, .string ByteArray.empty, .string ByteArray.empty, .int .i64 0, .int .i64 0, .int .i64 0, .int .i64 0, .int .i64 0]) 8 80 Tryz.underlying76 hi hz0 hz1 hz2 rfl (by decide) _ _ _ rfl D6.out.2.2.2.2.2 ⟨w5.heap.size, 0, none⟩ 1 1 (efL n8) rfl rfl N6.out (efL_one n8) ?_ ?_ ?_ ?_))
        · unfold maxLen; omega
        · omega
        · first | omega | (simp; omega)
        intro v7 w7 ho7 hg7 _
        have D7 : Hid (SX w ys (w7.setCell ⟨w.heap.size + 1, 1, none⟩ v7) v7 (es ++ [n8]) q c) := D6.out.push HBY.out HRD.out hg7 ho7
        obtain ⟨a7, q7, hv7⟩ := D7.out.2.2.2.2.2.slice
        rw [show (es ++ [n8]).length = es.length + 1 by simp] at hv7
        subst hv7
        obtain ⟨-, -, c7, ff⟩ := D6.out.2.2.2.2.1.turn hg7 (fun e => by have := (World.ownsRow.lt D6.out.2.2.2.2.2 _ e.symm).1; omega)
        have f7 := ff 1
        clear ho7 hg7 ff e0 e1 e2 e3 e4 e5 e6 e7 b0 b1 bf D5 D6 E5 N6 HRD el
        go_wp2
        exact ⟨⟨i + 1, q, _, _, by omega, hq, rfl, by go_num, (by rw [HC2.out]; exact D7)⟩, by simp [intOf]; omega⟩
    · have h1b : ((y : Int) == 1) = false := beq_eq_false_iff_ne.2 (by omega)
      by_cases h2 : y = 2
      · subst h2
        go_wp2_with fail
        rename_i K3 a3 hx K2 a2 K1 a1 K0 a0
        have HK2 : Hid _ := a2
        clear a2 cp
        generalize wr.alloc (.cells #[.bool false, .string ⟨#[]⟩, .string ⟨#[]⟩, .int .i64 0, .int .i64 0, .int .i64 0, .int .i64 0, .int .i64 0] 139) = wA at *
        have hm := rT_any wA _ ys (p + 1) (HR.out.below D2.out.2.2.1) HBY.out hl
        rw [show ((p + 1 : Nat) : Int) = (p : Int) + 1 by omega] at hm
        refine hm.mono ?_
        clear hm
        rintro e w1 ⟨hpp, hw1⟩
        obtain rfl : wA = w1 := hw1.symm
        obtain ⟨el, e0, e1, e2, e3, e4, e5, e6, e7, ef⟩ := E2.out
        rcases hpp with ⟨hr, rfl⟩ | ⟨s, q, hr, hpq, hq, rfl⟩
        · have HDX : Hid (decX ys = none) := HNO.out (by rw [HD.out]; simp [rdE, hr])
          have D5 : Hid (SX w ys ((((((((wA.setCell ⟨wr.heap.size, 0, none⟩ (.bool true)).setCell ⟨wr.heap.size, 1, none⟩ (.string ⟨#[]⟩)).setCell ⟨wr.heap.size, 2, none⟩ (.string ⟨#[]⟩)).setCell ⟨wr.heap.size, 3, none⟩ (.int .i64 0)).setCell ⟨wr.heap.size, 4, none⟩ (.int .i64 0)).setCell ⟨wr.heap.size, 5, none⟩ (.int .i64 0)).setCell ⟨wr.heap.size, 6, none⟩ (.int .i64 0)).setCell ⟨wr.heap.size, 7, none⟩ (.int .i64 0)) (.slice va es.length vc) es p (c + 1)) := D.out.later ((((((((BA.out.setCell (p := ⟨wr.heap.size, 0, none⟩) (Nat.le_refl _) _).setCell (p := ⟨wr.heap.size, 1, none⟩) (Nat.le_refl _) _).setCell (p := ⟨wr.heap.size, 2, none⟩) (Nat.le_refl _) _).setCell (p := ⟨wr.heap.size, 3, none⟩) (Nat.le_refl _) _).setCell (p := ⟨wr.heap.size, 4, none⟩) (Nat.le_refl _) _).setCell (p := ⟨wr.heap.size, 5, none⟩) (Nat.le_refl _) _).setCell (p := ⟨wr.heap.size, 6, none⟩) (Nat.le_refl _) _).setCell (p := ⟨wr.heap.size, 7, none⟩) (Nat.le_refl _) _)
          clear hr
          go_wp2
          refine HK2.out _ _ ?_
          clear el e0 e1 e2 e3 e4 e5 e6 e7 ef HK2 E2 BA D2
          generalize ((((((((wA.setCell ⟨wr.heap.size, 0, none⟩ (.bool true)).setCell ⟨wr.heap.size, 1, none⟩ (.string ⟨#[]⟩)).setCell ⟨wr.heap.size, 2, none⟩ (.string ⟨#[]⟩)).setCell ⟨wr.heap.size, 3, none⟩ (.int .i64 0)).setCell ⟨wr.heap.size, 4, none⟩ (.int .i64 0)).setCell ⟨wr.heap.size, 5, none⟩ (.int .i64 0)).setCell ⟨wr.heap.size, 6, none⟩ (.int .i64 0)).setCell ⟨wr.heap.size, 7, none⟩ (.int .i64 0)) = w5 at *
          obtain ⟨-, z0, z1, z2, zf⟩ := D5.out.2.2.2.1
          have f0 := zf 0
          have f1 := zf 1
          have f2 := zf 2
          have HF : Hid (DxPost w ys (.returned (.agg #[.bool false, .int .i64 0, .slice none 0 0])) (((w5.setCell ⟨w.heap.size, 0, none⟩ (.bool false)).setCell ⟨w.heap.size, 1, none⟩ (.int .i64 0)).setCell ⟨w.heap.size, 2, none⟩ (.slice none 0 0))) := ⟨((D5.out.2.2.1.setCell (p := ⟨w.heap.size, 0, none⟩) (Nat.le_refl _) _).setCell (p := ⟨w.heap.size, 1, none⟩) (Nat.le_refl _) _).setCell (p := ⟨w.heap.size, 2, none⟩) (Nat.le_refl _) _, .inl ⟨HDX.out, rfl⟩⟩
          clear zf
          go_wp2
          refine bodyPost_ret (v := .agg #[.bool false, .int .i64 0, .slice none 0 0]) (by simp [results, Tryz.results31, go_sem, z0, z1, z2]) rfl HF.out
        · have HRD : Hid (rdE (ys.drop p) = some (⟨true, ndP s⟩, ys.drop q)) := by show _ = _; rw [HD.out]; simp [rdE, hr]
          have D5 : Hid (SX w ys ((((((((wA.setCell ⟨wr.heap.size, 0, none⟩ (.bool true)).setCell ⟨wr.heap.size, 1, none⟩ (.string s)).setCell ⟨wr.heap.size, 2, none⟩ (.string ⟨#[]⟩)).setCell ⟨wr.heap.size, 3, none⟩ (.int .i64 0)).setCell ⟨wr.heap.size, 4, none⟩ (.int .i64 0)).setCell ⟨wr.heap.size, 5, none⟩ (.int .i64 0)).setCell ⟨wr.heap.size, 6, none⟩ (.int .i64 0)).setCell ⟨wr.heap.size, 7, none⟩ (.int .i64 0)) (.slice va es.length vc) es p (c + 1)) := D.out.later ((((((((BA.out.setCell (p := ⟨wr.heap.size, 0, none⟩) (Nat.le_refl _) _).setCell (p := ⟨wr.heap.size, 1, none⟩) (Nat.le_refl _) _).setCell (p := ⟨wr.heap.size, 2, none⟩) (Nat.le_refl _) _).setCell (p := ⟨wr.heap.size, 3, none⟩) (Nat.le_refl _) _).setCell (p := ⟨wr.heap.size, 4, none⟩) (Nat.le_refl _) _).setCell (p := ⟨wr.heap.size, 5, none⟩) (Nat.le_refl _) _).setCell (p := ⟨wr.heap.size, 6, none⟩) (Nat.le_refl _) _).setCell (p := ⟨wr.heap.size, 7, none⟩) (Nat.le_refl _) _)
          have E5 : Hid (EW ((((((((wA.setCell ⟨wr.heap.size, 0, none⟩ (.bool true)).setCell ⟨wr.heap.size, 1, none⟩ (.string s)).setCell ⟨wr.heap.size, 2, none⟩ (.string ⟨#[]⟩)).setCell ⟨wr.heap.size, 3, none⟩ (.int .i64 0)).setCell ⟨wr.heap.size, 4, none⟩ (.int .i64 0)).setCell ⟨wr.heap.size, 5, none⟩ (.int .i64 0)).setCell ⟨wr.heap.size, 6, none⟩ (.int .i64 0)).setCell ⟨wr.heap.size, 7, none⟩ (.int .i64 0)) wr.heap.size ⟨true, ndP s⟩) := E2.out.putD s
          clear hr
          go_wp2
          refine HK2.out _ _ ?_
          clear el e0 e1 e2 e3 e4 e5 e6 e7 ef HK2 E2 BA D2
          generalize ((((((((wA.setCell ⟨wr.heap.size, 0, none⟩ (.bool true)).setCell ⟨wr.heap.size, 1, none⟩ (.string s)).setCell ⟨wr.heap.size, 2, none⟩ (.string ⟨#[]⟩)).setCell ⟨wr.heap.size, 3, none⟩ (.int .i64 0)).setCell ⟨wr.heap.size, 4, none⟩ (.int .i64 0)).setCell ⟨wr.heap.size, 5, none⟩ (.int .i64 0)).setCell ⟨wr.heap.size, 6, none⟩ (.int .i64 0)).setCell ⟨wr.heap.size, 7, none⟩ (.int .i64 0)) = w5 at *
          obtain ⟨n8, hn8⟩ : ∃ n8 : Ef, n8 = ⟨true, ndP s⟩ := ⟨_, rfl⟩
          rw [← hn8] at E5 HRD
          clear hn8
          have D6 : Hid (SX w ys (w5.alloc (.cells #[.bool n8.del, .string n8.nd.path, .string n8.nd.data, .int .i64 n8.nd.ver, .int .i64 n8.nd.cver, .int .i64 n8.nd.cz, .int .i64 n8.nd.mz, .int .i64 n8.nd.pz] 139)) (.slice va es.length vc) es p (c + 1)) := D5.out.later ((Below.refl _ _).alloc (Nat.le_refl _) _)
          have N6 : Hid (∀ j u, (efL n8)[j]? = some u → (w5.alloc (.cells #[.bool n8.del, .string n8.nd.path, .string n8.nd.data, .int .i64 n8.nd.ver, .int .i64 n8.nd.cver, .int .i64 n8.nd.cz, .int .i64 n8.nd.mz, .int .i64 n8.nd.pz] 139)).cell? ((⟨w5.heap.size, 0, none⟩ : Addr).add j) = some u) := efL_cells _ _ _
          obtain ⟨el, e0, e1, e2, e3, e4, e5, e6, e7, -⟩ := E5.out
          obtain ⟨-, b0, b1, bf⟩ := D5.out.2.2.2.2.1
          have hqI : ¬ (q : Int) < 0 := by omega
          have s6 := D6.out.2.2.1.size
          have s52 := D5.out.2.2.2.2.1.1
          go_wp2_with (at_builtin; go_must (refine wpList_append_own _ rfl _ _ 76 rfl (w.heap.size + 2) 139 i0 (.agg #[.bool false, .string ByteArray.empty, .string ByteArray.empty, .int .i64 0, .int .i64 0, .int .i64 0, .int .i64 0, .int .i64 0]) 8 80 Tryz.underlying76 hi hz0 hz1 hz2 rfl (by decide) _ _ _ rfl D6.out.2.2.2.2.2 ⟨w5.heap.size, 0, none⟩ 1 1 (efL n8) rfl rfl N6.out (efL_one n8) ?_ ?_ ?_ ?_))
          · unfold maxLen; omega
          · omega
          · first | omega | (simp; omega)
          intro v7 w7 ho7 hg7 _
          have D7 : Hid (SX w ys (w7.setCell ⟨w.heap.size + 1, 1, none⟩ v7) v7 (es ++ [n8]) q c) := D6.out.push HBY.out HRD.out hg7 ho7
          obtain ⟨a7, q7, hv7⟩ := D7.out.2.2.2.2.2.slice
          rw [show (es ++ [n8]).length = es.length + 1 by simp] at hv7
          subst hv7
          obtain ⟨-, -, c7, ff⟩ := D6.out.2.2.2.2.1.turn hg7 (fun e => by have := (World.ownsRow.lt D6.out.2.2.2.2.2 _ e.symm).1; omega)
          have f7 := ff 1
          clear ho7 hg7 ff e0 e1 e2 e3 e4 e5 e6 e7 b0 b1 bf D5 D6 E5 N6 HRD el
          go_wp2
          exact ⟨⟨i + 1, q, _, _, by omega, hq, rfl, by go_num, (by rw [HC2.out]; exact D7)⟩, by simp [intOf]; omega⟩
      · have h2b : ((y : Int) == 2) = false := beq_eq_false_iff_ne.2 (by omega)
        have HDX : Hid (decX ys = none) := HNO.out (by rw [HD.out]; simp only [rdE]; rw [if_neg (by omega), if_neg (by omega)])
        obtain ⟨zl, z0, z1, z2, zf⟩ := D.out.2.2.2.1
        have f0 := zf 0
        have f1 := zf 1
        have f2 := zf 2
        have HE : Hid (∀ ob : Obj, _) := fun ob => zx3 D.out.2.2.2.1 ob
        clear zf
        go_wp2
        exact bodyPost_ret (v := .agg #[.bool false, .int .i64 0, .slice none 0 0]) (by simp [results, Tryz.results31, go_sem, (HE.out _).1, (HE.out _).2.1, (HE.out _).2.2]) rfl ⟨(((D.out.2.2.1.setCell (p := ⟨w.heap.size, 0, none⟩) (Nat.le_refl _) _).setCell (p := ⟨w.heap.size, 1, none⟩) (Nat.le_refl _) _).setCell (p := ⟨w.heap.size, 2, none⟩) (Nat.le_refl _) _).alloc (by have := D.out.2.2.1.size; simpa using this) _, .inl ⟨HDX.out, rfl⟩⟩
  · have hic : i = C := by omega
    subst hic
    rw [Nat.sub_self] at D
    have HPD : Hid (pEs i (ys.drop 6) = some (es, ys.drop p)) := (HCC.out ▸ D.out.1).done
    have hrE : ys.drop p = [] ↔ p = ys.length := by
     constructor
     · intro e
       have := congrArg List.length e
       rw [List.length_drop] at this
       simp at this
       omega
     · intro e; exact List.drop_eq_nil_of_le (by omega)
    by_cases hr : p = ys.length
    rotate_left
    · have HDX : Hid (decX ys = none) := by
       show _ = _
       unfold decX
       rw [if_neg (by omega), HCC.out, HPD.out]
       simp only
       rw [if_neg (fun h => hr (hrE.1 h.1))]
      obtain ⟨-, z0, z1, z2, zf⟩ := D.out.2.2.2.1
      have f0 := zf 0
      have f1 := zf 1
      have f2 := zf 2
      have HF : Hid (DxPost w ys (.returned (.agg #[.bool false, .int .i64 0, .slice none 0 0])) (((wr.setCell ⟨w.heap.size, 0, none⟩ (.bool false)).setCell ⟨w.heap.size, 1, none⟩ (.int .i64 0)).setCell ⟨w.heap.size, 2, none⟩ (.slice none 0 0))) := ⟨((D.out.2.2.1.setCell (p := ⟨w.heap.size, 0, none⟩) (Nat.le_refl _) _).setCell (p := ⟨w.heap.size, 1, none⟩) (Nat.le_refl _) _).setCell (p := ⟨w.heap.size, 2, none⟩) (Nat.le_refl _) _, .inl ⟨HDX.out, rfl⟩⟩
      have hpb : ((p : Int) != (ys.length : Int)) = true := by rw [bne_iff_ne]; omega
      clear zf hrE
      go_wp2
      refine bodyPost_ret (v := .agg #[.bool false, .int .i64 0, .slice none 0 0]) (by simp [results, Tryz.results31, go_sem, z0, z1, z2]) rfl HF.out
    · have HRE : Hid (ys.drop p = []) := hrE.2 hr
      have hpb : ((p : Int) != (ys.length : Int)) = false := by rw [hr]; simp
      have HSZ : Hid (SzE es) := D.out.2.1
      have HON : Hid (OwnE 139 wr (w.heap.size + 2) (.slice va es.length vc) es) := D.out.2.2.2.2.2
      obtain ⟨-, b0, b1, -⟩ := D.out.2.2.2.2.1
      clear hrE hr
      go_wp2_with fail
      refine (specTxn_any _ _ _ es HON.out.rd HSZ.out.at).mono ?_
      rintro e w2 ⟨rfl, b2⟩
      have D2 := hd9 (D.out.later b2)
      obtain ⟨-, -, -, ⟨-, z0, z1, z2, zf⟩, ⟨-, d0, d1, -⟩, t7⟩ := D2.out
      have f0 := zf 0
      have f1 := zf 1
      have f2 := zf 2
      have HON2 : Hid (OwnE 139 w2 (w.heap.size + 2) (.slice va es.length vc) es) := t7
      clear zf b2 t7 HON b0 b1
      by_cases hok : okTxn (zX ys : Int) es = true
      · have HDX : Hid (decX ys = some ((zX ys : Int), es)) := by
         show _ = _
         unfold decX
         rw [if_neg (by omega), HCC.out, HPD.out]
         simp only
         rw [if_pos ⟨HRE.out, hok⟩]
        rw [hok]
        clear hok
        go_wp2
        refine bodyPost_ret (v := .agg #[.bool true, .int .i64 (zX ys : Int), .slice va es.length vc]) (by simp [results, Tryz.results31, go_sem, z0, z1, z2]) rfl ⟨((D2.out.2.2.1.setCell (p := ⟨w.heap.size, 0, none⟩) (Nat.le_refl _) _).setCell (p := ⟨w.heap.size, 1, none⟩) (Nat.le_refl _) _).setCell (p := ⟨w.heap.size, 2, none⟩) (Nat.le_refl _) _, .inr ⟨_, es, _, HDX.out, rfl, ?_⟩⟩
        exact OwnE.mono (OwnE.setBelow (OwnE.setBelow (OwnE.setBelow HON2.out (by show w.heap.size < w.heap.size + 2; omega) _) (by show w.heap.size < w.heap.size + 2; omega) _) (by show w.heap.size < w.heap.size + 2; omega) _) (by omega)
      · have hok' : okTxn (zX ys : Int) es = false := by simpa using hok
        have HDX : Hid (decX ys = none) := by
         show _ = _
         unfold decX
         rw [if_neg (by omega), HCC.out, HPD.out]
         simp only
         rw [if_neg (fun h => hok h.2)]
        rw [hok']
        clear hok hok'
        go_wp2
        refine bodyPost_ret (v := .agg #[.bool false, .int .i64 0, .slice none 0 0]) (by simp [results, Tryz.results31, go_sem, z0, z1, z2]) rfl ⟨((D2.out.2.2.1.setCell (p := ⟨w.heap.size, 0, none⟩) (Nat.le_refl _) _).setCell (p := ⟨w.heap.size, 1, none⟩) (Nat.le_refl _) _).setCell (p := ⟨w.heap.size, 2, none⟩) (Nat.le_refl _) _, .inl ⟨HDX.out, rfl⟩⟩
def frm_m (a : List Int) : Nat := (a.getD 0 0).toNat % 128 * 128 + (a.getD 1 0).toNat % 128
def frm_p (a : List Int) : List Int := unp ((a.drop 2).take (frm_m a))
def frm_ok (a : List Int) : Prop := 2 ≤ a.length ∧ 128 ≤ a.getD 0 0 ∧ 128 ≤ a.getD 1 0 ∧ 2 + frm_m a ≤ a.length ∧ frm_p a ≠ [] ∧ (frm_p a).length ≤ 2000
def frmB (a : List Int) : Bool := decide (2 ≤ a.length) && decide (128 ≤ a.getD 0 0) && decide (128 ≤ a.getD 1 0) && decide (2 + frm_m a ≤ a.length) && decide (frm_p a ≠ []) && decide ((frm_p a).length ≤ 2000)
theorem frmB_iff (a : List Int) : frmB a = true ↔ frm_ok a := by
 unfold frmB frm_ok
 simp only [Bool.and_eq_true, decide_eq_true_eq, and_assoc]
theorem frmB_no {a : List Int} (h : ¬ frm_ok a) : frmB a = false := by
 cases e : frmB a with
 | false => rfl
 | true => exact absurd ((frmB_iff a).1 e) h
def scn : Nat → List Int → List (List Int × Nat)
 | 0, _ => []
 | f + 1, a => if frmB a then (frm_p a, 2 + frm_m a) :: scn f (a.drop (2 + frm_m a)) else []
def pos (R : List (List Int × Nat)) (k : Nat) : Nat := ((R.take k).map (·.2)).sum
theorem pos_zero (R : List (List Int × Nat)) : pos R 0 = 0 := by simp [pos]
theorem pos_cons (r : List Int × Nat) (R : List (List Int × Nat)) (k : Nat) : pos (r :: R) (k + 1) = r.2 + pos R k := by simp [pos]
theorem scn_all : ∀ (f : Nat) (a : List Int), a.length ≤ f →
    (∀ k, k < (scn f a).length → frmB (a.drop (pos (scn f a) k)) = true ∧ (scn f a).getD k ([], 0) = (frm_p (a.drop (pos (scn f a) k)), 2 + frm_m (a.drop (pos (scn f a) k)))) ∧
    frmB (a.drop (pos (scn f a) (scn f a).length)) = false ∧ (∀ k, k ≤ (scn f a).length → pos (scn f a) k ≤ a.length)
 | 0, a, h => by
  have : a = [] := List.eq_nil_of_length_eq_zero (by omega)
  subst this
  exact ⟨fun k hk => by simp [scn] at hk, by rfl, fun k hk => by simp [scn] at hk; subst hk; simp [pos]⟩
 | f + 1, a, h => by
  cases e : frmB a with
  | false =>
   have hs : scn (f + 1) a = [] := by unfold scn; rw [e]; simp
   rw [hs]
   exact ⟨fun k hk => by simp at hk, by simpa [pos] using e, fun k hk => by simp at hk; subst hk; simp [pos]⟩
  | true =>
   have hs : scn (f + 1) a = (frm_p a, 2 + frm_m a) :: scn f (a.drop (2 + frm_m a)) := by
    conv => lhs; unfold scn
    rw [e]; simp
   obtain ⟨k1, k2, k3, k4, -⟩ := (frmB_iff a).1 e
   obtain ⟨i1, i2, i3⟩ := scn_all f (a.drop (2 + frm_m a)) (by rw [List.length_drop]; omega)
   rw [hs]
   refine ⟨fun k hk => ?_, ?_, fun k hk => ?_⟩
   · cases k with
     | zero => rw [pos_zero, List.drop_zero]; exact ⟨e, rfl⟩
     | succ k =>
      have := i1 k (by simpa using hk)
      rw [pos_cons, ← List.drop_drop]
      exact this
   · rw [List.length_cons, pos_cons, ← List.drop_drop]; exact i2
   · cases k with
     | zero => rw [pos_zero]; exact Nat.zero_le _
     | succ k =>
      have := i3 k (by simpa using hk)
      rw [List.length_drop] at this
      rw [pos_cons]
      show 2 + frm_m a + _ ≤ _
      omega
theorem pos_succ (R : List (List Int × Nat)) (k : Nat) (h : k < R.length) : pos R (k + 1) = pos R k + (R.getD k ([], 0)).2 := by
 unfold pos
 rw [List.take_succ_eq_append_getElem h, List.map_append, List.sum_append]
 simp [List.getD, h]
theorem unp_nil : unp [] = [] := by rfl
theorem Rd.cut {k : IntKind} {w : World} {ao : Option Addr} {n cap : Nat} {xs : List Int} (h : Rd k w (.slice ao n cap) xs) (hn : xs.length = n) (h0 : 0 < n) : ∃ blk o, ao = some ⟨blk, o, none⟩ ∧ blk < w.heap.size ∧ n ≤ cap ∧ cap ≤ maxLen ∧ ∀ i, i < n → w.cell? ⟨blk, o + i, none⟩ = some (.int k (xs.getD i 0)) := by
 obtain ⟨ao', cap', e, h1, h2, h3⟩ := h
 simp only [Value.slice.injEq] at e
 obtain ⟨rfl, hl, rfl⟩ := e
 rcases h3 with rfl | ⟨b, o, rfl, hb, hc⟩
 · simp at hn; omega
 · exact ⟨b, o, rfl, hb, by omega, h2, fun i hi => hc i (by omega)⟩
theorem rd_piece {k : IntKind} {w : World} {blk o n cap : Nat} {xs : List Int} (hb : blk < w.heap.size) (hc : ∀ i, i < n → w.cell? ⟨blk, o + i, none⟩ = some (.int k (xs.getD i 0))) (hn : xs.length = n) (i m : Nat) (hm : i + m ≤ n) (hcap : n ≤ cap) (hcm : cap ≤ maxLen) : Rd k w (.slice (some ⟨blk, o + i, none⟩) m (cap - i)) ((xs.drop i).take m) := by
 have hlen : ((xs.drop i).take m).length = m := by rw [List.length_take, List.length_drop]; omega
 refine ⟨_, cap - i, by rw [hlen], by omega, by omega, .inr ⟨blk, o + i, rfl, hb, fun j hj => ?_⟩⟩
 rw [hlen] at hj
 have := hc (i + j) (by omega)
 rw [Nat.add_assoc, this]
 simp [List.getD, List.getElem?_drop, hj]
theorem below_drewQ {B : Nat} {w w' : World} (h : Below B w w') (q : Nat) : Below B w (w'.drewN q) := ⟨h.os, h.tape, h.output, h.size, h.block⟩
theorem byt_piece {xs : List Int} (h : Byt xs) (i m : Nat) : Byt ((xs.drop i).take m) := fun x hx => h x (List.mem_of_mem_drop (List.mem_of_mem_take hx))
theorem box_set {w : World} {B : Nat} {v : Value} (h : Box w B v) (u : Value) : Box (w.setCell ⟨B, 0, none⟩ u) B u := ⟨by have h1 := h.1; go_simp, by have h2 := h.2; go_simp⟩
theorem box_alloc {w : World} {B : Nat} {v : Value} (h : Box w B v) (o : Obj) : Box (w.alloc o) B v := h.below ((Below.refl _ _).alloc (Nat.le_refl _) _)
theorem recordAt_any (w : World) (ao : Option Addr) (n cap : Nat) (a : List Int) (h : Rd .u8 w (.slice ao n cap) a) (hl : a.length = n) (hby : Byt a) (hn : n ≤ 8192) :
    Calls Tryz.prog 90 #[.slice ao n cap] w fun e w' => (∃ u s, e = .returned (.tuple #[.agg #[u], .int .i64 s]) ∧ ((frmB a = false ∧ s = 0 ∧ u = .slice none 0 0) ∨ (frmB a = true ∧ s = ((2 + frm_m a : Nat) : Int) ∧ Own .u8 5 w' w.heap.size u (frm_p a)))) ∧ Below w.heap.size w w' := by
 have B0 : Hid (Below w.heap.size w (w.alloc (.cells #[.slice none 0 0] 40))) := (Below.refl _ _).alloc (Nat.le_refl _) _
 have HL : Hid (a.length = n) := hl
 clear hl
 by_cases h2 : n < 2
 · have h2I : (n : Int) < 2 := by omega
   have h2d : decide ((n : Int) < 2) = true := by simpa using h2I
   have HF : Hid (frmB a = false) := frmB_no (fun hk => by have := hk.1; have := HL.out; omega)
   clear h hby
   go_enter Tryz.func90, Tryz.ntmps90
   go_wp2
   refine bodyPost_ret (v := .tuple #[.agg #[.slice none 0 0], .int .i64 0]) (by simp [results, Tryz.results90, go_sem]) rfl ⟨⟨_, _, rfl, .inl ⟨HF.out, rfl, rfl⟩⟩, ?_⟩
   repeat (first | exact B0.out | refine Below.setCell ?_ (by simp; try omega) _)
 · have h2I : ¬ (n : Int) < 2 := by omega
   have h2d : decide ((n : Int) < 2) = false := by simpa using h2I
   obtain ⟨blk, o, rfl, hb, hcap, hcm, hc⟩ := h.cut HL.out (by omega)
   obtain ⟨x0, hx0, hxe0⟩ := byt_at hby 0
   obtain ⟨x1, hx1, hxe1⟩ := byt_at hby 1
   have c0 := hc 0 (by omega)
   have c1 := hc 1 (by omega)
   rw [hxe0, Nat.add_zero] at c0
   rw [hxe1] at c1
   have HC : Hid (∀ i, i < n → w.cell? ⟨blk, o + i, none⟩ = some (.int .u8 (a.getD i 0))) := hc
   have HBY : Hid (Byt a) := hby
   have hn0 : (0 : Int) < (n : Int) := by omega
   have hn1 : (1 : Int) < (n : Int) := by omega
   have HM : Hid (frm_m a = x0 % 128 * 128 + x1 % 128) := by show _ = _; unfold frm_m; rw [hxe0, hxe1, Int.toNat_natCast, Int.toNat_natCast]
   have HCM : Hid (cap ≤ maxLen) := hcm
   unfold maxLen at hcm
   by_cases q0 : (x0 : Int) < 128
   · have q0d : decide ((x0 : Int) < 128) = true := by simpa using q0
     have HF : Hid (frmB a = false) := frmB_no (fun hk => by have := hk.2.1; rw [hxe0] at this; omega)
     clear h hby hc hxe0 hxe1
     go_enter Tryz.func90, Tryz.ntmps90
     go_wp2
     refine bodyPost_ret (v := .tuple #[.agg #[.slice none 0 0], .int .i64 0]) (by simp [results, Tryz.results90, go_sem]) rfl ⟨⟨_, _, rfl, .inl ⟨HF.out, rfl, rfl⟩⟩, ?_⟩
     repeat (first | exact B0.out | refine Below.setCell ?_ (by simp; try omega) _)
   · have q0d : decide ((x0 : Int) < 128) = false := by simpa using q0
     by_cases q1 : (x1 : Int) < 128
     · have q1d : decide ((x1 : Int) < 128) = true := by simpa using q1
       have HF : Hid (frmB a = false) := frmB_no (fun hk => by have := hk.2.2.1; rw [hxe1] at this; omega)
       clear h hby hc hxe0 hxe1
       go_enter Tryz.func90, Tryz.ntmps90
       go_wp2
       refine bodyPost_ret (v := .tuple #[.agg #[.slice none 0 0], .int .i64 0]) (by simp [results, Tryz.results90, go_sem]) rfl ⟨⟨_, _, rfl, .inl ⟨HF.out, rfl, rfl⟩⟩, ?_⟩
       repeat (first | exact B0.out | refine Below.setCell ?_ (by simp; try omega) _)
     · have q1d : decide ((x1 : Int) < 128) = false := by simpa using q1
       have hand0 := u8_low7 x0 hx0
       have hand1 := u8_low7 x1 hx1
       have HOK : Hid (2 + frm_m a ≤ n → frm_p a ≠ [] → (frm_p a).length ≤ 2000 → frmB a = true) := fun k1 k2 k3 => (frmB_iff a).2 ⟨by rw [HL.out]; omega, by rw [hxe0]; omega, by rw [hxe1]; omega, by rw [HL.out]; exact k1, k2, k3⟩
       clear h hby hc hxe0 hxe1
       generalize hy0 : x0 % 128 = y0 at *
       generalize hy1 : x1 % 128 = y1 at *
       have hy0' : y0 < 128 := by omega
       have hy1' : y1 < 128 := by omega
       clear hy0 hy1
       go_enter Tryz.func90, Tryz.ntmps90
       go_wp2_with fail
       go_quiet (fail)
       by_cases hs : 2 + (y0 * 128 + y1) ≤ n
       · have hsI : ¬ (n : Int) < 2 + (y0 : Int) * 128 + (y1 : Int) := by omega
         have hsd : decide ((n : Int) < 2 + (y0 : Int) * 128 + (y1 : Int)) = false := by simpa using hsI
         by_cases hcp : cap = 2
         · have hcpd : (cap = 2) = True := by simp [hcp]
           clear hcpd
           have RS : Hid (Rd .u8 w (.slice (some ⟨blk, o, none⟩) (2 + y0 * 128 + y1 - 2) 0) ((a.drop 2).take (frm_m a))) := by
            have hz : y0 * 128 + y1 = 0 := by omega
            rw [HM.out, hz, show 2 + y0 * 128 + y1 - 2 = 0 by omega]
            exact ⟨_, 0, rfl, Nat.le_refl _, Nat.zero_le _, .inl (by simp)⟩
           go_wp2_with fail
           refine (implUnpack_any _ _ _ (RS.out.below (below_drewQ B0.out nq)) (byt_piece HBY.out 2 (frm_m a)) (by rw [List.length_take]; have := HM.out; omega)).mono ?_
           rintro e w2 ⟨u, rfl, o2, b2⟩
           have o2' : Own .u8 5 w2 _ u (frm_p a) := o2
           obtain ⟨ua, uc, rfl⟩ := Own.slice o2'
           have B2 : Hid (Below w.heap.size w w2) := (below_drewQ B0.out nq).trans (b2.mono (by show w.heap.size ≤ (w.alloc _).heap.size; simp))
           have O2 : Hid (Own .u8 5 w2 w.heap.size (.slice ua (frm_p a).length uc) (frm_p a)) := Own.mono o2' (by show w.heap.size ≤ (w.alloc _).heap.size; simp)
           have hul : (frm_p a).length ≤ maxLen := by obtain ⟨_, _, e, h1, h2⟩ := O2.out.rd.len; simp only [Value.slice.injEq] at e; omega
           unfold maxLen at hul
           have X2 : Hid (Box w2 w.heap.size (.slice none 0 0)) := (Box.drewN (Box.new w (.slice none 0 0) 40) nq).below b2
           have F2 : Hid (w2.frozen? ⟨w.heap.size, 0, none⟩ = false) := (b2.frozen (p := ⟨w.heap.size, 0, none⟩) (by show w.heap.size < (w.alloc _).heap.size; simp)).trans (by simp)
           have NB : Hid (Value.ownBlock (.slice ua (frm_p a).length uc) ≠ some w.heap.size) := fun e => by have := (Own.lt o2' _ e).1; have h' : (w.alloc (.cells #[.slice none 0 0] 40)).heap.size ≤ w.heap.size := this; rw [World.size_alloc] at h'; omega
           have HP : Hid (frm_p a ≠ [] ↔ (frm_p a).length ≠ 0) := by show _ ↔ _; cases frm_p a <;> simp
           have HS : Hid (((2 + frm_m a : Nat) : Int) = 2 + (y0 : Int) * 128 + (y1 : Int)) := by rw [HM.out]; show _ = _; omega
           have HIN : Hid (2 + frm_m a ≤ n) := by rw [HM.out]; show _ ≤ _; omega
           have HNO : Hid ((frm_p a).length = 0 ∨ 2000 < (frm_p a).length → frmB a = false) := fun hh => frmB_no (fun hk => by have h5 := HP.out.1 hk.2.2.2.2.1; have h6 := hk.2.2.2.2.2; omega)
           have HYES : Hid ((frm_p a).length ≠ 0 → (frm_p a).length ≤ 2000 → frmB a = true) := fun h5 h6 => HOK.out HIN.out (HP.out.2 h5) h6
           clear o2 o2' b2 RS HOK
           obtain ⟨z2, d0⟩ := X2.out
           have f0 : w2.frozen? ⟨w.heap.size, 0, none⟩ = false := F2.out
           generalize hp : frm_p a = p at *
           have HPE : Hid (frm_p a = p) := hp
           clear hp
           have YY : ∀ (u : Value) (o : Obj), ((w2.setCell ⟨w.heap.size, 0, none⟩ u).alloc o).cell? ⟨w.heap.size, 0, none⟩ = some u := fun u o => (box_alloc (box_set X2.out u) o).2
           by_cases l0 : p.length = 0
           · have l0I : (p.length : Int) = 0 := by omega
             have l0b : ((p.length : Int) == 0) = true := by simpa using l0I
             go_wp2
             refine bodyPost_ret (v := .tuple #[.agg #[.slice none 0 0], .int .i64 0]) (by simp [results, Tryz.results90, go_sem, YY]) rfl ⟨⟨_, _, rfl, .inl ⟨HNO.out (.inl l0), rfl, rfl⟩⟩, ?_⟩
             repeat (first | exact B2.out | exact B2.out.alloc B2.out.size _ | refine Below.setCell ?_ (by simp; try omega) _ | refine Below.alloc ?_ (by simp; try omega) _)
           · have l0I : ¬ (p.length : Int) = 0 := by omega
             have l0b : ((p.length : Int) == 0) = false := by simpa using l0I
             by_cases l2 : 2000 < p.length
             · have l2I : (2000 : Int) < (p.length : Int) := by omega
               have l2d : decide ((2000 : Int) < (p.length : Int)) = true := by simpa using l2I
               go_wp2
               refine bodyPost_ret (v := .tuple #[.agg #[.slice none 0 0], .int .i64 0]) (by simp [results, Tryz.results90, go_sem, YY]) rfl ⟨⟨_, _, rfl, .inl ⟨HNO.out (.inr l2), rfl, rfl⟩⟩, ?_⟩
               repeat (first | exact B2.out | exact B2.out.alloc B2.out.size _ | refine Below.setCell ?_ (by simp; try omega) _ | refine Below.alloc ?_ (by simp; try omega) _)
             · have l2I : ¬ (2000 : Int) < (p.length : Int) := by omega
               have l2d : decide ((2000 : Int) < (p.length : Int)) = false := by simpa using l2I
               go_wp2
               refine bodyPost_ret (v := .tuple #[.agg #[.slice ua p.length uc], .int .i64 (2 + (y0 : Int) * 128 + (y1 : Int))]) (by simp [results, Tryz.results90, go_sem, YY]) rfl ⟨⟨_, _, rfl, .inr ⟨HYES.out l0 (by omega), HS.out.symm, ?_⟩⟩, ?_⟩
               · rw [HPE.out]
                 repeat (first | exact O2.out | refine Own.setAt ?_ (.inr NB.out) | refine World.ownsRow.alloc ?_ _)
               · repeat (first | exact B2.out | exact B2.out.alloc B2.out.size _ | refine Below.setCell ?_ (by simp; try omega) _ | refine Below.alloc ?_ (by simp; try omega) _)
         · have RS : Hid (Rd .u8 w (.slice (some ⟨blk, o + 2, none⟩) (2 + y0 * 128 + y1 - 2) (cap - 2)) ((a.drop 2).take (frm_m a))) := by
            rw [HM.out, show 2 + y0 * 128 + y1 - 2 = y0 * 128 + y1 by omega]
            exact rd_piece hb HC.out HL.out 2 (y0 * 128 + y1) (by omega) hcap HCM.out
           go_wp2_with fail
           refine (implUnpack_any _ _ _ (RS.out.below (below_drewQ B0.out nq)) (byt_piece HBY.out 2 (frm_m a)) (by rw [List.length_take]; have := HM.out; omega)).mono ?_
           rintro e w2 ⟨u, rfl, o2, b2⟩
           have o2' : Own .u8 5 w2 _ u (frm_p a) := o2
           obtain ⟨ua, uc, rfl⟩ := Own.slice o2'
           have B2 : Hid (Below w.heap.size w w2) := (below_drewQ B0.out nq).trans (b2.mono (by show w.heap.size ≤ (w.alloc _).heap.size; simp))
           have O2 : Hid (Own .u8 5 w2 w.heap.size (.slice ua (frm_p a).length uc) (frm_p a)) := Own.mono o2' (by show w.heap.size ≤ (w.alloc _).heap.size; simp)
           have hul : (frm_p a).length ≤ maxLen := by obtain ⟨_, _, e, h1, h2⟩ := O2.out.rd.len; simp only [Value.slice.injEq] at e; omega
           unfold maxLen at hul
           have X2 : Hid (Box w2 w.heap.size (.slice none 0 0)) := (Box.drewN (Box.new w (.slice none 0 0) 40) nq).below b2
           have F2 : Hid (w2.frozen? ⟨w.heap.size, 0, none⟩ = false) := (b2.frozen (p := ⟨w.heap.size, 0, none⟩) (by show w.heap.size < (w.alloc _).heap.size; simp)).trans (by simp)
           have NB : Hid (Value.ownBlock (.slice ua (frm_p a).length uc) ≠ some w.heap.size) := fun e => by have := (Own.lt o2' _ e).1; have h' : (w.alloc (.cells #[.slice none 0 0] 40)).heap.size ≤ w.heap.size := this; rw [World.size_alloc] at h'; omega
           have HP : Hid (frm_p a ≠ [] ↔ (frm_p a).length ≠ 0) := by show _ ↔ _; cases frm_p a <;> simp
           have HS : Hid (((2 + frm_m a : Nat) : Int) = 2 + (y0 : Int) * 128 + (y1 : Int)) := by rw [HM.out]; show _ = _; omega
           have HIN : Hid (2 + frm_m a ≤ n) := by rw [HM.out]; show _ ≤ _; omega
           have HNO : Hid ((frm_p a).length = 0 ∨ 2000 < (frm_p a).length → frmB a = false) := fun hh => frmB_no (fun hk => by have h5 := HP.out.1 hk.2.2.2.2.1; have h6 := hk.2.2.2.2.2; omega)
           have HYES : Hid ((frm_p a).length ≠ 0 → (frm_p a).length ≤ 2000 → frmB a = true) := fun h5 h6 => HOK.out HIN.out (HP.out.2 h5) h6
           clear o2 o2' b2 RS HOK
           obtain ⟨z2, d0⟩ := X2.out
           have f0 : w2.frozen? ⟨w.heap.size, 0, none⟩ = false := F2.out
           generalize hp : frm_p a = p at *
           have HPE : Hid (frm_p a = p) := hp
           clear hp
           have YY : ∀ (u : Value) (o : Obj), ((w2.setCell ⟨w.heap.size, 0, none⟩ u).alloc o).cell? ⟨w.heap.size, 0, none⟩ = some u := fun u o => (box_alloc (box_set X2.out u) o).2
           by_cases l0 : p.length = 0
           · have l0I : (p.length : Int) = 0 := by omega
             have l0b : ((p.length : Int) == 0) = true := by simpa using l0I
             go_wp2
             refine bodyPost_ret (v := .tuple #[.agg #[.slice none 0 0], .int .i64 0]) (by simp [results, Tryz.results90, go_sem, YY]) rfl ⟨⟨_, _, rfl, .inl ⟨HNO.out (.inl l0), rfl, rfl⟩⟩, ?_⟩
             repeat (first | exact B2.out | exact B2.out.alloc B2.out.size _ | refine Below.setCell ?_ (by simp; try omega) _ | refine Below.alloc ?_ (by simp; try omega) _)
           · have l0I : ¬ (p.length : Int) = 0 := by omega
             have l0b : ((p.length : Int) == 0) = false := by simpa using l0I
             by_cases l2 : 2000 < p.length
             · have l2I : (2000 : Int) < (p.length : Int) := by omega
               have l2d : decide ((2000 : Int) < (p.length : Int)) = true := by simpa using l2I
               go_wp2
               refine bodyPost_ret (v := .tuple #[.agg #[.slice none 0 0], .int .i64 0]) (by simp [results, Tryz.results90, go_sem, YY]) rfl ⟨⟨_, _, rfl, .inl ⟨HNO.out (.inr l2), rfl, rfl⟩⟩, ?_⟩
               repeat (first | exact B2.out | exact B2.out.alloc B2.out.size _ | refine Below.setCell ?_ (by simp; try omega) _ | refine Below.alloc ?_ (by simp; try omega) _)
             · have l2I : ¬ (2000 : Int) < (p.length : Int) := by omega
               have l2d : decide ((2000 : Int) < (p.length : Int)) = false := by simpa using l2I
               go_wp2
               refine bodyPost_ret (v := .tuple #[.agg #[.slice ua p.length uc], .int .i64 (2 + (y0 : Int) * 128 + (y1 : Int))]) (by simp [results, Tryz.results90, go_sem, YY]) rfl ⟨⟨_, _, rfl, .inr ⟨HYES.out l0 (by omega), HS.out.symm, ?_⟩⟩, ?_⟩
               · rw [HPE.out]
                 repeat (first | exact O2.out | refine Own.setAt ?_ (.inr NB.out) | refine World.ownsRow.alloc ?_ _)
               · repeat (first | exact B2.out | exact B2.out.alloc B2.out.size _ | refine Below.setCell ?_ (by simp; try omega) _ | refine Below.alloc ?_ (by simp; try omega) _)
       · have hsI : (n : Int) < 2 + (y0 : Int) * 128 + (y1 : Int) := by omega
         have hsd : decide ((n : Int) < 2 + (y0 : Int) * 128 + (y1 : Int)) = true := by simpa using hsI
         have HF : Hid (frmB a = false) := frmB_no (fun hk => by have := hk.2.2.2.1; rw [HM.out, HL.out] at this; omega)
         go_wp2
         refine bodyPost_ret (v := .tuple #[.agg #[.slice none 0 0], .int .i64 0]) (by simp [results, Tryz.results90, go_sem]) rfl ⟨⟨_, _, rfl, .inl ⟨HF.out, rfl, rfl⟩⟩, ?_⟩
         repeat (first | exact B0.out | refine Below.setCell ?_ (by simp; try omega) _ | exact below_drewQ B0.out _)
def pR (rs : List (List Int)) (i : Nat) : List Int := rs.getD i []
def uV (us : List Value) (i : Nat) : Value := us.getD i (.slice none 0 0)
def RdP (w : World) (v : Value) (rs : List (List Int)) : Prop :=
 ∃ ao cap, v = .slice ao rs.length cap ∧ rs.length ≤ cap ∧ cap ≤ maxLen ∧
  (rs = [] ∨ ∃ b off, ao = some ⟨b, off, none⟩ ∧ b < w.heap.size ∧ ∀ i, i < rs.length →
   ∃ da c, w.cell? ⟨b, off + i, none⟩ = some (.slice da (pR rs i).length c) ∧ Rd .u8 w (.slice da (pR rs i).length c) (pR rs i))
theorem RdP.len {w : World} {v : Value} {rs : List (List Int)} (h : RdP w v rs) : ∃ ao cap, v = .slice ao rs.length cap ∧ rs.length ≤ cap ∧ cap ≤ maxLen := by
 obtain ⟨ao, cap, h0, h1, h2, _⟩ := h
 exact ⟨ao, cap, h0, h1, h2⟩
def OwnP (w : World) (lo : Nat) (v : Value) (rs : List (List Int)) (us : List Value) : Prop :=
 w.ownsRow lo 40 1 v rs.length us ∧ (∀ i, i < rs.length → Own .u8 5 w lo (uV us i) (pR rs i)) ∧
 (∀ i j, i < rs.length → j < rs.length → i ≠ j → Ne2 (uV us i) (uV us j)) ∧ ∀ i, i < rs.length → Ne2 (uV us i) v
theorem OwnP.len {w : World} {lo : Nat} {v : Value} {rs : List (List Int)} {us : List Value} (h : OwnP w lo v rs us) : us.length = rs.length := by have := h.1.1; omega
theorem uV_get {us : List Value} {i : Nat} (h : i < us.length) : us[i]? = some (uV us i) := by unfold uV; simp [List.getD, h]
theorem OwnP.cell {w : World} {lo g n cap : Nat} {rs : List (List Int)} {us : List Value} (h : OwnP w lo (.slice (some ⟨g, 0, none⟩) n cap) rs us) (i : Nat) (hi : i < rs.length) : w.cell? ⟨g, i, none⟩ = some (uV us i) := by
 have e : n = rs.length := by
  rcases h.1.2 with ⟨h', _⟩ | ⟨g', c', cur, h', _⟩
  · simp at h'
  · simp only [Value.slice.injEq] at h'; exact h'.2.1
 have h1 := h.1
 subst e
 exact (World.ownsRow.cellAt h1 i (by omega)).trans (uV_get (by rw [h.len]; exact hi))
theorem OwnP.rd {w : World} {lo : Nat} {v : Value} {rs : List (List Int)} {us : List Value} (h : OwnP w lo v rs us) : RdP w v rs := by
 rcases h.1.2 with ⟨rfl, h0⟩ | ⟨g, cap, cur, rfl, hb, hg, hn, hm, hs, ht⟩
 · have : rs = [] := List.eq_nil_of_length_eq_zero h0
   subst this
   exact ⟨none, 0, rfl, Nat.le_refl _, Nat.zero_le _, .inl rfl⟩
 · refine ⟨_, cap, rfl, hn, hm, .inr ⟨g, 0, rfl, (Array.getElem?_eq_some_iff.1 hg).1, fun i hi => ?_⟩⟩
   have c1 := h.cell i hi
   have o1 := h.2.1 i hi
   obtain ⟨da, c, e⟩ := Own.slice o1
   rw [e] at c1 o1
   exact ⟨da, c, by rw [Nat.zero_add]; exact c1, o1.rd⟩
theorem ownsRow_below {w w' : World} {lo n z : Nat} {e : TypeId} {v : Value} {us : List Value} (ho : w.ownsRow lo e z v n us) (hb : Below w.heap.size w w') : w'.ownsRow lo e z v n us := by
 refine ⟨ho.1, ?_⟩
 rcases ho.2 with hn | ⟨g, cap, cur, rfl, hbg, hgg, rest⟩
 · exact .inl hn
 · exact .inr ⟨g, cap, cur, rfl, hbg, by rw [hb.block g (Array.getElem?_eq_some_iff.1 hgg).1]; exact hgg, rest⟩
theorem OwnP.below {w w' : World} {lo : Nat} {v : Value} {rs : List (List Int)} {us : List Value} (h : OwnP w lo v rs us) (hb : Below w.heap.size w w') : OwnP w' lo v rs us :=
 ⟨ownsRow_below h.1 hb, fun i hi => (h.2.1 i hi).below hb, h.2.2⟩
theorem OwnP.slice {w : World} {lo : Nat} {v : Value} {rs : List (List Int)} {us : List Value} (h : OwnP w lo v rs us) : ∃ a c, v = .slice a rs.length c := by
 obtain ⟨a, c, h0, _⟩ := h.rd.len
 exact ⟨a, c, h0⟩
end Go.Proofs.YtcopcegamadkgaaGreatDoor
namespace Go.Proofs.YtcopcegamadkgaaGreatDoor
open Go.RowKit Go.Shelf
attribute [local go_sem] Oper.semAt_some
theorem frames_in (F : Fence) (n : Nat) (h87 : F.fn 36) (hro : F.round = none) (ao : Option Addr) (m cap : Nat) (w : World) :
    CallsIn F n Tryz.prog 36 #[.slice ao m cap] w fun e w' => e = .returned (.func (.func 89) #[] #[.pointer (some ⟨w.heap.size, 0, none⟩)]) ∧ w' = w.alloc (.cells #[.slice ao m cap] 22) := by
 refine callsIn_of_wp Tryz.func36 rfl h87 ?_ hro
 simp only [Tryz.ntmps36, List.size_toArray, List.length_cons, List.length_nil, Nat.reduceAdd, Nat.reduceSub, Array.replicate_succ, Array.replicate_zero, List.push_toArray, List.append_toArray, List.nil_append, List.cons_append]
 gi_wp2
 go_ret
 exact ⟨rfl, rfl⟩
def uOf (vs : Array Value) : Value := match (vs.getD 1 (.slice none 0 0) : Value) with
 | Value.agg us => us.getD 0 (.slice none 0 0)
 | _ => .slice none 0 0
def PreS (R : List (List Int × Nat)) (St : List Value → World → Prop) (s : List Value) (vs : Array Value) (W : World) : Prop :=
 ∃ u W0, vs = #[.int .i64 ((pos R (s.length + 1) : Nat) : Int), .agg #[u]] ∧ s.length < R.length ∧ St s W0 ∧ Below W0.heap.size W0 W ∧ Own .u8 5 W W0.heap.size u (R.getD s.length ([], 0)).1
theorem rd_cutN {w : World} {ao : Option Addr} {n cap : Nat} {a : List Int} (h : Rd .u8 w (.slice ao n cap) a) (hl : a.length = n) (blk o : Nat) (he : ao = some ⟨blk, o, none⟩) (p : Nat) (hp : p ≤ n) : Rd .u8 w (.slice (some ⟨blk, o + p, none⟩) (n - p) (cap - p)) (a.drop p) := by
 obtain ⟨ao', cap', e, h1, h2, h3⟩ := h
 simp only [Value.slice.injEq] at e
 obtain ⟨rfl, hn, rfl⟩ := e
 have hlen : (a.drop p).length = n - p := by rw [List.length_drop]; omega
 refine ⟨_, cap - p, by rw [hlen], by omega, by omega, ?_⟩
 rcases h3 with rfl | ⟨b, o', e2, hb, hc⟩
 · exact .inl (by simp)
 · rw [he] at e2
   simp only [Option.some.injEq, Addr.mk.injEq, and_true] at e2
   obtain ⟨rfl, rfl⟩ := e2
   refine .inr ⟨blk, o + p, rfl, hb, fun j hj => ?_⟩
   rw [hlen] at hj
   have := hc (p + j) (by omega)
   rw [Nat.add_assoc, this]
   simp [List.getD, List.getElem?_drop]
theorem rd_empty (w : World) (ao : Option Addr) (cap : Nat) (hc : cap ≤ maxLen) : Rd .u8 w (.slice ao 0 cap) [] := ⟨ao, cap, rfl, Nat.zero_le _, hc, .inl rfl⟩
end Go.Proofs.YtcopcegamadkgaaGreatDoor
namespace Go.Proofs.YtcopcegamadkgaaGreatDoor
open Go.RowKit
end Go.Proofs.YtcopcegamadkgaaGreatDoor
namespace Go.Proofs.YtcopcegamadkgaaGreatDoor
open Go.RowKit Go.Shelf
attribute [local go_sem] Oper.semAt_some
theorem Tryz.infoP : (Tryz.prog.info? 40).map (fun i => (i.zero, i.size, i.bytes)) = some (some (.agg #[.slice none 0 0]), 1, 24) := by kernel_rfl
theorem ownsRow_notCells {W W' : World} {row : Option Nat} {lo n z : Nat} {e : TypeId} {v : Value} {xs : List Value} (h : W.ownsRow lo e z v n xs) (hg : W.grownBy W' row) (hr : ∀ r, row = some r → ∃ o : Obj, W.heap[r]? = some o ∧ o.isCells = false) : W'.ownsRow lo e z v n xs := by
 refine ⟨h.1, ?_⟩
 rcases h.2 with hn | ⟨g, cap, cur, rfl, hbg, hgg, rest⟩
 · exact .inl hn
 · refine .inr ⟨g, cap, cur, rfl, hbg, ?_, rest⟩
   rw [hg.block g (Array.getElem?_eq_some_iff.1 hgg).1 (fun e => by obtain ⟨o, ho, hc⟩ := hr g e.symm; rw [hgg] at ho; injection ho with ho; rw [← ho] at hc; cases hc)]
   exact hgg
theorem OwnP.mono {w : World} {lo lo' : Nat} {v : Value} {rs : List (List Int)} {us : List Value} (h : OwnP w lo v rs us) (hl : lo' ≤ lo) : OwnP w lo' v rs us := by
 refine ⟨⟨h.1.1, ?_⟩, fun i hi => (h.2.1 i hi).mono hl, h.2.2⟩
 rcases h.1.2 with hn | ⟨g, cap, cur, rfl, hbg, rest⟩
 · exact .inl hn
 · exact .inr ⟨g, cap, cur, rfl, Nat.le_trans hl hbg, rest⟩
theorem below_keeps {B : Nat} {X Y : World} (h : Below X.heap.size X Y) : KeepsFrom B X Y := ⟨h.size, fun k _ _ hk _ => (h.block k (Array.getElem?_eq_some_iff.1 hk).1).trans hk⟩
theorem ne_by_type {w : World} {lo lo' n : Nat} {u v : Value} {xs : List Int} {us : List Value} (ho : Own .u8 5 w lo u xs) (hv : w.ownsRow lo' 40 1 v n us) : Ne2 u v := by
 rcases ho.2 with ⟨rfl, -⟩ | ⟨g, cap, cur, rfl, -, hg, -⟩
 · exact .inl rfl
 · refine .inr ?_
   rcases hv.2 with ⟨rfl, -⟩ | ⟨g', cap', cur', rfl, -, hg', -⟩
   · simp [Value.ownBlock]
   · intro e
     simp only [Value.ownBlock, Option.some.injEq] at e
     subst e
     rw [hg] at hg'
     injection hg' with hg'
     injection hg' with h1 h2
     cases h2
theorem scn_len : ∀ (f : Nat) (a : List Int), (scn f a).length ≤ f
 | 0, a => by simp [scn]
 | f + 1, a => by
  unfold scn
  split
  · have := scn_len f (a.drop (2 + frm_m a)); simp; omega
  · simp
end Go.Proofs.YtcopcegamadkgaaGreatDoor


