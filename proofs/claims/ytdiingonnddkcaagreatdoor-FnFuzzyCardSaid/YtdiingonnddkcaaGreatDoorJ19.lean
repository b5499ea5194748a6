import Derived.Test.YtdiingonnddkcaaGreatDoorJ18
import Derived.Test.YtdiingonnddkcaaGreatDoorJ04
import Derived.Deep.RegionLaw
import Derived.Test.YtdiingonnddkcaaGreatDoorJ02
import Derived.Deep.RegionHeld3
namespace Go.Proofs.YtdiingonnddkcaaGreatDoor
open Go.RowKit

theorem Tch_grown (w : World) (k i : Nat) (v : Value) : w.grownBy (w.setCell ⟨k, i, none⟩ v) (some k) := grownBy_set w w k i v (World.grownBy.refl _ _)

theorem rowX3 {w : World} {lo n : Nat} {e : TypeId} {v : Value} {us : List Value} (h : w.ownsRow lo e 1 v n us) : ∃ a c, v = .slice a n c ∧ n ≤ c ∧ c ≤ maxLen := by
  rcases h.2 with ⟨rfl, rfl⟩ | ⟨g, cap, cur, rfl, -, -, h1, h2, -⟩
  · exact ⟨none, 0, rfl, Nat.le_refl _, Nat.zero_le _⟩
  · exact ⟨_, _, rfl, h1, h2⟩

theorem rowXs {w : World} {lo n : Nat} {e : TypeId} {v : Value} {us : List Value} (h : w.ownsRow lo e 1 v n us) (h0 : 0 < n) : ∃ g c, v = .slice (some ⟨g, 0, none⟩) n c := by
  rcases h.2 with ⟨rfl, h1⟩ | ⟨g, cap, cur, rfl, -⟩
  · omega
  · exact ⟨g, cap, rfl⟩
theorem rowXc {w : World} {lo i g c j x : Nat} {v : Value} {ys : List Int} (h : w.ownsRow lo 5 1 v ys.length (ys.map (Value.int .u8))) (hv : v = .slice (some ⟨g, 0, none⟩) i c) (hl : ys.length = i) (hj : j < i) (hx : ys.getD j 0 = (x : Int)) : w.cell? ⟨g, j, none⟩ = some (.int .u8 (x : Int)) := by
  subst hv
  rw [hl] at h
  rw [World.ownsRow.cellAt h j (by omega), ← hx]
  simp [List.getD, hl, hj]

/-- The source's box while it is made. -/
def SBX (w wr : World) (v : Value) (xs : List Int) (mx : Int) : Prop :=
  w.heap.size < wr.heap.size ∧ (∀ j, wr.frozen? ⟨w.heap.size, j, none⟩ = false) ∧ wr.cell? ⟨w.heap.size, 0, none⟩ = some v ∧ wr.cell? ⟨w.heap.size, 1, none⟩ = some (.int .i64 0) ∧ wr.cell? ⟨w.heap.size, 2, none⟩ = some (.int .i64 mx) ∧ wr.cell? ⟨w.heap.size, 3, none⟩ = some (.int .i64 0) ∧
    wr.ownsRow (w.heap.size + 1) 5 1 v xs.length (xs.map (Value.int .u8)) ∧ Below w.heap.size w wr

theorem SBX.push {w wr w3 : World} {v v3 : Value} {ys : List Int} {x : Int} {mx : Int} (h : SBX w wr v ys mx) (hb : Below (w.heap.size + 1) wr w3) (ho : w3.ownsRow (w.heap.size + 1) 5 1 v3 (ys.length + 1) (ys.map (Value.int .u8) ++ [.int .u8 x])) : SBX w (w3.setCell ⟨w.heap.size, 0, none⟩ v3) v3 (ys ++ [x]) mx := by
  obtain ⟨sz, fr, c0, c1, c2, c3, ow, bl⟩ := h
  have e : ∀ i, i ≠ 0 → (w3.setCell ⟨w.heap.size, 0, none⟩ v3).cell? ⟨w.heap.size, i, none⟩ = wr.cell? ⟨w.heap.size, i, none⟩ := fun i hi => by
    rw [World.cell?_setCell_other _ _ _ _ (by intro e; injection e with _ e; omega)]
    exact hb.cell (p := ⟨w.heap.size, i, none⟩) (Nat.lt_succ_self _)
  have k0 : w3.cell? ⟨w.heap.size, 0, none⟩ = some v := (hb.cell (p := ⟨w.heap.size, 0, none⟩) (Nat.lt_succ_self _)).trans c0
  refine ⟨by have := hb.size; simp; omega, fun j => ?_, World.cell?_setCell_same _ _ _ k0, (e 1 (by omega)).trans c1, (e 2 (by omega)).trans c2, (e 3 (by omega)).trans c3, ?_, (bl.trans (hb.mono (by omega))).setCell (Nat.le_refl _) _⟩
  · rw [World.frozen?_setCell]; exact (hb.frozen (p := ⟨w.heap.size, j, none⟩) (Nat.lt_succ_self _)).trans (fr j)
  · rw [List.length_append, List.map_append]
    refine World.ownsRow.kept ho (row := some w.heap.size) (Tch_grown _ _ _ _) ?_
    cases hv : v3.ownBlock with
    | none => exact .inl rfl
    | some g => exact .inr (fun e => by have := (World.ownsRow.lt ho g hv).1; injection e with e; omega)

theorem SBX.mix {w wr : World} {v : Value} {ys : List Int} {mx : Int} (h : SBX w wr v ys mx) (q : Nat) (mx' : Int) : SBX w ((wr.drewN q).setCell ⟨w.heap.size, 2, none⟩ (.int .i64 mx')) v ys mx' := by
  obtain ⟨sz, fr, c0, c1, c2, c3, ow, bl⟩ := h
  have e : ∀ i, i ≠ 2 → ((wr.drewN q).setCell ⟨w.heap.size, 2, none⟩ (.int .i64 mx')).cell? ⟨w.heap.size, i, none⟩ = wr.cell? ⟨w.heap.size, i, none⟩ := fun i hi => World.cell?_setCell_other _ _ _ _ (by intro e; injection e with _ e; omega)
  refine ⟨by show _ < (World.setCell _ _ _).heap.size; simpa using sz, fun j => ?_, (e 0 (by omega)).trans c0, (e 1 (by omega)).trans c1, World.cell?_setCell_same _ _ _ c2, (e 3 (by omega)).trans c3, ?_, (bl.trans ((below_drewN' wr q).mono (by omega))).setCell (Nat.le_refl _) _⟩
  · rw [World.frozen?_setCell]; exact fr j
  · refine World.ownsRow.kept (w := wr.drewN q) ow (row := some w.heap.size) (Tch_grown _ _ _ _) ?_
    cases hv : v.ownBlock with
    | none => exact .inl rfl
    | some g => exact .inr (fun e => by have := (World.ownsRow.lt ow g hv).1; injection e with e; omega)

theorem SBX.drew {w wr : World} {v : Value} {ys : List Int} {mx : Int} (h : SBX w wr v ys mx) : SBX w wr.drew v ys mx := ⟨h.1, h.2.1, h.2.2.1, h.2.2.2.1, h.2.2.2.2.1, h.2.2.2.2.2.1, h.2.2.2.2.2.2.1, h.2.2.2.2.2.2.2.drew⟩

/-- The mixed number behind some bytes. -/
def mixR (m : Nat) (ys : List Int) : Nat := ys.foldl (fun m x => (m * 257 + x.toNat + 1) % 1000003) m
theorem mixR_succ (m : Nat) (ys : List Int) (j x : Nat) (h : j < ys.length) (hx : ys.getD j 0 = (x : Int)) : mixR m (ys.take (j + 1)) = (mixR m (ys.take j) * 257 + x + 1) % 1000003 := by
  unfold mixR
  rw [List.take_succ_eq_append_getElem h, List.foldl_append]
  simp only [List.getD, List.getElem?_eq_getElem h, Option.getD_some] at hx
  simp [hx]
/-- The source of some bytes. -/
def srcOf (xs : List Int) : Sr := ⟨xs.take 4000, 0, mixR (xs.length % 1000 + 53) (xs.take 4000), min 7 (1 + (xs.take 4000).length / 50)⟩
theorem SBX.src {w wr : World} {v : Value} {ys : List Int} {m z : Nat} (h : SBX w wr v ys (m : Int)) (h1 : m < 1000003) (hl : ys.length ≤ 4000) (hby : Byt ys) (hz : 1 ≤ z ∧ z ≤ 7) : ∀ w2, (w2 = wr.setCell ⟨w.heap.size, 3, none⟩ (.int .i64 (z : Int)) ∨ ∃ u, w2 = (wr.setCell ⟨w.heap.size, 3, none⟩ u).setCell ⟨w.heap.size, 3, none⟩ (.int .i64 (z : Int))) → SRX w2 w.heap.size wr.heap.size ⟨ys, 0, m, z⟩ ∧ Below w.heap.size w w2 := by
  obtain ⟨sz, fr, c0, c1, c2, c3, ow, bl⟩ := h
  intro w2 hw2
  have e : ∀ (p : Addr), p ≠ ⟨w.heap.size, 3, none⟩ → w2.cell? p = wr.cell? p := by
    intro p hp
    rcases hw2 with rfl | ⟨u, rfl⟩
    · exact World.cell?_setCell_other _ _ _ _ (fun h => hp (by first | exact h | exact h.symm))
    · rw [World.cell?_setCell_other _ _ _ _ (fun h => hp (by first | exact h | exact h.symm))]
      exact World.cell?_setCell_other _ _ _ _ (fun h => hp (by first | exact h | exact h.symm))
  have e3 : w2.cell? ⟨w.heap.size, 3, none⟩ = some (.int .i64 (z : Int)) := by
    rcases hw2 with rfl | ⟨u, rfl⟩
    · exact World.cell?_setCell_same _ _ _ c3
    · exact World.cell?_setCell_same _ _ _ (World.cell?_setCell_same _ _ _ c3)
  have ef : ∀ j, w2.frozen? ⟨w.heap.size, j, none⟩ = false := by
    intro j
    rcases hw2 with rfl | ⟨u, rfl⟩
    · rw [World.frozen?_setCell]; exact fr j
    · rw [World.frozen?_setCell, World.frozen?_setCell]; exact fr j
  have es : w2.heap.size = wr.heap.size := by
    rcases hw2 with rfl | ⟨u, rfl⟩ <;> simp
  have eb : Below w.heap.size w w2 := by
    rcases hw2 with rfl | ⟨u, rfl⟩
    · exact bl.setCell (Nat.le_refl _) _
    · exact (bl.setCell (Nat.le_refl _) _).setCell (Nat.le_refl _) _
  obtain ⟨va, vc, hv, -, -⟩ := rowX3 ow
  refine ⟨⟨sz, by rw [es]; exact Nat.le_refl _, ef, ⟨va, vc, by rw [e _ (by simp), c0, hv], ?_⟩, (e _ (by simp)).trans c1, (e _ (by simp)).trans c2, e3, h1, hl, Nat.zero_le _, hby, hz⟩, eb⟩
  by_cases hz : ys = []
  · exact .inl hz
  · have hp : 0 < ys.length := List.length_pos_iff.2 hz
    obtain ⟨g, c, hv2⟩ := rowXs ow hp
    have hva : va = some ⟨g, 0, none⟩ := by rw [hv] at hv2; simp only [Value.slice.injEq] at hv2; exact hv2.1
    have hg : w.heap.size + 1 ≤ g := (World.ownsRow.lt ow g (by rw [hv2]; rfl)).1
    refine .inr ⟨g, hva, by omega, (World.ownsRow.lt ow g (by rw [hv2]; rfl)).2, fun i hi => ?_⟩
    obtain ⟨x, hx, hxe⟩ := byt_at hby i
    show w2.cell? _ = some (.int .u8 (ys.getD i 0))
    rw [hxe]
    exact (e _ (by intro h; injection h with h; omega)).trans (rowXc ow hv2 rfl hi hxe)

theorem mixX_ok (mx x : Nat) (h1 : mx < 1000003) (hx : x < 256) : (IntKind.i64.wrap (IntKind.i64.wrap (IntKind.i64.wrap ((mx : Int) * 257) + IntKind.i64.wrap (x : Int)) + 1)).tmod 1000003 = (((mx * 257 + x + 1) % 1000003 : Nat) : Int) := by
  have e1 : IntKind.i64.wrap ((mx : Int) * 257) = (mx : Int) * 257 := by rw [IntKind.wrap_i64]; omega
  have e2 : IntKind.i64.wrap (x : Int) = (x : Int) := by rw [IntKind.wrap_i64]; omega
  have e3 : IntKind.i64.wrap ((mx : Int) * 257 + (x : Int)) = (mx : Int) * 257 + (x : Int) := by rw [IntKind.wrap_i64]; omega
  have e4 : IntKind.i64.wrap ((mx : Int) * 257 + (x : Int) + 1) = (mx : Int) * 257 + (x : Int) + 1 := by rw [IntKind.wrap_i64]; omega
  rw [e1, e2, e3, e4, Int.tmod_eq_emod_of_nonneg (by omega)]
  omega

set_option maxHeartbeats 4000000 in
set_option maxRecDepth 100000 in
theorem sourceX_row (w : World) (b o n cap : Nat) (xs : List Int) (hx : xs.length = n) (hb : b < w.heap.size) (hc : ∀ i, i < n → w.cell? ⟨b, o + i, none⟩ = some (.int .u8 (xs.getD i 0))) (hby : Byt xs) (hn : n ≤ 1048576) :
    Calls Tryz.prog 21 #[.slice (some ⟨b, o, none⟩) n cap] w fun e w' => ∃ k, e = .returned (.pointer (some ⟨k, 0, none⟩)) ∧ w.heap.size ≤ k ∧ SRX w' k w'.heap.size (srcOf xs) ∧ Below w.heap.size w w' := by
  obtain ⟨i0, hi, hz0, hz1, hz2⟩ := info_parts Tryz.infoB
  have HC : Hid (∀ i, i < n → w.cell? ⟨b, o + i, none⟩ = some (.int .u8 (xs.getD i 0))) := hc
  have HX : Hid (xs.length = n) := hx
  have HBY : Hid (Byt xs) := hby
  clear hc hx hby
  go_enter Tryz.func21, Tryz.ntmps21
  go_wp2
  go_loopw [4] (fun vi wr => ∃ (i : Nat) (v : Value), i ≤ n ∧ i ≤ 4000 ∧ vi = .int .i64 i ∧ Hid (SBX w wr v (xs.take i) 0)) (fun i _ => n - (intOf i).toNat)
  case atStart =>
    refine ⟨0, .slice none 0 0, Nat.zero_le _, Nat.zero_le _, rfl, ?_⟩
    refine ⟨by simp, fun j => (by go_simp), (by go_simp), (by go_simp), (by go_simp), (by go_simp), ?_, (Below.refl _ _).alloc (Nat.le_refl _) _⟩
    rw [List.take_zero]; exact World.ownsRow_nil _ _ _ _
  case round =>
    obtain ⟨i, v, hi1, hi2, rfl, HSB⟩ := hrel
    by_cases hlt : i < n ∧ i < 4000
    · obtain ⟨hl1, hl2⟩ := hlt
      have hI1 : (i : Int) < (n : Int) := by omega
      have hI2 : (i : Int) < 4000 := by omega
      obtain ⟨sz, fr, c0, c1, c2, c3, ow, bl⟩ := HSB.out
      have f0 := fr 0
      obtain ⟨va, vc, rfl, -, -⟩ := rowX3 ow
      have hl : (xs.take i).length = i := by rw [List.length_take, HX.out]; omega
      rw [hl] at c0 ow
      obtain ⟨x, hx8, hxe⟩ := byt_at HBY.out i
      have cx : wr.cell? ⟨b, o + i, none⟩ = some (.int .u8 (x : Int)) := by rw [bl.cell (p := ⟨b, o + i, none⟩) hb, HC.out i hl1, hxe]
      have HOW : Hid (wr.ownsRow (w.heap.size + 1) 5 1 (.slice va i vc) i ((xs.take i).map (Value.int .u8))) := ow
      have HBL : Hid (Below w.heap.size w wr) := bl
      have hsz1 : w.heap.size + 1 ≤ wr.heap.size := sz
      have HXT : Hid (xs.take (i + 1) = xs.take i ++ [(x : Int)]) := by
        have hl' : i < xs.length := by rw [HX.out]; exact hl1
        have he := hxe
        simp only [List.getD, List.getElem?_eq_getElem hl', Option.getD_some] at he
        show _ = _
        rw [List.take_succ_eq_append_getElem hl', he]
      have HLEN : Hid ((xs.take i).length = i) := hl
      have HSB0 : Hid (SBX w wr (.slice va i vc) (xs.take i) 0) := by have h := HSB.out; rw [hl] at h; exact h
      clear fr ow bl hl hxe HSB
      generalize hL : (xs.take i).map (Value.int .u8) = L at *
      have HL : Hid ((xs.take i).map (Value.int .u8) = L) := hL
      clear hL
      go_wp2
      go_region_law (first | (refine step_append rfl (.tmp 18) (.tmp 23) 22 rfl (w.heap.size + 1) 5 i0 (.int .u8 0) 1 1 Tryz.underlying22 hi hz0 hz1 hz2 rfl (by decide) (.slice va i vc) i L rfl (HOW.out.alloc _) ⟨wr.heap.size, 0, none⟩ 1 1 [.int .u8 (x : Int)] rfl rfl (cell_one_new _ _ _) (by intro u hu; simp at hu; subst hu; rfl) (by unfold maxLen; omega) (by omega) (by simp; omega) ?_; intro v3 w3 ho3 hg3; have b3 : Hid (Below (w.heap.size + 1) wr w3) := Below.grown (by first | exact ((Below.refl _ _).alloc hsz1 _).drew | exact ((Below.refl _ _).drew).alloc hsz1 _) hg3 (by simp; omega) (fun q hq => (World.ownsRow.lt HOW.out q hq).1); have k0 : w3.cell? ⟨w.heap.size, 0, none⟩ = some (.slice va i vc) := (b3.out.cell (p := ⟨w.heap.size, 0, none⟩) (Nat.lt_succ_self _)).trans c0; have k1 : w3.frozen? ⟨w.heap.size, 0, none⟩ = false := (b3.out.frozen (p := ⟨w.heap.size, 0, none⟩) (Nat.lt_succ_self _)).trans f0; obtain ⟨a3, c3', hv3, -, -⟩ := rowX3 ho3; subst hv3; have HO3 : Hid (w3.ownsRow (w.heap.size + 1) 5 1 (.slice a3 (i + 1) c3') (i + 1) (L ++ [.int .u8 (x : Int)])) := ho3; clear ho3 hg3))
      all_goals
        have HSB2 : Hid (SBX w (w3.setCell ⟨w.heap.size, 0, none⟩ (.slice a3 (i + 1) c3')) (.slice a3 (i + 1) c3') (xs.take (i + 1)) 0) := by
          have hp := HSB0.out.push (x := (x : Int)) b3.out (by rw [HLEN.out, HL.out]; exact HO3.out)
          rw [← HXT.out] at hp
          exact hp
        clear k0 k1 HO3 b3
        generalize w3.setCell ⟨w.heap.size, 0, none⟩ (.slice a3 (i + 1) c3') = w4 at *
        go_wp2
        exact ⟨⟨i + 1, _, by omega, by omega, by go_num, HSB2⟩, by simp [intOf]; omega⟩
    · have hex : (¬ (i : Int) < (n : Int)) ∨ ((i : Int) < (n : Int) ∧ ¬ (i : Int) < 4000) := by omega
      clear hlt
      obtain ⟨ys, hys⟩ : ∃ ys, ys = xs.take i := ⟨_, rfl⟩
      have HSO : Hid (srcOf xs = ⟨ys, 0, mixR (n % 1000 + 53) ys, min 7 (1 + i / 50)⟩) := by
        have ht : xs.take 4000 = ys := by
          rw [hys]
          by_cases h4 : i < 4000
          · have hin : i = n := by omega
            rw [List.take_of_length_le (by rw [HX.out]; omega), List.take_of_length_le (by rw [HX.out]; omega)]
          · rw [show i = 4000 by omega]
        show _ = _
        unfold srcOf
        rw [ht, HX.out]
        congr 3
        rw [hys, List.length_take, HX.out]
        congr 1
        omega
      rw [← hys] at HSB
      have hyl : ys.length = i := by rw [hys, List.length_take, HX.out]; omega
      have HYB : Hid (Byt ys) := by rw [hys]; exact fun y hy => HBY.out y (List.mem_of_mem_take hy)
      have HYL : Hid (ys.length = i) := hyl
      clear hys hyl
      obtain ⟨sz, fr, c0, c1, c2, c3, ow, bl⟩ := HSB.out
      have f2 := fr 2
      clear fr ow bl
      rcases hex with h1 | ⟨h1, h2⟩
      all_goals
        go_wp2
        have HS1 : Hid (SBX w (wr.setCell ⟨w.heap.size, 2, none⟩ (.int .i64 ((n : Int) % 1000 + 53))) v ys ((n : Int) % 1000 + 53)) := HSB.out.mix 0 _
        have hmx : n % 1000 + 53 < 1000003 := by omega
        have hme : (n : Int) % 1000 + 53 = ((n % 1000 + 53 : Nat) : Int) := by omega
        rw [hme] at HS1
        rw [hme]
        clear hme
        generalize n % 1000 + 53 = m0 at *
        clear c0 c1 c2 c3 f2 HSB sz
        generalize wr.setCell ⟨w.heap.size, 2, none⟩ (.int .i64 (m0 : Int)) = w5 at *
        go_loopw [5] (fun vi wr => ∃ (j mx : Nat), j ≤ i ∧ vi = .int .i64 j ∧ Hid (mx = mixR m0 (ys.take j)) ∧ mx < 1000003 ∧ Hid (SBX w wr v ys (mx : Int))) (fun x _ => i - (intOf x).toNat)
        case atStart => exact ⟨0, m0, Nat.zero_le _, rfl, rfl, hmx, HS1⟩
        case round =>
          clear HS1 hmx
          obtain ⟨j, mx, hj, rfl, HM, hm1, HSJ⟩ := hrel
          obtain ⟨sz, fr, c0, c1, c2, c3, ow, bl⟩ := HSJ.out
          have f2 := fr 2
          have f3 := fr 3
          by_cases hji : j < i
          · have hjI : (j : Int) < (i : Int) := by omega
            obtain ⟨g, vc, hva⟩ := rowXs ow (by rw [HYL.out]; omega)
            rw [HYL.out] at hva
            obtain ⟨x, hx8, hxe⟩ := byt_at HYB.out j
            have cx : wr.cell? ⟨g, j, none⟩ = some (.int .u8 (x : Int)) := rowXc ow hva HYL.out hji hxe
            rw [hva] at c0
            have HM2 : Hid ((mx * 257 + x + 1) % 1000003 = mixR m0 (ys.take (j + 1))) := by
              show _ = _
              rw [mixR_succ m0 ys j x (by rw [HYL.out]; exact hji) hxe, HM.out]
            clear ow bl hxe hva fr HM
            go_wp2
            go_region_law (fail)
            all_goals
              rw [mixX_ok mx x hm1 hx8]
              have hmk : (mx * 257 + x + 1) % 1000003 < 1000003 := Nat.mod_lt _ (by omega)
              generalize (mx * 257 + x + 1) % 1000003 = m2 at *
              have HS2 : Hid (SBX w ((wr.setCell ⟨w.heap.size, 2, none⟩ (.int .i64 (m2 : Int))).drew) v ys (m2 : Int)) := (HSJ.out.mix 0 (m2 : Int)).drew
              generalize (wr.setCell ⟨w.heap.size, 2, none⟩ (.int .i64 (m2 : Int))).drew = w6 at *
              clear c0 c1 c2 c3 cx f2 f3 HSJ
              go_wp2
              exact ⟨⟨j + 1, m2, by omega, by go_num, HM2, hmk, HS2⟩, by simp [intOf]; omega⟩
          · have hjI : ¬ (j : Int) < (i : Int) := by omega
            have hji2 : j = i := by omega
            obtain ⟨va, vc, hva, -, -⟩ := rowX3 ow
            rw [HYL.out] at hva
            rw [hva] at c0
            have HMY : Hid (mx = mixR m0 ys) := by
              have := HM.out
              rw [hji2, ← HYL.out, List.take_length] at this
              exact this
            have HSR := HSJ.out.src hm1 (by rw [HYL.out]; omega) HYB.out (z := min 7 (1 + i / 50)) (by omega)
            have HSS : Hid (∀ w2, (w2 = wr.setCell ⟨w.heap.size, 3, none⟩ (.int .i64 (min 7 (1 + i / 50) : Nat)) ∨ ∃ u, w2 = (wr.setCell ⟨w.heap.size, 3, none⟩ u).setCell ⟨w.heap.size, 3, none⟩ (.int .i64 (min 7 (1 + i / 50) : Nat))) → SRX w2 w.heap.size wr.heap.size (srcOf xs) ∧ Below w.heap.size w w2) := by
              intro w2 hw2
              have := HSR w2 hw2
              rw [HSO.out, ← HMY.out]
              exact this
            clear bl HSR ow HM HMY HSO
            by_cases h7 : 7 < 1 + i / 50
            · have h7I : (7 : Int) < 1 + (i : Int) / 50 := by omega
              have e7 : min 7 (1 + i / 50) = 7 := by omega
              rw [e7] at HSS
              go_wp2
              go_ret
              refine ⟨_, rfl, Nat.le_refl _, SRX.mono (HSS.out _ (.inr ⟨_, rfl⟩)).1 (by simp) (by simp), (HSS.out _ (.inr ⟨_, rfl⟩)).2⟩
            · first
                | (exfalso; omega)
                | (have h7I : ¬ (7 : Int) < 1 + (i : Int) / 50 := by omega
                   have e7 : ((min 7 (1 + i / 50) : Nat) : Int) = 1 + (i : Int) / 50 := by omega
                   rw [e7] at HSS
                   clear e7
                   go_wp2
                   go_ret
                   refine ⟨_, rfl, Nat.le_refl _, SRX.mono (HSS.out _ (.inl rfl)).1 (by simp) (by simp), (HSS.out _ (.inl rfl)).2⟩)

set_option maxHeartbeats 400000 in
set_option maxRecDepth 100000 in
theorem sourceX_nil (w : World) (ao : Option Addr) (cap : Nat) :
    Calls Tryz.prog 21 #[.slice ao 0 cap] w fun e w' => ∃ k, e = .returned (.pointer (some ⟨k, 0, none⟩)) ∧ w.heap.size ≤ k ∧ SRX w' k w'.heap.size (srcOf []) ∧ Below w.heap.size w w' := by
  go_enter Tryz.func21, Tryz.ntmps21
  go_wp2
  go_rounds 1
  go_rounds 1
  go_ret
  refine ⟨_, rfl, Nat.le_refl _, ⟨by simp, by simp, fun j => (by go_simp), ⟨none, 0, (by go_simp; rfl), .inl rfl⟩, (by go_simp; rfl), (by go_simp; rfl), (by go_simp; rfl), by decide, by decide, by decide, fun x hx => by simp [srcOf] at hx, by decide⟩, ?_⟩
  repeat (first | exact Below.refl _ _ | refine Below.setCell ?_ (by simp) _ | refine Below.alloc ?_ (by simp) _)

theorem sourceX_any (w : World) (v : Value) (xs : List Int) (h : Rd .u8 w v xs) (hby : Byt xs) (hn : xs.length ≤ 1048576) :
    Calls Tryz.prog 21 #[v] w fun e w' => ∃ k, e = .returned (.pointer (some ⟨k, 0, none⟩)) ∧ w.heap.size ≤ k ∧ SRX w' k w'.heap.size (srcOf xs) ∧ Below w.heap.size w w' := by
  obtain ⟨ao, cap, rfl, h1, h2, h3⟩ := h
  rcases h3 with rfl | ⟨b, o, rfl, hb, hc⟩
  · exact sourceX_nil w ao cap
  · exact sourceX_row w b o xs.length cap xs rfl hb hc hby hn


theorem rowTch {w w' : World} {lo k m n : Nat} {e : TypeId} {v : Value} {us : List Value} (h : w.ownsRow lo e m v n us) (t : Tch k w w') (hk : k < lo) : w'.ownsRow lo e m v n us := by
  refine ⟨h.1, ?_⟩
  rcases h.2 with hn | ⟨g, cap, cur, rfl, hbg, hgg, rest⟩
  · exact .inl hn
  · exact .inr ⟨g, cap, cur, rfl, hbg, (t.2 g (by omega) (Array.getElem?_eq_some_iff.1 hgg).1).trans hgg, rest⟩

/-- Drawn bytes. -/
def Sr.bytes (s : Sr) : Nat → List Int × Sr
  | 0 => ([], s)
  | n + 1 => ((s.bytes n).1 ++ [(((s.bytes n).2.next 256).1 : Int)], ((s.bytes n).2.next 256).2)
theorem Sr.bytes_len (s : Sr) : ∀ n, (s.bytes n).1.length = n
  | 0 => rfl
  | n + 1 => by show ((s.bytes n).1 ++ [_]).length = _; rw [List.length_append, s.bytes_len n]; rfl
set_option maxHeartbeats 1000000 in
set_option maxRecDepth 100000 in
theorem bytes_x (W : World) (k B n : Nat) (s : Sr) (h : SRX W k B s) (hn : n ≤ 1000) :
    Calls Tryz.prog 25 #[.pointer (some ⟨k, 0, none⟩), .int .i64 (n : Int)] W fun e w' => ∃ v', e = .returned v' ∧ Own .u8 5 w' W.heap.size v' (s.bytes n).1 ∧ SRX w' k B (s.bytes n).2 ∧ Tch k W w' := by
  obtain ⟨i0, hi, hz0, hz1, hz2⟩ := info_parts Tryz.infoB
  have HS : Hid (SRX W k B s) := h
  have HLEN : Hid (∀ n, (s.bytes n).1.length = n) := s.bytes_len
  have hk1 := h.kB
  have hk2 := h.lt
  clear h
  go_enter Tryz.func25, Tryz.ntmps25
  go_wp2
  go_loopw [5, 6] (fun v i wr => ∃ (j : Nat) (u : Value), j ≤ n ∧ u = v ∧ i = .int .i64 j ∧ Hid (wr.ownsRow W.heap.size 5 1 u j ((s.bytes j).1.map (Value.int .u8))) ∧ Hid (SRX wr k B (s.bytes j).2) ∧ Hid (Tch k W wr)) (fun _ i _ => n - (intOf i).toNat)
  case atStart =>
    have bA : Below W.heap.size W (W.alloc (.cells #[] 5)) := (Below.refl _ _).alloc (Nat.le_refl _) _
    exact ⟨0, _, Nat.zero_le _, rfl, rfl, World.ownsRow_lit W #[] 0 (Nat.le_refl _) (Nat.zero_le _) rfl, HS.out.keep (bA.mono hk2), Tch.of bA⟩
  case round =>
    obtain ⟨j, u, hj, rfl, rfl, HO, HR, HT⟩ := hrel
    by_cases hlt : j < n
    · have hltI : (j : Int) < (n : Int) := by omega
      have HNX : Hid ((s.bytes (j + 1)) = ((s.bytes j).1 ++ [(((s.bytes j).2.next 256).1 : Int)], ((s.bytes j).2.next 256).2)) := rfl
      have HNL : Hid ((s.bytes j).1.length = j) := HLEN.out j
      generalize s.bytes j = q at *
      go_wp2_with fail
      refine (next_x _ k B 256 q.2 HR.out (by omega)).mono ?_
      rintro e w1 ⟨rfl, s1, t1⟩
      have hn1 := q.2.next_lt 256 (by omega)
      generalize (q.2.next 256).2 = r1 at *
      generalize (q.2.next 256).1 = n1 at *
      have S1 : Hid (SRX w1 k B r1) := s1
      have T1 : Hid (Tch k W w1) := HT.out.trans t1
      have O1 : Hid (w1.ownsRow W.heap.size 5 1 u j (q.1.map (Value.int .u8))) := rowTch HO.out t1 (by omega)
      have zz := T1.out.size
      clear s1 t1 HR HT HO
      go_wp2_with (at_builtin; go_must (refine wpList_append_own _ rfl _ _ 22 rfl W.heap.size 5 i0 (.int .u8 0) 1 1 Tryz.underlying22 hi hz0 hz1 hz2 rfl (by decide) _ _ _ rfl (O1.out.alloc _) ⟨w1.heap.size, 0, none⟩ 1 1 [.int .u8 (n1 : Int)] rfl rfl (cell_one_new _ _ _) (by intro u hu; simp at hu; subst hu; rfl) ?c3 ?c4 ?c5 ?_))
      case c3 => unfold maxLen; omega
      case c4 => omega
      case c5 => simp; omega
      intro v2 w2 ho2 hg2 _
      have bg : Below W.heap.size w1 w2 := ((Below.refl _ w1).alloc zz _).grown hg2 (by simp; omega) (fun q hq => (O1.out.lt q hq).1)
      have HO2 : Hid (w2.ownsRow W.heap.size 5 1 v2 (j + 1) ((s.bytes (j + 1)).1.map (Value.int .u8))) := by
        show World.ownsRow _ _ _ _ _ _ _; rw [HNX.out, List.map_append]; exact ho2
      have HR2 : Hid (SRX w2 k B (s.bytes (j + 1)).2) := by
        show SRX _ _ _ _; rw [HNX.out]; exact S1.out.keep (bg.mono hk2)
      have HT2 : Hid (Tch k W w2) := T1.out.then bg
      clear ho2 hg2 bg O1 S1 T1
      go_wp2
      exact ⟨⟨j + 1, _, by omega, rfl, by go_num, HO2, HR2, HT2⟩, by simp [intOf]; omega⟩
    · have hjn : j = n := by omega
      subst hjn
      go_wp2
      go_ret
      exact ⟨_, rfl, by unfold Own; rw [HLEN.out]; exact HO.out, HR.out, HT.out⟩


/-- A drawn path. -/
def drP : Nat → List UInt8 → Sr → List UInt8 × Sr
  | 0, out, s => (out, s)
  | d + 1, out, s =>
    if (s.next 12).1 < 9 then drP d (out ++ [47, UInt8.ofNat (97 + (s.next 12).1 % 3)]) (s.next 12).2
    else if (s.next 12).1 = 9 then drP d (out ++ [47, 110, 48]) (s.next 12).2
    else if (s.next 12).1 = 10 then drP d (out ++ [47, 122, 122, 57]) (s.next 12).2
    else (out ++ [47, 98], (s.next 12).2)
def Sr.path (s : Sr) : List UInt8 × Sr := drP (1 + (s.next 3).1) [] (s.next 3).2
theorem drP_len : ∀ (d : Nat) (out : List UInt8) (s : Sr), (drP d out s).1.length ≤ out.length + 4 * d
  | 0, out, s => Nat.le_refl _
  | d + 1, out, s => by
    unfold drP
    split
    · have := drP_len d (out ++ [47, UInt8.ofNat (97 + (s.next 12).1 % 3)]) (s.next 12).2
      simp at this ⊢; omega
    · split
      · have := drP_len d (out ++ [47, 110, 48]) (s.next 12).2
        simp at this ⊢; omega
      · split
        · have := drP_len d (out ++ [47, 122, 122, 57]) (s.next 12).2
          simp at this ⊢; omega
        · simp; omega
theorem Sr.path_len (s : Sr) : s.path.1.length ≤ 12 := by
  have := drP_len (1 + (s.next 3).1) [] (s.next 3).2
  have := s.next_lt 3 (by omega)
  unfold Sr.path
  simp at *
  omega
theorem rd_one (W : World) (x : Nat) : Rd .u8 (W.alloc (.cells #[.int .u8 (x : Int)] 5)) (.slice (some ⟨W.heap.size, 0, none⟩) 1 1) [(x : Int)] := by
  refine ⟨_, _, rfl, Nat.le_refl _, by unfold maxLen; omega, .inr ⟨W.heap.size, 0, rfl, by simp, fun i hi => ?_⟩⟩
  have : i = 0 := by simp at hi; omega
  subst this
  simp

set_option maxHeartbeats 4000000 in
set_option maxRecDepth 100000 in
theorem path_x (W : World) (k B : Nat) (s : Sr) (h : SRX W k B s) :
    Calls Tryz.prog 103 #[.pointer (some ⟨k, 0, none⟩)] W fun e w' => e = .returned (.string ⟨s.path.1.toArray⟩) ∧ SRX w' k B s.path.2 ∧ Tch k W w' := by
  have HS : Hid (SRX W k B s) := h
  have hk1 := h.kB
  have hk2 := h.lt
  obtain ⟨res, hres⟩ : ∃ res, res = s.path := ⟨_, rfl⟩
  have HRES : Hid (s.path = res) := hres.symm
  rw [← hres]
  clear h hres
  go_enter Tryz.func103, Tryz.ntmps103
  go_wp2_with fail
  refine (next_x _ k B 3 s HS.out (by omega)).mono ?_
  rintro e w1 ⟨rfl, s1, t1⟩
  have hn1 := s.next_lt 3 (by omega)
  have HD : Hid (drP (1 + (s.next 3).1) [] (s.next 3).2 = res) := HRES.out
  generalize (s.next 3).2 = r1 at *
  generalize (s.next 3).1 = n1 at *
  have S1 : Hid (SRX w1 k B r1) := s1
  have T1 : Hid (Tch k W w1) := t1
  clear s1 t1 HS HRES
  go_wp2
  go_loopw [3, 4] (fun o d wr => ∃ (j : Nat) (l : List UInt8) (q : Sr), j ≤ 3 ∧ l.length ≤ 12 - 4 * j ∧ o = .string ⟨l.toArray⟩ ∧ d = .int .i64 j ∧ Hid (drP j l q = res) ∧ Hid (SRX wr k B q) ∧ Hid (Tch k W wr)) (fun _ d _ => (intOf d).toNat)
  case atStart => exact ⟨1 + n1, [], r1, by omega, by simp, rfl, by go_num, HD, S1, T1⟩
  case round =>
    clear HD S1 T1
    obtain ⟨j, l, q, hj, hl, rfl, rfl, HD, HR, HT⟩ := hrel
    by_cases hlt : 0 < j
    · obtain ⟨j, rfl⟩ : ∃ i, j = i + 1 := ⟨j - 1, by omega⟩
      have hltI : (0 : Int) < ((j + 1 : Nat) : Int) := by omega
      go_wp2_with fail
      refine (next_x _ k B 12 q HR.out (by omega)).mono ?_
      rintro e w2 ⟨rfl, s2, t2⟩
      have hn2 := q.next_lt 12 (by omega)
      have HD2 : Hid ((if (q.next 12).1 < 9 then drP j (l ++ [47, UInt8.ofNat (97 + (q.next 12).1 % 3)]) (q.next 12).2
        else if (q.next 12).1 = 9 then drP j (l ++ [47, 110, 48]) (q.next 12).2
        else if (q.next 12).1 = 10 then drP j (l ++ [47, 122, 122, 57]) (q.next 12).2
        else (l ++ [47, 98], (q.next 12).2)) = res) := HD.out
      generalize (q.next 12).2 = r2 at *
      generalize (q.next 12).1 = n2 at *
      have S2 : Hid (SRX w2 k B r2) := s2
      have T2 : Hid (Tch k W w2) := HT.out.trans t2
      have zz := T2.out.size
      clear s2 t2 HR HT HD
      have hbs : ∀ m : List UInt8, (⟨l.toArray⟩ ++ ⟨m.toArray⟩ : ByteArray) = ⟨(l ++ m).toArray⟩ := fun m => ba_ap l m
      by_cases h9 : n2 < 9
      · have h9I : (n2 : Int) < 9 := by omega
        have hm3 : n2 % 3 < 3 := Nat.mod_lt _ (by omega)
        have hmI : (n2 : Int) % 3 = ((n2 % 3 : Nat) : Int) := by omega
        rw [if_pos h9] at HD2
        generalize n2 % 3 = m3 at *
        have HC : Hid (∀ W : World, (convert 22 9 (.slice (some ⟨W.heap.size, 0, none⟩) 1 1)).run Tryz.prog (W.alloc (.cells #[.int .u8 (97 + (m3 : Int))] 5)) = .ok (.string ⟨[UInt8.ofNat (97 + m3)].toArray⟩) (W.alloc (.cells #[.int .u8 (97 + (m3 : Int))] 5))) := by
          intro W
          have := conv_any (rd_one W (97 + m3))
          rw [strOf_one] at this
          rw [show (97 : Int) + (m3 : Int) = ((97 + m3 : Nat) : Int) by omega]
          exact this
        have hcv := HC.out w2
        have hb0 : (⟨l.toArray⟩ ++ (⟨#[47]⟩ ++ ⟨#[UInt8.ofNat (97 + m3)]⟩ : ByteArray) : ByteArray) = ⟨(l ++ [47, UInt8.ofNat (97 + m3)]).toArray⟩ := by
          have a1 := ba_ap [47] [UInt8.ofNat (97 + m3)]
          have a2 := ba_ap l [47, UInt8.ofNat (97 + m3)]
          rw [show (⟨#[47]⟩ ++ ⟨#[UInt8.ofNat (97 + m3)]⟩ : ByteArray) = ⟨[47, UInt8.ofNat (97 + m3)].toArray⟩ from a1]
          exact a2
        have BA : Hid (Below w2.heap.size w2 (w2.alloc (.cells #[.int .u8 (97 + (m3 : Int))] 5))) := (Below.refl _ _).alloc (Nat.le_refl _) _
        have S3 : Hid (SRX (w2.alloc (.cells #[.int .u8 (97 + (m3 : Int))] 5)) k B r2) := S2.out.keep (BA.out.mono S2.out.lt)
        have T3 : Hid (Tch k W (w2.alloc (.cells #[.int .u8 (97 + (m3 : Int))] 5))) := T2.out.then (BA.out.mono zz)
        clear hbs
        go_wp2
        go_roundw
        case rel => exact ⟨j, l ++ [47, UInt8.ofNat (97 + m3)], r2, by omega, by simp; omega, by rw [← hb0, UInt8.ofNat_add]; rfl, by go_num, HD2, S3, T3⟩
        case measure => simp [intOf]
      · rw [if_neg h9] at HD2
        have h9I : ¬ (n2 : Int) < 9 := by omega
        by_cases h10 : n2 = 9
        · subst h10
          rw [if_pos rfl] at HD2
          have hb0 : (⟨l.toArray⟩ ++ ⟨#[47, 110, 48]⟩ : ByteArray) = ⟨(l ++ [47, 110, 48]).toArray⟩ := hbs [47, 110, 48]
          clear hbs
          go_wp2
          go_roundw
          case rel => exact ⟨j, l ++ [47, 110, 48], r2, by omega, by simp; omega, by rw [← hb0], by go_num, HD2, S2, T2⟩
          case measure => simp [intOf]
        · rw [if_neg h10] at HD2
          have h10I : ¬ (n2 : Int) = 9 := by omega
          have h10b : ((n2 : Int) == 9) = false := by simp; omega
          by_cases h11 : n2 = 10
          · subst h11
            rw [if_pos rfl] at HD2
            have hb0 : (⟨l.toArray⟩ ++ ⟨#[47, 122, 122, 57]⟩ : ByteArray) = ⟨(l ++ [47, 122, 122, 57]).toArray⟩ := hbs [47, 122, 122, 57]
            clear hbs
            go_wp2
            go_roundw
            case rel => exact ⟨j, l ++ [47, 122, 122, 57], r2, by omega, by simp; omega, by rw [← hb0], by go_num, HD2, S2, T2⟩
            case measure => simp [intOf]
          · rw [if_neg h11] at HD2
            have h11b : ((n2 : Int) == 10) = false := by simp; omega
            have hb0 : (⟨l.toArray⟩ ++ ⟨#[47, 98]⟩ : ByteArray) = ⟨(l ++ [47, 98]).toArray⟩ := hbs [47, 98]
            clear hbs h10I
            go_wp2
            go_ret
            rw [← HD2.out]
            exact ⟨by rw [← hb0]; rfl, S2.out, T2.out⟩
    · have hj0 : j = 0 := by omega
      subst hj0
      go_wp2
      go_ret
      rw [← HD.out]
      exact ⟨rfl, HR.out, HT.out⟩


/-- A value that does not lie in block k. -/
def OffK (k : Nat) (v : Value) : Prop := ∀ b o n c, v = .slice (some ⟨b, o, none⟩) n c → b ≠ k
theorem RdN.tchK {w w' : World} {k : Nat} {v : Value} {ns : List Nd} (h : RdN w v ns) (ho : OffK k v) (t : Tch k w w') : RdN w' v ns := by
  obtain ⟨ao, cap, rfl, h1, h2, h3⟩ := h
  refine ⟨ao, cap, rfl, h1, h2, ?_⟩
  rcases h3 with h3 | ⟨b, off, rfl, hlt, hc⟩
  · exact .inl h3
  · refine .inr ⟨b, off, rfl, Nat.lt_of_lt_of_le hlt t.size, fun i hi => ?_⟩
    have hb := t.2 b (ho b off _ _ rfl) hlt
    have q : ∀ j, w'.cell? ⟨b, j, none⟩ = w.cell? ⟨b, j, none⟩ := fun j => World.cell?_of_block (a := ⟨b, j, none⟩) hb
    obtain ⟨c0, c1, c2, c3, c4, c5, c6⟩ := hc i hi
    exact ⟨(q _).trans c0, (q _).trans c1, (q _).trans c2, (q _).trans c3, (q _).trans c4, (q _).trans c5, (q _).trans c6⟩
theorem OwnN.offK {w : World} {lo k : Nat} {e : TypeId} {v : Value} {ns : List Nd} (h : OwnN e w lo v ns) (hk : k < lo) : OffK k v := by
  intro b o n c e
  have := (World.ownsRow.lt h b (by rw [e]; rfl)).1
  omega

/-- A path near a tree's. -/
def Sr.near (s : Sr) (ns : List Nd) : ByteArray × Sr :=
  if ns.length = 0 then (⟨s.path.1.toArray⟩, s.path.2)
  else if ((s.next ns.length).2.next 2).1 = 0 then ((nAt ns (s.next ns.length).1).path, ((s.next ns.length).2.next 2).2)
  else ((if (nAt ns (s.next ns.length).1).path.toList == [47] then ⟨#[]⟩ else (nAt ns (s.next ns.length).1).path) ++ ⟨#[47]⟩ ++ ⟨#[UInt8.ofNat (97 + (((s.next ns.length).2.next 2).2.next 4).1)]⟩, (((s.next ns.length).2.next 2).2.next 4).2)
set_option maxHeartbeats 4000000 in
set_option maxRecDepth 100000 in
theorem near_k (W : World) (k B : Nat) (s : Sr) (v : Value) (ns : List Nd) (h : SRX W k B s) (ho : RdN W v ns) (hlo : OffK k v) (hn : ns.length ≤ 1000000) (hps : ∀ i, i < ns.length → (nAt ns i).path.size ≤ 1000) :
    Calls Tryz.prog 85 #[.pointer (some ⟨k, 0, none⟩), .agg #[v]] W fun e w' => e = .returned (.string (s.near ns).1) ∧ SRX w' k B (s.near ns).2 ∧ Tch k W w' := by
  have HS : Hid (SRX W k B s) := h
  have hk1 := h.kB
  have hk2 := h.lt
  have BA : Hid (Below W.heap.size W (W.alloc (.cells #[v] 25))) := (Below.refl _ _).alloc (Nat.le_refl _) _
  have S0 : Hid (SRX (W.alloc (.cells #[v] 25)) k B s) := h.keep (BA.out.mono hk2)
  have T0 : Hid (Tch k W (W.alloc (.cells #[v] 25))) := Tch.of BA.out
  have HC0 : Hid ((W.alloc (.cells #[v] 25)).cell? ⟨W.heap.size, 0, none⟩ = some v) := by
    show _ = _
    simp
  have HO : Hid (RdN W v ns) := ho
  have hsz : (W.alloc (.cells #[v] 25)).heap.size = W.heap.size + 1 := by simp
  obtain ⟨res, hres⟩ : ∃ res, res = s.near ns := ⟨_, rfl⟩
  have HRES : Hid (s.near ns = res) := hres.symm
  rw [← hres]
  clear h hres
  by_cases hz : ns.length = 0
  · have hns : ns = [] := List.eq_nil_of_length_eq_zero hz
    subst hns
    obtain ⟨ao, ca, rfl, -⟩ := ho
    all_goals
      clear HO hlo
      have HP : Hid ((⟨s.path.1.toArray⟩, s.path.2) = res) := HRES.out
      clear HRES
      go_enter Tryz.func85, Tryz.ntmps85
      have c0 := HC0.out
      go_wp2_with fail
      generalize W.alloc _ = w0 at *
      refine (path_x w0 k B s S0.out).mono ?_
      rintro e w1 ⟨rfl, s1, t1⟩
      have F : Hid (SRX w1 k B s.path.2 ∧ Tch k W w1) := ⟨s1, T0.out.trans t1⟩
      clear s1 t1
      go_wp2
      go_ret
      rw [← HP.out]
      exact ⟨rfl, F.out.1, F.out.2⟩
  obtain ⟨g, go, ca, rfl, hgW, HCL⟩ : ∃ g go ca, v = .slice (some ⟨g, go, none⟩) ns.length ca ∧ g < W.heap.size ∧ Hid (∀ i, i < ns.length → CellsN W g (go + i * 7) (nAt ns i)) := by
    obtain ⟨ao, ca, rfl, -, -, h3⟩ := ho
    rcases h3 with h3 | ⟨b, off, rfl, hlt, hc⟩
    · rw [h3] at hz; simp at hz
    · exact ⟨b, off, ca, rfl, hlt, hc⟩
  have hgk : g ≠ k := hlo g go _ _ rfl
  have hzI : ¬ (ns.length : Int) = 0 := by omega
  have hzb : ((ns.length : Int) == 0) = false := beq_eq_false_iff_ne.2 hzI
  clear ho
  have HRS : Hid ((if ((s.next ns.length).2.next 2).1 = 0 then ((nAt ns (s.next ns.length).1).path, ((s.next ns.length).2.next 2).2)
    else ((if (nAt ns (s.next ns.length).1).path.toList == [47] then ⟨#[]⟩ else (nAt ns (s.next ns.length).1).path) ++ ⟨#[47]⟩ ++ ⟨#[UInt8.ofNat (97 + (((s.next ns.length).2.next 2).2.next 4).1)]⟩, (((s.next ns.length).2.next 2).2.next 4).2)) = res) := by
    have := HRES.out
    unfold Sr.near at this
    rw [if_neg hz] at this
    exact this
  clear HRES
  have HKEEP : Hid (∀ W', Tch k W W' → W'.heap[W.heap.size]? = (W.alloc (.cells #[.slice (some ⟨g, go, none⟩) ns.length ca] 25)).heap[W.heap.size]? → W'.cell? ⟨W.heap.size, 0, none⟩ = some (.slice (some ⟨g, go, none⟩) ns.length ca) ∧ ∀ i, i < ns.length → W'.cell? ⟨g, go + i * 7, none⟩ = some (.string (nAt ns i).path)) := by
    intro W' t hh
    refine ⟨(World.cell?_of_block (w := W.alloc _) (a := ⟨W.heap.size, 0, none⟩) hh).trans HC0.out, fun i hi => ?_⟩
    exact (World.cell?_of_block (w := W) (a := ⟨g, go + i * 7, none⟩) (t.2 g hgk hgW)).trans (HCL.out i hi).1
  have c0 := HC0.out
  go_enter Tryz.func85, Tryz.ntmps85
  go_wp2_with fail
  have hh0 : Hid ((W.alloc (.cells #[.slice (some ⟨g, go, none⟩) ns.length ca] 25)).heap[W.heap.size]? = (W.alloc (.cells #[.slice (some ⟨g, go, none⟩) ns.length ca] 25)).heap[W.heap.size]?) := rfl
  have HKP : Hid (∀ W', Tch k (W.alloc (.cells #[.slice (some ⟨g, go, none⟩) ns.length ca] 25)) W' → W'.cell? ⟨W.heap.size, 0, none⟩ = some (.slice (some ⟨g, go, none⟩) ns.length ca) ∧ ∀ i, i < ns.length → W'.cell? ⟨g, go + i * 7, none⟩ = some (.string (nAt ns i).path)) := fun W' t => HKEEP.out W' (T0.out.trans t) (t.2 _ (by omega) (by rw [hsz]; omega))
  clear HKEEP hh0 c0 HC0 HS HO BA
  generalize W.alloc (.cells #[.slice (some ⟨g, go, none⟩) ns.length ca] 25) = w0 at *
  have hS0 := HKP.out w0.drew (Tch.of (below_drewN' w0 1))
  have SP : Hid (SRX w0.drew k B s) := S0.out.keep ((below_drewN' w0 1).mono S0.out.lt)
  have TP : Hid (Tch k w0 w0.drew) := Tch.of (below_drewN' w0 1)
  refine wp_region_held_drew (S := fun w9 => w9.cell? ⟨W.heap.size, 0, none⟩ = some (.slice (some ⟨g, go, none⟩) ns.length ca) ∧ ∀ i, i < ns.length → w9.cell? ⟨g, go + i * 7, none⟩ = some (.string (nAt ns i).path)) (by kernel_rfl) (hS0) (fun hHeld => ?_)
  clear hS0
  generalize w0.drew = w0d at *
  refine wpAnyH_take (i := 0) (oi := { dst := some 12, op := _, type := _, pos := _, after := _, guard := _ }) (v := ?v1) rfl (by kernel_rfl) (by kernel_rfl) (by kernel_rfl) (fun _ _ _ h => h) (Or.inl ⟨by rfl, ?hy1⟩) (by assumption) ?rest1
  case hy1 =>
    intro w9 hS9
    obtain ⟨hq0, hq1⟩ := hS9
    go_simp
    try with_reducible rfl
  try simp only [Act.put, List.setIfInBounds_toArray, List.set_cons_zero, List.set_cons_succ]
  refine wpAnyH_take (i := 1) (oi := { dst := some 13, op := _, type := _, pos := _, after := _, guard := _ }) (v := (.slice (some ⟨g, go, none⟩) ns.length ca)) rfl (by kernel_rfl) (by kernel_rfl) (by kernel_rfl) (fun _ _ _ h => h) (Or.inl ⟨by rfl, ?hy2⟩) (by assumption) ?rest2
  case hy2 =>
    intro w9 hS9
    obtain ⟨hq0, hq1⟩ := hS9
    go_simp
    try with_reducible rfl
  try simp only [Act.put, List.setIfInBounds_toArray, List.set_cons_zero, List.set_cons_succ]
  refine wpAnyH_take (i := 2) (oi := { dst := some 14, op := _, type := _, pos := _, after := _, guard := _ }) (v := ?v3) rfl (by kernel_rfl) (by kernel_rfl) (by kernel_rfl) (fun _ _ _ h => h) (Or.inl ⟨by rfl, ?hy3⟩) (by assumption) ?rest3
  case hy3 =>
    intro w9 hS9
    obtain ⟨hq0, hq1⟩ := hS9
    go_simp
    try with_reducible rfl
  try simp only [Act.put, List.setIfInBounds_toArray, List.set_cons_zero, List.set_cons_succ]
  refine wpAnyH_take (i := 3) (oi := { dst := some 15, op := _, type := _, pos := _, after := _, guard := _ }) (v := ?v4) rfl (by kernel_rfl) (by kernel_rfl) (by kernel_rfl) (fun _ _ _ h => h) (Or.inl ⟨by rfl, ?hy4⟩) (by assumption) ?rest4
  case hy4 =>
    intro w9 hS9
    obtain ⟨hq0, hq1⟩ := hS9
    go_simp
    try with_reducible rfl
  try simp only [Act.put, List.setIfInBounds_toArray, List.set_cons_zero, List.set_cons_succ]
  refine wpAnyH_take (i := 4) (oi := { dst := some 16, op := _, type := _, pos := _, after := _, guard := _ }) (v := (.slice (some ⟨g, go, none⟩) ns.length ca)) rfl (by kernel_rfl) (by kernel_rfl) (by kernel_rfl) (fun _ _ _ h => h) (Or.inl ⟨by rfl, ?hy5⟩) (by assumption) ?rest5
  case hy5 =>
    intro w9 hS9
    obtain ⟨hq0, hq1⟩ := hS9
    go_simp
    try with_reducible rfl
  try simp only [Act.put, List.setIfInBounds_toArray, List.set_cons_zero, List.set_cons_succ]
  refine wpAnyH_take (i := 5) (oi := { dst := some 17, op := _, type := _, pos := _, after := _, guard := _ }) (v := ?v6) rfl (by kernel_rfl) (by kernel_rfl) (by kernel_rfl) (fun _ _ _ h => h) (Or.inl ⟨by rfl, ?hy6⟩) (by assumption) ?rest6
  case hy6 =>
    intro w9 hS9
    obtain ⟨hq0, hq1⟩ := hS9
    go_simp
    try with_reducible rfl
  try simp only [Act.put, List.setIfInBounds_toArray, List.set_cons_zero, List.set_cons_succ]
  refine wpAnyH_ready (rs := [6]) (by kernel_rfl) (by simp) ?_
  refine AllReadyH.cons (o := { dst := some 18, op := _, type := _, pos := _, after := _, guard := _ }) rfl (fun K hK => ?_) AllReadyH.nil
  go_simp
  refine (next_x _ k B ns.length s SP.out (by omega)).mono ?_
  rintro e w1 ⟨rfl, s1, t1⟩
  have hn1 := s.next_lt ns.length (by omega)
  have hn1I : ((s.next ns.length).1 : Int) < (ns.length : Int) := by omega
  generalize hX1 : (s.next ns.length).1 = n1 at *
  have S1 : Hid (SRX w1 k B (s.next ns.length).2) := s1
  have T1 : Hid (Tch k w0 w1) := TP.out.trans t1
  have hSn := HKP.out _ (TP.out.trans t1)
  clear s1 t1 SP TP
  refine hK.out _ _ (hSn) (fun hx9 => ?_)
  clear hK K hHeld hx9
  have hHeld := hSn
  try simp only [Act.put, List.setIfInBounds_toArray, List.set_cons_zero, List.set_cons_succ]
  refine wpAnyH_take (i := 7) (oi := { dst := some 19, op := _, type := _, pos := _, after := _, guard := _ }) (v := (.pointer (some ⟨g, go + n1 * 7, none⟩))) rfl (by kernel_rfl) (by kernel_rfl) (by kernel_rfl) (fun _ _ _ h => h) (Or.inl ⟨by rfl, ?hy7⟩) (by assumption) ?rest7
  case hy7 =>
    intro w9 hS9
    obtain ⟨hq0, hq1⟩ := hS9
    have hqa := hq1 n1 hn1
    go_simp
    try with_reducible rfl
  try simp only [Act.put, List.setIfInBounds_toArray, List.set_cons_zero, List.set_cons_succ]
  refine wpAnyH_take (i := 8) (oi := { dst := some 20, op := _, type := _, pos := _, after := _, guard := _ }) (v := (.pointer (some ⟨g, go + n1 * 7, none⟩))) rfl (by kernel_rfl) (by kernel_rfl) (by kernel_rfl) (fun _ _ _ h => h) (Or.inl ⟨by rfl, ?hy8⟩) (by assumption) ?rest8
  case hy8 =>
    intro w9 hS9
    obtain ⟨hq0, hq1⟩ := hS9
    have hqa := hq1 n1 hn1
    go_simp
    try with_reducible rfl
  try simp only [Act.put, List.setIfInBounds_toArray, List.set_cons_zero, List.set_cons_succ]
  refine wpAnyH_take (i := 9) (oi := { dst := some 21, op := _, type := _, pos := _, after := _, guard := _ }) (v := (.string (nAt ns n1).path)) rfl (by kernel_rfl) (by kernel_rfl) (by kernel_rfl) (fun _ _ _ h => h) (Or.inl ⟨by rfl, ?hy9⟩) (by assumption) ?rest9
  case hy9 =>
    intro w9 hS9
    obtain ⟨hq0, hq1⟩ := hS9
    have hqa := hq1 n1 hn1
    go_simp
    try with_reducible rfl
  try simp only [Act.put, List.setIfInBounds_toArray, List.set_cons_zero, List.set_cons_succ]
  refine wpAnyH_take (i := 10) (oi := { dst := some 5, op := _, type := _, pos := _, after := _, guard := _ }) (v := ?v10) rfl (by kernel_rfl) (by kernel_rfl) (by kernel_rfl) (fun _ _ _ h => h) (Or.inl ⟨by rfl, ?hy10⟩) (by assumption) ?rest10
  case hy10 =>
    intro w9 hS9
    obtain ⟨hq0, hq1⟩ := hS9
    go_simp
    try with_reducible rfl
  try simp only [Act.put, List.setIfInBounds_toArray, List.set_cons_zero, List.set_cons_succ]
  refine wpAnyH_done (by kernel_rfl) ?_ _
  clear hHeld hSn
  try simp only [Act.put, List.setIfInBounds_toArray, List.set_cons_zero, List.set_cons_succ]
  have HR1 : Hid ((if ((s.next ns.length).2.next 2).1 = 0 then ((nAt ns n1).path, ((s.next ns.length).2.next 2).2)
    else ((if (nAt ns n1).path.toList == [47] then ⟨#[]⟩ else (nAt ns n1).path) ++ ⟨#[47]⟩ ++ ⟨#[UInt8.ofNat (97 + (((s.next ns.length).2.next 2).2.next 4).1)]⟩, (((s.next ns.length).2.next 2).2.next 4).2)) = res) := by
    exact HRS.out
  clear HRS hX1 HKP
  generalize (s.next ns.length).2 = r1 at *
  have hp9 : (nAt ns n1).path.size ≤ 1000 := hps n1 hn1
  clear hps
  generalize (nAt ns n1).path = p at *
  go_wp2_with fail
  refine (next_x _ k B 2 r1 S1.out (by omega)).mono ?_
  rintro e w2 ⟨rfl, s2, t2⟩
  have hn2 := r1.next_lt 2 (by omega)
  generalize (r1.next 2).2 = r2 at *
  generalize (r1.next 2).1 = n2 at *
  have S2 : Hid (SRX w2 k B r2) := s2
  have T2 : Hid (Tch k w0 w2) := T1.out.trans t2
  clear s2 t2 S1 T1
  by_cases h0 : n2 = 0
  · subst h0
    rw [if_pos rfl] at HR1
    go_wp2
    go_ret
    rw [← HR1.out]
    exact ⟨rfl, S2.out, T0.out.trans T2.out⟩
  rw [if_neg h0] at HR1
  have h0b : ((n2 : Int) == 0) = false := beq_eq_false_iff_ne.2 (by omega)
  have HC : Hid (∀ (W : World) (m3 : Nat), (convert 22 9 (.slice (some ⟨W.heap.size, 0, none⟩) 1 1)).run Tryz.prog (W.alloc (.cells #[.int .u8 (97 + (m3 : Int))] 5)) = .ok (.string ⟨[UInt8.ofNat (97 + m3)].toArray⟩) (W.alloc (.cells #[.int .u8 (97 + (m3 : Int))] 5))) := by
    intro W m3
    have := conv_any (rd_one W (97 + m3))
    rw [strOf_one] at this
    rw [show (97 : Int) + (m3 : Int) = ((97 + m3 : Nat) : Int) by omega]
    exact this
  have HF : Hid (∀ (w3 : World) (m3 : Nat), Tch k w0 w3 → SRX w3 k B (r2.next 4).2 → SRX (w3.alloc (.cells #[.int .u8 (97 + (m3 : Int))] 5)) k B (r2.next 4).2 ∧ Tch k W (w3.alloc (.cells #[.int .u8 (97 + (m3 : Int))] 5))) := by
    intro w3 m3 t3 s3
    have bA : Below w3.heap.size w3 (w3.alloc (.cells #[.int .u8 (97 + (m3 : Int))] 5)) := (Below.refl _ _).alloc (Nat.le_refl _) _
    exact ⟨s3.keep (bA.mono s3.lt), (T0.out.trans t3).trans (Tch.of bA)⟩
  cases hp : (p.toList == [47]) with
  | true =>
    rw [hp, if_pos rfl] at HR1
    go_wp2_with fail
    refine (next_x _ k B 4 r2 S2.out (by omega)).mono ?_
    rintro e w3 ⟨rfl, s3, t3⟩
    have hn3 := r2.next_lt 4 (by omega)
    have F := HF.out w3 (r2.next 4).1 (T2.out.trans t3) s3
    have hcv := HC.out w3 (r2.next 4).1
    have HFF : Hid (SRX (w3.alloc (.cells #[.int .u8 (97 + ((r2.next 4).1 : Int))] 5)) k B (r2.next 4).2 ∧ Tch k W (w3.alloc (.cells #[.int .u8 (97 + ((r2.next 4).1 : Int))] 5))) := F
    clear F HF HC S2 T2 s3 t3
    generalize (r2.next 4).2 = r3 at *
    generalize (r2.next 4).1 = m3 at *
    go_wp2
    go_ret
    rw [← HR1.out]
    exact ⟨by rw [UInt8.ofNat_add]; rfl, HFF.out.1, HFF.out.2⟩
  | false =>
    rw [hp, if_neg (by simp)] at HR1
    go_wp2_with fail
    refine (next_x _ k B 4 r2 S2.out (by omega)).mono ?_
    rintro e w3 ⟨rfl, s3, t3⟩
    have hn3 := r2.next_lt 4 (by omega)
    have F := HF.out w3 (r2.next 4).1 (T2.out.trans t3) s3
    have hcv := HC.out w3 (r2.next 4).1
    have HFF : Hid (SRX (w3.alloc (.cells #[.int .u8 (97 + ((r2.next 4).1 : Int))] 5)) k B (r2.next 4).2 ∧ Tch k W (w3.alloc (.cells #[.int .u8 (97 + ((r2.next 4).1 : Int))] 5))) := F
    clear F HF HC S2 T2 s3 t3
    generalize (r2.next 4).2 = r3 at *
    generalize (r2.next 4).1 = m3 at *
    go_wp2
    go_ret
    rw [← HR1.out]
    exact ⟨by rw [UInt8.ofNat_add]; rfl, HFF.out.1, HFF.out.2⟩

theorem near_x (W : World) (k B lo : Nat) (s : Sr) (v : Value) (ns : List Nd) (h : SRX W k B s) (ho : OwnN 42 W lo v ns) (hlo : k < lo) (hn : ns.length ≤ 1000000) (hps : ∀ i, i < ns.length → (nAt ns i).path.size ≤ 1000) :
    Calls Tryz.prog 85 #[.pointer (some ⟨k, 0, none⟩), .agg #[v]] W fun e w' => e = .returned (.string (s.near ns).1) ∧ SRX w' k B (s.near ns).2 ∧ Tch k W w' := near_k W k B s v ns h ho.rd (OwnN.offK ho hlo) hn hps


/-- Drawn data. -/
def Sr.data (s : Sr) : ByteArray × Sr :=
  if (s.next 8).1 = 0 then (⟨#[]⟩, (s.next 8).2)
  else if (s.next 8).1 = 1 then (strOfNums ((s.next 8).2.bytes 64).1, ((s.next 8).2.bytes 64).2)
  else (strOfNums (((s.next 8).2.next 4).2.bytes (1 + ((s.next 8).2.next 4).1)).1, (((s.next 8).2.next 4).2.bytes (1 + ((s.next 8).2.next 4).1)).2)
theorem Sr.data_len (s : Sr) : s.data.1.size ≤ 64 := by
  unfold Sr.data
  split
  · exact Nat.zero_le _
  · split
    · rw [strOfNums_size, Sr.bytes_len]; exact Nat.le_refl _
    · rw [strOfNums_size, Sr.bytes_len]
      have := (s.next 8).2.next_lt 4 (by omega)
      omega

set_option maxHeartbeats 2000000 in
set_option maxRecDepth 100000 in
theorem data_x (W : World) (k B : Nat) (s : Sr) (h : SRX W k B s) :
    Calls Tryz.prog 86 #[.pointer (some ⟨k, 0, none⟩)] W fun e w' => e = .returned (.string s.data.1) ∧ SRX w' k B s.data.2 ∧ Tch k W w' := by
  have HS : Hid (SRX W k B s) := h
  obtain ⟨res, hres⟩ : ∃ res, res = s.data := ⟨_, rfl⟩
  have HR : Hid ((if (s.next 8).1 = 0 then (⟨#[]⟩, (s.next 8).2)
    else if (s.next 8).1 = 1 then (strOfNums ((s.next 8).2.bytes 64).1, ((s.next 8).2.bytes 64).2)
    else (strOfNums (((s.next 8).2.next 4).2.bytes (1 + ((s.next 8).2.next 4).1)).1, (((s.next 8).2.next 4).2.bytes (1 + ((s.next 8).2.next 4).1)).2)) = res) := hres.symm
  rw [← hres]
  clear h hres
  go_enter Tryz.func86, Tryz.ntmps86
  go_wp2_with fail
  refine (next_x _ k B 8 s HS.out (by omega)).mono ?_
  rintro e w1 ⟨rfl, s1, t1⟩
  have hn1 := s.next_lt 8 (by omega)
  generalize (s.next 8).2 = r1 at *
  generalize (s.next 8).1 = n1 at *
  have S1 : Hid (SRX w1 k B r1) := s1
  have T1 : Hid (Tch k W w1) := t1
  clear s1 t1 HS
  by_cases h0 : n1 = 0
  · subst h0
    rw [if_pos rfl] at HR
    go_wp2
    go_ret
    rw [← HR.out]
    exact ⟨rfl, S1.out, T1.out⟩
  rw [if_neg h0] at HR
  have h0b : ((n1 : Int) == 0) = false := beq_eq_false_iff_ne.2 (by omega)
  by_cases h1 : n1 = 1
  · subst h1
    rw [if_pos rfl] at HR
    have CB := bytes_x w1 k B 64 r1 S1.out (by omega)
    generalize r1.bytes 64 = q at *
    go_wp2_with fail
    refine CB.mono ?_
    rintro e w2 ⟨v2, rfl, o2, s2, t2⟩
    clear CB
    have hcv := conv_any o2.rd
    obtain ⟨a2, c2, rfl, -⟩ := o2.rd.len
    have F : Hid (SRX w2 k B q.2 ∧ Tch k W w2) := ⟨s2, T1.out.trans t2⟩
    clear o2 s2 t2 S1 T1
    go_wp2
    go_ret
    rw [← HR.out]
    exact ⟨rfl, F.out.1, F.out.2⟩
  rw [if_neg h1] at HR
  have h1b : ((n1 : Int) == 1) = false := beq_eq_false_iff_ne.2 (by omega)
  go_wp2_with fail
  refine (next_x _ k B 4 r1 S1.out (by omega)).mono ?_
  rintro e w2 ⟨rfl, s2, t2⟩
  have hn2 := r1.next_lt 4 (by omega)
  generalize (r1.next 4).2 = r2 at *
  generalize (r1.next 4).1 = n2 at *
  have S2 : Hid (SRX w2 k B r2) := s2
  have T2 : Hid (Tch k W w2) := T1.out.trans t2
  clear s2 t2 S1 T1
  go_wp2_with fail
  rw [show (1 : Int) + (n2 : Int) = ((1 + n2 : Nat) : Int) by omega]
  have CB := bytes_x w2 k B (1 + n2) r2 S2.out (by omega)
  generalize r2.bytes (1 + n2) = q at *
  refine CB.mono ?_
  rintro e w3 ⟨v3, rfl, o3, s3, t3⟩
  clear CB
  have hcv := conv_any o3.rd
  obtain ⟨a3, c3, rfl, -⟩ := o3.rd.len
  have F : Hid (SRX w3 k B q.2 ∧ Tch k W w3) := ⟨s3, T2.out.trans t3⟩
  clear o3 s3 t3 S2 T2
  go_wp2
  go_ret
  rw [← HR.out]
  exact ⟨rfl, F.out.1, F.out.2⟩

end Go.Proofs.YtdiingonnddkcaaGreatDoor


