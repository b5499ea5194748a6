import Derived.Test.YtgjenbgclpmjmaaDrawNext
import Derived.Test.YtgjenbgclpmjmaaDrawNil
import Derived.Test.YtgjenbgclpmjmaaStepOwn
import Derived.Deep.RegionLaw
namespace Go.Proofs.Ytgjenbgclpmjmaa
open Go.RowKit

theorem Only_grown (w : World) (k i : Nat) (v : Value) : w.grownBy (w.setCell ⟨k, i, none⟩ v) (some k) := grownBy_set w w k i v (World.grownBy.refl _ _)

theorem row_slice3 {w : World} {lo n : Nat} {e : TypeId} {v : Value} {us : List Value} (h : w.ownsRow lo e 1 v n us) : ∃ a c, v = .slice a n c ∧ n ≤ c ∧ c ≤ maxLen := by
  rcases h.2 with ⟨rfl, rfl⟩ | ⟨g, cap, cur, rfl, -, -, h1, h2, -⟩
  · exact ⟨none, 0, rfl, Nat.le_refl _, Nat.zero_le _⟩
  · exact ⟨_, _, rfl, h1, h2⟩

theorem row_some {w : World} {lo n : Nat} {e : TypeId} {v : Value} {us : List Value} (h : w.ownsRow lo e 1 v n us) (h0 : 0 < n) : ∃ g c, v = .slice (some ⟨g, 0, none⟩) n c := by
  rcases h.2 with ⟨rfl, h1⟩ | ⟨g, cap, cur, rfl, -⟩
  · omega
  · exact ⟨g, cap, rfl⟩
theorem row_cell {w : World} {lo i g c j x : Nat} {v : Value} {ys : List Int} (h : w.ownsRow lo 5 1 v ys.length (ys.map (Value.int .u8))) (hv : v = .slice (some ⟨g, 0, none⟩) i c) (hl : ys.length = i) (hj : j < i) (hx : ys.getD j 0 = (x : Int)) : w.cell? ⟨g, j, none⟩ = some (.int .u8 (x : Int)) := by
  subst hv
  rw [hl] at h
  rw [World.ownsRow.cellAt h j (by omega), ← hx]
  simp [List.getD, hl, hj]

/-- The source's box while it is made. -/
def SB (w wr : World) (v : Value) (xs : List Int) (mx : Int) : Prop :=
  w.heap.size < wr.heap.size ∧ (∀ j, wr.frozen? ⟨w.heap.size, j, none⟩ = false) ∧ wr.cell? ⟨w.heap.size, 0, none⟩ = some v ∧ wr.cell? ⟨w.heap.size, 1, none⟩ = some (.int .i64 0) ∧ wr.cell? ⟨w.heap.size, 2, none⟩ = some (.int .i64 mx) ∧ wr.cell? ⟨w.heap.size, 3, none⟩ = some (.int .i64 0) ∧
    wr.ownsRow (w.heap.size + 1) 5 1 v xs.length (xs.map (Value.int .u8)) ∧ Below w.heap.size w wr

theorem SB.push {w wr w3 : World} {v v3 : Value} {ys : List Int} {x : Int} {mx : Int} (h : SB w wr v ys mx) (hb : Below (w.heap.size + 1) wr w3) (ho : w3.ownsRow (w.heap.size + 1) 5 1 v3 (ys.length + 1) (ys.map (Value.int .u8) ++ [.int .u8 x])) : SB w (w3.setCell ⟨w.heap.size, 0, none⟩ v3) v3 (ys ++ [x]) mx := by
  obtain ⟨sz, fr, c0, c1, c2, c3, ow, bl⟩ := h
  have e : ∀ i, i ≠ 0 → (w3.setCell ⟨w.heap.size, 0, none⟩ v3).cell? ⟨w.heap.size, i, none⟩ = wr.cell? ⟨w.heap.size, i, none⟩ := fun i hi => by
    rw [World.cell?_setCell_other _ _ _ _ (by intro e; injection e with _ e; omega)]
    exact hb.cell (p := ⟨w.heap.size, i, none⟩) (Nat.lt_succ_self _)
  have k0 : w3.cell? ⟨w.heap.size, 0, none⟩ = some v := (hb.cell (p := ⟨w.heap.size, 0, none⟩) (Nat.lt_succ_self _)).trans c0
  refine ⟨by have := hb.size; simp; omega, fun j => ?_, World.cell?_setCell_same _ _ _ k0, (e 1 (by omega)).trans c1, (e 2 (by omega)).trans c2, (e 3 (by omega)).trans c3, ?_, (bl.trans (hb.mono (by omega))).setCell (Nat.le_refl _) _⟩
  · rw [World.frozen?_setCell]; exact (hb.frozen (p := ⟨w.heap.size, j, none⟩) (Nat.lt_succ_self _)).trans (fr j)
  · rw [List.length_append, List.map_append]
    refine World.ownsRow.kept ho (row := some w.heap.size) (Only_grown _ _ _ _) ?_
    cases hv : v3.ownBlock with
    | none => exact .inl rfl
    | some g => exact .inr (fun e => by have := (World.ownsRow.lt ho g hv).1; injection e with e; omega)

theorem SB.mix {w wr : World} {v : Value} {ys : List Int} {mx : Int} (h : SB w wr v ys mx) (q : Nat) (mx' : Int) : SB w ((wr.drewN q).setCell ⟨w.heap.size, 2, none⟩ (.int .i64 mx')) v ys mx' := by
  obtain ⟨sz, fr, c0, c1, c2, c3, ow, bl⟩ := h
  have e : ∀ i, i ≠ 2 → ((wr.drewN q).setCell ⟨w.heap.size, 2, none⟩ (.int .i64 mx')).cell? ⟨w.heap.size, i, none⟩ = wr.cell? ⟨w.heap.size, i, none⟩ := fun i hi => World.cell?_setCell_other _ _ _ _ (by intro e; injection e with _ e; omega)
  refine ⟨by show _ < (World.setCell _ _ _).heap.size; simpa using sz, fun j => ?_, (e 0 (by omega)).trans c0, (e 1 (by omega)).trans c1, World.cell?_setCell_same _ _ _ c2, (e 3 (by omega)).trans c3, ?_, (bl.trans ((below_drewN' wr q).mono (by omega))).setCell (Nat.le_refl _) _⟩
  · rw [World.frozen?_setCell]; exact fr j
  · refine World.ownsRow.kept (w := wr.drewN q) ow (row := some w.heap.size) (Only_grown _ _ _ _) ?_
    cases hv : v.ownBlock with
    | none => exact .inl rfl
    | some g => exact .inr (fun e => by have := (World.ownsRow.lt ow g hv).1; injection e with e; omega)

theorem SB.drew {w wr : World} {v : Value} {ys : List Int} {mx : Int} (h : SB w wr v ys mx) : SB w wr.drew v ys mx := ⟨h.1, h.2.1, h.2.2.1, h.2.2.2.1, h.2.2.2.2.1, h.2.2.2.2.2.1, h.2.2.2.2.2.2.1, h.2.2.2.2.2.2.2.drew⟩

theorem SB.src {w wr : World} {v : Value} {ys : List Int} {mx : Int} (h : SB w wr v ys mx) (h0 : 0 ≤ mx) (h1 : mx < 1000003) (hl : ys.length ≤ 4000) (hby : Byt ys) (z : Int) : SRC (wr.setCell ⟨w.heap.size, 3, none⟩ (.int .i64 z)) w.heap.size wr.heap.size ∧ Below w.heap.size w (wr.setCell ⟨w.heap.size, 3, none⟩ (.int .i64 z)) := by
  obtain ⟨sz, fr, c0, c1, c2, c3, ow, bl⟩ := h
  have e : ∀ (p : Addr), p ≠ ⟨w.heap.size, 3, none⟩ → (wr.setCell ⟨w.heap.size, 3, none⟩ (.int .i64 z)).cell? p = wr.cell? p := fun p hp => World.cell?_setCell_other _ _ _ _ (fun h => hp (by first | exact h | exact h.symm))
  obtain ⟨m, rfl⟩ : ∃ m : Nat, mx = (m : Int) := ⟨mx.toNat, by omega⟩
  obtain ⟨va, vc, hv, -, -⟩ := row_slice3 ow
  refine ⟨⟨by simpa using sz, fun j => by rw [World.frozen?_setCell]; exact fr j, va, ys.length, vc, 0, m, z, ?_, (e _ (by simp)).trans c1, (e _ (by simp)).trans c2, World.cell?_setCell_same _ _ _ c3, by omega, hl, by omega, ?_⟩, bl.setCell (Nat.le_refl _) _⟩
  · rw [e _ (by simp), c0, hv]
  · by_cases hz : ys.length = 0
    · exact .inl hz
    · obtain ⟨g, c, hv2⟩ := row_some ow (by omega)
      have hva : va = some ⟨g, 0, none⟩ := by rw [hv] at hv2; simp only [Value.slice.injEq] at hv2; exact hv2.1
      have hg : w.heap.size + 1 ≤ g := (World.ownsRow.lt ow g (by rw [hv2]; rfl)).1
      refine .inr ⟨g, hva, by omega, (World.ownsRow.lt ow g (by rw [hv2]; rfl)).2, fun i hi => ?_⟩
      obtain ⟨x, hx, hxe⟩ := byt_at hby i
      exact ⟨x, hx, (e _ (by intro h; injection h with h; omega)).trans (row_cell ow hv2 rfl hi hxe)⟩

theorem SRC.put3 {W : World} {k B : Nat} {z : Int} (h : SRC W k B) : SRC (W.setCell ⟨k, 3, none⟩ (.int .i64 z)) k B := by
  obtain ⟨hk, hfr, ca, N, cc, at_, mx, sz, c0, c1, c2, c3, hmx, hN, hat, hrow⟩ := h
  have e : ∀ (p : Addr), p ≠ ⟨k, 3, none⟩ → (W.setCell ⟨k, 3, none⟩ (.int .i64 z)).cell? p = W.cell? p := fun p hp => World.cell?_setCell_other _ _ _ _ (fun h => hp (by first | exact h | exact h.symm))
  refine ⟨by simpa using hk, fun j => by rw [World.frozen?_setCell]; exact hfr j, ca, N, cc, at_, mx, z, (e _ (by simp)).trans c0, (e _ (by simp)).trans c1, (e _ (by simp)).trans c2, World.cell?_setCell_same _ _ _ c3, hmx, hN, hat, ?_⟩
  rcases hrow with h0 | ⟨g, rfl, hgk, hgB, hx⟩
  · exact .inl h0
  · refine .inr ⟨g, rfl, hgk, hgB, fun i hi => ?_⟩
    obtain ⟨x, hx1, hx2⟩ := hx i hi
    exact ⟨x, hx1, (e _ (by intro h; injection h with h; exact hgk h)).trans hx2⟩

theorem mix_ok (mx : Int) (x : Nat) (h0 : 0 ≤ mx) (h1 : mx < 1000003) (hx : x < 256) : 0 ≤ (IntKind.i64.wrap (IntKind.i64.wrap (IntKind.i64.wrap (mx * 257) + IntKind.i64.wrap (x : Int)) + 1)).tmod 1000003 ∧ (IntKind.i64.wrap (IntKind.i64.wrap (IntKind.i64.wrap (mx * 257) + IntKind.i64.wrap (x : Int)) + 1)).tmod 1000003 < 1000003 := by
  have e1 : IntKind.i64.wrap (mx * 257) = mx * 257 := by rw [IntKind.wrap_i64]; omega
  have e2 : IntKind.i64.wrap (x : Int) = (x : Int) := by rw [IntKind.wrap_i64]; omega
  have e3 : IntKind.i64.wrap (mx * 257 + (x : Int)) = mx * 257 + (x : Int) := by rw [IntKind.wrap_i64]; omega
  have e4 : IntKind.i64.wrap (mx * 257 + (x : Int) + 1) = mx * 257 + (x : Int) + 1 := by rw [IntKind.wrap_i64]; omega
  rw [e1, e2, e3, e4, Int.tmod_eq_emod_of_nonneg (by omega)]
  omega

set_option maxHeartbeats 4000000 in
set_option maxRecDepth 100000 in
theorem source_row (w : World) (b o n cap : Nat) (xs : List Int) (hx : xs.length = n) (hb : b < w.heap.size) (hc : ∀ i, i < n → w.cell? ⟨b, o + i, none⟩ = some (.int .u8 (xs.getD i 0))) (hby : Byt xs) (hn : n ≤ 1048576) :
    Calls Try.prog 26 #[.slice (some ⟨b, o, none⟩) n cap] w fun e w' => ∃ k, e = .returned (.pointer (some ⟨k, 0, none⟩)) ∧ w.heap.size ≤ k ∧ SRC w' k w'.heap.size ∧ Below w.heap.size w w' := by
  obtain ⟨i0, hi, hz0, hz1, hz2⟩ := info_parts Try.infoB
  have HC : Hid (∀ i, i < n → w.cell? ⟨b, o + i, none⟩ = some (.int .u8 (xs.getD i 0))) := hc
  have HX : Hid (xs.length = n) := hx
  have HBY : Hid (Byt xs) := hby
  clear hc hx hby
  go_enter Try.func26, Try.ntmps26
  go_wp2
  go_loopw [4] (fun vi wr => ∃ (i : Nat) (v : Value), i ≤ n ∧ i ≤ 4000 ∧ vi = .int .i64 i ∧ Hid (SB w wr v (xs.take i) 0)) (fun i _ => n - (intOf i).toNat)
  case atStart =>
    refine ⟨0, .slice none 0 0, Nat.zero_le _, Nat.zero_le _, rfl, ?_⟩
    refine ⟨by simp, fun j => (by go_simp), (by go_simp), (by go_simp), (by go_simp), (by go_simp), ?_, (Below.refl _ _).alloc (Nat.le_refl _) _⟩
    rw [List.take_zero]; exact World.ownsRow_nil _ _ _ _
  case round =>
    obtain ⟨i, v, hi1, hi2, rfl, HSB⟩ := hrel
    by_cases hlt : i < n ∧ i < 4000
    · obtain ⟨hl1, hl2⟩ := hlt
      have hI1 : (i : Int) < (n : Int) := by omega
      have hI2 : (i : Int) < 4000 := by omega
      obtain ⟨sz, fr, c0, c1, c2, c3, ow, bl⟩ := HSB.out
      have f0 := fr 0
      obtain ⟨va, vc, rfl, -, -⟩ := row_slice3 ow
      have hl : (xs.take i).length = i := by rw [List.length_take, HX.out]; omega
      rw [hl] at c0 ow
      obtain ⟨x, hx8, hxe⟩ := byt_at HBY.out i
      have cx : wr.cell? ⟨b, o + i, none⟩ = some (.int .u8 (x : Int)) := by rw [bl.cell (p := ⟨b, o + i, none⟩) hb, HC.out i hl1, hxe]
      have HOW : Hid (wr.ownsRow (w.heap.size + 1) 5 1 (.slice va i vc) i ((xs.take i).map (Value.int .u8))) := ow
      have HBL : Hid (Below w.heap.size w wr) := bl
      have hsz1 : w.heap.size + 1 ≤ wr.heap.size := sz
      have HXT : Hid (xs.take (i + 1) = xs.take i ++ [(x : Int)]) := by
        have hl' : i < xs.length := by rw [HX.out]; exact hl1
        have he := hxe
        simp only [List.getD, List.getElem?_eq_getElem hl', Option.getD_some] at he
        show _ = _
        rw [List.take_succ_eq_append_getElem hl', he]
      have HLEN : Hid ((xs.take i).length = i) := hl
      have HSB0 : Hid (SB w wr (.slice va i vc) (xs.take i) 0) := by have h := HSB.out; rw [hl] at h; exact h
      clear fr ow bl hl hxe HSB
      generalize hL : (xs.take i).map (Value.int .u8) = L at *
      have HL : Hid ((xs.take i).map (Value.int .u8) = L) := hL
      clear hL
      go_wp2
      go_region_law (first | (refine step_append rfl (.tmp 18) (.tmp 23) 22 rfl (w.heap.size + 1) 5 i0 (.int .u8 0) 1 1 Try.underlying22 hi hz0 hz1 hz2 rfl (by decide) (.slice va i vc) i L rfl (HOW.out.alloc _) ⟨wr.heap.size, 0, none⟩ 1 1 [.int .u8 (x : Int)] rfl rfl (cell_one_new _ _ _) (by intro u hu; simp at hu; subst hu; rfl) (by unfold maxLen; omega) (by omega) (by simp; omega) ?_; intro v3 w3 ho3 hg3; have b3 : Hid (Below (w.heap.size + 1) wr w3) := Below.grown (by first | exact ((Below.refl _ _).alloc hsz1 _).drew | exact ((Below.refl _ _).drew).alloc hsz1 _) hg3 (by simp; omega) (fun q hq => (World.ownsRow.lt HOW.out q hq).1); have k0 : w3.cell? ⟨w.heap.size, 0, none⟩ = some (.slice va i vc) := (b3.out.cell (p := ⟨w.heap.size, 0, none⟩) (Nat.lt_succ_self _)).trans c0; have k1 : w3.frozen? ⟨w.heap.size, 0, none⟩ = false := (b3.out.frozen (p := ⟨w.heap.size, 0, none⟩) (Nat.lt_succ_self _)).trans f0; obtain ⟨a3, c3', hv3, -, -⟩ := row_slice3 ho3; subst hv3; have HO3 : Hid (w3.ownsRow (w.heap.size + 1) 5 1 (.slice a3 (i + 1) c3') (i + 1) (L ++ [.int .u8 (x : Int)])) := ho3; clear ho3 hg3))
      all_goals
        have HSB2 : Hid (SB w (w3.setCell ⟨w.heap.size, 0, none⟩ (.slice a3 (i + 1) c3')) (.slice a3 (i + 1) c3') (xs.take (i + 1)) 0) := by
          have hp := HSB0.out.push (x := (x : Int)) b3.out (by rw [HLEN.out, HL.out]; exact HO3.out)
          rw [← HXT.out] at hp
          exact hp
        clear k0 k1 HO3 b3
        generalize w3.setCell ⟨w.heap.size, 0, none⟩ (.slice a3 (i + 1) c3') = w4 at *
        go_wp2
        exact ⟨⟨i + 1, _, by omega, by omega, by go_num, HSB2⟩, by simp [intOf]; omega⟩
    · have hex : (¬ (i : Int) < (n : Int)) ∨ ((i : Int) < (n : Int) ∧ ¬ (i : Int) < 4000) := by omega
      clear hlt
      obtain ⟨ys, hys⟩ : ∃ ys, ys = xs.take i := ⟨_, rfl⟩
      rw [← hys] at HSB
      have hyl : ys.length = i := by rw [hys, List.length_take, HX.out]; omega
      have HYB : Hid (Byt ys) := by rw [hys]; exact fun y hy => HBY.out y (List.mem_of_mem_take hy)
      have HYL : Hid (ys.length = i) := hyl
      clear hys hyl
      obtain ⟨sz, fr, c0, c1, c2, c3, ow, bl⟩ := HSB.out
      have f2 := fr 2
      clear fr ow bl
      rcases hex with h1 | ⟨h1, h2⟩
      all_goals
        go_wp2
        have HS1 : Hid (SB w (wr.setCell ⟨w.heap.size, 2, none⟩ (.int .i64 ((n : Int) % 1000 + 53))) v ys ((n : Int) % 1000 + 53)) := HSB.out.mix 0 _
        have hmx : 0 ≤ (n : Int) % 1000 + 53 ∧ (n : Int) % 1000 + 53 < 1000003 := by omega
        generalize (n : Int) % 1000 + 53 = m0 at *
        clear c0 c1 c2 c3 f2 HSB sz
        generalize wr.setCell ⟨w.heap.size, 2, none⟩ (.int .i64 m0) = w5 at *
        go_loopw [5] (fun vi wr => ∃ (j : Nat) (mx : Int), j ≤ i ∧ vi = .int .i64 j ∧ 0 ≤ mx ∧ mx < 1000003 ∧ Hid (SB w wr v ys mx)) (fun x _ => i - (intOf x).toNat)
        case atStart => exact ⟨0, m0, Nat.zero_le _, rfl, hmx.1, hmx.2, HS1⟩
        case round =>
          clear HS1 hmx
          obtain ⟨j, mx, hj, rfl, hm0, hm1, HSJ⟩ := hrel
          obtain ⟨sz, fr, c0, c1, c2, c3, ow, bl⟩ := HSJ.out
          have f2 := fr 2
          have f3 := fr 3
          by_cases hji : j < i
          · have hjI : (j : Int) < (i : Int) := by omega
            obtain ⟨g, vc, hva⟩ := row_some ow (by rw [HYL.out]; omega)
            rw [HYL.out] at hva
            obtain ⟨x, hx8, hxe⟩ := byt_at HYB.out j
            have cx : wr.cell? ⟨g, j, none⟩ = some (.int .u8 (x : Int)) := row_cell ow hva HYL.out hji hxe
            rw [hva] at c0
            clear ow bl hxe hva fr
            go_wp2
            go_region_law (fail)
            all_goals
              have hmk := mix_ok mx x hm0 hm1 hx8
              generalize (IntKind.i64.wrap (IntKind.i64.wrap (IntKind.i64.wrap (mx * 257) + IntKind.i64.wrap (x : Int)) + 1)).tmod 1000003 = m2 at *
              have HS2 : Hid (SB w ((wr.setCell ⟨w.heap.size, 2, none⟩ (.int .i64 m2)).drew) v ys m2) := (HSJ.out.mix 0 m2).drew
              generalize (wr.setCell ⟨w.heap.size, 2, none⟩ (.int .i64 m2)).drew = w6 at *
              clear c0 c1 c2 c3 cx f2 f3 HSJ
              go_wp2
              exact ⟨⟨j + 1, m2, by omega, by go_num, hmk.1, hmk.2, HS2⟩, by simp [intOf]; omega⟩
          · have hjI : ¬ (j : Int) < (i : Int) := by omega
            have hji2 : j = i := by omega
            obtain ⟨va, vc, hva, -, -⟩ := row_slice3 ow
            rw [HYL.out] at hva
            rw [hva] at c0
            have hsr := HSJ.out.src hm0 hm1 (by rw [HYL.out]; omega) HYB.out (1 + (i : Int) / 50)
            have HSR : Hid (SRC (wr.setCell ⟨w.heap.size, 3, none⟩ (.int .i64 (1 + (i : Int) / 50))) w.heap.size wr.heap.size) := hsr.1
            have HBR : Hid (Below w.heap.size w (wr.setCell ⟨w.heap.size, 3, none⟩ (.int .i64 (1 + (i : Int) / 50)))) := hsr.2
            clear bl hsr ow
            go_wp2
            all_goals
              go_ret
              first
                | exact ⟨_, rfl, Nat.le_refl _, HSR.out.mono (by simp), HBR.out⟩
                | exact ⟨_, rfl, Nat.le_refl _, HSR.out.put3.mono (by simp), HBR.out.setCell (Nat.le_refl _) _⟩

theorem source_any (w : World) (v : Value) (xs : List Int) (h : Rd .u8 w v xs) (hby : Byt xs) (hn : xs.length ≤ 1048576) :
    Calls Try.prog 26 #[v] w fun e w' => ∃ k, e = .returned (.pointer (some ⟨k, 0, none⟩)) ∧ w.heap.size ≤ k ∧ SRC w' k w'.heap.size ∧ Below w.heap.size w w' := by
  obtain ⟨ao, cap, rfl, h1, h2, h3⟩ := h
  rcases h3 with rfl | ⟨b, o, rfl, hb, hc⟩
  · exact source_nil w ao cap
  · exact source_row w b o xs.length cap xs rfl hb hc hby hn

end Go.Proofs.Ytgjenbgclpmjmaa
