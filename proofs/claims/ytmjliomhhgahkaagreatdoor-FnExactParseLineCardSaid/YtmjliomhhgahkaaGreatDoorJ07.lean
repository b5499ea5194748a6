import Derived.Test.YtmjliomhhgahkaaGreatDoorJ06
namespace Go.Proofs.YtmjliomhhgahkaaGreatDoor
open Go.RowKit Go.Shelf

/-- What a line of numbers is, where the numbers must fit. -/
def numLn (k : Int) (L : List ByteArray) (ok : List Int → Bool) : Ln :=
  match numsO L with
  | none => ln0
  | some ns => if L.length ≤ 2000 ∧ ok ns = true then ⟨k, [], false, ⟨#[]⟩, ns⟩ else ln0

set_option linter.unusedSimpArgs false in
set_option maxRecDepth 100000 in
set_option maxHeartbeats 16000000 in
theorem numPStep_any (w : World) (g c kb fb : Nat) (L : List ByteArray) (k : Int) (hk : w.cell? ⟨kb, 0, none⟩ = some (.int .i64 k)) (hf : w.cell? ⟨fb, 0, none⟩ = some (.func (.func 39) #[] #[])) (hL : 0 < L.length) (hL1 : L.length ≤ 1048577) (hLc : L.length ≤ c) (hcm : c ≤ maxLen) (hR : RdB w (.slice (some ⟨g, 0, none⟩) L.length c) L) (hsz : SzB L) {m : Int} {te : TypeId} {pe : Value} (hg : PlG w m te pe) (l : Ln) (hl : l = numLn k (L.drop 1) (fun ns => stepOk ns)) :
    Calls Tryz.prog 54 #[.slice (some ⟨g, 0, none⟩) L.length c, .pointer (some ⟨fb, 0, none⟩), .pointer (some ⟨kb, 0, none⟩)] w fun e w' => LnP w l e w' := by
  have hA : Below w.heap.size w (w.alloc (.cells #[.int .i64 0, .slice none 0 0, .bool false, .string ⟨#[]⟩, .slice none 0 0] 28)) := (Below.refl _ _).alloc (Nat.le_refl _) _
  have BA := hd9 hA
  have X := hd9 (St.new w #[.int .i64 0, .slice none 0 0, .bool false, .string ⟨#[]⟩, .slice none 0 0] 28)
  have hkl : kb < (w.alloc (.cells #[.int .i64 0, .slice none 0 0, .bool false, .string ⟨#[]⟩, .slice none 0 0] 28)).heap.size := Nat.lt_of_lt_of_le (World.block_lt_of_cell? w _ hk) hA.size
  have hfl : fb < (w.alloc (.cells #[.int .i64 0, .slice none 0 0, .bool false, .string ⟨#[]⟩, .slice none 0 0] 28)).heap.size := Nat.lt_of_lt_of_le (World.block_lt_of_cell? w _ hf) hA.size
  have hkz := (hA.cell (p := ⟨kb, 0, none⟩) (World.block_lt_of_cell? w _ hk)).trans hk
  have hfz := (hA.cell (p := ⟨fb, 0, none⟩) (World.block_lt_of_cell? w _ hf)).trans hf
  have RL := hR.below hA
  have RD : RdB (w.alloc (.cells #[.int .i64 0, .slice none 0 0, .bool false, .string ⟨#[]⟩, .slice none 0 0] 28)) (if c = 1 then .slice (some ⟨g, 0, none⟩) (L.length - 1) (c - 1) else .slice (some ⟨g, 0 + 1, none⟩) (L.length - 1) (c - 1)) (L.drop 1) := by
    have h9 := rdB_sub RL 1 (L.length - 1) (by omega)
    rw [List.take_of_length_le (by rw [List.length_drop]; exact Nat.le_refl _)] at h9
    by_cases hc : c = 1
    · rw [if_pos hc]
      have hz : L.drop 1 = [] := List.drop_of_length_le (by omega)
      rw [hz, show L.length - 1 = 0 by omega]
      exact ⟨_, _, rfl, Nat.zero_le _, by omega, .inl rfl⟩
    · rw [if_neg hc]; exact h9
  have HC := hd9 (parseNumbers_any (w.alloc (.cells #[.int .i64 0, .slice none 0 0, .bool false, .string ⟨#[]⟩, .slice none 0 0] 28)) _ (L.drop 1) RD (by rw [List.length_drop]; omega) (fun i => by rw [bAt_drop]; exact hsz _) (hg.later hA))
  have HLN := hd9 hl
  unfold maxLen at hcm
  clear RD RL hR hsz hg hA hl hk hf
  generalize L.drop 1 = L' at *
  go_enter Tryz.func54, Tryz.ntmps54
  by_cases hc : c = 1
  · rw [if_pos hc, show L.length - 1 = 0 by omega, show c - 1 = 0 by omega] at HC
    have hL1e : L.length = 1 := by omega
    go_wp2_with fail
    clear hc hL1e
    refine HC.out.mono ?_
    rintro e w2 ⟨vn, ns, gd, rfl, n2, b2, hgd, hns⟩
    obtain ⟨an, cn, rfl, -⟩ := ownI_cells n2
    have HFT := hd9 (areOfStep_any w2 _ (.slice an ns.length cn) ns n2)
    replace X := hd9 (X.out.below b2)
    replace BA := hd9 (BA.out.trans (b2.mono (by simp)))
    replace hkz := (b2.cell (p := ⟨kb, 0, none⟩) hkl).trans hkz
    replace hfz := (b2.cell (p := ⟨fb, 0, none⟩) hfl).trans hfz
    have N2 := hd9 (ownsRow_mono9 n2 (lo' := w.heap.size + 1) (by simp))
    have HQ := hd9 (And.intro hgd hns)
    clear HC n2 b2 hgd hns hkl hfl
    cases gd with
    | false =>
      have HNO : Hid (l = ln0) := by
        show _ = _
        rw [HLN.out]; unfold numLn
        cases hx : numsO L' with
        | none => rfl
        | some x => have := HQ.out.1; rw [hx] at this; cases this
      clear HLN HQ HFT
      have x0 := X.out.fz
      have y0 := X.out.cl 0 _ rfl
      have y1 := X.out.cl 1 _ rfl
      have y2 := X.out.cl 2 _ rfl
      have y3 := X.out.cl 3 _ rfl
      have y4 := X.out.cl 4 _ rfl
      go_wp2_with fail
      obtain ⟨b9, x9, o9, n9⟩ := ln_box BA.out X.out 0 false ⟨#[]⟩ (vo := .slice none 0 0) (vn := .slice none 0 0) (show OwnO _ _ _ _ [] from World.ownsRow_nil _ _ _ _) (show Own _ _ _ _ _ [] from World.ownsRow_nil _ _ _ _)
      have d0 := x9.cl 0 _ rfl
      have d1 := x9.cl 1 _ rfl
      have d2 := x9.cl 2 _ rfl
      have d3 := x9.cl 3 _ rfl
      have d4 := x9.cl 4 _ rfl
      exact bodyPost_ret (v := .agg #[.int .i64 0, .slice none 0 0, .bool false, .string ⟨#[]⟩, .slice none 0 0]) (by simp [results, Tryz.results54, go_sem, d0, d1, d2, d3, d4]) rfl (by rw [HNO.out]; exact ⟨_, _, rfl, o9, n9, b9⟩)
    | true =>
      obtain ⟨x, hx⟩ := Option.isSome_iff_exists.1 HQ.out.1.symm
      have hnx := HQ.out.2 x hx
      subst hnx
      have hln := numsO_len hx
      by_cases hbig : 2000 < ns.length
      · have hbI : (2000 : Int) < ((ns.length : Nat) : Int) := by omega
        have HNO : Hid (l = ln0) := by
          show _ = _
          rw [HLN.out]; unfold numLn
          rw [hx]
          show (if _ then _ else _) = _
          rw [if_neg (fun h => by omega)]
        clear HLN HQ HFT hx hln
        have x0 := X.out.fz
        have y0 := X.out.cl 0 _ rfl
        have y1 := X.out.cl 1 _ rfl
        have y2 := X.out.cl 2 _ rfl
        have y3 := X.out.cl 3 _ rfl
        have y4 := X.out.cl 4 _ rfl
        go_wp2_with fail
        obtain ⟨b9, x9, o9, n9⟩ := ln_box BA.out X.out 0 false ⟨#[]⟩ (vo := .slice none 0 0) (vn := .slice none 0 0) (show OwnO _ _ _ _ [] from World.ownsRow_nil _ _ _ _) (show Own _ _ _ _ _ [] from World.ownsRow_nil _ _ _ _)
        have d0 := x9.cl 0 _ rfl
        have d1 := x9.cl 1 _ rfl
        have d2 := x9.cl 2 _ rfl
        have d3 := x9.cl 3 _ rfl
        have d4 := x9.cl 4 _ rfl
        exact bodyPost_ret (v := .agg #[.int .i64 0, .slice none 0 0, .bool false, .string ⟨#[]⟩, .slice none 0 0]) (by simp [results, Tryz.results54, go_sem, d0, d1, d2, d3, d4]) rfl (by rw [HNO.out]; exact ⟨_, _, rfl, o9, n9, b9⟩)
      · have hbI : ¬ (2000 : Int) < ((ns.length : Nat) : Int) := by omega
        have HNO1 : Hid (l = if stepOk ns = true then ⟨k, [], false, ⟨#[]⟩, ns⟩ else ln0) := by
          show _ = _
          rw [HLN.out]; unfold numLn
          rw [hx]
          show (if _ then _ else _) = _
          by_cases h9 : stepOk ns = true
          · rw [if_pos ⟨by omega, h9⟩, if_pos h9]
          · rw [if_neg (fun h => h9 h.2), if_neg h9]
        clear HLN HQ hx hln
        cases hok : (stepOk ns : Bool) with
        | false =>
          have HNO : Hid (l = ln0) := by show _ = _; rw [HNO1.out, if_neg (by rw [hok]; decide)]
          clear HNO1
          go_wp2_with fail
          refine HFT.out.mono ?_
          rintro e w9 ⟨rfl, hw9⟩
          subst hw9
          rw [hok]
          have x0 := X.out.fz
          have y0 := X.out.cl 0 _ rfl
          have y1 := X.out.cl 1 _ rfl
          have y2 := X.out.cl 2 _ rfl
          have y3 := X.out.cl 3 _ rfl
          have y4 := X.out.cl 4 _ rfl
          go_wp2_with fail
          obtain ⟨b9, x9, o9, n9⟩ := ln_box BA.out X.out 0 false ⟨#[]⟩ (vo := .slice none 0 0) (vn := .slice none 0 0) (show OwnO _ _ _ _ [] from World.ownsRow_nil _ _ _ _) (show Own _ _ _ _ _ [] from World.ownsRow_nil _ _ _ _)
          have d0 := x9.cl 0 _ rfl
          have d1 := x9.cl 1 _ rfl
          have d2 := x9.cl 2 _ rfl
          have d3 := x9.cl 3 _ rfl
          have d4 := x9.cl 4 _ rfl
          exact bodyPost_ret (v := .agg #[.int .i64 0, .slice none 0 0, .bool false, .string ⟨#[]⟩, .slice none 0 0]) (by simp [results, Tryz.results54, go_sem, d0, d1, d2, d3, d4]) rfl (by rw [HNO.out]; exact ⟨_, _, rfl, o9, n9, b9⟩)
        | true =>
          have HNO : Hid (l = ⟨k, [], false, ⟨#[]⟩, ns⟩) := by show _ = _; rw [HNO1.out, if_pos hok]
          clear HNO1
          go_wp2_with fail
          refine HFT.out.mono ?_
          rintro e w9 ⟨rfl, hw9⟩
          subst hw9
          rw [hok]
          have x0 := X.out.fz
          have y0 := X.out.cl 0 _ rfl
          have y1 := X.out.cl 1 _ rfl
          have y2 := X.out.cl 2 _ rfl
          have y3 := X.out.cl 3 _ rfl
          have y4 := X.out.cl 4 _ rfl
          go_wp2_with fail
          obtain ⟨b9, x9, o9, n9⟩ := ln_box BA.out X.out k false ⟨#[]⟩ (vo := .slice none 0 0) (vn := .slice an ns.length cn) (show OwnO _ _ _ _ [] from World.ownsRow_nil _ _ _ _) (N2.out)
          have d0 := x9.cl 0 _ rfl
          have d1 := x9.cl 1 _ rfl
          have d2 := x9.cl 2 _ rfl
          have d3 := x9.cl 3 _ rfl
          have d4 := x9.cl 4 _ rfl
          exact bodyPost_ret (v := .agg #[.int .i64 k, .slice none 0 0, .bool false, .string ⟨#[]⟩, .slice an ns.length cn]) (by simp [results, Tryz.results54, go_sem, d0, d1, d2, d3, d4]) rfl (by rw [HNO.out]; exact ⟨_, _, rfl, o9, n9, b9⟩)
  · rw [if_neg hc] at HC
    go_wp2_with fail
    refine HC.out.mono ?_
    rintro e w2 ⟨vn, ns, gd, rfl, n2, b2, hgd, hns⟩
    obtain ⟨an, cn, rfl, -⟩ := ownI_cells n2
    have HFT := hd9 (areOfStep_any w2 _ (.slice an ns.length cn) ns n2)
    replace X := hd9 (X.out.below b2)
    replace BA := hd9 (BA.out.trans (b2.mono (by simp)))
    replace hkz := (b2.cell (p := ⟨kb, 0, none⟩) hkl).trans hkz
    replace hfz := (b2.cell (p := ⟨fb, 0, none⟩) hfl).trans hfz
    have N2 := hd9 (ownsRow_mono9 n2 (lo' := w.heap.size + 1) (by simp))
    have HQ := hd9 (And.intro hgd hns)
    clear HC n2 b2 hgd hns hkl hfl
    cases gd with
    | false =>
      have HNO : Hid (l = ln0) := by
        show _ = _
        rw [HLN.out]; unfold numLn
        cases hx : numsO L' with
        | none => rfl
        | some x => have := HQ.out.1; rw [hx] at this; cases this
      clear HLN HQ HFT
      have x0 := X.out.fz
      have y0 := X.out.cl 0 _ rfl
      have y1 := X.out.cl 1 _ rfl
      have y2 := X.out.cl 2 _ rfl
      have y3 := X.out.cl 3 _ rfl
      have y4 := X.out.cl 4 _ rfl
      go_wp2_with fail
      obtain ⟨b9, x9, o9, n9⟩ := ln_box BA.out X.out 0 false ⟨#[]⟩ (vo := .slice none 0 0) (vn := .slice none 0 0) (show OwnO _ _ _ _ [] from World.ownsRow_nil _ _ _ _) (show Own _ _ _ _ _ [] from World.ownsRow_nil _ _ _ _)
      have d0 := x9.cl 0 _ rfl
      have d1 := x9.cl 1 _ rfl
      have d2 := x9.cl 2 _ rfl
      have d3 := x9.cl 3 _ rfl
      have d4 := x9.cl 4 _ rfl
      exact bodyPost_ret (v := .agg #[.int .i64 0, .slice none 0 0, .bool false, .string ⟨#[]⟩, .slice none 0 0]) (by simp [results, Tryz.results54, go_sem, d0, d1, d2, d3, d4]) rfl (by rw [HNO.out]; exact ⟨_, _, rfl, o9, n9, b9⟩)
    | true =>
      obtain ⟨x, hx⟩ := Option.isSome_iff_exists.1 HQ.out.1.symm
      have hnx := HQ.out.2 x hx
      subst hnx
      have hln := numsO_len hx
      by_cases hbig : 2000 < ns.length
      · have hbI : (2000 : Int) < ((ns.length : Nat) : Int) := by omega
        have HNO : Hid (l = ln0) := by
          show _ = _
          rw [HLN.out]; unfold numLn
          rw [hx]
          show (if _ then _ else _) = _
          rw [if_neg (fun h => by omega)]
        clear HLN HQ HFT hx hln
        have x0 := X.out.fz
        have y0 := X.out.cl 0 _ rfl
        have y1 := X.out.cl 1 _ rfl
        have y2 := X.out.cl 2 _ rfl
        have y3 := X.out.cl 3 _ rfl
        have y4 := X.out.cl 4 _ rfl
        go_wp2_with fail
        obtain ⟨b9, x9, o9, n9⟩ := ln_box BA.out X.out 0 false ⟨#[]⟩ (vo := .slice none 0 0) (vn := .slice none 0 0) (show OwnO _ _ _ _ [] from World.ownsRow_nil _ _ _ _) (show Own _ _ _ _ _ [] from World.ownsRow_nil _ _ _ _)
        have d0 := x9.cl 0 _ rfl
        have d1 := x9.cl 1 _ rfl
        have d2 := x9.cl 2 _ rfl
        have d3 := x9.cl 3 _ rfl
        have d4 := x9.cl 4 _ rfl
        exact bodyPost_ret (v := .agg #[.int .i64 0, .slice none 0 0, .bool false, .string ⟨#[]⟩, .slice none 0 0]) (by simp [results, Tryz.results54, go_sem, d0, d1, d2, d3, d4]) rfl (by rw [HNO.out]; exact ⟨_, _, rfl, o9, n9, b9⟩)
      · have hbI : ¬ (2000 : Int) < ((ns.length : Nat) : Int) := by omega
        have HNO1 : Hid (l = if stepOk ns = true then ⟨k, [], false, ⟨#[]⟩, ns⟩ else ln0) := by
          show _ = _
          rw [HLN.out]; unfold numLn
          rw [hx]
          show (if _ then _ else _) = _
          by_cases h9 : stepOk ns = true
          · rw [if_pos ⟨by omega, h9⟩, if_pos h9]
          · rw [if_neg (fun h => h9 h.2), if_neg h9]
        clear HLN HQ hx hln
        cases hok : (stepOk ns : Bool) with
        | false =>
          have HNO : Hid (l = ln0) := by show _ = _; rw [HNO1.out, if_neg (by rw [hok]; decide)]
          clear HNO1
          go_wp2_with fail
          refine HFT.out.mono ?_
          rintro e w9 ⟨rfl, hw9⟩
          subst hw9
          rw [hok]
          have x0 := X.out.fz
          have y0 := X.out.cl 0 _ rfl
          have y1 := X.out.cl 1 _ rfl
          have y2 := X.out.cl 2 _ rfl
          have y3 := X.out.cl 3 _ rfl
          have y4 := X.out.cl 4 _ rfl
          go_wp2_with fail
          obtain ⟨b9, x9, o9, n9⟩ := ln_box BA.out X.out 0 false ⟨#[]⟩ (vo := .slice none 0 0) (vn := .slice none 0 0) (show OwnO _ _ _ _ [] from World.ownsRow_nil _ _ _ _) (show Own _ _ _ _ _ [] from World.ownsRow_nil _ _ _ _)
          have d0 := x9.cl 0 _ rfl
          have d1 := x9.cl 1 _ rfl
          have d2 := x9.cl 2 _ rfl
          have d3 := x9.cl 3 _ rfl
          have d4 := x9.cl 4 _ rfl
          exact bodyPost_ret (v := .agg #[.int .i64 0, .slice none 0 0, .bool false, .string ⟨#[]⟩, .slice none 0 0]) (by simp [results, Tryz.results54, go_sem, d0, d1, d2, d3, d4]) rfl (by rw [HNO.out]; exact ⟨_, _, rfl, o9, n9, b9⟩)
        | true =>
          have HNO : Hid (l = ⟨k, [], false, ⟨#[]⟩, ns⟩) := by show _ = _; rw [HNO1.out, if_pos hok]
          clear HNO1
          go_wp2_with fail
          refine HFT.out.mono ?_
          rintro e w9 ⟨rfl, hw9⟩
          subst hw9
          rw [hok]
          have x0 := X.out.fz
          have y0 := X.out.cl 0 _ rfl
          have y1 := X.out.cl 1 _ rfl
          have y2 := X.out.cl 2 _ rfl
          have y3 := X.out.cl 3 _ rfl
          have y4 := X.out.cl 4 _ rfl
          go_wp2_with fail
          obtain ⟨b9, x9, o9, n9⟩ := ln_box BA.out X.out k false ⟨#[]⟩ (vo := .slice none 0 0) (vn := .slice an ns.length cn) (show OwnO _ _ _ _ [] from World.ownsRow_nil _ _ _ _) (N2.out)
          have d0 := x9.cl 0 _ rfl
          have d1 := x9.cl 1 _ rfl
          have d2 := x9.cl 2 _ rfl
          have d3 := x9.cl 3 _ rfl
          have d4 := x9.cl 4 _ rfl
          exact bodyPost_ret (v := .agg #[.int .i64 k, .slice none 0 0, .bool false, .string ⟨#[]⟩, .slice an ns.length cn]) (by simp [results, Tryz.results54, go_sem, d0, d1, d2, d3, d4]) rfl (by rw [HNO.out]; exact ⟨_, _, rfl, o9, n9, b9⟩)

set_option linter.unusedSimpArgs false in
set_option maxRecDepth 100000 in
set_option maxHeartbeats 16000000 in
theorem numPArm_any (w : World) (g c kb fb : Nat) (L : List ByteArray) (k : Int) (hk : w.cell? ⟨kb, 0, none⟩ = some (.int .i64 k)) (hf : w.cell? ⟨fb, 0, none⟩ = some (.func (.func 40) #[] #[])) (hL : 0 < L.length) (hL1 : L.length ≤ 1048577) (hLc : L.length ≤ c) (hcm : c ≤ maxLen) (hR : RdB w (.slice (some ⟨g, 0, none⟩) L.length c) L) (hsz : SzB L) {m : Int} {te : TypeId} {pe : Value} (hg : PlG w m te pe) (l : Ln) (hl : l = numLn k (L.drop 1) (fun ns => armOk ns)) :
    Calls Tryz.prog 54 #[.slice (some ⟨g, 0, none⟩) L.length c, .pointer (some ⟨fb, 0, none⟩), .pointer (some ⟨kb, 0, none⟩)] w fun e w' => LnP w l e w' := by
  have hA : Below w.heap.size w (w.alloc (.cells #[.int .i64 0, .slice none 0 0, .bool false, .string ⟨#[]⟩, .slice none 0 0] 28)) := (Below.refl _ _).alloc (Nat.le_refl _) _
  have BA := hd9 hA
  have X := hd9 (St.new w #[.int .i64 0, .slice none 0 0, .bool false, .string ⟨#[]⟩, .slice none 0 0] 28)
  have hkl : kb < (w.alloc (.cells #[.int .i64 0, .slice none 0 0, .bool false, .string ⟨#[]⟩, .slice none 0 0] 28)).heap.size := Nat.lt_of_lt_of_le (World.block_lt_of_cell? w _ hk) hA.size
  have hfl : fb < (w.alloc (.cells #[.int .i64 0, .slice none 0 0, .bool false, .string ⟨#[]⟩, .slice none 0 0] 28)).heap.size := Nat.lt_of_lt_of_le (World.block_lt_of_cell? w _ hf) hA.size
  have hkz := (hA.cell (p := ⟨kb, 0, none⟩) (World.block_lt_of_cell? w _ hk)).trans hk
  have hfz := (hA.cell (p := ⟨fb, 0, none⟩) (World.block_lt_of_cell? w _ hf)).trans hf
  have RL := hR.below hA
  have RD : RdB (w.alloc (.cells #[.int .i64 0, .slice none 0 0, .bool false, .string ⟨#[]⟩, .slice none 0 0] 28)) (if c = 1 then .slice (some ⟨g, 0, none⟩) (L.length - 1) (c - 1) else .slice (some ⟨g, 0 + 1, none⟩) (L.length - 1) (c - 1)) (L.drop 1) := by
    have h9 := rdB_sub RL 1 (L.length - 1) (by omega)
    rw [List.take_of_length_le (by rw [List.length_drop]; exact Nat.le_refl _)] at h9
    by_cases hc : c = 1
    · rw [if_pos hc]
      have hz : L.drop 1 = [] := List.drop_of_length_le (by omega)
      rw [hz, show L.length - 1 = 0 by omega]
      exact ⟨_, _, rfl, Nat.zero_le _, by omega, .inl rfl⟩
    · rw [if_neg hc]; exact h9
  have HC := hd9 (parseNumbers_any (w.alloc (.cells #[.int .i64 0, .slice none 0 0, .bool false, .string ⟨#[]⟩, .slice none 0 0] 28)) _ (L.drop 1) RD (by rw [List.length_drop]; omega) (fun i => by rw [bAt_drop]; exact hsz _) (hg.later hA))
  have HLN := hd9 hl
  unfold maxLen at hcm
  clear RD RL hR hsz hg hA hl hk hf
  generalize L.drop 1 = L' at *
  go_enter Tryz.func54, Tryz.ntmps54
  by_cases hc : c = 1
  · rw [if_pos hc, show L.length - 1 = 0 by omega, show c - 1 = 0 by omega] at HC
    have hL1e : L.length = 1 := by omega
    go_wp2_with fail
    clear hc hL1e
    refine HC.out.mono ?_
    rintro e w2 ⟨vn, ns, gd, rfl, n2, b2, hgd, hns⟩
    obtain ⟨an, cn, rfl, -⟩ := ownI_cells n2
    have HFT := hd9 (areOfArm_any w2 _ (.slice an ns.length cn) ns n2)
    replace X := hd9 (X.out.below b2)
    replace BA := hd9 (BA.out.trans (b2.mono (by simp)))
    replace hkz := (b2.cell (p := ⟨kb, 0, none⟩) hkl).trans hkz
    replace hfz := (b2.cell (p := ⟨fb, 0, none⟩) hfl).trans hfz
    have N2 := hd9 (ownsRow_mono9 n2 (lo' := w.heap.size + 1) (by simp))
    have HQ := hd9 (And.intro hgd hns)
    clear HC n2 b2 hgd hns hkl hfl
    cases gd with
    | false =>
      have HNO : Hid (l = ln0) := by
        show _ = _
        rw [HLN.out]; unfold numLn
        cases hx : numsO L' with
        | none => rfl
        | some x => have := HQ.out.1; rw [hx] at this; cases this
      clear HLN HQ HFT
      have x0 := X.out.fz
      have y0 := X.out.cl 0 _ rfl
      have y1 := X.out.cl 1 _ rfl
      have y2 := X.out.cl 2 _ rfl
      have y3 := X.out.cl 3 _ rfl
      have y4 := X.out.cl 4 _ rfl
      go_wp2_with fail
      obtain ⟨b9, x9, o9, n9⟩ := ln_box BA.out X.out 0 false ⟨#[]⟩ (vo := .slice none 0 0) (vn := .slice none 0 0) (show OwnO _ _ _ _ [] from World.ownsRow_nil _ _ _ _) (show Own _ _ _ _ _ [] from World.ownsRow_nil _ _ _ _)
      have d0 := x9.cl 0 _ rfl
      have d1 := x9.cl 1 _ rfl
      have d2 := x9.cl 2 _ rfl
      have d3 := x9.cl 3 _ rfl
      have d4 := x9.cl 4 _ rfl
      exact bodyPost_ret (v := .agg #[.int .i64 0, .slice none 0 0, .bool false, .string ⟨#[]⟩, .slice none 0 0]) (by simp [results, Tryz.results54, go_sem, d0, d1, d2, d3, d4]) rfl (by rw [HNO.out]; exact ⟨_, _, rfl, o9, n9, b9⟩)
    | true =>
      obtain ⟨x, hx⟩ := Option.isSome_iff_exists.1 HQ.out.1.symm
      have hnx := HQ.out.2 x hx
      subst hnx
      have hln := numsO_len hx
      by_cases hbig : 2000 < ns.length
      · have hbI : (2000 : Int) < ((ns.length : Nat) : Int) := by omega
        have HNO : Hid (l = ln0) := by
          show _ = _
          rw [HLN.out]; unfold numLn
          rw [hx]
          show (if _ then _ else _) = _
          rw [if_neg (fun h => by omega)]
        clear HLN HQ HFT hx hln
        have x0 := X.out.fz
        have y0 := X.out.cl 0 _ rfl
        have y1 := X.out.cl 1 _ rfl
        have y2 := X.out.cl 2 _ rfl
        have y3 := X.out.cl 3 _ rfl
        have y4 := X.out.cl 4 _ rfl
        go_wp2_with fail
        obtain ⟨b9, x9, o9, n9⟩ := ln_box BA.out X.out 0 false ⟨#[]⟩ (vo := .slice none 0 0) (vn := .slice none 0 0) (show OwnO _ _ _ _ [] from World.ownsRow_nil _ _ _ _) (show Own _ _ _ _ _ [] from World.ownsRow_nil _ _ _ _)
        have d0 := x9.cl 0 _ rfl
        have d1 := x9.cl 1 _ rfl
        have d2 := x9.cl 2 _ rfl
        have d3 := x9.cl 3 _ rfl
        have d4 := x9.cl 4 _ rfl
        exact bodyPost_ret (v := .agg #[.int .i64 0, .slice none 0 0, .bool false, .string ⟨#[]⟩, .slice none 0 0]) (by simp [results, Tryz.results54, go_sem, d0, d1, d2, d3, d4]) rfl (by rw [HNO.out]; exact ⟨_, _, rfl, o9, n9, b9⟩)
      · have hbI : ¬ (2000 : Int) < ((ns.length : Nat) : Int) := by omega
        have HNO1 : Hid (l = if armOk ns = true then ⟨k, [], false, ⟨#[]⟩, ns⟩ else ln0) := by
          show _ = _
          rw [HLN.out]; unfold numLn
          rw [hx]
          show (if _ then _ else _) = _
          by_cases h9 : armOk ns = true
          · rw [if_pos ⟨by omega, h9⟩, if_pos h9]
          · rw [if_neg (fun h => h9 h.2), if_neg h9]
        clear HLN HQ hx hln
        cases hok : (armOk ns : Bool) with
        | false =>
          have HNO : Hid (l = ln0) := by show _ = _; rw [HNO1.out, if_neg (by rw [hok]; decide)]
          clear HNO1
          go_wp2_with fail
          refine HFT.out.mono ?_
          rintro e w9 ⟨rfl, hw9⟩
          subst hw9
          rw [hok]
          have x0 := X.out.fz
          have y0 := X.out.cl 0 _ rfl
          have y1 := X.out.cl 1 _ rfl
          have y2 := X.out.cl 2 _ rfl
          have y3 := X.out.cl 3 _ rfl
          have y4 := X.out.cl 4 _ rfl
          go_wp2_with fail
          obtain ⟨b9, x9, o9, n9⟩ := ln_box BA.out X.out 0 false ⟨#[]⟩ (vo := .slice none 0 0) (vn := .slice none 0 0) (show OwnO _ _ _ _ [] from World.ownsRow_nil _ _ _ _) (show Own _ _ _ _ _ [] from World.ownsRow_nil _ _ _ _)
          have d0 := x9.cl 0 _ rfl
          have d1 := x9.cl 1 _ rfl
          have d2 := x9.cl 2 _ rfl
          have d3 := x9.cl 3 _ rfl
          have d4 := x9.cl 4 _ rfl
          exact bodyPost_ret (v := .agg #[.int .i64 0, .slice none 0 0, .bool false, .string ⟨#[]⟩, .slice none 0 0]) (by simp [results, Tryz.results54, go_sem, d0, d1, d2, d3, d4]) rfl (by rw [HNO.out]; exact ⟨_, _, rfl, o9, n9, b9⟩)
        | true =>
          have HNO : Hid (l = ⟨k, [], false, ⟨#[]⟩, ns⟩) := by show _ = _; rw [HNO1.out, if_pos hok]
          clear HNO1
          go_wp2_with fail
          refine HFT.out.mono ?_
          rintro e w9 ⟨rfl, hw9⟩
          subst hw9
          rw [hok]
          have x0 := X.out.fz
          have y0 := X.out.cl 0 _ rfl
          have y1 := X.out.cl 1 _ rfl
          have y2 := X.out.cl 2 _ rfl
          have y3 := X.out.cl 3 _ rfl
          have y4 := X.out.cl 4 _ rfl
          go_wp2_with fail
          obtain ⟨b9, x9, o9, n9⟩ := ln_box BA.out X.out k false ⟨#[]⟩ (vo := .slice none 0 0) (vn := .slice an ns.length cn) (show OwnO _ _ _ _ [] from World.ownsRow_nil _ _ _ _) (N2.out)
          have d0 := x9.cl 0 _ rfl
          have d1 := x9.cl 1 _ rfl
          have d2 := x9.cl 2 _ rfl
          have d3 := x9.cl 3 _ rfl
          have d4 := x9.cl 4 _ rfl
          exact bodyPost_ret (v := .agg #[.int .i64 k, .slice none 0 0, .bool false, .string ⟨#[]⟩, .slice an ns.length cn]) (by simp [results, Tryz.results54, go_sem, d0, d1, d2, d3, d4]) rfl (by rw [HNO.out]; exact ⟨_, _, rfl, o9, n9, b9⟩)
  · rw [if_neg hc] at HC
    go_wp2_with fail
    refine HC.out.mono ?_
    rintro e w2 ⟨vn, ns, gd, rfl, n2, b2, hgd, hns⟩
    obtain ⟨an, cn, rfl, -⟩ := ownI_cells n2
    have HFT := hd9 (areOfArm_any w2 _ (.slice an ns.length cn) ns n2)
    replace X := hd9 (X.out.below b2)
    replace BA := hd9 (BA.out.trans (b2.mono (by simp)))
    replace hkz := (b2.cell (p := ⟨kb, 0, none⟩) hkl).trans hkz
    replace hfz := (b2.cell (p := ⟨fb, 0, none⟩) hfl).trans hfz
    have N2 := hd9 (ownsRow_mono9 n2 (lo' := w.heap.size + 1) (by simp))
    have HQ := hd9 (And.intro hgd hns)
    clear HC n2 b2 hgd hns hkl hfl
    cases gd with
    | false =>
      have HNO : Hid (l = ln0) := by
        show _ = _
        rw [HLN.out]; unfold numLn
        cases hx : numsO L' with
        | none => rfl
        | some x => have := HQ.out.1; rw [hx] at this; cases this
      clear HLN HQ HFT
      have x0 := X.out.fz
      have y0 := X.out.cl 0 _ rfl
      have y1 := X.out.cl 1 _ rfl
      have y2 := X.out.cl 2 _ rfl
      have y3 := X.out.cl 3 _ rfl
      have y4 := X.out.cl 4 _ rfl
      go_wp2_with fail
      obtain ⟨b9, x9, o9, n9⟩ := ln_box BA.out X.out 0 false ⟨#[]⟩ (vo := .slice none 0 0) (vn := .slice none 0 0) (show OwnO _ _ _ _ [] from World.ownsRow_nil _ _ _ _) (show Own _ _ _ _ _ [] from World.ownsRow_nil _ _ _ _)
      have d0 := x9.cl 0 _ rfl
      have d1 := x9.cl 1 _ rfl
      have d2 := x9.cl 2 _ rfl
      have d3 := x9.cl 3 _ rfl
      have d4 := x9.cl 4 _ rfl
      exact bodyPost_ret (v := .agg #[.int .i64 0, .slice none 0 0, .bool false, .string ⟨#[]⟩, .slice none 0 0]) (by simp [results, Tryz.results54, go_sem, d0, d1, d2, d3, d4]) rfl (by rw [HNO.out]; exact ⟨_, _, rfl, o9, n9, b9⟩)
    | true =>
      obtain ⟨x, hx⟩ := Option.isSome_iff_exists.1 HQ.out.1.symm
      have hnx := HQ.out.2 x hx
      subst hnx
      have hln := numsO_len hx
      by_cases hbig : 2000 < ns.length
      · have hbI : (2000 : Int) < ((ns.length : Nat) : Int) := by omega
        have HNO : Hid (l = ln0) := by
          show _ = _
          rw [HLN.out]; unfold numLn
          rw [hx]
          show (if _ then _ else _) = _
          rw [if_neg (fun h => by omega)]
        clear HLN HQ HFT hx hln
        have x0 := X.out.fz
        have y0 := X.out.cl 0 _ rfl
        have y1 := X.out.cl 1 _ rfl
        have y2 := X.out.cl 2 _ rfl
        have y3 := X.out.cl 3 _ rfl
        have y4 := X.out.cl 4 _ rfl
        go_wp2_with fail
        obtain ⟨b9, x9, o9, n9⟩ := ln_box BA.out X.out 0 false ⟨#[]⟩ (vo := .slice none 0 0) (vn := .slice none 0 0) (show OwnO _ _ _ _ [] from World.ownsRow_nil _ _ _ _) (show Own _ _ _ _ _ [] from World.ownsRow_nil _ _ _ _)
        have d0 := x9.cl 0 _ rfl
        have d1 := x9.cl 1 _ rfl
        have d2 := x9.cl 2 _ rfl
        have d3 := x9.cl 3 _ rfl
        have d4 := x9.cl 4 _ rfl
        exact bodyPost_ret (v := .agg #[.int .i64 0, .slice none 0 0, .bool false, .string ⟨#[]⟩, .slice none 0 0]) (by simp [results, Tryz.results54, go_sem, d0, d1, d2, d3, d4]) rfl (by rw [HNO.out]; exact ⟨_, _, rfl, o9, n9, b9⟩)
      · have hbI : ¬ (2000 : Int) < ((ns.length : Nat) : Int) := by omega
        have HNO1 : Hid (l = if armOk ns = true then ⟨k, [], false, ⟨#[]⟩, ns⟩ else ln0) := by
          show _ = _
          rw [HLN.out]; unfold numLn
          rw [hx]
          show (if _ then _ else _) = _
          by_cases h9 : armOk ns = true
          · rw [if_pos ⟨by omega, h9⟩, if_pos h9]
          · rw [if_neg (fun h => h9 h.2), if_neg h9]
        clear HLN HQ hx hln
        cases hok : (armOk ns : Bool) with
        | false =>
          have HNO : Hid (l = ln0) := by show _ = _; rw [HNO1.out, if_neg (by rw [hok]; decide)]
          clear HNO1
          go_wp2_with fail
          refine HFT.out.mono ?_
          rintro e w9 ⟨rfl, hw9⟩
          subst hw9
          rw [hok]
          have x0 := X.out.fz
          have y0 := X.out.cl 0 _ rfl
          have y1 := X.out.cl 1 _ rfl
          have y2 := X.out.cl 2 _ rfl
          have y3 := X.out.cl 3 _ rfl
          have y4 := X.out.cl 4 _ rfl
          go_wp2_with fail
          obtain ⟨b9, x9, o9, n9⟩ := ln_box BA.out X.out 0 false ⟨#[]⟩ (vo := .slice none 0 0) (vn := .slice none 0 0) (show OwnO _ _ _ _ [] from World.ownsRow_nil _ _ _ _) (show Own _ _ _ _ _ [] from World.ownsRow_nil _ _ _ _)
          have d0 := x9.cl 0 _ rfl
          have d1 := x9.cl 1 _ rfl
          have d2 := x9.cl 2 _ rfl
          have d3 := x9.cl 3 _ rfl
          have d4 := x9.cl 4 _ rfl
          exact bodyPost_ret (v := .agg #[.int .i64 0, .slice none 0 0, .bool false, .string ⟨#[]⟩, .slice none 0 0]) (by simp [results, Tryz.results54, go_sem, d0, d1, d2, d3, d4]) rfl (by rw [HNO.out]; exact ⟨_, _, rfl, o9, n9, b9⟩)
        | true =>
          have HNO : Hid (l = ⟨k, [], false, ⟨#[]⟩, ns⟩) := by show _ = _; rw [HNO1.out, if_pos hok]
          clear HNO1
          go_wp2_with fail
          refine HFT.out.mono ?_
          rintro e w9 ⟨rfl, hw9⟩
          subst hw9
          rw [hok]
          have x0 := X.out.fz
          have y0 := X.out.cl 0 _ rfl
          have y1 := X.out.cl 1 _ rfl
          have y2 := X.out.cl 2 _ rfl
          have y3 := X.out.cl 3 _ rfl
          have y4 := X.out.cl 4 _ rfl
          go_wp2_with fail
          obtain ⟨b9, x9, o9, n9⟩ := ln_box BA.out X.out k false ⟨#[]⟩ (vo := .slice none 0 0) (vn := .slice an ns.length cn) (show OwnO _ _ _ _ [] from World.ownsRow_nil _ _ _ _) (N2.out)
          have d0 := x9.cl 0 _ rfl
          have d1 := x9.cl 1 _ rfl
          have d2 := x9.cl 2 _ rfl
          have d3 := x9.cl 3 _ rfl
          have d4 := x9.cl 4 _ rfl
          exact bodyPost_ret (v := .agg #[.int .i64 k, .slice none 0 0, .bool false, .string ⟨#[]⟩, .slice an ns.length cn]) (by simp [results, Tryz.results54, go_sem, d0, d1, d2, d3, d4]) rfl (by rw [HNO.out]; exact ⟨_, _, rfl, o9, n9, b9⟩)

set_option linter.unusedSimpArgs false in
set_option maxRecDepth 100000 in
set_option maxHeartbeats 16000000 in
theorem numPCrash_any (w : World) (g c kb fb : Nat) (L : List ByteArray) (k : Int) (hk : w.cell? ⟨kb, 0, none⟩ = some (.int .i64 k)) (hf : w.cell? ⟨fb, 0, none⟩ = some (.func (.func 41) #[] #[])) (hL : 0 < L.length) (hL1 : L.length ≤ 1048577) (hLc : L.length ≤ c) (hcm : c ≤ maxLen) (hR : RdB w (.slice (some ⟨g, 0, none⟩) L.length c) L) (hsz : SzB L) {m : Int} {te : TypeId} {pe : Value} (hg : PlG w m te pe) (l : Ln) (hl : l = numLn k (L.drop 1) (fun _ => true)) :
    Calls Tryz.prog 54 #[.slice (some ⟨g, 0, none⟩) L.length c, .pointer (some ⟨fb, 0, none⟩), .pointer (some ⟨kb, 0, none⟩)] w fun e w' => LnP w l e w' := by
  have hA : Below w.heap.size w (w.alloc (.cells #[.int .i64 0, .slice none 0 0, .bool false, .string ⟨#[]⟩, .slice none 0 0] 28)) := (Below.refl _ _).alloc (Nat.le_refl _) _
  have BA := hd9 hA
  have X := hd9 (St.new w #[.int .i64 0, .slice none 0 0, .bool false, .string ⟨#[]⟩, .slice none 0 0] 28)
  have hkl : kb < (w.alloc (.cells #[.int .i64 0, .slice none 0 0, .bool false, .string ⟨#[]⟩, .slice none 0 0] 28)).heap.size := Nat.lt_of_lt_of_le (World.block_lt_of_cell? w _ hk) hA.size
  have hfl : fb < (w.alloc (.cells #[.int .i64 0, .slice none 0 0, .bool false, .string ⟨#[]⟩, .slice none 0 0] 28)).heap.size := Nat.lt_of_lt_of_le (World.block_lt_of_cell? w _ hf) hA.size
  have hkz := (hA.cell (p := ⟨kb, 0, none⟩) (World.block_lt_of_cell? w _ hk)).trans hk
  have hfz := (hA.cell (p := ⟨fb, 0, none⟩) (World.block_lt_of_cell? w _ hf)).trans hf
  have RL := hR.below hA
  have RD : RdB (w.alloc (.cells #[.int .i64 0, .slice none 0 0, .bool false, .string ⟨#[]⟩, .slice none 0 0] 28)) (if c = 1 then .slice (some ⟨g, 0, none⟩) (L.length - 1) (c - 1) else .slice (some ⟨g, 0 + 1, none⟩) (L.length - 1) (c - 1)) (L.drop 1) := by
    have h9 := rdB_sub RL 1 (L.length - 1) (by omega)
    rw [List.take_of_length_le (by rw [List.length_drop]; exact Nat.le_refl _)] at h9
    by_cases hc : c = 1
    · rw [if_pos hc]
      have hz : L.drop 1 = [] := List.drop_of_length_le (by omega)
      rw [hz, show L.length - 1 = 0 by omega]
      exact ⟨_, _, rfl, Nat.zero_le _, by omega, .inl rfl⟩
    · rw [if_neg hc]; exact h9
  have HC := hd9 (parseNumbers_any (w.alloc (.cells #[.int .i64 0, .slice none 0 0, .bool false, .string ⟨#[]⟩, .slice none 0 0] 28)) _ (L.drop 1) RD (by rw [List.length_drop]; omega) (fun i => by rw [bAt_drop]; exact hsz _) (hg.later hA))
  have HLN := hd9 hl
  unfold maxLen at hcm
  clear RD RL hR hsz hg hA hl hk hf
  generalize L.drop 1 = L' at *
  go_enter Tryz.func54, Tryz.ntmps54
  by_cases hc : c = 1
  · rw [if_pos hc, show L.length - 1 = 0 by omega, show c - 1 = 0 by omega] at HC
    have hL1e : L.length = 1 := by omega
    go_wp2_with fail
    clear hc hL1e
    refine HC.out.mono ?_
    rintro e w2 ⟨vn, ns, gd, rfl, n2, b2, hgd, hns⟩
    obtain ⟨an, cn, rfl, -⟩ := ownI_cells n2
    have HFT := hd9 (areOfCrash_any w2 (.slice an ns.length cn))
    replace X := hd9 (X.out.below b2)
    replace BA := hd9 (BA.out.trans (b2.mono (by simp)))
    replace hkz := (b2.cell (p := ⟨kb, 0, none⟩) hkl).trans hkz
    replace hfz := (b2.cell (p := ⟨fb, 0, none⟩) hfl).trans hfz
    have N2 := hd9 (ownsRow_mono9 n2 (lo' := w.heap.size + 1) (by simp))
    have HQ := hd9 (And.intro hgd hns)
    clear HC n2 b2 hgd hns hkl hfl
    cases gd with
    | false =>
      have HNO : Hid (l = ln0) := by
        show _ = _
        rw [HLN.out]; unfold numLn
        cases hx : numsO L' with
        | none => rfl
        | some x => have := HQ.out.1; rw [hx] at this; cases this
      clear HLN HQ HFT
      have x0 := X.out.fz
      have y0 := X.out.cl 0 _ rfl
      have y1 := X.out.cl 1 _ rfl
      have y2 := X.out.cl 2 _ rfl
      have y3 := X.out.cl 3 _ rfl
      have y4 := X.out.cl 4 _ rfl
      go_wp2_with fail
      obtain ⟨b9, x9, o9, n9⟩ := ln_box BA.out X.out 0 false ⟨#[]⟩ (vo := .slice none 0 0) (vn := .slice none 0 0) (show OwnO _ _ _ _ [] from World.ownsRow_nil _ _ _ _) (show Own _ _ _ _ _ [] from World.ownsRow_nil _ _ _ _)
      have d0 := x9.cl 0 _ rfl
      have d1 := x9.cl 1 _ rfl
      have d2 := x9.cl 2 _ rfl
      have d3 := x9.cl 3 _ rfl
      have d4 := x9.cl 4 _ rfl
      exact bodyPost_ret (v := .agg #[.int .i64 0, .slice none 0 0, .bool false, .string ⟨#[]⟩, .slice none 0 0]) (by simp [results, Tryz.results54, go_sem, d0, d1, d2, d3, d4]) rfl (by rw [HNO.out]; exact ⟨_, _, rfl, o9, n9, b9⟩)
    | true =>
      obtain ⟨x, hx⟩ := Option.isSome_iff_exists.1 HQ.out.1.symm
      have hnx := HQ.out.2 x hx
      subst hnx
      have hln := numsO_len hx
      by_cases hbig : 2000 < ns.length
      · have hbI : (2000 : Int) < ((ns.length : Nat) : Int) := by omega
        have HNO : Hid (l = ln0) := by
          show _ = _
          rw [HLN.out]; unfold numLn
          rw [hx]
          show (if _ then _ else _) = _
          rw [if_neg (fun h => by omega)]
        clear HLN HQ HFT hx hln
        have x0 := X.out.fz
        have y0 := X.out.cl 0 _ rfl
        have y1 := X.out.cl 1 _ rfl
        have y2 := X.out.cl 2 _ rfl
        have y3 := X.out.cl 3 _ rfl
        have y4 := X.out.cl 4 _ rfl
        go_wp2_with fail
        obtain ⟨b9, x9, o9, n9⟩ := ln_box BA.out X.out 0 false ⟨#[]⟩ (vo := .slice none 0 0) (vn := .slice none 0 0) (show OwnO _ _ _ _ [] from World.ownsRow_nil _ _ _ _) (show Own _ _ _ _ _ [] from World.ownsRow_nil _ _ _ _)
        have d0 := x9.cl 0 _ rfl
        have d1 := x9.cl 1 _ rfl
        have d2 := x9.cl 2 _ rfl
        have d3 := x9.cl 3 _ rfl
        have d4 := x9.cl 4 _ rfl
        exact bodyPost_ret (v := .agg #[.int .i64 0, .slice none 0 0, .bool false, .string ⟨#[]⟩, .slice none 0 0]) (by simp [results, Tryz.results54, go_sem, d0, d1, d2, d3, d4]) rfl (by rw [HNO.out]; exact ⟨_, _, rfl, o9, n9, b9⟩)
      · have hbI : ¬ (2000 : Int) < ((ns.length : Nat) : Int) := by omega
        have HNO : Hid (l = ⟨k, [], false, ⟨#[]⟩, ns⟩) := by
          show _ = _
          rw [HLN.out]; unfold numLn
          rw [hx]
          show (if _ then _ else _) = _
          rw [if_pos ⟨by omega, rfl⟩]
        clear HLN HQ hx hln
        go_wp2_with fail
        refine HFT.out.mono ?_
        rintro e w9 ⟨rfl, hw9⟩
        subst hw9
        have x0 := X.out.fz
        have y0 := X.out.cl 0 _ rfl
        have y1 := X.out.cl 1 _ rfl
        have y2 := X.out.cl 2 _ rfl
        have y3 := X.out.cl 3 _ rfl
        have y4 := X.out.cl 4 _ rfl
        go_wp2_with fail
        obtain ⟨b9, x9, o9, n9⟩ := ln_box BA.out X.out k false ⟨#[]⟩ (vo := .slice none 0 0) (vn := .slice an ns.length cn) (show OwnO _ _ _ _ [] from World.ownsRow_nil _ _ _ _) (N2.out)
        have d0 := x9.cl 0 _ rfl
        have d1 := x9.cl 1 _ rfl
        have d2 := x9.cl 2 _ rfl
        have d3 := x9.cl 3 _ rfl
        have d4 := x9.cl 4 _ rfl
        exact bodyPost_ret (v := .agg #[.int .i64 k, .slice none 0 0, .bool false, .string ⟨#[]⟩, .slice an ns.length cn]) (by simp [results, Tryz.results54, go_sem, d0, d1, d2, d3, d4]) rfl (by rw [HNO.out]; exact ⟨_, _, rfl, o9, n9, b9⟩)
  · rw [if_neg hc] at HC
    go_wp2_with fail
    refine HC.out.mono ?_
    rintro e w2 ⟨vn, ns, gd, rfl, n2, b2, hgd, hns⟩
    obtain ⟨an, cn, rfl, -⟩ := ownI_cells n2
    have HFT := hd9 (areOfCrash_any w2 (.slice an ns.length cn))
    replace X := hd9 (X.out.below b2)
    replace BA := hd9 (BA.out.trans (b2.mono (by simp)))
    replace hkz := (b2.cell (p := ⟨kb, 0, none⟩) hkl).trans hkz
    replace hfz := (b2.cell (p := ⟨fb, 0, none⟩) hfl).trans hfz
    have N2 := hd9 (ownsRow_mono9 n2 (lo' := w.heap.size + 1) (by simp))
    have HQ := hd9 (And.intro hgd hns)
    clear HC n2 b2 hgd hns hkl hfl
    cases gd with
    | false =>
      have HNO : Hid (l = ln0) := by
        show _ = _
        rw [HLN.out]; unfold numLn
        cases hx : numsO L' with
        | none => rfl
        | some x => have := HQ.out.1; rw [hx] at this; cases this
      clear HLN HQ HFT
      have x0 := X.out.fz
      have y0 := X.out.cl 0 _ rfl
      have y1 := X.out.cl 1 _ rfl
      have y2 := X.out.cl 2 _ rfl
      have y3 := X.out.cl 3 _ rfl
      have y4 := X.out.cl 4 _ rfl
      go_wp2_with fail
      obtain ⟨b9, x9, o9, n9⟩ := ln_box BA.out X.out 0 false ⟨#[]⟩ (vo := .slice none 0 0) (vn := .slice none 0 0) (show OwnO _ _ _ _ [] from World.ownsRow_nil _ _ _ _) (show Own _ _ _ _ _ [] from World.ownsRow_nil _ _ _ _)
      have d0 := x9.cl 0 _ rfl
      have d1 := x9.cl 1 _ rfl
      have d2 := x9.cl 2 _ rfl
      have d3 := x9.cl 3 _ rfl
      have d4 := x9.cl 4 _ rfl
      exact bodyPost_ret (v := .agg #[.int .i64 0, .slice none 0 0, .bool false, .string ⟨#[]⟩, .slice none 0 0]) (by simp [results, Tryz.results54, go_sem, d0, d1, d2, d3, d4]) rfl (by rw [HNO.out]; exact ⟨_, _, rfl, o9, n9, b9⟩)
    | true =>
      obtain ⟨x, hx⟩ := Option.isSome_iff_exists.1 HQ.out.1.symm
      have hnx := HQ.out.2 x hx
      subst hnx
      have hln := numsO_len hx
      by_cases hbig : 2000 < ns.length
      · have hbI : (2000 : Int) < ((ns.length : Nat) : Int) := by omega
        have HNO : Hid (l = ln0) := by
          show _ = _
          rw [HLN.out]; unfold numLn
          rw [hx]
          show (if _ then _ else _) = _
          rw [if_neg (fun h => by omega)]
        clear HLN HQ HFT hx hln
        have x0 := X.out.fz
        have y0 := X.out.cl 0 _ rfl
        have y1 := X.out.cl 1 _ rfl
        have y2 := X.out.cl 2 _ rfl
        have y3 := X.out.cl 3 _ rfl
        have y4 := X.out.cl 4 _ rfl
        go_wp2_with fail
        obtain ⟨b9, x9, o9, n9⟩ := ln_box BA.out X.out 0 false ⟨#[]⟩ (vo := .slice none 0 0) (vn := .slice none 0 0) (show OwnO _ _ _ _ [] from World.ownsRow_nil _ _ _ _) (show Own _ _ _ _ _ [] from World.ownsRow_nil _ _ _ _)
        have d0 := x9.cl 0 _ rfl
        have d1 := x9.cl 1 _ rfl
        have d2 := x9.cl 2 _ rfl
        have d3 := x9.cl 3 _ rfl
        have d4 := x9.cl 4 _ rfl
        exact bodyPost_ret (v := .agg #[.int .i64 0, .slice none 0 0, .bool false, .string ⟨#[]⟩, .slice none 0 0]) (by simp [results, Tryz.results54, go_sem, d0, d1, d2, d3, d4]) rfl (by rw [HNO.out]; exact ⟨_, _, rfl, o9, n9, b9⟩)
      · have hbI : ¬ (2000 : Int) < ((ns.length : Nat) : Int) := by omega
        have HNO : Hid (l = ⟨k, [], false, ⟨#[]⟩, ns⟩) := by
          show _ = _
          rw [HLN.out]; unfold numLn
          rw [hx]
          show (if _ then _ else _) = _
          rw [if_pos ⟨by omega, rfl⟩]
        clear HLN HQ hx hln
        go_wp2_with fail
        refine HFT.out.mono ?_
        rintro e w9 ⟨rfl, hw9⟩
        subst hw9
        have x0 := X.out.fz
        have y0 := X.out.cl 0 _ rfl
        have y1 := X.out.cl 1 _ rfl
        have y2 := X.out.cl 2 _ rfl
        have y3 := X.out.cl 3 _ rfl
        have y4 := X.out.cl 4 _ rfl
        go_wp2_with fail
        obtain ⟨b9, x9, o9, n9⟩ := ln_box BA.out X.out k false ⟨#[]⟩ (vo := .slice none 0 0) (vn := .slice an ns.length cn) (show OwnO _ _ _ _ [] from World.ownsRow_nil _ _ _ _) (N2.out)
        have d0 := x9.cl 0 _ rfl
        have d1 := x9.cl 1 _ rfl
        have d2 := x9.cl 2 _ rfl
        have d3 := x9.cl 3 _ rfl
        have d4 := x9.cl 4 _ rfl
        exact bodyPost_ret (v := .agg #[.int .i64 k, .slice none 0 0, .bool false, .string ⟨#[]⟩, .slice an ns.length cn]) (by simp [results, Tryz.results54, go_sem, d0, d1, d2, d3, d4]) rfl (by rw [HNO.out]; exact ⟨_, _, rfl, o9, n9, b9⟩)

set_option linter.unusedSimpArgs false in
set_option maxRecDepth 100000 in
set_option maxHeartbeats 16000000 in
theorem numPRot_any (w : World) (g c kb fb : Nat) (L : List ByteArray) (k : Int) (hk : w.cell? ⟨kb, 0, none⟩ = some (.int .i64 k)) (hf : w.cell? ⟨fb, 0, none⟩ = some (.func (.func 42) #[] #[])) (hL : 0 < L.length) (hL1 : L.length ≤ 1048577) (hLc : L.length ≤ c) (hcm : c ≤ maxLen) (hR : RdB w (.slice (some ⟨g, 0, none⟩) L.length c) L) (hsz : SzB L) {m : Int} {te : TypeId} {pe : Value} (hg : PlG w m te pe) (l : Ln) (hl : l = numLn k (L.drop 1) (fun ns => rotOk ns)) :
    Calls Tryz.prog 54 #[.slice (some ⟨g, 0, none⟩) L.length c, .pointer (some ⟨fb, 0, none⟩), .pointer (some ⟨kb, 0, none⟩)] w fun e w' => LnP w l e w' := by
  have hA : Below w.heap.size w (w.alloc (.cells #[.int .i64 0, .slice none 0 0, .bool false, .string ⟨#[]⟩, .slice none 0 0] 28)) := (Below.refl _ _).alloc (Nat.le_refl _) _
  have BA := hd9 hA
  have X := hd9 (St.new w #[.int .i64 0, .slice none 0 0, .bool false, .string ⟨#[]⟩, .slice none 0 0] 28)
  have hkl : kb < (w.alloc (.cells #[.int .i64 0, .slice none 0 0, .bool false, .string ⟨#[]⟩, .slice none 0 0] 28)).heap.size := Nat.lt_of_lt_of_le (World.block_lt_of_cell? w _ hk) hA.size
  have hfl : fb < (w.alloc (.cells #[.int .i64 0, .slice none 0 0, .bool false, .string ⟨#[]⟩, .slice none 0 0] 28)).heap.size := Nat.lt_of_lt_of_le (World.block_lt_of_cell? w _ hf) hA.size
  have hkz := (hA.cell (p := ⟨kb, 0, none⟩) (World.block_lt_of_cell? w _ hk)).trans hk
  have hfz := (hA.cell (p := ⟨fb, 0, none⟩) (World.block_lt_of_cell? w _ hf)).trans hf
  have RL := hR.below hA
  have RD : RdB (w.alloc (.cells #[.int .i64 0, .slice none 0 0, .bool false, .string ⟨#[]⟩, .slice none 0 0] 28)) (if c = 1 then .slice (some ⟨g, 0, none⟩) (L.length - 1) (c - 1) else .slice (some ⟨g, 0 + 1, none⟩) (L.length - 1) (c - 1)) (L.drop 1) := by
    have h9 := rdB_sub RL 1 (L.length - 1) (by omega)
    rw [List.take_of_length_le (by rw [List.length_drop]; exact Nat.le_refl _)] at h9
    by_cases hc : c = 1
    · rw [if_pos hc]
      have hz : L.drop 1 = [] := List.drop_of_length_le (by omega)
      rw [hz, show L.length - 1 = 0 by omega]
      exact ⟨_, _, rfl, Nat.zero_le _, by omega, .inl rfl⟩
    · rw [if_neg hc]; exact h9
  have HC := hd9 (parseNumbers_any (w.alloc (.cells #[.int .i64 0, .slice none 0 0, .bool false, .string ⟨#[]⟩, .slice none 0 0] 28)) _ (L.drop 1) RD (by rw [List.length_drop]; omega) (fun i => by rw [bAt_drop]; exact hsz _) (hg.later hA))
  have HLN := hd9 hl
  unfold maxLen at hcm
  clear RD RL hR hsz hg hA hl hk hf
  generalize L.drop 1 = L' at *
  go_enter Tryz.func54, Tryz.ntmps54
  by_cases hc : c = 1
  · rw [if_pos hc, show L.length - 1 = 0 by omega, show c - 1 = 0 by omega] at HC
    have hL1e : L.length = 1 := by omega
    go_wp2_with fail
    clear hc hL1e
    refine HC.out.mono ?_
    rintro e w2 ⟨vn, ns, gd, rfl, n2, b2, hgd, hns⟩
    obtain ⟨an, cn, rfl, -⟩ := ownI_cells n2
    have HFT := hd9 (areOfRot_any w2 _ (.slice an ns.length cn) ns n2)
    replace X := hd9 (X.out.below b2)
    replace BA := hd9 (BA.out.trans (b2.mono (by simp)))
    replace hkz := (b2.cell (p := ⟨kb, 0, none⟩) hkl).trans hkz
    replace hfz := (b2.cell (p := ⟨fb, 0, none⟩) hfl).trans hfz
    have N2 := hd9 (ownsRow_mono9 n2 (lo' := w.heap.size + 1) (by simp))
    have HQ := hd9 (And.intro hgd hns)
    clear HC n2 b2 hgd hns hkl hfl
    cases gd with
    | false =>
      have HNO : Hid (l = ln0) := by
        show _ = _
        rw [HLN.out]; unfold numLn
        cases hx : numsO L' with
        | none => rfl
        | some x => have := HQ.out.1; rw [hx] at this; cases this
      clear HLN HQ HFT
      have x0 := X.out.fz
      have y0 := X.out.cl 0 _ rfl
      have y1 := X.out.cl 1 _ rfl
      have y2 := X.out.cl 2 _ rfl
      have y3 := X.out.cl 3 _ rfl
      have y4 := X.out.cl 4 _ rfl
      go_wp2_with fail
      obtain ⟨b9, x9, o9, n9⟩ := ln_box BA.out X.out 0 false ⟨#[]⟩ (vo := .slice none 0 0) (vn := .slice none 0 0) (show OwnO _ _ _ _ [] from World.ownsRow_nil _ _ _ _) (show Own _ _ _ _ _ [] from World.ownsRow_nil _ _ _ _)
      have d0 := x9.cl 0 _ rfl
      have d1 := x9.cl 1 _ rfl
      have d2 := x9.cl 2 _ rfl
      have d3 := x9.cl 3 _ rfl
      have d4 := x9.cl 4 _ rfl
      exact bodyPost_ret (v := .agg #[.int .i64 0, .slice none 0 0, .bool false, .string ⟨#[]⟩, .slice none 0 0]) (by simp [results, Tryz.results54, go_sem, d0, d1, d2, d3, d4]) rfl (by rw [HNO.out]; exact ⟨_, _, rfl, o9, n9, b9⟩)
    | true =>
      obtain ⟨x, hx⟩ := Option.isSome_iff_exists.1 HQ.out.1.symm
      have hnx := HQ.out.2 x hx
      subst hnx
      have hln := numsO_len hx
      by_cases hbig : 2000 < ns.length
      · have hbI : (2000 : Int) < ((ns.length : Nat) : Int) := by omega
        have HNO : Hid (l = ln0) := by
          show _ = _
          rw [HLN.out]; unfold numLn
          rw [hx]
          show (if _ then _ else _) = _
          rw [if_neg (fun h => by omega)]
        clear HLN HQ HFT hx hln
        have x0 := X.out.fz
        have y0 := X.out.cl 0 _ rfl
        have y1 := X.out.cl 1 _ rfl
        have y2 := X.out.cl 2 _ rfl
        have y3 := X.out.cl 3 _ rfl
        have y4 := X.out.cl 4 _ rfl
        go_wp2_with fail
        obtain ⟨b9, x9, o9, n9⟩ := ln_box BA.out X.out 0 false ⟨#[]⟩ (vo := .slice none 0 0) (vn := .slice none 0 0) (show OwnO _ _ _ _ [] from World.ownsRow_nil _ _ _ _) (show Own _ _ _ _ _ [] from World.ownsRow_nil _ _ _ _)
        have d0 := x9.cl 0 _ rfl
        have d1 := x9.cl 1 _ rfl
        have d2 := x9.cl 2 _ rfl
        have d3 := x9.cl 3 _ rfl
        have d4 := x9.cl 4 _ rfl
        exact bodyPost_ret (v := .agg #[.int .i64 0, .slice none 0 0, .bool false, .string ⟨#[]⟩, .slice none 0 0]) (by simp [results, Tryz.results54, go_sem, d0, d1, d2, d3, d4]) rfl (by rw [HNO.out]; exact ⟨_, _, rfl, o9, n9, b9⟩)
      · have hbI : ¬ (2000 : Int) < ((ns.length : Nat) : Int) := by omega
        have HNO1 : Hid (l = if rotOk ns = true then ⟨k, [], false, ⟨#[]⟩, ns⟩ else ln0) := by
          show _ = _
          rw [HLN.out]; unfold numLn
          rw [hx]
          show (if _ then _ else _) = _
          by_cases h9 : rotOk ns = true
          · rw [if_pos ⟨by omega, h9⟩, if_pos h9]
          · rw [if_neg (fun h => h9 h.2), if_neg h9]
        clear HLN HQ hx hln
        cases hok : (rotOk ns : Bool) with
        | false =>
          have HNO : Hid (l = ln0) := by show _ = _; rw [HNO1.out, if_neg (by rw [hok]; decide)]
          clear HNO1
          go_wp2_with fail
          refine HFT.out.mono ?_
          rintro e w9 ⟨rfl, hw9⟩
          subst hw9
          rw [hok]
          have x0 := X.out.fz
          have y0 := X.out.cl 0 _ rfl
          have y1 := X.out.cl 1 _ rfl
          have y2 := X.out.cl 2 _ rfl
          have y3 := X.out.cl 3 _ rfl
          have y4 := X.out.cl 4 _ rfl
          go_wp2_with fail
          obtain ⟨b9, x9, o9, n9⟩ := ln_box BA.out X.out 0 false ⟨#[]⟩ (vo := .slice none 0 0) (vn := .slice none 0 0) (show OwnO _ _ _ _ [] from World.ownsRow_nil _ _ _ _) (show Own _ _ _ _ _ [] from World.ownsRow_nil _ _ _ _)
          have d0 := x9.cl 0 _ rfl
          have d1 := x9.cl 1 _ rfl
          have d2 := x9.cl 2 _ rfl
          have d3 := x9.cl 3 _ rfl
          have d4 := x9.cl 4 _ rfl
          exact bodyPost_ret (v := .agg #[.int .i64 0, .slice none 0 0, .bool false, .string ⟨#[]⟩, .slice none 0 0]) (by simp [results, Tryz.results54, go_sem, d0, d1, d2, d3, d4]) rfl (by rw [HNO.out]; exact ⟨_, _, rfl, o9, n9, b9⟩)
        | true =>
          have HNO : Hid (l = ⟨k, [], false, ⟨#[]⟩, ns⟩) := by show _ = _; rw [HNO1.out, if_pos hok]
          clear HNO1
          go_wp2_with fail
          refine HFT.out.mono ?_
          rintro e w9 ⟨rfl, hw9⟩
          subst hw9
          rw [hok]
          have x0 := X.out.fz
          have y0 := X.out.cl 0 _ rfl
          have y1 := X.out.cl 1 _ rfl
          have y2 := X.out.cl 2 _ rfl
          have y3 := X.out.cl 3 _ rfl
          have y4 := X.out.cl 4 _ rfl
          go_wp2_with fail
          obtain ⟨b9, x9, o9, n9⟩ := ln_box BA.out X.out k false ⟨#[]⟩ (vo := .slice none 0 0) (vn := .slice an ns.length cn) (show OwnO _ _ _ _ [] from World.ownsRow_nil _ _ _ _) (N2.out)
          have d0 := x9.cl 0 _ rfl
          have d1 := x9.cl 1 _ rfl
          have d2 := x9.cl 2 _ rfl
          have d3 := x9.cl 3 _ rfl
          have d4 := x9.cl 4 _ rfl
          exact bodyPost_ret (v := .agg #[.int .i64 k, .slice none 0 0, .bool false, .string ⟨#[]⟩, .slice an ns.length cn]) (by simp [results, Tryz.results54, go_sem, d0, d1, d2, d3, d4]) rfl (by rw [HNO.out]; exact ⟨_, _, rfl, o9, n9, b9⟩)
  · rw [if_neg hc] at HC
    go_wp2_with fail
    refine HC.out.mono ?_
    rintro e w2 ⟨vn, ns, gd, rfl, n2, b2, hgd, hns⟩
    obtain ⟨an, cn, rfl, -⟩ := ownI_cells n2
    have HFT := hd9 (areOfRot_any w2 _ (.slice an ns.length cn) ns n2)
    replace X := hd9 (X.out.below b2)
    replace BA := hd9 (BA.out.trans (b2.mono (by simp)))
    replace hkz := (b2.cell (p := ⟨kb, 0, none⟩) hkl).trans hkz
    replace hfz := (b2.cell (p := ⟨fb, 0, none⟩) hfl).trans hfz
    have N2 := hd9 (ownsRow_mono9 n2 (lo' := w.heap.size + 1) (by simp))
    have HQ := hd9 (And.intro hgd hns)
    clear HC n2 b2 hgd hns hkl hfl
    cases gd with
    | false =>
      have HNO : Hid (l = ln0) := by
        show _ = _
        rw [HLN.out]; unfold numLn
        cases hx : numsO L' with
        | none => rfl
        | some x => have := HQ.out.1; rw [hx] at this; cases this
      clear HLN HQ HFT
      have x0 := X.out.fz
      have y0 := X.out.cl 0 _ rfl
      have y1 := X.out.cl 1 _ rfl
      have y2 := X.out.cl 2 _ rfl
      have y3 := X.out.cl 3 _ rfl
      have y4 := X.out.cl 4 _ rfl
      go_wp2_with fail
      obtain ⟨b9, x9, o9, n9⟩ := ln_box BA.out X.out 0 false ⟨#[]⟩ (vo := .slice none 0 0) (vn := .slice none 0 0) (show OwnO _ _ _ _ [] from World.ownsRow_nil _ _ _ _) (show Own _ _ _ _ _ [] from World.ownsRow_nil _ _ _ _)
      have d0 := x9.cl 0 _ rfl
      have d1 := x9.cl 1 _ rfl
      have d2 := x9.cl 2 _ rfl
      have d3 := x9.cl 3 _ rfl
      have d4 := x9.cl 4 _ rfl
      exact bodyPost_ret (v := .agg #[.int .i64 0, .slice none 0 0, .bool false, .string ⟨#[]⟩, .slice none 0 0]) (by simp [results, Tryz.results54, go_sem, d0, d1, d2, d3, d4]) rfl (by rw [HNO.out]; exact ⟨_, _, rfl, o9, n9, b9⟩)
    | true =>
      obtain ⟨x, hx⟩ := Option.isSome_iff_exists.1 HQ.out.1.symm
      have hnx := HQ.out.2 x hx
      subst hnx
      have hln := numsO_len hx
      by_cases hbig : 2000 < ns.length
      · have hbI : (2000 : Int) < ((ns.length : Nat) : Int) := by omega
        have HNO : Hid (l = ln0) := by
          show _ = _
          rw [HLN.out]; unfold numLn
          rw [hx]
          show (if _ then _ else _) = _
          rw [if_neg (fun h => by omega)]
        clear HLN HQ HFT hx hln
        have x0 := X.out.fz
        have y0 := X.out.cl 0 _ rfl
        have y1 := X.out.cl 1 _ rfl
        have y2 := X.out.cl 2 _ rfl
        have y3 := X.out.cl 3 _ rfl
        have y4 := X.out.cl 4 _ rfl
        go_wp2_with fail
        obtain ⟨b9, x9, o9, n9⟩ := ln_box BA.out X.out 0 false ⟨#[]⟩ (vo := .slice none 0 0) (vn := .slice none 0 0) (show OwnO _ _ _ _ [] from World.ownsRow_nil _ _ _ _) (show Own _ _ _ _ _ [] from World.ownsRow_nil _ _ _ _)
        have d0 := x9.cl 0 _ rfl
        have d1 := x9.cl 1 _ rfl
        have d2 := x9.cl 2 _ rfl
        have d3 := x9.cl 3 _ rfl
        have d4 := x9.cl 4 _ rfl
        exact bodyPost_ret (v := .agg #[.int .i64 0, .slice none 0 0, .bool false, .string ⟨#[]⟩, .slice none 0 0]) (by simp [results, Tryz.results54, go_sem, d0, d1, d2, d3, d4]) rfl (by rw [HNO.out]; exact ⟨_, _, rfl, o9, n9, b9⟩)
      · have hbI : ¬ (2000 : Int) < ((ns.length : Nat) : Int) := by omega
        have HNO1 : Hid (l = if rotOk ns = true then ⟨k, [], false, ⟨#[]⟩, ns⟩ else ln0) := by
          show _ = _
          rw [HLN.out]; unfold numLn
          rw [hx]
          show (if _ then _ else _) = _
          by_cases h9 : rotOk ns = true
          · rw [if_pos ⟨by omega, h9⟩, if_pos h9]
          · rw [if_neg (fun h => h9 h.2), if_neg h9]
        clear HLN HQ hx hln
        cases hok : (rotOk ns : Bool) with
        | false =>
          have HNO : Hid (l = ln0) := by show _ = _; rw [HNO1.out, if_neg (by rw [hok]; decide)]
          clear HNO1
          go_wp2_with fail
          refine HFT.out.mono ?_
          rintro e w9 ⟨rfl, hw9⟩
          subst hw9
          rw [hok]
          have x0 := X.out.fz
          have y0 := X.out.cl 0 _ rfl
          have y1 := X.out.cl 1 _ rfl
          have y2 := X.out.cl 2 _ rfl
          have y3 := X.out.cl 3 _ rfl
          have y4 := X.out.cl 4 _ rfl
          go_wp2_with fail
          obtain ⟨b9, x9, o9, n9⟩ := ln_box BA.out X.out 0 false ⟨#[]⟩ (vo := .slice none 0 0) (vn := .slice none 0 0) (show OwnO _ _ _ _ [] from World.ownsRow_nil _ _ _ _) (show Own _ _ _ _ _ [] from World.ownsRow_nil _ _ _ _)
          have d0 := x9.cl 0 _ rfl
          have d1 := x9.cl 1 _ rfl
          have d2 := x9.cl 2 _ rfl
          have d3 := x9.cl 3 _ rfl
          have d4 := x9.cl 4 _ rfl
          exact bodyPost_ret (v := .agg #[.int .i64 0, .slice none 0 0, .bool false, .string ⟨#[]⟩, .slice none 0 0]) (by simp [results, Tryz.results54, go_sem, d0, d1, d2, d3, d4]) rfl (by rw [HNO.out]; exact ⟨_, _, rfl, o9, n9, b9⟩)
        | true =>
          have HNO : Hid (l = ⟨k, [], false, ⟨#[]⟩, ns⟩) := by show _ = _; rw [HNO1.out, if_pos hok]
          clear HNO1
          go_wp2_with fail
          refine HFT.out.mono ?_
          rintro e w9 ⟨rfl, hw9⟩
          subst hw9
          rw [hok]
          have x0 := X.out.fz
          have y0 := X.out.cl 0 _ rfl
          have y1 := X.out.cl 1 _ rfl
          have y2 := X.out.cl 2 _ rfl
          have y3 := X.out.cl 3 _ rfl
          have y4 := X.out.cl 4 _ rfl
          go_wp2_with fail
          obtain ⟨b9, x9, o9, n9⟩ := ln_box BA.out X.out k false ⟨#[]⟩ (vo := .slice none 0 0) (vn := .slice an ns.length cn) (show OwnO _ _ _ _ [] from World.ownsRow_nil _ _ _ _) (N2.out)
          have d0 := x9.cl 0 _ rfl
          have d1 := x9.cl 1 _ rfl
          have d2 := x9.cl 2 _ rfl
          have d3 := x9.cl 3 _ rfl
          have d4 := x9.cl 4 _ rfl
          exact bodyPost_ret (v := .agg #[.int .i64 k, .slice none 0 0, .bool false, .string ⟨#[]⟩, .slice an ns.length cn]) (by simp [results, Tryz.results54, go_sem, d0, d1, d2, d3, d4]) rfl (by rw [HNO.out]; exact ⟨_, _, rfl, o9, n9, b9⟩)

end Go.Proofs.YtmjliomhhgahkaaGreatDoor


