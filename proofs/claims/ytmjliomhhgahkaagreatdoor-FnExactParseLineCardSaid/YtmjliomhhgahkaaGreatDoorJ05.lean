import Derived.Test.YtmjliomhhgahkaaGreatDoorJ04
namespace Go.Proofs.YtmjliomhhgahkaaGreatDoor
open Go.RowKit Go.Shelf

/-- The forms of operations, as the variable holds them. -/
def fmL : List Value := [.string ⟨#[99, 114, 101, 97, 116, 101]⟩, .int .i64 1, .bool false, .bool true, .bool false, .string ⟨#[115, 101, 113]⟩, .int .i64 1, .bool true, .bool true, .bool false, .string ⟨#[100, 101, 108, 101, 116, 101]⟩, .int .i64 2, .bool false, .bool false, .bool true, .string ⟨#[115, 101, 116]⟩, .int .i64 3, .bool false, .bool true, .bool true, .string ⟨#[99, 104, 101, 99, 107]⟩, .int .i64 4, .bool false, .bool false, .bool true]
def FmG (w : World) : Prop := 1 < w.heap.size ∧ w.rangeAt 1 0 fmL
theorem FmG.later {w w' : World} (h : FmG w) (hb : Below w.heap.size w w') : FmG w' := ⟨Nat.lt_of_lt_of_le h.1 hb.size, fun j v hv => (hb.cell (p := ⟨1, 0 + j, none⟩) h.1).trans (h.2 j v hv)⟩
def formR (f : ByteArray) : Option (Int × Bool × Bool × Bool) :=
  if (f.toList == [99, 114, 101, 97, 116, 101]) = true then some (1, false, true, false)
  else if (f.toList == [115, 101, 113]) = true then some (1, true, true, false)
  else if (f.toList == [100, 101, 108, 101, 116, 101]) = true then some (2, false, false, true)
  else if (f.toList == [115, 101, 116]) = true then some (3, false, true, true)
  else if (f.toList == [99, 104, 101, 99, 107]) = true then some (4, false, false, true)
  else none
def wds : List (List UInt8) := [[99, 114, 101, 97, 116, 101], [115, 101, 113], [100, 101, 108, 101, 116, 101], [115, 101, 116], [99, 104, 101, 99, 107]]
def FmP (w : World) (f : ByteArray) (e : Ending) (w' : World) : Prop :=
  Below w.heap.size w w' ∧ ∃ (wd : ByteArray) (k : Int) (s d v known : Bool), e = .returned (.tuple #[.agg #[.string wd, .int .i64 k, .bool s, .bool d, .bool v], .bool known]) ∧ known = (formR f).isSome ∧ ∀ x, formR f = some x → x = (k, s, d, v)
theorem FmP.yes {w w' : World} {f wd : ByteArray} {k : Int} {s d v : Bool} (h : formR f = some (k, s, d, v)) (hb : Below w.heap.size w w') : FmP w f (.returned (.tuple #[.agg #[.string wd, .int .i64 k, .bool s, .bool d, .bool v], .bool true])) w' :=
  ⟨hb, wd, k, s, d, v, true, rfl, by rw [h]; rfl, fun x hx => by rw [h] at hx; injection hx with hx; exact hx.symm⟩
theorem FmP.no {w w' : World} {f wd : ByteArray} {k : Int} {s d v : Bool} (h : formR f = none) (hb : Below w.heap.size w w') : FmP w f (.returned (.tuple #[.agg #[.string wd, .int .i64 k, .bool s, .bool d, .bool v], .bool false])) w' :=
  ⟨hb, wd, k, s, d, v, false, rfl, by rw [h]; rfl, fun x hx => by rw [h] at hx; cases hx⟩
theorem fx_0 (W : World) : (Instr.index 91 (.agg fmL.toArray) (.int .i64 0)).run Tryz.prog W = .ok (.agg #[.string ⟨#[99, 114, 101, 97, 116, 101]⟩, .int .i64 1, .bool false, .bool true, .bool false]) W := by kernel_rfl
theorem fx_1 (W : World) : (Instr.index 91 (.agg fmL.toArray) (.int .i64 1)).run Tryz.prog W = .ok (.agg #[.string ⟨#[115, 101, 113]⟩, .int .i64 1, .bool true, .bool true, .bool false]) W := by kernel_rfl
theorem fx_2 (W : World) : (Instr.index 91 (.agg fmL.toArray) (.int .i64 2)).run Tryz.prog W = .ok (.agg #[.string ⟨#[100, 101, 108, 101, 116, 101]⟩, .int .i64 2, .bool false, .bool false, .bool true]) W := by kernel_rfl
theorem fx_3 (W : World) : (Instr.index 91 (.agg fmL.toArray) (.int .i64 3)).run Tryz.prog W = .ok (.agg #[.string ⟨#[115, 101, 116]⟩, .int .i64 3, .bool false, .bool true, .bool true]) W := by kernel_rfl
theorem fx_4 (W : World) : (Instr.index 91 (.agg fmL.toArray) (.int .i64 4)).run Tryz.prog W = .ok (.agg #[.string ⟨#[99, 104, 101, 99, 107]⟩, .int .i64 4, .bool false, .bool false, .bool true]) W := by kernel_rfl
theorem fm_box {w w1 : World} (hb : Below w.heap.size w w1) {a b c d e : Value} (X : St w1 w.heap.size [a, b, c, d, e]) (wd : ByteArray) (k : Int) (s dd v : Bool) :
    Below w.heap.size w (((((w1.setCell ⟨w.heap.size, 0, none⟩ (.string wd)).setCell ⟨w.heap.size, 1, none⟩ (.int .i64 k)).setCell ⟨w.heap.size, 2, none⟩ (.bool s)).setCell ⟨w.heap.size, 3, none⟩ (.bool dd)).setCell ⟨w.heap.size, 4, none⟩ (.bool v)) ∧
    St (((((w1.setCell ⟨w.heap.size, 0, none⟩ (.string wd)).setCell ⟨w.heap.size, 1, none⟩ (.int .i64 k)).setCell ⟨w.heap.size, 2, none⟩ (.bool s)).setCell ⟨w.heap.size, 3, none⟩ (.bool dd)).setCell ⟨w.heap.size, 4, none⟩ (.bool v)) w.heap.size [.string wd, .int .i64 k, .bool s, .bool dd, .bool v] :=
  ⟨((((hb.setCell (Nat.le_refl _) _).setCell (Nat.le_refl _) _).setCell (Nat.le_refl _) _).setCell (Nat.le_refl _) _).setCell (Nat.le_refl _) _, ((((X.set 0 _).set 1 _).set 2 _).set 3 _).set 4 _⟩
theorem beq_sym9 {x y : List UInt8} {t : Bool} (h : (x == y) = t) : (y == x) = t := by rw [← h]; exact BEq.comm

set_option linter.unusedSimpArgs false in
set_option maxRecDepth 100000 in
set_option maxHeartbeats 16000000 in
theorem formOf_any (w : World) (f : ByteArray) (hg : FmG w) : Calls Tryz.prog 65 #[.string f] w fun e w' => FmP w f e w' := by
  have hA : Below w.heap.size w (w.alloc (.cells #[.string ⟨#[]⟩, .int .i64 0, .bool false, .bool false, .bool false] 85)) := (Below.refl _ _).alloc (Nat.le_refl _) _
  have BA := hd9 hA
  have X := hd9 (St.new w #[.string ⟨#[]⟩, .int .i64 0, .bool false, .bool false, .bool false] 85)
  have HG := hd9 (hg.later hA)
  have HX0 := hd9 fx_0
  have HX1 := hd9 fx_1
  have HX2 := hd9 fx_2
  have HX3 := hd9 fx_3
  have HX4 := hd9 fx_4
  clear hA hg
  go_enter Tryz.func65, Tryz.ntmps65
  go_wp2_with (refine wpList_load_mid rfl 91 _ rfl 1 0 rfl fmL _ HG.out.2 Tryz.underlying91 rfl (by kernel_rfl) ?_)
  generalize w.alloc (.cells #[.string ⟨#[]⟩, .int .i64 0, .bool false, .bool false, .bool false] 85) = w1 at *
  generalize fmL.toArray = FA at *

  go_loopw [7] (fun v7 wr => ∃ i : Nat, v7 = .int .i64 (i : Int) ∧ i ≤ 5 ∧ Hid (Below w.heap.size w wr) ∧ Hid (St wr w.heap.size [.string ⟨#[]⟩, .int .i64 0, .bool false, .bool false, .bool false]) ∧ Hid (∀ (j : Nat) (l : List UInt8), j < i → wds[j]? = some l → (f.toList == l) = false)) (fun i _ => 5 - (intOf i).toNat)
  case atStart => exact ⟨0, rfl, by omega, BA, X, fun j l hj => absurd hj (Nat.not_lt_zero _)⟩
  case round =>
    obtain ⟨i, rfl, hi, HB, HS, HN⟩ := hrel
    clear BA X
    have sB := HB.out.size
    have sX := HS.out.lt
    have hcase : i = 0 ∨ i = 1 ∨ i = 2 ∨ i = 3 ∨ i = 4 ∨ i = 5 := by omega
    rcases hcase with rfl | rfl | rfl | rfl | rfl | rfl
    · have hx := HX0.out wr
      have bA : Below wr.heap.size wr (wr.alloc (.cells #[.string ⟨#[99, 114, 101, 97, 116, 101]⟩, .int .i64 1, .bool false, .bool true, .bool false] 85)) := (Below.refl _ _).alloc (Nat.le_refl _) _
      have BX := hd9 (HB.out.trans (bA.mono HB.out.size))
      have SX := hd9 (HS.out.below bA)
      clear bA HX0 HX1 HX2 HX3 HX4
      by_cases q : (f.toList == [99, 114, 101, 97, 116, 101]) = true
      · have HF : Hid (formR f = some (1, false, true, false)) := by
          show _ = _
          unfold formR; rw [if_pos q]
        have q2 : ([99, 114, 101, 97, 116, 101] == f.toList) = true := beq_sym9 q
        clear HN q
        have x0 := HS.out.fz
        have y0 := HS.out.cl 0 _ rfl
        have y1 := HS.out.cl 1 _ rfl
        have y2 := HS.out.cl 2 _ rfl
        have y3 := HS.out.cl 3 _ rfl
        have y4 := HS.out.cl 4 _ rfl
        go_wp2_with fail
        obtain ⟨b9, x9⟩ := fm_box HB.out HS.out ⟨#[99, 114, 101, 97, 116, 101]⟩ 1 false true false
        have s9 := b9.size
        replace x9 := x9.below ((Below.refl _ _).alloc (Nat.le_refl _) (.cells #[.string ⟨#[99, 114, 101, 97, 116, 101]⟩, .int .i64 1, .bool false, .bool true, .bool false] 85))
        replace b9 := b9.alloc s9 (.cells #[.string ⟨#[99, 114, 101, 97, 116, 101]⟩, .int .i64 1, .bool false, .bool true, .bool false] 85)
        have d0 := x9.cl 0 _ rfl
        have d1 := x9.cl 1 _ rfl
        have d2 := x9.cl 2 _ rfl
        have d3 := x9.cl 3 _ rfl
        have d4 := x9.cl 4 _ rfl
        exact bodyPost_ret (v := .tuple #[.agg #[.string ⟨#[99, 114, 101, 97, 116, 101]⟩, .int .i64 1, .bool false, .bool true, .bool false], .bool true]) (by simp [results, Tryz.results65, go_sem, d0, d1, d2, d3, d4]) rfl (FmP.yes HF.out b9)
      · have q1 : (f.toList == [99, 114, 101, 97, 116, 101]) = false := by simpa using q
        have q2 : ([99, 114, 101, 97, 116, 101] == f.toList) = false := beq_sym9 q1
        have HN2 : Hid (∀ (j : Nat) (l : List UInt8), j < 1 → wds[j]? = some l → (f.toList == l) = false) := fun j l hj hl => by
          by_cases e : j < 0
          · exact HN.out j l e hl
          · obtain rfl : j = 0 := by omega
            injection hl with hl
            rw [← hl]; exact q1
        clear HN q q1
        go_wp2_with fail
        exact ⟨⟨1, by go_num, by omega, BX, SX, HN2⟩, by simp [intOf]⟩
    · have hx := HX1.out wr
      have n0 : (f.toList == [99, 114, 101, 97, 116, 101]) = false := HN.out 0 _ (by omega) rfl
      have bA : Below wr.heap.size wr (wr.alloc (.cells #[.string ⟨#[115, 101, 113]⟩, .int .i64 1, .bool true, .bool true, .bool false] 85)) := (Below.refl _ _).alloc (Nat.le_refl _) _
      have BX := hd9 (HB.out.trans (bA.mono HB.out.size))
      have SX := hd9 (HS.out.below bA)
      clear bA HX0 HX1 HX2 HX3 HX4
      by_cases q : (f.toList == [115, 101, 113]) = true
      · have HF : Hid (formR f = some (1, true, true, false)) := by
          show _ = _
          unfold formR; rw [if_neg (by rw [n0]; decide), if_pos q]
        have q2 : ([115, 101, 113] == f.toList) = true := beq_sym9 q
        clear HN q n0
        have x0 := HS.out.fz
        have y0 := HS.out.cl 0 _ rfl
        have y1 := HS.out.cl 1 _ rfl
        have y2 := HS.out.cl 2 _ rfl
        have y3 := HS.out.cl 3 _ rfl
        have y4 := HS.out.cl 4 _ rfl
        go_wp2_with fail
        obtain ⟨b9, x9⟩ := fm_box HB.out HS.out ⟨#[115, 101, 113]⟩ 1 true true false
        have s9 := b9.size
        replace x9 := x9.below ((Below.refl _ _).alloc (Nat.le_refl _) (.cells #[.string ⟨#[115, 101, 113]⟩, .int .i64 1, .bool true, .bool true, .bool false] 85))
        replace b9 := b9.alloc s9 (.cells #[.string ⟨#[115, 101, 113]⟩, .int .i64 1, .bool true, .bool true, .bool false] 85)
        have d0 := x9.cl 0 _ rfl
        have d1 := x9.cl 1 _ rfl
        have d2 := x9.cl 2 _ rfl
        have d3 := x9.cl 3 _ rfl
        have d4 := x9.cl 4 _ rfl
        exact bodyPost_ret (v := .tuple #[.agg #[.string ⟨#[115, 101, 113]⟩, .int .i64 1, .bool true, .bool true, .bool false], .bool true]) (by simp [results, Tryz.results65, go_sem, d0, d1, d2, d3, d4]) rfl (FmP.yes HF.out b9)
      · have q1 : (f.toList == [115, 101, 113]) = false := by simpa using q
        have q2 : ([115, 101, 113] == f.toList) = false := beq_sym9 q1
        have HN2 : Hid (∀ (j : Nat) (l : List UInt8), j < 2 → wds[j]? = some l → (f.toList == l) = false) := fun j l hj hl => by
          by_cases e : j < 1
          · exact HN.out j l e hl
          · obtain rfl : j = 1 := by omega
            injection hl with hl
            rw [← hl]; exact q1
        clear HN q q1 n0
        go_wp2_with fail
        exact ⟨⟨2, by go_num, by omega, BX, SX, HN2⟩, by simp [intOf]⟩
    · have hx := HX2.out wr
      have n0 : (f.toList == [99, 114, 101, 97, 116, 101]) = false := HN.out 0 _ (by omega) rfl
      have n1 : (f.toList == [115, 101, 113]) = false := HN.out 1 _ (by omega) rfl
      have bA : Below wr.heap.size wr (wr.alloc (.cells #[.string ⟨#[100, 101, 108, 101, 116, 101]⟩, .int .i64 2, .bool false, .bool false, .bool true] 85)) := (Below.refl _ _).alloc (Nat.le_refl _) _
      have BX := hd9 (HB.out.trans (bA.mono HB.out.size))
      have SX := hd9 (HS.out.below bA)
      clear bA HX0 HX1 HX2 HX3 HX4
      by_cases q : (f.toList == [100, 101, 108, 101, 116, 101]) = true
      · have HF : Hid (formR f = some (2, false, false, true)) := by
          show _ = _
          unfold formR; rw [if_neg (by rw [n0]; decide), if_neg (by rw [n1]; decide), if_pos q]
        have q2 : ([100, 101, 108, 101, 116, 101] == f.toList) = true := beq_sym9 q
        clear HN q n0 n1
        have x0 := HS.out.fz
        have y0 := HS.out.cl 0 _ rfl
        have y1 := HS.out.cl 1 _ rfl
        have y2 := HS.out.cl 2 _ rfl
        have y3 := HS.out.cl 3 _ rfl
        have y4 := HS.out.cl 4 _ rfl
        go_wp2_with fail
        obtain ⟨b9, x9⟩ := fm_box HB.out HS.out ⟨#[100, 101, 108, 101, 116, 101]⟩ 2 false false true
        have s9 := b9.size
        replace x9 := x9.below ((Below.refl _ _).alloc (Nat.le_refl _) (.cells #[.string ⟨#[100, 101, 108, 101, 116, 101]⟩, .int .i64 2, .bool false, .bool false, .bool true] 85))
        replace b9 := b9.alloc s9 (.cells #[.string ⟨#[100, 101, 108, 101, 116, 101]⟩, .int .i64 2, .bool false, .bool false, .bool true] 85)
        have d0 := x9.cl 0 _ rfl
        have d1 := x9.cl 1 _ rfl
        have d2 := x9.cl 2 _ rfl
        have d3 := x9.cl 3 _ rfl
        have d4 := x9.cl 4 _ rfl
        exact bodyPost_ret (v := .tuple #[.agg #[.string ⟨#[100, 101, 108, 101, 116, 101]⟩, .int .i64 2, .bool false, .bool false, .bool true], .bool true]) (by simp [results, Tryz.results65, go_sem, d0, d1, d2, d3, d4]) rfl (FmP.yes HF.out b9)
      · have q1 : (f.toList == [100, 101, 108, 101, 116, 101]) = false := by simpa using q
        have q2 : ([100, 101, 108, 101, 116, 101] == f.toList) = false := beq_sym9 q1
        have HN2 : Hid (∀ (j : Nat) (l : List UInt8), j < 3 → wds[j]? = some l → (f.toList == l) = false) := fun j l hj hl => by
          by_cases e : j < 2
          · exact HN.out j l e hl
          · obtain rfl : j = 2 := by omega
            injection hl with hl
            rw [← hl]; exact q1
        clear HN q q1 n0 n1
        go_wp2_with fail
        exact ⟨⟨3, by go_num, by omega, BX, SX, HN2⟩, by simp [intOf]⟩
    · have hx := HX3.out wr
      have n0 : (f.toList == [99, 114, 101, 97, 116, 101]) = false := HN.out 0 _ (by omega) rfl
      have n1 : (f.toList == [115, 101, 113]) = false := HN.out 1 _ (by omega) rfl
      have n2 : (f.toList == [100, 101, 108, 101, 116, 101]) = false := HN.out 2 _ (by omega) rfl
      have bA : Below wr.heap.size wr (wr.alloc (.cells #[.string ⟨#[115, 101, 116]⟩, .int .i64 3, .bool false, .bool true, .bool true] 85)) := (Below.refl _ _).alloc (Nat.le_refl _) _
      have BX := hd9 (HB.out.trans (bA.mono HB.out.size))
      have SX := hd9 (HS.out.below bA)
      clear bA HX0 HX1 HX2 HX3 HX4
      by_cases q : (f.toList == [115, 101, 116]) = true
      · have HF : Hid (formR f = some (3, false, true, true)) := by
          show _ = _
          unfold formR; rw [if_neg (by rw [n0]; decide), if_neg (by rw [n1]; decide), if_neg (by rw [n2]; decide), if_pos q]
        have q2 : ([115, 101, 116] == f.toList) = true := beq_sym9 q
        clear HN q n0 n1 n2
        have x0 := HS.out.fz
        have y0 := HS.out.cl 0 _ rfl
        have y1 := HS.out.cl 1 _ rfl
        have y2 := HS.out.cl 2 _ rfl
        have y3 := HS.out.cl 3 _ rfl
        have y4 := HS.out.cl 4 _ rfl
        go_wp2_with fail
        obtain ⟨b9, x9⟩ := fm_box HB.out HS.out ⟨#[115, 101, 116]⟩ 3 false true true
        have s9 := b9.size
        replace x9 := x9.below ((Below.refl _ _).alloc (Nat.le_refl _) (.cells #[.string ⟨#[115, 101, 116]⟩, .int .i64 3, .bool false, .bool true, .bool true] 85))
        replace b9 := b9.alloc s9 (.cells #[.string ⟨#[115, 101, 116]⟩, .int .i64 3, .bool false, .bool true, .bool true] 85)
        have d0 := x9.cl 0 _ rfl
        have d1 := x9.cl 1 _ rfl
        have d2 := x9.cl 2 _ rfl
        have d3 := x9.cl 3 _ rfl
        have d4 := x9.cl 4 _ rfl
        exact bodyPost_ret (v := .tuple #[.agg #[.string ⟨#[115, 101, 116]⟩, .int .i64 3, .bool false, .bool true, .bool true], .bool true]) (by simp [results, Tryz.results65, go_sem, d0, d1, d2, d3, d4]) rfl (FmP.yes HF.out b9)
      · have q1 : (f.toList == [115, 101, 116]) = false := by simpa using q
        have q2 : ([115, 101, 116] == f.toList) = false := beq_sym9 q1
        have HN2 : Hid (∀ (j : Nat) (l : List UInt8), j < 4 → wds[j]? = some l → (f.toList == l) = false) := fun j l hj hl => by
          by_cases e : j < 3
          · exact HN.out j l e hl
          · obtain rfl : j = 3 := by omega
            injection hl with hl
            rw [← hl]; exact q1
        clear HN q q1 n0 n1 n2
        go_wp2_with fail
        exact ⟨⟨4, by go_num, by omega, BX, SX, HN2⟩, by simp [intOf]⟩
    · have hx := HX4.out wr
      have n0 : (f.toList == [99, 114, 101, 97, 116, 101]) = false := HN.out 0 _ (by omega) rfl
      have n1 : (f.toList == [115, 101, 113]) = false := HN.out 1 _ (by omega) rfl
      have n2 : (f.toList == [100, 101, 108, 101, 116, 101]) = false := HN.out 2 _ (by omega) rfl
      have n3 : (f.toList == [115, 101, 116]) = false := HN.out 3 _ (by omega) rfl
      have bA : Below wr.heap.size wr (wr.alloc (.cells #[.string ⟨#[99, 104, 101, 99, 107]⟩, .int .i64 4, .bool false, .bool false, .bool true] 85)) := (Below.refl _ _).alloc (Nat.le_refl _) _
      have BX := hd9 (HB.out.trans (bA.mono HB.out.size))
      have SX := hd9 (HS.out.below bA)
      clear bA HX0 HX1 HX2 HX3 HX4
      by_cases q : (f.toList == [99, 104, 101, 99, 107]) = true
      · have HF : Hid (formR f = some (4, false, false, true)) := by
          show _ = _
          unfold formR; rw [if_neg (by rw [n0]; decide), if_neg (by rw [n1]; decide), if_neg (by rw [n2]; decide), if_neg (by rw [n3]; decide), if_pos q]
        have q2 : ([99, 104, 101, 99, 107] == f.toList) = true := beq_sym9 q
        clear HN q n0 n1 n2 n3
        have x0 := HS.out.fz
        have y0 := HS.out.cl 0 _ rfl
        have y1 := HS.out.cl 1 _ rfl
        have y2 := HS.out.cl 2 _ rfl
        have y3 := HS.out.cl 3 _ rfl
        have y4 := HS.out.cl 4 _ rfl
        go_wp2_with fail
        obtain ⟨b9, x9⟩ := fm_box HB.out HS.out ⟨#[99, 104, 101, 99, 107]⟩ 4 false false true
        have s9 := b9.size
        replace x9 := x9.below ((Below.refl _ _).alloc (Nat.le_refl _) (.cells #[.string ⟨#[99, 104, 101, 99, 107]⟩, .int .i64 4, .bool false, .bool false, .bool true] 85))
        replace b9 := b9.alloc s9 (.cells #[.string ⟨#[99, 104, 101, 99, 107]⟩, .int .i64 4, .bool false, .bool false, .bool true] 85)
        have d0 := x9.cl 0 _ rfl
        have d1 := x9.cl 1 _ rfl
        have d2 := x9.cl 2 _ rfl
        have d3 := x9.cl 3 _ rfl
        have d4 := x9.cl 4 _ rfl
        exact bodyPost_ret (v := .tuple #[.agg #[.string ⟨#[99, 104, 101, 99, 107]⟩, .int .i64 4, .bool false, .bool false, .bool true], .bool true]) (by simp [results, Tryz.results65, go_sem, d0, d1, d2, d3, d4]) rfl (FmP.yes HF.out b9)
      · have q1 : (f.toList == [99, 104, 101, 99, 107]) = false := by simpa using q
        have q2 : ([99, 104, 101, 99, 107] == f.toList) = false := beq_sym9 q1
        have HN2 : Hid (∀ (j : Nat) (l : List UInt8), j < 5 → wds[j]? = some l → (f.toList == l) = false) := fun j l hj hl => by
          by_cases e : j < 4
          · exact HN.out j l e hl
          · obtain rfl : j = 4 := by omega
            injection hl with hl
            rw [← hl]; exact q1
        clear HN q q1 n0 n1 n2 n3
        go_wp2_with fail
        exact ⟨⟨5, by go_num, by omega, BX, SX, HN2⟩, by simp [intOf]⟩
    · have BX := HB
      have SX := HS
      have n0 : (f.toList == [99, 114, 101, 97, 116, 101]) = false := HN.out 0 _ (by omega) rfl
      have n1 : (f.toList == [115, 101, 113]) = false := HN.out 1 _ (by omega) rfl
      have n2 : (f.toList == [100, 101, 108, 101, 116, 101]) = false := HN.out 2 _ (by omega) rfl
      have n3 : (f.toList == [115, 101, 116]) = false := HN.out 3 _ (by omega) rfl
      have n4 : (f.toList == [99, 104, 101, 99, 107]) = false := HN.out 4 _ (by omega) rfl
      have HF : Hid (formR f = none) := by
        show _ = _
        unfold formR; rw [if_neg (by rw [n0]; decide), if_neg (by rw [n1]; decide), if_neg (by rw [n2]; decide), if_neg (by rw [n3]; decide), if_neg (by rw [n4]; decide)]
      clear HN n0 n1 n2 n3 n4 HX0 HX1 HX2 HX3 HX4
      have x0 := SX.out.fz
      have y0 := SX.out.cl 0 _ rfl
      have y1 := SX.out.cl 1 _ rfl
      have y2 := SX.out.cl 2 _ rfl
      have y3 := SX.out.cl 3 _ rfl
      have y4 := SX.out.cl 4 _ rfl
      go_wp2_with fail
      obtain ⟨b9, x9⟩ := fm_box BX.out SX.out ⟨#[]⟩ 0 false false false
      have d0 := x9.cl 0 _ rfl
      have d1 := x9.cl 1 _ rfl
      have d2 := x9.cl 2 _ rfl
      have d3 := x9.cl 3 _ rfl
      have d4 := x9.cl 4 _ rfl
      exact bodyPost_ret (v := .tuple #[.agg #[.string ⟨#[]⟩, .int .i64 0, .bool false, .bool false, .bool false], .bool false]) (by simp [results, Tryz.results65, go_sem, d0, d1, d2, d3, d4]) rfl (FmP.no HF.out b9)


/-- A line. -/
structure Ln where
  kind : Int
  ops : List Op5
  multi : Bool
  path : ByteArray
  nums : List Int
def ln0 : Ln := ⟨0, [], false, ⟨#[]⟩, []⟩
def nA (ns : List Int) (i : Nat) : Int := ns.getD i 0
def btw (v lo hi : Int) : Bool := decide (lo ≤ v) && decide (v ≤ hi)
def plV (f0 : ByteArray) (ns : List Int) : Ln :=
  if (f0.toList == [115, 116, 101, 112]) = true then (if ns.length = 1 ∧ btw (nA ns 0) 1 1000 = true then ⟨7, [], false, ⟨#[]⟩, ns⟩ else ln0)
  else if (f0.toList == [97, 114, 109]) = true then (if 1 ≤ ns.length ∧ btw (nA ns 0) 1 10000 = true then ⟨8, [], false, ⟨#[]⟩, ns⟩ else ln0)
  else if (f0.toList == [99, 114, 97, 115, 104]) = true then ⟨9, [], false, ⟨#[]⟩, ns⟩
  else if (f0.toList == [114, 111, 116]) = true then (if ns.length = 3 ∧ btw (nA ns 0) 0 1 = true ∧ btw (nA ns 1) 0 4095 = true ∧ btw (nA ns 2) 1 255 = true then ⟨10, [], false, ⟨#[]⟩, ns⟩ else ln0)
  else ln0
def plN (L : List ByteArray) : Ln :=
  match numsO (L.drop 1) with
  | none => ln0
  | some ns => if (L.drop 1).length ≤ 2000 then plV (bAt L 0) ns else ln0
def pl2 (L : List ByteArray) : Ln :=
  if L.length = 2 ∧ ((bAt L 0).toList == [103, 101, 116]) = true then ⟨3, [], false, bAt L 1, []⟩
  else if L.length = 2 ∧ ((bAt L 0).toList == [108, 105, 115, 116]) = true then ⟨4, [], false, bAt L 1, []⟩
  else plN L
def pl1 (L : List ByteArray) : Ln :=
  if L.length = 1 ∧ ((bAt L 0).toList == [102, 108, 117, 115, 104]) = true then ⟨2, [], false, ⟨#[]⟩, []⟩
  else if L.length = 1 ∧ ((bAt L 0).toList == [100, 117, 109, 112]) = true then ⟨5, [], false, ⟨#[]⟩, []⟩
  else if L.length = 1 ∧ ((bAt L 0).toList == [115, 110, 97, 112]) = true then ⟨6, [], false, ⟨#[]⟩, []⟩
  else if L.length = 1 ∧ ((bAt L 0).toList == [114, 101, 99, 111, 118, 101, 114]) = true then ⟨11, [], false, ⟨#[]⟩, []⟩
  else if L.length = 1 ∧ ((bAt L 0).toList == [115, 116, 97, 116, 117, 115]) = true then ⟨12, [], false, ⟨#[]⟩, []⟩
  else pl2 L
def plO (L : List ByteArray) : Ln :=
  match opO L with
  | some o => ⟨1, [o], false, ⟨#[]⟩, []⟩
  | none => pl1 L
def plM (L : List ByteArray) : Ln :=
  match opsO L.length (L.drop 1) with
  | some os => ⟨1, os, true, ⟨#[]⟩, []⟩
  | none => ln0
/-- What fields say. -/
def plF (L : List ByteArray) : Ln :=
  if ((bAt L 0).toList == [109, 117, 108, 116, 105]) = true then plM L else plO L
/-- What a text says. -/
def lineOf (b : ByteArray) : Ln := if 60000 < b.size then ln0 else if (fldB b).all goodB = true then plF (fldB b) else ln0
def LnP (w : World) (l : Ln) (e : Ending) (w' : World) : Prop :=
  ∃ (vo vn : Value), e = .returned (.agg #[.int .i64 l.kind, vo, .bool l.multi, .string l.path, vn]) ∧ OwnO 41 w' w.heap.size vo l.ops ∧ Own .i64 2 w' w.heap.size vn l.nums ∧ Below w.heap.size w w'
theorem ownsRow_mono9 {w : World} {lo lo' k n : Nat} {e : TypeId} {v : Value} {us : List Value} (h : w.ownsRow lo e k v n us) (hl : lo' ≤ lo) : w.ownsRow lo' e k v n us :=
  ⟨h.1, h.2.imp id fun ⟨g, cap, cur, e1, e2, r⟩ => ⟨g, cap, cur, e1, Nat.le_trans hl e2, r⟩⟩
/-- A line written into its box. -/
theorem ln_box {w w1 : World} (hb : Below w.heap.size w w1) {a b c d e : Value} (X : St w1 w.heap.size [a, b, c, d, e]) (k : Int) (m : Bool) (p : ByteArray) {vo vn : Value} {os : List Op5} {ns : List Int} (ho : OwnO 41 w1 (w.heap.size + 1) vo os) (hn : Own .i64 2 w1 (w.heap.size + 1) vn ns) :
    Below w.heap.size w (((((w1.setCell ⟨w.heap.size, 0, none⟩ (.int .i64 k)).setCell ⟨w.heap.size, 1, none⟩ vo).setCell ⟨w.heap.size, 2, none⟩ (.bool m)).setCell ⟨w.heap.size, 3, none⟩ (.string p)).setCell ⟨w.heap.size, 4, none⟩ vn) ∧
    St (((((w1.setCell ⟨w.heap.size, 0, none⟩ (.int .i64 k)).setCell ⟨w.heap.size, 1, none⟩ vo).setCell ⟨w.heap.size, 2, none⟩ (.bool m)).setCell ⟨w.heap.size, 3, none⟩ (.string p)).setCell ⟨w.heap.size, 4, none⟩ vn) w.heap.size [.int .i64 k, vo, .bool m, .string p, vn] ∧
    OwnO 41 (((((w1.setCell ⟨w.heap.size, 0, none⟩ (.int .i64 k)).setCell ⟨w.heap.size, 1, none⟩ vo).setCell ⟨w.heap.size, 2, none⟩ (.bool m)).setCell ⟨w.heap.size, 3, none⟩ (.string p)).setCell ⟨w.heap.size, 4, none⟩ vn) w.heap.size vo os ∧
    Own .i64 2 (((((w1.setCell ⟨w.heap.size, 0, none⟩ (.int .i64 k)).setCell ⟨w.heap.size, 1, none⟩ vo).setCell ⟨w.heap.size, 2, none⟩ (.bool m)).setCell ⟨w.heap.size, 3, none⟩ (.string p)).setCell ⟨w.heap.size, 4, none⟩ vn) w.heap.size vn ns := by
  have hlt : w.heap.size < w.heap.size + 1 := Nat.lt_succ_self _
  refine ⟨((((hb.setCell (Nat.le_refl _) _).setCell (Nat.le_refl _) _).setCell (Nat.le_refl _) _).setCell (Nat.le_refl _) _).setCell (Nat.le_refl _) _, ((((X.set 0 _).set 1 _).set 2 _).set 3 _).set 4 _, ?_, ?_⟩
  · exact ownsRow_mono9 (ownsRow_setCell_below (ownsRow_setCell_below (ownsRow_setCell_below (ownsRow_setCell_below (ownsRow_setCell_below ho (a := ⟨w.heap.size, 0, none⟩) hlt _) (a := ⟨w.heap.size, 1, none⟩) hlt _) (a := ⟨w.heap.size, 2, none⟩) hlt _) (a := ⟨w.heap.size, 3, none⟩) hlt _) (a := ⟨w.heap.size, 4, none⟩) hlt _) (Nat.le_succ _)
  · exact ownsRow_mono9 (ownsRow_setCell_below (ownsRow_setCell_below (ownsRow_setCell_below (ownsRow_setCell_below (ownsRow_setCell_below hn (a := ⟨w.heap.size, 0, none⟩) hlt _) (a := ⟨w.heap.size, 1, none⟩) hlt _) (a := ⟨w.heap.size, 2, none⟩) hlt _) (a := ⟨w.heap.size, 3, none⟩) hlt _) (a := ⟨w.heap.size, 4, none⟩) hlt _) (Nat.le_succ _)
theorem l6Between_any (w : World) (v lo hi : Int) : Calls Tryz.prog 16 #[.int .i64 v, .int .i64 lo, .int .i64 hi] w fun e w' => e = .returned (.bool (btw v lo hi)) ∧ w' = w := by
  by_cases h1 : lo ≤ v
  · go_enter Tryz.func16, Tryz.ntmps16
    go_wp2
    go_ret
    refine ⟨?_, rfl⟩
    unfold btw
    rw [decide_eq_true h1]
    rfl
  · go_enter Tryz.func16, Tryz.ntmps16
    go_wp2
    go_ret
    refine ⟨?_, rfl⟩
    unfold btw
    rw [decide_eq_false (by omega)]
    rfl


set_option linter.unusedSimpArgs false in
set_option maxRecDepth 100000 in
theorem fieldCount_any (w : World) (wd : ByteArray) (k : Int) (s d v : Bool) : Calls Tryz.prog 66 #[.agg #[.string wd, .int .i64 k, .bool s, .bool d, .bool v]] w fun e w' => e = .returned (.int .i64 (2 + (if d = true then 1 else 0) + (if v = true then 1 else 0))) ∧ Below w.heap.size w w' := by
  cases d <;> cases v
  all_goals
    go_enter Tryz.func66, Tryz.ntmps66
    go_wp2_with fail
    go_ret
    exact ⟨rfl, (Below.refl _ _).alloc (Nat.le_refl _) _⟩
theorem isWithin_any (w : World) (v lo hi : Int) : Calls Tryz.prog 56 #[.int .i64 v, .int .i64 lo, .int .i64 hi] w fun e w' => e = .returned (.bool (btw v lo hi)) ∧ w' = w := by
  by_cases h1 : lo ≤ v
  · go_enter Tryz.func56, Tryz.ntmps56
    go_wp2
    go_ret
    refine ⟨?_, rfl⟩
    unfold btw
    rw [decide_eq_true h1]
    rfl
  · go_enter Tryz.func56, Tryz.ntmps56
    go_wp2
    go_ret
    refine ⟨?_, rfl⟩
    unfold btw
    rw [decide_eq_false (by omega)]
    rfl
theorem areOfCrash_any (w : World) (v : Value) : Calls Tryz.prog 41 #[v] w fun e w' => e = .returned (.bool true) ∧ w' = w := by
  go_enter Tryz.func41, Tryz.ntmps41
  go_wp2
  go_ret
  exact ⟨rfl, rfl⟩
theorem ownI_cells {w : World} {lo : Nat} {v : Value} {ns : List Int} (h : Own .i64 2 w lo v ns) : ∃ a c, v = .slice a ns.length c ∧ (0 < ns.length → ∃ g, a = some ⟨g, 0, none⟩ ∧ ∀ i, i < ns.length → w.cell? ⟨g, i, none⟩ = some (.int .i64 (nA ns i))) := by
  have h' := h
  rcases h.2 with ⟨rfl, h9⟩ | ⟨g, cap, cur, rfl, h1, h2, h3, h4, h5, h6⟩
  · exact ⟨none, 0, by rw [h9], fun h0 => by omega⟩
  · refine ⟨_, cap, rfl, fun _ => ⟨g, rfl, fun i hi => ?_⟩⟩
    rw [World.ownsRow.cellAt h' i (by omega), List.getElem?_map, List.getElem?_eq_getElem hi]
    unfold nA
    rw [List.getD, List.getElem?_eq_getElem hi]
    rfl
def stepOk (ns : List Int) : Bool := decide (ns.length = 1) && btw (nA ns 0) 1 1000
def armOk (ns : List Int) : Bool := decide (1 ≤ ns.length) && btw (nA ns 0) 1 10000
def rotOk (ns : List Int) : Bool := decide (ns.length = 3) && (btw (nA ns 0) 0 1 && (btw (nA ns 1) 0 4095 && btw (nA ns 2) 1 255))

set_option linter.unusedSimpArgs false in
set_option maxRecDepth 100000 in
theorem areOfStep_any (w : World) (lo : Nat) (v : Value) (ns : List Int) (h : Own .i64 2 w lo v ns) : Calls Tryz.prog 39 #[v] w fun e w' => e = .returned (.bool (stepOk ns)) ∧ w' = w := by
  obtain ⟨a, c, rfl, hc⟩ := ownI_cells h
  clear h
  by_cases l1 : ns.length = 1
  · obtain ⟨g, rfl, hcl⟩ := hc (by omega)
    have z0 := hcl 0 (by omega)
    have hl0 : (0 : Int) < ((ns.length : Nat) : Int) := by omega
    have hl1 : (((ns.length : Nat) : Int) == 1) = true := beq_iff_eq.2 (by omega)
    have HR : Hid (stepOk ns = btw (nA ns 0) 1 1000) := by show _ = _; unfold stepOk; rw [decide_eq_true l1, Bool.true_and]
    clear hc hcl l1
    go_enter Tryz.func39, Tryz.ntmps39
    go_wp2_with fail
    refine (isWithin_any _ _ _ _).mono ?_
    rintro e w9 ⟨rfl, hw9⟩
    subst hw9
    go_wp2_with fail
    go_ret
    exact ⟨by rw [HR.out]; rfl, rfl⟩
  · have hl1 : (((ns.length : Nat) : Int) == 1) = false := beq_false_of_ne (by omega)
    have HR : Hid (stepOk ns = false) := by show _ = _; unfold stepOk; rw [decide_eq_false l1]; rfl
    clear hc l1
    go_enter Tryz.func39, Tryz.ntmps39
    go_wp2_with fail
    go_ret
    exact ⟨by rw [HR.out]; rfl, rfl⟩

set_option linter.unusedSimpArgs false in
set_option maxRecDepth 100000 in
theorem areOfArm_any (w : World) (lo : Nat) (v : Value) (ns : List Int) (h : Own .i64 2 w lo v ns) : Calls Tryz.prog 40 #[v] w fun e w' => e = .returned (.bool (armOk ns)) ∧ w' = w := by
  obtain ⟨a, c, rfl, hc⟩ := ownI_cells h
  clear h
  by_cases l1 : 1 ≤ ns.length
  · obtain ⟨g, rfl, hcl⟩ := hc (by omega)
    have z0 := hcl 0 (by omega)
    have hl0 : (0 : Int) < ((ns.length : Nat) : Int) := by omega
    have hl1 : (1 : Int) ≤ ((ns.length : Nat) : Int) := by omega
    have HR : Hid (armOk ns = btw (nA ns 0) 1 10000) := by show _ = _; unfold armOk; rw [decide_eq_true l1, Bool.true_and]
    clear hc hcl l1
    go_enter Tryz.func40, Tryz.ntmps40
    go_wp2_with fail
    refine (isWithin_any _ _ _ _).mono ?_
    rintro e w9 ⟨rfl, hw9⟩
    subst hw9
    go_wp2_with fail
    go_ret
    exact ⟨by rw [HR.out]; rfl, rfl⟩
  · have hl1 : ¬ (1 : Int) ≤ ((ns.length : Nat) : Int) := by omega
    have HR : Hid (armOk ns = false) := by show _ = _; unfold armOk; rw [decide_eq_false l1]; rfl
    clear hc l1
    go_enter Tryz.func40, Tryz.ntmps40
    go_wp2_with fail
    go_ret
    exact ⟨by rw [HR.out]; rfl, rfl⟩

set_option linter.unusedSimpArgs false in
set_option maxRecDepth 100000 in
theorem areOfRot_any (w : World) (lo : Nat) (v : Value) (ns : List Int) (h : Own .i64 2 w lo v ns) : Calls Tryz.prog 42 #[v] w fun e w' => e = .returned (.bool (rotOk ns)) ∧ w' = w := by
  obtain ⟨a, c, rfl, hc⟩ := ownI_cells h
  clear h
  by_cases l1 : ns.length = 3
  · obtain ⟨g, rfl, hcl⟩ := hc (by omega)
    have z0 := hcl 0 (by omega)
    have z1 := hcl 1 (by omega)
    have z2 := hcl 2 (by omega)
    have hl0 : (0 : Int) < ((ns.length : Nat) : Int) := by omega
    have hl2 : (1 : Int) < ((ns.length : Nat) : Int) := by omega
    have hl3 : (2 : Int) < ((ns.length : Nat) : Int) := by omega
    have hl1 : (((ns.length : Nat) : Int) == 3) = true := beq_iff_eq.2 (by omega)
    have HR : Hid (rotOk ns = (btw (nA ns 0) 0 1 && (btw (nA ns 1) 0 4095 && btw (nA ns 2) 1 255))) := by show _ = _; unfold rotOk; rw [decide_eq_true l1, Bool.true_and]
    clear hc hcl l1
    cases hb0 : btw (nA ns 0) 0 1 with
    | false =>
      go_enter Tryz.func42, Tryz.ntmps42
      go_wp2_with fail
      refine (isWithin_any _ _ _ _).mono ?_
      rintro e w9 ⟨rfl, hw9⟩
      subst hw9
      go_wp2_with fail
      go_ret
      exact ⟨by rw [HR.out, hb0]; rfl, rfl⟩
    | true =>
      cases hb1 : btw (nA ns 1) 0 4095 with
      | false =>
        go_enter Tryz.func42, Tryz.ntmps42
        go_wp2_with fail
        refine (isWithin_any _ _ _ _).mono ?_
        rintro e w9 ⟨rfl, hw9⟩
        subst hw9
        go_wp2_with fail
        refine (isWithin_any _ _ _ _).mono ?_
        rintro e w9 ⟨rfl, hw9⟩
        subst hw9
        go_wp2_with fail
        go_ret
        exact ⟨by rw [HR.out, hb0, hb1]; rfl, rfl⟩
      | true =>
        go_enter Tryz.func42, Tryz.ntmps42
        go_wp2_with fail
        refine (isWithin_any _ _ _ _).mono ?_
        rintro e w9 ⟨rfl, hw9⟩
        subst hw9
        go_wp2_with fail
        refine (isWithin_any _ _ _ _).mono ?_
        rintro e w9 ⟨rfl, hw9⟩
        subst hw9
        go_wp2_with fail
        refine (isWithin_any _ _ _ _).mono ?_
        rintro e w9 ⟨rfl, hw9⟩
        subst hw9
        go_wp2_with fail
        go_ret
        exact ⟨by rw [HR.out, hb0, hb1]; rfl, rfl⟩
  · have hl1 : (((ns.length : Nat) : Int) == 3) = false := beq_false_of_ne (by omega)
    have HR : Hid (rotOk ns = false) := by show _ = _; unfold rotOk; rw [decide_eq_false l1]; rfl
    clear hc l1
    go_enter Tryz.func42, Tryz.ntmps42
    go_wp2_with fail
    go_ret
    exact ⟨by rw [HR.out]; rfl, rfl⟩

end Go.Proofs.YtmjliomhhgahkaaGreatDoor


