import Derived.Test.YtfmjalbiimhdhaaDoorDMath
namespace Go.Proofs.YtfmjalbiimhdhaaDoor
open Go.RowKit

theorem numB_mono (xs : List Int) (i : Nat) (h : i ≤ xs.length) : numB (xs.take i) ≤ numB xs := by
  have key : ∀ d i, i + d = xs.length → numB (xs.take i) ≤ numB xs := by
    intro d
    induction d with
    | zero => intro i hi; rw [List.take_of_length_le (by omega)]; exact Nat.le_refl _
    | succ d ih =>
      intro i hi
      have := ih (i + 1) (by omega)
      rw [take_succ_getD xs i (by omega), numB_snoc] at this
      omega
  exact key (xs.length - i) i (by omega)

set_option maxHeartbeats 400000 in
set_option maxRecDepth 100000 in
theorem specNum_any (w : World) (b o n c : Nat) (xs : List Int) (hx : xs.length = n) (hby : Byt xs) (hc : ∀ i, i < n → w.cell? ⟨b, o + i, none⟩ = some (.int .u8 (xs.getD i 0))) (hN : numB xs < 9223372036854775808) (hn : n ≤ 8) :
    Calls Tryd.prog 60 #[.slice (some ⟨b, o, none⟩) n c] w fun e w' => e = .returned (.int .i64 ((numB xs : Nat) : Int)) ∧ ∃ q, w' = w.drewN q := by
  have HC : Hid (∀ i, i < n → w.cell? ⟨b, o + i, none⟩ = some (.int .u8 (xs.getD i 0))) := hc
  have HBY : Hid (Byt xs) := hby
  have HX : Hid (xs.length = n) := hx
  have HN : Hid (numB xs < 9223372036854775808) := hN
  clear hc hby hx hN
  go_enter Tryd.func60, Tryd.ntmps60
  go_wp2
  go_loopw [3, 4] (fun vn vi wr => ∃ (i V : Nat), i ≤ n ∧ vi = .int .i64 i ∧ vn = .int .i64 V ∧ Hid (V = numB (xs.take i)) ∧ ∃ q, wr = w.drewN q) (fun _ i _ => n - (intOf i).toNat)
  case atStart => exact ⟨0, 0, Nat.zero_le _, rfl, rfl, (by show 0 = _; rw [List.take_zero, numB_nil]), 0, rfl⟩
  case round =>
    obtain ⟨i, V, hi, rfl, rfl, HV, q, rfl⟩ := hrel
    by_cases hlt : i < n
    · have hI : (i : Int) < (n : Int) := by omega
      obtain ⟨x, hx, hxe⟩ := byt_at HBY.out i
      have c1 : w.cell? ⟨b, o + i, none⟩ = some (.int .u8 (x : Int)) := by rw [HC.out i hlt, hxe]
      have HT : Hid (V * 256 + x = numB (xs.take (i + 1))) := by show _ = _; rw [take_succ_getD xs i (by rw [HX.out]; exact hlt), numB_snoc, hxe, HV.out, Int.toNat_natCast]
      have hle : V * 256 + x < 9223372036854775808 := by
        have h1 := numB_mono xs (i + 1) (by rw [HX.out]; omega)
        have h2 := HN.out
        rw [HT.out]; omega
      clear hxe
      go_wp2
      exact ⟨⟨i + 1, V * 256 + x, by omega, by go_num, by go_num, HT, q, rfl⟩, by simp [intOf]; omega⟩
    · have him : i = n := by omega
      subst him
      have HVE : Hid (((V : Nat) : Int) = ((numB xs : Nat) : Int)) := by show _ = _; rw [HV.out, List.take_of_length_le (by rw [HX.out]; exact Nat.le_refl _)]
      go_wp2
      go_ret
      exact ⟨ret_int HVE.out, _, rfl⟩

theorem num_small {xs : List Int} (h : Byt xs) (hl : xs.length ≤ 4) : numB xs < 9223372036854775808 := by
  have hb := (bigR_numB xs.length xs rfl h).2
  have h1 : 256 ^ xs.length ≤ 256 ^ 4 := Nat.pow_le_pow_right (by omega) hl
  have h2 : numB xs < 4294967296 := Nat.lt_of_lt_of_le hb h1
  omega

theorem sub_cells {w : World} {b o : Nat} {ys : List Int} {N : Nat} (hc : ∀ i, i < N → w.cell? ⟨b, o + i, none⟩ = some (.int .u8 (ys.getD i 0))) (p n : Nat) (h : p + n ≤ N) : ∀ i, i < n → w.cell? ⟨b, o + p + i, none⟩ = some (.int .u8 (((ys.drop p).take n).getD i 0)) := by
  intro i hi
  rw [Nat.add_assoc, hc (p + i) (by omega)]
  simp [List.getD, List.getElem?_take_of_lt hi]


/-- What spec.l4ReadText answers. -/
def RtPost (ys : List Int) (p : Nat) (e : Ending) : Prop :=
  (rdT (ys.drop p) = none ∧ e = .returned (.tuple #[.string ⟨#[]⟩, .int .i64 (-1)])) ∨ ∃ s q, rdT (ys.drop p) = some (s, ys.drop q) ∧ p < q ∧ q ≤ ys.length ∧ e = .returned (.tuple #[.string s, .int .i64 (q : Int)])

set_option maxHeartbeats 400000 in
set_option maxRecDepth 100000 in
theorem rT_neg (w : World) (v : Value) : Calls Tryd.prog 62 #[v, .int .i64 (-1)] w fun e w' => e = .returned (.tuple #[.string ⟨#[]⟩, .int .i64 (-1)]) ∧ w' = w := by
  go_enter Tryd.func62, Tryd.ntmps62
  go_wp2
  refine bodyPost_ret (v := .tuple #[.string ⟨#[]⟩, .int .i64 (-1)]) (by simp [results, Tryd.results62, go_sem]) rfl ⟨rfl, rfl⟩

set_option maxHeartbeats 400000 in
set_option maxRecDepth 100000 in
theorem rT_end (w : World) (ao : Option Addr) (N cap p : Nat) (h : N ≤ p) : Calls Tryd.prog 62 #[.slice ao N cap, .int .i64 p] w fun e w' => e = .returned (.tuple #[.string ⟨#[]⟩, .int .i64 (-1)]) ∧ w' = w := by
  have h1 : (N : Int) ≤ (p : Int) := by omega
  go_enter Tryd.func62, Tryd.ntmps62
  go_wp2
  refine bodyPost_ret (v := .tuple #[.string ⟨#[]⟩, .int .i64 (-1)]) (by simp [results, Tryd.results62, go_sem]) rfl ⟨rfl, rfl⟩

set_option maxHeartbeats 400000 in
set_option maxRecDepth 100000 in
theorem rT_short (w : World) (b o N cap p y : Nat) (hN : N ≤ 1048576) (h : p < N) (hy : y < 256) (hc : w.cell? ⟨b, o + p, none⟩ = some (.int .u8 (y : Int))) (h2 : N < p + 1 + y) : Calls Tryd.prog 62 #[.slice (some ⟨b, o, none⟩) N cap, .int .i64 p] w fun e w' => e = .returned (.tuple #[.string ⟨#[]⟩, .int .i64 (-1)]) ∧ w' = w := by
  have h1 : (p : Int) < (N : Int) := by omega
  have h3 : (N : Int) < (p : Int) + 1 + (y : Int) := by omega
  have hyI : (y : Int) < 256 := by omega
  go_enter Tryd.func62, Tryd.ntmps62
  go_wp2
  refine bodyPost_ret (v := .tuple #[.string ⟨#[]⟩, .int .i64 (-1)]) (by simp [results, Tryd.results62, go_sem]) rfl ⟨rfl, rfl⟩

set_option maxHeartbeats 400000 in
set_option maxRecDepth 100000 in
theorem rT_ok (w : World) (b o N cap p y : Nat) (ys : List Int) (hl : ys.length = N) (hN : N ≤ 1048576) (h : p < N) (hy : y < 256) (hcc : N ≤ cap) (hcm : cap ≤ maxLen) (hR : Rd .u8 w (.slice (some ⟨b, o, none⟩) N cap) ys) (hc : w.cell? ⟨b, o + p, none⟩ = some (.int .u8 (y : Int))) (h2 : p + 1 + y ≤ N) :
    Calls Tryd.prog 62 #[.slice (some ⟨b, o, none⟩) N cap, .int .i64 p] w fun e w' => e = .returned (.tuple #[.string (strOfNums ((ys.drop (p + 1)).take y)), .int .i64 ((p + 1 + y : Nat) : Int)]) ∧ w' = w := by
  have h1 : (p : Int) < (N : Int) := by omega
  have h3 : ¬ (N : Int) < (p : Int) + 1 + (y : Int) := by omega
  have hyI : (y : Int) < 256 := by omega
  have HR : Hid (Rd .u8 w (.slice (some ⟨b, o, none⟩) N cap) ys) := hR
  have HL : Hid (ys.length = N) := hl
  clear hR hl
  by_cases hcp : cap = p + 1
  · have hy0 : y = 0 := by omega
    subst hy0
    subst hcp
    have hcv : (convert 44 9 (.slice (some ⟨b, o, none⟩) 0 0)).run Tryd.prog w = .ok (.string (strOfNums [])) w := conv_any (xs := []) ⟨_, 0, rfl, Nat.zero_le _, Nat.zero_le _, .inl rfl⟩
    go_enter Tryd.func62, Tryd.ntmps62
    go_wp2
    refine bodyPost_ret (v := .tuple #[.string (strOfNums []), .int .i64 ((p : Int) + 1)]) (by simp [results, Tryd.results62, go_sem]) rfl ⟨rfl, rfl⟩
  · have hcp' : p + 1 < cap := by omega
    have hcv : (convert 44 9 (.slice (some ⟨b, o + (p + 1), none⟩) y (cap - (p + 1)))).run Tryd.prog w = .ok (.string (strOfNums ((ys.drop (p + 1)).take y))) w := by
      refine conv_any ?_
      have := (Rd.split HR.out (p + 1) (by omega) (by omega)).2 (o + (p + 1)) (.inl rfl)
      by_cases hy0 : y = 0
      · subst hy0
        exact ⟨some ⟨b, o + (p + 1), none⟩, cap - (p + 1), by simp, Nat.zero_le _, by omega, .inl (by simp)⟩
      · exact (Rd.split this y (by omega) (by omega)).1
    go_enter Tryd.func62, Tryd.ntmps62
    go_wp2
    refine bodyPost_ret (v := .tuple #[.string (strOfNums ((ys.drop (p + 1)).take y)), .int .i64 ((p : Int) + 1 + (y : Int))]) (by simp [results, Tryd.results62, go_sem]) rfl ⟨rfl, rfl⟩

theorem rT_any (w : World) (v : Value) (ys : List Int) (p : Nat) (h : Rd .u8 w v ys) (hby : Byt ys) (hl : ys.length ≤ 1048576) :
    Calls Tryd.prog 62 #[v, .int .i64 p] w fun e w' => RtPost ys p e ∧ w' = w := by
  have h' := h
  obtain ⟨ao, cap, rfl, h1, h2, h3⟩ := h
  by_cases hp : p < ys.length
  rotate_left
  · refine (rT_end w ao ys.length cap p (by omega)).mono ?_
    rintro e w' ⟨rfl, rfl⟩
    exact ⟨.inl ⟨by rw [List.drop_eq_nil_of_le (by omega)]; rfl, rfl⟩, rfl⟩
  rcases h3 with rfl | ⟨b, o, rfl, hb, hc⟩
  · simp at hp
  obtain ⟨y, hy, hye⟩ := byt_at hby p
  have hcp := hc p hp
  rw [hye] at hcp
  have hd : ys.drop p = (y : Int) :: ys.drop (p + 1) := by
    rw [List.drop_eq_getElem_cons hp]
    simp only [List.getD, List.getElem?_eq_getElem hp, Option.getD_some] at hye
    rw [hye]
  by_cases h2' : p + 1 + y ≤ ys.length
  · refine (rT_ok w b o ys.length cap p y ys rfl hl hp hy h1 h2 h' hcp h2').mono ?_
    rintro e w' ⟨rfl, rfl⟩
    refine ⟨.inr ⟨_, p + 1 + y, ?_, by omega, h2', rfl⟩, rfl⟩
    rw [hd]
    simp only [rdT, Int.toNat_natCast]
    rw [if_pos (by rw [List.length_drop]; omega), List.drop_drop]
  · refine (rT_short w b o ys.length cap p y hl hp hy hcp (by omega)).mono ?_
    rintro e w' ⟨rfl, rfl⟩
    refine ⟨.inl ⟨?_, rfl⟩, rfl⟩
    rw [hd]
    simp only [rdT, Int.toNat_natCast]
    rw [if_neg (by rw [List.length_drop]; omega)]

end Go.Proofs.YtfmjalbiimhdhaaDoor
