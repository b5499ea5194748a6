import Derived.Test.YtgjenbgclpmjmaaDoorChecked
import Derived.Test.YtgjenbgclpmjmaaDoorBase
import Derived.Deep.QuietTactic
import Derived.BigQuiet
import Derived.Laws.BytesArg
namespace Go.Proofs.YtgjenbgclpmjmaaDoor
open Go.RowKit

theorem ret_b {a b : Bool} (h : a = b) : Ending.returned (.bool a) = .returned (.bool b) := by rw [h]

/-- A letter or a digit. -/
def okB (x : Nat) : Bool := (decide (97 ≤ x) && decide (x ≤ 122)) || (decide (48 ≤ x) && decide (x ≤ 57))
/-- A name. -/
def bN (s : ByteArray) (j : Nat) : Nat := (s.data.toList.getD j 0).toNat
def okN (s : ByteArray) : Bool := decide (1 ≤ s.size) && decide (s.size ≤ 16) && (List.range s.size).all (fun j => okB (bN s j))

theorem bN_get (s : ByteArray) (j : Nat) (h : j < s.size) : bN s j = s[j].toNat := by
  have h' : j < s.data.toList.length := h
  unfold bN
  simp only [List.getD, List.getElem?_eq_getElem h', Option.getD_some]
  rfl
theorem okN_no {s : ByteArray} {j : Nat} (h : j < s.size) (hb : okB (bN s j) = false) : okN s = false := by
  unfold okN
  have : (List.range s.size).all (fun j => okB (bN s j)) = false := by
    rw [List.all_eq_false]
    exact ⟨j, List.mem_range.2 h, by rw [hb]; simp⟩
  rw [this, Bool.and_false]
theorem okN_yes {s : ByteArray} (h1 : 1 ≤ s.size) (h2 : s.size ≤ 16) (h : ∀ j, j < s.size → okB (bN s j) = true) : okN s = true := by
  unfold okN
  rw [decide_eq_true h1, decide_eq_true h2]
  simp only [Bool.true_and, List.all_eq_true, List.mem_range]
  exact h

set_option maxHeartbeats 400000 in
set_option maxRecDepth 100000 in
theorem letter_any (w : World) (x : Nat) (hx : x < 256) :
    Calls Tryd.prog 53 #[.int .u8 (x : Int)] w fun e w' => e = .returned (.bool (okB x)) ∧ w' = w := by
  go_enter Tryd.func53, Tryd.ntmps53
  go_wp2
  all_goals
    go_ret
    refine ⟨ret_b ?_, rfl⟩
    unfold okB
    rw [Bool.eq_iff_iff]
    simp only [Bool.and_eq_true, Bool.or_eq_true, decide_eq_true_eq, Bool.false_eq_true, false_iff, true_iff]
    omega

set_option maxHeartbeats 400000 in
set_option maxRecDepth 100000 in
theorem name_any (w : World) (s : ByteArray) (hs : s.size ≤ 1048576) :
    Calls Tryd.prog 56 #[.string s] w fun e w' => e = .returned (.bool (okN s)) ∧ ∃ q, w' = w.drewN q := by
  by_cases h1 : s.size < 1
  · have hI : (s.size : Int) < 1 := by omega
    go_enter Tryd.func56, Tryd.ntmps56
    go_wp2
    go_ret
    exact ⟨ret_b (by unfold okN; rw [decide_eq_false (by omega)]; rfl), 0, rfl⟩
  · by_cases h2 : 16 < s.size
    · have hI : ¬ (s.size : Int) < 1 := by omega
      have hI2 : (16 : Int) < (s.size : Int) := by omega
      go_enter Tryd.func56, Tryd.ntmps56
      go_wp2
      go_ret
      exact ⟨ret_b (by unfold okN; rw [decide_eq_false (show ¬ s.size ≤ 16 by omega)]; simp), 0, rfl⟩
    · have hI : ¬ (s.size : Int) < 1 := by omega
      have hI2 : ¬ (16 : Int) < (s.size : Int) := by omega
      go_enter Tryd.func56, Tryd.ntmps56
      go_wp2
      go_loopw [16] (fun vi wr => ∃ k : Nat, k ≤ s.size ∧ vi = .int .i64 k ∧ Hid (∀ j, j < k → okB (bN s j) = true) ∧ ∃ q, wr = w.drewN q) (fun i _ => s.size - (intOf i).toNat)
      case atStart => exact ⟨0, Nat.zero_le _, rfl, (fun j hj => by omega), 0, rfl⟩
      case round =>
        obtain ⟨k, hk, rfl, HK, q, rfl⟩ := hrel
        by_cases hlt : k < s.size
        · have hltI : (k : Int) < (s.size : Int) := by omega
          have hbn := bN_get s k hlt
          have HBN : Hid (bN s k = s[k].toNat) := hbn
          clear hbn
          by_cases a1 : (97 : Int) ≤ (s[k].toNat : Int) <;> by_cases a2 : (s[k].toNat : Int) ≤ 122 <;> by_cases a3 : (48 : Int) ≤ (s[k].toNat : Int) <;> by_cases a4 : (s[k].toNat : Int) ≤ 57
          all_goals
            first
              | (exfalso; omega)
              | (have HO : Hid (okB (bN s k) = true) := by
                   show _ = _
                   rw [HBN.out]; unfold okB
                   simp only [Bool.or_eq_true, Bool.and_eq_true, decide_eq_true_eq]
                   omega
                 go_wp2
                 exact ⟨⟨k + 1, by omega, by go_num, (fun j hj => by by_cases e : j = k; (subst e; exact HO.out); exact HK.out j (by omega)), q, rfl⟩, by simp [intOf]; omega⟩)
              | (have HO : Hid (okB (bN s k) = false) := by
                   show _ = _
                   rw [HBN.out, ← Bool.not_eq_true]; unfold okB
                   simp only [Bool.or_eq_true, Bool.and_eq_true, decide_eq_true_eq]
                   omega
                 go_wp2
                 go_ret
                 exact ⟨ret_b (okN_no hlt HO.out).symm, q, rfl⟩)
        · have hks : k = s.size := by omega
          subst hks
          have HY : Hid (okN s = true) := okN_yes (by omega) (by omega) HK.out
          go_wp2
          go_ret
          exact ⟨ret_b HY.out.symm, q, rfl⟩

end Go.Proofs.YtgjenbgclpmjmaaDoor
