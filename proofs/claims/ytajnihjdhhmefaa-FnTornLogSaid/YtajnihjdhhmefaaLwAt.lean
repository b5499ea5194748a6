import Derived.Test.YtajnihjdhhmefaaBytes
namespace Go.Proofs.Ytajnihjdhhmefaa
open Go.RowKit

def lw (xs : List Int) (i n : Nat) : Nat := if n ≤ 1 then 0 else if xs.length = 0 then i * 7 % n else ((xs.getD (i % xs.length) 0).toNat + i / xs.length) % n
theorem lw_lt (xs : List Int) (i n : Nat) (h : 1 ≤ n) : lw xs i n < n := by
  unfold lw
  by_cases h1 : n ≤ 1
  · rw [if_pos h1]; omega
  · rw [if_neg h1]
    split
    · exact Nat.mod_lt _ (by omega)
    · exact Nat.mod_lt _ (by omega)

set_option maxHeartbeats 400000 in
set_option maxRecDepth 100000 in
theorem lwAt_row (w : World) (b o m cap : Nat) (i n x : Nat) (hm : 0 < m) (hm1 : m ≤ 1099511627776) (hx : x < 256) (hc : w.cell? ⟨b, o + i % m, none⟩ = some (.int .u8 (x : Int))) (hi : i ≤ 1099511627776) (hn : 1 < n) (hn1 : n ≤ 1099511627776) :
    Calls Try.prog 10 #[.slice (some ⟨b, o, none⟩) m cap, .int .i64 i, .int .i64 n] w fun e w' => e = .returned (.int .i64 (((x + i / m) % n : Nat) : Int)) ∧ ∃ q, w' = w.drewN q := by
  have h1 : ¬ (n : Int) ≤ 1 := by omega
  have h2 : ((m : Int) == 0) = false := beq_eq_false_iff_ne.2 (by omega)
  have h3 : i % m < m := Nat.mod_lt _ hm
  have h4 : (i : Int) % (m : Int) = ((i % m : Nat) : Int) := by omega
  have h5 : (i : Int) / (m : Int) = ((i / m : Nat) : Int) := by omega
  have h6 : i / m ≤ i := Nat.div_le_self _ _
  generalize i % m = a at *
  generalize i / m = d at *
  have h7 : ((m : Int) == 0) = false := h2
  have h8 : ((n : Int) == 0) = false := beq_eq_false_iff_ne.2 (by omega)
  go_enter Try.func10, Try.ntmps10
  go_wp2
  go_quiet (fail)
  go_wp2
  go_ret
  exact ⟨ret_int (by rw [Int.natCast_emod, Int.natCast_add]), _, rfl⟩

set_option maxHeartbeats 400000 in
theorem lwAt_one (w : World) (v : Value) (i n : Nat) (hn : n ≤ 1) :
    Calls Try.prog 10 #[v, .int .i64 i, .int .i64 n] w fun e w' => e = .returned (.int .i64 0) ∧ w' = w := by
  have h1 : (n : Int) ≤ 1 := by omega
  go_enter Try.func10, Try.ntmps10
  go_wp2
  go_ret
  exact ⟨rfl, rfl⟩

set_option maxHeartbeats 400000 in
theorem lwAt_nil (w : World) (ao : Option Addr) (cap i n : Nat) (hn : 1 < n) (hn1 : n ≤ 1099511627776) (hi : i ≤ 1099511627776) :
    Calls Try.prog 10 #[.slice ao 0 cap, .int .i64 i, .int .i64 n] w fun e w' => e = .returned (.int .i64 ((i * 7 % n : Nat) : Int)) ∧ w' = w := by
  have h1 : ¬ (n : Int) ≤ 1 := by omega
  have h8 : ((n : Int) == 0) = false := beq_eq_false_iff_ne.2 (by omega)
  go_enter Try.func10, Try.ntmps10
  go_wp2
  go_ret
  exact ⟨rfl, rfl⟩

theorem lwAt_any (w : World) (v : Value) (xs : List Int) (i n : Nat) (h : Rd .u8 w v xs) (hby : ∀ x ∈ xs, 0 ≤ x ∧ x < 256) (hl : xs.length ≤ 1099511627776) (hi : i ≤ 1099511627776) (hn1 : n ≤ 1099511627776) :
    Calls Try.prog 10 #[v, .int .i64 i, .int .i64 n] w fun e w' => e = .returned (.int .i64 ((lw xs i n : Nat) : Int)) ∧ ∃ q, w' = w.drewN q := by
  unfold lw
  by_cases h1 : n ≤ 1
  · rw [if_pos h1]
    refine (lwAt_one w v i n h1).mono ?_
    rintro e w' ⟨rfl, rfl⟩
    exact ⟨rfl, 0, rfl⟩
  · rw [if_neg h1]
    obtain ⟨ao, cap, rfl, k1, k2, k3⟩ := h
    rcases k3 with rfl | ⟨b, o, rfl, hb, hc⟩
    · rw [if_pos (show ([] : List Int).length = 0 from rfl)]
      refine (lwAt_nil w ao cap i n (by omega) hn1 hi).mono ?_
      rintro e w' ⟨rfl, rfl⟩
      exact ⟨rfl, 0, rfl⟩
    · by_cases h0 : xs.length = 0
      · rw [if_pos h0, h0]
        refine (lwAt_nil w _ cap i n (by omega) hn1 hi).mono ?_
        rintro e w' ⟨rfl, rfl⟩
        exact ⟨rfl, 0, rfl⟩
      · rw [if_neg h0]
        have hlt : i % xs.length < xs.length := Nat.mod_lt _ (by omega)
        have hx := hby _ (List.getElem_mem hlt)
        have e : xs.getD (i % xs.length) 0 = (((xs.getD (i % xs.length) 0).toNat : Nat) : Int) := by
          simp only [List.getD, List.getElem?_eq_getElem hlt, Option.getD_some]; omega
        have hc' := hc _ hlt
        rw [e] at hc'
        exact lwAt_row w b o xs.length cap i n _ (by omega) hl (by simp only [List.getD, List.getElem?_eq_getElem hlt, Option.getD_some]; omega) hc' hi (by omega) hn1

end Go.Proofs.Ytajnihjdhhmefaa
