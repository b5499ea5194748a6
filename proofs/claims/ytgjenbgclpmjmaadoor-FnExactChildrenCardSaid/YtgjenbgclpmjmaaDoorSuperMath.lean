import Derived.Test.YtgjenbgclpmjmaaDoorBytes
namespace Go.Proofs.YtgjenbgclpmjmaaDoor

/-- A number as n bytes, the highest first. -/
def bigR : Nat → Nat → List Int
  | _, 0 => []
  | N, n + 1 => bigR (N / 256) n ++ [((N % 256 : Nat) : Int)]

theorem bigR_len : ∀ (n N : Nat), (bigR N n).length = n
  | 0, _ => rfl
  | n + 1, N => by unfold bigR; rw [List.length_append, bigR_len n]; rfl

theorem bigR_byt : ∀ (n N : Nat), ∀ x ∈ bigR N n, 0 ≤ x ∧ x < 256
  | 0, _, x, h => by cases h
  | n + 1, N, x, h => by
    unfold bigR at h
    rcases List.mem_append.1 h with h | h
    · exact bigR_byt n _ x h
    · simp only [List.mem_cons, List.not_mem_nil, or_false] at h
      omega

theorem bigR_step (N m k : Nat) : bigR (N / 2 ^ (8 * (m + 1))) k ++ [((N / 2 ^ (8 * m) % 256 : Nat) : Int)] = bigR (N / 2 ^ (8 * m)) (k + 1) := by
  conv => rhs; unfold bigR
  rw [Nat.div_div_eq_div_mul, show 8 * (m + 1) = 8 * m + 8 by omega, Nat.pow_add]

/-- What bytes are as a number. -/
def numB (xs : List Int) : Nat := xs.foldl (fun a x => a * 256 + x.toNat) 0
theorem numB_snoc (xs : List Int) (x : Int) : numB (xs ++ [x]) = numB xs * 256 + x.toNat := by unfold numB; rw [List.foldl_append]; rfl
theorem numB_nil : numB [] = 0 := rfl
theorem numB_bigR : ∀ (n N : Nat), N < 256 ^ n → numB (bigR N n) = N
  | 0, N, h => by simp at h; subst h; rfl
  | n + 1, N, h => by
    unfold bigR
    rw [numB_snoc, numB_bigR n (N / 256) (by rw [Nat.pow_succ] at h; exact Nat.div_lt_of_lt_mul (by rw [Nat.mul_comm]; exact h)), Int.toNat_natCast]
    omega
theorem bigR_numB : ∀ (n : Nat) (xs : List Int), xs.length = n → (∀ x ∈ xs, 0 ≤ x ∧ x < 256) → bigR (numB xs) n = xs ∧ numB xs < 256 ^ n
  | 0, xs, hn, h => by
    have := List.eq_nil_of_length_eq_zero hn
    subst this
    exact ⟨rfl, by decide⟩
  | n + 1, xs, hn, h => by
    rcases List.eq_nil_or_concat xs with rfl | ⟨ys, y, hc⟩
    · simp at hn
    · rw [List.concat_eq_append] at hc; subst hc
      have hl : ys.length = n := by simpa using hn
      have hy := h y (by simp)
      obtain ⟨i1, i2⟩ := bigR_numB n ys hl (fun x hx => h x (List.mem_append_left _ hx))
      rw [numB_snoc]
      refine ⟨?_, by rw [Nat.pow_succ]; omega⟩
      unfold bigR
      have e1 : (numB ys * 256 + y.toNat) / 256 = numB ys := by omega
      have e2 : (numB ys * 256 + y.toNat) % 256 = y.toNat := by omega
      rw [e1, e2, i1, Int.toNat_of_nonneg hy.1]

/-- A superblock's image. -/
def supOk (g b s l c : Int) : Bool := decide (1 ≤ g) && (decide (b = 0) || decide (b = 1)) && decide (0 ≤ s ∧ s ≤ 2147483647) && decide (0 ≤ l ∧ l ≤ 4096) && decide (0 ≤ c ∧ c ≤ 4294967295)
def supB (g b s l c : Nat) : List Int := bigR g 8 ++ bigR b 1 ++ bigR s 4 ++ bigR l 4 ++ bigR c 4 ++ List.replicate 35 0 ++ bigR g 8
def sup (g b s l c : Int) : List Int := if supOk g b s l c then supB g.toNat b.toNat s.toNat l.toNat c.toNat else []

theorem supB_len (g b s l c : Nat) : (supB g b s l c).length = 64 := by unfold supB; simp [bigR_len]

end Go.Proofs.YtgjenbgclpmjmaaDoor
