namespace Go.Proofs.Ytajnihjdhhmefaa

/-- The number whose digits, of w bits each, are the low bits of xs, the highest first. -/
def numW (w : Nat) (xs : List Int) : Nat := xs.foldl (fun a x => a * 2 ^ w + x.toNat % 2 ^ w) 0

theorem numW_nil (w : Nat) : numW w [] = 0 := rfl
theorem numW_snoc (w : Nat) (xs : List Int) (x : Int) : numW w (xs ++ [x]) = numW w xs * 2 ^ w + x.toNat % 2 ^ w := by
  simp [numW, List.foldl_append]

theorem pow_pos2 (k : Nat) : 0 < 2 ^ k := Nat.two_pow_pos k

theorem take_succ_getD (xs : List Int) (k : Nat) (h : k < xs.length) : xs.take (k + 1) = xs.take k ++ [xs.getD k 0] := by
  rw [List.take_succ_eq_append_getElem h]; simp [List.getD, h]

theorem numW_take_succ (w : Nat) (xs : List Int) (k : Nat) (h : k < xs.length) : numW w (xs.take (k + 1)) = numW w (xs.take k) * 2 ^ w + (xs.getD k 0).toNat % 2 ^ w := by
  rw [take_succ_getD xs k h, numW_snoc]

theorem numW_lt (w : Nat) (xs : List Int) : ∀ k, k ≤ xs.length → numW w (xs.take k) < 2 ^ (w * k) := by
  intro k
  induction k with
  | zero => intro _; simp [numW]
  | succ k ih =>
    intro h
    rw [numW_take_succ w xs k (by omega), Nat.mul_succ, Nat.pow_add]
    have h1 := ih (by omega)
    have h2 : (xs.getD k 0).toNat % 2 ^ w < 2 ^ w := Nat.mod_lt _ (pow_pos2 w)
    have h3 : (numW w (xs.take k) + 1) * 2 ^ w ≤ 2 ^ (w * k) * 2 ^ w := Nat.mul_le_mul_right _ h1
    rw [Nat.add_mul, Nat.one_mul] at h3
    omega

/-- The first k digits: what is left when the others are cut off. -/
theorem numW_cut (w : Nat) (xs : List Int) (k : Nat) : ∀ d, k + d ≤ xs.length → numW w (xs.take (k + d)) / 2 ^ (w * d) = numW w (xs.take k) := by
  intro d
  induction d with
  | zero => intro _; simp
  | succ d ih =>
    intro h
    rw [← Nat.add_assoc, numW_take_succ w xs (k + d) (by omega), Nat.mul_succ, Nat.add_comm (w * d) w, Nat.pow_add, ← Nat.div_div_eq_div_mul]
    have h2 : (xs.getD (k + d) 0).toNat % 2 ^ w < 2 ^ w := Nat.mod_lt _ (pow_pos2 w)
    rw [Nat.add_comm, Nat.add_mul_div_right _ _ (pow_pos2 w), Nat.div_eq_of_lt h2, Nat.zero_add]
    exact ih (by omega)

/-- Digit q, of v bits, of the bits of xs (w bits each). -/
def dig (w v : Nat) (xs : List Int) (q : Nat) : Nat := numW w xs / 2 ^ (w * xs.length - v * (q + 1)) % 2 ^ v

theorem dig_lt (w v : Nat) (xs : List Int) (q : Nat) : dig w v xs q < 2 ^ v := Nat.mod_lt _ (pow_pos2 v)

theorem dig_take (w v : Nat) (xs : List Int) (k q : Nat) (hk : k ≤ xs.length) (hq : v * (q + 1) ≤ w * k) :
    dig w v xs q = numW w (xs.take k) / 2 ^ (w * k - v * (q + 1)) % 2 ^ v := by
  unfold dig
  have e1 : w * xs.length - v * (q + 1) = w * (xs.length - k) + (w * k - v * (q + 1)) := by
    rw [Nat.mul_sub]
    have : w * k ≤ w * xs.length := Nat.mul_le_mul_left _ hk
    omega
  rw [e1, Nat.pow_add, ← Nat.div_div_eq_div_mul]
  have e2 := numW_cut w xs k (xs.length - k) (by omega)
  rw [show k + (xs.length - k) = xs.length by omega, List.take_length] at e2
  rw [e2]

/-- A register that holds the low bits gives the digit. -/
theorem reg_dig (r N a v : Nat) (h : r % 2 ^ (a + v) = N % 2 ^ (a + v)) : r / 2 ^ a % 2 ^ v = N / 2 ^ a % 2 ^ v := by
  have key : ∀ x, x / 2 ^ a % 2 ^ v = x % 2 ^ (a + v) / 2 ^ a := by
    intro x
    rw [Nat.pow_add, Nat.mod_mul_right_div_self]
  rw [key, key, h]

theorem mod_low {r N a b : Nat} (hab : a ≤ b) (h : r % 2 ^ b = N % 2 ^ b) : r % 2 ^ a = N % 2 ^ a := by
  have hd : 2 ^ a ∣ 2 ^ b := Nat.pow_dvd_pow 2 hab
  rw [← Nat.mod_mod_of_dvd r hd, h, Nat.mod_mod_of_dvd N hd]

/-- A register of K bits that takes in one digit more. -/
theorem reg_step (r N x a w K : Nat) (hK : a + w ≤ K) (h : r % 2 ^ a = N % 2 ^ a) :
    (r * 2 ^ w % 2 ^ K + x) % 2 ^ (a + w) = (N * 2 ^ w + x) % 2 ^ (a + w) := by
  have hd : 2 ^ (a + w) ∣ 2 ^ K := Nat.pow_dvd_pow 2 hK
  have e : r * 2 ^ w % 2 ^ (a + w) = N * 2 ^ w % 2 ^ (a + w) := by
    rw [Nat.pow_add, Nat.mul_mod_mul_right, Nat.mul_mod_mul_right, h]
  rw [Nat.add_mod, Nat.mod_mod_of_dvd _ hd, e, ← Nat.add_mod]

/-- Pack's answer. -/
def pk (xs : List Int) : List Int :=
  (List.range (8 * xs.length / 7)).map (fun q => ((128 + dig 8 7 xs q : Nat) : Int)) ++
    (if 8 * xs.length % 7 = 0 then [] else [((128 + numW 8 xs % 2 ^ (8 * xs.length % 7) * 2 ^ (7 - 8 * xs.length % 7) : Nat) : Int)])

theorem pk_length (xs : List Int) : (pk xs).length = (8 * xs.length + 6) / 7 := by
  unfold pk
  by_cases h : 8 * xs.length % 7 = 0
  · simp [h]; omega
  · simp [h]; omega

/-- joinGroups' answer. -/
def up (ps : List Int) : List Int := (List.range (7 * ps.length / 8)).map (fun q => ((dig 7 8 ps q : Nat) : Int))

theorem up_length (ps : List Int) : (up ps).length = 7 * ps.length / 8 := by simp [up]

theorem range_snoc (f : Nat → Int) (q : Nat) : (List.range (q + 1)).map f = (List.range q).map f ++ [f q] := by
  rw [List.range_succ, List.map_append]; rfl

theorem shift_lt {N a : Nat} (h : N < 2 ^ a) (v : Nat) (hav : a ≤ v) : N * 2 ^ (v - a) < 2 ^ v := by
  have : 2 ^ v = 2 ^ a * 2 ^ (v - a) := by rw [← Nat.pow_add]; congr 1; omega
  rw [this]
  exact (Nat.mul_lt_mul_right (pow_pos2 _)).2 h

theorem pk_range (xs : List Int) : ∀ x ∈ pk xs, 128 ≤ x ∧ x < 256 := by
  intro x hx
  unfold pk at hx
  rw [List.mem_append] at hx
  rcases hx with hx | hx
  · obtain ⟨q, _, rfl⟩ := List.mem_map.1 hx
    have := dig_lt 8 7 xs q
    simp only [Nat.reducePow] at this
    omega
  · by_cases h : 8 * xs.length % 7 = 0
    · simp [h] at hx
    · simp only [h, if_false, List.mem_singleton] at hx
      have h1 : numW 8 xs % 2 ^ (8 * xs.length % 7) < 2 ^ (8 * xs.length % 7) := Nat.mod_lt _ (pow_pos2 _)
      have h2 := shift_lt h1 7 (by omega)
      simp only [Nat.reducePow] at h2
      omega

theorem up_range (ps : List Int) : ∀ x ∈ up ps, 0 ≤ x ∧ x < 256 := by
  intro x hx
  unfold up at hx
  obtain ⟨q, _, rfl⟩ := List.mem_map.1 hx
  have := dig_lt 7 8 ps q
  simp only [Nat.reducePow] at this
  omega

end Go.Proofs.Ytajnihjdhhmefaa
