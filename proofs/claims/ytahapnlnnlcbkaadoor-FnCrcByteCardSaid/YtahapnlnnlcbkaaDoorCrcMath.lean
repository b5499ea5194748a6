namespace Go.Proofs.YtahapnlnnlcbkaaDoor

def cP : Nat := 2197175160
/-- One step of the register. -/
def cT (r : Nat) : Nat := (r / 2) ^^^ (if r % 2 = 1 then cP else 0)

theorem xor_div2 (a b : Nat) : (a ^^^ b) / 2 = a / 2 ^^^ b / 2 := by
  have := Nat.xor_div_two (a := a) (b := b)
  exact this

theorem xor_mod2 (a b : Nat) : (a ^^^ b) % 2 = (a + b) % 2 := by
  have := Nat.xor_mod_two_eq_one (a := a) (b := b)
  omega

theorem cT_lin (a b : Nat) : cT (a ^^^ b) = cT a ^^^ cT b := by
  unfold cT
  rw [xor_div2, xor_mod2]
  rcases Nat.mod_two_eq_zero_or_one a with ha | ha <;> rcases Nat.mod_two_eq_zero_or_one b with hb | hb
  · rw [if_neg (by omega), if_neg (by omega), if_neg (by omega)]; simp
  · rw [if_pos (by omega), if_neg (by omega), if_pos (by omega)]; simp [Nat.xor_assoc]
  · rw [if_pos (by omega), if_pos (by omega), if_neg (by omega), Nat.xor_zero, Nat.xor_assoc, Nat.xor_comm (b / 2), ← Nat.xor_assoc]
  · rw [if_neg (by omega), if_pos (by omega), if_pos (by omega)]
    rw [Nat.xor_zero, Nat.xor_comm (b / 2) cP, ← Nat.xor_assoc, Nat.xor_assoc (a / 2) cP cP, Nat.xor_self, Nat.xor_zero]

def cT4 (r : Nat) : Nat := cT (cT (cT (cT r)))
theorem cT4_lin (a b : Nat) : cT4 (a ^^^ b) = cT4 a ^^^ cT4 b := by unfold cT4; simp only [cT_lin]

theorem cT_even (q : Nat) : cT (2 * q) = q := by unfold cT; rw [if_neg (by omega)]; simp

theorem cT4_16 (q : Nat) : cT4 (16 * q) = q := by
  unfold cT4
  rw [show 16 * q = 2 * (2 * (2 * (2 * q))) by omega, cT_even, cT_even, cT_even, cT_even]

theorem split16 (r : Nat) : r = 16 * (r / 16) ^^^ r % 16 := by
  apply Nat.eq_of_testBit_eq
  intro k
  rw [Nat.testBit_xor, show 16 * (r / 16) = r / 2 ^ 4 * 2 ^ 4 by simp only [Nat.reducePow]; omega, Nat.testBit_mul_two_pow, show r % 16 = r % 2 ^ 4 by rfl, Nat.testBit_mod_two_pow]
  by_cases h : 4 ≤ k
  · have h2 : ¬ k < 4 := by omega
    simp only [h, h2, decide_true, decide_false, Bool.true_and, Bool.false_and, Bool.xor_false, Nat.testBit_div_two_pow]
    congr 1; omega
  · have h2 : k < 4 := by omega
    simp [h, h2]

def tabL : List Nat := [0, 274646895, 549293790, 820201905, 1098587580, 1361435347, 1640403810, 1905808397, 2197175160, 2460548119, 2722870694, 2987750089, 3280807620, 3553878443, 3811616794, 4084100981]

theorem tab_eq : ∀ i, i < 16 → tabL.getD i 0 = cT4 i := by decide +kernel

/-- A nibble by the table. -/
theorem nibble (r : Nat) : cT4 r = r / 16 ^^^ tabL.getD (r % 16) 0 := by
  rw [tab_eq _ (Nat.mod_lt _ (by omega))]
  conv => lhs; rw [split16 r]
  rw [cT4_lin, cT4_16]

/-- A byte. -/
def cB (r x : Nat) : Nat := cT4 (cT4 (r ^^^ x))

/-- The register behind j bits of a byte. -/
def cS (r x : Nat) : Nat → Nat
  | 0 => r
  | j + 1 => (cS r x j / 2) ^^^ (if (cS r x j + x / 2 ^ j) % 2 = 1 then cP else 0)

def cTn : Nat → Nat → Nat
  | 0, r => r
  | j + 1, r => cT (cTn j r)

theorem cS_T (r x j : Nat) : cTn j (r ^^^ x) = cS r x j ^^^ x / 2 ^ j := by
  induction j with
  | zero => simp [cTn, cS]
  | succ j ih =>
    rw [cTn, ih]
    unfold cT
    rw [xor_div2, xor_mod2, Nat.div_div_eq_div_mul, ← Nat.pow_succ, cS]
    rw [Nat.xor_assoc, Nat.xor_comm (x / 2 ^ (j + 1)), ← Nat.xor_assoc]

theorem cS_8 (r x : Nat) (hx : x < 256) : cS r x 8 = cB r x := by
  have h := cS_T r x 8
  rw [show x / 2 ^ 8 = 0 from Nat.div_eq_of_lt hx, Nat.xor_zero] at h
  rw [← h]; rfl

def crcL (r : Nat) (xs : List Int) : Nat := xs.foldl (fun a x => cB a x.toNat) r
theorem crcL_snoc (r : Nat) (xs : List Int) (x : Int) : crcL r (xs ++ [x]) = cB (crcL r xs) x.toNat := by simp [crcL, List.foldl_append]

theorem cT_lt (r : Nat) (h : r < 4294967296) : cT r < 4294967296 := by
  unfold cT
  have h1 : r / 2 < 2 ^ 32 := by simp only [Nat.reducePow]; omega
  have h2 : (if r % 2 = 1 then cP else 0) < 2 ^ 32 := by split <;> decide
  have := Nat.xor_lt_two_pow h1 h2
  simpa using this
theorem cT4_lt (r : Nat) (h : r < 4294967296) : cT4 r < 4294967296 := cT_lt _ (cT_lt _ (cT_lt _ (cT_lt _ h)))
theorem xor_lt32 {a b : Nat} (ha : a < 4294967296) (hb : b < 4294967296) : a ^^^ b < 4294967296 := by
  have := Nat.xor_lt_two_pow (n := 32) (by simpa using ha) (by simpa using hb)
  simpa using this
theorem cB_lt (r x : Nat) (h : r < 4294967296) (hx : x < 256) : cB r x < 4294967296 := cT4_lt _ (cT4_lt _ (xor_lt32 h (by omega)))
theorem cS_lt (r x : Nat) (h : r < 4294967296) : ∀ j, cS r x j < 4294967296 := by
  intro j
  induction j with
  | zero => exact h
  | succ j ih => exact xor_lt32 (by omega) (by split <;> decide)

/-- The step loses nothing. -/
theorem cT_inj {a b : Nat} (ha : a < 4294967296) (hb : b < 4294967296) (h : cT a = cT b) : a = b := by
  have top : ∀ r, r < 4294967296 → ((cT r).testBit 31 = decide (r % 2 = 1)) := by
    intro r hr
    unfold cT
    rw [Nat.testBit_xor]
    have h1 : (r / 2).testBit 31 = false := Nat.testBit_lt_two_pow (by simp only [Nat.reducePow]; omega)
    rw [h1, Bool.false_xor]
    by_cases e : r % 2 = 1
    · rw [if_pos e]; simp only [e, decide_true]; decide
    · rw [if_neg e]; simp [e]
  have ht := (top a ha).symm.trans ((congrArg (fun z => Nat.testBit z 31) h).trans (top b hb))
  have hm : a % 2 = b % 2 := by
    by_cases e : a % 2 = 1
    · simp only [e, decide_true] at ht
      have := of_decide_eq_true ht.symm
      omega
    · simp only [e, decide_false] at ht
      have := of_decide_eq_false ht.symm
      omega
  unfold cT at h
  rw [hm] at h
  have h2 := congrArg (fun z => z ^^^ (if b % 2 = 1 then cP else 0)) h
  simp only [Nat.xor_assoc, Nat.xor_self, Nat.xor_zero] at h2
  omega

theorem cT4_inj {a b : Nat} (ha : a < 4294967296) (hb : b < 4294967296) (h : cT4 a = cT4 b) : a = b :=
  cT_inj ha hb (cT_inj (cT_lt _ ha) (cT_lt _ hb) (cT_inj (cT_lt _ (cT_lt _ ha)) (cT_lt _ (cT_lt _ hb)) (cT_inj (cT_lt _ (cT_lt _ (cT_lt _ ha))) (cT_lt _ (cT_lt _ (cT_lt _ hb))) h)))

theorem xor_cancel {a b x : Nat} (h : a ^^^ x = b ^^^ x) : a = b := by
  have h2 := congrArg (fun z => z ^^^ x) h
  simpa only [Nat.xor_assoc, Nat.xor_self, Nat.xor_zero] using h2

theorem cB_inj_reg {a b x : Nat} (ha : a < 4294967296) (hb : b < 4294967296) (hx : x < 256) (h : cB a x = cB b x) : a = b := by
  have h1 := cT4_inj (cT4_lt _ (xor_lt32 ha (by omega))) (cT4_lt _ (xor_lt32 hb (by omega))) h
  exact xor_cancel (cT4_inj (xor_lt32 ha (by omega)) (xor_lt32 hb (by omega)) h1)

theorem cB_inj_byte {r x y : Nat} (hr : r < 4294967296) (hx : x < 256) (hy : y < 256) (h : cB r x = cB r y) : x = y := by
  have h1 := cT4_inj (cT4_lt _ (xor_lt32 hr (by omega))) (cT4_lt _ (xor_lt32 hr (by omega))) h
  have h2 := cT4_inj (xor_lt32 hr (by omega)) (xor_lt32 hr (by omega)) h1
  rw [Nat.xor_comm r x, Nat.xor_comm r y] at h2
  exact xor_cancel h2

theorem crcL_lt (r : Nat) (hr : r < 4294967296) (xs : List Int) (h : ∀ x ∈ xs, 0 ≤ x ∧ x < 256) : crcL r xs < 4294967296 := by
  induction xs generalizing r with
  | nil => exact hr
  | cons x xs ih =>
    have hx := h x (by simp)
    exact ih (cB r x.toNat) (cB_lt _ _ hr (by omega)) (fun y hy => h y (by simp [hy]))

theorem crcL_inj (xs : List Int) (h : ∀ x ∈ xs, 0 ≤ x ∧ x < 256) : ∀ a b, a < 4294967296 → b < 4294967296 → crcL a xs = crcL b xs → a = b := by
  induction xs with
  | nil => intro a b _ _ e; exact e
  | cons x xs ih =>
    intro a b ha hb e
    have hx := h x (by simp)
    have := ih (fun y hy => h y (by simp [hy])) (cB a x.toNat) (cB b x.toNat) (cB_lt _ _ ha (by omega)) (cB_lt _ _ hb (by omega)) e
    exact cB_inj_reg ha hb (by omega) this

/-- One byte changed: another sum. -/
theorem crcL_change (xs : List Int) (h : ∀ x ∈ xs, 0 ≤ x ∧ x < 256) (i : Nat) (hi : i < xs.length) (y : Int) (hy : 0 ≤ y ∧ y < 256) (hne : y ≠ xs[i]) (r : Nat) (hr : r < 4294967296) :
    crcL r (xs.set i y) ≠ crcL r xs := by
  intro e
  have hs : xs = xs.take i ++ xs[i] :: xs.drop (i + 1) := by rw [← List.drop_eq_getElem_cons hi, List.take_append_drop]
  have hs2 : xs.set i y = xs.take i ++ y :: xs.drop (i + 1) := List.set_eq_take_append_cons_drop .. |>.trans (by rw [if_pos hi])
  have key : ∀ (p : List Int) (z : Int) (q : List Int), crcL r (p ++ z :: q) = crcL (cB (crcL r p) z.toNat) q := by
    intro p z q; simp [crcL, List.foldl_append]
  rw [hs2, key] at e
  conv at e => rhs; rw [hs, key]
  have hp : crcL r (xs.take i) < 4294967296 := crcL_lt r hr _ (fun x hx => h x (List.mem_of_mem_take hx))
  have hxi := h xs[i] (List.getElem_mem hi)
  have e2 := crcL_inj _ (fun x hx => h x (List.mem_of_mem_drop hx)) _ _ (cB_lt _ _ hp (by omega)) (cB_lt _ _ hp (by omega)) e
  have e3 := cB_inj_byte hp (by omega) (by omega) e2
  omega

end Go.Proofs.YtahapnlnnlcbkaaDoor
