import Derived.Test.YtgjenbgclpmjmaaSuperMath
import Derived.Test.YtgjenbgclpmjmaaZerosOwn
namespace Go.Proofs.Ytgjenbgclpmjmaa
open Go.RowKit

set_option maxHeartbeats 400000 in
theorem implStat_any (w : World) (s : Int) :
    Calls Try.prog 46 #[.int .i64 s] w fun e w' => e = .returned (.bool (decide (0 ≤ s ∧ s ≤ 2147483647))) ∧ w' = w := by
  by_cases h1 : 0 ≤ s
  · by_cases h2 : s ≤ 2147483647
    · go_enter Try.func46, Try.ntmps46
      go_wp2
      go_ret
      exact ⟨ret_bool (by simp; omega), rfl⟩
    · go_enter Try.func46, Try.ntmps46
      go_wp2
      go_ret
      exact ⟨ret_bool (by simp; omega), rfl⟩
  · go_enter Try.func46, Try.ntmps46
    go_wp2
    go_ret
    exact ⟨ret_bool (by simp; omega), rfl⟩

set_option maxHeartbeats 1000000 in
set_option maxRecDepth 100000 in
theorem implNumberS_any (w : World) (base : Nat) (v : Value) (xs : List Int) (N n : Nat) (h : Own .u8 5 w base v xs) (hb : base ≤ w.heap.size) (hl : xs.length ≤ 1048576) (hn : n ≤ 8) :
    Calls Try.prog 28 #[v, .int .i64 N, .int .i64 n] w fun e w' => ∃ v', e = .returned v' ∧ Own .u8 5 w' base v' (xs ++ bigR N n) ∧ Below base w w' := by
  obtain ⟨i0, hi, hz0, hz1, hz2⟩ := info_parts Try.infoB
  have HO : Hid (Own .u8 5 w base v xs) := h
  clear h
  go_enter Try.func28, Try.ntmps28
  go_wp2
  go_loopw [0, 7] (fun vi vl wr => ∃ (k : Nat) (z : Int), k ≤ n ∧ vl = .int .i64 z ∧ z + 1 + (k : Int) = (n : Int) ∧ Hid (Own .u8 5 wr base vi (xs ++ bigR (N / 2 ^ (8 * (n - k))) k)) ∧ Hid (Below base w wr)) (fun _ i _ => ((intOf i) + 1).toNat)
  case atStart => exact ⟨0, (n : Int) - 1, Nat.zero_le _, rfl, by omega, by show Own _ _ _ _ _ _; unfold bigR; rw [List.append_nil]; exact HO.out, Below.refl _ _⟩
  case round =>
    obtain ⟨k, z, hk, rfl, hz, HW, HB⟩ := hrel
    have sB := HB.out.size
    by_cases hz0' : 0 ≤ z
    · obtain ⟨l, rfl⟩ : ∃ l : Nat, z = (l : Int) := ⟨z.toNat, by omega⟩
      have hl8 : l ≤ 7 := by omega
      have HST : Hid (bigR (N / 2 ^ (8 * (n - k))) k ++ [((N / 2 ^ (8 * l) % 256 : Nat) : Int)] = bigR (N / 2 ^ (8 * (n - (k + 1)))) (k + 1)) := by
        show _ = _
        rw [show n - k = l + 1 by omega, show n - (k + 1) = l by omega]; exact bigR_step N l k
      obtain ⟨ys, hys⟩ : ∃ ys, ys = xs ++ bigR (N / 2 ^ (8 * (n - k))) k := ⟨_, rfl⟩
      have HYS : Hid (ys = xs ++ bigR (N / 2 ^ (8 * (n - k))) k) := hys
      have HW1 : Hid (wr.ownsRow base 5 1 u0 ys.length (ys.map (Value.int .u8))) := by rw [hys]; exact HW.out
      have hyl : ys.length ≤ 1048600 := by rw [hys, List.length_append, bigR_len]; omega
      clear hys HW
      have HV : Hid ((N : Int) / 2 ^ (8 * l) % 256 = ((N / 2 ^ (8 * l) % 256 : Nat) : Int)) := by show _ = _; rw [shr_cast]; rfl
      go_wp2_with (at_builtin; go_must (refine wpList_append_own _ rfl _ _ 22 rfl base 5 i0 (.int .u8 0) 1 1 Try.underlying22 hi hz0 hz1 hz2 rfl (by decide) _ _ _ rfl (World.ownsRow.alloc HW1.out _) ⟨wr.heap.size, 0, none⟩ 1 1 [.int .u8 ((N : Int) / 2 ^ (8 * l) % 256)] rfl rfl (cell_one_new _ _ _) (by intro u hu; simp at hu; subst hu; rfl) ?c3 ?c4 ?c5 ?_))
      case c3 => unfold maxLen; omega
      case c4 => omega
      case c5 => simp; omega
      intro v2 w2 ho2 hg2 _
      have HO2 : Hid (Own .u8 5 w2 base v2 (xs ++ bigR (N / 2 ^ (8 * (n - (k + 1)))) (k + 1))) := by
        rw [HV.out] at ho2
        refine own_of (q := ys.length + 1) (ys := ys ++ [((N / 2 ^ (8 * l) % 256 : Nat) : Int)]) (by simp) ?_ (by rw [List.map_append]; exact ho2)
        rw [← HST.out, ← List.append_assoc, ← HYS.out]
      have HB2 : Hid (Below base w w2) := (HB.out.alloc (by omega) _).grown hg2 (by simp; omega) (fun q hq => (World.ownsRow.lt HW1.out q hq).1)
      clear ho2 hg2 HW1 HB
      go_wp2
      exact ⟨⟨k + 1, (l : Int) - 1, by omega, by go_num, by omega, HO2, HB2⟩, by simp [intOf]⟩
    · have hkn : k = n := by omega
      subst hkn
      have hzI : ¬ (0 : Int) ≤ z := hz0'
      go_wp2
      go_ret
      refine ⟨_, rfl, ?_, HB.out⟩
      have := HW.out
      rw [Nat.sub_self, Nat.mul_zero, Nat.pow_zero, Nat.div_one] at this
      exact this

set_option maxHeartbeats 1000000 in
set_option maxRecDepth 100000 in
theorem implOk_any (w : World) (g b s l c : Int) :
    Calls Try.prog 27 #[.agg #[.int .i64 g, .int .i64 b, .int .i64 s, .int .i64 l, .int .i64 c]] w fun e w' => e = .returned (.bool (supOk g b s l c)) ∧ Below w.heap.size w w' := by
  go_enter Try.func27, Try.ntmps27
  go_wp2
  all_goals
    go_ret
    refine ⟨ret_bool ?_, (Below.refl _ _).alloc (Nat.le_refl _) _⟩
    unfold supOk
    rw [Bool.eq_iff_iff]
    simp only [Bool.and_eq_true, Bool.or_eq_true, decide_eq_true_eq, Bool.false_eq_true, false_iff]
    omega

theorem own_slice' {k : IntKind} {e : TypeId} {w : World} {lo : Nat} {v : Value} {xs : List Int} (h : Own k e w lo v xs) : ∃ a c, v = .slice a xs.length c := by
  obtain ⟨a, c, h0, _⟩ := h.rd.len
  exact ⟨a, c, h0⟩

theorem own_some {k : IntKind} {e : TypeId} {w : World} {lo : Nat} {v : Value} {xs : List Int} (h : Own k e w lo v xs) (h0 : 0 < xs.length) : ∃ g c, v = .slice (some ⟨g, 0, none⟩) xs.length c := by
  rcases h.2 with ⟨rfl, h1⟩ | ⟨g, cap, cur, rfl, -⟩
  · omega
  · exact ⟨g, cap, rfl⟩

/-- A local superblock: five cells. -/
def Bx5 (w : World) (k : Nat) (g b s l c : Int) : Prop :=
  k < w.heap.size ∧ w.cell? ⟨k, 0, none⟩ = some (.int .i64 g) ∧ w.cell? ⟨k, 1, none⟩ = some (.int .i64 b) ∧ w.cell? ⟨k, 2, none⟩ = some (.int .i64 s) ∧ w.cell? ⟨k, 3, none⟩ = some (.int .i64 l) ∧ w.cell? ⟨k, 4, none⟩ = some (.int .i64 c)
theorem Bx5.new (w : World) (g b s l c : Int) (t : TypeId) : Bx5 (w.alloc (.cells #[.int .i64 g, .int .i64 b, .int .i64 s, .int .i64 l, .int .i64 c] t)) w.heap.size g b s l c :=
  ⟨by simp, (by go_simp), (by go_simp), (by go_simp), (by go_simp), (by go_simp)⟩
theorem Bx5.below {w w' : World} {k B : Nat} {g b s l c : Int} (h : Bx5 w k g b s l c) (hb : Below B w w') (hk : k < B) : Bx5 w' k g b s l c := by
  obtain ⟨h0, h1, h2, h3, h4, h5⟩ := h
  exact ⟨Nat.lt_of_lt_of_le h0 hb.size, (hb.cell (p := ⟨k, 0, none⟩) hk).trans h1, (hb.cell (p := ⟨k, 1, none⟩) hk).trans h2, (hb.cell (p := ⟨k, 2, none⟩) hk).trans h3, (hb.cell (p := ⟨k, 3, none⟩) hk).trans h4, (hb.cell (p := ⟨k, 4, none⟩) hk).trans h5⟩

set_option maxHeartbeats 1000000 in
set_option maxRecDepth 100000 in
theorem implSuper_no (w : World) (g b s l c : Int) (h : supOk g b s l c = false) :
    Calls Try.prog 11 #[.agg #[.int .i64 g, .int .i64 b, .int .i64 s, .int .i64 l, .int .i64 c]] w fun e w' => ∃ v', e = .returned v' ∧ Own .u8 5 w' w.heap.size v' [] ∧ Below w.heap.size w w' := by
  have H : Hid (supOk g b s l c = false) := h
  clear h
  go_enter Try.func11, Try.ntmps11
  go_wp2_with fail
  refine (implOk_any _ g b s l c).mono ?_
  rintro e w1 ⟨rfl, b1⟩
  rw [H.out]
  have B1 : Hid (Below w.heap.size w w1) := ((Below.refl _ _).alloc (Nat.le_refl _) _).trans (b1.mono (by simp))
  clear b1
  go_wp2
  go_ret
  exact ⟨_, rfl, World.ownsRow_nil _ _ _ _, B1.out⟩

set_option maxHeartbeats 2000000 in
set_option maxRecDepth 100000 in
theorem implSuper_yes (w : World) (g b s l c : Nat) (h : supOk g b s l c = true) :
    Calls Try.prog 11 #[.agg #[.int .i64 g, .int .i64 b, .int .i64 s, .int .i64 l, .int .i64 c]] w fun e w' => ∃ v', e = .returned v' ∧ Own .u8 5 w' w.heap.size v' (supB g b s l c) ∧ Below w.heap.size w w' := by
  obtain ⟨i0, hi, hz0, hz1, hz2⟩ := info_parts Try.infoB
  have H : Hid (supOk g b s l c = true) := h
  clear h
  go_enter Try.func11, Try.ntmps11
  go_wp2_with fail
  refine (implOk_any _ g b s l c).mono ?_
  rintro e w1 ⟨rfl, b1⟩
  rw [H.out]
  have X1 : Hid (Bx5 w1 w.heap.size g b s l c) := (Bx5.new w g b s l c _).below b1 (by simp)
  have B1 : Hid (Below w.heap.size w w1) := ((Below.refl _ _).alloc (Nat.le_refl _) _).trans (b1.mono (by simp))
  have s1 : w.heap.size + 1 ≤ w1.heap.size := by have := b1.size; simpa using this
  clear b1
  have O1 : Hid (Own .u8 5 w1 (w.heap.size + 1) (.slice none 0 0) []) := World.ownsRow_nil _ _ _ _
  obtain ⟨-, x0, x1, x2, x3, x4⟩ := X1.out
  go_wp2_with fail
  refine (implNumberS_any _ (w.heap.size + 1) _ ([]) g 8 O1.out s1 (by simp) (by omega)).mono ?_
  rintro e w2 ⟨v2, rfl, o2, b2⟩
  have X2 : Hid (Bx5 w2 w.heap.size g b s l c) := X1.out.below b2 (by omega)
  have B2 : Hid (Below w.heap.size w w2) := B1.out.trans (b2.mono (by omega))
  have s2 : w.heap.size + 1 ≤ w2.heap.size := Nat.le_trans s1 b2.size
  have O2 : Hid (Own .u8 5 w2 (w.heap.size + 1) v2 ([] ++ bigR g 8)) := o2
  clear x0 x1 x2 x3 x4 o2 b2 X1 B1 O1
  obtain ⟨-, x0, x1, x2, x3, x4⟩ := X2.out
  go_wp2_with fail
  refine (implNumberS_any _ (w.heap.size + 1) _ ([] ++ bigR g 8) b 1 O2.out s2 (by simp [bigR_len]) (by omega)).mono ?_
  rintro e w3 ⟨v3, rfl, o3, b3⟩
  have X3 : Hid (Bx5 w3 w.heap.size g b s l c) := X2.out.below b3 (by omega)
  have B3 : Hid (Below w.heap.size w w3) := B2.out.trans (b3.mono (by omega))
  have s3 : w.heap.size + 1 ≤ w3.heap.size := Nat.le_trans s2 b3.size
  have O3 : Hid (Own .u8 5 w3 (w.heap.size + 1) v3 ([] ++ bigR g 8 ++ bigR b 1)) := o3
  clear x0 x1 x2 x3 x4 o3 b3 X2 B2 O2
  obtain ⟨-, x0, x1, x2, x3, x4⟩ := X3.out
  go_wp2_with fail
  refine (implNumberS_any _ (w.heap.size + 1) _ ([] ++ bigR g 8 ++ bigR b 1) s 4 O3.out s3 (by simp [bigR_len]) (by omega)).mono ?_
  rintro e w4 ⟨v4, rfl, o4, b4⟩
  have X4 : Hid (Bx5 w4 w.heap.size g b s l c) := X3.out.below b4 (by omega)
  have B4 : Hid (Below w.heap.size w w4) := B3.out.trans (b4.mono (by omega))
  have s4 : w.heap.size + 1 ≤ w4.heap.size := Nat.le_trans s3 b4.size
  have O4 : Hid (Own .u8 5 w4 (w.heap.size + 1) v4 ([] ++ bigR g 8 ++ bigR b 1 ++ bigR s 4)) := o4
  clear x0 x1 x2 x3 x4 o4 b4 X3 B3 O3
  obtain ⟨-, x0, x1, x2, x3, x4⟩ := X4.out
  go_wp2_with fail
  refine (implNumberS_any _ (w.heap.size + 1) _ ([] ++ bigR g 8 ++ bigR b 1 ++ bigR s 4) l 4 O4.out s4 (by simp [bigR_len]) (by omega)).mono ?_
  rintro e w5 ⟨v5, rfl, o5, b5⟩
  have X5 : Hid (Bx5 w5 w.heap.size g b s l c) := X4.out.below b5 (by omega)
  have B5 : Hid (Below w.heap.size w w5) := B4.out.trans (b5.mono (by omega))
  have s5 : w.heap.size + 1 ≤ w5.heap.size := Nat.le_trans s4 b5.size
  have O5 : Hid (Own .u8 5 w5 (w.heap.size + 1) v5 ([] ++ bigR g 8 ++ bigR b 1 ++ bigR s 4 ++ bigR l 4)) := o5
  clear x0 x1 x2 x3 x4 o5 b5 X4 B4 O4
  obtain ⟨-, x0, x1, x2, x3, x4⟩ := X5.out
  go_wp2_with fail
  refine (implNumberS_any _ (w.heap.size + 1) _ ([] ++ bigR g 8 ++ bigR b 1 ++ bigR s 4 ++ bigR l 4) c 4 O5.out s5 (by simp [bigR_len]) (by omega)).mono ?_
  rintro e w6 ⟨v6, rfl, o6, b6⟩
  have X6 : Hid (Bx5 w6 w.heap.size g b s l c) := X5.out.below b6 (by omega)
  have B6 : Hid (Below w.heap.size w w6) := B5.out.trans (b6.mono (by omega))
  have s6 : w.heap.size + 1 ≤ w6.heap.size := Nat.le_trans s5 b6.size
  have O6 : Hid (Own .u8 5 w6 (w.heap.size + 1) v6 ([] ++ bigR g 8 ++ bigR b 1 ++ bigR s 4 ++ bigR l 4 ++ bigR c 4)) := o6
  clear x0 x1 x2 x3 x4 o6 b6 X5 B5 O5
  have hlen6 : ([] ++ bigR g 8 ++ bigR b 1 ++ bigR s 4 ++ bigR l 4 ++ bigR c 4).length = 21 := by simp [bigR_len]
  obtain ⟨g6, c6, hv6⟩ := own_some O6.out (by rw [hlen6]; omega)
  rw [hlen6] at hv6
  subst hv6
  have O6' : Hid (w6.ownsRow (w.heap.size + 1) 5 1 (.slice (some ⟨g6, 0, none⟩) 21 c6) 21 (([] ++ bigR g 8 ++ bigR b 1 ++ bigR s 4 ++ bigR l 4 ++ bigR c 4).map (Value.int .u8))) := by have := O6.out; unfold Own at this; rw [hlen6] at this; exact this
  clear O6 hlen6
  generalize hLg : ([] ++ bigR g 8 ++ bigR b 1 ++ bigR s 4 ++ bigR l 4 ++ bigR c 4) = L6 at *
  have HLg : Hid (([] ++ bigR g 8 ++ bigR b 1 ++ bigR s 4 ++ bigR l 4 ++ bigR c 4) = L6) := hLg
  clear hLg
  obtain ⟨-, x0, x1, x2, x3, x4⟩ := X6.out
  go_wp2_with (at_builtin; go_must (refine wpList_append_zeros _ rfl _ _ 22 3 rfl (w.heap.size + 1) 5 i0 .i64 .i64 Try.underlying22 Try.underlying3 hi hz0 hz1 hz2 g6 21 c6 _ rfl O6'.out 35 rfl (by omega) (by omega) s6 ?_))
  intro v7 w7 ho7 hg7
  have b7 : Below (w.heap.size + 1) w6 w7 := (Below.refl _ _).grown hg7 s6 (fun q hq => by injection hq with hq; subst hq; exact (World.ownsRow.lt O6'.out _ rfl).1)
  have O7 : Hid (Own .u8 5 w7 (w.heap.size + 1) v7 (L6 ++ List.replicate 35 0)) := own_of (q := 21 + 35) (by rw [← HLg.out]; simp [bigR_len]) rfl (by rw [List.map_append, List.map_replicate]; exact ho7)
  have X7 : Hid (Bx5 w7 w.heap.size g b s l c) := X6.out.below b7 (by omega)
  have B7 : Hid (Below w.heap.size w w7) := B6.out.trans (b7.mono (by omega))
  have s7 : w.heap.size + 1 ≤ w7.heap.size := Nat.le_trans s6 b7.size
  clear x0 x1 x2 x3 x4 ho7 hg7 b7 X6 B6 O6'
  obtain ⟨-, x0, x1, x2, x3, x4⟩ := X7.out
  go_wp2_with fail
  refine (implNumberS_any _ (w.heap.size + 1) _ (L6 ++ List.replicate 35 0) g 8 O7.out s7 (by rw [← HLg.out]; simp [bigR_len]) (by omega)).mono ?_
  rintro e w8 ⟨v8, rfl, o8, b8⟩
  have B8 : Hid (Below w.heap.size w w8) := B7.out.trans (b8.mono (by omega))
  have O8 : Hid (Own .u8 5 w8 w.heap.size v8 (supB g b s l c)) := by
    have h8 := o8.mono (show w.heap.size ≤ w.heap.size + 1 by omega)
    rw [← HLg.out, List.nil_append] at h8
    exact h8
  clear o8 b8
  go_wp2
  go_ret
  exact ⟨_, rfl, O8.out, B8.out⟩

theorem supOk_nat {g b s l c : Int} (h : supOk g b s l c = true) : ∃ g' b' s' l' c' : Nat, g = g' ∧ b = b' ∧ s = s' ∧ l = l' ∧ c = c' := by
  unfold supOk at h
  simp only [Bool.and_eq_true, Bool.or_eq_true, decide_eq_true_eq] at h
  exact ⟨g.toNat, b.toNat, s.toNat, l.toNat, c.toNat, by omega, by omega, by omega, by omega, by omega⟩

theorem implSuper_any (w : World) (g b s l c : Int) :
    Calls Try.prog 11 #[.agg #[.int .i64 g, .int .i64 b, .int .i64 s, .int .i64 l, .int .i64 c]] w fun e w' => ∃ v', e = .returned v' ∧ Own .u8 5 w' w.heap.size v' (sup g b s l c) ∧ Below w.heap.size w w' := by
  unfold sup
  by_cases h : supOk g b s l c = true
  · rw [if_pos h]
    obtain ⟨g, b, s, l, c, rfl, rfl, rfl, rfl, rfl⟩ := supOk_nat h
    exact implSuper_yes w g b s l c h
  · rw [if_neg h]
    exact implSuper_no w g b s l c (by simpa using h)

end Go.Proofs.Ytgjenbgclpmjmaa
