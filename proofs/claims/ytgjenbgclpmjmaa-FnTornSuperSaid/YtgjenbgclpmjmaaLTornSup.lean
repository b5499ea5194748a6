import Derived.Test.YtgjenbgclpmjmaaTornSup
import Derived.Test.YtgjenbgclpmjmaaDrawSrc
import Derived.Test.YtgjenbgclpmjmaaDrawSuper
import Derived.Test.YtgjenbgclpmjmaaSpecSuper
import Derived.Test.YtgjenbgclpmjmaaRows
namespace Go.Proofs.Ytgjenbgclpmjmaa
open Go.RowKit

set_option maxHeartbeats 400000 in
set_option maxRecDepth 100000 in
theorem drawEnc_any (w : World) (v : Value) (xs : List Int) (h : Rd .u8 w v xs) (hby : Byt xs) (hn : xs.length ≤ 1048576) :
    Calls Try.prog 10 #[v] w fun e w' => ∃ g b s l c : Int, e = .returned (.agg #[.int .i64 g, .int .i64 b, .int .i64 s, .int .i64 l, .int .i64 c]) ∧ g < 9223372036854775808 ∧ Below w.heap.size w w' := by
  have HR : Hid (Rd .u8 w v xs) := h
  have HBY : Hid (Byt xs) := hby
  clear h hby
  have B0 : Hid (Below w.heap.size w (w.alloc (.cells #[.int .i64 0, .int .i64 0, .int .i64 0, .int .i64 0, .int .i64 0] 35))) := (Below.refl _ _).alloc (Nat.le_refl _) _
  have Z0 : Hid (Bw5 (w.alloc (.cells #[.int .i64 0, .int .i64 0, .int .i64 0, .int .i64 0, .int .i64 0] 35)) w.heap.size 0 0 0 0 0) := ⟨Bx5.new w 0 0 0 0 0 _, fun j => (by go_simp)⟩
  go_enter Try.func10, Try.ntmps10
  go_wp2_with fail
  generalize w.alloc (.cells #[.int .i64 0, .int .i64 0, .int .i64 0, .int .i64 0, .int .i64 0] 35) = wa at *
  refine (source_any _ _ xs (HR.out.below B0.out) HBY.out hn).mono ?_
  rintro e w1 ⟨k, rfl, hk, hs, b1⟩
  have HS : Hid (SRC w1 k w1.heap.size) := hs
  have HB1 : Hid (Below wa.heap.size wa w1) := b1
  clear hs b1
  go_wp2_with fail
  refine (draw_any _ k HS.out).mono ?_
  rintro e w2 ⟨g, b, s, l, c, rfl, hg, ho⟩
  have HB2 : Hid (Below wa.heap.size wa w2) := HB1.out.trans (ho.below hk HB1.out.size)
  have HBW : Hid (Below w.heap.size w w2) := B0.out.trans (HB2.out.mono B0.out.size)
  have HG : Hid (g < 9223372036854775808) := hg
  obtain ⟨-, z1, z2, z3, z4, z5⟩ := Z0.out.1.below HB2.out Z0.out.1.1
  have zf : ∀ j, w2.frozen? ⟨w.heap.size, j, none⟩ = false := fun j => (HB2.out.frozen (p := ⟨w.heap.size, j, none⟩) Z0.out.1.1).trans (Z0.out.2 j)
  have zf0 := zf 0
  have zf1 := zf 1
  have zf2 := zf 2
  have zf3 := zf 3
  have zf4 := zf 4
  clear ho hg zf
  go_wp2
  refine bodyPost_ret (v := .agg #[.int .i64 g, .int .i64 b, .int .i64 s, .int .i64 l, .int .i64 c]) (by simp [results, Try.results10, go_sem, z1, z2, z3, z4, z5]) rfl ⟨g, b, s, l, c, rfl, HG.out, ?_⟩
  repeat (first | refine Below.setCell ?_ (by simp) _ | exact HBW.out)

/-- The two images and the two superblocks. -/
def TS (w W : World) (va vb : Value) (LA LB : List Int) (ko kn : Nat) (g b s l c g' b' s' l' c' : Int) : Prop := Rd .u8 W va LA ∧ Rd .u8 W vb LB ∧ Bx5 W ko g b s l c ∧ Bx5 W kn g' b' s' l' c' ∧ Below w.heap.size w W
theorem TS.keep {w W W' : World} {va vb : Value} {LA LB : List Int} {ko kn : Nat} {g b s l c g' b' s' l' c' : Int} (h : TS w W va vb LA LB ko kn g b s l c g' b' s' l' c') (hb : Below W.heap.size W W') : TS w W' va vb LA LB ko kn g b s l c g' b' s' l' c' :=
  ⟨h.1.below hb, h.2.1.below hb, h.2.2.1.below hb h.2.2.1.1, h.2.2.2.1.below hb h.2.2.2.1.1, h.2.2.2.2.trans (hb.mono h.2.2.2.2.size)⟩

theorem rd_some {W : World} {ao : Option Addr} {n c : Nat} {xs : List Int} (h : Rd .u8 W (.slice ao n c) xs) (hl : xs.length = n) (h0 : 0 < n) : ∃ g o, ao = some ⟨g, o, none⟩ ∧ n ≤ c ∧ c ≤ maxLen := by
  obtain ⟨ao', c', e, h1, h2, h3⟩ := h
  simp only [Value.slice.injEq] at e
  obtain ⟨rfl, -, rfl⟩ := e
  rcases h3 with rfl | ⟨b, o, rfl, -, -⟩
  · simp at hl; omega
  · exact ⟨b, o, rfl, by omega, h2⟩
theorem Rd.pre {W : World} {g o n c : Nat} {xs : List Int} (h : Rd .u8 W (.slice (some ⟨g, o, none⟩) n c) xs) (m : Nat) (hm : m ≤ n) : Rd .u8 W (.slice (some ⟨g, o, none⟩) m c) (xs.take m) := by
  by_cases h0 : 0 < m
  · exact (Rd.split h m hm h0).1
  · obtain rfl : m = 0 := by omega
    obtain ⟨ao', c', e, h1, h2, h3⟩ := h
    simp only [Value.slice.injEq] at e
    obtain ⟨rfl, -, rfl⟩ := e
    exact ⟨_, c, rfl, Nat.zero_le _, h2, .inl (List.take_zero)⟩
theorem Rd.post {W : World} {g o n c : Nat} {xs : List Int} (h : Rd .u8 W (.slice (some ⟨g, o, none⟩) n c) xs) (m : Nat) (hm : m ≤ n) (o' : Nat) (ho : o' = o + m ∨ n = m) : Rd .u8 W (.slice (some ⟨g, o', none⟩) (n - m) (c - m)) (xs.drop m) := by
  by_cases h0 : 0 < m
  · exact (Rd.split h m hm h0).2 o' ho
  · obtain rfl : m = 0 := by omega
    rw [List.drop_zero, Nat.sub_zero, Nat.sub_zero]
    rcases ho with rfl | hn
    · exact h
    · subst hn
      obtain ⟨ao', c', e, h1, h2, h3⟩ := h
      simp only [Value.slice.injEq] at e
      obtain ⟨rfl, hl, rfl⟩ := e
      have : xs = [] := List.eq_nil_of_length_eq_zero hl.symm
      subst this
      exact ⟨_, c, rfl, Nat.zero_le _, h2, .inl rfl⟩
theorem strOfNums_cat (xs ys : List Int) : strOfNums xs ++ strOfNums ys = strOfNums (xs ++ ys) := by
  apply ByteArray.ext
  rw [ByteArray.data_append]
  apply Array.ext'
  simp [strOfNums]
theorem sup_two (g b s l c : Int) : (supOk g b s l c = true ∧ (sup g b s l c).length = 64) ∨ (supOk g b s l c = false ∧ sup g b s l c = []) := by
  by_cases h : supOk g b s l c = true
  · exact .inl ⟨h, by unfold sup; rw [if_pos h, supB_len]⟩
  · exact .inr ⟨by simpa using h, by unfold sup; rw [if_neg h]⟩

set_option maxHeartbeats 1000000 in
set_option maxRecDepth 100000 in
theorem lawTS_core (w : World) (ca ma : Option Addr) (N cc m cm : Nat) (xs ms : List Int) (hc : Rd .u8 w (.slice ca N cc) xs) (hby : Byt xs) (hx : xs.length = N) (hN : N ≤ 1048576)
    (hm : Rd .u8 w (.slice ma m cm) ms) (hmy : Byt ms) (hml : ms.length = m) (hm1 : m ≤ 1048576) :
    Calls Try.prog 4 #[.slice ca N cc, .slice ma m cm] w fun e w' => e = .returned (.bool true) ∧ Below w.heap.size w w' := by
  have HR : Hid (Rd .u8 w (.slice ca N cc) xs) := hc
  have HM : Hid (Rd .u8 w (.slice ma m cm) ms) := hm
  have HX : Hid (xs.length = N) := hx
  have HML : Hid (ms.length = m) := hml
  have HBY : Hid (Byt xs) := hby
  have HMY : Hid (Byt ms) := hmy
  clear hc hm hx hml hby hmy
  have t1 : ¬ (1048576 : Int) < (N : Int) := by omega
  have t2 : ¬ (1048576 : Int) < (m : Int) := by omega
  go_enter Try.func4, Try.ntmps4
  go_wp2_with fail
  refine (drawEnc_any _ _ xs HR.out HBY.out (by rw [HX.out]; omega)).mono ?_
  rintro e w1 ⟨g, b, s, l, c, rfl, hg, b1⟩
  have HB1 : Hid (Below w.heap.size w w1) := b1
  clear b1
  go_wp2_with fail
  have b2 : Below w1.heap.size w1 (w1.alloc (.cells #[.int .i64 g, .int .i64 b, .int .i64 s, .int .i64 l, .int .i64 c] 35)) := (Below.refl _ _).alloc (Nat.le_refl _) _
  have X2 : Hid (Bx5 (w1.alloc (.cells #[.int .i64 g, .int .i64 b, .int .i64 s, .int .i64 l, .int .i64 c] 35)) w1.heap.size g b s l c) := Bx5.new w1 g b s l c _
  have HB2 : Hid (Below w.heap.size w (w1.alloc (.cells #[.int .i64 g, .int .i64 b, .int .i64 s, .int .i64 l, .int .i64 c] 35))) := HB1.out.trans (b2.mono HB1.out.size)
  have HG : Hid (g < 9223372036854775808) := hg
  have s1 := HB1.out.size
  clear b2 hg HB1
  generalize w1.alloc (.cells #[.int .i64 g, .int .i64 b, .int .i64 s, .int .i64 l, .int .i64 c] 35) = w2 at *
  generalize w1.heap.size = ko at *
  refine (drawEnc_any _ _ ms (HM.out.below HB2.out) HMY.out (by rw [HML.out]; omega)).mono ?_
  rintro e w3 ⟨g', b', s', l', c', rfl, hg', b3⟩
  have X3 : Hid (Bx5 w3 ko g b s l c) := X2.out.below b3 X2.out.1
  have HB3 : Hid (Below w.heap.size w w3) := HB2.out.trans (b3.mono HB2.out.size)
  have HG' : Hid (g' < 9223372036854775808) := hg'
  have hko3 := X3.out.1
  clear b3 hg' HB2 X2
  have b4 : Below w3.heap.size w3 (w3.alloc (.cells #[.int .i64 g', .int .i64 b', .int .i64 s', .int .i64 l', .int .i64 c'] 35)) := (Below.refl _ _).alloc (Nat.le_refl _) _
  have X4 : Hid (Bx5 (w3.alloc (.cells #[.int .i64 g', .int .i64 b', .int .i64 s', .int .i64 l', .int .i64 c'] 35)) ko g b s l c) := X3.out.below b4 X3.out.1
  have Y4 : Hid (Bx5 (w3.alloc (.cells #[.int .i64 g', .int .i64 b', .int .i64 s', .int .i64 l', .int .i64 c'] 35)) w3.heap.size g' b' s' l' c') := Bx5.new w3 g' b' s' l' c' _
  have HB4 : Hid (Below w.heap.size w (w3.alloc (.cells #[.int .i64 g', .int .i64 b', .int .i64 s', .int .i64 l', .int .i64 c'] 35))) := HB3.out.trans (b4.mono HB3.out.size)
  obtain ⟨sk, x0, x1, x2, x3, x4⟩ := X3.out
  go_wp2_with fail
  clear sk x0 x1 x2 x3 x4 b4 X3 HB3
  have hkn : ko < w3.heap.size := hko3
  clear hko3
  generalize w3.alloc (.cells #[.int .i64 g', .int .i64 b', .int .i64 s', .int .i64 l', .int .i64 c'] 35) = w4 at *
  generalize w3.heap.size = kn at *
  obtain ⟨LA, hLA⟩ : ∃ L, L = sup g b s l c := ⟨_, rfl⟩
  obtain ⟨LB, hLB⟩ : ∃ L, L = sup g' b' s' l' c' := ⟨_, rfl⟩
  have HLA : Hid (sup g b s l c = LA) := hLA.symm
  have HLB : Hid (sup g' b' s' l' c' = LB) := hLB.symm
  clear hLA hLB
  have hkn4 := Y4.out.1
  refine (implSuper_any _ g b s l c).mono ?_
  rw [HLA.out]
  rintro e w5 ⟨v5, rfl, o5, b5⟩
  obtain ⟨a5, c5, hv5⟩ := own_slice' o5
  subst hv5
  have OA5 : Hid (Own .u8 5 w5 w4.heap.size (.slice a5 LA.length c5) LA) := o5
  have X5 : Hid (Bx5 w5 ko g b s l c) := X4.out.below b5 (by omega)
  have Y5 : Hid (Bx5 w5 kn g' b' s' l' c') := Y4.out.below b5 hkn4
  have HB5 : Hid (Below w.heap.size w w5) := HB4.out.trans (b5.mono HB4.out.size)
  have s5 := b5.size
  clear o5 b5 X4 Y4 HB4
  obtain ⟨-, y0, y1, y2, y3, y4⟩ := Y5.out
  go_wp2_with fail
  refine (implSuper_any _ g' b' s' l' c').mono ?_
  rw [HLB.out]
  rintro e w6 ⟨v6, rfl, o6, b6⟩
  obtain ⟨a6, c6, hv6⟩ := own_slice' o6
  subst hv6
  have OB6 : Hid (Own .u8 5 w6 w5.heap.size (.slice a6 LB.length c6) LB) := o6
  have OA6 : Hid (Own .u8 5 w6 w4.heap.size (.slice a5 LA.length c5) LA) := OA5.out.below b6
  have X6 : Hid (Bx5 w6 ko g b s l c) := X5.out.below b6 (by omega)
  have Y6 : Hid (Bx5 w6 kn g' b' s' l' c') := Y5.out.below b6 (by omega)
  have HB6 : Hid (Below w.heap.size w w6) := HB5.out.trans (b6.mono HB5.out.size)
  have s6 := b6.size
  clear o6 b6 X5 Y5 HB5 OA5 y0 y1 y2 y3 y4
  have T6 : Hid (TS w w6 (.slice a5 LA.length c5) (.slice a6 LB.length c6) LA LB ko kn g b s l c g' b' s' l' c') := ⟨OA6.out.rd, OB6.out.rd, X6.out, Y6.out, HB6.out⟩
  clear OA6 OB6 X6 Y6 HB6
  obtain ⟨-, x0, x1, x2, x3, x4⟩ := T6.out.2.2.1
  go_wp2_with fail
  refine (specSuper_any _ g b s l c HG.out).mono ?_
  rw [HLA.out]
  rintro e w7 ⟨v7, rfl, o7, b7⟩
  obtain ⟨a7, c7, hv7⟩ := own_slice' o7
  subst hv7
  have T7 : Hid (TS w w7 (.slice a5 LA.length c5) (.slice a6 LB.length c6) LA LB ko kn g b s l c g' b' s' l' c') := T6.out.keep b7
  clear o7 b7 x0 x1 x2 x3 x4 T6
  rcases sup_two g b s l c with ⟨hA, hA64⟩ | ⟨hA, hA0⟩
  · rw [HLA.out] at hA64
    have HAok : Hid (supOk g b s l c = true) := hA
    clear hA
    have eA : ((LA.length : Int) == 0) = false := beq_eq_false_iff_ne.2 (by omega)
    obtain ⟨-, x0, x1, x2, x3, x4⟩ := T7.out.2.2.2.1
    go_wp2_with fail
    refine (specSuper_any _ g' b' s' l' c' HG'.out).mono ?_
    rw [HLB.out]
    rintro e w8 ⟨v8, rfl, o8, b8⟩
    obtain ⟨a8, c8, hv8⟩ := own_slice' o8
    subst hv8
    have T8 : Hid (TS w w8 (.slice a5 LA.length c5) (.slice a6 LB.length c6) LA LB ko kn g b s l c g' b' s' l' c') := T7.out.keep b8
    clear o8 b8 x0 x1 x2 x3 x4 T7
    rcases sup_two g' b' s' l' c' with ⟨hB, hB64⟩ | ⟨hB, hB0⟩
    · rw [HLB.out] at hB64
      have HBok : Hid (supOk g' b' s' l' c' = true) := hB
      clear hB
      have eB : ((LB.length : Int) == 0) = false := beq_eq_false_iff_ne.2 (by omega)
      have T8' := T8.out
      rw [hA64, hB64] at T8'
      obtain ⟨ga, oa, hgA, hcA1, hcA2⟩ := rd_some T8'.1 hA64 (by omega)
      obtain ⟨gb, ob, hgB, hcB1, hcB2⟩ := rd_some T8'.2.1 hB64 (by omega)
      subst hgA
      subst hgB
      have TL : Hid (TS w w8 (.slice (some ⟨ga, oa, none⟩) 64 c5) (.slice (some ⟨gb, ob, none⟩) 64 c6) LA LB ko kn g b s l c g' b' s' l' c') := T8'
      clear T8 T8'
      have HA64 : Hid (LA.length = 64) := hA64
      have HB64 : Hid (LB.length = 64) := hB64
      have HBA : Hid (Byt LA) := by rw [← HLA.out]; exact sup_byt _ _ _ _ _
      have HBB : Hid (Byt LB) := by rw [← HLB.out]; exact sup_byt _ _ _ _ _
      go_wp2
      clear eA eB hA64 hB64
      go_loopw [9] (fun vc wr => ∃ cut : Nat, cut ≤ 65 ∧ vc = .int .i64 cut ∧ Hid (TS w wr (.slice (some ⟨ga, oa, none⟩) 64 c5) (.slice (some ⟨gb, ob, none⟩) 64 c6) LA LB ko kn g b s l c g' b' s' l' c')) (fun i _ => 65 - (intOf i).toNat)
      case atStart => exact ⟨0, Nat.zero_le _, rfl, TL⟩
      case round =>
        clear TL
        obtain ⟨cut, hcut, rfl, TL⟩ := hrel
        by_cases hc64 : cut ≤ 64
        · have hcI : (cut : Int) ≤ 64 := by omega
          obtain ⟨o', ho', hoff⟩ : ∃ o', (o' = oa + cut ∨ 64 = cut) ∧ ((c5 = cut ∧ o' = oa) ∨ (¬ c5 = cut ∧ o' = oa + cut)) := by
            by_cases h : c5 = cut
            · exact ⟨oa, .inr (by omega), .inl ⟨h, rfl⟩⟩
            · exact ⟨oa + cut, .inl rfl, .inr ⟨h, rfl⟩⟩
          obtain ⟨ys, hys⟩ : ∃ ys, ys = LB.take cut ++ LA.drop cut := ⟨_, rfl⟩
          have HYS : Hid (ys = LB.take cut ++ LA.drop cut) := hys
          have hyl : ys.length = 64 := by rw [hys, List.length_append, List.length_take, List.length_drop, HA64.out, HB64.out]; omega
          have hyb : Byt ys := by
            intro y hy
            rw [hys] at hy
            rcases List.mem_append.1 hy with hy | hy
            · exact HBB.out y (List.mem_of_mem_take hy)
            · exact HBA.out y (List.mem_of_mem_drop hy)
          have HYB : Hid (Byt ys) := hyb
          have hcat : strOfNums (LB.take cut) ++ strOfNums (LA.drop cut) = strOfNums ys := by rw [hys]; exact strOfNums_cat _ _
          obtain ⟨cap1, W1, hr1, bW, zW, rW, -⟩ := conv_back wr.drew ys hyb (by omega)
          rw [hyl] at hr1 rW
          have HW1 : Hid (TS w W1 (.slice (some ⟨ga, oa, none⟩) 64 c5) (.slice (some ⟨gb, ob, none⟩) 64 c6) LA LB ko kn g b s l c g' b' s' l' c') := (TL.out.keep (below_drewN' wr 1)).keep bW
          have HRW : Hid (Rd .u8 W1 (.slice (some ⟨wr.heap.size, 0, none⟩) 64 cap1) ys) := rW
          have hk1 : ¬ (c6 : Int) < (cut : Int) := by omega
          have hk2 : (cut : Int) ≤ (c6 : Int) := by omega
          have hk3 : (cut : Int) ≤ 64 := by omega
          have hk4 : cut ≤ c6 := by omega
          clear hys hyl hyb bW zW rW
          go_wp2
          refine wp_region_held_drew (S := fun W => TS w W (.slice (some ⟨ga, oa, none⟩) 64 c5) (.slice (some ⟨gb, ob, none⟩) 64 c6) LA LB ko kn g b s l c g' b' s' l' c') (by kernel_rfl) (TL.out.keep (below_drewN' wr 1)) (fun hHeld => ?_)
          refine wpAnyH_take (i := 0) (oi := { dst := some 64, op := _, type := _, pos := _, after := _, guard := _ }) (v := (.slice (some ⟨gb, ob, none⟩) 64 c6)) rfl (by kernel_rfl) (by kernel_rfl) (by kernel_rfl) (fun _ _ _ h => h) (Or.inl ⟨by rfl, fun w' hSw => ?_⟩) (by assumption) ?_
          · clear hSw
            go_simp
          try simp only [Act.put, List.setIfInBounds_toArray, List.set_cons_zero, List.set_cons_succ]
          refine wpAnyH_take (i := 1) (oi := { dst := some 65, op := _, type := _, pos := _, after := _, guard := _ }) (v := (.int .i64 (cut : Int))) rfl (by kernel_rfl) (by kernel_rfl) (by kernel_rfl) (fun _ _ _ h => h) (Or.inl ⟨by rfl, fun w' hSw => ?_⟩) (by assumption) ?_
          · clear hSw
            go_simp
          try simp only [Act.put, List.setIfInBounds_toArray, List.set_cons_zero, List.set_cons_succ]
          refine wpAnyH_take (i := 2) (oi := { dst := some 66, op := _, type := _, pos := _, after := _, guard := _ }) (v := (.slice (some ⟨gb, ob, none⟩) cut c6)) rfl (by kernel_rfl) (by kernel_rfl) (by kernel_rfl) (fun _ _ _ h => h) (Or.inl ⟨by rfl, fun w' hSw => ?_⟩) (by assumption) ?_
          · clear hSw
            go_simp
          try simp only [Act.put, List.setIfInBounds_toArray, List.set_cons_zero, List.set_cons_succ]
          refine wpAnyH_take (i := 3) (oi := { dst := some 67, op := _, type := _, pos := _, after := _, guard := _ }) (v := (.string (strOfNums (LB.take cut)))) rfl (by kernel_rfl) (by kernel_rfl) (by kernel_rfl) (fun _ _ _ h => h) (Or.inl ⟨by rfl, fun w' hSw => ?_⟩) (by assumption) ?_
          · have r := conv_any (Rd.pre hSw.2.1 cut hc64)
            go_simp
          try simp only [Act.put, List.setIfInBounds_toArray, List.set_cons_zero, List.set_cons_succ]
          refine wpAnyH_take (i := 4) (oi := { dst := some 68, op := _, type := _, pos := _, after := _, guard := _ }) (v := (.slice (some ⟨ga, oa, none⟩) 64 c5)) rfl (by kernel_rfl) (by kernel_rfl) (by kernel_rfl) (fun _ _ _ h => h) (Or.inl ⟨by rfl, fun w' hSw => ?_⟩) (by assumption) ?_
          · clear hSw
            go_simp
          try simp only [Act.put, List.setIfInBounds_toArray, List.set_cons_zero, List.set_cons_succ]
          refine wpAnyH_take (i := 5) (oi := { dst := some 69, op := _, type := _, pos := _, after := _, guard := _ }) (v := (.int .i64 (cut : Int))) rfl (by kernel_rfl) (by kernel_rfl) (by kernel_rfl) (fun _ _ _ h => h) (Or.inl ⟨by rfl, fun w' hSw => ?_⟩) (by assumption) ?_
          · clear hSw
            go_simp
          try simp only [Act.put, List.setIfInBounds_toArray, List.set_cons_zero, List.set_cons_succ]
          refine wpAnyH_take (i := 6) (oi := { dst := some 70, op := _, type := _, pos := _, after := _, guard := _ }) (v := (.slice (some ⟨ga, o', none⟩) (64 - cut) (c5 - cut))) rfl (by kernel_rfl) (by kernel_rfl) (by kernel_rfl) (fun _ _ _ h => h) (Or.inl ⟨by rfl, fun w' hSw => ?_⟩) (by assumption) ?_
          · clear hSw
            go_simp
            rcases hoff with ⟨h1, rfl⟩ | ⟨h1, rfl⟩ <;> simp [h1]
          try simp only [Act.put, List.setIfInBounds_toArray, List.set_cons_zero, List.set_cons_succ]
          refine wpAnyH_take (i := 7) (oi := { dst := some 71, op := _, type := _, pos := _, after := _, guard := _ }) (v := (.string (strOfNums (LA.drop cut)))) rfl (by kernel_rfl) (by kernel_rfl) (by kernel_rfl) (fun _ _ _ h => h) (Or.inl ⟨by rfl, fun w' hSw => ?_⟩) (by assumption) ?_
          · have r := conv_any (Rd.post hSw.1 cut hc64 o' ho')
            go_simp
          try simp only [Act.put, List.setIfInBounds_toArray, List.set_cons_zero, List.set_cons_succ]
          refine wpAnyH_take (i := 8) (oi := { dst := some 72, op := _, type := _, pos := _, after := _, guard := _ }) (v := (.string (strOfNums ys))) rfl (by kernel_rfl) (by kernel_rfl) (by kernel_rfl) (fun _ _ _ h => h) (Or.inl ⟨by rfl, fun w' hSw => ?_⟩) (by assumption) ?_
          · clear hSw
            go_simp
            rw [strOfNums_size, strOfNums_size, List.length_take, List.length_drop, HA64.out, HB64.out]
            omega
          try simp only [Act.put, List.setIfInBounds_toArray, List.set_cons_zero, List.set_cons_succ]
          refine wpAnyH_ready (rs := [9]) (by kernel_rfl) (by simp) ?_
          refine AllReadyH.cons (o := { dst := some 73, op := _, type := _, pos := _, after := _, guard := _ }) rfl (fun K hK => ?_) AllReadyH.nil
          go_simp
          refine hK.out _ _ HW1.out (fun _ => ?_)
          clear hK K hHeld
          have hHeld := HW1.out
          try simp only [Act.put, List.setIfInBounds_toArray, List.set_cons_zero, List.set_cons_succ]
          refine wpAnyH_take (i := 10) (oi := { dst := some 10, op := _, type := _, pos := _, after := _, guard := _ }) (v := (.slice (some ⟨wr.heap.size, 0, none⟩) 64 cap1)) rfl (by kernel_rfl) (by kernel_rfl) (by kernel_rfl) (fun _ _ _ h => h) (Or.inl ⟨by rfl, fun w' hSw => ?_⟩) (by assumption) ?_
          · clear hSw
            go_simp
          try simp only [Act.put, List.setIfInBounds_toArray, List.set_cons_zero, List.set_cons_succ]
          refine wpAnyH_done (by kernel_rfl) ?_ _
          clear hHeld hr1 hk1 hk2 hk3 hk4 hcat hoff ho' TL
          go_wp2_with fail
          by_cases hc0 : cut = 0
          · have HDV : Hid (decV ys = .agg #[.bool true, .int .i64 g, .int .i64 b, .int .i64 s, .int .i64 l, .int .i64 c]) := by
              show _ = _
              rw [HYS.out, hc0, List.take_zero, List.drop_zero, List.nil_append, ← HLA.out]; exact dec_sup HAok.out HG.out
            have e0 : ((cut : Int) == 0) = true := by rw [hc0]; rfl
            have e64 : ((cut : Int) == 64) = false := by rw [hc0]; rfl
            clear hc0
            by_cases hgg : g = g'
            · have eg : (g != g') = false := by simpa using hgg
              clear hgg
              refine (implDec_any _ _ ys HRW.out HYB.out).mono ?_
              rw [HDV.out]
              rintro e W2 ⟨rfl, bW2⟩
              have T2 : Hid (TS w W2 (.slice (some ⟨ga, oa, none⟩) 64 c5) (.slice (some ⟨gb, ob, none⟩) 64 c6) LA LB ko kn g b s l c g' b' s' l' c') := HW1.out.keep bW2
              clear HW1 HRW bW2
              obtain ⟨sx, x0, x1, x2, x3, x4⟩ := T2.out.2.2.1
              obtain ⟨sy, y0, y1, y2, y3, y4⟩ := T2.out.2.2.2.1
              have T3 : Hid (TS w (W2.alloc (.cells #[.bool true, .int .i64 g, .int .i64 b, .int .i64 s, .int .i64 l, .int .i64 c] 39)) (.slice (some ⟨ga, oa, none⟩) 64 c5) (.slice (some ⟨gb, ob, none⟩) 64 c6) LA LB ko kn g b s l c g' b' s' l' c') := T2.out.keep ((Below.refl _ _).alloc (Nat.le_refl _) _)
              go_wp2
              exact ⟨⟨cut + 1, by omega, by go_num, T3⟩, by simp [intOf]; omega⟩
            · have eg : (g != g') = true := by simpa using hgg
              have eg2 : (g' == g) = false := beq_eq_false_iff_ne.2 (fun h => hgg h.symm)
              have eg3 : (g == g') = false := beq_eq_false_iff_ne.2 hgg
              have eg4 : ¬ g' = g := fun h => hgg h.symm
              refine (implDec_any _ _ ys HRW.out HYB.out).mono ?_
              rw [HDV.out]
              rintro e W2 ⟨rfl, bW2⟩
              have T2 : Hid (TS w W2 (.slice (some ⟨ga, oa, none⟩) 64 c5) (.slice (some ⟨gb, ob, none⟩) 64 c6) LA LB ko kn g b s l c g' b' s' l' c') := HW1.out.keep bW2
              clear HW1 HRW bW2
              obtain ⟨sx, x0, x1, x2, x3, x4⟩ := T2.out.2.2.1
              obtain ⟨sy, y0, y1, y2, y3, y4⟩ := T2.out.2.2.2.1
              have T3 : Hid (TS w (W2.alloc (.cells #[.bool true, .int .i64 g, .int .i64 b, .int .i64 s, .int .i64 l, .int .i64 c] 39)) (.slice (some ⟨ga, oa, none⟩) 64 c5) (.slice (some ⟨gb, ob, none⟩) 64 c6) LA LB ko kn g b s l c g' b' s' l' c') := T2.out.keep ((Below.refl _ _).alloc (Nat.le_refl _) _)
              go_wp2
              exact ⟨⟨cut + 1, by omega, by go_num, T3⟩, by simp [intOf]; omega⟩
          · by_cases hc6 : cut = 64
            · have HDV : Hid (decV ys = .agg #[.bool true, .int .i64 g', .int .i64 b', .int .i64 s', .int .i64 l', .int .i64 c']) := by
                show _ = _
                rw [HYS.out, hc6, List.take_of_length_le (by rw [HB64.out]; omega), List.drop_eq_nil_of_le (by rw [HA64.out]; omega), List.append_nil, ← HLB.out]; exact dec_sup HBok.out HG'.out
              have e0 : ((cut : Int) == 0) = false := beq_eq_false_iff_ne.2 (by omega)
              have e64 : ((cut : Int) == 64) = true := by rw [hc6]; rfl
              clear hc0 hc6
              by_cases hgg : g = g'
              · have eg : (g != g') = false := by simpa using hgg
                clear hgg
                refine (implDec_any _ _ ys HRW.out HYB.out).mono ?_
                rw [HDV.out]
                rintro e W2 ⟨rfl, bW2⟩
                have T2 : Hid (TS w W2 (.slice (some ⟨ga, oa, none⟩) 64 c5) (.slice (some ⟨gb, ob, none⟩) 64 c6) LA LB ko kn g b s l c g' b' s' l' c') := HW1.out.keep bW2
                clear HW1 HRW bW2
                obtain ⟨sx, x0, x1, x2, x3, x4⟩ := T2.out.2.2.1
                obtain ⟨sy, y0, y1, y2, y3, y4⟩ := T2.out.2.2.2.1
                have T3 : Hid (TS w (W2.alloc (.cells #[.bool true, .int .i64 g', .int .i64 b', .int .i64 s', .int .i64 l', .int .i64 c'] 39)) (.slice (some ⟨ga, oa, none⟩) 64 c5) (.slice (some ⟨gb, ob, none⟩) 64 c6) LA LB ko kn g b s l c g' b' s' l' c') := T2.out.keep ((Below.refl _ _).alloc (Nat.le_refl _) _)
                go_wp2
                exact ⟨⟨cut + 1, by omega, by go_num, T3⟩, by simp [intOf]; omega⟩
              · have eg : (g != g') = true := by simpa using hgg
                have eg2 : (g' == g) = false := beq_eq_false_iff_ne.2 (fun h => hgg h.symm)
                have eg3 : (g == g') = false := beq_eq_false_iff_ne.2 hgg
                have eg4 : ¬ g' = g := fun h => hgg h.symm
                refine (implDec_any _ _ ys HRW.out HYB.out).mono ?_
                rw [HDV.out]
                rintro e W2 ⟨rfl, bW2⟩
                have T2 : Hid (TS w W2 (.slice (some ⟨ga, oa, none⟩) 64 c5) (.slice (some ⟨gb, ob, none⟩) 64 c6) LA LB ko kn g b s l c g' b' s' l' c') := HW1.out.keep bW2
                clear HW1 HRW bW2
                obtain ⟨sx, x0, x1, x2, x3, x4⟩ := T2.out.2.2.1
                obtain ⟨sy, y0, y1, y2, y3, y4⟩ := T2.out.2.2.2.1
                have T3 : Hid (TS w (W2.alloc (.cells #[.bool true, .int .i64 g', .int .i64 b', .int .i64 s', .int .i64 l', .int .i64 c'] 39)) (.slice (some ⟨ga, oa, none⟩) 64 c5) (.slice (some ⟨gb, ob, none⟩) 64 c6) LA LB ko kn g b s l c g' b' s' l' c') := T2.out.keep ((Below.refl _ _).alloc (Nat.le_refl _) _)
                go_wp2
                exact ⟨⟨cut + 1, by omega, by go_num, T3⟩, by simp [intOf]; omega⟩
            · have e0 : ((cut : Int) == 0) = false := beq_eq_false_iff_ne.2 (by omega)
              have e64 : ((cut : Int) == 64) = false := beq_eq_false_iff_ne.2 (by omega)
              by_cases hgg : g = g'
              · have eg : (g != g') = false := by simpa using hgg
                clear hgg
                obtain ⟨r, p0, p1, p2, p3, p4, hdv⟩ := decV_agg ys
                have HDV : Hid (decV ys = .agg #[.bool r, .int .i64 p0, .int .i64 p1, .int .i64 p2, .int .i64 p3, .int .i64 p4]) := hdv
                clear hdv
                refine (implDec_any _ _ ys HRW.out HYB.out).mono ?_
                rw [HDV.out]
                rintro e W2 ⟨rfl, bW2⟩
                have T2 : Hid (TS w W2 (.slice (some ⟨ga, oa, none⟩) 64 c5) (.slice (some ⟨gb, ob, none⟩) 64 c6) LA LB ko kn g b s l c g' b' s' l' c') := HW1.out.keep bW2
                clear HW1 HRW bW2
                obtain ⟨sx, x0, x1, x2, x3, x4⟩ := T2.out.2.2.1
                obtain ⟨sy, y0, y1, y2, y3, y4⟩ := T2.out.2.2.2.1
                have T3 : Hid (TS w (W2.alloc (.cells #[.bool r, .int .i64 p0, .int .i64 p1, .int .i64 p2, .int .i64 p3, .int .i64 p4] 39)) (.slice (some ⟨ga, oa, none⟩) 64 c5) (.slice (some ⟨gb, ob, none⟩) 64 c6) LA LB ko kn g b s l c g' b' s' l' c') := T2.out.keep ((Below.refl _ _).alloc (Nat.le_refl _) _)
                go_wp2
                exact ⟨⟨cut + 1, by omega, by go_num, T3⟩, by simp [intOf]; omega⟩
              · have eg : (g != g') = true := by simpa using hgg
                have eg2 : (g' == g) = false := beq_eq_false_iff_ne.2 (fun h => hgg h.symm)
                have eg3 : (g == g') = false := beq_eq_false_iff_ne.2 hgg
                have eg4 : ¬ g' = g := fun h => hgg h.symm
                by_cases hok : decOk ys
                · have htw : ys = LA ∨ ys = LB := by
                    have h1 := sup_ends HLA.out (fun e => by have := HA64.out; rw [e] at this; simp at this)
                    have h2 := sup_ends HLB.out (fun e => by have := HB64.out; rw [e] at this; simp at this)
                    have h3 := sup_ends hok.2 (fun e => by have := hok.1; rw [e] at this; simp at this)
                    have hn := gen_ne HAok.out HBok.out HG.out HG'.out hgg
                    rw [HLA.out, HLB.out] at hn
                    exact torn_ends h1.1 h2.1 h1.2 h2.2 hn hc64 HYS.out h3.2
                  clear hok
                  rcases htw with hw | hw
                  · have HDV : Hid (decV ys = .agg #[.bool true, .int .i64 g, .int .i64 b, .int .i64 s, .int .i64 l, .int .i64 c]) := by
                      show _ = _
                      rw [hw, ← HLA.out]; exact dec_sup HAok.out HG.out
                    clear hw
                    refine (implDec_any _ _ ys HRW.out HYB.out).mono ?_
                    rw [HDV.out]
                    rintro e W2 ⟨rfl, bW2⟩
                    have T2 : Hid (TS w W2 (.slice (some ⟨ga, oa, none⟩) 64 c5) (.slice (some ⟨gb, ob, none⟩) 64 c6) LA LB ko kn g b s l c g' b' s' l' c') := HW1.out.keep bW2
                    clear HW1 HRW bW2
                    obtain ⟨sx, x0, x1, x2, x3, x4⟩ := T2.out.2.2.1
                    obtain ⟨sy, y0, y1, y2, y3, y4⟩ := T2.out.2.2.2.1
                    have T3 : Hid (TS w (W2.alloc (.cells #[.bool true, .int .i64 g, .int .i64 b, .int .i64 s, .int .i64 l, .int .i64 c] 39)) (.slice (some ⟨ga, oa, none⟩) 64 c5) (.slice (some ⟨gb, ob, none⟩) 64 c6) LA LB ko kn g b s l c g' b' s' l' c') := T2.out.keep ((Below.refl _ _).alloc (Nat.le_refl _) _)
                    go_wp2
                    exact ⟨⟨cut + 1, by omega, by go_num, T3⟩, by simp [intOf]; omega⟩
                  · have HDV : Hid (decV ys = .agg #[.bool true, .int .i64 g', .int .i64 b', .int .i64 s', .int .i64 l', .int .i64 c']) := by
                      show _ = _
                      rw [hw, ← HLB.out]; exact dec_sup HBok.out HG'.out
                    clear hw
                    refine (implDec_any _ _ ys HRW.out HYB.out).mono ?_
                    rw [HDV.out]
                    rintro e W2 ⟨rfl, bW2⟩
                    have T2 : Hid (TS w W2 (.slice (some ⟨ga, oa, none⟩) 64 c5) (.slice (some ⟨gb, ob, none⟩) 64 c6) LA LB ko kn g b s l c g' b' s' l' c') := HW1.out.keep bW2
                    clear HW1 HRW bW2
                    obtain ⟨sx, x0, x1, x2, x3, x4⟩ := T2.out.2.2.1
                    obtain ⟨sy, y0, y1, y2, y3, y4⟩ := T2.out.2.2.2.1
                    have T3 : Hid (TS w (W2.alloc (.cells #[.bool true, .int .i64 g', .int .i64 b', .int .i64 s', .int .i64 l', .int .i64 c'] 39)) (.slice (some ⟨ga, oa, none⟩) 64 c5) (.slice (some ⟨gb, ob, none⟩) 64 c6) LA LB ko kn g b s l c g' b' s' l' c') := T2.out.keep ((Below.refl _ _).alloc (Nat.le_refl _) _)
                    go_wp2
                    exact ⟨⟨cut + 1, by omega, by go_num, T3⟩, by simp [intOf]; omega⟩
                · have HDV : Hid (decV ys = .agg #[.bool false, .int .i64 0, .int .i64 0, .int .i64 0, .int .i64 0, .int .i64 0]) := by
                    show _ = _
                    unfold decV; rw [if_neg hok]
                  clear hok
                  refine (implDec_any _ _ ys HRW.out HYB.out).mono ?_
                  rw [HDV.out]
                  rintro e W2 ⟨rfl, bW2⟩
                  have T2 : Hid (TS w W2 (.slice (some ⟨ga, oa, none⟩) 64 c5) (.slice (some ⟨gb, ob, none⟩) 64 c6) LA LB ko kn g b s l c g' b' s' l' c') := HW1.out.keep bW2
                  clear HW1 HRW bW2
                  obtain ⟨sx, x0, x1, x2, x3, x4⟩ := T2.out.2.2.1
                  obtain ⟨sy, y0, y1, y2, y3, y4⟩ := T2.out.2.2.2.1
                  have T3 : Hid (TS w (W2.alloc (.cells #[.bool false, .int .i64 0, .int .i64 0, .int .i64 0, .int .i64 0, .int .i64 0] 39)) (.slice (some ⟨ga, oa, none⟩) 64 c5) (.slice (some ⟨gb, ob, none⟩) 64 c6) LA LB ko kn g b s l c g' b' s' l' c') := T2.out.keep ((Below.refl _ _).alloc (Nat.le_refl _) _)
                  go_wp2
                  exact ⟨⟨cut + 1, by omega, by go_num, T3⟩, by simp [intOf]; omega⟩
        · have hcI : ¬ (cut : Int) ≤ 64 := by omega
          have BL : Hid (Below w.heap.size w wr) := TL.out.2.2.2.2
          go_wp2
          go_ret
          exact ⟨rfl, BL.out⟩
    · rw [HLB.out] at hB0
      have eB : ((LB.length : Int) == 0) = true := by rw [hB0]; rfl
      obtain ⟨-, x0, x1, x2, x3, x4⟩ := T8.out.2.2.1
      go_wp2_with fail
      refine (specSuper_any _ g b s l c HG.out).mono ?_
      rw [HLA.out]
      rintro e w9 ⟨v9, rfl, o9, b9⟩
      obtain ⟨a9, c9, hv9⟩ := own_slice' o9
      subst hv9
      have T9 : Hid (TS w w9 (.slice a5 LA.length c5) (.slice a6 LB.length c6) LA LB ko kn g b s l c g' b' s' l' c') := T8.out.keep b9
      clear o9 b9 x0 x1 x2 x3 x4 T8
      obtain ⟨-, x0, x1, x2, x3, x4⟩ := T9.out.2.2.2.1
      go_wp2_with fail
      refine (specSuper_any _ g' b' s' l' c' HG'.out).mono ?_
      rw [HLB.out]
      rintro e w10 ⟨v10, rfl, o10, b10⟩
      obtain ⟨a10, c10, hv10⟩ := own_slice' o10
      subst hv10
      have T10 : Hid (TS w w10 (.slice a5 LA.length c5) (.slice a6 LB.length c6) LA LB ko kn g b s l c g' b' s' l' c') := T9.out.keep b10
      clear o10 b10 x0 x1 x2 x3 x4 T9
      have B10 : Hid (Below w.heap.size w w10) := T10.out.2.2.2.2
      go_wp2
      go_ret
      exact ⟨rfl, B10.out⟩
  · rw [HLA.out] at hA0
    have eA : ((LA.length : Int) == 0) = true := by rw [hA0]; rfl
    obtain ⟨-, x0, x1, x2, x3, x4⟩ := T7.out.2.2.1
    go_wp2_with fail
    refine (specSuper_any _ g b s l c HG.out).mono ?_
    rw [HLA.out]
    rintro e w8 ⟨v8, rfl, o8, b8⟩
    obtain ⟨a8, c8, hv8⟩ := own_slice' o8
    subst hv8
    have T8 : Hid (TS w w8 (.slice a5 LA.length c5) (.slice a6 LB.length c6) LA LB ko kn g b s l c g' b' s' l' c') := T7.out.keep b8
    clear o8 b8 x0 x1 x2 x3 x4 T7
    obtain ⟨-, x0, x1, x2, x3, x4⟩ := T8.out.2.2.2.1
    go_wp2_with fail
    refine (specSuper_any _ g' b' s' l' c' HG'.out).mono ?_
    rw [HLB.out]
    rintro e w9 ⟨v9, rfl, o9, b9⟩
    obtain ⟨a9, c9, hv9⟩ := own_slice' o9
    subst hv9
    have T9 : Hid (TS w w9 (.slice a5 LA.length c5) (.slice a6 LB.length c6) LA LB ko kn g b s l c g' b' s' l' c') := T8.out.keep b9
    clear o9 b9 x0 x1 x2 x3 x4 T8
    have B9 : Hid (Below w.heap.size w w9) := T9.out.2.2.2.2
    go_wp2
    go_ret
    exact ⟨rfl, B9.out⟩

set_option maxHeartbeats 400000 in
set_option maxRecDepth 100000 in
theorem lawTS_big (w : World) (ca am : Option Addr) (N cc m cm : Nat) (h : 1048576 < N ∨ 1048576 < m) :
    Calls Try.prog 4 #[.slice ca N cc, .slice am m cm] w fun e w' => e = .returned (.bool true) ∧ Below w.heap.size w w' := by
  by_cases h1 : 1048576 < N
  · have hI : (1048576 : Int) < (N : Int) := by omega
    go_enter Try.func4, Try.ntmps4
    go_wp2
    go_ret
    exact ⟨rfl, Below.refl _ _⟩
  · have hI : ¬ (1048576 : Int) < (N : Int) := by omega
    have hI2 : (1048576 : Int) < (m : Int) := by omega
    go_enter Try.func4, Try.ntmps4
    go_wp2
    go_ret
    exact ⟨rfl, Below.refl _ _⟩

theorem lawTS_walk (w : World) (v : Value) (xs : List Int) (h : Rd .u8 w v xs) (hby : Byt xs) (u : Value) (ms : List Int) (hm : Rd .u8 w u ms) (hmy : Byt ms) :
    Calls Try.prog 4 #[v, u] w fun e w' => e = .returned (.bool true) ∧ Below w.heap.size w w' := by
  obtain ⟨am, cm, rfl, -, -⟩ := hm.len
  obtain ⟨ca, cc, rfl, -, -⟩ := h.len
  by_cases hb : 1048576 < xs.length ∨ 1048576 < ms.length
  · exact lawTS_big w ca am _ cc _ cm hb
  · exact lawTS_core w ca am _ cc _ cm xs ms h hby rfl (by omega) hm hmy rfl (by omega)

end Go.Proofs.Ytgjenbgclpmjmaa
