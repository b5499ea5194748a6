import Derived.Test.YtajnihjdhhmefaaValid
import Derived.Deep.RegionWith
namespace Go.Proofs.Ytajnihjdhhmefaa
open Go.RowKit

set_option maxHeartbeats 400000 in
theorem eqWrite_any (w : World) (x y : Int) (va vb : Value) (xs ys : List Int) (ha : Rd .u8 w va xs) (hb : Rd .u8 w vb ys) :
    Calls Try.prog 79 #[.agg #[.int .i64 x, va], .agg #[.int .i64 y, vb]] w fun e w' => e = .returned (.bool (decide (x = y ∧ xs = ys))) ∧ Below w.heap.size w w' := by
  have B0 : Hid (Below w.heap.size w ((w.alloc (.cells #[.int .i64 x, va] 71)).alloc (.cells #[.int .i64 y, vb] 71))) := ((Below.refl _ _).alloc (Nat.le_refl _) _).alloc (by simp) _
  have RA : Hid (Rd .u8 ((w.alloc (.cells #[.int .i64 x, va] 71)).alloc (.cells #[.int .i64 y, vb] 71)) va xs) := ha.below B0.out
  have RB : Hid (Rd .u8 ((w.alloc (.cells #[.int .i64 x, va] 71)).alloc (.cells #[.int .i64 y, vb] 71)) vb ys) := hb.below B0.out
  obtain ⟨a1, c1, rfl, _, _⟩ := ha.len
  obtain ⟨a2, c2, rfl, _, _⟩ := hb.len
  clear ha hb
  by_cases he : x = y
  · subst he
    have t : (x != x) = false := by simp
    go_enter Try.func79, Try.ntmps79
    go_wp2_with fail
    refine (eqByteS_any _ _ _ xs ys RA.out RB.out).mono ?_
    rintro e w1 ⟨rfl, q1, rfl⟩
    have BE : Hid (Below w.heap.size w (((w.alloc (.cells #[.int .i64 x, .slice a1 xs.length c1] 71)).alloc (.cells #[.int .i64 x, .slice a2 ys.length c2] 71)).drewN q1)) := B0.out.trans ((below_drewN' _ q1).mono (by simp; omega))
    by_cases h : xs = ys
    · have hd : decide (xs = ys) = true := by simp [h]
      have hd2 : decide (x = x ∧ xs = ys) = true := by simp [h]
      rw [hd]
      clear h
      go_wp2
      go_ret
      exact ⟨ret_bool hd2.symm, BE.out⟩
    · have hd : decide (xs = ys) = false := by simp [h]
      have hd2 : decide (x = x ∧ xs = ys) = false := by simp [h]
      rw [hd]
      clear h
      go_wp2
      go_ret
      exact ⟨ret_bool hd2.symm, BE.out⟩
  · have t : (x != y) = true := by simp [he]
    have hd2 : decide (x = y ∧ xs = ys) = false := by simp [he]
    clear he
    go_enter Try.func79, Try.ntmps79
    go_wp2
    go_ret
    exact ⟨ret_bool hd2.symm, B0.out⟩

theorem recs_ext {ps qs : List (Int × List Int)} (hl : ps.length = qs.length) (h : ∀ i, i < ps.length → pB ps i = pB qs i ∧ pD ps i = pD qs i) : ps = qs := by
  apply List.ext_getElem hl
  intro i h1 h2
  have := h i h1
  unfold pB pD at this
  simp only [List.getD, List.getElem?_eq_getElem h1, List.getElem?_eq_getElem h2, Option.getD_some] at this
  exact Prod.ext this.1 this.2

set_option maxHeartbeats 1000000 in
set_option maxRecDepth 100000 in
theorem eqWriteS_row (w : World) (b o b2 o2 n ca cb : Nat) (ps qs : List (Int × List Int)) (hp : ps.length = n) (hq : qs.length = n) (hn : n ≤ 1048576) (hb : b < w.heap.size) (hb2 : b2 < w.heap.size)
    (hc : ∀ i, i < n → w.cell? ⟨b, o + i * 2, none⟩ = some (.int .i64 (pB ps i)) ∧ ∃ da c, w.cell? ⟨b, o + i * 2 + 1, none⟩ = some (.slice da (pD ps i).length c) ∧ Rd .u8 w (.slice da (pD ps i).length c) (pD ps i))
    (hc2 : ∀ i, i < n → w.cell? ⟨b2, o2 + i * 2, none⟩ = some (.int .i64 (pB qs i)) ∧ ∃ da c, w.cell? ⟨b2, o2 + i * 2 + 1, none⟩ = some (.slice da (pD qs i).length c) ∧ Rd .u8 w (.slice da (pD qs i).length c) (pD qs i)) :
    Calls Try.prog 56 #[.slice (some ⟨b, o, none⟩) n ca, .slice (some ⟨b2, o2, none⟩) n cb] w fun e w' => e = .returned (.bool (decide (ps = qs))) ∧ Below w.heap.size w w' := by
  have HC : Hid (∀ i, i < n → w.cell? ⟨b, o + i * 2, none⟩ = some (.int .i64 (pB ps i)) ∧ ∃ da c, w.cell? ⟨b, o + i * 2 + 1, none⟩ = some (.slice da (pD ps i).length c) ∧ Rd .u8 w (.slice da (pD ps i).length c) (pD ps i)) := hc
  have HC2 : Hid (∀ i, i < n → w.cell? ⟨b2, o2 + i * 2, none⟩ = some (.int .i64 (pB qs i)) ∧ ∃ da c, w.cell? ⟨b2, o2 + i * 2 + 1, none⟩ = some (.slice da (pD qs i).length c) ∧ Rd .u8 w (.slice da (pD qs i).length c) (pD qs i)) := hc2
  have HP : Hid (ps.length = n) := hp
  have HQ : Hid (qs.length = n) := hq
  clear hc hc2 hp hq
  have h1 : ((n : Int) != (n : Int)) = false := by simp
  go_enter Try.func56, Try.ntmps56
  go_wp2
  go_loopw [5] (fun i wr => ∃ k : Nat, k ≤ n ∧ i = .int .i64 k ∧ Hid (∀ i, i < k → pB ps i = pB qs i ∧ pD ps i = pD qs i) ∧ Below w.heap.size w wr) (fun i _ => n - (intOf i).toNat)
  case atStart => exact ⟨0, Nat.zero_le _, rfl, fun i hi => by omega, Below.refl _ _⟩
  case round =>
    obtain ⟨k, hk, rfl, HT, hg⟩ := hrel
    by_cases hlt : k < n
    · obtain ⟨e1, da, dc, e2, r⟩ := HC.out k hlt
      obtain ⟨g1, da2, dc2, g2, r2⟩ := HC2.out k hlt
      have e1' := (hg.cell (p := ⟨b, o + k * 2, none⟩) hb).trans e1
      have e2' := (hg.cell (p := ⟨b, o + k * 2 + 1, none⟩) hb).trans e2
      have g1' := (hg.cell (p := ⟨b2, o2 + k * 2, none⟩) hb2).trans g1
      have g2' := (hg.cell (p := ⟨b2, o2 + k * 2 + 1, none⟩) hb2).trans g2
      have hltI : (k : Int) < (n : Int) := by omega
      have HE : Hid (∀ q, Calls Try.prog 79 #[.agg #[.int .i64 (pB ps k), .slice da (pD ps k).length dc], .agg #[.int .i64 (pB qs k), .slice da2 (pD qs k).length dc2]] (wr.drewN q) fun e w' => e = .returned (.bool (decide (pB ps k = pB qs k ∧ pD ps k = pD qs k))) ∧ Below w.heap.size w w') := by
        intro q
        refine (eqWrite_any _ _ _ _ _ (pD ps k) (pD qs k) ((r.below hg).drewN q) ((r2.below hg).drewN q)).mono ?_
        rintro e w' ⟨rfl, b'⟩
        exact ⟨rfl, (hg.trans ((below_drewN' wr q).mono hg.size)).trans (b'.mono hg.size)⟩
      clear e1 e2 g1 g2 r r2 hg
      by_cases heq : pB ps k = pB qs k ∧ pD ps k = pD qs k
      · have HQ1 : Hid (pB ps k = pB qs k ∧ pD ps k = pD qs k) := heq
        have HD : Hid (decide (pB ps k = pB qs k ∧ pD ps k = pD qs k) = true) := by show _ = _; rw [decide_eq_true_eq]; exact heq
        clear heq
        go_wp2
        go_region_with (go_at_call 79; refine (HE.out 1).mono ?_; rintro e w' ⟨rfl, b'⟩; rw [HD.out])
        all_goals
          have HB : Hid (Below w.heap.size w w') := b'
          clear b'
          go_wp2
          go_roundw
          case rel => exact ⟨k + 1, by omega, by go_num, (fun i hi => by by_cases e : i = k; (subst e; exact HQ1.out); exact HT.out i (by omega)), HB.out⟩
          case measure => simp [intOf]; omega
      · have HD : Hid (decide (pB ps k = pB qs k ∧ pD ps k = pD qs k) = false) := by show _ = _; rw [decide_eq_false_iff_not]; exact heq
        have HN : Hid (decide (ps = qs) = false) := by show _ = _; rw [decide_eq_false_iff_not]; intro h; subst h; exact heq ⟨rfl, rfl⟩
        clear heq
        go_wp2
        go_region_with (go_at_call 79; refine (HE.out 1).mono ?_; rintro e w' ⟨rfl, b'⟩; rw [HD.out])
        all_goals
          have HB : Hid (Below w.heap.size w w') := b'
          clear b'
          go_wp2
          go_ret
          exact ⟨ret_bool HN.out.symm, HB.out⟩
    · have HY : Hid (decide (ps = qs) = true) := by show _ = _; rw [decide_eq_true_eq]; exact recs_ext (by rw [HP.out, HQ.out]) (fun i hi => HT.out i (by rw [HP.out] at hi; omega))
      have HG : Hid (Below w.heap.size w wr) := hg
      clear hg
      go_wp2
      go_ret
      exact ⟨ret_bool HY.out.symm, HG.out⟩

set_option maxHeartbeats 400000 in
theorem eqWriteS_len (w : World) (ao bo : Option Addr) (n m ca cb : Nat) (h : n ≠ m) :
    Calls Try.prog 56 #[.slice ao n ca, .slice bo m cb] w fun e w' => e = .returned (.bool false) ∧ w' = w := by
  have h1 : ((n : Int) != (m : Int)) = true := by rw [bne_iff_ne]; omega
  go_enter Try.func56, Try.ntmps56
  go_wp2
  go_ret
  exact ⟨rfl, rfl⟩

theorem eqWriteS_any (w : World) (va vb : Value) (ps qs : List (Int × List Int)) (ha : RdW w va ps) (hb : RdW w vb qs) (hn : ps.length ≤ 1048576) :
    Calls Try.prog 56 #[va, vb] w fun e w' => e = .returned (.bool (decide (ps = qs))) ∧ Below w.heap.size w w' := by
  obtain ⟨ao, ca, rfl, h1, h2, h3⟩ := ha
  obtain ⟨bo, cb, rfl, k1, k2, k3⟩ := hb
  by_cases hne : ps.length = qs.length
  · rcases h3 with rfl | ⟨b, o, rfl, hb, hc⟩
    · have hy : qs = [] := List.eq_nil_of_length_eq_zero hne.symm
      subst hy
      refine (eqWriteS_nil w ao bo ca cb).mono ?_
      rintro e w' ⟨rfl, rfl⟩
      exact ⟨ret_bool (by simp), Below.refl _ _⟩
    · rcases k3 with rfl | ⟨b2, o2, rfl, hb2, hc2⟩
      · have hx : ps = [] := List.eq_nil_of_length_eq_zero hne
        subst hx
        refine (eqWriteS_nil w _ bo ca cb).mono ?_
        rintro e w' ⟨rfl, rfl⟩
        exact ⟨ret_bool (by simp), Below.refl _ _⟩
      · rw [← hne] at hc2 ⊢
        exact eqWriteS_row w b o b2 o2 ps.length ca cb ps qs rfl hne.symm hn hb hb2 hc hc2
  · refine (eqWriteS_len w ao bo _ _ ca cb hne).mono ?_
    rintro e w' ⟨rfl, rfl⟩
    exact ⟨ret_bool (by symm; rw [decide_eq_false_iff_not]; intro h; exact hne (by rw [h])), Below.refl _ _⟩

set_option maxHeartbeats 400000 in
theorem eqDisk_any (w : World) (va vb pa pb : Value) (xs ys : List Int) (ps qs : List (Int × List Int)) (ha : Rd .u8 w va xs) (hb : Rd .u8 w vb ys) (hp : RdW w pa ps) (hq : RdW w pb qs) (hn : ps.length ≤ 1048576) :
    Calls Try.prog 26 #[.agg #[va, pa], .agg #[vb, pb]] w fun e w' => e = .returned (.bool (decide (xs = ys ∧ ps = qs))) ∧ Below w.heap.size w w' := by
  have B0 : Hid (Below w.heap.size w ((w.alloc (.cells #[va, pa] 45)).alloc (.cells #[vb, pb] 45))) := ((Below.refl _ _).alloc (Nat.le_refl _) _).alloc (by simp) _
  have RA : Hid (Rd .u8 ((w.alloc (.cells #[va, pa] 45)).alloc (.cells #[vb, pb] 45)) va xs) := ha.below B0.out
  have RB : Hid (Rd .u8 ((w.alloc (.cells #[va, pa] 45)).alloc (.cells #[vb, pb] 45)) vb ys) := hb.below B0.out
  have PA : Hid (RdW ((w.alloc (.cells #[va, pa] 45)).alloc (.cells #[vb, pb] 45)) pa ps) := hp.below B0.out
  have PB : Hid (RdW ((w.alloc (.cells #[va, pa] 45)).alloc (.cells #[vb, pb] 45)) pb qs) := hq.below B0.out
  clear ha hb hp hq
  go_enter Try.func26, Try.ntmps26
  go_wp2_with fail
  refine (eqByteS_any _ _ _ xs ys RA.out RB.out).mono ?_
  rintro e w1 ⟨rfl, q1, rfl⟩
  by_cases h : xs = ys
  · have hd : decide (xs = ys) = true := by simp [h]
    rw [hd]
    have HE : Hid (xs = ys) := h
    clear h
    go_wp2_with fail
    refine (eqWriteS_any _ _ _ ps qs (PA.out.below (below_drewN' _ q1)) (PB.out.below (below_drewN' _ q1)) hn).mono ?_
    rintro e w2 ⟨rfl, b2⟩
    have B2 : Hid (Below w.heap.size w w2) := (B0.out.trans ((below_drewN' _ q1).mono (by simp; omega))).trans (b2.mono (by simp; omega))
    clear b2
    by_cases h2 : ps = qs
    · have hd2 : decide (ps = qs) = true := by simp [h2]
      have hd3 : decide (xs = ys ∧ ps = qs) = true := by rw [decide_eq_true_eq]; exact ⟨HE.out, h2⟩
      rw [hd2]
      clear h2
      go_wp2
      go_ret
      exact ⟨ret_bool hd3.symm, B2.out⟩
    · have hd2 : decide (ps = qs) = false := by simp [h2]
      have hd3 : decide (xs = ys ∧ ps = qs) = false := by simp [h2]
      rw [hd2]
      clear h2
      go_wp2
      go_ret
      exact ⟨ret_bool hd3.symm, B2.out⟩
  · have hd : decide (xs = ys) = false := by simp [h]
    have hd3 : decide (xs = ys ∧ ps = qs) = false := by simp [h]
    rw [hd]
    have BE : Hid (Below w.heap.size w (((w.alloc (.cells #[va, pa] 45)).alloc (.cells #[vb, pb] 45)).drewN q1)) := B0.out.trans ((below_drewN' _ q1).mono (by simp; omega))
    clear h
    go_wp2
    go_ret
    exact ⟨ret_bool hd3.symm, BE.out⟩

end Go.Proofs.Ytajnihjdhhmefaa
