import Derived.Test.YtajnihjdhhmefaaDiskTo2
namespace Go.Proofs.Ytajnihjdhhmefaa
open Go.RowKit

/-- Record i is one of the disk. -/
def okP (n : Nat) (ps : List (Int × List Int)) (i : Nat) : Prop := 0 ≤ pB ps i ∧ pB ps i < n ∧ (pD ps i).length = 64
def vldP (dl : Nat) (ps : List (Int × List Int)) : Prop := dl % 64 = 0 ∧ 1 ≤ dl / 64 ∧ dl / 64 ≤ 300 ∧ ps.length ≤ 2000 ∧ ∀ i, i < ps.length → okP (dl / 64) ps i
def okBk (n : Nat) (ps : List (Int × List Int)) (i : Nat) : Bool := decide (0 ≤ pB ps i) && decide (pB ps i < n) && decide ((pD ps i).length = 64)
theorem okBk_iff (n : Nat) (ps : List (Int × List Int)) (i : Nat) : okBk n ps i = true ↔ okP n ps i := by unfold okBk okP; simp [and_assoc]
def vldD (dl : Nat) (ps : List (Int × List Int)) : Bool := decide (dl % 64 = 0) && decide (1 ≤ dl / 64) && decide (dl / 64 ≤ 300) && decide (ps.length ≤ 2000) && (List.range ps.length).all (okBk (dl / 64) ps)
theorem vldD_iff (dl : Nat) (ps : List (Int × List Int)) : vldD dl ps = true ↔ vldP dl ps := by
  unfold vldD vldP
  simp only [Bool.and_eq_true, decide_eq_true_eq, List.all_eq_true, List.mem_range, okBk_iff, and_assoc]
theorem vldD_yes {dl : Nat} {ps : List (Int × List Int)} (h : vldP dl ps) : vldD dl ps = true := (vldD_iff dl ps).2 h
theorem vldD_no {dl : Nat} {ps : List (Int × List Int)} (h : ¬ vldP dl ps) : vldD dl ps = false := by
  cases e : vldD dl ps with
  | false => rfl
  | true => exact absurd ((vldD_iff dl ps).1 e) h

set_option maxHeartbeats 400000 in
theorem l1Blocks_any (w : World) (ao : Option Addr) (n cap : Nat) (vp : Value) (hn : n ≤ 1048576) :
    Calls Try.prog 48 #[.agg #[.slice ao n cap, vp]] w fun e w' => e = .returned (.int .i64 ((n / 64 : Nat) : Int)) ∧ Below w.heap.size w w' := by
  go_enter Try.func48, Try.ntmps48
  go_wp2
  go_ret
  exact ⟨ret_int (by omega), (Below.refl _ _).alloc (Nat.le_refl _) _⟩

set_option maxHeartbeats 400000 in
theorem blockCount_any (w : World) (ao : Option Addr) (n cap : Nat) (vp : Value) (hn : n ≤ 1048576) :
    Calls Try.prog 76 #[.agg #[.slice ao n cap, vp]] w fun e w' => e = .returned (.int .i64 ((n / 64 : Nat) : Int)) ∧ Below w.heap.size w w' := by
  go_enter Try.func76, Try.ntmps76
  go_wp2
  go_ret
  exact ⟨ret_int (by omega), (Below.refl _ _).alloc (Nat.le_refl _) _⟩

set_option maxHeartbeats 400000 in
theorem hasBlock_any (w : World) (ao : Option Addr) (n cap : Nat) (vp : Value) (x : Int) (hn : n ≤ 1048576) :
    Calls Try.prog 52 #[.agg #[.slice ao n cap, vp], .int .i64 x] w fun e w' => e = .returned (.bool (decide (0 ≤ x ∧ x < (n / 64 : Nat)))) ∧ Below w.heap.size w w' := by
  have B0 : Hid (Below w.heap.size w (w.alloc (.cells #[.slice ao n cap, vp] 45))) := (Below.refl _ _).alloc (Nat.le_refl _) _
  by_cases h0 : 0 ≤ x
  · go_enter Try.func52, Try.ntmps52
    go_wp2_with fail
    refine (blockCount_any _ ao n cap vp hn).mono ?_
    rintro e w1 ⟨rfl, b1⟩
    have B1 : Hid (Below w.heap.size w w1) := B0.out.trans (b1.mono (by simp))
    clear b1
    generalize hm : n / 64 = m at *
    have HM : Hid (n / 64 = m) := hm
    clear hm
    by_cases h1 : x < (m : Int)
    · go_wp2
      go_ret
      exact ⟨ret_bool (by have := HM.out; symm; rw [decide_eq_true_eq]; omega), B1.out⟩
    · go_wp2
      go_ret
      exact ⟨ret_bool (by have := HM.out; symm; rw [decide_eq_decide]; omega), B1.out⟩
  · have hd : decide (0 ≤ x) = false := by simpa using h0
    go_enter Try.func52, Try.ntmps52
    go_wp2
    go_ret
    exact ⟨ret_bool (by symm; first | rfl | (rw [decide_eq_false_iff_not]; omega)), B0.out⟩

/-- The cells of a slice of records. -/
def CellsW (w : World) (b o n : Nat) (ps : List (Int × List Int)) : Prop :=
  ∀ i, i < n → w.cell? ⟨b, o + i * 2, none⟩ = some (.int .i64 (pB ps i)) ∧ ∃ da c, w.cell? ⟨b, o + i * 2 + 1, none⟩ = some (.slice da (pD ps i).length c)

theorem RdW.cells {w : World} {ao : Option Addr} {n cap : Nat} {ps : List (Int × List Int)} (h : RdW w (.slice ao n cap) ps) (hn : 0 < n) : ∃ b o, ao = some ⟨b, o, none⟩ ∧ b < w.heap.size ∧ CellsW w b o n ps ∧ ps.length = n := by
  obtain ⟨ao', cap', e, h1, h2, h3⟩ := h
  simp only [Value.slice.injEq] at e
  obtain ⟨rfl, rfl, rfl⟩ := e
  rcases h3 with rfl | ⟨b, o, rfl, hb, hc⟩
  · simp at hn
  · exact ⟨b, o, rfl, hb, fun i hi => ⟨(hc i hi).1, by obtain ⟨da, c, h, _⟩ := (hc i hi).2; exact ⟨da, c, h⟩⟩, rfl⟩

theorem CellsW.below {w w' : World} {b o n : Nat} {ps : List (Int × List Int)} (h : CellsW w b o n ps) (hb : b < w.heap.size) (hB : Below w.heap.size w w') : CellsW w' b o n ps :=
  fun i hi => ⟨(hB.cell (p := ⟨b, _, none⟩) hb).trans (h i hi).1, by obtain ⟨da, c, e⟩ := (h i hi).2; exact ⟨da, c, (hB.cell (p := ⟨b, _, none⟩) hb).trans e⟩⟩

set_option maxHeartbeats 1000000 in
set_option maxRecDepth 100000 in
theorem specValid_loop (w : World) (va vb : Option Addr) (dl ca n cb : Nat) (ps : List (Int × List Int)) (hp : RdW w (.slice vb n cb) ps) (hl : ps.length = n) (hd : dl ≤ 1048576)
    (h1 : dl % 64 = 0) (h2 : 1 ≤ dl / 64) (h3 : dl / 64 ≤ 300) (h4 : n ≤ 2000) (hdl : ∀ i, (pD ps i).length ≤ 1048576) :
    Calls Try.prog 47 #[.agg #[.slice va dl ca, .slice vb n cb]] w fun e w' => e = .returned (.bool (vldD dl ps)) ∧ Below w.heap.size w w' := by
  have B0 : Hid (Below w.heap.size w (w.alloc (.cells #[.slice va dl ca, .slice vb n cb] 45))) := (Below.refl _ _).alloc (Nat.le_refl _) _
  have HP : Hid (RdW w (.slice vb n cb) ps) := hp
  have HL : Hid (ps.length = n) := hl
  have HDL : Hid (∀ i, (pD ps i).length ≤ 1048576) := hdl
  clear hp hl hdl
  go_enter Try.func47, Try.ntmps47
  go_wp2_with fail
  refine (l1Blocks_any _ va dl ca _ hd).mono ?_
  rintro e w1 ⟨rfl, b1⟩
  obtain ⟨c0, c1, _, _, z1⟩ := box2_later b1
  have B1 : Hid (Below w.heap.size w w1) := B0.out.trans (b1.mono (by simp))
  have t1 : (((dl : Int) % 64) != 0) = false := by rw [bne_eq_false_iff_eq]; omega
  have H1 : Hid (dl % 64 = 0) := h1
  clear b1 h1
  generalize hm : dl / 64 = m at *
  have HM : Hid (dl / 64 = m) := hm
  have t2 : ¬ (m : Int) < 1 := by omega
  have t3 : ¬ (300 : Int) < (m : Int) := by omega
  have t4 : ¬ (2000 : Int) < (n : Int) := by omega
  clear hm
  go_wp2
  go_loop [4] (fun i => ∃ k : Nat, k ≤ n ∧ i = .int .i64 k ∧ Hid (∀ i, i < k → okP m ps i)) (fun i => n - (intOf i).toNat)
  case atStart => exact ⟨0, Nat.zero_le _, rfl, fun i hi => by omega⟩
  case round =>
    obtain ⟨k, hk, rfl, HOK⟩ := hrel
    by_cases hlt : k < n
    · obtain ⟨b, o, rfl, hb, hc, _⟩ := HP.out.cells (by omega)
      obtain ⟨e1, da, dc, e2⟩ := (hc.below hb B1.out) k hlt
      have hltI : (k : Int) < (n : Int) := by omega
      have hdk := HDL.out k
      by_cases hok : okP m ps k
      · have HK : Hid (okP m ps k) := hok
        obtain ⟨q1, q2, q3⟩ := hok
        have q4 : (((pD ps k).length : Int) != 64) = false := by rw [bne_eq_false_iff_eq]; omega
        have q5 : ¬ pB ps k < 0 := by omega
        have q6 : ¬ (m : Int) ≤ pB ps k := by omega
        clear q1 q2 q3 hc
        go_wp2
        go_round
        case rel => exact ⟨k + 1, by omega, by go_num, fun i hi => by by_cases e : i = k; (subst e; exact HK.out); exact HOK.out i (by omega)⟩
        case measure => simp [intOf]; omega
      · have HN : Hid (vldD dl ps = false) := vldD_no (by rintro ⟨_, _, _, _, h5⟩; rw [HM.out] at h5; exact hok (h5 k (by rw [HL.out]; exact hlt)))
        clear hc
        by_cases q1 : pB ps k < 0
        · go_wp2
          go_ret
          exact ⟨ret_bool HN.out.symm, B1.out⟩
        · by_cases q2 : (m : Int) ≤ pB ps k
          · go_wp2
            go_ret
            exact ⟨ret_bool HN.out.symm, B1.out⟩
          · have q3 : (((pD ps k).length : Int) != 64) = true := by rw [bne_iff_ne]; intro e; exact hok ⟨by omega, by omega, by omega⟩
            clear hok
            go_wp2
            go_ret
            exact ⟨ret_bool HN.out.symm, B1.out⟩
    · have HY : Hid (vldD dl ps = true) := vldD_yes ⟨H1.out, by rw [HM.out]; omega, by rw [HM.out]; omega, by rw [HL.out]; omega, fun i hi => by rw [HM.out]; exact HOK.out i (by rw [HL.out] at hi; omega)⟩
      have hltI : ¬ (k : Int) < (n : Int) := by omega
      go_wp2
      go_ret
      exact ⟨ret_bool HY.out.symm, B1.out⟩

set_option maxHeartbeats 1000000 in
set_option maxRecDepth 100000 in
theorem specValid_head (w : World) (va vb : Option Addr) (dl ca n cb : Nat) (hd : dl ≤ 1048576) (hn : n ≤ 1048576) (h : ¬ (dl % 64 = 0 ∧ 1 ≤ dl / 64 ∧ dl / 64 ≤ 300 ∧ n ≤ 2000)) :
    Calls Try.prog 47 #[.agg #[.slice va dl ca, .slice vb n cb]] w fun e w' => e = .returned (.bool false) ∧ Below w.heap.size w w' := by
  have B0 : Hid (Below w.heap.size w (w.alloc (.cells #[.slice va dl ca, .slice vb n cb] 45))) := (Below.refl _ _).alloc (Nat.le_refl _) _
  go_enter Try.func47, Try.ntmps47
  go_wp2_with fail
  refine (l1Blocks_any _ va dl ca _ hd).mono ?_
  rintro e w1 ⟨rfl, b1⟩
  obtain ⟨c0, c1, _, _, z1⟩ := box2_later b1
  have B1 : Hid (Below w.heap.size w w1) := B0.out.trans (b1.mono (by simp))
  clear b1
  by_cases h1 : dl % 64 = 0
  · have t1 : (((dl : Int) % 64) != 0) = false := by rw [bne_eq_false_iff_eq]; omega
    generalize dl / 64 = m at *
    have H1 : Hid (dl % 64 = 0) := h1
    clear h1
    by_cases h2 : (m : Int) < 1
    · go_wp2
      go_ret
      exact ⟨rfl, B1.out⟩
    · by_cases h3 : (300 : Int) < (m : Int)
      · go_wp2
        go_ret
        exact ⟨rfl, B1.out⟩
      · have h4 : (2000 : Int) < (n : Int) := by have := H1.out; omega
        clear h
        go_wp2
        go_ret
        exact ⟨rfl, B1.out⟩
  · have t1 : (((dl : Int) % 64) != 0) = true := by rw [bne_iff_ne]; omega
    generalize dl / 64 = m at *
    clear h1 h
    go_wp2
    go_ret
    exact ⟨rfl, B1.out⟩

theorem specValid_any (w : World) (va vb : Option Addr) (dl ca n cb : Nat) (ps : List (Int × List Int)) (hp : RdW w (.slice vb n cb) ps) (hl : ps.length = n) (hd : dl ≤ 1048576) (hn : n ≤ 1048576) (hdl : ∀ i, (pD ps i).length ≤ 1048576) :
    Calls Try.prog 47 #[.agg #[.slice va dl ca, .slice vb n cb]] w fun e w' => e = .returned (.bool (vldD dl ps)) ∧ Below w.heap.size w w' := by
  by_cases h : dl % 64 = 0 ∧ 1 ≤ dl / 64 ∧ dl / 64 ≤ 300 ∧ n ≤ 2000
  · exact specValid_loop w va vb dl ca n cb ps hp hl hd h.1 h.2.1 h.2.2.1 h.2.2.2 hdl
  · rw [vldD_no (fun h5 => h ⟨h5.1, h5.2.1, h5.2.2.1, by have := h5.2.2.2.1; omega⟩)]
    exact specValid_head w va vb dl ca n cb hd hn h

set_option maxHeartbeats 1000000 in
set_option maxRecDepth 100000 in
theorem implValid_head (w : World) (va vb : Option Addr) (dl ca n cb : Nat) (hd : dl ≤ 1048576) (hn : n ≤ 1048576) (h : ¬ (dl % 64 = 0 ∧ 1 ≤ dl / 64 ∧ dl / 64 ≤ 300 ∧ n ≤ 2000)) :
    Calls Try.prog 51 #[.agg #[.slice va dl ca, .slice vb n cb]] w fun e w' => e = .returned (.bool false) ∧ Below w.heap.size w w' := by
  have B0 : Hid (Below w.heap.size w (w.alloc (.cells #[.slice va dl ca, .slice vb n cb] 45))) := (Below.refl _ _).alloc (Nat.le_refl _) _
  by_cases h1 : dl % 64 = 0
  · have t1 : (((dl : Int) % 64) != 0) = false := by rw [bne_eq_false_iff_eq]; omega
    have HX : Hid (¬ (dl % 64 = 0 ∧ 1 ≤ dl / 64 ∧ dl / 64 ≤ 300 ∧ n ≤ 2000)) := h
    have H1 : Hid (dl % 64 = 0) := h1
    clear h h1
    go_enter Try.func51, Try.ntmps51
    go_wp2_with fail
    refine (blockCount_any _ va dl ca _ hd).mono ?_
    rintro e w1 ⟨rfl, b1⟩
    obtain ⟨c0, c1, _, _, z1⟩ := box2_later b1
    have B1 : Hid (Below w.heap.size w w1) := B0.out.trans (b1.mono (by simp))
    have h := HX.out
    have h1 := H1.out
    clear b1
    generalize dl / 64 = m at *
    by_cases h2 : (m : Int) < 1
    · clear h h1
      go_wp2
      go_ret
      exact ⟨rfl, B1.out⟩
    · by_cases h3 : (300 : Int) < (m : Int)
      · clear h h1
        go_wp2
        go_ret
        exact ⟨rfl, B1.out⟩
      · have h4 : (2000 : Int) < (n : Int) := by omega
        clear h h1
        go_wp2
        go_ret
        exact ⟨rfl, B1.out⟩
  · have t1 : (((dl : Int) % 64) != 0) = true := by rw [bne_iff_ne]; omega
    clear h1 h
    go_enter Try.func51, Try.ntmps51
    go_wp2
    go_ret
    exact ⟨rfl, B0.out⟩

set_option maxHeartbeats 1000000 in
set_option maxRecDepth 100000 in
theorem implValid_loop (w : World) (va vb : Option Addr) (dl ca n cb : Nat) (ps : List (Int × List Int)) (hp : RdW w (.slice vb n cb) ps) (hl : ps.length = n) (hd : dl ≤ 1048576)
    (h1 : dl % 64 = 0) (h2 : 1 ≤ dl / 64) (h3 : dl / 64 ≤ 300) (h4 : n ≤ 2000) (hdl : ∀ i, (pD ps i).length ≤ 1048576) :
    Calls Try.prog 51 #[.agg #[.slice va dl ca, .slice vb n cb]] w fun e w' => e = .returned (.bool (vldD dl ps)) ∧ Below w.heap.size w w' := by
  have B0 : Hid (Below w.heap.size w (w.alloc (.cells #[.slice va dl ca, .slice vb n cb] 45))) := (Below.refl _ _).alloc (Nat.le_refl _) _
  have HP : Hid (RdW w (.slice vb n cb) ps) := hp
  have HL : Hid (ps.length = n) := hl
  have HDL : Hid (∀ i, (pD ps i).length ≤ 1048576) := hdl
  have H1 : Hid (dl % 64 = 0) := h1
  have H2 : Hid (1 ≤ dl / 64 ∧ dl / 64 ≤ 300) := ⟨h2, h3⟩
  have t1 : (((dl : Int) % 64) != 0) = false := by rw [bne_eq_false_iff_eq]; omega
  clear hp hl hdl h1 h2 h3
  go_enter Try.func51, Try.ntmps51
  go_wp2_with fail
  refine (blockCount_any _ va dl ca _ hd).mono ?_
  rintro e w1 ⟨rfl, b1⟩
  have X1 : Hid (Box2 w1 w.heap.size (.slice va dl ca) (.slice vb n cb)) := (Box2.new w _ _ _).below b1
  have B1 : Hid (Below w.heap.size w w1) := B0.out.trans (b1.mono (by simp))
  clear b1
  have h2 := H2.out
  generalize hm : dl / 64 = m at *
  have HM : Hid (dl / 64 = m) := hm
  have t2 : ¬ (m : Int) < 1 := by omega
  have t3 : ¬ (300 : Int) < (m : Int) := by omega
  have t4 : ¬ (2000 : Int) < (n : Int) := by omega
  clear hm h2
  obtain ⟨z1, c0, c1⟩ := X1.out
  go_wp2
  clear c0 c1 z1
  go_loopw [28] (fun i wr => ∃ k : Nat, k ≤ n ∧ i = .int .i64 k ∧ Hid (∀ i, i < k → okP m ps i) ∧ Hid (Box2 wr w.heap.size (.slice va dl ca) (.slice vb n cb)) ∧ Below w.heap.size w wr) (fun i _ => n - (intOf i).toNat)
  case atStart => exact ⟨0, Nat.zero_le _, rfl, fun i hi => by omega, X1, B1.out⟩
  case round =>
    clear X1 B1
    obtain ⟨k, hk, rfl, HOK, HX, hg⟩ := hrel
    by_cases hlt : k < n
    · obtain ⟨b, o, rfl, hb, hc, _⟩ := HP.out.cells (by omega)
      obtain ⟨e1, da, dc, e2⟩ := (hc.below hb hg) k hlt
      have hltI : (k : Int) < (n : Int) := by omega
      have hdk := HDL.out k
      obtain ⟨z1, c0, c1⟩ := HX.out
      have HG : Hid (Below w.heap.size w wr) := hg
      clear hg hc
      go_wp2_with fail
      have BA : Hid (Below w.heap.size w (wr.alloc (.cells #[.int .i64 (pB ps k), .slice da (pD ps k).length dc] 71))) := HG.out.alloc HG.out.size _
      have XA : Hid (Box2 (wr.alloc (.cells #[.int .i64 (pB ps k), .slice da (pD ps k).length dc] 71)) w.heap.size (.slice va dl ca) (.slice (some ⟨b, o, none⟩) n cb)) := HX.out.below ((Below.refl _ _).alloc (Nat.le_refl _) _)
      have XB : Hid (Box2 (wr.alloc (.cells #[.int .i64 (pB ps k), .slice da (pD ps k).length dc] 71)) wr.heap.size (.int .i64 (pB ps k)) (.slice da (pD ps k).length dc)) := Box2.new _ _ _ _
      generalize wr.alloc (.cells #[.int .i64 (pB ps k), .slice da (pD ps k).length dc] 71) = wa at *
      refine (hasBlock_any _ va dl ca _ (pB ps k) hd).mono ?_
      rintro e w2 ⟨rfl, b2⟩
      rw [HM.out]
      have X2 : Hid (Box2 w2 w.heap.size (.slice va dl ca) (.slice (some ⟨b, o, none⟩) n cb)) := XA.out.below b2
      have XC : Hid (Box2 w2 wr.heap.size (.int .i64 (pB ps k)) (.slice da (pD ps k).length dc)) := XB.out.below b2
      have B2 : Hid (Below w.heap.size w w2) := BA.out.trans (b2.mono BA.out.size)
      obtain ⟨_, d0, d1⟩ := XC.out
      clear b2 c0 c1 z1 e1 e2 HX
      by_cases hok : okP m ps k
      · have HK : Hid (okP m ps k) := hok
        obtain ⟨q1, q2, q3⟩ := hok
        have q4 : (((pD ps k).length : Int) != 64) = false := by rw [bne_eq_false_iff_eq]; omega
        rw [show decide (0 ≤ pB ps k ∧ pB ps k < (m : Int)) = true by rw [decide_eq_true_eq]; omega]
        clear q1 q2 q3
        go_wp2
        go_roundw
        case rel => exact ⟨k + 1, by omega, by go_num, (fun i hi => by by_cases e : i = k; (subst e; exact HK.out); exact HOK.out i (by omega)), X2, B2.out⟩
        case measure => simp [intOf]; omega
      · have HN : Hid (vldD dl ps = false) := vldD_no (by rintro ⟨_, _, _, _, h5⟩; rw [HM.out] at h5; exact hok (h5 k (by rw [HL.out]; exact hlt)))
        by_cases q1 : 0 ≤ pB ps k ∧ pB ps k < (m : Int)
        · rw [show decide (0 ≤ pB ps k ∧ pB ps k < (m : Int)) = true by rw [decide_eq_true_eq]; exact q1]
          have q3 : (((pD ps k).length : Int) != 64) = true := by rw [bne_iff_ne]; intro e; exact hok ⟨q1.1, q1.2, by omega⟩
          clear hok q1
          go_wp2
          go_ret
          exact ⟨ret_bool HN.out.symm, B2.out⟩
        · rw [show decide (0 ≤ pB ps k ∧ pB ps k < (m : Int)) = false by rw [decide_eq_false_iff_not]; exact q1]
          clear hok q1
          go_wp2
          go_ret
          exact ⟨ret_bool HN.out.symm, B2.out⟩
    · have HY : Hid (vldD dl ps = true) := vldD_yes ⟨H1.out, by rw [HM.out]; exact H2.out.1, by rw [HM.out]; exact H2.out.2, by rw [HL.out]; omega, fun i hi => by rw [HM.out]; exact HOK.out i (by rw [HL.out] at hi; omega)⟩
      have hltI : ¬ (k : Int) < (n : Int) := by omega
      have HG : Hid (Below w.heap.size w wr) := hg
      clear hg
      go_wp2
      go_ret
      exact ⟨ret_bool HY.out.symm, HG.out⟩

theorem implValid_any (w : World) (va vb : Option Addr) (dl ca n cb : Nat) (ps : List (Int × List Int)) (hp : RdW w (.slice vb n cb) ps) (hl : ps.length = n) (hd : dl ≤ 1048576) (hn : n ≤ 1048576) (hdl : ∀ i, (pD ps i).length ≤ 1048576) :
    Calls Try.prog 51 #[.agg #[.slice va dl ca, .slice vb n cb]] w fun e w' => e = .returned (.bool (vldD dl ps)) ∧ Below w.heap.size w w' := by
  by_cases h : dl % 64 = 0 ∧ 1 ≤ dl / 64 ∧ dl / 64 ≤ 300 ∧ n ≤ 2000
  · exact implValid_loop w va vb dl ca n cb ps hp hl hd h.1 h.2.1 h.2.2.1 h.2.2.2 hdl
  · rw [vldD_no (fun h5 => h ⟨h5.1, h5.2.1, h5.2.2.1, by have := h5.2.2.2.1; omega⟩)]
    exact implValid_head w va vb dl ca n cb hd hn h

end Go.Proofs.Ytajnihjdhhmefaa
