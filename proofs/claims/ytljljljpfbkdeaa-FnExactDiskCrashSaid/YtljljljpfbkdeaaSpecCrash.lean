import Derived.Test.YtljljljpfbkdeaaSpecSettle
namespace Go.Proofs.Ytljljljpfbkdeaa
open Go.RowKit

def chL (cs : List Int) (k : Nat) : List Int := (List.range k).map (fun i => ((chc cs i : Nat) : Int))
theorem chL_len (cs : List Int) (k : Nat) : (chL cs k).length = k := by simp [chL]
theorem chL_getD (cs : List Int) (k i : Nat) (h : i < k) : (chL cs k).getD i 0 = ((chc cs i : Nat) : Int) := by simp [chL, List.getD, h]
theorem chL_succ (cs : List Int) (k : Nat) : chL cs (k + 1) = chL cs k ++ [((chc cs k : Nat) : Int)] := range_snoc _ k

theorem chc_out (cs : List Int) (k : Nat) (h : ¬ k < cs.length) : ((chc cs k : Nat) : Int) = 0 := by unfold chc; rw [if_neg h]; rfl
theorem chc_low (cs : List Int) (k : Nat) (h : k < cs.length) (hx : cs.getD k 0 < 0) : ((chc cs k : Nat) : Int) = 64 := by
  unfold chc; rw [if_pos h, if_neg (by omega)]; rfl
theorem chc_high (cs : List Int) (k : Nat) (h : k < cs.length) (hx : 64 < cs.getD k 0) : ((chc cs k : Nat) : Int) = 64 := by
  unfold chc; rw [if_pos h, if_neg (by omega)]; rfl
theorem chc_in (cs : List Int) (k : Nat) (h : k < cs.length) (h0 : 0 ≤ cs.getD k 0) (h1 : cs.getD k 0 ≤ 64) : ((chc cs k : Nat) : Int) = cs.getD k 0 := by
  unfold chc
  rw [if_pos h]
  by_cases e : cs.getD k 0 = 64
  · rw [if_neg (by omega), e]; rfl
  · rw [if_pos (by omega)]; omega

set_option maxHeartbeats 2000000 in
set_option maxRecDepth 100000 in
theorem specCrash_yes (w : World) (va vb vc : Option Addr) (dl ca n cb m cc : Nat) (dur : List Int) (ps : List (Int × List Int)) (cs : List Int) (hd : Rd .u8 w (.slice va dl ca) dur) (hdl : dur.length = dl) (hp : RdW w (.slice vb n cb) ps) (hl : ps.length = n)
    (hc : Rd .i64 w (.slice vc m cc) cs) (hcl : cs.length = m) (hv : vldD dl ps = true) (hm : m ≤ 2000) (hd1 : dl ≤ 1048576) (hpd : ∀ i, (pD ps i).length ≤ 1048576) :
    Calls Try.prog 52 #[.agg #[.slice va dl ca, .slice vb n cb], .slice vc m cc] w fun e w' => ∃ v1, e = .returned (.agg #[v1, .slice none 0 0]) ∧ Own .u8 5 w' w.heap.size v1 (stl dur ps (chc cs) n) ∧ Below w.heap.size w w' := by
  obtain ⟨i0, hi, hz0, hz1, hz2⟩ := info_parts Try.infoI
  have HD : Hid (Rd .u8 w (.slice va dl ca) dur) := hd
  have HP : Hid (RdW w (.slice vb n cb) ps) := hp
  have HC : Hid (Rd .i64 w (.slice vc m cc) cs) := hc
  have HL : Hid (ps.length = n) := hl
  have HDL : Hid (dur.length = dl) := hdl
  have HCL : Hid (cs.length = m) := hcl
  have HV : Hid (vldD dl ps = true) := hv
  have HPD : Hid (∀ i, (pD ps i).length ≤ 1048576) := hpd
  have hn2 : n ≤ 2000 := by have := ((vldD_iff dl ps).1 hv).2.2.2.1; omega
  have BA : Hid (∀ o1 o2, Below w.heap.size w ((w.alloc o1).alloc o2)) := fun o1 o2 => ((Below.refl _ _).alloc (Nat.le_refl _) _).alloc (by simp) _
  clear hd hp hl hdl hc hcl hv hpd
  go_enter Try.func52, Try.ntmps52
  go_wp2_with fail
  have XA0 : Hid (BoxF ((w.alloc (.cells #[.slice va dl ca, .slice vb n cb] 38)).alloc (.cells #[.slice none 0 0, .slice none 0 0] 38)) w.heap.size (.slice va dl ca) (.slice vb n cb)) := (BoxF.new w _ _ _).below ((Below.refl _ _).alloc (Nat.le_refl _) _)
  have XR0 : Hid (BoxF ((w.alloc (.cells #[.slice va dl ca, .slice vb n cb] 38)).alloc (.cells #[.slice none 0 0, .slice none 0 0] 38)) (w.heap.size + 1) (.slice none 0 0) (.slice none 0 0)) := by
    have := BoxF.new (w.alloc (.cells #[.slice va dl ca, .slice vb n cb] 38)) (.slice none 0 0) (.slice none 0 0) 38
    show BoxF _ _ _ _
    simpa using this
  have B0 := BA.out (.cells #[.slice va dl ca, .slice vb n cb] 38) (.cells #[.slice none 0 0, .slice none 0 0] 38)
  have HB0 : Hid (Below w.heap.size w ((w.alloc (.cells #[.slice va dl ca, .slice vb n cb] 38)).alloc (.cells #[.slice none 0 0, .slice none 0 0] 38))) := B0
  clear B0 BA
  generalize (w.alloc (.cells #[.slice va dl ca, .slice vb n cb] 38)).alloc (.cells #[.slice none 0 0, .slice none 0 0] 38) = w0 at *
  refine (specValid_any _ va vb dl ca n cb ps (HP.out.below HB0.out) HL.out hd1 (by omega) HPD.out).mono ?_
  rintro e w1 ⟨rfl, b1⟩
  rw [HV.out]
  have HB1 : Hid (Below w.heap.size w w1) := HB0.out.trans (b1.mono HB0.out.size)
  have XA1 : Hid (BoxF w1 w.heap.size (.slice va dl ca) (.slice vb n cb)) := XA0.out.below b1
  have XR1 : Hid (BoxF w1 (w.heap.size + 1) (.slice none 0 0) (.slice none 0 0)) := XR0.out.below b1
  have s1 := HB1.out.size
  have zA := XA1.out.1.1
  have zR := XR1.out.1.1
  clear b1 XA0 XR0 HB0
  have t1 : ¬ (2000 : Int) < (m : Int) := by omega
  have t1d : decide ((2000 : Int) < (m : Int)) = false := by simpa using t1
  go_wp2
  go_loopw [5, 6] (fun v i wr => ∃ k : Nat, k ≤ n ∧ i = .int .i64 k ∧ wr.ownsRow w1.heap.size 2 1 v k ((chL cs k).map (Value.int .i64)) ∧ Below w1.heap.size w1 wr) (fun _ i _ => n - (intOf i).toNat)
  case atStart => exact ⟨0, Nat.zero_le _, rfl, World.ownsRow_lit w1 #[] 0 (Nat.le_refl _) (Nat.zero_le _) rfl, (Below.refl _ _).alloc (Nat.le_refl _) _⟩
  case round =>
    obtain ⟨k, hk, rfl, ho, hg⟩ := hrel
    obtain ⟨⟨z2, c0, c1⟩, -⟩ := XA1.out.belowB hg zA
    have BW : Hid (Below w.heap.size w wr) := HB1.out.trans (hg.mono s1)
    by_cases hlt : k < n
    · have hltI : (k : Int) < (n : Int) := by omega
      have fin : ∀ x : Int, ((chc cs k : Nat) : Int) = x → ∀ v2 w2, World.ownsRow w2 w1.heap.size 2 1 v2 (k + 1) ((chL cs k).map (Value.int .i64) ++ [.int .i64 x]) → World.grownBy (wr.alloc (.cells #[.int .i64 x] 2)) w2 u5.ownBlock → Hid (World.ownsRow w2 w1.heap.size 2 1 v2 (k + 1) ((chL cs (k + 1)).map (Value.int .i64))) ∧ Hid (Below w1.heap.size w1 w2) := by
        intro x hx v2 w2 h1 h2
        refine ⟨?_, (hg.alloc hg.size _).grown h2 (by have := hg.size; simp; omega) (fun q hq => (ho.lt q hq).1)⟩
        show World.ownsRow _ _ _ _ _ _ _
        rw [chL_succ, List.map_append, hx]
        exact h1
      have HF : Hid (∀ x : Int, ((chc cs k : Nat) : Int) = x → ∀ v2 w2, World.ownsRow w2 w1.heap.size 2 1 v2 (k + 1) ((chL cs k).map (Value.int .i64) ++ [.int .i64 x]) → World.grownBy (wr.alloc (.cells #[.int .i64 x] 2)) w2 u5.ownBlock → Hid (World.ownsRow w2 w1.heap.size 2 1 v2 (k + 1) ((chL cs (k + 1)).map (Value.int .i64))) ∧ Hid (Below w1.heap.size w1 w2)) := fin
      clear fin
      by_cases hm1 : k < m
      · have hmI : (k : Int) < (m : Int) := by omega
        obtain ⟨qb, qo, rfl, hqb, e3⟩ := HC.out.cellAt HCL.out hm1
        have e3' := (BW.out.cell (p := ⟨qb, qo + k, none⟩) hqb).trans e3
        have X1 : Hid (cs.getD k 0 < 0 → ((chc cs k : Nat) : Int) = 64) := fun h => chc_low cs k (by rw [HCL.out]; exact hm1) h
        have X2 : Hid (64 < cs.getD k 0 → ((chc cs k : Nat) : Int) = 64) := fun h => chc_high cs k (by rw [HCL.out]; exact hm1) h
        have X3 : Hid (0 ≤ cs.getD k 0 → cs.getD k 0 ≤ 64 → ((chc cs k : Nat) : Int) = cs.getD k 0) := fun h h' => chc_in cs k (by rw [HCL.out]; exact hm1) h h'
        clear e3
        generalize cs.getD k 0 = x at *
        by_cases x0 : x < 0
        · have d0 : decide (x < 0) = true := by simpa using x0
          go_wp2_with (at_builtin; go_must (refine wpList_append_own _ rfl _ _ 61 rfl w1.heap.size 2 i0 (.int .i64 0) 1 8 Try.underlying61 hi hz0 hz1 hz2 rfl (by decide) _ _ _ rfl (ho.alloc _) ⟨wr.heap.size, 0, none⟩ 1 1 [.int .i64 64] rfl rfl (cell_one_new _ _ _) (by intro u hu; simp at hu; subst hu; rfl) ?c3 ?c4 ?c5 ?_))
          case c3 => unfold maxLen; omega
          case c4 => omega
          case c5 => have := hg.size; simp; omega
          intro v2 w2 ho2 hg2 _
          obtain ⟨HO2, HG2⟩ := HF.out _ (X1.out x0) _ _ ho2 hg2
          clear ho2 hg2 ho hg HF c0 c1
          go_wp2
          go_roundw
          case rel => exact ⟨k + 1, by omega, by go_num, HO2.out, HG2.out⟩
          case measure => simp [intOf]; omega
        · have d0 : decide (x < 0) = false := by simpa using x0
          by_cases x1 : 64 < x
          · have d1 : decide (64 < x) = true := by simpa using x1
            go_wp2_with (at_builtin; go_must (refine wpList_append_own _ rfl _ _ 61 rfl w1.heap.size 2 i0 (.int .i64 0) 1 8 Try.underlying61 hi hz0 hz1 hz2 rfl (by decide) _ _ _ rfl (ho.alloc _) ⟨wr.heap.size, 0, none⟩ 1 1 [.int .i64 64] rfl rfl (cell_one_new _ _ _) (by intro u hu; simp at hu; subst hu; rfl) ?c3 ?c4 ?c5 ?_))
            case c3 => unfold maxLen; omega
            case c4 => omega
            case c5 => have := hg.size; simp; omega
            intro v2 w2 ho2 hg2 _
            obtain ⟨HO2, HG2⟩ := HF.out _ (X2.out x1) _ _ ho2 hg2
            clear ho2 hg2 ho hg HF c0 c1
            go_wp2
            go_roundw
            case rel => exact ⟨k + 1, by omega, by go_num, HO2.out, HG2.out⟩
            case measure => simp [intOf]; omega
          · have d1 : decide (64 < x) = false := by simpa using x1
            go_wp2_with (at_builtin; go_must (refine wpList_append_own _ rfl _ _ 61 rfl w1.heap.size 2 i0 (.int .i64 0) 1 8 Try.underlying61 hi hz0 hz1 hz2 rfl (by decide) _ _ _ rfl (ho.alloc _) ⟨wr.heap.size, 0, none⟩ 1 1 [.int .i64 x] rfl rfl (cell_one_new _ _ _) (by intro u hu; simp at hu; subst hu; rfl) ?c3 ?c4 ?c5 ?_))
            case c3 => unfold maxLen; omega
            case c4 => omega
            case c5 => have := hg.size; simp; omega
            intro v2 w2 ho2 hg2 _
            obtain ⟨HO2, HG2⟩ := HF.out _ (X3.out (by omega) (by omega)) _ _ ho2 hg2
            clear ho2 hg2 ho hg HF c0 c1
            go_wp2
            go_roundw
            case rel => exact ⟨k + 1, by omega, by go_num, HO2.out, HG2.out⟩
            case measure => simp [intOf]; omega
      · have hmI : ¬ (k : Int) < (m : Int) := by omega
        have X1 : Hid (((chc cs k : Nat) : Int) = 0) := chc_out cs k (by rw [HCL.out]; exact hm1)
        go_wp2_with (at_builtin; go_must (refine wpList_append_own _ rfl _ _ 61 rfl w1.heap.size 2 i0 (.int .i64 0) 1 8 Try.underlying61 hi hz0 hz1 hz2 rfl (by decide) _ _ _ rfl (ho.alloc _) ⟨wr.heap.size, 0, none⟩ 1 1 [.int .i64 0] rfl rfl (cell_one_new _ _ _) (by intro u hu; simp at hu; subst hu; rfl) ?c3 ?c4 ?c5 ?_))
        case c3 => unfold maxLen; omega
        case c4 => omega
        case c5 => have := hg.size; simp; omega
        intro v2 w2 ho2 hg2 _
        obtain ⟨HO2, HG2⟩ := HF.out _ X1.out _ _ ho2 hg2
        clear ho2 hg2 ho hg HF c0 c1
        go_wp2
        go_roundw
        case rel => exact ⟨k + 1, by omega, by go_num, HO2.out, HG2.out⟩
        case measure => simp [intOf]; omega
    · have hkn : k = n := by omega
      subst hkn
      have XRr : Hid (BoxF wr (w.heap.size + 1) (.slice none 0 0) (.slice none 0 0)) := XR1.out.belowB hg zR
      have OS : Hid (Own .i64 2 wr w1.heap.size u5 (chL cs k)) := own_of (ys := chL cs k) (chL_len _ _) rfl ho
      obtain ⟨sa, sc, rfl, -⟩ := OS.out.rd.len
      have hsl : (chL cs k).length = k := chL_len _ _
      rw [hsl] at OS ⊢
      clear ho hg hsl
      go_wp2_with fail
      refine (l1Settle_any _ va vb sa dl ca k cb sc dur ps (chL cs k) (chc cs) (HD.out.below BW.out) HDL.out (HP.out.below BW.out) HL.out OS.out.rd (chL_len _ _) (fun i hi => ⟨chL_getD _ _ _ hi, chc_le _ _⟩) HV.out hd1).mono ?_
      rintro e w3 ⟨v3, rfl, o3, b3⟩
      obtain ⟨a3, c3, rfl⟩ := o3.slice
      have O3 : Hid (Own .u8 5 w3 wr.heap.size (.slice a3 (stl dur ps (chc cs) k).length c3) (stl dur ps (chc cs) k)) := o3
      have B3 : Hid (Below w.heap.size w w3) := BW.out.trans (b3.mono BW.out.size)
      obtain ⟨⟨z5, d0, d1⟩, f0, f1⟩ := XRr.out.below b3
      have zr := XRr.out.1.1
      clear o3 b3 c0 c1
      go_wp2
      refine bodyPost_ret (v := .agg #[.slice a3 (stl dur ps (chc cs) k).length c3, .slice none 0 0]) (by simp [results, Try.results52, go_sem, d0, d1]) rfl ⟨_, rfl, ?_, ?_⟩
      · refine Own.mono (base := wr.heap.size) ?_ (by have := BW.out.size; omega)
        repeat (first | exact O3.out | refine Own.setAt ?_ (O3.out.none_or (by omega)))
      · repeat (first | exact B3.out | refine Below.setCell ?_ (by simp; try omega) _)

end Go.Proofs.Ytljljljpfbkdeaa
