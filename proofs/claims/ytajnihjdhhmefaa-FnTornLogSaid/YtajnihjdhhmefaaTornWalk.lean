import Derived.Test.YtajnihjdhhmefaaTornState
namespace Go.Proofs.Ytajnihjdhhmefaa
open Go.RowKit

set_option maxHeartbeats 8000000 in
set_option maxRecDepth 100000 in
theorem lawTorn_core (w : World) (b o N cc : Nat) (am : Option Addr) (cm m : Nat) (xs ms : List Int) (hx : xs.length = N) (hN : N ≤ 1048576)
    (hc : Rd .u8 w (.slice (some ⟨b, o, none⟩) N cc) xs) (hby : Byt xs)
    (hm : Rd .u8 w (.slice am m cm) ms) (hmy : Byt ms) (hml : ms.length = m) (hm1 : m ≤ 1048576) :
    Calls Try.prog 3 #[.slice (some ⟨b, o, none⟩) N cc, .slice am m cm] w fun e w' => e = .returned (.bool true) ∧ Below w.heap.size w w' := by
  obtain ⟨iT, hiT, hT0, hT1, hT2⟩ := info_parts Try.infoT
  obtain ⟨iN, hiN, hN0, hN1, hN2⟩ := info_parts Try.infoN
  obtain ⟨i0, hi, hz0, hz1, hz2⟩ := info_parts Try.infoB
  obtain ⟨-, -, hcc1, hcc2⟩ := (by obtain ⟨a, c, h1, h2, h3⟩ := hc.len; simp only [Value.slice.injEq] at h1; obtain ⟨-, h4, rfl⟩ := h1; exact ⟨trivial, trivial, by rw [h4]; exact h2, h3⟩ : True ∧ True ∧ N ≤ cc ∧ cc ≤ maxLen)
  have HR : Hid (Rd .u8 w (.slice (some ⟨b, o, none⟩) N cc) xs) := hc
  have HM : Hid (Rd .u8 w (.slice am m cm) ms) := hm
  have HML : Hid (ms.length = m) := hml
  have HX : Hid (xs.length = N) := hx
  have HBY : Hid (Byt xs) := hby
  have HMY : Hid (Byt ms) := hmy
  have HCC : Hid (cc ≤ maxLen) := hcc2
  clear hc hm hml hx hby hmy hcc2
  have t1 : ¬ (1048576 : Int) < (N : Int) := by omega
  have t2 : ¬ (1048576 : Int) < (m : Int) := by omega
  go_enter Try.func3, Try.ntmps3
  go_wp2
  go_loopw [5, 6, 7, 8] (fun vp va ve vt wr => ∃ (ps : List (List Int)) (t : Nat), Hid (OkP ps) ∧ ps.length ≤ 30 ∧ t ≤ N ∧ vt = .int .i64 t ∧ Hid (wr.ownsRow w.heap.size 9 1 vp ps.length (ps.map strV)) ∧
      Hid (wr.ownsRow w.heap.size 5 1 va (flatF ps).length ((flatF ps).map (Value.int .u8))) ∧ Hid (wr.ownsRow w.heap.size 3 1 ve ps.length ((endsL ps).map (Value.int .i64))) ∧ Hid (Below w.heap.size w wr) ∧ Hid (¬ ve = .slice none 0 0 ∧ ¬ vp = .slice none 0 0)) (fun vp _ _ _ _ => 30 - (match vp with | .slice _ n _ => n | _ => 0))
  case atStart =>
    refine ⟨[], 0, (fun p hp => by cases hp), Nat.zero_le _, Nat.zero_le _, rfl, row_empty (by omega) ?_, row_empty (by omega) ?_, row_empty (by omega) ?_, (((Below.refl w.heap.size w).alloc (Nat.le_refl _) _).alloc (by simp) _).alloc (by simp; omega) _, ⟨by simp, by simp⟩⟩
    · rw [heap_old _ (by simp; omega), heap_old _ (by simp), heap_new]
    · rw [heap_old _ (by simp), heap_new' _ (by simp)]
    · rw [heap_new' _ (by simp)]
  case round =>
    obtain ⟨ps, t, HOK, hk, ht, rfl, HP, HA, HE, HG, HNE⟩ := hrel
    obtain ⟨pa, pc, rfl, -, -⟩ := row_slice HP.out
    obtain ⟨aa, ac, rfl, -, -⟩ := row_slice HA.out
    obtain ⟨ea, ec, rfl, -, -⟩ := row_slice HE.out
    by_cases hlt : t < N ∧ ps.length < 30
    · obtain ⟨hlt, hk2⟩ := hlt
      have hltI : (t : Int) < (N : Int) := by omega
      have hkI : (ps.length : Int) < 30 := by omega
      go_wp2_with fail
      refine (lwAt_any _ _ ms ps.length 20 (HM.out.below HG.out) HMY.out (by rw [HML.out]; omega) (by omega) (by omega)).mono ?_
      rintro e w1 ⟨rfl, q1, rfl⟩
      have HP1 : Hid ((wr.drewN q1).ownsRow w.heap.size 9 1 (.slice pa ps.length pc) ps.length (ps.map strV)) := HP.out
      have HA1 : Hid ((wr.drewN q1).ownsRow w.heap.size 5 1 (.slice aa (flatF ps).length ac) (flatF ps).length ((flatF ps).map (Value.int .u8))) := HA.out
      have HE1 : Hid ((wr.drewN q1).ownsRow w.heap.size 3 1 (.slice ea ps.length ec) ps.length ((endsL ps).map (Value.int .i64))) := HE.out
      have HG1 : Hid (Below w.heap.size w (wr.drewN q1)) := HG.out.trans ((below_drewN' wr q1).mono HG.out.size)
      clear HP HA HE HG
      generalize wr.drewN q1 = w1 at *
      have hr := lw_lt ms ps.length 20 (by omega)
      generalize lw ms ps.length 20 = r at *
      obtain ⟨n, hn1, hn2, hn3, hcase⟩ : ∃ n, 1 ≤ n ∧ n ≤ 20 ∧ t + n ≤ N ∧ (((N : Int) < (t : Int) + (1 + (r : Int)) ∧ (N : Int) - (t : Int) = (n : Int)) ∨ (¬ (N : Int) < (t : Int) + (1 + (r : Int)) ∧ (1 + (r : Int)) = (n : Int))) := by
        by_cases h : N < t + (1 + r)
        · exact ⟨N - t, by omega, by omega, by omega, .inl ⟨by omega, by omega⟩⟩
        · exact ⟨1 + r, by omega, by omega, by omega, .inr ⟨by omega, by omega⟩⟩
      obtain ⟨p, hsub, hpb, hpl⟩ : ∃ p, Rd .u8 w1 (.slice (some ⟨b, o + t, none⟩) n (cc - t)) p ∧ Byt p ∧ p.length = n := ⟨_, Rd.sub HX.out (HR.out.below HG1.out) t n (cc - t) hn3 (by omega) (by omega) (by have := HCC.out; omega), byt_sub HBY.out t n, sub_len HX.out hn3⟩
      have hc1 := conv_any hsub
      have HPL : Hid (p.length = n) := hpl
      have HPB : Hid (Byt p) := hpb
      have HSUB : Hid (Rd .u8 w1 (.slice (some ⟨b, o + t, none⟩) n (cc - t)) p) := hsub
      obtain ⟨cap1, W1, hr1, b1, z1, r1, -⟩ := conv_back w1 p hpb (by omega)
      rw [hpl] at hr1 r1
      have HB1 : Hid (Below w1.heap.size w1 W1) := b1
      have HR1 : Hid (Rd .u8 W1 (.slice (some ⟨w1.heap.size, 0, none⟩) n cap1) p) := r1
      have sG1 := HG1.out.size
      clear hsub hpb hpl b1 r1
      have hFL : (flatF ps).length ≤ 1000 := flat_bound HOK.out hk
      rcases hcase with ⟨hA, hB⟩ | ⟨hA, hB⟩
      all_goals
        go_wp2_with fail
        refine (implFrame_any _ _ p HR1.out HPB.out (by rw [HPL.out]; omega)).mono ?_
        rintro e w2 ⟨v2, rfl, o2, b2⟩
        have hL := fr_len (xs := p) (by rw [HPL.out]; omega) (by rw [HPL.out]; omega)
        rw [HPL.out] at hL
        rcases o2.row with ⟨rfl, h3⟩ | ⟨g, cp, rfl, hbg, hmc, hcm⟩
        · rw [h3] at hL; simp at hL; omega
        have B12 : Hid (Below w1.heap.size w1 w2) := HB1.out.trans (b2.mono (by omega))
        have s12 := B12.out.size
        have OF : Hid (Own .u8 5 w2 W1.heap.size (.slice (some ⟨g, 0, none⟩) (fr p).length cp) (fr p)) := o2
        have FRL : Hid ((fr p).length = 2 + (8 * n + 6) / 7) := hL
        have HP2 : Hid (w2.ownsRow w.heap.size 9 1 (.slice pa ps.length pc) ps.length (ps.map strV)) := ownsRow_below' HP1.out B12.out
        have HA2 : Hid (w2.ownsRow w.heap.size 5 1 (.slice aa (flatF ps).length ac) (flatF ps).length ((flatF ps).map (Value.int .u8))) := ownsRow_below' HA1.out B12.out
        have HE2 : Hid (w2.ownsRow w.heap.size 3 1 (.slice ea ps.length ec) ps.length ((endsL ps).map (Value.int .i64))) := ownsRow_below' HE1.out B12.out
        have HG2 : Hid (Below w.heap.size w w2) := HG1.out.trans (B12.out.mono (by omega))
        have hc2 := conv_any (HSUB.out.below B12.out)
        clear o2 b2 hc1 hr1
        generalize hLg : (fr p).length = L at *
        have FRE : Hid ((fr p).length = L) := hLg
        clear hLg hL
        have hLL : L = 2 + (8 * n + 6) / 7 := FRL.out
        have hne : ((L : Int) != 2 + (8 * (n : Int) + 6) / 7) = false := by rw [bne_eq_false_iff_eq]; omega
        have HLL : Hid (L = 2 + (8 * n + 6) / 7) := hLL
        have hLb : L ≤ 25 := by omega
        clear hLL
        go_wp2_with (at_builtin; go_must (refine wpList_append_own _ rfl _ _ 23 rfl w.heap.size 9 iT (.string ByteArray.empty) 1 16 Try.underlying23 hiT hT0 hT1 hT2 rfl (by decide) _ _ _ rfl (HP2.out.alloc _) ⟨w2.heap.size, 0, none⟩ 1 1 [.string (strOfNums p)] rfl rfl (cell_one_new _ _ _) (by intro u hu; simp at hu; subst hu; rfl) ?_ ?_ ?_ ?_))
        · unfold maxLen; omega
        · omega
        · simp; omega
        intro v3 w3 ho3 hg3 n3
        have HP3 : Hid (w3.ownsRow w.heap.size 9 1 v3 (ps ++ [p]).length ((ps ++ [p]).map strV)) := by
          show World.ownsRow _ _ _ _ _ _ _; rw [List.length_append, List.map_append]; exact ho3
        have HN3 : Hid (¬ v3 = .slice none 0 0) := by show ¬ v3 = .slice none 0 0; simpa using n3
        clear n3
        have HA3 : Hid (w3.ownsRow w.heap.size 5 1 (.slice aa (flatF ps).length ac) (flatF ps).length ((flatF ps).map (Value.int .u8))) := World.ownsRow.kept (HA2.out.alloc (.cells #[.string (strOfNums p)] 9)) hg3 (ne_types (by decide) (HA2.out.alloc (.cells #[.string (strOfNums p)] 9)) (HP2.out.alloc (.cells #[.string (strOfNums p)] 9)))
        have HE3 : Hid (w3.ownsRow w.heap.size 3 1 (.slice ea ps.length ec) ps.length ((endsL ps).map (Value.int .i64))) := World.ownsRow.kept (HE2.out.alloc (.cells #[.string (strOfNums p)] 9)) hg3 (ne_types (by decide) (HE2.out.alloc (.cells #[.string (strOfNums p)] 9)) (HP2.out.alloc (.cells #[.string (strOfNums p)] 9)))
        have OF3 : Hid (Own .u8 5 w3 W1.heap.size (.slice (some ⟨g, 0, none⟩) L cp) (fr p)) := World.ownsRow.kept (World.ownsRow.alloc OF.out (.cells #[.string (strOfNums p)] 9)) hg3 (ne_types (by decide) (World.ownsRow.alloc OF.out (.cells #[.string (strOfNums p)] 9)) (HP2.out.alloc (.cells #[.string (strOfNums p)] 9)))
        have HG3 : Hid (Below w.heap.size w w3) := (HG2.out.alloc HG2.out.size (.cells #[.string (strOfNums p)] 9)).grown hg3 (by have := HG2.out.size; simp; omega) (fun q hq => (World.ownsRow.lt HP2.out q hq).1)
        have s3 := HG3.out.size
        clear ho3 hg3 HP2 HA2 HE2 OF HG2 hc2
        go_wp2_with (at_builtin; go_must (refine wpList_append_own _ rfl _ _ 22 rfl w.heap.size 5 i0 (.int .u8 0) 1 1 Try.underlying22 hi hz0 hz1 hz2 rfl (by decide) _ _ _ rfl HA3.out ⟨g, 0, none⟩ L cp ((fr p).map (Value.int .u8)) rfl ?_ (cells_own OF3.out) (ints_oneCell _ _) ?_ ?_ ?_ ?_))
        · rw [List.length_map, FRE.out, Nat.mul_one]
        · unfold maxLen; omega
        · omega
        · omega
        intro v4 w4 ho4 hg4 _
        have HA4 : Hid (w4.ownsRow w.heap.size 5 1 v4 (flatF (ps ++ [p])).length ((flatF (ps ++ [p])).map (Value.int .u8))) := by
          show World.ownsRow _ _ _ _ _ _ _; rw [flatF_snoc, List.length_append, List.map_append, FRE.out]; exact ho4
        obtain ⟨a4, c4, hv4, -, -⟩ := row_slice ho4
        have HP4 : Hid (w4.ownsRow w.heap.size 9 1 v3 (ps ++ [p]).length ((ps ++ [p]).map strV)) := World.ownsRow.kept HP3.out hg4 (ne_types (by decide) HP3.out HA3.out)
        have HE4 : Hid (w4.ownsRow w.heap.size 3 1 (.slice ea ps.length ec) ps.length ((endsL ps).map (Value.int .i64))) := World.ownsRow.kept HE3.out hg4 (ne_types (by decide) HE3.out HA3.out)
        have HG4 : Hid (Below w.heap.size w w4) := HG3.out.grown hg4 s3 (fun q hq => (World.ownsRow.lt HA3.out q hq).1)
        have s4 := HG4.out.size
        clear ho4 hg4 HP3 HA3 HE3 OF3 HG3
        subst hv4
        generalize hF4 : (flatF ps).length + L = F4 at *
        have HF4 : Hid ((flatF ps).length + L = F4) := hF4
        have hF4b : F4 ≤ 1100 := by omega
        clear hF4
        go_wp2_with (at_builtin; go_must (refine wpList_append_own _ rfl _ _ 24 rfl w.heap.size 3 iN (.int .i64 0) 1 8 Try.underlying24 hiN hN0 hN1 hN2 rfl (by decide) _ _ _ rfl (HE4.out.alloc _) ⟨w4.heap.size, 0, none⟩ 1 1 [.int .i64 (F4 : Int)] rfl rfl (cell_one_new _ _ _) (by intro u hu; simp at hu; subst hu; rfl) ?_ ?_ ?_ ?_))
        · unfold maxLen; omega
        · omega
        · simp; omega
        intro v5 w5 ho5 hg5 n5
        have HE5 : Hid (w5.ownsRow w.heap.size 3 1 v5 (ps ++ [p]).length ((endsL (ps ++ [p])).map (Value.int .i64))) := by
          show World.ownsRow _ _ _ _ _ _ _; rw [endsL_snoc, FRE.out, HF4.out, List.length_append, List.map_append]; exact ho5
        have HP5 : Hid (w5.ownsRow w.heap.size 9 1 v3 (ps ++ [p]).length ((ps ++ [p]).map strV)) := World.ownsRow.kept (HP4.out.alloc (.cells #[.int .i64 (F4 : Int)] 3)) hg5 (ne_types (by decide) (HP4.out.alloc (.cells #[.int .i64 (F4 : Int)] 3)) (HE4.out.alloc (.cells #[.int .i64 (F4 : Int)] 3)))
        have HA5 : Hid (w5.ownsRow w.heap.size 5 1 (.slice a4 F4 c4) (flatF (ps ++ [p])).length ((flatF (ps ++ [p])).map (Value.int .u8))) := World.ownsRow.kept (HA4.out.alloc (.cells #[.int .i64 (F4 : Int)] 3)) hg5 (ne_types (by decide) (HA4.out.alloc (.cells #[.int .i64 (F4 : Int)] 3)) (HE4.out.alloc (.cells #[.int .i64 (F4 : Int)] 3)))
        have HG5 : Hid (Below w.heap.size w w5) := (HG4.out.alloc s4 (.cells #[.int .i64 (F4 : Int)] 3)).grown hg5 (by simp; omega) (fun q hq => (World.ownsRow.lt HE4.out q hq).1)
        have HNE5 : Hid (¬ v5 = .slice none 0 0 ∧ ¬ v3 = .slice none 0 0) := ⟨by simpa using n5, by simpa using HN3.out⟩
        clear n5
        have HOK5 : Hid (OkP (ps ++ [p])) := by
          intro q hq
          rcases List.mem_append.1 hq with hq | hq
          · exact HOK.out q hq
          · simp only [List.mem_cons, List.not_mem_nil, or_false] at hq
            subst hq
            exact ⟨HPB.out, by rw [HPL.out]; omega, by rw [HPL.out]; omega⟩
        obtain ⟨a5, c5, hv5, -, -⟩ := row_slice HP5.out
        clear ho5 hg5 HP4 HA4 HE4 HG4
        subst hv5
        have HLL5 : Hid ((ps ++ [p]).length = ps.length + 1) := by show _ = _; simp
        go_wp2
        go_roundw
        case rel => exact ⟨ps ++ [p], t + n, HOK5, by rw [HLL5.out]; omega, by omega, by go_num, HP5, HA5, HE5, HG5, HNE5⟩
        case measure => simp only []; rw [HLL5.out]; omega
    · have hex : (¬ (t : Int) < (N : Int)) ∨ ((t : Int) < (N : Int) ∧ ¬ (ps.length : Int) < 30) := by omega
      have hFL : (flatF ps).length ≤ 1000 := flat_bound HOK.out hk
      obtain ⟨ge, ec', hve, -, -⟩ := row_pos HE.out HNE.out.1
      obtain ⟨gp, pc', hvp, -, -⟩ := row_pos HP.out HNE.out.2
      simp only [Value.slice.injEq, true_and] at hve hvp
      obtain ⟨rfl, rfl⟩ := hve
      obtain ⟨rfl, rfl⟩ := hvp
      have HS0 : Hid (TSt w.heap.size w wr (.slice (some ⟨gp, 0, none⟩) ps.length pc) (.slice aa (flatF ps).length ac) (.slice (some ⟨ge, 0, none⟩) ps.length ec) ps (flatF ps)) := ⟨HP.out, HA.out, HE.out, HG.out⟩
      clear HP HA HE HG HNE hlt
      rcases hex with hx1 | ⟨hx1, hx2⟩
      all_goals
        go_wp2
        go_loopw [6, 11] (fun va vi wr => ∃ k : Nat, k ≤ 40 ∧ vi = .int .i64 k ∧ Hid (TSt w.heap.size w wr (.slice (some ⟨gp, 0, none⟩) ps.length pc) va (.slice (some ⟨ge, 0, none⟩) ps.length ec) ps (flatF ps ++ List.replicate k 0))) (fun _ i _ => 40 - (intOf i).toNat)
        case atStart => exact ⟨0, by omega, rfl, by rw [List.replicate_zero, List.append_nil]; exact HS0⟩
        case round =>
          clear HS0
          obtain ⟨k, hk4, rfl, HS⟩ := hrel
          obtain ⟨a2, c2, hva2, -, -⟩ := row_slice HS.out.2.1
          have hAL : (flatF ps ++ List.replicate k 0).length = (flatF ps).length + k := by simp
          have HAL : Hid ((flatF ps ++ List.replicate k 0).length = (flatF ps).length + k) := hAL
          clear hAL
          have sS := HS.out.2.2.2.size
          by_cases hlt4 : k < 40
          · have hI : (k : Int) < 40 := by omega
            subst hva2
            go_wp2_with (at_builtin; go_must (refine wpList_append_own _ rfl _ _ 22 rfl w.heap.size 5 i0 (.int .u8 0) 1 1 Try.underlying22 hi hz0 hz1 hz2 rfl (by decide) _ _ _ rfl (HS.out.2.1.alloc _) ⟨wr.heap.size, 0, none⟩ 1 1 [.int .u8 0] rfl rfl (cell_one_new _ _ _) (by intro u hu; simp at hu; subst hu; rfl) ?_ ?_ ?_ ?_))
            · rw [HAL.out]; unfold maxLen; omega
            · rw [HAL.out]; omega
            · simp; omega
            intro v3 w3 ho3 hg3 _
            have HS3 : Hid (TSt w.heap.size w w3 (.slice (some ⟨gp, 0, none⟩) ps.length pc) v3 (.slice (some ⟨ge, 0, none⟩) ps.length ec) ps (flatF ps ++ List.replicate (k + 1) 0)) := by
              show TSt _ _ _ _ _ _ _ _
              rw [List.replicate_succ', ← List.append_assoc]
              exact HS.out.append sS (.cells #[.int .u8 0] 5) (by rw [HAL.out]; exact hg3) (by rw [HAL.out, List.map_append, List.map_replicate, List.append_assoc]; exact ho3)
            clear ho3 hg3 HS
            go_wp2
            go_roundw
            case rel => exact ⟨k + 1, by omega, by go_num, HS3⟩
            case measure => simp [intOf]; omega
          · have hI : ¬ (k : Int) < 40 := by omega
            have hk40 : k = 40 := by omega
            subst hk40
            obtain ⟨T, hT⟩ : ∃ T, (flatF ps ++ List.replicate 40 0).length = T := ⟨_, rfl⟩
            have hTb : 40 ≤ T ∧ T ≤ 1040 := by rw [← hT, HAL.out]; omega
            obtain ⟨hTb1, hTb2⟩ := hTb
            obtain ⟨g, cA, hva, -, -⟩ := row_pos HS.out.2.1 (by rw [hva2]; intro h; simp only [Value.slice.injEq] at h; omega)
            rw [hT] at hva
            clear hva2
            subst hva
            have HT : Hid ((flatF ps ++ List.replicate 40 0).length = T) := hT
            clear hT HAL
            go_wp2
            go_loopw [12, 13] (fun vf vk wr => ∃ (k F : Nat) (Z : Nat → Bool) (A : List Int), k ≤ 3 ∧ vk = .int .i64 k ∧ vf = .int .i64 F ∧ F ≤ ps.length ∧ Hid (F = fstZ ps Z) ∧ Hid (Zd ps Z A) ∧ Hid (TSt w.heap.size w wr (.slice (some ⟨gp, 0, none⟩) ps.length pc) (.slice (some ⟨g, 0, none⟩) T cA) (.slice (some ⟨ge, 0, none⟩) ps.length ec) ps A)) (fun _ i _ => 3 - (intOf i).toNat)
            case atStart => exact ⟨0, ps.length, fun _ => false, _, by omega, rfl, rfl, Nat.le_refl _, (fstZ_none ps).symm, Zd.zero ps, HS⟩
            case round =>
              clear HS
              obtain ⟨k, F, Z, A, hk3, rfl, rfl, hFle, HF, HZ, HS⟩ := hrel
              have sS := HS.out.2.2.2.size
              have HAT : Hid (A.length = T) := by show _ = _; rw [HZ.out.1, ← HT.out]; simp
              by_cases hlt3 : k < 3
              · have hI : (k : Int) < 3 := by omega
                obtain ⟨i1, hi1, hi1b⟩ : ∃ i1 : Nat, 31 + 2 * (k : Int) = (i1 : Int) ∧ i1 ≤ 100 := ⟨31 + 2 * k, by omega, by omega⟩
                obtain ⟨i2, hi2, hi2b⟩ : ∃ i2 : Nat, 32 + 2 * (k : Int) = (i2 : Int) ∧ i2 ≤ 100 := ⟨32 + 2 * k, by omega, by omega⟩
                go_wp2_with fail
                refine (lwAt_any _ _ ms i1 256 (HM.out.below HS.out.2.2.2) HMY.out (by rw [HML.out]; omega) (by omega) (by omega)).mono ?_
                rintro e w1 ⟨rfl, q1, rfl⟩
                have HS1 := HS.out.drewN sS q1
                have s1 : wr.heap.size ≤ (wr.drewN q1).heap.size := Nat.le_refl _
                have hr1 := lw_lt ms i1 256 (by omega)
                generalize lw ms i1 256 = r1 at *
                have hp0 : (r1 * T) ≤ 256 * 1040 := Nat.mul_le_mul (by omega) hTb2
                obtain ⟨f, hf, hfb⟩ : ∃ f : Nat, (r1 : Int) * (T : Int) / 200 = (f : Int) ∧ f ≤ 2000 := ⟨r1 * T / 200, by rw [Int.natCast_ediv, Int.natCast_mul]; rfl, by omega⟩
                have hp1 : (r1 : Int) * (T : Int) ≤ 266240 := by rw [← Int.natCast_mul]; omega
                have hp2 : 0 ≤ (r1 : Int) * (T : Int) := by rw [← Int.natCast_mul]; omega
                clear hp0 HS sS
                have HS2 : Hid (TSt w.heap.size w (wr.drewN q1) (.slice (some ⟨gp, 0, none⟩) ps.length pc) (.slice (some ⟨g, 0, none⟩) T cA) (.slice (some ⟨ge, 0, none⟩) ps.length ec) ps A) := HS1
                clear HS1 s1
                generalize wr.drewN q1 = w1 at *
                have sS1 := HS2.out.2.2.2.size
                go_wp2_with fail
                refine (lwAt_any _ _ ms i2 30 (HM.out.below HS2.out.2.2.2) HMY.out (by rw [HML.out]; omega) (by omega) (by omega)).mono ?_
                rintro e w2 ⟨rfl, q2, rfl⟩
                have HS3 : Hid (TSt w.heap.size w (w1.drewN q2) (.slice (some ⟨gp, 0, none⟩) ps.length pc) (.slice (some ⟨g, 0, none⟩) T cA) (.slice (some ⟨ge, 0, none⟩) ps.length ec) ps A) := HS2.out.drewN sS1 q2
                have hr2 := lw_lt ms i2 30 (by omega)
                generalize lw ms i2 30 = r2 at *
                clear HS2 sS1
                generalize w1.drewN q2 = w2 at *
                go_wp2
                go_loopw [12, 16] (fun vf vj wr => ∃ (j F : Nat) (Z : Nat → Bool) (A : List Int), f ≤ j ∧ j ≤ f + r2 ∧ vj = .int .i64 j ∧ vf = .int .i64 F ∧ F ≤ ps.length ∧ Hid (F = fstZ ps Z) ∧ Hid (Zd ps Z A) ∧ Hid (TSt w.heap.size w wr (.slice (some ⟨gp, 0, none⟩) ps.length pc) (.slice (some ⟨g, 0, none⟩) T cA) (.slice (some ⟨ge, 0, none⟩) ps.length ec) ps A)) (fun _ i _ => f + r2 - (intOf i).toNat)
                case atStart => exact ⟨f, F, Z, A, Nat.le_refl _, by omega, rfl, rfl, hFle, HF, HZ, HS3⟩
                case round =>
                  clear HS3 HF HZ HAT hFle
                  obtain ⟨j, F, Z, A, hj1, hj2, rfl, rfl, hFle, HF, HZ, HS⟩ := hrel
                  have HAT : Hid (A.length = T) := by show _ = _; rw [HZ.out.1, ← HT.out]; simp
                  by_cases hin : j < f + r2 ∧ j < T
                  · obtain ⟨hin1, hin2⟩ := hin
                    have hI1 : (j : Int) < (f : Int) + (r2 : Int) := by omega
                    have hI2 : (j : Int) < (T : Int) := by omega
                    obtain ⟨hcell, hfrz⟩ := HS.out.areaCell HAT.out j hin2
                    have HS4 : Hid (TSt w.heap.size w (wr.setCell ⟨g, j, none⟩ (.int .u8 0)) (.slice (some ⟨gp, 0, none⟩) ps.length pc) (.slice (some ⟨g, 0, none⟩) T cA) (.slice (some ⟨ge, 0, none⟩) ps.length ec) ps (A.set j 0)) := HS.out.set HAT.out j 0
                    go_wp2
                    clear hcell hfrz HS
                    generalize wr.setCell ⟨g, j, none⟩ (.int .u8 0) = w4 at *
                    obtain ⟨x, hx⟩ : ∃ x, x = frIdx ps j := ⟨_, rfl⟩
                    have HXJ : Hid (x = frIdx ps j) := hx
                    have hxle : x ≤ ps.length := by rw [hx]; exact frIdx_le ps j
                    clear hx
                    go_loopw [12, 17] (fun vf vi wr => ∃ (z : Int) (q cur : Nat), vi = .int .i64 z ∧ z + 1 = (q : Int) ∧ q ≤ ps.length ∧ vf = .int .i64 cur ∧ cur ≤ ps.length ∧ Hid (cur = if q ≤ x then min F x else F) ∧ Hid (TSt w.heap.size w wr (.slice (some ⟨gp, 0, none⟩) ps.length pc) (.slice (some ⟨g, 0, none⟩) T cA) (.slice (some ⟨ge, 0, none⟩) ps.length ec) ps (A.set j 0))) (fun _ i _ => ((intOf i) + 1).toNat)
                    case atStart => exact ⟨_, ps.length, F, rfl, by omega, Nat.le_refl _, rfl, hFle, by rw [show (if ps.length ≤ x then min F x else F) = F by split <;> omega]; rfl, HS4⟩
                    case round =>
                      clear HS4
                      obtain ⟨z, q, cur, rfl, hzq, hq, rfl, hcur, HC, HS⟩ := hrel
                      by_cases hz : 0 ≤ z
                      · obtain ⟨i, rfl⟩ : ∃ i : Nat, z = (i : Int) := ⟨z.toNat, by omega⟩
                        obtain rfl : q = i + 1 := by omega
                        have c1 := HS.out.endCell i (by omega)
                        have hiI : (i : Int) < (ps.length : Int) := by omega
                        have HAT1 : Hid ((j < eF ps (i + 1) ∧ (i = 0 ∨ eF ps i ≤ j)) ↔ frIdx ps j = i) := frIdx_at ps j i (by omega)
                        clear hzq
                        by_cases hi0 : i = 0
                        · subst hi0
                          generalize eF ps (0 + 1) = e1 at *
                          by_cases hj0 : j < e1
                          · have hjI : (j : Int) < (e1 : Int) := by omega
                            have HX0 : Hid (x = 0) := HXJ.out.trans (HAT1.out.1 ⟨hj0, .inl rfl⟩)
                            by_cases hcu : 0 < cur
                            · have hcI : (0 : Int) < (cur : Int) := by omega
                              go_wp2
                              exact ⟨⟨-1, 0, 0, rfl, rfl, Nat.zero_le _, rfl, Nat.zero_le _, hit_yes HX0.out HC.out hcu, HS⟩, by simp [intOf]⟩
                            · have hcI : ¬ (0 : Int) < (cur : Int) := by omega
                              go_wp2
                              exact ⟨⟨-1, 0, cur, rfl, rfl, Nat.zero_le _, rfl, hcur, hit_no HX0.out HC.out hcu, HS⟩, by simp [intOf]⟩
                          · have hjI : ¬ (j : Int) < (e1 : Int) := by omega
                            have HX0 : Hid (x ≠ 0) := fun h => hj0 (HAT1.out.2 (HXJ.out.symm.trans h)).1
                            go_wp2
                            exact ⟨⟨-1, 0, cur, rfl, rfl, Nat.zero_le _, rfl, hcur, miss HX0.out HC.out, HS⟩, by simp [intOf]⟩
                        · obtain ⟨i', rfl⟩ : ∃ i', i = i' + 1 := ⟨i - 1, by omega⟩
                          have c2 := HS.out.endCell i' (by omega)
                          generalize eF ps (i' + 1 + 1) = e1 at *
                          generalize eF ps (i' + 1) = e2 at *
                          have hb0 : (((i' + 1 : Nat) : Int) == 0) = false := beq_eq_false_iff_ne.2 (by omega)
                          by_cases hj0 : j < e1
                          · have hjI : (j : Int) < (e1 : Int) := by omega
                            by_cases hj2 : e2 ≤ j
                            · have hj2I : (e2 : Int) ≤ (j : Int) := by omega
                              have HX0 : Hid (x = i' + 1) := HXJ.out.trans (HAT1.out.1 ⟨hj0, .inr hj2⟩)
                              by_cases hcu : i' + 1 < cur
                              · have hcI : ((i' + 1 : Nat) : Int) < (cur : Int) := by omega
                                go_wp2
                                exact ⟨⟨i', i' + 1, i' + 1, rfl, by omega, by omega, rfl, by omega, hit_yes HX0.out HC.out hcu, HS⟩, by simp [intOf]; omega⟩
                              · have hcI : ¬ ((i' + 1 : Nat) : Int) < (cur : Int) := by omega
                                go_wp2
                                exact ⟨⟨i', i' + 1, cur, rfl, by omega, by omega, rfl, hcur, hit_no HX0.out HC.out hcu, HS⟩, by simp [intOf]; omega⟩
                            · have hj2I : ¬ (e2 : Int) ≤ (j : Int) := by omega
                              have HX0 : Hid (x ≠ i' + 1) := fun h => by
                                rcases (HAT1.out.2 (HXJ.out.symm.trans h)).2 with h1 | h1 <;> omega
                              go_wp2
                              exact ⟨⟨i', i' + 1, cur, rfl, by omega, by omega, rfl, hcur, miss HX0.out HC.out, HS⟩, by simp [intOf]; omega⟩
                          · have hjI : ¬ (j : Int) < (e1 : Int) := by omega
                            have HX0 : Hid (x ≠ i' + 1) := fun h => hj0 (HAT1.out.2 (HXJ.out.symm.trans h)).1
                            go_wp2
                            exact ⟨⟨i', i' + 1, cur, rfl, by omega, by omega, rfl, hcur, miss HX0.out HC.out, HS⟩, by simp [intOf]; omega⟩
                      · have hzI : ¬ (0 : Int) ≤ z := hz
                        obtain rfl : q = 0 := by omega
                        have HN : Hid (cur = fstZ ps (addZ Z j)) := by
                          show _ = _
                          rw [fstZ_add, HC.out, if_pos (Nat.zero_le _), HF.out, HXJ.out]
                        have HZ2 : Hid (Zd ps (addZ Z j) (A.set j 0)) := HZ.out.set j
                        go_wp2
                        exact ⟨⟨j + 1, cur, addZ Z j, A.set j 0, by omega, by omega, by go_num, rfl, hcur, HN, HZ2, HS⟩, by simp [intOf]; omega⟩
                  · have hout : (¬ (j : Int) < (f : Int) + (r2 : Int)) ∨ ((j : Int) < (f : Int) + (r2 : Int) ∧ ¬ (j : Int) < (T : Int)) := by omega
                    clear hin
                    rcases hout with ho1 | ⟨ho1, ho2⟩
                    · go_wp2
                      exact ⟨⟨k + 1, F, Z, A, by omega, by go_num, rfl, hFle, HF, HZ, HS⟩, by simp [intOf]; omega⟩
                    · go_wp2
                      exact ⟨⟨k + 1, F, Z, A, by omega, by go_num, rfl, hFle, HF, HZ, HS⟩, by simp [intOf]; omega⟩
              · have hI3 : ¬ (k : Int) < 3 := by omega
                have HFND : Hid (scR A = ps.take F ∧ scE A = ((eF ps F : Nat) : Int)) := by
                  have := torn_found HOK.out HZ.out (by rw [HAT.out]; omega)
                  rw [← HF.out] at this
                  exact this
                have HBA : Hid (Byt A) := HZ.out.byt (fun p hp => ⟨(HOK.out p hp).1, (HOK.out p hp).2.1, by have := (HOK.out p hp).2.2; omega⟩)
                have HOA : Hid (Own .u8 5 wr w.heap.size (.slice (some ⟨g, 0, none⟩) T cA) A) := HS.out.2.1
                have HLF : Hid ((ps.take F).length = F) := by show _ = _; rw [List.length_take]; omega
                by_cases hF0 : F = 0
                · subst hF0
                  go_wp2_with fail
                  refine (implScan_any _ _ _ A HOA.out HBA.out (by rw [HAT.out]; omega)).mono ?_
                  rw [HFND.out.1, HFND.out.2, HLF.out]
                  rintro e w5 ⟨va5, vc5, us5, rfl, o5, b5⟩
                  have HS5 : Hid (TSt w.heap.size w w5 (.slice (some ⟨gp, 0, none⟩) ps.length pc) (.slice (some ⟨g, 0, none⟩) T cA) (.slice (some ⟨ge, 0, none⟩) ps.length ec) ps A) := HS.out.below sS b5
                  have s5 := HS5.out.2.2.2.size
                  clear o5 b5 HS HOA
                  rw [eF_zero]
                  go_wp2
                  have B5 : Below w5.heap.size w5 (w5.alloc (.cells #[.slice va5 0 vc5, .int .i64 0] 29)) := (Below.refl _ _).alloc (Nat.le_refl _) _
                  have HS6 : Hid (TSt w.heap.size w (w5.alloc (.cells #[.slice va5 0 vc5, .int .i64 0] 29)) (.slice (some ⟨gp, 0, none⟩) ps.length pc) (.slice (some ⟨g, 0, none⟩) T cA) (.slice (some ⟨ge, 0, none⟩) ps.length ec) ps A) := HS5.out.below s5 B5
                  clear B5 HS5
                  generalize w5.alloc (.cells #[.slice va5 0 vc5, .int .i64 0] 29) = w6 at *
                  go_loopw [20] (fun vi wr => vi = .int .i64 0 ∧ wr = w6) (fun _ _ => 0)
                  case atStart => exact ⟨rfl, rfl⟩
                  case round =>
                    obtain ⟨rfl, rfl⟩ := hrel
                    have R7 : Hid (Rd .u8 (wr.alloc (.cells #[.int .u8 7] 5)) (.slice (some ⟨wr.heap.size, 0, none⟩) 1 1) [7]) := rd_seven wr
                    have B7 : Hid (Below w.heap.size w (wr.alloc (.cells #[.int .u8 7] 5))) := HS6.out.2.2.2.alloc HS6.out.2.2.2.size _
                    go_wp2_with fail
                    refine (implFrame_any _ _ [7] R7.out (by intro x hx; simp at hx; omega) (by simp)).mono ?_
                    rintro e w8 ⟨v8, rfl, o8, b8⟩
                    obtain ⟨a8, c8, rfl⟩ := Own.slice o8
                    rw [show (fr [7]).length = 4 by rw [fr_len (by simp) (by simp)]; rfl]
                    have B8 : Hid (Below w.heap.size w w8) := B7.out.trans (b8.mono B7.out.size)
                    clear o8 b8
                    go_wp2
                    go_ret
                    exact ⟨rfl, B8.out⟩
                · obtain ⟨F', rfl⟩ : ∃ F', F = F' + 1 := ⟨F - 1, by omega⟩
                  have c1 := HS.out.endCell F' (by omega)
                  have hF1 : (0 : Int) < ((F' + 1 : Nat) : Int) := by omega
                  go_wp2_with fail
                  refine (implScan_any _ _ _ A HOA.out HBA.out (by rw [HAT.out]; omega)).mono ?_
                  rw [HFND.out.1, HFND.out.2, HLF.out]
                  rintro e w5 ⟨va5, vc5, us5, rfl, o5, b5⟩
                  have HS5 : Hid (TSt w.heap.size w w5 (.slice (some ⟨gp, 0, none⟩) ps.length pc) (.slice (some ⟨g, 0, none⟩) T cA) (.slice (some ⟨ge, 0, none⟩) ps.length ec) ps A) := HS.out.below sS b5
                  have s5 := HS5.out.2.2.2.size
                  have O5 : Hid (OwnP w5 wr.heap.size (.slice va5 (F' + 1) vc5) (ps.take (F' + 1)) us5) := o5
                  clear o5 b5 HS HOA c1
                  generalize eF ps (F' + 1) = eE at *
                  obtain ⟨g5, hv5⟩ := ownP_some O5.out HLF.out
                  subst hv5
                  go_wp2
                  have B5 : Below w5.heap.size w5 (w5.alloc (.cells #[.slice (some ⟨g5, 0, none⟩) (F' + 1) vc5, .int .i64 eE] 29)) := (Below.refl _ _).alloc (Nat.le_refl _) _
                  have HS6 : Hid (TSt w.heap.size w (w5.alloc (.cells #[.slice (some ⟨g5, 0, none⟩) (F' + 1) vc5, .int .i64 eE] 29)) (.slice (some ⟨gp, 0, none⟩) ps.length pc) (.slice (some ⟨g, 0, none⟩) T cA) (.slice (some ⟨ge, 0, none⟩) ps.length ec) ps A) := HS5.out.below s5 B5
                  have X6 : Hid (Box2 (w5.alloc (.cells #[.slice (some ⟨g5, 0, none⟩) (F' + 1) vc5, .int .i64 eE] 29)) w5.heap.size (.slice (some ⟨g5, 0, none⟩) (F' + 1) vc5) (.int .i64 eE)) := Box2.new _ _ _ _
                  have O6 : Hid (OwnP (w5.alloc (.cells #[.slice (some ⟨g5, 0, none⟩) (F' + 1) vc5, .int .i64 eE] 29)) wr.heap.size (.slice (some ⟨g5, 0, none⟩) (F' + 1) vc5) (ps.take (F' + 1)) us5) := O5.out.below B5
                  clear B5 HS5 O5
                  generalize w5.alloc (.cells #[.slice (some ⟨g5, 0, none⟩) (F' + 1) vc5, .int .i64 eE] 29) = w6 at *
                  go_loopw [20] (fun vi wr => ∃ i : Nat, i ≤ F' + 1 ∧ vi = .int .i64 i ∧ ∃ q, wr = w6.drewN q) (fun i _ => F' + 1 - (intOf i).toNat)
                  case atStart => exact ⟨0, Nat.zero_le _, rfl, 0, rfl⟩
                  case round =>
                    obtain ⟨i, hi6, rfl, q6, rfl⟩ := hrel
                    by_cases hil : i < F' + 1
                    · have hilI : (i : Int) < ((F' + 1 : Nat) : Int) := by omega
                      have hilp : (i : Int) < (ps.length : Int) := by omega
                      have cp := HS6.out.payCell i (by omega)
                      have cr := O6.out.cell i (by rw [HLF.out]; exact hil)
                      have oR := O6.out.2.1 i (by rw [HLF.out]; exact hil)
                      have ePR : pR (ps.take (F' + 1)) i = pR ps i := pR_takeF _ hil
                      obtain ⟨da, dc, eu⟩ := Own.slice oR
                      rw [eu] at cr oR
                      rw [ePR] at cr oR
                      have cv : ∀ q, (convert 22 9 (.slice da (pR ps i).length dc)).run Try.prog (w6.drewN q) = .ok (.string (strOfNums (pR ps i))) (w6.drewN q) := fun q => conv_any (oR.rd.drewN q)
                      obtain ⟨z0, x0, x1⟩ := X6.out
                      clear oR eu ePR
                      generalize pR ps i = pi at *
                      go_wp2
                      go_quiet (fail)
                      go_wp2
                      exact ⟨⟨i + 1, by omega, by go_num, _, by first | rfl | exact World.drewN_drewN _ _ _⟩, by simp [intOf]; omega⟩
                    · have hilI : ¬ (i : Int) < ((F' + 1 : Nat) : Int) := by omega
                      have HS7 : Hid (TSt w.heap.size w (w6.drewN q6) (.slice (some ⟨gp, 0, none⟩) ps.length pc) (.slice (some ⟨g, 0, none⟩) T cA) (.slice (some ⟨ge, 0, none⟩) ps.length ec) ps A) := HS6.out.drewN HS6.out.2.2.2.size q6
                      clear HS6 O6 X6
                      generalize w6.drewN q6 = w7 at *
                      have R7 : Hid (Rd .u8 (w7.alloc (.cells #[.int .u8 7] 5)) (.slice (some ⟨w7.heap.size, 0, none⟩) 1 1) [7]) := rd_seven w7
                      have B7 : Hid (Below w.heap.size w (w7.alloc (.cells #[.int .u8 7] 5))) := HS7.out.2.2.2.alloc HS7.out.2.2.2.size _
                      go_wp2_with fail
                      refine (implFrame_any _ _ [7] R7.out (by intro x hx; simp at hx; omega) (by simp)).mono ?_
                      rintro e w8 ⟨v8, rfl, o8, b8⟩
                      obtain ⟨a8, c8, rfl⟩ := Own.slice o8
                      rw [show (fr [7]).length = 4 by rw [fr_len (by simp) (by simp)]; rfl]
                      have B8 : Hid (Below w.heap.size w w8) := B7.out.trans (b8.mono B7.out.size)
                      clear o8 b8
                      go_wp2
                      go_ret
                      exact ⟨rfl, B8.out⟩

end Go.Proofs.Ytajnihjdhhmefaa
