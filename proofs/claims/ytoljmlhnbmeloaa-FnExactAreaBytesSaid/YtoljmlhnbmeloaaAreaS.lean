import Derived.Test.YtoljmlhnbmeloaaAreaF
import Derived.Test.YtoljmlhnbmeloaaCopy
namespace Go.Proofs.Ytoljmlhnbmeloaa
open Go.RowKit

set_option maxHeartbeats 400000 in
theorem l5First_any (w : World) (S L bank : Int) (log : Bool) (hc : cfgOk S L = true) (hb : 0 ≤ bank ∧ bank ≤ 1) :
    Calls Try.prog 67 #[.agg #[.int .i64 S, .int .i64 L], .int .i64 bank, .bool log] w fun e w' => e = .returned (.int .i64 (arF S L bank log)) ∧ Below w.heap.size w w' := by
  have B0 : Hid (Below w.heap.size w (w.alloc (.cells #[.int .i64 S, .int .i64 L] 59))) := (Below.refl _ _).alloc (Nat.le_refl _) _
  obtain ⟨⟨hS1, hS2⟩, hL1, hL2⟩ := (cfgOk_iff S L).1 hc
  clear hc
  unfold arF
  have hb' : bank = 0 ∨ bank = 1 := by omega
  clear hb
  rcases hb' with rfl | rfl <;> cases log
  all_goals
    go_enter Try.func67, Try.ntmps67
    go_wp2
    go_ret
    exact ⟨ret_int (by simp <;> omega), B0.out⟩

set_option maxHeartbeats 400000 in
theorem l5Length_any (w : World) (S L : Int) (log : Bool) :
    Calls Try.prog 66 #[.agg #[.int .i64 S, .int .i64 L], .bool log] w fun e w' => e = .returned (.int .i64 (arL S L log)) ∧ Below w.heap.size w w' := by
  have B0 : Hid (Below w.heap.size w (w.alloc (.cells #[.int .i64 S, .int .i64 L] 59))) := (Below.refl _ _).alloc (Nat.le_refl _) _
  unfold arL
  cases log
  all_goals
    go_enter Try.func66, Try.ntmps66
    go_wp2
    go_ret
    exact ⟨ret_int (by simp), B0.out⟩

theorem arOk_iff (S L : Int) (dl : Nat) (ps : List (Int × List Int)) (bank : Int) : arOk S L dl ps bank = true ↔ fitD S L dl ps = true ∧ 0 ≤ bank ∧ bank ≤ 1 := by
  unfold arOk; simp only [Bool.and_eq_true, decide_eq_true_eq]

/-- Where an area lies. -/
theorem ar_in {S L bank : Int} {log : Bool} {dl : Nat} {ps : List (Int × List Int)} (h : arOk S L dl ps bank = true) :
    ∃ f l : Nat, arF S L bank log = f ∧ arL S L log = l ∧ 2 ≤ f ∧ 1 ≤ l ∧ l ≤ 64 ∧ f + l ≤ dl / 64 ∧ (f + l) * 64 ≤ dl ∧ dl / 64 ≤ 258 := by
  obtain ⟨h1, h2, h3⟩ := (arOk_iff ..).1 h
  obtain ⟨hc, hv, hn⟩ := (fitD_iff ..).1 h1
  obtain ⟨⟨hS1, hS2⟩, hL1, hL2⟩ := (cfgOk_iff S L).1 hc
  have hm := ((vldD_iff _ _).1 hv).1
  have hb : bank = 0 ∨ bank = 1 := by omega
  refine ⟨(arF S L bank log).toNat, (arL S L log).toNat, ?_⟩
  unfold arF arL
  rcases hb with rfl | rfl <;> cases log <;> simp <;> omega

theorem own_fullA {e : TypeId} {w : World} {base : Nat} {v : Value} {xs : List Int} (h : Own .u8 e w base v xs) (hn : 0 < xs.length) : ∃ g c, v = .slice (some ⟨g, 0, none⟩) xs.length c := by
  rcases h.2 with ⟨-, h0⟩ | ⟨g, cap, cur, rfl, -⟩
  · omega
  · exact ⟨g, cap, rfl⟩
theorem FitS.belowB {w : World} {ao bo : Option Addr} {dl ca n cb : Nat} {S L : Int} {W W' : World} (h : FitS w ao bo dl ca n cb S L W) (hb : Below (w.heap.size + 2) W W') : FitS w ao bo dl ca n cb S L W' :=
  FitS.mk (h.1.out.1.trans (hb.mono (by omega))) ⟨Nat.lt_of_lt_of_le h.1.out.2.1.1 hb.size, (hb.cell (p := ⟨w.heap.size, 0, none⟩) (by show w.heap.size < _; omega)).trans h.1.out.2.1.2.1, (hb.cell (p := ⟨w.heap.size, 1, none⟩) (by show w.heap.size < _; omega)).trans h.1.out.2.1.2.2⟩
    ⟨Nat.lt_of_lt_of_le h.1.out.2.2.1 hb.size, (hb.cell (p := ⟨w.heap.size + 1, 0, none⟩) (by show w.heap.size + 1 < _; omega)).trans h.1.out.2.2.2.1, (hb.cell (p := ⟨w.heap.size + 1, 1, none⟩) (by show w.heap.size + 1 < _; omega)).trans h.1.out.2.2.2.2⟩
theorem FitS.lt {w : World} {ao bo : Option Addr} {dl ca n cb : Nat} {S L : Int} {W : World} (h : FitS w ao bo dl ca n cb S L W) : w.heap.size + 2 ≤ W.heap.size := h.1.out.2.2.1
/-- The two boxes at the head of a call. -/
theorem FitS.new (w : World) (ao bo : Option Addr) (dl ca n cb : Nat) (S L : Int) (t1 t2 : TypeId) : FitS w ao bo dl ca n cb S L ((w.alloc (.cells #[.slice ao dl ca, .slice bo n cb] t1)).alloc (.cells #[.int .i64 S, .int .i64 L] t2)) := by
  refine FitS.mk (((Below.refl _ _).alloc (Nat.le_refl _) _).alloc (by simp) _) ((Box2.new w _ _ _).below ((Below.refl _ _).alloc (Nat.le_refl _) _)) ?_
  have := Box2.new (w.alloc (.cells #[.slice ao dl ca, .slice bo n cb] t1)) (.int .i64 S) (.int .i64 L) t2
  simpa using this

set_option linter.unusedSimpArgs false in
set_option maxHeartbeats 2000000 in
set_option maxRecDepth 100000 in
theorem specArea_yes (w : World) (ao bo : Option Addr) (dl ca n cb : Nat) (dur : List Int) (ps : List (Int × List Int)) (S L bank : Int) (log : Bool) (hd : Rd .u8 w (.slice ao dl ca) dur) (hdl : dur.length = dl) (hp : RdW w (.slice bo n cb) ps) (hl : ps.length = n) (hd1 : dl ≤ 1048576) (hn : n ≤ 1048576) (hpd : ∀ i, (pD ps i).length ≤ 1048576)
    (hok : arOk S L dl ps bank = true) :
    Calls Try.prog 32 #[.agg #[.slice ao dl ca, .slice bo n cb], .agg #[.int .i64 S, .int .i64 L], .int .i64 bank, .bool log] w fun e w' => ∃ v', e = .returned v' ∧ Own .u8 5 w' w.heap.size v' (arN (syD dur ps) (arF S L bank log).toNat (arL S L log).toNat) ∧ Below w.heap.size w w' := by
  obtain ⟨i0, hi, hz0, hz1, hz2⟩ := info_parts Try.infoB
  have HD : Hid (Rd .u8 w (.slice ao dl ca) dur) := hd
  have HDL : Hid (dur.length = dl) := hdl
  have HP : Hid (RdW w (.slice bo n cb) ps) := hp
  have HL : Hid (ps.length = n) := hl
  have HPD : Hid (∀ i, (pD ps i).length ≤ 1048576) := hpd
  obtain ⟨f, l, hf, hl', hf2, hl1, hl2, hfl, hfl2, hdm⟩ := ar_in (log := log) hok
  have h1 := ((arOk_iff ..).1 hok).1
  have hb0 := ((arOk_iff ..).1 hok).2.1
  have hb1 := ((arOk_iff ..).1 hok).2.2
  have HF : Hid (fitD S L dl ps = true) := h1
  have HC : Hid (cfgOk S L = true) := ((fitD_iff ..).1 h1).1
  have HV : Hid (vldD dl ps = true) := ((fitD_iff ..).1 h1).2.1
  rw [hf, hl', Int.toNat_natCast, Int.toNat_natCast]
  have HLE : Hid (∀ W, Calls Try.prog 66 #[.agg #[.int .i64 S, .int .i64 L], .bool log] W fun e w' => e = .returned (.int .i64 (l : Int)) ∧ Below W.heap.size W w') := fun W => by rw [← hl']; exact l5Length_any W S L log
  have HFI : Hid (∀ W, Calls Try.prog 67 #[.agg #[.int .i64 S, .int .i64 L], .int .i64 bank, .bool log] W fun e w' => e = .returned (.int .i64 (f : Int)) ∧ Below W.heap.size W w') := fun W => by rw [← hf]; exact l5First_any W S L bank log HC.out ⟨hb0, hb1⟩
  have HSL : Hid ((syD dur ps).length = dl) := by show _ = _; rw [syD_length (by rw [HDL.out]; exact HV.out), HDL.out]
  have HLN : Hid (∀ k, k ≤ l → (arN (syD dur ps) f k).length = k * 64) := fun k hk => arN_length _ _ _ (by rw [HSL.out]; omega)
  have HBL : Hid (∀ k, k < l → (blk (syD dur ps) (f + k)).length = 64) := fun k hk => by
    have h1 := HLN.out (k + 1) hk
    rw [arN_succ, List.length_append, HLN.out k (by omega)] at h1
    omega
  have HRD : Hid (∀ (W : World) (k : Nat), k < l → FitS w ao bo dl ca n cb S L W → Calls Try.prog 21 #[.agg #[.slice ao dl ca, .slice bo n cb], .int .i64 ((f : Int) + (k : Int))] W fun e w' => ∃ g c, e = .returned (.slice (some ⟨g, 0, none⟩) 64 c) ∧ Hid (∀ j u, ((blk (syD dur ps) (f + k)).map (Value.int .u8))[j]? = some u → w'.cell? ((⟨g, 0, none⟩ : Addr).add j) = some u) ∧ Below W.heap.size W w') := by
    intro W k hk hF
    refine (specRead_any W _ _ dur ps _ (HD.out.below hF.1.out.1) (HP.out.below hF.1.out.1) (by rw [HDL.out]; exact hd1) (by rw [HL.out]; exact hn) HPD.out).mono ?_
    rintro e w' ⟨v', rfl, o, b⟩
    rw [show (f : Int) + (k : Int) = ((f + k : Nat) : Int) by omega, syD_blk (by rw [HDL.out]; exact HV.out) (by rw [HDL.out]; omega)] at o
    have hbl := HBL.out k hk
    obtain ⟨g, c, hv⟩ := own_fullA o (by omega)
    rw [hbl] at hv
    subst hv
    exact ⟨g, c, rfl, World.ownsRow.cells o rfl, b⟩
  clear hd hdl hp hl hpd hok h1 hf hl'
  go_enter Try.func32, Try.ntmps32
  go_wp2_with fail
  have F0 : Hid (FitS w ao bo dl ca n cb S L ((w.alloc (.cells #[.slice ao dl ca, .slice bo n cb] 32)).alloc (.cells #[.int .i64 S, .int .i64 L] 59))) := FitS.new _ _ _ _ _ _ _ _ _ _ _
  have O0 : Hid (Own .u8 5 (((w.alloc (.cells #[.slice ao dl ca, .slice bo n cb] 32)).alloc (.cells #[.int .i64 S, .int .i64 L] 59)).alloc (.cells #[] 5)) (w.heap.size + 2) (.slice (some ⟨w.heap.size + 1 + 1, 0, none⟩) 0 0) []) := by
    have := World.ownsRow_lit (base := w.heap.size + 2) (e := 5) (size := 1) ((w.alloc (.cells #[.slice ao dl ca, .slice bo n cb] 32)).alloc (.cells #[.int .i64 S, .int .i64 L] 59)) #[] 0 (by simp) (Nat.zero_le _) rfl
    rw [show ((w.alloc (.cells #[.slice ao dl ca, .slice bo n cb] 32)).alloc (.cells #[.int .i64 S, .int .i64 L] 59)).heap.size = w.heap.size + 1 + 1 by simp] at this
    exact this
  have F1 : Hid (FitS w ao bo dl ca n cb S L (((w.alloc (.cells #[.slice ao dl ca, .slice bo n cb] 32)).alloc (.cells #[.int .i64 S, .int .i64 L] 59)).alloc (.cells #[] 5))) := F0.out.below ((Below.refl _ _).alloc (Nat.le_refl _) _)
  clear F0
  generalize ((w.alloc (.cells #[.slice ao dl ca, .slice bo n cb] 32)).alloc (.cells #[.int .i64 S, .int .i64 L] 59)).alloc (.cells #[] 5) = w1 at *
  refine (l5Fits_any _ ao bo dl ca n cb ps S L (HP.out.below F1.out.1.out.1) HL.out hd1 hn HPD.out).mono ?_
  rintro e w2 ⟨rfl, b2⟩
  rw [HF.out]
  have F2 : Hid (FitS w ao bo dl ca n cb S L w2) := F1.out.below b2
  have O2 : Hid (Own .u8 5 w2 (w.heap.size + 2) (.slice (some ⟨w.heap.size + 1 + 1, 0, none⟩) 0 0) []) := O0.out.below b2
  clear F1 O0 b2
  have t0 : ¬ bank < 0 := by omega
  have t0d : decide (bank < 0) = false := by simpa using t0
  have t1 : ¬ 1 < bank := by omega
  have t1d : decide (1 < bank) = false := by simpa using t1
  go_wp2
  go_loopw [9, 10] (fun u i wr => ∃ k : Nat, k ≤ l ∧ i = .int .i64 k ∧ Hid (Own .u8 5 wr (w.heap.size + 2) u (arN (syD dur ps) f k)) ∧ Hid (FitS w ao bo dl ca n cb S L wr)) (fun _ i _ => l - (intOf i).toNat)
  case atStart => exact ⟨0, Nat.zero_le _, rfl, by rw [arN_zero]; exact O2, F2⟩
  case round =>
    clear O2 F2
    obtain ⟨k, hk, rfl, HO, HF1⟩ := hrel
    obtain ⟨-, c0, c1, c2, c3⟩ := HF1.out
    go_wp2_with fail
    refine (HLE.out _).mono ?_
    rintro e wr1 ⟨rfl, b1⟩
    have F1 : Hid (FitS w ao bo dl ca n cb S L wr1) := HF1.out.below b1
    have O0 : Hid (Own .u8 5 wr1 (w.heap.size + 2) u9 (arN (syD dur ps) f k)) := HO.out.below b1
    clear HO HF1 b1 c0 c1 c2 c3
    by_cases hlt : k < l
    · have hltI : (k : Int) < (l : Int) := by omega
      go_wp2_with fail
      refine wp_region_held_drew (S := FitS w ao bo dl ca n cb S L) (by kernel_rfl) (F1.out.below (below_drewN' wr1 1)) (fun hHeld => ?_)
      have O1 : Hid (Own .u8 5 wr1.drew (w.heap.size + 2) u9 (arN (syD dur ps) f k)) := O0.out.below (below_drewN' wr1 1)
      refine wpAnyH_take (i := 0) (oi := { dst := some 32, op := _, type := _, pos := _, after := _, guard := _ }) (v := ?v1) rfl (by kernel_rfl) (by kernel_rfl) (by kernel_rfl) (fun _ _ _ h => h) (Or.inl ⟨by rfl, ?hy1⟩) (by assumption) ?rest1
      case hy1 =>
        intro w9 hS9
        obtain ⟨-, k0, k1, k2, k3⟩ := hS9
        go_simp
        try with_reducible rfl
      try simp only [Act.put, List.setIfInBounds_toArray, List.set_cons_zero, List.set_cons_succ]
      refine wpAnyH_take (i := 1) (oi := { dst := some 33, op := _, type := _, pos := _, after := _, guard := _ }) (v := ?v2) rfl (by kernel_rfl) (by kernel_rfl) (by kernel_rfl) (fun _ _ _ h => h) (Or.inl ⟨by rfl, ?hy2⟩) (by assumption) ?rest2
      case hy2 =>
        intro w9 hS9
        obtain ⟨-, k0, k1, k2, k3⟩ := hS9
        go_simp
        try with_reducible rfl
      try simp only [Act.put, List.setIfInBounds_toArray, List.set_cons_zero, List.set_cons_succ]
      refine wpAnyH_take (i := 2) (oi := { dst := some 34, op := _, type := _, pos := _, after := _, guard := _ }) (v := ?v3) rfl (by kernel_rfl) (by kernel_rfl) (by kernel_rfl) (fun _ _ _ h => h) (Or.inl ⟨by rfl, ?hy3⟩) (by assumption) ?rest3
      case hy3 =>
        intro w9 hS9
        obtain ⟨-, k0, k1, k2, k3⟩ := hS9
        go_simp
        try with_reducible rfl
      try simp only [Act.put, List.setIfInBounds_toArray, List.set_cons_zero, List.set_cons_succ]
      refine wpAnyH_take (i := 3) (oi := { dst := some 35, op := _, type := _, pos := _, after := _, guard := _ }) (v := ?v4) rfl (by kernel_rfl) (by kernel_rfl) (by kernel_rfl) (fun _ _ _ h => h) (Or.inl ⟨by rfl, ?hy4⟩) (by assumption) ?rest4
      case hy4 =>
        intro w9 hS9
        obtain ⟨-, k0, k1, k2, k3⟩ := hS9
        go_simp
        try with_reducible rfl
      try simp only [Act.put, List.setIfInBounds_toArray, List.set_cons_zero, List.set_cons_succ]
      refine wpAnyH_take (i := 4) (oi := { dst := some 36, op := _, type := _, pos := _, after := _, guard := _ }) (v := ?v5) rfl (by kernel_rfl) (by kernel_rfl) (by kernel_rfl) (fun _ _ _ h => h) (Or.inl ⟨by rfl, ?hy5⟩) (by assumption) ?rest5
      case hy5 =>
        intro w9 hS9
        obtain ⟨-, k0, k1, k2, k3⟩ := hS9
        go_simp
        try with_reducible rfl
      try simp only [Act.put, List.setIfInBounds_toArray, List.set_cons_zero, List.set_cons_succ]
      refine wpAnyH_take (i := 6) (oi := { dst := some 38, op := _, type := _, pos := _, after := _, guard := _ }) (v := ?v6) rfl (by kernel_rfl) (by kernel_rfl) (by kernel_rfl) (fun _ _ _ h => h) (Or.inl ⟨by rfl, ?hy6⟩) (by assumption) ?rest6
      case hy6 =>
        intro w9 hS9
        obtain ⟨-, k0, k1, k2, k3⟩ := hS9
        go_simp
        try with_reducible rfl
      try simp only [Act.put, List.setIfInBounds_toArray, List.set_cons_zero, List.set_cons_succ]
      refine wpAnyH_ready (rs := [5]) (by kernel_rfl) (by simp) ?_
      refine AllReadyH.cons (o := { dst := some 37, op := _, type := _, pos := _, after := _, guard := _ }) rfl (fun K hK => ?_) AllReadyH.nil
      go_simp
      refine (HFI.out _).mono ?_
      rintro e w2 ⟨rfl, b2⟩
      have F2 : Hid (FitS w ao bo dl ca n cb S L w2) := hHeld.below b2
      have O2 : Hid (Own .u8 5 w2 (w.heap.size + 2) u9 (arN (syD dur ps) f k)) := O1.out.below b2
      clear b2
      refine hK.out _ _ (F2.out) (fun hx9 => ?_)
      clear hK K hHeld hx9
      have hHeld := F2.out
      try simp only [Act.put, List.setIfInBounds_toArray, List.set_cons_zero, List.set_cons_succ]
      refine wpAnyH_take (i := 7) (oi := { dst := some 39, op := _, type := _, pos := _, after := _, guard := _ }) (v := (.int .i64 ((f : Int) + (k : Int)))) rfl (by kernel_rfl) (by kernel_rfl) (by kernel_rfl) (fun _ _ _ h => h) (Or.inl ⟨by rfl, ?hy7⟩) (by assumption) ?rest7
      case hy7 =>
        intro w9 hS9
        go_simp
        try (rw [IntKind.wrap_i64]; omega)
      try simp only [Act.put, List.setIfInBounds_toArray, List.set_cons_zero, List.set_cons_succ]
      refine wpAnyH_ready (rs := [8]) (by kernel_rfl) (by simp) ?_
      refine AllReadyH.cons (o := { dst := some 40, op := _, type := _, pos := _, after := _, guard := _ }) rfl (fun K hK => ?_) AllReadyH.nil
      go_simp
      refine (HRD.out _ k hlt F2.out).mono ?_
      rintro e w3 ⟨g3, c3, rfl, N3, b3⟩
      have F3 : Hid (FitS w ao bo dl ca n cb S L w3) := F2.out.below b3
      have O3 : Hid (w3.ownsRow (w.heap.size + 2) 5 1 u9 (k * 64) ((arN (syD dur ps) f k).map (Value.int .u8))) := by have := O2.out.below b3; unfold Own at this; rw [HLN.out k (by omega)] at this; exact this
      have s3 : w.heap.size + 2 ≤ w3.heap.size := F3.out.lt
      clear b3 O2 F2
      refine hK.out _ _ (F3.out) (fun hx9 => ?_)
      clear hK K hHeld hx9
      have hHeld := F3.out
      try simp only [Act.put, List.setIfInBounds_toArray, List.set_cons_zero, List.set_cons_succ]
      refine wpAnyH_ready (rs := [9]) (by kernel_rfl) (by simp) ?_
      refine AllReadyH.cons (o := { dst := some 41, op := _, type := _, pos := _, after := _, guard := _ }) rfl (fun K hK => ?_) AllReadyH.nil
      refine step_own rfl (.tmp 32) (.tmp 40) 29 rfl (w.heap.size + 2) 5 i0 (.int .u8 0) 1 1 Try.underlying29 hi hz0 hz1 hz2 rfl (by decide) u9 (k * 64) _ rfl O3.out ⟨g3, 0, none⟩ 64 c3 ((blk (syD dur ps) (f + k)).map (Value.int .u8)) rfl (by rw [List.length_map, HBL.out k hlt, Nat.mul_one]) N3.out (by intro u hu; simp only [List.mem_map] at hu; obtain ⟨_, _, rfl⟩ := hu; rfl) (by unfold maxLen; omega) (by omega) s3 ?_
      intro u4 w4 ho4 hg4
      have b4 : Below (w.heap.size + 2) w3 w4 := (Below.refl _ _).grown hg4 s3 (fun q hq => (World.ownsRow.lt O3.out q hq).1)
      have F4 : Hid (FitS w ao bo dl ca n cb S L w4) := F3.out.belowB b4
      have O4 : Hid (Own .u8 5 w4 (w.heap.size + 2) u4 (arN (syD dur ps) f (k + 1))) := by
        refine own_of (q := k * 64 + 64) (ys := arN (syD dur ps) f k ++ blk (syD dur ps) (f + k)) (by rw [List.length_append, HLN.out k (by omega), HBL.out k hlt]) (arN_succ _ _ _) ?_
        rw [List.map_append]; exact ho4
      clear ho4 hg4 b4 O3 N3 F3
      refine hK.out _ _ (F4.out) (fun hx9 => ?_)
      clear hK K hHeld hx9
      have hHeld := F4.out
      try simp only [Act.put, List.setIfInBounds_toArray, List.set_cons_zero, List.set_cons_succ]
      refine wpAnyH_take (i := 10) (oi := { dst := some 9, op := _, type := _, pos := _, after := _, guard := _ }) (v := ?v8) rfl (by kernel_rfl) (by kernel_rfl) (by kernel_rfl) (fun _ _ _ h => h) (Or.inl ⟨by rfl, ?hy8⟩) (by assumption) ?rest8
      case hy8 =>
        intro w9 hS9
        obtain ⟨-, k0, k1, k2, k3⟩ := hS9
        go_simp
        try with_reducible rfl
      try simp only [Act.put, List.setIfInBounds_toArray, List.set_cons_zero, List.set_cons_succ]
      refine wpAnyH_done (by kernel_rfl) ?_ _
      clear hHeld
      go_wp2
      exact ⟨⟨k + 1, by omega, by go_num, O4, F4⟩, by simp [intOf]; omega⟩
    · have hkl : k = l := by omega
      subst hkl
      go_wp2
      go_ret
      exact ⟨_, rfl, O0.out.mono (by omega), F1.out.1.out.1⟩

set_option maxHeartbeats 2000000 in
set_option maxRecDepth 100000 in
theorem specArea_no (w : World) (ao bo : Option Addr) (dl ca n cb : Nat) (dur : List Int) (ps : List (Int × List Int)) (S L bank : Int) (log : Bool) (hd : Rd .u8 w (.slice ao dl ca) dur) (hdl : dur.length = dl) (hp : RdW w (.slice bo n cb) ps) (hl : ps.length = n) (hd1 : dl ≤ 1048576) (hn : n ≤ 1048576) (hpd : ∀ i, (pD ps i).length ≤ 1048576)
    (hok : arOk S L dl ps bank = false) :
    Calls Try.prog 32 #[.agg #[.slice ao dl ca, .slice bo n cb], .agg #[.int .i64 S, .int .i64 L], .int .i64 bank, .bool log] w fun e w' => ∃ v', e = .returned v' ∧ Own .u8 5 w' w.heap.size v' [] ∧ Below w.heap.size w w' := by
  have HD : Hid (Rd .u8 w (.slice ao dl ca) dur) := hd
  have HDL : Hid (dur.length = dl) := hdl
  have HP : Hid (RdW w (.slice bo n cb) ps) := hp
  have HL : Hid (ps.length = n) := hl
  have HPD : Hid (∀ i, (pD ps i).length ≤ 1048576) := hpd
  have HOK : Hid (arOk S L dl ps bank = false) := hok
  clear hd hdl hp hl hpd hok
  go_enter Try.func32, Try.ntmps32
  go_wp2_with fail
  have F0 : Hid (FitS w ao bo dl ca n cb S L ((w.alloc (.cells #[.slice ao dl ca, .slice bo n cb] 32)).alloc (.cells #[.int .i64 S, .int .i64 L] 59))) := FitS.new _ _ _ _ _ _ _ _ _ _ _
  have O0 : Hid (Own .u8 5 (((w.alloc (.cells #[.slice ao dl ca, .slice bo n cb] 32)).alloc (.cells #[.int .i64 S, .int .i64 L] 59)).alloc (.cells #[] 5)) (w.heap.size + 2) (.slice (some ⟨w.heap.size + 1 + 1, 0, none⟩) 0 0) []) := by
    have := World.ownsRow_lit (base := w.heap.size + 2) (e := 5) (size := 1) ((w.alloc (.cells #[.slice ao dl ca, .slice bo n cb] 32)).alloc (.cells #[.int .i64 S, .int .i64 L] 59)) #[] 0 (by simp) (Nat.zero_le _) rfl
    rw [show ((w.alloc (.cells #[.slice ao dl ca, .slice bo n cb] 32)).alloc (.cells #[.int .i64 S, .int .i64 L] 59)).heap.size = w.heap.size + 1 + 1 by simp] at this
    exact this
  have F1 : Hid (FitS w ao bo dl ca n cb S L (((w.alloc (.cells #[.slice ao dl ca, .slice bo n cb] 32)).alloc (.cells #[.int .i64 S, .int .i64 L] 59)).alloc (.cells #[] 5))) := F0.out.below ((Below.refl _ _).alloc (Nat.le_refl _) _)
  clear F0
  generalize ((w.alloc (.cells #[.slice ao dl ca, .slice bo n cb] 32)).alloc (.cells #[.int .i64 S, .int .i64 L] 59)).alloc (.cells #[] 5) = w1 at *
  refine (l5Fits_any _ ao bo dl ca n cb ps S L (HP.out.below F1.out.1.out.1) HL.out hd1 hn HPD.out).mono ?_
  rintro e w2 ⟨rfl, b2⟩
  have F2 : Hid (FitS w ao bo dl ca n cb S L w2) := F1.out.below b2
  have O2 : Hid (Own .u8 5 w2 w.heap.size (.slice (some ⟨w.heap.size + 1 + 1, 0, none⟩) 0 0) []) := (O0.out.below b2).mono (by omega)
  clear F1 O0 b2
  cases hF : fitD S L dl ps with
  | false =>
    clear hF
    go_wp2
    go_ret
    exact ⟨_, rfl, O2.out, F2.out.1.out.1⟩
  | true =>
    have hnb : ¬ (0 ≤ bank ∧ bank ≤ 1) := fun h => by
      have h2 := (arOk_iff S L dl ps bank).2 ⟨hF, h⟩
      rw [HOK.out] at h2; cases h2
    clear hF
    by_cases t0 : bank < 0
    · have t0d : decide (bank < 0) = true := by simpa using t0
      clear hnb
      go_wp2
      go_ret
      exact ⟨_, rfl, O2.out, F2.out.1.out.1⟩
    · have t0d : decide (bank < 0) = false := by simpa using t0
      have t1 : 1 < bank := by omega
      have t1d : decide (1 < bank) = true := by simpa using t1
      clear hnb
      go_wp2
      go_ret
      exact ⟨_, rfl, O2.out, F2.out.1.out.1⟩

theorem specArea_any (w : World) (v1 v2 : Value) (dur : List Int) (ps : List (Int × List Int)) (S L bank : Int) (log : Bool) (hd : Rd .u8 w v1 dur) (hp : RdW w v2 ps) (hdl : dur.length ≤ 1048576) (hn : ps.length ≤ 1048576) (hpd : ∀ i, (pD ps i).length ≤ 1048576) :
    Calls Try.prog 32 #[.agg #[v1, v2], .agg #[.int .i64 S, .int .i64 L], .int .i64 bank, .bool log] w fun e w' => ∃ v', e = .returned v' ∧ Own .u8 5 w' w.heap.size v' (arA dur ps S L bank log) ∧ Below w.heap.size w w' := by
  obtain ⟨va, ca, rfl, -⟩ := hd.len
  obtain ⟨vb, cb, rfl, -⟩ := id hp
  unfold arA
  cases h : arOk S L dur.length ps bank with
  | true =>
    simp only [if_true]
    exact specArea_yes w va vb dur.length ca ps.length cb dur ps S L bank log hd rfl hp rfl hdl hn hpd h
  | false =>
    simp only [Bool.false_eq_true, if_false]
    exact specArea_no w va vb dur.length ca ps.length cb dur ps S L bank log hd rfl hp rfl hdl hn hpd h

end Go.Proofs.Ytoljmlhnbmeloaa
