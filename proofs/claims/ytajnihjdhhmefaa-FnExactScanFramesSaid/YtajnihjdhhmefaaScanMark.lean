import Derived.Test.YtajnihjdhhmefaaScanNote
namespace Go.Proofs.Ytajnihjdhhmefaa
open Go.RowKit

set_option maxHeartbeats 1000000 in
set_option maxRecDepth 100000 in
theorem markPayloadS_row (w : World) (lo hi g n cap : Nat) (rs : List (List Int)) (us : List Value) (k0 : Int) (hp : rs.length = n) (ho : OwnP w lo (.slice (some ⟨g, 0, none⟩) n cap) rs us) (hl : LtP hi (.slice (some ⟨g, 0, none⟩) n cap) rs us)
    (hk0 : 0 ≤ k0) (hk1 : k0 ≤ 4194304) (hn : n ≤ 1048576) (ht : totP rs ≤ 1048576) :
    Calls Try.prog 43 #[.slice (some ⟨g, 0, none⟩) n cap, .int .i64 k0] w fun e w' => e = .returned (.int .i64 (kp rs k0 n)) ∧ OwnP w' lo (.slice (some ⟨g, 0, none⟩) n cap) (mkR rs k0) us ∧ Within lo hi w w' := by
  have hlo : lo ≤ g := (World.ownsRow.lt ho.1 g rfl).1
  have HP : Hid (rs.length = n) := hp
  have HL : Hid (LtP hi (.slice (some ⟨g, 0, none⟩) n cap) rs us) := hl
  have HO : Hid (OwnP w lo (.slice (some ⟨g, 0, none⟩) n cap) rs us) := ho
  clear hl ho hp
  go_enter Try.func43, Try.ntmps43
  go_wp2
  go_loopw [1, 5] (fun kk i wr => ∃ k : Nat, k ≤ n ∧ i = .int .i64 k ∧ kk = .int .i64 (kp rs k0 k) ∧ Hid (wr.ownsRow lo 32 1 (.slice (some ⟨g, 0, none⟩) n cap) n us) ∧ Hid (∀ i, i < n → Own .u8 5 wr lo (uV us i) (mR rs k0 k i)) ∧ Hid (Within lo hi w wr)) (fun _ i _ => n - (intOf i).toNat)
  case atStart => exact ⟨0, Nat.zero_le _, rfl, (by rw [kp_zero]), (by have := HO.out.1; rw [HP.out] at this; exact this), (fun i hi => HO.out.2.1 i (by rw [HP.out]; exact hi)), Within.refl _ _ _⟩
  case round =>
    obtain ⟨k, hk, rfl, rfl, HR, HI, HW⟩ := hrel
    by_cases hlt : k < n
    · have hltI : (k : Int) < (n : Int) := by omega
      have d1 : wr.cell? ⟨g, k, none⟩ = some (uV us k) := (World.ownsRow.cellAt HR.out k (by omega)).trans (uV_get (by rw [HO.out.len, HP.out]; exact hlt))
      have hb1 := totP_le rs k
      have hkk : 0 ≤ kp rs k0 k ∧ kp rs k0 k ≤ 6291457 := by unfold kp; omega
      have HKS : Hid (kp rs k0 (k + 1) = kp rs k0 k + (pR rs k).length) := kp_succ rs k0 k (by rw [HP.out]; exact hlt)
      have hlen : (pR rs k).length ≤ 1048576 := by
        have h1 := totP_succ rs k (by rw [HP.out]; exact hlt)
        have h2 := totP_le rs (k + 1)
        omega
      have OK : Hid (Own .u8 5 wr lo (uV us k) (pR rs k)) := by have := HI.out k hlt; unfold mR at this; rw [if_neg (by omega)] at this; exact this
      obtain ⟨da, dc, hdk⟩ := Own.slice OK.out
      have HDK : Hid (uV us k = .slice da (pR rs k).length dc) := hdk
      have OK2 : Hid (Own .u8 5 wr lo (.slice da (pR rs k).length dc) (pR rs k)) := by have := OK.out; rw [hdk] at this; exact this
      rw [hdk] at d1
      clear hb1 hdk
      generalize hkx : kp rs k0 k = kx at *
      have HKX : Hid (kp rs k0 k = kx) := hkx
      clear hkx
      go_wp2_with fail
      refine (markByteS_any _ lo _ (pR rs k) kx OK2.out (by omega) (by omega) (by omega)).mono ?_
      rintro e w2 ⟨rfl, o2, g2⟩
      have S : Hid (w2.ownsRow lo 32 1 (.slice (some ⟨g, 0, none⟩) n cap) n us ∧ (∀ i, i < n → Own .u8 5 w2 lo (uV us i) (mR rs k0 (k + 1) i)) ∧ Within lo hi w w2) := by
        have nek := HO.out.2.2.2 k (by rw [HP.out]; exact hlt)
        unfold Ne2 at nek
        rw [HDK.out] at nek
        refine ⟨World.ownsRow.kept HR.out g2 ?_, fun i hi => ?_, HW.out.trans (Within.of_grown g2 (fun q hq => ⟨(o2.lt q hq).1, HL.out.2 k (by rw [HP.out]; exact hlt) q (by rw [HDK.out]; exact hq)⟩))⟩
        · right
          rcases nek with h | h
          · rw [h]; simp [Value.ownBlock]
          · exact fun e => h e.symm
        · by_cases e : i = k
          · subst e
            unfold mR
            rw [if_pos (by omega), HDK.out, HKX.out]
            exact o2
          · have h2 : mR rs k0 (k + 1) i = mR rs k0 k i := by unfold mR; by_cases h : i < k; (rw [if_pos h, if_pos (by omega)]); (rw [if_neg h, if_neg (by omega)])
            rw [h2]
            have ne := HO.out.2.2.1 i k (by rw [HP.out]; exact hi) (by rw [HP.out]; exact hlt) e
            unfold Ne2 at ne
            rw [HDK.out] at ne
            exact (HI.out i hi).other g2 ne
      clear HI HR HW o2 g2 OK OK2 d1
      go_wp2
      go_roundw
      case rel => exact ⟨k + 1, by omega, by go_num, (by rw [HKS.out]), S.out.1, S.out.2.1, S.out.2.2⟩
      case measure => simp [intOf]; omega
    · have hkn : k = n := by omega
      subst hkn
      have FIN : Hid (OwnP wr lo (.slice (some ⟨g, 0, none⟩) k cap) (mkR rs k0) us ∧ Within lo hi w wr) := by
        refine ⟨⟨?_, fun i hi => ?_, fun i j hi hj => HO.out.2.2.1 i j (by rw [mkR_len] at hi; exact hi) (by rw [mkR_len] at hj; exact hj), fun i hi => HO.out.2.2.2 i (by rw [mkR_len] at hi; exact hi)⟩, HW.out⟩
        · rw [mkR_len, HP.out]; exact HR.out
        · rw [mkR_len, HP.out] at hi
          have := HI.out i hi
          unfold mR at this
          rw [if_pos hi] at this
          rw [mkR_get rs k0 i (by rw [HP.out]; exact hi)]
          exact this
      clear HR HW HI
      go_wp2
      go_ret
      exact ⟨rfl, FIN.out.1, FIN.out.2⟩

set_option maxHeartbeats 400000 in
theorem markPayloadS_nil (w : World) (ao : Option Addr) (ca : Nat) (k : Int) :
    Calls Try.prog 43 #[.slice ao 0 ca, .int .i64 k] w fun e w' => e = .returned (.int .i64 k) ∧ w' = w := by
  go_enter Try.func43, Try.ntmps43
  go_wp2
  go_rounds 1
  go_ret
  exact ⟨rfl, rfl⟩

set_option maxHeartbeats 400000 in
theorem heldPayloadS_nil (w : World) (ao : Option Addr) (ca : Nat) (k : Int) :
    Calls Try.prog 44 #[.slice ao 0 ca, .int .i64 k] w fun e w' => e = .returned (.int .i64 k) ∧ w' = w := by
  go_enter Try.func44, Try.ntmps44
  go_wp2
  go_rounds 1
  go_ret
  exact ⟨rfl, rfl⟩

theorem markPayloadS_any (w : World) (lo hi : Nat) (v : Value) (rs : List (List Int)) (us : List Value) (k0 : Int) (ho : OwnP w lo v rs us) (hl : LtP hi v rs us) (hk0 : 0 ≤ k0) (hk1 : k0 ≤ 4194304) (hn : rs.length ≤ 1048576) (ht : totP rs ≤ 1048576) :
    Calls Try.prog 43 #[v, .int .i64 k0] w fun e w' => e = .returned (.int .i64 (kp rs k0 rs.length)) ∧ OwnP w' lo v (mkR rs k0) us ∧ Within lo hi w w' := by
  rcases ho.1.2 with ⟨rfl, h0⟩ | ⟨g, cap, cur, rfl, _⟩
  · have : rs = [] := List.eq_nil_of_length_eq_zero h0
    subst this
    refine (markPayloadS_nil w none 0 k0).mono ?_
    rintro e w' ⟨rfl, rfl⟩
    exact ⟨ret_int (by unfold kp; simp [totP]), ho, Within.refl _ _ _⟩
  · exact markPayloadS_row w lo hi g rs.length cap rs us k0 rfl ho hl hk0 hk1 hn ht

set_option maxHeartbeats 1000000 in
set_option maxRecDepth 100000 in
theorem heldPayloadS_row (w : World) (b o n cap : Nat) (rs : List (List Int)) (k0 : Int) (hp : rs.length = n)
    (hc : ∀ i, i < n → ∃ da c, w.cell? ⟨b, o + i, none⟩ = some (.slice da (pR (mkR rs k0) i).length c) ∧ Rd .u8 w (.slice da (pR (mkR rs k0) i).length c) (pR (mkR rs k0) i))
    (hk0 : 0 ≤ k0) (hk1 : k0 ≤ 4194304) (hn : n ≤ 1048576) (ht : totP rs ≤ 1048576) :
    Calls Try.prog 44 #[.slice (some ⟨b, o, none⟩) n cap, .int .i64 k0] w fun e w' => e = .returned (.int .i64 (kp rs k0 n)) ∧ w' = w := by
  have HC : Hid (∀ i, i < n → ∃ da c, w.cell? ⟨b, o + i, none⟩ = some (.slice da (pR rs i).length c) ∧ Rd .u8 w (.slice da (pR rs i).length c) (marks (kp rs k0 i) (pR rs i).length)) := by
    intro i hi
    have := hc i hi
    rw [mkR_get rs k0 i (by omega), marks_length] at this
    exact this
  have HP : Hid (rs.length = n) := hp
  clear hc hp
  go_enter Try.func44, Try.ntmps44
  go_wp2
  go_loop [1, 5] (fun kk i => ∃ k : Nat, k ≤ n ∧ i = .int .i64 k ∧ kk = .int .i64 (kp rs k0 k)) (fun _ i => n - (intOf i).toNat)
  case atStart => exact ⟨0, Nat.zero_le _, rfl, by rw [kp_zero]⟩
  case round =>
    obtain ⟨k, hk, rfl, rfl⟩ := hrel
    by_cases hlt : k < n
    · have hltI : (k : Int) < (n : Int) := by omega
      obtain ⟨da, dc, c2, r⟩ := HC.out k hlt
      have hb1 := totP_le rs k
      have hkk : 0 ≤ kp rs k0 k ∧ kp rs k0 k ≤ 6291457 := by unfold kp; omega
      have HKS : Hid (kp rs k0 (k + 1) = kp rs k0 k + (pR rs k).length) := kp_succ rs k0 k (by rw [HP.out]; exact hlt)
      have hlen : (pR rs k).length ≤ 1048576 := by
        have h1 := totP_succ rs k (by rw [HP.out]; exact hlt)
        have h2 := totP_le rs (k + 1)
        omega
      have RR : Hid (Rd .u8 w (.slice da (pR rs k).length dc) (marks (kp rs k0 k) (pR rs k).length)) := r
      clear r hb1
      generalize kp rs k0 k = kx at *
      go_wp2_with fail
      refine (heldByteS_any _ _ (pR rs k).length kx RR.out (by omega) (by omega) (by omega)).mono ?_
      rintro e w2 ⟨rfl, hw⟩
      subst hw
      have t2 : ¬ kx + ((pR rs k).length : Int) < 0 := by omega
      go_wp2
      go_round
      case rel => exact ⟨k + 1, by omega, by go_num, (by rw [HKS.out])⟩
      case measure => simp [intOf]; omega
    · have hkn : k = n := by omega
      subst hkn
      go_wp2
      go_ret
      exact ⟨rfl, rfl⟩

theorem heldPayloadS_any (w : World) (v : Value) (rs : List (List Int)) (k0 : Int) (h : RdP w v (mkR rs k0)) (hk0 : 0 ≤ k0) (hk1 : k0 ≤ 4194304) (hn : rs.length ≤ 1048576) (ht : totP rs ≤ 1048576) :
    Calls Try.prog 44 #[v, .int .i64 k0] w fun e w' => e = .returned (.int .i64 (kp rs k0 rs.length)) ∧ w' = w := by
  obtain ⟨ao, cap, rfl, k1, k2, k3⟩ := h
  rw [mkR_len] at *
  rcases k3 with h0 | ⟨b, o, rfl, hb, hc⟩
  · have h1 : rs.length = 0 := by have := congrArg List.length h0; rw [mkR_len] at this; simpa using this
    rw [h1]
    refine (heldPayloadS_nil w ao cap k0).mono ?_
    rintro e w' ⟨rfl, rfl⟩
    exact ⟨ret_int (by rw [kp_zero]), rfl⟩
  · exact heldPayloadS_row w b o rs.length cap rs k0 rfl hc hk0 hk1 hn ht

set_option maxHeartbeats 400000 in
theorem eqScan_any (w : World) (va vb : Value) (x y : Int) (ps qs : List (List Int)) (ha : RdP w va ps) (hb : RdP w vb qs) (hn : ps.length ≤ 1048576) :
    Calls Try.prog 19 #[.agg #[va, .int .i64 x], .agg #[vb, .int .i64 y]] w fun e w' => e = .returned (.bool (decide (ps = qs ∧ x = y))) ∧ Below w.heap.size w w' := by
  have B0 : Hid (Below w.heap.size w ((w.alloc (.cells #[va, .int .i64 x] 29)).alloc (.cells #[vb, .int .i64 y] 29))) := ((Below.refl _ _).alloc (Nat.le_refl _) _).alloc (by simp) _
  have RA : Hid (RdP ((w.alloc (.cells #[va, .int .i64 x] 29)).alloc (.cells #[vb, .int .i64 y] 29)) va ps) := ha.below B0.out
  have RB : Hid (RdP ((w.alloc (.cells #[va, .int .i64 x] 29)).alloc (.cells #[vb, .int .i64 y] 29)) vb qs) := hb.below B0.out
  have X0 : Hid (Box2 ((w.alloc (.cells #[va, .int .i64 x] 29)).alloc (.cells #[vb, .int .i64 y] 29)) w.heap.size va (.int .i64 x)) := (Box2.new w va (.int .i64 x) 29).below ((Below.refl _ _).alloc (Nat.le_refl _) _)
  have Y0 : Hid (Box2 ((w.alloc (.cells #[va, .int .i64 x] 29)).alloc (.cells #[vb, .int .i64 y] 29)) (w.heap.size + 1) vb (.int .i64 y)) := by
    have := Box2.new (w.alloc (.cells #[va, .int .i64 x] 29)) vb (.int .i64 y) 29
    rwa [World.size_alloc] at this
  clear ha hb
  go_enter Try.func19, Try.ntmps19
  go_wp2_with fail
  generalize (w.alloc (.cells #[va, .int .i64 x] 29)).alloc (.cells #[vb, .int .i64 y] 29) = w0 at *
  refine (eqPayloadS_any _ _ _ ps qs RA.out RB.out hn).mono ?_
  rintro e w1 ⟨rfl, b1⟩
  have BE : Hid (Below w.heap.size w w1) := B0.out.trans (b1.mono B0.out.size)
  obtain ⟨z1, c0, c1⟩ := X0.out.below b1
  obtain ⟨z2, e0, e1⟩ := Y0.out.below b1
  clear b1 RA RB X0 Y0
  by_cases h : ps = qs
  · have hd : decide (ps = qs) = true := by simp [h]
    have HE : Hid (ps = qs) := h
    rw [hd]
    clear h
    by_cases h2 : x = y
    · have hd3 : decide (ps = qs ∧ x = y) = true := by rw [decide_eq_true_eq]; exact ⟨HE.out, h2⟩
      have hx : (x != y) = false := by simp [h2]
      clear h2
      go_wp2
      go_ret
      exact ⟨ret_bool hd3.symm, BE.out⟩
    · have hd3 : decide (ps = qs ∧ x = y) = false := by simp [h2]
      have hx : (x != y) = true := by simp [h2]
      clear h2
      go_wp2
      go_ret
      exact ⟨ret_bool hd3.symm, BE.out⟩
  · have hd : decide (ps = qs) = false := by simp [h]
    have hd3 : decide (ps = qs ∧ x = y) = false := by simp [h]
    rw [hd]
    clear h
    go_wp2
    go_ret
    exact ⟨ret_bool hd3.symm, BE.out⟩

set_option maxHeartbeats 400000 in
theorem markScan_any (w : World) (lo hi : Nat) (v : Value) (x : Int) (rs : List (List Int)) (us : List Value) (k : Int) (ho : OwnP w lo v rs us) (hl : LtP hi v rs us) (hk0 : 0 ≤ k) (hk1 : k ≤ 2097152) (hn : rs.length ≤ 1048576) (ht : totP rs ≤ 1048576) :
    Calls Try.prog 20 #[.agg #[v, .int .i64 x], .int .i64 k] w fun e w' => e = .returned (.int .i64 (kp rs k rs.length)) ∧ OwnP w' lo v (mkR rs k) us ∧ Within lo hi w w' := by
  have BA : Hid (Below w.heap.size w (w.alloc (.cells #[v, .int .i64 x] 29))) := (Below.refl _ _).alloc (Nat.le_refl _) _
  have HO : Hid (OwnP (w.alloc (.cells #[v, .int .i64 x] 29)) lo v rs us) := ho.below BA.out
  clear ho
  go_enter Try.func20, Try.ntmps20
  go_wp2_with fail
  refine (markPayloadS_any _ lo hi _ rs us k HO.out hl hk0 (by omega) hn ht).mono ?_
  rintro e w2 ⟨rfl, o2, g2⟩
  have FIN : Hid (OwnP w2 lo v (mkR rs k) us ∧ Within lo hi w w2) := ⟨o2, (Within.of_below BA.out).trans g2⟩
  clear o2 g2
  go_wp2
  go_ret
  exact ⟨rfl, FIN.out.1, FIN.out.2⟩

set_option maxHeartbeats 400000 in
theorem heldScan_any (w : World) (v : Value) (x : Int) (rs : List (List Int)) (k : Int) (h : RdP w v (mkR rs k)) (hk0 : 0 ≤ k) (hk1 : k ≤ 2097152) (hn : rs.length ≤ 1048576) (ht : totP rs ≤ 1048576) :
    Calls Try.prog 21 #[.agg #[v, .int .i64 x], .int .i64 k] w fun e w' => e = .returned (.int .i64 (kp rs k rs.length)) ∧ Below w.heap.size w w' := by
  have BA : Hid (Below w.heap.size w (w.alloc (.cells #[v, .int .i64 x] 29))) := (Below.refl _ _).alloc (Nat.le_refl _) _
  have HR : Hid (RdP (w.alloc (.cells #[v, .int .i64 x] 29)) v (mkR rs k)) := h.below BA.out
  clear h
  go_enter Try.func21, Try.ntmps21
  go_wp2_with fail
  refine (heldPayloadS_any _ _ rs k HR.out hk0 (by omega) hn ht).mono ?_
  rintro e w2 ⟨rfl, hw⟩
  subst hw
  have h1 : ¬ kp rs k rs.length < 0 := by unfold kp; omega
  go_wp2
  go_ret
  exact ⟨rfl, BA.out⟩

end Go.Proofs.Ytajnihjdhhmefaa
