import Derived.Test.YtgjenbgclpmjmaaDoorVIndex
namespace Go.Proofs.YtgjenbgclpmjmaaDoor
open Go.RowKit

theorem pre_eq (s : ByteArray) (h : 1 ≤ s.size) : ((s.extract 0 1).toList == [47]) = decide (bN s 0 = 47) := by
  have h0 : 0 < s.data.toList.length := h
  rw [ByteArray.toList_eq, ByteArray.data_extract, Array.toList_extract, List.extract_eq_take_drop]
  unfold bN
  cases e : s.data.toList with
  | nil => rw [e] at h0; simp at h0
  | cons x l =>
    simp only [List.drop_zero, Nat.sub_zero, List.take_succ_cons, List.take_zero, List.getD_cons_zero]
    by_cases hx : x = 47
    · subst hx; rfl
    · have h1 : ¬ x.toNat = 47 := fun hh => hx (UInt8.toNat_inj.1 hh)
      rw [decide_eq_false h1, beq_eq_false_iff_ne]
      simpa using hx

set_option maxHeartbeats 1000000 in
set_option maxRecDepth 100000 in
theorem preLite_any (w : World) (s : ByteArray) (hs : 1 ≤ s.size) :
    Calls Tryd.prog 99 #[.string s, .string ⟨#[47]⟩] w fun e w' => e = .returned (.bool (decide (bN s 0 = 47))) ∧ w' = w := by
  have HE : Hid (((s.extract 0 1).toList == [47]) = decide (bN s 0 = 47)) := pre_eq s hs
  have h1 : (1 : Int) ≤ (s.size : Int) := by omega
  go_enter Tryd.func99, Tryd.ntmps99
  go_wp2
  go_ret
  exact ⟨by rw [← HE.out]; rfl, rfl⟩

set_option maxHeartbeats 1000000 in
set_option maxRecDepth 100000 in
theorem pre_any (w : World) (s : ByteArray) (hs : 1 ≤ s.size) :
    Calls Tryd.prog 54 #[.string s, .string ⟨#[47]⟩] w fun e w' => e = .returned (.bool (decide (bN s 0 = 47))) ∧ w' = w := by
  go_enter Tryd.func54, Tryd.ntmps54
  go_wp2_with fail
  refine (preLite_any w s hs).mono ?_
  rintro e w2 ⟨rfl, rfl⟩
  go_wp2
  go_ret
  exact ⟨rfl, rfl⟩

set_option maxHeartbeats 1000000 in
set_option maxRecDepth 100000 in
theorem pre_none (w : World) (s : ByteArray) (hs : s.size = 0) :
    Calls Tryd.prog 54 #[.string s, .string ⟨#[47]⟩] w fun e w' => e = .returned (.bool false) ∧ w' = w := by
  have h1 : ¬ (1 : Int) ≤ (s.size : Int) := by omega
  clear hs
  go_enter Tryd.func54, Tryd.ntmps54
  go_wp2_with fail
  refine (show Calls Tryd.prog 99 #[.string s, .string ⟨#[47]⟩] w (fun e w' => e = .returned (.bool false) ∧ w' = w) from ?_).mono ?_
  · go_enter Tryd.func99, Tryd.ntmps99
    go_wp2
    go_ret
    exact ⟨rfl, rfl⟩
  rintro e w2 ⟨rfl, rfl⟩
  go_wp2
  go_ret
  exact ⟨rfl, rfl⟩

set_option maxHeartbeats 1000000 in
set_option maxRecDepth 100000 in
theorem validName_any (w : World) (p : ByteArray) :
    Calls Tryd.prog 56 #[.string p] w fun e w' => e = .returned (.bool (okN p)) ∧ ∃ q, w' = w.drewN q := by
  by_cases hp1 : p.size < 1
  · have hpI : (p.size : Int) < 1 := by omega
    have HF : Hid (okN p = false) := by show _ = _; unfold okN; rw [decide_eq_false (by omega)]; rfl
    go_enter Tryd.func56, Tryd.ntmps56
    go_wp2
    go_ret
    exact ⟨ret_b HF.out.symm, 0, rfl⟩
  · have hpI : ¬ (p.size : Int) < 1 := by omega
    by_cases hp2 : 16 < p.size
    · have hpI2 : (16 : Int) < (p.size : Int) := by omega
      have HF : Hid (okN p = false) := by show _ = _; unfold okN; rw [decide_eq_false (show ¬ p.size ≤ 16 by omega)]; simp
      go_enter Tryd.func56, Tryd.ntmps56
      go_wp2
      go_ret
      exact ⟨ret_b HF.out.symm, 0, rfl⟩
    · have hpI2 : ¬ (16 : Int) < (p.size : Int) := by omega
      go_enter Tryd.func56, Tryd.ntmps56
      go_wp2
      go_loopw [16] (fun vj wr => ∃ j : Nat, j ≤ p.size ∧ vj = .int .i64 j ∧ Hid (∀ t, t < j → okB (bN p t) = true) ∧ ∃ q, wr = w.drewN q) (fun j _ => p.size - (intOf j).toNat)
      case atStart => exact ⟨0, Nat.zero_le _, rfl, (fun t ht => by omega), 0, rfl⟩
      case round =>
        obtain ⟨j, hj, rfl, HJ, q, rfl⟩ := hrel
        by_cases hjl : j < p.size
        · have hjI : (j : Int) < (p.size : Int) := by omega
          have hbn := bN_get p j hjl
          have hx8 : p[j].toNat < 256 := p[j].toNat_lt
          obtain ⟨x, hx⟩ : ∃ x, x = p[j].toNat := ⟨_, rfl⟩
          have HX : Hid (x = p[j].toNat) := hx
          have HBN : Hid (bN p j = x) := by show _ = _; rw [hbn, hx]
          clear hx hbn
          by_cases c1 : x < 48
          · have k1 : ¬ (97 : Int) ≤ (p[j].toNat : Int) := by have := HX.out; omega
            have k2 : ¬ (48 : Int) ≤ (p[j].toNat : Int) := by have := HX.out; omega
            have HF : Hid (okN p = false) := okN_no hjl (by rw [HBN.out]; unfold okB; rw [decide_eq_false (show ¬ 97 ≤ x by omega), decide_eq_false (show ¬ 48 ≤ x by omega)]; rfl)
            go_wp2
            go_ret
            exact ⟨ret_b HF.out.symm, _, rfl⟩
          · by_cases c2 : x ≤ 57
            · have k1 : ¬ (97 : Int) ≤ (p[j].toNat : Int) := by have := HX.out; omega
              have k2 : (48 : Int) ≤ (p[j].toNat : Int) := by have := HX.out; omega
              have k3 : (p[j].toNat : Int) ≤ 57 := by have := HX.out; omega
              have HOK : Hid (okB (bN p j) = true) := by show _ = _; rw [HBN.out]; unfold okB; rw [decide_eq_true (show 48 ≤ x by omega), decide_eq_true (show x ≤ 57 by omega)]; simp
              go_wp2
              exact ⟨⟨j + 1, by omega, by go_num, (fun t ht => by by_cases e : t = j; (subst e; exact HOK.out); exact HJ.out t (by omega)), q, rfl⟩, by simp [intOf]; omega⟩
            · by_cases c3 : x < 97
              · have k1 : ¬ (97 : Int) ≤ (p[j].toNat : Int) := by have := HX.out; omega
                have k2 : (48 : Int) ≤ (p[j].toNat : Int) := by have := HX.out; omega
                have k3 : ¬ (p[j].toNat : Int) ≤ 57 := by have := HX.out; omega
                have HF : Hid (okN p = false) := okN_no hjl (by rw [HBN.out]; unfold okB; rw [decide_eq_false (show ¬ 97 ≤ x by omega), decide_eq_false (show ¬ x ≤ 57 by omega)]; simp)
                go_wp2
                go_ret
                exact ⟨ret_b HF.out.symm, _, rfl⟩
              · by_cases c4 : x ≤ 122
                · have k1 : (97 : Int) ≤ (p[j].toNat : Int) := by have := HX.out; omega
                  have k2 : (p[j].toNat : Int) ≤ 122 := by have := HX.out; omega
                  have k3 : (48 : Int) ≤ (p[j].toNat : Int) := by omega
                  have k4 : ¬ (p[j].toNat : Int) ≤ 57 := by omega
                  have HOK : Hid (okB (bN p j) = true) := by show _ = _; rw [HBN.out]; unfold okB; rw [decide_eq_true (show 97 ≤ x by omega), decide_eq_true (show x ≤ 122 by omega)]; simp
                  go_wp2
                  exact ⟨⟨j + 1, by omega, by go_num, (fun t ht => by by_cases e : t = j; (subst e; exact HOK.out); exact HJ.out t (by omega)), q, rfl⟩, by simp [intOf]; omega⟩
                · have k1 : (97 : Int) ≤ (p[j].toNat : Int) := by have := HX.out; omega
                  have k2 : ¬ (p[j].toNat : Int) ≤ 122 := by have := HX.out; omega
                  have k3 : (48 : Int) ≤ (p[j].toNat : Int) := by omega
                  have k4 : ¬ (p[j].toNat : Int) ≤ 57 := by omega
                  have HF : Hid (okN p = false) := okN_no hjl (by rw [HBN.out]; unfold okB; rw [decide_eq_false (show ¬ x ≤ 122 by omega), decide_eq_false (show ¬ x ≤ 57 by omega)]; simp)
                  go_wp2
                  go_ret
                  exact ⟨ret_b HF.out.symm, _, rfl⟩
        · have hjI : ¬ (j : Int) < (p.size : Int) := by omega
          have HOK : Hid (okN p = true) := okN_yes (by omega) (by omega) (fun t ht => HJ.out t (by omega))
          go_wp2
          go_ret
          exact ⟨ret_b HOK.out.symm, _, rfl⟩

end Go.Proofs.YtgjenbgclpmjmaaDoor
