import Derived.Test.YtgjenbgclpmjmaaDoorVImpl
namespace Go.Proofs.YtgjenbgclpmjmaaDoor
open Go.RowKit Go.Shelf

set_option maxHeartbeats 2000000 in
set_option maxRecDepth 100000 in
theorem implPath_any (w : World) (s : ByteArray) :
    Calls Tryd.prog 13 #[.string s] w fun e w' => e = .returned (.bool (okPath s)) ∧ Below w.heap.size w w' := by
  by_cases hr : s.data.toList = [47]
  · have hrt : (s.toList == [47]) = true := by rw [ByteArray.toList_eq, hr]; rfl
    have HP : Hid (okPath s = true) := okPath_root hr
    clear hr
    go_enter Tryd.func13, Tryd.ntmps13
    go_wp2
    refine bodyPost_ret (v := .bool true) ?_ rfl ?_
    · simp [results, Tryd.results13, go_sem]
    · exact ⟨ret_b HP.out.symm, (Below.refl _ _).alloc (Nat.le_refl _) _⟩
  · have hrt : (s.toList == [47]) = false := by rw [ByteArray.toList_eq, beq_eq_false_iff_ne]; exact hr
    have HP : Hid (okPath s = (decide (2 ≤ s.size) && decide (bN s 0 = 47) && decide ((nm s).length ≤ 6) && (nm s).all okL)) := okPath_not hr
    by_cases hl : 102 < s.size
    · have hlI : (102 : Int) < (s.size : Int) := by omega
      have HP2 : Hid (okPath s = false) := okPath_long hl
      clear hr HP
      go_enter Tryd.func13, Tryd.ntmps13
      go_wp2
      refine bodyPost_ret (v := .bool false) ?_ rfl ?_
      · simp [results, Tryd.results13, go_sem]
      · exact ⟨ret_b HP2.out.symm, (Below.refl _ _).alloc (Nat.le_refl _) _⟩
    · have hlI : ¬ (102 : Int) < (s.size : Int) := by omega
      by_cases h0 : s.size = 0
      · have HP2 : Hid (okPath s = false) := by show _ = _; rw [HP.out, decide_eq_false (by omega)]; rfl
        have HZ : Hid (s.size = 0) := h0
        clear hr HP h0
        go_enter Tryd.func13, Tryd.ntmps13
        go_wp2_with fail
        refine (pre_none _ s HZ.out).mono ?_
        rintro e w5 ⟨rfl, rfl⟩
        go_wp2
        refine bodyPost_ret (v := .bool false) ?_ rfl ?_
        · simp [results, Tryd.results13, go_sem]
        · exact ⟨ret_b HP2.out.symm, (Below.refl _ _).alloc (Nat.le_refl _) _⟩
      · by_cases hb : bN s 0 = 47
        · have h2 : 2 ≤ s.size := by
            by_cases h2 : 2 ≤ s.size
            · exact h2
            · exfalso
              apply hr
              have h3 : s.data.toList.length = 1 := by show s.size = 1; omega
              unfold bN at hb
              cases e : s.data.toList with
              | nil => rw [e] at h3; cases h3
              | cons x l =>
                rw [e] at h3 hb
                cases l with
                | nil => simp only [List.getD_cons_zero] at hb; rw [show x = 47 from UInt8.toNat_inj.1 hb]
                | cons y l => simp at h3
          have := implPath_yes w s hrt (by omega) (by omega) hb
          rw [HP.out, decide_eq_true h2, decide_eq_true hb]
          exact this
        · have HP2 : Hid (okPath s = false) := by show _ = _; rw [HP.out, decide_eq_false hb, Bool.and_false]; rfl
          have HBF : Hid (decide (bN s 0 = 47) = false) := decide_eq_false hb
          clear hr HP hb
          go_enter Tryd.func13, Tryd.ntmps13
          go_wp2_with fail
          refine (pre_any _ s (by omega)).mono ?_
          rintro e w5 ⟨rfl, rfl⟩
          rw [HBF.out]
          go_wp2
          refine bodyPost_ret (v := .bool false) ?_ rfl ?_
          · simp [results, Tryd.results13, go_sem]
          · exact ⟨ret_b HP2.out.symm, (Below.refl _ _).alloc (Nat.le_refl _) _⟩

end Go.Proofs.YtgjenbgclpmjmaaDoor
