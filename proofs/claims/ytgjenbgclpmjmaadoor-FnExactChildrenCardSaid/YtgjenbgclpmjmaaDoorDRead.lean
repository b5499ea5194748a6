import Derived.Test.YtgjenbgclpmjmaaDoorDMath
namespace Go.Proofs.YtgjenbgclpmjmaaDoor
open Go.RowKit

set_option maxHeartbeats 400000 in
set_option maxRecDepth 100000 in
theorem take_zero (w : World) (k n c : Nat) (ao : Option Addr) (h0 : w.cell? ⟨k, 0, none⟩ = some (.slice ao n c)) (hz : w.frozen? ⟨k, 0, none⟩ = false) :
    Calls Tryd.prog 109 #[.pointer (some ⟨k, 0, none⟩), .int .i64 0] w fun e w' => e = .returned (.slice ao 0 c) ∧ w' = w.setCell ⟨k, 0, none⟩ (.slice ao n c) := by
  have hI : ¬ (n : Int) < 0 := by omega
  go_enter Tryd.func109, Tryd.ntmps109
  cases ao with
  | none =>
    go_wp2
    go_ret
    exact ⟨rfl, rfl⟩
  | some a =>
    go_wp2
    go_ret
    exact ⟨rfl, rfl⟩

theorem take_gen (w0 w : World) (k m : Nat) (ys : List Int) (h : RS w0 w k ys) (hm : m ≤ ys.length) :
    Calls Tryd.prog 109 #[.pointer (some ⟨k, 0, none⟩), .int .i64 m] w fun e w' => ∃ v1, e = .returned v1 ∧ Rd .u8 w0 v1 (ys.take m) ∧ RS w0 w' k (ys.drop m) ∧ w.grownBy w' (some k) := by
  have h' := h
  obtain ⟨h1, h2, h3, h4, v, h5, h6⟩ := h
  have h6' := h6
  obtain ⟨ao, c, rfl, g1, g2, g3⟩ := h6
  by_cases hm0 : m = 0
  · subst hm0
    refine (take_zero w k ys.length c ao h5 h3).mono ?_
    rintro e w' ⟨rfl, rfl⟩
    refine ⟨_, rfl, ⟨ao, c, by simp, Nat.zero_le _, g2, .inl (List.take_zero)⟩, ?_, grownBy_set _ _ _ _ _ (World.grownBy.refl _ _)⟩
    rw [List.drop_zero]
    exact RS.set h' h6'
  · rcases g3 with rfl | ⟨b, o, rfl, hb, hc⟩
    · simp at hm; omega
    · refine (take_ok w k b o ys.length c m h5 h3 hm (by omega) g1).mono ?_
      rintro e w' ⟨rfl, o', ho', rfl⟩
      have hs := Rd.split h6' m hm (by omega)
      exact ⟨_, rfl, hs.1, RS.set h' (hs.2 o' ho'), grownBy_set _ _ _ _ _ (World.grownBy.refl _ _)⟩

set_option maxHeartbeats 400000 in
set_option maxRecDepth 100000 in
theorem oneByte_any (w0 w : World) (k : Nat) (y : Int) (r : List Int) (h : RS w0 w k (y :: r)) :
    Calls Tryd.prog 110 #[.pointer (some ⟨k, 0, none⟩)] w fun e w' => e = .returned (.int .u8 y) ∧ RS w0 w' k r ∧ w.grownBy w' (some k) := by
  have H : Hid (Calls Tryd.prog 109 #[.pointer (some ⟨k, 0, none⟩), .int .i64 1] w fun e w' => ∃ b o c, e = .returned (.slice (some ⟨b, o, none⟩) 1 c) ∧ w'.cell? ⟨b, o, none⟩ = some (.int .u8 y) ∧ Hid (RS w0 w' k r) ∧ Hid (w.grownBy w' (some k))) := by
    refine (take_any w0 w k 1 (y :: r) h (by simp) (by omega)).mono ?_
    rintro e w' ⟨b, o, c, v', rfl, hb, hc, hr, rfl⟩
    have h0 := hc 0 (by omega)
    refine ⟨b, o, c, rfl, ?_, (by show RS _ _ _ _; simpa using hr), grownBy_set _ _ _ _ _ (World.grownBy.refl _ _)⟩
    rw [hr.2.2.2.1.cell (p := ⟨b, o, none⟩) hb]
    simpa using h0
  clear h
  go_enter Tryd.func110, Tryd.ntmps110
  go_wp2_with fail
  refine H.out.mono ?_
  rintro e w1 ⟨b, o, c, rfl, hc, hr, hg⟩
  go_wp2
  go_ret
  exact ⟨rfl, hr.out, hg.out⟩

set_option maxHeartbeats 400000 in
set_option maxRecDepth 100000 in
theorem oneByte_none (w0 w : World) (k : Nat) (h : RS w0 w k []) :
    Calls Tryd.prog 110 #[.pointer (some ⟨k, 0, none⟩)] w fun e w' => e = .panicked badChain ∧ w' = w := by
  have H : Hid (Calls Tryd.prog 109 #[.pointer (some ⟨k, 0, none⟩), .int .i64 1] w fun e w' => e = .panicked badChain ∧ w' = w) := take_none w0 w k 1 [] h (by simp)
  clear h
  go_enter Tryd.func110, Tryd.ntmps110
  go_wp2_with fail
  refine H.out.mono ?_
  rintro e w1 ⟨rfl, rfl⟩
  exact ⟨rfl, rfl, rfl⟩

def TxPost (w0 w : World) (k : Nat) (ys : List Int) (e : Ending) (w' : World) : Prop :=
  w.grownBy w' (some k) ∧ ((rdT ys = none ∧ e = .panicked badChain) ∨ ∃ s r, rdT ys = some (s, r) ∧ e = .returned (.string s) ∧ RS w0 w' k r)

set_option maxHeartbeats 400000 in
set_option maxRecDepth 100000 in
theorem text_any (w0 w : World) (k : Nat) (ys : List Int) (h : RS w0 w k ys) (hby : Byt ys) :
    Calls Tryd.prog 111 #[.pointer (some ⟨k, 0, none⟩)] w fun e w' => TxPost w0 w k ys e w' := by
  have HS : Hid (RS w0 w k ys) := h
  clear h
  go_enter Tryd.func111, Tryd.ntmps111
  go_wp2_with fail
  cases ys with
  | nil =>
    refine (oneByte_none w0 w k HS.out).mono ?_
    rintro e w1 ⟨rfl, rfl⟩
    exact ⟨rfl, World.grownBy.refl _ _, .inl ⟨rfl, rfl⟩⟩
  | cons y r =>
    have hy := hby y (by simp)
    obtain ⟨m, rfl⟩ : ∃ m : Nat, y = (m : Int) := ⟨y.toNat, by omega⟩
    have hm : m < 256 := by omega
    clear hby hy
    refine (oneByte_any w0 w k m r HS.out).mono ?_
    rintro e w1 ⟨rfl, r1, g1⟩
    have R1 : Hid (RS w0 w1 k r) := r1
    have G1 : Hid (w.grownBy w1 (some k)) := g1
    clear r1 g1 HS
    have hmI : (m : Int) < 256 := by omega
    go_wp2_with fail
    by_cases hl : m ≤ r.length
    · refine (take_gen w0 w1 k m r R1.out hl).mono ?_
      rintro e w2 ⟨v2, rfl, rd2, r2, g2⟩
      have hcv := conv_any (rd2.below r2.2.2.2.1)
      have HP : Hid (TxPost w0 w k ((m : Int) :: r) (.returned (.string (strOfNums (r.take m)))) w2) := by
        refine ⟨G1.out.trans g2, .inr ⟨_, _, ?_, rfl, r2⟩⟩
        simp only [rdT, Int.toNat_natCast]
        rw [if_pos hl]
      clear rd2 r2 g2 R1 G1
      go_wp2
      go_ret
      exact HP.out
    · refine (take_none w0 w1 k m r R1.out (by omega)).mono ?_
      rintro e w2 ⟨rfl, rfl⟩
      refine ⟨rfl, G1.out, .inl ⟨?_, rfl⟩⟩
      simp only [rdT, Int.toNat_natCast]
      rw [if_neg hl]

end Go.Proofs.YtgjenbgclpmjmaaDoor
