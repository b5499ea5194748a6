import Derived.Test.YtgjenbgclpmjmaaImplSuper
namespace Go.Proofs.Ytgjenbgclpmjmaa
open Go.RowKit

set_option maxHeartbeats 1000000 in
set_option maxRecDepth 100000 in
theorem specBigS_any : ∀ (n : Nat) (w : World) (N : Nat), n ≤ 8 → N < 9223372036854775808 →
    Calls Try.prog 30 #[.int .i64 N, .int .i64 n] w fun e w' => ∃ v', e = .returned v' ∧ Own .u8 5 w' w.heap.size v' (bigR N n) ∧ Below w.heap.size w w'
  | 0, w, N, _, _ => by
    go_enter Try.func30, Try.ntmps30
    go_wp2
    go_ret
    exact ⟨_, rfl, World.ownsRow_lit w #[] 0 (Nat.le_refl _) (Nat.zero_le _) rfl, (Below.refl _ _).alloc (Nat.le_refl _) _⟩
  | n + 1, w, N, hn, hN => by
    obtain ⟨i0, hi, hz0, hz1, hz2⟩ := info_parts Try.infoB
    have HI : Hid (Calls Try.prog 30 #[.int .i64 ((N : Int) / 256), .int .i64 n] w fun e w' => ∃ v', e = .returned v' ∧ Own .u8 5 w' w.heap.size v' (bigR (N / 256) n) ∧ Below w.heap.size w w') := by
      have := specBigS_any n w (N / 256) (by omega) (by omega)
      rw [show ((N / 256 : Nat) : Int) = (N : Int) / 256 by omega] at this
      exact this
    have h0 : (((n + 1 : Nat) : Int) == 0) = false := beq_eq_false_iff_ne.2 (by omega)
    have hw : wrap64 ((N : Int) / 256) = ((N / 256 : Nat) : Int) := by unfold wrap64; omega
    clear hN
    go_enter Try.func30, Try.ntmps30
    go_wp2_with fail
    refine HI.out.mono ?_
    rintro e w1 ⟨v1, rfl, o1, b1⟩
    have s1 := b1.size
    obtain ⟨ys, hys⟩ : ∃ ys, ys = bigR (N / 256) n := ⟨_, rfl⟩
    have hyl : ys.length = n := by rw [hys, bigR_len]
    have HYS : Hid (ys = bigR (N / 256) n) := hys
    have O1 : Hid (w1.ownsRow w.heap.size 5 1 v1 n (ys.map (Value.int .u8))) := by have := o1; unfold Own at this; rw [← hys, hyl] at this; exact this
    have HYL : Hid (ys.length = n) := hyl
    have B1 : Hid (Below w.heap.size w w1) := b1
    have HV : Hid ((N : Int) % 256 = ((N % 256 : Nat) : Int)) := by show _ = _; omega
    clear o1 b1 hys hyl HI hw
    go_wp2_with (at_builtin; go_must (refine wpList_append_own _ rfl _ _ 22 rfl w.heap.size 5 i0 (.int .u8 0) 1 1 Try.underlying22 hi hz0 hz1 hz2 rfl (by decide) _ _ _ rfl (O1.out.alloc _) ⟨w1.heap.size, 0, none⟩ 1 1 [.int .u8 ((N : Int) % 256)] rfl rfl (cell_one_new _ _ _) (by intro u hu; simp at hu; subst hu; rfl) ?c3 ?c4 ?c5 ?_))
    case c3 => unfold maxLen; omega
    case c4 => omega
    case c5 => simp; omega
    intro v2 w2 ho2 hg2 _
    have O2 : Hid (Own .u8 5 w2 w.heap.size v2 (bigR N (n + 1))) := by
      rw [HV.out] at ho2
      refine own_of (q := n + 1) (ys := ys ++ [((N % 256 : Nat) : Int)]) (by simp [HYL.out]) ?_ (by rw [List.map_append]; exact ho2)
      rw [HYS.out]; rfl
    have B2 : Hid (Below w.heap.size w w2) := (B1.out.alloc s1 _).grown hg2 (by simp; omega) (fun q hq => (World.ownsRow.lt O1.out q hq).1)
    clear ho2 hg2
    go_wp2
    go_ret
    exact ⟨_, rfl, O2.out, B2.out⟩

end Go.Proofs.Ytgjenbgclpmjmaa
