import Derived.Test.YtgjenbgclpmjmaaDoorSuperMath
import Derived.Test.YtgjenbgclpmjmaaDoorPack
namespace Go.Proofs.YtgjenbgclpmjmaaDoor
open Go.RowKit

/-- Blocks of other types are as they were. -/
def KT (e : TypeId) (w w' : World) : Prop := w.heap.size ≤ w'.heap.size ∧ ∀ b, b < w.heap.size → (¬ ∃ cur, w.heap[b]? = some (.cells cur e (0, 0))) → w'.heap[b]? = w.heap[b]?
theorem KT.refl (e : TypeId) (w : World) : KT e w w := ⟨Nat.le_refl _, fun _ _ _ => rfl⟩
theorem KT.trans {e : TypeId} {w w1 w2 : World} (h : KT e w w1) (h2 : KT e w1 w2) : KT e w w2 :=
  ⟨Nat.le_trans h.1 h2.1, fun b hb hn => by
    have h3 := h.2 b hb hn
    rw [h2.2 b (Nat.lt_of_lt_of_le hb h.1) (by rw [h3]; exact hn), h3]⟩
theorem KT.below {e : TypeId} {w w1 w2 : World} (h : KT e w w1) (hb : Below w1.heap.size w1 w2) : KT e w w2 :=
  h.trans ⟨hb.size, fun b hb' _ => hb.block b hb'⟩
theorem KT.alloc {e : TypeId} {w w1 : World} (h : KT e w w1) (o : Obj) : KT e w (w1.alloc o) := h.below ((Below.refl _ _).alloc (Nat.le_refl _) o)
theorem KT.grown {e : TypeId} {w w1 w2 : World} {base size n : Nat} {v : Value} {xs : List Value} (h : KT e w w1) (ho : w1.ownsRow base e size v n xs) (hg : w1.grownBy w2 v.ownBlock) : KT e w w2 := by
  refine h.trans ⟨hg.size, fun b hb hn => hg.block b hb fun he => hn ?_⟩
  rcases ho.2 with ⟨rfl, -⟩ | ⟨g, cap, cur, rfl, -, hgg, -⟩
  · simp [Value.ownBlock] at he
  · simp only [Value.ownBlock, Option.some.injEq] at he
    subst he
    exact ⟨cur, hgg⟩

set_option maxHeartbeats 1000000 in
set_option maxRecDepth 100000 in
theorem implNumber_any (w : World) (base : Nat) (v : Value) (xs : List Int) (N n : Nat) (h : Own .u8 5 w base v xs) (hb : base ≤ w.heap.size) (hl : xs.length ≤ 1048576) (hn : n ≤ 8) :
    Calls Tryd.prog 91 #[v, .int .i64 N, .int .i64 n] w fun e w' => ∃ v', e = .returned v' ∧ Own .u8 5 w' base v' (xs ++ bigR N n) ∧ Below base w w' ∧ KT 5 w w' := by
  obtain ⟨i0, hi, hz0, hz1, hz2⟩ := info_parts Tryd.infoB
  have HO : Hid (Own .u8 5 w base v xs) := h
  clear h
  go_enter Tryd.func91, Tryd.ntmps91
  go_wp2
  go_loopw [0, 7] (fun vi vl wr => ∃ (k : Nat) (z : Int), k ≤ n ∧ vl = .int .i64 z ∧ z + 1 + (k : Int) = (n : Int) ∧ Hid (Own .u8 5 wr base vi (xs ++ bigR (N / 2 ^ (8 * (n - k))) k)) ∧ Hid (Below base w wr) ∧ Hid (KT 5 w wr)) (fun _ i _ => ((intOf i) + 1).toNat)
  case atStart => exact ⟨0, (n : Int) - 1, Nat.zero_le _, rfl, by omega, by show Own _ _ _ _ _ _; unfold bigR; rw [List.append_nil]; exact HO.out, Below.refl _ _, KT.refl _ _⟩
  case round =>
    obtain ⟨k, z, hk, rfl, hz, HW, HB, HK⟩ := hrel
    have sB := HB.out.size
    by_cases hz0' : 0 ≤ z
    · obtain ⟨l, rfl⟩ : ∃ l : Nat, z = (l : Int) := ⟨z.toNat, by omega⟩
      have hl8 : l ≤ 7 := by omega
      have HST : Hid (bigR (N / 2 ^ (8 * (n - k))) k ++ [((N / 2 ^ (8 * l) % 256 : Nat) : Int)] = bigR (N / 2 ^ (8 * (n - (k + 1)))) (k + 1)) := by
        show _ = _
        rw [show n - k = l + 1 by omega, show n - (k + 1) = l by omega]; exact bigR_step N l k
      obtain ⟨ys, hys⟩ : ∃ ys, ys = xs ++ bigR (N / 2 ^ (8 * (n - k))) k := ⟨_, rfl⟩
      have HYS : Hid (ys = xs ++ bigR (N / 2 ^ (8 * (n - k))) k) := hys
      have HW1 : Hid (wr.ownsRow base 5 1 u0 ys.length (ys.map (Value.int .u8))) := by rw [hys]; exact HW.out
      have hyl : ys.length ≤ 1048600 := by rw [hys, List.length_append, bigR_len]; omega
      clear hys HW
      have HV : Hid ((N : Int) / 2 ^ (8 * l) % 256 = ((N / 2 ^ (8 * l) % 256 : Nat) : Int)) := by show _ = _; rw [shr_cast]; rfl
      go_wp2_with (at_builtin; go_must (refine wpList_append_own _ rfl _ _ 45 rfl base 5 i0 (.int .u8 0) 1 1 Tryd.underlying45 hi hz0 hz1 hz2 rfl (by decide) _ _ _ rfl (World.ownsRow.alloc HW1.out _) ⟨wr.heap.size, 0, none⟩ 1 1 [.int .u8 ((N : Int) / 2 ^ (8 * l) % 256)] rfl rfl (cell_one_new _ _ _) (by intro u hu; simp at hu; subst hu; rfl) ?c3 ?c4 ?c5 ?_))
      case c3 => unfold maxLen; omega
      case c4 => omega
      case c5 => simp; omega
      intro v2 w2 ho2 hg2 _
      have HO2 : Hid (Own .u8 5 w2 base v2 (xs ++ bigR (N / 2 ^ (8 * (n - (k + 1)))) (k + 1))) := by
        rw [HV.out] at ho2
        refine own_of (q := ys.length + 1) (ys := ys ++ [((N / 2 ^ (8 * l) % 256 : Nat) : Int)]) (by simp) ?_ (by rw [List.map_append]; exact ho2)
        rw [← HST.out, ← List.append_assoc, ← HYS.out]
      have HB2 : Hid (Below base w w2) := (HB.out.alloc (by omega) _).grown hg2 (by simp; omega) (fun q hq => (World.ownsRow.lt HW1.out q hq).1)
      have HK2 : Hid (KT 5 w w2) := (HK.out.alloc _).grown (HW1.out.alloc _) hg2
      clear ho2 hg2 HW1 HB HK
      go_wp2
      exact ⟨⟨k + 1, (l : Int) - 1, by omega, by go_num, by omega, HO2, HB2, HK2⟩, by simp [intOf]⟩
    · have hkn : k = n := by omega
      subst hkn
      have hzI : ¬ (0 : Int) ≤ z := hz0'
      go_wp2
      go_ret
      refine ⟨_, rfl, ?_, HB.out, HK.out⟩
      have := HW.out
      rw [Nat.sub_self, Nat.mul_zero, Nat.pow_zero, Nat.div_one] at this
      exact this

set_option maxHeartbeats 1000000 in
set_option maxRecDepth 100000 in
theorem specBig_any : ∀ (n : Nat) (w : World) (N : Nat), n ≤ 8 → N < 9223372036854775808 →
    Calls Tryd.prog 88 #[.int .i64 N, .int .i64 n] w fun e w' => ∃ v', e = .returned v' ∧ Own .u8 5 w' w.heap.size v' (bigR N n) ∧ Below w.heap.size w w'
  | 0, w, N, _, _ => by
    go_enter Tryd.func88, Tryd.ntmps88
    go_wp2
    go_ret
    exact ⟨_, rfl, World.ownsRow_lit w #[] 0 (Nat.le_refl _) (Nat.zero_le _) rfl, (Below.refl _ _).alloc (Nat.le_refl _) _⟩
  | n + 1, w, N, hn, hN => by
    obtain ⟨i0, hi, hz0, hz1, hz2⟩ := info_parts Tryd.infoB
    have HI : Hid (Calls Tryd.prog 88 #[.int .i64 ((N : Int) / 256), .int .i64 n] w fun e w' => ∃ v', e = .returned v' ∧ Own .u8 5 w' w.heap.size v' (bigR (N / 256) n) ∧ Below w.heap.size w w') := by
      have := specBig_any n w (N / 256) (by omega) (by omega)
      rw [show ((N / 256 : Nat) : Int) = (N : Int) / 256 by omega] at this
      exact this
    have h0 : (((n + 1 : Nat) : Int) == 0) = false := beq_eq_false_iff_ne.2 (by omega)
    have hw : wrap64 ((N : Int) / 256) = ((N / 256 : Nat) : Int) := by unfold wrap64; omega
    clear hN
    go_enter Tryd.func88, Tryd.ntmps88
    go_wp2_with fail
    refine HI.out.mono ?_
    rintro e w1 ⟨v1, rfl, o1, b1⟩
    have s1 := b1.size
    obtain ⟨ys, hys⟩ : ∃ ys, ys = bigR (N / 256) n := ⟨_, rfl⟩
    have hyl : ys.length = n := by rw [hys, bigR_len]
    have HYS : Hid (ys = bigR (N / 256) n) := hys
    have O1 : Hid (w1.ownsRow w.heap.size 5 1 v1 n (ys.map (Value.int .u8))) := by have := o1; unfold Own at this; rw [← hys, hyl] at this; exact this
    have HYL : Hid (ys.length = n) := hyl
    have B1 : Hid (Below w.heap.size w w1) := b1
    have HV : Hid ((N : Int) % 256 = ((N % 256 : Nat) : Int)) := by show _ = _; omega
    clear o1 b1 hys hyl HI hw
    go_wp2_with (at_builtin; go_must (refine wpList_append_own _ rfl _ _ 45 rfl w.heap.size 5 i0 (.int .u8 0) 1 1 Tryd.underlying45 hi hz0 hz1 hz2 rfl (by decide) _ _ _ rfl (O1.out.alloc _) ⟨w1.heap.size, 0, none⟩ 1 1 [.int .u8 ((N : Int) % 256)] rfl rfl (cell_one_new _ _ _) (by intro u hu; simp at hu; subst hu; rfl) ?c3 ?c4 ?c5 ?_))
    case c3 => unfold maxLen; omega
    case c4 => omega
    case c5 => simp; omega
    intro v2 w2 ho2 hg2 _
    have O2 : Hid (Own .u8 5 w2 w.heap.size v2 (bigR N (n + 1))) := by
      rw [HV.out] at ho2
      refine own_of (q := n + 1) (ys := ys ++ [((N % 256 : Nat) : Int)]) (by simp [HYL.out]) ?_ (by rw [List.map_append]; exact ho2)
      rw [HYS.out]; rfl
    have B2 : Hid (Below w.heap.size w w2) := (B1.out.alloc s1 _).grown hg2 (by simp; omega) (fun q hq => (World.ownsRow.lt O1.out q hq).1)
    clear ho2 hg2
    go_wp2
    go_ret
    exact ⟨_, rfl, O2.out, B2.out⟩

end Go.Proofs.YtgjenbgclpmjmaaDoor
