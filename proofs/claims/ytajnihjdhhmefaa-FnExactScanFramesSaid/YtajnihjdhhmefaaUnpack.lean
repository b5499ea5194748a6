import Derived.Test.YtajnihjdhhmefaaSPack
import Derived.Test.YtajnihjdhhmefaaJoin
namespace Go.Proofs.Ytajnihjdhhmefaa
open Go.RowKit

def unp (ps : List Int) : List Int := if pk (up ps) = ps then up ps else []

theorem byt_pk (xs : List Int) : Byt (pk xs) := fun x hx => by have := pk_range xs x hx; omega
theorem byt_up (xs : List Int) : Byt (up xs) := fun x hx => by have := up_range xs x hx; omega

theorem bcell {W w1 : World} (hb : Below W.heap.size W w1) : (∀ b o, b < W.heap.size → w1.cell? ⟨b, o, none⟩ = W.cell? ⟨b, o, none⟩) ∧ (∀ b o, b < W.heap.size → w1.frozen? ⟨b, o, none⟩ = W.frozen? ⟨b, o, none⟩) :=
  ⟨fun b o h => hb.cell (p := ⟨b, o, none⟩) h, fun b o h => hb.frozen (p := ⟨b, o, none⟩) h⟩

/-- A new block of one cell, in every later world. -/
theorem box_later {w w1 : World} {x : Value} {t : TypeId} (hb : Below (w.alloc (.cells #[x] t)).heap.size (w.alloc (.cells #[x] t)) w1) :
    w1.cell? ⟨w.heap.size, 0, none⟩ = some x ∧ w1.frozen? ⟨w.heap.size, 0, none⟩ = false ∧ w.heap.size < w1.heap.size := by
  obtain ⟨hc, hf⟩ := bcell hb
  have hs := hb.size
  simp at hs
  refine ⟨?_, ?_, by omega⟩
  · rw [hc _ _ (by simp)]; simp
  · rw [hf _ _ (by simp)]; simp

theorem Own.setBelow {k : IntKind} {e : TypeId} {w : World} {base : Nat} {v : Value} {xs : List Int} (h : Own k e w base v xs) {a : Addr} (ha : a.block < base) (u : Value) : Own k e (w.setCell a u) base v xs := ownsRow_setCell_below h ha u

set_option maxHeartbeats 400000 in
set_option maxRecDepth 100000 in
theorem implUnpack_any (w : World) (v : Value) (xs : List Int) (h : Rd .u8 w v xs) (hby : Byt xs) (hn : xs.length ≤ 1099511627776) :
    Calls Try.prog 81 #[v] w fun e w' => ∃ v', e = .returned (.agg #[v']) ∧ Own .u8 5 w' w.heap.size v' (unp xs) ∧ Below w.heap.size w w' := by
  have B0 : Hid (Below w.heap.size w (w.alloc (.cells #[.slice none 0 0] 32))) := (Below.refl _ _).alloc (Nat.le_refl _) _
  have R0 : Hid (Rd .u8 (w.alloc (.cells #[.slice none 0 0] 32)) v xs) := h.below B0.out
  have hul : (up xs).length ≤ 1099511627776 := by rw [up_length]; omega
  have HUL : Hid ((up xs).length ≤ 1099511627776) := hul
  clear h hul
  go_enter Try.func81, Try.ntmps81
  go_wp2_with fail
  refine (joinGroups_any _ _ xs R0.out hby hn).mono ?_
  rintro e w1 ⟨v1, rfl, o1, b1⟩
  have O1 : Hid (Own .u8 5 w1 (w.heap.size + 1) v1 (up xs)) := by have := o1; simp at this; exact this
  have B1 : Hid (Below (w.alloc (.cells #[.slice none 0 0] 32)).heap.size (w.alloc (.cells #[.slice none 0 0] 32)) w1) := b1
  clear o1 b1
  go_wp2_with fail
  refine (implPack_any _ _ (up xs) O1.out.rd (byt_up xs) HUL.out).mono ?_
  rintro e w2 ⟨v2, rfl, o2, b2⟩
  have O2 : Hid (Own .u8 5 w2 w1.heap.size v2 (pk (up xs))) := o2
  have s1 := B1.out.size
  have B2 : Hid (Below (w.alloc (.cells #[.slice none 0 0] 32)).heap.size (w.alloc (.cells #[.slice none 0 0] 32)) w2) := B1.out.trans (b2.mono s1)
  have O12 : Hid (Own .u8 5 w2 (w.heap.size + 1) v1 (up xs)) := O1.out.below b2
  clear o2 b2 O1
  go_wp2_with fail
  refine (bytesEqual_any _ _ _ (pk (up xs)) xs O2.out.rd (R0.out.below B2.out) (byt_pk _) hby).mono ?_
  rintro e w2 ⟨rfl, rfl⟩
  obtain ⟨c1, f1, z1⟩ := box_later B2.out
  have BW : Hid (Below w.heap.size w w2) := B0.out.trans (B2.out.mono (by simp))
  clear s1
  by_cases he : pk (up xs) = xs
  · have hd : decide (pk (up xs) = xs) = true := by simp [he]
    have HU : Hid (unp xs = up xs) := if_pos he
    rw [hd]
    clear he hd
    obtain ⟨ao1, cp1, rfl, _, _⟩ := O12.out.rd.len
    go_wp2
    refine bodyPost_ret (v := .agg #[.slice ao1 (up xs).length cp1]) (by simp [results, Try.results81, go_sem, c1]) rfl ⟨.slice ao1 (up xs).length cp1, rfl, ?_, ?_⟩
    · rw [HU.out]
      exact (Own.setBelow O12.out (a := ⟨w.heap.size, 0, none⟩) (by simp) _).mono (by omega)
    · exact BW.out.setCell (Nat.le_refl _) _
  · have hd : decide (pk (up xs) = xs) = false := by simp [he]
    have HU : Hid (unp xs = []) := if_neg he
    rw [hd]
    clear he hd
    go_wp2
    refine bodyPost_ret (v := .agg #[.slice none 0 0]) (by simp [results, Try.results81, go_sem, c1]) rfl ⟨.slice none 0 0, rfl, ?_, ?_⟩
    · rw [HU.out]
      exact World.ownsRow_nil _ _ _ _
    · exact BW.out.setCell (Nat.le_refl _) _

/-! ### the groups of eight bits -/
def g8 (xs : List Int) (q t : Nat) : Nat := numW 7 xs / 2 ^ (7 * xs.length - (8 * q + t)) % 2 ^ t
theorem g8_zero (xs : List Int) (q : Nat) : g8 xs q 0 = 0 := by unfold g8; simp [Nat.mod_one]
theorem g8_in (xs : List Int) (q t : Nat) (h : 8 * q + t < 7 * xs.length) : g8 xs q (t + 1) = 2 * g8 xs q t + dig 7 1 xs (8 * q + t) := by
  unfold g8 dig
  have e : 7 * xs.length - (8 * q + t) = 7 * xs.length - (8 * q + (t + 1)) + 1 := by omega
  rw [e, show 2 ^ (7 * xs.length - (8 * q + (t + 1)) + 1) = 2 ^ (7 * xs.length - (8 * q + (t + 1))) * 2 from Nat.pow_succ _ _, ← Nat.div_div_eq_div_mul, show 7 * xs.length - 1 * (8 * q + t + 1) = 7 * xs.length - (8 * q + (t + 1)) by omega, Nat.pow_one]
  generalize numW 7 xs / 2 ^ (7 * xs.length - (8 * q + (t + 1))) = X
  rw [Nat.pow_succ, Nat.mul_comm (2 ^ t) 2, Nat.mod_mul]
  omega
theorem g8_le (xs : List Int) (q t : Nat) (ht : t ≤ 8) : g8 xs q t ≤ 255 := by
  have h : g8 xs q t < 2 ^ t := Nat.mod_lt _ (pow_pos2 t)
  have h2 : 2 ^ t ≤ 2 ^ 8 := Nat.pow_le_pow_right (by omega) ht
  simp only [Nat.reducePow] at h2
  omega
theorem g8_dig (xs : List Int) (q : Nat) : g8 xs q 8 = dig 7 8 xs q := by unfold g8 dig; rw [show 8 * q + 8 = 8 * (q + 1) by omega]

set_option maxHeartbeats 800000 in
set_option maxRecDepth 100000 in
theorem specUnpack_any (w : World) (v : Value) (xs : List Int) (h : Rd .u8 w v xs) (hby : Byt xs) (hn : xs.length ≤ 1099511627776) :
    Calls Try.prog 41 #[v] w fun e w' => ∃ v', e = .returned (.agg #[v']) ∧ Own .u8 5 w' w.heap.size v' (unp xs) ∧ Below w.heap.size w w' := by
  obtain ⟨i0, hi, hz0, hz1, hz2⟩ := info_parts Try.infoB
  have B0 : Hid (Below w.heap.size w (w.alloc (.cells #[.slice none 0 0] 32))) := (Below.refl _ _).alloc (Nat.le_refl _) _
  have R0 : Hid (Rd .u8 (w.alloc (.cells #[.slice none 0 0] 32)) v xs) := h.below B0.out
  have hul : (up xs).length ≤ 1099511627776 := by rw [up_length]; omega
  have HUL : Hid ((up xs).length ≤ 1099511627776) := hul
  clear h hul
  go_enter Try.func41, Try.ntmps41
  go_wp2_with fail
  refine (l2Bits_any _ _ xs 7 R0.out hby hn (by omega)).mono ?_
  rintro e w1 ⟨vb, rfl, hob, hb1⟩
  obtain ⟨ao, cap, rfl, h1, h2, h3⟩ := hob.rd
  rw [bitsL_len] at h1 h3 ⊢
  have h3' : xs.length = 0 ∨ ∃ b o, ao = some ⟨b, o, none⟩ ∧ b < w1.heap.size ∧ Hid (∀ i, i < 7 * xs.length → w1.cell? ⟨b, o + i, none⟩ = some (.int .i64 ((dig 7 1 xs i : Nat) : Int))) := by
    rcases h3 with h3 | ⟨b, o, rfl, hlt1, hc1⟩
    · left; have := congrArg List.length h3; rw [bitsL_len] at this; simp at this; omega
    · exact .inr ⟨b, o, rfl, hlt1, fun i hi => by rw [hc1 i hi, bitsL_getD _ _ _ _ hi]⟩
  have HB1 : Hid (Below (w.alloc (.cells #[.slice none 0 0] 32)).heap.size (w.alloc (.cells #[.slice none 0 0] 32)) w1) := hb1
  generalize hnn : xs.length = n at *
  have HN : Hid (xs.length = n) := hnn
  have hsz := hb1.size
  have H3 : Hid (n = 0 ∨ ∃ b o, ao = some ⟨b, o, none⟩ ∧ b < w1.heap.size ∧ Hid (∀ i, i < 7 * n → w1.cell? ⟨b, o + i, none⟩ = some (.int .i64 ((dig 7 1 xs i : Nat) : Int)))) := h3'
  clear hnn hob hb1 h3 h2 h3'
  go_wp2
  go_loopw [4, 5] (fun v i wr => ∃ q : Nat, 8 * q ≤ 7 * n ∧ i = .int .i64 (8 * q) ∧ wr.ownsRow w1.heap.size 5 1 v q ((upE xs q).map (Value.int .u8)) ∧ Below w1.heap.size w1 wr) (fun _ i _ => 7 * n + 8 - (intOf i).toNat)
  case atStart => exact ⟨0, by omega, rfl, World.ownsRow_lit w1 #[] 0 (Nat.le_refl _) (Nat.zero_le _) rfl, (Below.refl _ _).alloc (Nat.le_refl _) _⟩
  case round =>
    obtain ⟨q, hq, rfl, ho, hg⟩ := hrel
    by_cases hlt : 8 * q + 8 ≤ 7 * n
    · have hltI : 8 * (q : Int) + 8 ≤ 7 * (n : Int) := by omega
      rcases H3.out with h0 | ⟨b, o, rfl, hlt1, HC⟩
      · omega
      clear H3
      go_wp2
      go_loop [6, 7] (fun v j => ∃ t V : Nat, t ≤ 8 ∧ j = .int .i64 (8 * (q : Int) + t) ∧ V ≤ 255 ∧ v = .int .i64 V ∧ Hid (V = g8 xs q t)) (fun _ j => (8 * (q : Int) + 8 - intOf j).toNat)
      case atStart => exact ⟨0, 0, by omega, by go_num, by omega, rfl, (g8_zero xs q).symm⟩
      case round =>
        obtain ⟨t, V, ht, rfl, hV, rfl, HV⟩ := hrel
        by_cases ht8 : t < 8
        · have hjI : 8 * (q : Int) + (t : Int) < 8 * (q : Int) + 8 := by omega
          have hin : 8 * q + t < 7 * n := by omega
          have hinI : 8 * (q : Int) + (t : Int) < 7 * (n : Int) := by omega
          have hgs := g8_in xs q t (by rw [HN.out]; exact hin)
          have hgl := g8_le xs q (t + 1) (by omega)
          have hsrc : wr.cell? ⟨b, o + (8 * q + t), none⟩ = some (.int .i64 ((dig 7 1 xs (8 * q + t) : Nat) : Int)) := (hg.cell (p := ⟨b, o + (8 * q + t), none⟩) hlt1).trans (HC.out _ hin)
          rw [← HV.out] at hgs
          generalize hD : dig 7 1 xs (8 * q + t) = D at *
          have hb : 2 * V + D ≤ 255 := by omega
          have HGS : Hid (2 * V + D = g8 xs q (t + 1)) := hgs.symm
          clear hgs hgl hD
          go_wp2
          go_round
          case rel => exact ⟨t + 1, 2 * V + D, by omega, by go_num, hb, by go_num, HGS.out⟩
          case measure => simp [intOf]; omega
        · have ht9 : t = 8 := by omega
          subst ht9
          have HL : Hid (q + 1 ≤ 8796093022208) := by show _ ≤ _; omega
          go_wp2_with (at_builtin; go_must (refine wpList_append_own _ rfl _ _ 22 rfl w1.heap.size 5 i0 (.int .u8 0) 1 1 Try.underlying22 hi hz0 hz1 hz2 rfl (by decide) _ _ _ rfl (ho.alloc _) ⟨wr.heap.size, 0, none⟩ 1 1 [.int .u8 (V : Int)] rfl rfl (cell_one_new _ _ _) (by intro u hu; simp at hu; subst hu; rfl) ?c3 ?c4 ?c5 ?_))
          case c3 => have := HL.out; unfold maxLen; omega
          case c4 => have := HL.out; omega
          case c5 => have := hg.size; simp; omega
          intro v2 w2 ho2 hg2 _
          have HO2 : Hid (w2.ownsRow w1.heap.size 5 1 v2 (q + 1) ((upE xs (q + 1)).map (Value.int .u8))) := by
            rw [HV.out, g8_dig] at ho2; show World.ownsRow _ _ _ _ _ _ _; rw [upE_succ, List.map_append]; exact ho2
          have HG2 : Hid (Below w1.heap.size w1 w2) := (hg.alloc (hg.size) _).grown hg2 (by have := hg.size; simp; omega) (fun q hq => (ho.lt q hq).1)
          clear ho2 hg2 ho hg
          go_wp2
          go_roundw
          case rel => exact ⟨q + 1, by omega, by go_num, HO2.out, HG2.out⟩
          case measure => simp [intOf]; omega
    · have hltI : ¬ 8 * (q : Int) + 8 ≤ 7 * (n : Int) := by omega
      have O1 : Hid (Own .u8 5 wr w1.heap.size u4 (up xs)) := own_of (upE_len xs q) (upE_all (by rw [HN.out]; omega)) ho
      have BG : Hid (Below w1.heap.size w1 wr) := hg
      clear ho hg H3
      go_wp2_with fail
      refine (specPack_any _ _ (up xs) O1.out.rd (byt_up xs) HUL.out).mono ?_
      rintro e w2 ⟨v2, rfl, o2, b2⟩
      have O2 : Hid (Own .u8 5 w2 wr.heap.size v2 (pk (up xs))) := o2
      have sg := BG.out.size
      have B2 : Hid (Below (w.alloc (.cells #[.slice none 0 0] 32)).heap.size (w.alloc (.cells #[.slice none 0 0] 32)) w2) := (HB1.out.trans (BG.out.mono hsz)).trans (b2.mono (Nat.le_trans hsz sg))
      have O12 : Hid (Own .u8 5 w2 w1.heap.size u4 (up xs)) := O1.out.below b2
      clear o2 b2 O1
      go_wp2_with fail
      refine (sameBytes_any _ _ _ (pk (up xs)) xs O2.out.rd (R0.out.below B2.out) (byt_pk _) hby).mono ?_
      rintro e w2 ⟨rfl, rfl⟩
      obtain ⟨c1, f1, z1⟩ := box_later B2.out
      have BW : Hid (Below w.heap.size w w2) := B0.out.trans (B2.out.mono (by simp))
      have hsz' : w.heap.size < w1.heap.size := by simp at hsz; omega
      clear sg hsz
      by_cases he : pk (up xs) = xs
      · have hd : decide (pk (up xs) = xs) = true := by simp [he]
        have HU : Hid (unp xs = up xs) := if_pos he
        rw [hd]
        clear he hd
        obtain ⟨ao1, cp1, rfl, _, _⟩ := O12.out.rd.len
        go_wp2
        refine bodyPost_ret (v := .agg #[.slice ao1 (up xs).length cp1]) (by simp [results, Try.results41, go_sem, c1]) rfl ⟨.slice ao1 (up xs).length cp1, rfl, ?_, ?_⟩
        · rw [HU.out]
          exact (Own.setBelow O12.out (a := ⟨w.heap.size, 0, none⟩) hsz' _).mono (by omega)
        · exact BW.out.setCell (Nat.le_refl _) _
      · have hd : decide (pk (up xs) = xs) = false := by simp [he]
        have HU : Hid (unp xs = []) := if_neg he
        rw [hd]
        clear he hd
        go_wp2
        refine bodyPost_ret (v := .agg #[.slice none 0 0]) (by simp [results, Try.results41, go_sem, c1]) rfl ⟨.slice none 0 0, rfl, ?_, ?_⟩
        · rw [HU.out]
          exact World.ownsRow_nil _ _ _ _
        · exact BW.out.setCell (Nat.le_refl _) _

end Go.Proofs.Ytajnihjdhhmefaa
