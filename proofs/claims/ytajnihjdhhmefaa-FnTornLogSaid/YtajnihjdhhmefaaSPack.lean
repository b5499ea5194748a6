import Derived.Test.YtajnihjdhhmefaaBits
namespace Go.Proofs.Ytajnihjdhhmefaa
open Go.RowKit

set_option maxHeartbeats 400000 in
set_option maxRecDepth 100000 in
theorem specPack_row (w : World) (v : Value) (xs : List Int) (h : Rd .u8 w v xs) (hby : Byt xs) (hn : xs.length ≤ 1099511627776) (hne : 0 < xs.length) :
    Calls Try.prog 40 #[v] w fun e w' => ∃ v', e = .returned v' ∧ Own .u8 5 w' w.heap.size v' (pk xs) ∧ Below w.heap.size w w' := by
  obtain ⟨i0, hi, hz0, hz1, hz2⟩ := info_parts Try.infoB
  go_enter Try.func40, Try.ntmps40
  go_wp2_with fail
  refine (l2Bits_any _ _ xs 8 h hby hn (by omega)).mono ?_
  rintro e w1 ⟨vb, rfl, hob, hb1⟩
  obtain ⟨ao, cap, rfl, h1, h2, h3⟩ := hob.rd
  rcases h3 with h3 | ⟨b, o, rfl, hlt1, hc1⟩
  · have := congrArg List.length h3; rw [bitsL_len] at this; simp at this; omega
  rw [bitsL_len] at h1 hc1 ⊢
  have HC : Hid (∀ i, i < 8 * xs.length → w1.cell? ⟨b, o + i, none⟩ = some (.int .i64 ((dig 8 1 xs i : Nat) : Int))) := fun i hi => by rw [hc1 i hi, bitsL_getD _ _ _ _ hi]
  generalize hnn : xs.length = n at *
  have HN : Hid (xs.length = n) := hnn
  have HB1 : Hid (Below w.heap.size w w1) := hb1
  have hsz := hb1.size
  clear hnn hc1 hob hb1 h2 h
  go_wp2
  go_loopw [4, 5] (fun v i wr => ∃ q : Nat, 7 * q < 8 * n + 7 ∧ i = .int .i64 (7 * q) ∧ wr.ownsRow w1.heap.size 5 1 v q ((pkS xs q).map (Value.int .u8)) ∧ Below w1.heap.size w1 wr) (fun _ i _ => 8 * n + 7 - (intOf i).toNat)
  case atStart => exact ⟨0, by omega, rfl, World.ownsRow_lit w1 #[] 0 (Nat.le_refl _) (Nat.zero_le _) rfl, (Below.refl _ _).alloc (Nat.le_refl _) _⟩
  case round =>
    obtain ⟨q, hq, rfl, ho, hg⟩ := hrel
    by_cases hlt : 7 * q < 8 * n
    · have hltI : 7 * (q : Int) < 8 * (n : Int) := by omega
      go_wp2
      go_loop [6, 7] (fun v j => ∃ t V : Nat, t ≤ 7 ∧ j = .int .i64 (7 * (q : Int) + t) ∧ V ≤ 127 ∧ v = .int .i64 V ∧ Hid (V = gv xs q t)) (fun _ j => (7 * (q : Int) + 7 - intOf j).toNat)
      case atStart => exact ⟨0, 0, by omega, by go_num, by omega, rfl, (gv_zero xs q (by rw [HN.out]; omega)).symm⟩
      case round =>
        obtain ⟨t, V, ht, rfl, hV, rfl, HV⟩ := hrel
        by_cases ht7 : t < 7
        · have hjI : 7 * (q : Int) + (t : Int) < 7 * (q : Int) + 7 := by omega
          by_cases hin : 7 * q + t < 8 * n
          · have hinI : 7 * (q : Int) + (t : Int) < 8 * (n : Int) := by omega
            have hgs := gv_in xs q t (by rw [HN.out]; exact hin)
            have hgl := gv_le xs q (t + 1) (by rw [HN.out]; omega) (by omega)
            have hsrc : wr.cell? ⟨b, o + (7 * q + t), none⟩ = some (.int .i64 ((dig 8 1 xs (7 * q + t) : Nat) : Int)) := (hg.cell (p := ⟨b, o + (7 * q + t), none⟩) hlt1).trans (HC.out _ hin)
            rw [← HV.out] at hgs
            generalize hD : dig 8 1 xs (7 * q + t) = D at *
            have hb : 2 * V + D ≤ 127 := by omega
            have HGS : Hid (2 * V + D = gv xs q (t + 1)) := hgs.symm
            clear hgs hgl hD
            go_wp2
            go_round
            case rel => exact ⟨t + 1, 2 * V + D, by omega, by go_num, hb, by go_num, HGS.out⟩
            case measure => simp [intOf]; omega
          · have hinI : ¬ 7 * (q : Int) + (t : Int) < 8 * (n : Int) := by omega
            have hgs := gv_out xs q t (by rw [HN.out]; omega) (by rw [HN.out]; omega)
            have hgl := gv_le xs q (t + 1) (by rw [HN.out]; omega) (by omega)
            rw [← HV.out] at hgs
            have hb : 2 * V ≤ 127 := by omega
            have HGS : Hid (2 * V = gv xs q (t + 1)) := hgs.symm
            clear hgs hgl
            go_wp2
            go_round
            case rel => exact ⟨t + 1, 2 * V, by omega, by go_num, hb, by go_num, HGS.out⟩
            case measure => simp [intOf]; omega
        · have ht8 : t = 7 := by omega
          subst ht8
          have HL : Hid (q + 1 ≤ 8796093022208) := by show _ ≤ _; omega
          go_wp2_with (at_builtin; go_must (refine wpList_append_own _ rfl _ _ 22 rfl w1.heap.size 5 i0 (.int .u8 0) 1 1 Try.underlying22 hi hz0 hz1 hz2 rfl (by decide) _ _ _ rfl (ho.alloc _) ⟨wr.heap.size, 0, none⟩ 1 1 [.int .u8 (128 + (V : Int))] rfl rfl (cell_one_new _ _ _) (by intro u hu; simp at hu; subst hu; rfl) ?c3 ?c4 ?c5 ?_))
          case c3 => have := HL.out; unfold maxLen; omega
          case c4 => have := HL.out; omega
          case c5 => have := hg.size; simp; omega
          intro v2 w2 ho2 hg2 _
          have HO2 : Hid (w2.ownsRow w1.heap.size 5 1 v2 (q + 1) ((pkS xs (q + 1)).map (Value.int .u8))) := by
            rw [HV.out] at ho2; show World.ownsRow _ _ _ _ _ _ _; rw [pkS_succ, List.map_append]; exact ho2
          have HG2 : Hid (Below w1.heap.size w1 w2) := (hg.alloc (hg.size) _).grown hg2 (by have := hg.size; simp; omega) (fun q hq => (ho.lt q hq).1)
          clear ho2 hg2 ho hg
          go_wp2
          go_roundw
          case rel => exact ⟨q + 1, by omega, by go_num, HO2.out, HG2.out⟩
          case measure => simp [intOf]; omega
    · have hltI : ¬ 7 * (q : Int) < 8 * (n : Int) := by omega
      go_wp2
      go_ret
      have ho3 : Own .u8 5 wr w1.heap.size u4 (pk xs) := own_of (pkS_len xs q) (pkS_all xs q (by rw [HN.out]; omega) (by rw [HN.out]; omega)).symm ho
      exact ⟨_, rfl, ho3.mono hsz, HB1.out.trans (hg.mono hsz)⟩

set_option maxHeartbeats 400000 in
theorem specPack_nil (w : World) (v : Value) (h : Rd .u8 w v []) :
    Calls Try.prog 40 #[v] w fun e w' => ∃ v', e = .returned v' ∧ Own .u8 5 w' w.heap.size v' [] ∧ Below w.heap.size w w' := by
  go_enter Try.func40, Try.ntmps40
  go_wp2_with fail
  refine (l2Bits_any _ _ [] 8 h (by intro x hx; cases hx) (by simp) (by omega)).mono ?_
  rintro e w1 ⟨vb, rfl, hob, hb1⟩
  obtain ⟨ao, cap, rfl, h1, h2, h3⟩ := hob.rd
  clear h1 h2 h3 hob
  have HB1 : Hid (Below w.heap.size w w1) := hb1
  clear hb1
  have hsz := HB1.out.size
  rw [show (bitsL 8 [] (8 * ([] : List Int).length)).length = 0 from rfl]
  go_wp2
  go_rounds 1
  go_ret
  have ho3 : Own .u8 5 (w1.alloc (.cells #[] 5)) w1.heap.size (.slice (some ⟨w1.heap.size, 0, none⟩) 0 0) [] := World.ownsRow_lit w1 #[] 0 (Nat.le_refl _) (Nat.zero_le _) rfl
  exact ⟨_, rfl, ho3.mono hsz, HB1.out.alloc hsz _⟩

theorem specPack_any (w : World) (v : Value) (xs : List Int) (h : Rd .u8 w v xs) (hby : Byt xs) (hn : xs.length ≤ 1099511627776) :
    Calls Try.prog 40 #[v] w fun e w' => ∃ v', e = .returned v' ∧ Own .u8 5 w' w.heap.size v' (pk xs) ∧ Below w.heap.size w w' := by
  by_cases hne : 0 < xs.length
  · exact specPack_row w v xs h hby hn hne
  · have : xs = [] := List.eq_nil_of_length_eq_zero (by omega)
    subst this
    exact specPack_nil w v h

end Go.Proofs.Ytajnihjdhhmefaa
