import Derived.Test.YtahapnlnnlcbkaaDoorBytes
import Derived.Test.YtahapnlnnlcbkaaDoorCrcMath
namespace Go.Proofs.YtahapnlnnlcbkaaDoor
open Go.RowKit

def Byt (xs : List Int) : Prop := ∀ x ∈ xs, 0 ≤ x ∧ x < 256
theorem byt_at {xs : List Int} (h : Byt xs) (k : Nat) : ∃ x : Nat, x < 256 ∧ xs.getD k 0 = (x : Int) := by
  by_cases hk : k < xs.length
  · have := h xs[k] (List.getElem_mem hk)
    exact ⟨xs[k].toNat, by omega, by simp only [List.getD, List.getElem?_eq_getElem hk, Option.getD_some]; omega⟩
  · exact ⟨0, by omega, by simp [List.getD, show xs.length ≤ k by omega]⟩
theorem take_snoc' (xs : List Int) (k : Nat) (h : k < xs.length) : xs.take (k + 1) = xs.take k ++ [xs.getD k 0] := by
  rw [List.take_succ_eq_append_getElem h]; simp [List.getD, h]

def M32 : Nat := 4294967296

theorem u32_xor_def (a b : Nat) (ha : a < M32) (hb : b < M32) : ∃ z : Nat, z < M32 ∧ bits .xor .u32 (a : Int) (b : Int) = (z : Int) ∧ z = a ^^^ b :=
  ⟨a ^^^ b, xor_lt32 ha hb, u32_xor_nat a b ha hb, rfl⟩
theorem u32_low4 (a : Nat) (ha : a < M32) : ∃ i : Nat, i < 16 ∧ bits .and .u32 (a : Int) 15 = (i : Int) ∧ i = a % 16 :=
  ⟨a % 16, Nat.mod_lt _ (by omega), by rw [show (15 : Int) = ((15 : Nat) : Int) from rfl, u32_and_nat a 15 ha (by unfold M32 at *; omega), nat_mask4], rfl⟩
theorem u32_xor_div (a b : Nat) (ha : a < M32) (hb : b < M32) : ∃ z : Nat, z < M32 ∧ bits .xor .u32 ((a : Int) / 16) (b : Int) = (z : Int) ∧ z = a / 16 ^^^ b := by
  refine ⟨a / 16 ^^^ b, xor_lt32 (by unfold M32 at *; omega) hb, ?_, rfl⟩
  have e : (a : Int) / 16 = ((a / 16 : Nat) : Int) := by omega
  rw [e, u32_xor_nat (a / 16) b (by unfold M32 at *; omega) hb]

theorem nat_not32 (R : Nat) (h : R < M32) : 4294967295 ^^^ R = 4294967295 - R := by
  have e := congrArg BitVec.toNat (BitVec.allOnes_xor (x := BitVec.ofNat 32 R))
  rw [BitVec.toNat_xor, BitVec.toNat_not, BitVec.toNat_allOnes, BitVec.toNat_ofNat, Nat.mod_eq_of_lt (show R < 2 ^ 32 from h)] at e
  simpa using e

theorem not32 (R : Nat) (h : R < M32) : wrap64 (bits .xor .u32 IntKind.u32.max (R : Int)) = ((4294967295 - R : Nat) : Int) := by
  rw [show IntKind.u32.max = ((4294967295 : Nat) : Int) from by decide, u32_xor_nat 4294967295 R (by decide) h, nat_not32 R h]
  have hz : 4294967295 - R ≤ 4294967295 := Nat.sub_le _ _
  generalize 4294967295 - R = z at *
  exact IntWalk.wrap64_in _ ⟨by omega, by omega⟩

theorem i64_xor_nat (a b : Nat) (ha : a < M32) (hb : b < M32) : bits .xor .i64 (a : Int) (b : Int) = ((a ^^^ b : Nat) : Int) := by
  have key : (BitVec.ofInt 64 (a : Int) ^^^ BitVec.ofInt 64 (b : Int)).toNat = a ^^^ b := by
    unfold M32 at ha hb
    rw [BitVec.toNat_xor, BitVec.toNat_ofInt, BitVec.toNat_ofInt]
    congr 1 <;> omega
  have hz := xor_lt32 ha hb
  show IntKind.i64.wrap ((BitVec.ofInt 64 (a : Int) ^^^ BitVec.ofInt 64 (b : Int)).toNat : Nat) = _
  rw [key, IntKind.wrap_i64]
  generalize a ^^^ b = z at *
  omega

theorem byte_shr (x t : Nat) (hx : x < 256) : ∃ D : Nat, D ≤ 255 ∧ wrap64 ((x : Int) / 2 ^ t) = (D : Int) ∧ D = x / 2 ^ t := by
  have h := Nat.div_le_self x (2 ^ t)
  have e : (x : Int) / 2 ^ t = ((x / 2 ^ t : Nat) : Int) := by simp
  refine ⟨x / 2 ^ t, by omega, ?_, rfl⟩
  rw [e]
  generalize x / 2 ^ t = y at *
  exact IntWalk.wrap64_in _ ⟨by omega, by omega⟩

theorem i64_xor_half (S : Nat) (h : S ≤ 4294967295) : ∃ Z : Nat, Z ≤ 4294967295 ∧ bits .xor .i64 ((S : Int) / 2) 2197175160 = (Z : Int) ∧ Z = S / 2 ^^^ 2197175160 := by
  have hz := xor_lt32 (a := S / 2) (b := 2197175160) (by omega) (by decide)
  refine ⟨S / 2 ^^^ 2197175160, by omega, ?_, rfl⟩
  have e : (S : Int) / 2 = ((S / 2 : Nat) : Int) := by omega
  rw [e, show (2197175160 : Int) = ((2197175160 : Nat) : Int) from rfl, i64_xor_nat (S / 2) 2197175160 (by unfold M32; omega) (by decide)]

/-- The table's cells. -/
def Tab (w : World) : Prop := ∀ i, i < 16 → w.cell? ⟨0, i, none⟩ = some (.int .u32 ((tabL.getD i 0 : Nat) : Int))
theorem Tab.below {w w' : World} (h : Tab w) (h0 : 0 < w.heap.size) (hb : Below w.heap.size w w') : Tab w' := fun i hi => (hb.cell (p := ⟨0, i, none⟩) h0).trans (h i hi)

theorem tabL_lt (i : Nat) : tabL.getD i 0 < M32 := by
  by_cases h : i < 16
  · exact (show ∀ i, i < 16 → tabL.getD i 0 < M32 by decide +kernel) i h
  · rw [show tabL.getD i 0 = 0 by rw [List.getD, List.getElem?_eq_none (show tabL.length ≤ i by simp [tabL]; omega)]; rfl]; decide

set_option maxHeartbeats 400000 in
set_option maxRecDepth 100000 in
theorem implCrc_row (w : World) (b o n cap : Nat) (xs : List Int) (hx : xs.length = n) (hc : ∀ i, i < n → w.cell? ⟨b, o + i, none⟩ = some (.int .u8 (xs.getD i 0))) (hby : Byt xs) (hn : n ≤ 1099511627776) (ht : Tab w) :
    Calls Tryd.prog 5 #[.slice (some ⟨b, o, none⟩) n cap] w fun e w' => e = .returned (.int .i64 ((4294967295 - crcL 4294967295 xs : Nat) : Int)) ∧ w' = w := by
  have HC : Hid (∀ i, i < n → w.cell? ⟨b, o + i, none⟩ = some (.int .u8 (xs.getD i 0))) := hc
  have HX : Hid (xs.length = n) := hx
  have HT : Hid (Tab w) := ht
  clear hc hx ht
  go_enter Tryd.func5, Tryd.ntmps5
  go_wp2
  go_loop [3, 8] (fun r i => ∃ k R : Nat, k ≤ n ∧ i = .int .i64 k ∧ Hid (R < M32) ∧ r = .int .u32 R ∧ Hid (R = crcL 4294967295 (xs.take k))) (fun _ i => n - (intOf i).toNat)
  case atStart => exact ⟨0, 4294967295, Nat.zero_le _, rfl, (by show _ < M32; decide), rfl, rfl⟩
  case round =>
    obtain ⟨k, R, hk, rfl, HR, rfl, HE⟩ := hrel
    by_cases hlt : k < n
    · obtain ⟨x, hx, hxe⟩ := byt_at hby k
      have hsrc : w.cell? ⟨b, o + k, none⟩ = some (.int .u8 (x : Int)) := by rw [← hxe]; exact HC.out k hlt
      have hltI : (k : Int) < (n : Int) := by omega
      obtain ⟨Y, hY, e1, y1⟩ := u32_xor_def R x HR.out (by unfold M32; omega)
      obtain ⟨I, hI, e2, y2⟩ := u32_low4 Y hY
      have c1 := HT.out I hI
      obtain ⟨T1, hT1⟩ : ∃ t, t = tabL.getD I 0 := ⟨_, rfl⟩
      rw [← hT1] at c1
      obtain ⟨Z, hZ, e3, y3⟩ := u32_xor_div Y T1 hY (by rw [hT1]; exact tabL_lt _)
      obtain ⟨J, hJ, e4, y4⟩ := u32_low4 Z hZ
      have c2 := HT.out J hJ
      obtain ⟨T2, hT2⟩ : ∃ t, t = tabL.getD J 0 := ⟨_, rfl⟩
      rw [← hT2] at c2
      obtain ⟨V, hV, e5, y5⟩ := u32_xor_div Z T2 hZ (by rw [hT2]; exact tabL_lt _)
      have HV : Hid (V = crcL 4294967295 (xs.take (k + 1))) := by
        show _ = _
        rw [take_snoc' xs k (by rw [HX.out]; exact hlt), crcL_snoc, ← HE.out, hxe, Int.toNat_natCast]
        have z1 : Z = cT4 Y := by rw [nibble, y3, hT1, y2]
        have v1 : V = cT4 Z := by rw [nibble, y5, hT2, y4]
        rw [v1, z1, y1]
        rfl
      have HVL : Hid (V < M32) := hV
      clear hV y1 y2 y3 y4 y5 hT1 hT2 hY hZ hxe HE HR
      go_wp2
      go_round
      case rel => exact ⟨k + 1, V, by omega, by go_num, HVL, rfl, HV⟩
      case measure => simp [intOf]; omega
    · go_wp2
      go_ret
      exact ⟨ret_int (by rw [not32 R HR.out, HE.out, List.take_of_length_le (by rw [HX.out]; omega)]), rfl⟩

set_option maxHeartbeats 400000 in
theorem implCrc_nil (w : World) (ao : Option Addr) (cap : Nat) :
    Calls Tryd.prog 5 #[.slice ao 0 cap] w fun e w' => e = .returned (.int .i64 0) ∧ w' = w := by
  go_enter Tryd.func5, Tryd.ntmps5
  go_wp2
  go_rounds 1
  go_ret
  exact ⟨ret_int (not32 4294967295 (by decide)), rfl⟩

theorem implCrc_any (w : World) (v : Value) (xs : List Int) (h : Rd .u8 w v xs) (hby : Byt xs) (hn : xs.length ≤ 1099511627776) (ht : Tab w) :
    Calls Tryd.prog 5 #[v] w fun e w' => e = .returned (.int .i64 ((4294967295 - crcL 4294967295 xs : Nat) : Int)) ∧ w' = w := by
  obtain ⟨ao, cap, rfl, h1, h2, h3⟩ := h
  rcases h3 with rfl | ⟨b, o, rfl, hb, hc⟩
  · exact implCrc_nil w ao cap
  · exact implCrc_row w b o xs.length cap xs rfl hc hby hn ht

set_option maxHeartbeats 400000 in
theorem specCrc_nil (w : World) (ao : Option Addr) (cap : Nat) :
    Calls Tryd.prog 6 #[.slice ao 0 cap] w fun e w' => e = .returned (.int .i64 0) ∧ w' = w := by
  go_enter Tryd.func6, Tryd.ntmps6
  go_wp2
  go_rounds 1
  go_ret
  exact ⟨rfl, rfl⟩

set_option maxHeartbeats 400000 in
set_option maxRecDepth 100000 in
theorem specCrc_row (w : World) (b o n cap : Nat) (xs : List Int) (hx : xs.length = n) (hc : ∀ i, i < n → w.cell? ⟨b, o + i, none⟩ = some (.int .u8 (xs.getD i 0))) (hby : Byt xs) (hn : n ≤ 1099511627776) :
    Calls Tryd.prog 6 #[.slice (some ⟨b, o, none⟩) n cap] w fun e w' => e = .returned (.int .i64 ((4294967295 - crcL 4294967295 xs : Nat) : Int)) ∧ w' = w := by
  have HC : Hid (∀ i, i < n → w.cell? ⟨b, o + i, none⟩ = some (.int .u8 (xs.getD i 0))) := hc
  have HX : Hid (xs.length = n) := hx
  clear hc hx
  go_enter Tryd.func6, Tryd.ntmps6
  go_wp2
  go_loop [3, 4] (fun r i => ∃ k R : Nat, k ≤ n ∧ i = .int .i64 k ∧ Hid (R < M32) ∧ r = .int .i64 R ∧ Hid (R = crcL 4294967295 (xs.take k))) (fun _ i => n - (intOf i).toNat)
  case atStart => exact ⟨0, 4294967295, Nat.zero_le _, rfl, (by show _ < M32; decide), rfl, rfl⟩
  case round =>
    obtain ⟨k, R, hk, rfl, HR, rfl, HE⟩ := hrel
    by_cases hlt : k < n
    · obtain ⟨x, hx, hxe⟩ := byt_at hby k
      have hsrc : w.cell? ⟨b, o + k, none⟩ = some (.int .u8 (x : Int)) := by rw [← hxe]; exact HC.out k hlt
      have hltI : (k : Int) < (n : Int) := by omega
      have HXE : Hid (xs.getD k 0 = (x : Int)) := hxe
      clear hxe
      go_wp2
      go_loop [3, 5] (fun r j => ∃ t S : Nat, t ≤ 8 ∧ j = .int .i64 t ∧ S ≤ 4294967295 ∧ r = .int .i64 S ∧ Hid (S = cS R x t)) (fun _ j => 8 - (intOf j).toNat)
      case atStart => exact ⟨0, R, by omega, rfl, by have := HR.out; unfold M32 at this; omega, rfl, rfl⟩
      case round =>
        obtain ⟨t, S, ht, rfl, hS, rfl, HS⟩ := hrel
        by_cases ht8 : t < 8
        · obtain ⟨D, hD, hDe, hDx⟩ := byte_shr x t hx
          have ht8I : (t : Int) < 8 := by omega
          obtain ⟨Z, hZ, hZe, hZx⟩ := i64_xor_half S hS
          by_cases hbit : (S + D) % 2 = 1
          · have hb : (((S : Int) + (D : Int)) % 2 == 1) = true := by rw [beq_iff_eq]; omega
            have HZ : Hid (Z = cS R x (t + 1)) := by
              show _ = _
              rw [cS, ← HS.out, ← hDx, if_pos hbit, hZx]; rfl
            clear hDx hZx hbit
            go_wp2
            go_round
            case rel => exact ⟨t + 1, Z, by omega, by go_num, hZ, rfl, HZ⟩
            case measure => simp [intOf]; omega
          · have hb : (((S : Int) + (D : Int)) % 2 == 1) = false := by rw [beq_eq_false_iff_ne]; omega
            have HZ : Hid (S / 2 = cS R x (t + 1)) := by
              show _ = _
              rw [cS, ← HS.out, ← hDx, if_neg hbit, Nat.xor_zero]
            clear hDx hZx hbit hZe
            go_wp2
            go_round
            case rel => exact ⟨t + 1, S / 2, by omega, by go_num, by omega, by go_num, HZ⟩
            case measure => simp [intOf]; omega
        · have ht9 : t = 8 := by omega
          subst ht9
          go_wp2
          go_round
          case rel => exact ⟨k + 1, S, by omega, by go_num, (by show S < M32; unfold M32; omega), rfl, (by show _ = _; rw [HS.out, cS_8 R x hx, take_snoc' xs k (by rw [HX.out]; exact hlt), crcL_snoc, ← HE.out, HXE.out, Int.toNat_natCast])⟩
          case measure => simp [intOf]; omega
    · have hR : R ≤ 4294967295 := by have := HR.out; unfold M32 at this; omega
      go_wp2
      go_ret
      exact ⟨ret_int (by rw [HE.out, List.take_of_length_le (by rw [HX.out]; omega)] at *; omega), rfl⟩

theorem specCrc_any (w : World) (v : Value) (xs : List Int) (h : Rd .u8 w v xs) (hby : Byt xs) (hn : xs.length ≤ 1099511627776) :
    Calls Tryd.prog 6 #[v] w fun e w' => e = .returned (.int .i64 ((4294967295 - crcL 4294967295 xs : Nat) : Int)) ∧ w' = w := by
  obtain ⟨ao, cap, rfl, h1, h2, h3⟩ := h
  rcases h3 with rfl | ⟨b, o, rfl, hb, hc⟩
  · exact specCrc_nil w ao cap
  · exact specCrc_row w b o xs.length cap xs rfl hc hby hn

end Go.Proofs.YtahapnlnnlcbkaaDoor
