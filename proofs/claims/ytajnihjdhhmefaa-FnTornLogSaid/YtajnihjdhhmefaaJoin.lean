import Derived.Test.YtajnihjdhhmefaaBits
import Derived.Test.YtajnihjdhhmefaaSame
namespace Go.Proofs.Ytajnihjdhhmefaa
open Go.RowKit

def upE (ps : List Int) (q : Nat) : List Int := (List.range q).map (fun j => ((dig 7 8 ps j : Nat) : Int))
theorem upE_len (ps : List Int) (q : Nat) : (upE ps q).length = q := by simp [upE]
theorem upE_succ (ps : List Int) (q : Nat) : upE ps (q + 1) = upE ps q ++ [((dig 7 8 ps q : Nat) : Int)] := range_snoc _ q
theorem upE_all {ps : List Int} {q : Nat} (h : q = 7 * ps.length / 8) : up ps = upE ps q := by subst h; rfl

theorem u8_low7 (x : Nat) (hx : x < 256) : bits .and .u8 (x : Int) 127 = ((x % 128 : Nat) : Int) := by
  rw [show (127 : Int) = ((127 : Nat) : Int) from rfl, u8_and_nat x 127 hx (by omega), nat_mask7]

theorem reg_in7 (R x A N : Nat) (hx : x < 128) (hA : A ≤ 7) (h : R % 2 ^ A = N % 2 ^ A) :
    ∃ R' : Nat, R' < 65536 ∧ bits .or .u16 (IntKind.u16.wrap ((R : Int) * 128)) (x : Int) = (R' : Int) ∧ R' % 2 ^ (A + 7) = (N * 128 + x) % 2 ^ (A + 7) := by
  have hs := reg_step R N x A 7 16 (by omega) h
  simp only [show (2 : Nat) ^ 7 = 128 from rfl, show (2 : Nat) ^ 16 = 65536 from rfl] at hs
  refine ⟨R * 128 % 65536 + x, by omega, ?_, hs⟩
  have e : IntKind.u16.wrap ((R : Int) * 128) = ((R * 128 % 65536 : Nat) : Int) := by rw [IntKind.wrap_u16]; omega
  rw [e, u16_or_nat _ _ (by omega) (by omega), nat_join 7 (R * 128 % 65536) x (by simp only [Nat.reducePow]; omega) (by simpa using hx)]

theorem reg_out8 (xs : List Int) (R A k q : Nat) (hk : k ≤ xs.length) (hq : 8 * q + (A + 8) = 7 * k) (h : R % 2 ^ (A + 8) = numW 7 (xs.take k) % 2 ^ (A + 8)) :
    IntKind.u8.wrap ((R : Int) / 2 ^ A) = ((dig 7 8 xs q : Nat) : Int) := by
  rw [IntKind.wrap_u8', shr_cast, dig_take 7 8 xs k q hk (by omega), show 7 * k - 8 * (q + 1) = A by omega, ← reg_dig R _ A 8 h]
  simp only [Nat.reducePow]
  omega

set_option maxHeartbeats 400000 in
set_option maxRecDepth 100000 in
theorem joinGroups_row (w : World) (b o n cap : Nat) (xs : List Int) (hx : xs.length = n) (hb : b < w.heap.size) (hc : ∀ i, i < n → w.cell? ⟨b, o + i, none⟩ = some (.int .u8 (xs.getD i 0))) (hby : Byt xs) (hn : n ≤ 1099511627776) :
    Calls Try.prog 82 #[.slice (some ⟨b, o, none⟩) n cap] w fun e w' => ∃ v', e = .returned v' ∧ Own .u8 5 w' w.heap.size v' (up xs) ∧ Below w.heap.size w w' := by
  obtain ⟨i0, hi, hz0, hz1, hz2⟩ := info_parts Try.infoB
  have HC : Hid (∀ i, i < n → w.cell? ⟨b, o + i, none⟩ = some (.int .u8 (xs.getD i 0))) := hc
  have HX : Hid (xs.length = n) := hx
  clear hc hx
  go_enter Try.func82, Try.ntmps82
  go_wp2_with (at_make; go_must (refine wpList_make_own _ rfl _ _ 22 rfl w.heap.size 5 i0 (.int .u8 0) 1 Try.underlying22 hi hz0 hz1 _ _ _ (n * 7 / 8) rfl rfl ?b1 ?b2 ?b3 ?b4 ?_))
  case b1 => omega
  case b2 => rw [hz2]; omega
  case b3 => unfold maxLen; omega
  case b4 => exact Nat.le_refl _
  intro w1 hown hgrow
  have HO : Hid (w1.ownsRow w.heap.size 5 1 (.slice (some ⟨w.heap.size, 0, none⟩) 0 (n * 7 / 8)) 0 []) := hown
  have HG : Hid (Below w.heap.size w w1) := (Below.refl _ _).grown hgrow (Nat.le_refl _) (by simp)
  clear hown hgrow
  go_wp2
  go_loopw [3, 4, 5, 15] (fun v r a i wr => ∃ k q A R : Nat, k ≤ n ∧ i = .int .i64 k ∧ A ≤ 7 ∧ Hid (8 * q + A = 7 * k) ∧ a = .int .u8 A ∧ R < 65536 ∧ r = .int .u16 R ∧ Hid (R % 2 ^ A = numW 7 (xs.take k) % 2 ^ A) ∧
      v = .slice (some ⟨w.heap.size, 0, none⟩) q (n * 7 / 8) ∧ wr.ownsRow w.heap.size 5 1 (.slice (some ⟨w.heap.size, 0, none⟩) q (n * 7 / 8)) q ((upE xs q).map (Value.int .u8)) ∧ Below w.heap.size w wr) (fun _ _ _ i _ => n - (intOf i).toNat)
  case atStart => exact ⟨0, 0, 0, 0, Nat.zero_le _, rfl, by omega, rfl, rfl, by omega, rfl, rfl, rfl, HO.out, HG.out⟩
  case round =>
    obtain ⟨k, q, A, R, hk, rfl, hA, HQ, rfl, hR, rfl, HR, rfl, ho, hg⟩ := hrel
    by_cases hlt : k < n
    · obtain ⟨x, hx, hxe⟩ := byt_at hby k
      have hsrc : wr.cell? ⟨b, o + k, none⟩ = some (.int .u8 (x : Int)) := by rw [← hxe]; exact (hg.cell (p := ⟨b, o + k, none⟩) hb).trans (HC.out k hlt)
      have hltI : (k : Int) < (n : Int) := by omega
      have hand := u8_low7 x hx
      have HN : Hid (numW 7 (xs.take (k + 1)) = numW 7 (xs.take k) * 128 + x % 128) := by
        have := numW_take_succ 7 xs k (by rw [HX.out]; exact hlt)
        rw [hxe] at this
        show _ = _
        rw [this, Int.toNat_natCast]
      generalize hy : x % 128 = y at *
      have hy7 : y < 128 := by omega
      obtain ⟨R', hR', hreg, HR'⟩ := reg_in7 R y A (numW 7 (xs.take k)) hy7 hA HR.out
      rw [← HN.out] at HR'
      have HR2 : Hid (R' % 2 ^ (A + 7) = numW 7 (xs.take (k + 1)) % 2 ^ (A + 7)) := HR'
      have HQ2 : Hid (8 * q + (A + 7) = 7 * (k + 1)) := by have := HQ.out; show _ = _; omega
      clear hxe HR' HR HN HQ hy
      by_cases h8 : 1 ≤ A
      · obtain ⟨A2, rfl⟩ : ∃ A2, A = A2 + 1 := ⟨A - 1, by omega⟩
        have h8I : (8 : Int) ≤ ((A2 + 1 : Nat) : Int) + 7 := by omega
        have HD : Hid (IntKind.u8.wrap ((R' : Int) / 2 ^ A2) = ((dig 7 8 xs q : Nat) : Int)) := reg_out8 xs R' A2 (k + 1) q (by rw [HX.out]; omega) (by have := HQ2.out; omega) HR2.out
        have hcap : q + 1 ≤ n * 7 / 8 := by have := HQ2.out; omega
        go_wp2_with (at_builtin; go_must (refine wpList_append_fits _ rfl _ _ 22 rfl w.heap.size 5 i0 1 Try.underlying22 hi hz1 w.heap.size q (n * 7 / 8) _ rfl (ho.alloc _) ⟨wr.heap.size, 0, none⟩ 1 1 [.int .u8 (IntKind.u8.wrap ((R' : Int) / 2 ^ A2))] rfl rfl (cell_one_new _ _ _) (by intro u hu; simp at hu; subst hu; rfl) hcap ?_))
        intro w2 ho2 hg2
        have HO2 : Hid (w2.ownsRow w.heap.size 5 1 (.slice (some ⟨w.heap.size, 0, none⟩) (q + 1) (n * 7 / 8)) (q + 1) ((upE xs (q + 1)).map (Value.int .u8))) := by
          rw [HD.out] at ho2; show World.ownsRow _ _ _ _ _ _ _; rw [upE_succ, List.map_append]; exact ho2
        have HG2 : Hid (Below w.heap.size w w2) := (hg.alloc (hg.size) _).grown hg2 (by have := hg.size; simp; omega) (by intro k hk; simp at hk; omega)
        clear ho2 hg2 ho hg
        go_wp2
        go_roundw
        case rel => exact ⟨k + 1, q + 1, A2, R', by omega, by go_num, by omega, (by have := HQ2.out; show _ = _; omega), by go_num, hR', rfl, mod_low (by omega) HR2.out, rfl, HO2.out, HG2.out⟩
        case measure => simp [intOf]; omega
      · have hA0 : A = 0 := by omega
        subst hA0
        go_wp2
        go_roundw
        case rel => exact ⟨k + 1, q, 7, R', by omega, by go_num, by omega, HQ2, by go_num, hR', rfl, HR2, rfl, ho, hg⟩
        case measure => simp [intOf]; omega
    · have hkn : k = n := by omega
      subst hkn
      go_wp2
      go_ret
      exact ⟨_, rfl, own_of (upE_len xs q) (upE_all (by rw [HX.out]; have := HQ.out; omega)) ho, hg⟩

set_option maxHeartbeats 400000 in
theorem joinGroups_nil (w : World) (ao : Option Addr) (cap : Nat) :
    Calls Try.prog 82 #[.slice ao 0 cap] w fun e w' => ∃ v', e = .returned v' ∧ Own .u8 5 w' w.heap.size v' [] ∧ Below w.heap.size w w' := by
  obtain ⟨i0, hi, hz0, hz1, hz2⟩ := info_parts Try.infoB
  go_enter Try.func82, Try.ntmps82
  go_wp2_with (at_make; go_must (refine wpList_make_own _ rfl _ _ 22 rfl w.heap.size 5 i0 (.int .u8 0) 1 Try.underlying22 hi hz0 hz1 _ _ _ 0 rfl rfl ?b1 ?b2 ?b3 ?b4 ?_))
  case b1 => rfl
  case b2 => rw [hz2]; omega
  case b3 => unfold maxLen; omega
  case b4 => exact Nat.le_refl _
  intro w1 hown hgrow
  have HO : Hid (w1.ownsRow w.heap.size 5 1 (.slice (some ⟨w.heap.size, 0, none⟩) 0 0) 0 []) := hown
  have HG : Hid (Below w.heap.size w w1) := (Below.refl _ _).grown hgrow (Nat.le_refl _) (by simp)
  clear hown hgrow
  go_wp2
  go_rounds 1
  go_ret
  exact ⟨_, rfl, HO.out, HG.out⟩

theorem joinGroups_any (w : World) (v : Value) (xs : List Int) (h : Rd .u8 w v xs) (hby : Byt xs) (hn : xs.length ≤ 1099511627776) :
    Calls Try.prog 82 #[v] w fun e w' => ∃ v', e = .returned v' ∧ Own .u8 5 w' w.heap.size v' (up xs) ∧ Below w.heap.size w w' := by
  obtain ⟨ao, cap, rfl, h1, h2, h3⟩ := h
  rcases h3 with rfl | ⟨b, o, rfl, hb, hc⟩
  · exact joinGroups_nil w ao cap
  · exact joinGroups_row w b o xs.length cap xs rfl hb hc hby hn

end Go.Proofs.Ytajnihjdhhmefaa
