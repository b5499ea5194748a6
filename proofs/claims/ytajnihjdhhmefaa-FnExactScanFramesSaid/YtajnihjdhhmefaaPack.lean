import Derived.Test.YtajnihjdhhmefaaBytes
import Derived.Test.YtajnihjdhhmefaaMath
namespace Go.Proofs.Ytajnihjdhhmefaa
open Go.RowKit

theorem u16_low7 (r : Int) (h0 : 0 ≤ r) (h1 : r < 65536) : bits .and .u16 r 127 = r % 128 := by
  rw [u16_and r 127 h0 h1 (by omega) (by omega)]
  rw [show ((127 : Int).toNat) = 127 from rfl, nat_mask7]
  omega

theorem u8_mark (x : Int) (h0 : 0 ≤ x) (h1 : x < 128) : bits .or .u8 128 x = 128 + x := by
  rw [u8_or 128 x (by omega) (by omega) h0 (by omega)]
  rw [show ((128 : Int).toNat) = 128 from rfl, nat_join 7 128 x.toNat (by decide) (by simp only [Nat.reducePow]; omega)]
  omega

set_option maxHeartbeats 400000 in
theorem groupByte_any (w : World) (r : Int) (h0 : 0 ≤ r) (h1 : r < 65536) : Calls Try.prog 68 #[.int .u16 r] w fun e w' => e = .returned (.int .u8 (128 + r % 128)) ∧ w' = w := by
  have e1 := u16_low7 r h0 h1
  have e2 := u8_mark (r % 128) (by omega) (by omega)
  go_enter Try.func68, Try.ntmps68
  go_wp2
  go_ret
  exact ⟨rfl, rfl⟩

def Byt (xs : List Int) : Prop := ∀ x ∈ xs, 0 ≤ x ∧ x < 256
theorem byt_at {xs : List Int} (h : Byt xs) (k : Nat) : ∃ x : Nat, x < 256 ∧ xs.getD k 0 = (x : Int) := by
  by_cases hk : k < xs.length
  · have := h xs[k] (List.getElem_mem hk)
    exact ⟨xs[k].toNat, by omega, by simp only [List.getD, List.getElem?_eq_getElem hk, Option.getD_some]; omega⟩
  · exact ⟨0, by omega, by simp [List.getD, show xs.length ≤ k by omega]⟩

theorem reg_in (R x A N : Nat) (hx : x < 256) (hA : A ≤ 6) (h : R % 2 ^ A = N % 2 ^ A) :
    ∃ R' : Nat, R' < 65536 ∧ bits .or .u16 (IntKind.u16.wrap ((R : Int) * 256)) (x : Int) = (R' : Int) ∧ R' % 2 ^ (A + 8) = (N * 256 + x) % 2 ^ (A + 8) := by
  have hs := reg_step R N x A 8 16 (by omega) h
  simp only [show (2 : Nat) ^ 8 = 256 from rfl, show (2 : Nat) ^ 16 = 65536 from rfl] at hs
  refine ⟨R * 256 % 65536 + x, by omega, ?_, hs⟩
  have e : IntKind.u16.wrap ((R : Int) * 256) = ((R * 256 % 65536 : Nat) : Int) := by rw [IntKind.wrap_u16]; omega
  rw [e, u16_or_nat _ _ (by omega) (by omega), nat_join 8 (R * 256 % 65536) x (by simp only [Nat.reducePow]; omega) (by simpa using hx)]

theorem shr_nonneg (R A : Nat) : (0 : Int) ≤ (R : Int) / 2 ^ A := Int.ediv_nonneg (by omega) (by exact_mod_cast Nat.zero_le _)
theorem shr_cast (R A : Nat) : (R : Int) / 2 ^ A = ((R / 2 ^ A : Nat) : Int) := by simp
theorem shr_lt (R A : Nat) (h : R < 65536) : (R : Int) / 2 ^ A < 65536 := by
  rw [shr_cast]
  have := Nat.div_le_self R (2 ^ A)
  omega

theorem reg_out (xs : List Int) (R A k q : Nat) (hk : k ≤ xs.length) (hq : 7 * q + (A + 7) = 8 * k) (h : R % 2 ^ (A + 7) = numW 8 (xs.take k) % 2 ^ (A + 7)) :
    (128 + (R : Int) / 2 ^ A % 128) = ((128 + dig 8 7 xs q : Nat) : Int) := by
  rw [shr_cast, dig_take 8 7 xs k q hk (by omega), show 8 * k - 7 * (q + 1) = A by omega, ← reg_dig R _ A 7 h]
  simp only [Nat.reducePow]
  omega

theorem wrap16 (x : Int) : 0 ≤ IntKind.u16.wrap x ∧ IntKind.u16.wrap x < 65536 := by rw [IntKind.wrap_u16]; omega
theorem reg_last (R N A : Nat) (hA : A ≤ 7) (h : R % 2 ^ A = N % 2 ^ A) : (128 + IntKind.u16.wrap ((R : Int) * 2 ^ (7 - A)) % 128) = ((128 + N % 2 ^ A * 2 ^ (7 - A) : Nat) : Int) := by
  have e : (R : Int) * 2 ^ (7 - A) = ((R * 2 ^ (7 - A) : Nat) : Int) := by simp
  rw [e, IntKind.wrap_u16]
  have e2 : R * 2 ^ (7 - A) % 128 = N % 2 ^ A * 2 ^ (7 - A) := by
    have e3 : 128 = 2 ^ A * 2 ^ (7 - A) := by rw [← Nat.pow_add, show A + (7 - A) = 7 by omega]
    conv => lhs; rw [e3]
    rw [Nat.mul_mod_mul_right, h]
  rw [← e2]
  generalize R * 2 ^ (7 - A) = z
  omega

def pkE (xs : List Int) (q : Nat) : List Int := (List.range q).map (fun j => ((128 + dig 8 7 xs j : Nat) : Int))

theorem pkE_len (xs : List Int) (q : Nat) : (pkE xs q).length = q := by simp [pkE]
theorem pk_even {xs : List Int} {q : Nat} (h : 7 * q + 0 = 8 * xs.length) : pk xs = pkE xs q := by
  unfold pk pkE
  rw [show 8 * xs.length / 7 = q by omega, if_pos (by omega), List.append_nil]
theorem pk_odd {xs : List Int} {q A : Nat} (h : 7 * q + A = 8 * xs.length) (h0 : 0 < A) (h6 : A ≤ 6) : pk xs = pkE xs q ++ [((128 + numW 8 xs % 2 ^ A * 2 ^ (7 - A) : Nat) : Int)] := by
  unfold pk pkE
  rw [show 8 * xs.length / 7 = q by omega, show 8 * xs.length % 7 = A by omega, if_neg (by omega)]
theorem own_of {k : IntKind} {e : TypeId} {w : World} {base q : Nat} {v : Value} {ys xs : List Int} (hl : ys.length = q) (he : xs = ys) (h : w.ownsRow base e 1 v q (ys.map (Value.int k))) : Own k e w base v xs := by
  subst he; unfold Own; rw [hl]; exact h

set_option maxHeartbeats 400000 in
set_option maxRecDepth 100000 in
theorem implPack_row (w : World) (b o n cap : Nat) (xs : List Int) (hx : xs.length = n) (hb : b < w.heap.size) (hc : ∀ i, i < n → w.cell? ⟨b, o + i, none⟩ = some (.int .u8 (xs.getD i 0))) (hby : Byt xs) (hn : n ≤ 1099511627776) :
    Calls Try.prog 38 #[.slice (some ⟨b, o, none⟩) n cap] w fun e w' => ∃ v', e = .returned v' ∧ Own .u8 5 w' w.heap.size v' (pk xs) ∧ Below w.heap.size w w' := by
  obtain ⟨i0, hi, hz0, hz1, hz2⟩ := info_parts Try.infoB
  have HC : Hid (∀ i, i < n → w.cell? ⟨b, o + i, none⟩ = some (.int .u8 (xs.getD i 0))) := hc
  have HX : Hid (xs.length = n) := hx
  clear hc hx
  go_enter Try.func38, Try.ntmps38
  go_wp2_with (at_make; refine wpList_make_own _ rfl _ _ 22 rfl w.heap.size 5 i0 (.int .u8 0) 1 Try.underlying22 hi hz0 hz1 _ _ _ ((8 * n + 6) / 7) rfl rfl ?b1 ?b2 ?b3 ?b4 ?_)
  case b1 => omega
  case b2 => rw [hz2]; omega
  case b3 => unfold maxLen; omega
  case b4 => exact Nat.le_refl _
  intro w1 hown hgrow
  go_wp2
  have HO : Hid (w1.ownsRow w.heap.size 5 1 (.slice (some ⟨w.heap.size, 0, none⟩) 0 ((8 * n + 6) / 7)) 0 []) := hown
  have HG : Hid (Below w.heap.size w w1) := (Below.refl _ _).grown hgrow (Nat.le_refl _) (by simp)
  clear hown hgrow
  go_loopw [3, 4, 5, 16] (fun v r a i wr => ∃ k q A R : Nat, k ≤ n ∧ i = .int .i64 k ∧ A ≤ 6 ∧ Hid (7 * q + A = 8 * k) ∧ a = .int .u8 A ∧ R < 65536 ∧ r = .int .u16 R ∧ Hid (R % 2 ^ A = numW 8 (xs.take k) % 2 ^ A) ∧
      v = .slice (some ⟨w.heap.size, 0, none⟩) q ((8 * n + 6) / 7) ∧ wr.ownsRow w.heap.size 5 1 (.slice (some ⟨w.heap.size, 0, none⟩) q ((8 * n + 6) / 7)) q ((pkE xs q).map (Value.int .u8)) ∧ Below w.heap.size w wr) (fun _ _ _ i _ => n - (intOf i).toNat)
  case atStart => exact ⟨0, 0, 0, 0, Nat.zero_le _, rfl, by omega, rfl, rfl, by omega, rfl, rfl, rfl, HO.out, HG.out⟩
  case round =>
    obtain ⟨k, q, A, R, hk, rfl, hA, HQ, rfl, hR, rfl, HR, rfl, ho, hg⟩ := hrel
    by_cases hlt : k < n
    · obtain ⟨x, hx, hxe⟩ := byt_at hby k
      have hsrc : wr.cell? ⟨b, o + k, none⟩ = some (.int .u8 (x : Int)) := by rw [← hxe]; exact (hg.cell (p := ⟨b, o + k, none⟩) hb).trans (HC.out k hlt)
      have hltI : (k : Int) < (n : Int) := by omega
      obtain ⟨R', hR', hreg, HR'⟩ := reg_in R x A (numW 8 (xs.take k)) hx hA HR.out
      have HN : Hid (numW 8 (xs.take (k + 1)) = numW 8 (xs.take k) * 256 + x) := by
        have := numW_take_succ 8 xs k (by rw [HX.out]; exact hlt)
        rw [hxe] at this
        show _ = _
        rw [this, Int.toNat_natCast, Nat.mod_eq_of_lt (show x < 2 ^ 8 from hx)]
      rw [← HN.out] at HR'
      have HR2 : Hid (R' % 2 ^ (A + 8) = numW 8 (xs.take (k + 1)) % 2 ^ (A + 8)) := HR'
      have HQ2 : Hid (7 * q + (A + 8) = 8 * (k + 1)) := by have := HQ.out; show _ = _; omega
      clear hxe HR' HR HN HQ
      go_wp2
      go_loopw [3, 5] (fun v a wr => ∃ q A : Nat, A ≤ 14 ∧ Hid (7 * q + A = 8 * (k + 1)) ∧ a = .int .u8 A ∧ Hid (R' % 2 ^ A = numW 8 (xs.take (k + 1)) % 2 ^ A) ∧
          v = .slice (some ⟨w.heap.size, 0, none⟩) q ((8 * n + 6) / 7) ∧ wr.ownsRow w.heap.size 5 1 (.slice (some ⟨w.heap.size, 0, none⟩) q ((8 * n + 6) / 7)) q ((pkE xs q).map (Value.int .u8)) ∧ Below w.heap.size w wr) (fun _ a _ => (intOf a).toNat)
      case atStart => exact ⟨q, A + 8, by omega, HQ2, by go_num, HR2, rfl, ho, hg⟩
      case round =>
        clear HQ2 HR2 ho hg hsrc hreg
        obtain ⟨q', A', hA', HQ', rfl, HR', rfl, ho, hg⟩ := hrel
        by_cases h7 : 7 ≤ A'
        · obtain ⟨A2, rfl⟩ : ∃ A2, A' = A2 + 7 := ⟨A' - 7, by omega⟩
          have h7I : (7 : Int) ≤ ((A2 + 7 : Nat) : Int) := by omega
          have HD : Hid ((128 + (R' : Int) / 2 ^ A2 % 128) = ((128 + dig 8 7 xs q' : Nat) : Int)) := reg_out xs R' A2 (k + 1) q' (by rw [HX.out]; omega) HQ'.out HR'.out
          have hcap : q' + 1 ≤ (8 * n + 6) / 7 := by have := HQ'.out; omega
          go_wp2_with fail
          refine (groupByte_any _ _ (shr_nonneg R' A2) (shr_lt R' A2 hR')).mono ?_
          rintro e wr ⟨rfl, rfl⟩
          go_wp2_with (at_builtin; refine wpList_append_fits _ rfl _ _ 22 rfl w.heap.size 5 i0 1 Try.underlying22 hi hz1 w.heap.size q' ((8 * n + 6) / 7) _ rfl (ho.alloc _) ⟨wr.heap.size, 0, none⟩ 1 1 [.int .u8 (128 + (R' : Int) / 2 ^ A2 % 128)] rfl rfl (cell_one_new _ _ _) (by intro u hu; simp at hu; subst hu; rfl) hcap ?_)
          intro w2 ho2 hg2
          have HO2 : Hid (w2.ownsRow w.heap.size 5 1 (.slice (some ⟨w.heap.size, 0, none⟩) (q' + 1) ((8 * n + 6) / 7)) (q' + 1) ((pkE xs (q' + 1)).map (Value.int .u8))) := by
            rw [HD.out] at ho2; unfold pkE; rw [range_snoc, List.map_append]; exact ho2
          have HG2 : Hid (Below w.heap.size w w2) := (hg.alloc (hg.size) _).grown hg2 (by have := hg.size; simp; omega) (by intro k hk; simp at hk; omega)
          clear ho2 hg2 ho hg
          go_wp2
          go_roundw
          case rel => exact ⟨q' + 1, A2, by omega, (by have := HQ'.out; show _ = _; omega), by go_num, mod_low (by omega) HR'.out, rfl, HO2.out, HG2.out⟩
          case measure => simp [intOf]; omega
        · have h7I : ((A' : Nat) : Int) < 7 := by omega
          go_wp2
          go_roundw
          case rel => exact ⟨k + 1, q', A', R', by omega, by go_num, by omega, HQ', rfl, hR', rfl, HR', rfl, ho, hg⟩
          case measure => simp [intOf]; omega
    · have hkn : k = n := by omega
      subst hkn
      by_cases hA0 : A = 0
      · subst hA0
        go_wp2
        go_ret
        exact ⟨_, rfl, own_of (pkE_len xs q) (pk_even (by rw [HX.out]; exact HQ.out)) ho, hg⟩
      · have hA1 : (0 : Int) < (A : Int) := by omega
        have HD : Hid ((128 + IntKind.u16.wrap ((R : Int) * 2 ^ (7 - A)) % 128) = ((128 + numW 8 xs % 2 ^ A * 2 ^ (7 - A) : Nat) : Int)) := reg_last R _ A (by omega) (by have := HR.out; rw [List.take_of_length_le (by rw [HX.out]; exact Nat.le_refl _)] at this; exact this)
        have hcap : q + 1 ≤ (8 * k + 6) / 7 := by have := HQ.out; omega
        go_wp2_with fail
        refine (groupByte_any _ _ (wrap16 _).1 (wrap16 _).2).mono ?_
        rintro e wr ⟨rfl, rfl⟩
        go_wp2_with (at_builtin; refine wpList_append_fits _ rfl _ _ 22 rfl w.heap.size 5 i0 1 Try.underlying22 hi hz1 w.heap.size q ((8 * k + 6) / 7) _ rfl (ho.alloc _) ⟨wr.heap.size, 0, none⟩ 1 1 [.int .u8 (128 + IntKind.u16.wrap ((R : Int) * 2 ^ (7 - A)) % 128)] rfl rfl (cell_one_new _ _ _) (by intro u hu; simp at hu; subst hu; rfl) hcap ?_)
        intro w2 ho2 hg2
        have HO2 : Hid (Own .u8 5 w2 w.heap.size (.slice (some ⟨w.heap.size, 0, none⟩) (q + 1) ((8 * k + 6) / 7)) (pk xs)) := by
          rw [HD.out] at ho2
          exact own_of (q := q + 1) (ys := pkE xs q ++ [((128 + numW 8 xs % 2 ^ A * 2 ^ (7 - A) : Nat) : Int)]) (by simp [pkE_len]) (pk_odd (by rw [HX.out]; exact HQ.out) (by omega) (by omega)) (by rw [List.map_append]; exact ho2)
        have HG2 : Hid (Below w.heap.size w w2) := (hg.alloc (hg.size) _).grown hg2 (by have := hg.size; simp; omega) (by intro k hk; simp at hk; omega)
        clear ho2 hg2 ho hg
        go_wp2
        go_ret
        exact ⟨_, rfl, HO2.out, HG2.out⟩

set_option maxHeartbeats 400000 in
theorem implPack_nil (w : World) (ao : Option Addr) (cap : Nat) :
    Calls Try.prog 38 #[.slice ao 0 cap] w fun e w' => ∃ v', e = .returned v' ∧ Own .u8 5 w' w.heap.size v' [] ∧ Below w.heap.size w w' := by
  obtain ⟨i0, hi, hz0, hz1, hz2⟩ := info_parts Try.infoB
  go_enter Try.func38, Try.ntmps38
  go_wp2_with (at_make; refine wpList_make_own _ rfl _ _ 22 rfl w.heap.size 5 i0 (.int .u8 0) 1 Try.underlying22 hi hz0 hz1 _ _ _ 0 rfl rfl ?b1 ?b2 ?b3 ?b4 ?_)
  case b1 => rfl
  case b2 => rw [hz2]; omega
  case b3 => unfold maxLen; omega
  case b4 => exact Nat.le_refl _
  intro w1 hown hgrow
  have HO : Hid (w1.ownsRow w.heap.size 5 1 (.slice (some ⟨w.heap.size, 0, none⟩) 0 0) 0 []) := hown
  have HG : Hid (Below w.heap.size w w1) := (Below.refl _ _).grown hgrow (Nat.le_refl _) (by simp)
  clear hown hgrow
  go_wp2
  go_rounds 1
  go_ret
  exact ⟨_, rfl, HO.out, HG.out⟩

theorem implPack_any (w : World) (v : Value) (xs : List Int) (h : Rd .u8 w v xs) (hby : Byt xs) (hn : xs.length ≤ 1099511627776) :
    Calls Try.prog 38 #[v] w fun e w' => ∃ v', e = .returned v' ∧ Own .u8 5 w' w.heap.size v' (pk xs) ∧ Below w.heap.size w w' := by
  obtain ⟨ao, cap, rfl, h1, h2, h3⟩ := h
  rcases h3 with rfl | ⟨b, o, rfl, hb, hc⟩
  · exact implPack_nil w ao cap
  · exact implPack_row w b o xs.length cap xs rfl hb hc hby hn

end Go.Proofs.Ytajnihjdhhmefaa
