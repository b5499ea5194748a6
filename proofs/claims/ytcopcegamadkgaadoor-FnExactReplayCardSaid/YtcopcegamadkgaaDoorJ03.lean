import Derived.Test.YtcopcegamadkgaaDoorJ01
import Derived.Test.YtcopcegamadkgaaDoorJ02
import Derived.Laws.BytesArg
import Derived.Lib.ConvBytes
import Derived.Deep.RegionHeld3
import Derived.Lib.AppendStr
import Derived.Lib.Bytealg
import Derived.Laws.Externs
import Derived.Defers
import Derived.Recover
namespace Go.Proofs.YtcopcegamadkgaaDoor
open Go.RowKit

theorem u16_low7 (r : Int) (h0 : 0 ≤ r) (h1 : r < 65536) : bits .and .u16 r 127 = r % 128 := by
  rw [u16_and r 127 h0 h1 (by omega) (by omega)]
  rw [show ((127 : Int).toNat) = 127 from rfl, nat_mask7]
  omega

theorem u8_mark (x : Int) (h0 : 0 ≤ x) (h1 : x < 128) : bits .or .u8 128 x = 128 + x := by
  rw [u8_or 128 x (by omega) (by omega) h0 (by omega)]
  rw [show ((128 : Int).toNat) = 128 from rfl, nat_join 7 128 x.toNat (by decide) (by simp only [Nat.reducePow]; omega)]
  omega

set_option maxHeartbeats 400000 in
theorem groupByte_any (w : World) (r : Int) (h0 : 0 ≤ r) (h1 : r < 65536) : Calls Tryd.prog 170 #[.int .u16 r] w fun e w' => e = .returned (.int .u8 (128 + r % 128)) ∧ w' = w := by
  have e1 := u16_low7 r h0 h1
  have e2 := u8_mark (r % 128) (by omega) (by omega)
  go_enter Tryd.func170, Tryd.ntmps170
  go_wp2
  go_ret
  exact ⟨rfl, rfl⟩

def Byt (xs : List Int) : Prop := ∀ x ∈ xs, 0 ≤ x ∧ x < 256
theorem byt_at {xs : List Int} (h : Byt xs) (k : Nat) : ∃ x : Nat, x < 256 ∧ xs.getD k 0 = (x : Int) := by
  by_cases hk : k < xs.length
  · have := h xs[k] (List.getElem_mem hk)
    exact ⟨xs[k].toNat, by omega, by simp only [List.getD, List.getElem?_eq_getElem hk, Option.getD_some]; omega⟩
  · exact ⟨0, by omega, by simp [List.getD, show xs.length ≤ k by omega]⟩

theorem reg_in (R x A N : Nat) (hx : x < 256) (hA : A ≤ 6) (h : R % 2 ^ A = N % 2 ^ A) :
    ∃ R' : Nat, R' < 65536 ∧ bits .or .u16 (IntKind.u16.wrap ((R : Int) * 256)) (x : Int) = (R' : Int) ∧ R' % 2 ^ (A + 8) = (N * 256 + x) % 2 ^ (A + 8) := by
  have hs := reg_step R N x A 8 16 (by omega) h
  simp only [show (2 : Nat) ^ 8 = 256 from rfl, show (2 : Nat) ^ 16 = 65536 from rfl] at hs
  refine ⟨R * 256 % 65536 + x, by omega, ?_, hs⟩
  have e : IntKind.u16.wrap ((R : Int) * 256) = ((R * 256 % 65536 : Nat) : Int) := by rw [IntKind.wrap_u16]; omega
  rw [e, u16_or_nat _ _ (by omega) (by omega), nat_join 8 (R * 256 % 65536) x (by simp only [Nat.reducePow]; omega) (by simpa using hx)]

theorem shr_nonneg (R A : Nat) : (0 : Int) ≤ (R : Int) / 2 ^ A := Int.ediv_nonneg (by omega) (by exact_mod_cast Nat.zero_le _)
theorem shr_cast (R A : Nat) : (R : Int) / 2 ^ A = ((R / 2 ^ A : Nat) : Int) := by simp
theorem shr_lt (R A : Nat) (h : R < 65536) : (R : Int) / 2 ^ A < 65536 := by
  rw [shr_cast]
  have := Nat.div_le_self R (2 ^ A)
  omega

theorem reg_out (xs : List Int) (R A k q : Nat) (hk : k ≤ xs.length) (hq : 7 * q + (A + 7) = 8 * k) (h : R % 2 ^ (A + 7) = numW 8 (xs.take k) % 2 ^ (A + 7)) :
    (128 + (R : Int) / 2 ^ A % 128) = ((128 + dig 8 7 xs q : Nat) : Int) := by
  rw [shr_cast, dig_take 8 7 xs k q hk (by omega), show 8 * k - 7 * (q + 1) = A by omega, ← reg_dig R _ A 7 h]
  simp only [Nat.reducePow]
  omega

theorem wrap16 (x : Int) : 0 ≤ IntKind.u16.wrap x ∧ IntKind.u16.wrap x < 65536 := by rw [IntKind.wrap_u16]; omega
theorem reg_last (R N A : Nat) (hA : A ≤ 7) (h : R % 2 ^ A = N % 2 ^ A) : (128 + IntKind.u16.wrap ((R : Int) * 2 ^ (7 - A)) % 128) = ((128 + N % 2 ^ A * 2 ^ (7 - A) : Nat) : Int) := by
  have e : (R : Int) * 2 ^ (7 - A) = ((R * 2 ^ (7 - A) : Nat) : Int) := by simp
  rw [e, IntKind.wrap_u16]
  have e2 : R * 2 ^ (7 - A) % 128 = N % 2 ^ A * 2 ^ (7 - A) := by
    have e3 : 128 = 2 ^ A * 2 ^ (7 - A) := by rw [← Nat.pow_add, show A + (7 - A) = 7 by omega]
    conv => lhs; rw [e3]
    rw [Nat.mul_mod_mul_right, h]
  rw [← e2]
  generalize R * 2 ^ (7 - A) = z
  omega

def pkE (xs : List Int) (q : Nat) : List Int := (List.range q).map (fun j => ((128 + dig 8 7 xs j : Nat) : Int))

theorem pkE_len (xs : List Int) (q : Nat) : (pkE xs q).length = q := by simp [pkE]
theorem pk_even {xs : List Int} {q : Nat} (h : 7 * q + 0 = 8 * xs.length) : pk xs = pkE xs q := by
  unfold pk pkE
  rw [show 8 * xs.length / 7 = q by omega, if_pos (by omega), List.append_nil]
theorem pk_odd {xs : List Int} {q A : Nat} (h : 7 * q + A = 8 * xs.length) (h0 : 0 < A) (h6 : A ≤ 6) : pk xs = pkE xs q ++ [((128 + numW 8 xs % 2 ^ A * 2 ^ (7 - A) : Nat) : Int)] := by
  unfold pk pkE
  rw [show 8 * xs.length / 7 = q by omega, show 8 * xs.length % 7 = A by omega, if_neg (by omega)]
theorem own_of {k : IntKind} {e : TypeId} {w : World} {base q : Nat} {v : Value} {ys xs : List Int} (hl : ys.length = q) (he : xs = ys) (h : w.ownsRow base e 1 v q (ys.map (Value.int k))) : Own k e w base v xs := by
  subst he; unfold Own; rw [hl]; exact h

set_option maxHeartbeats 400000 in
set_option maxRecDepth 100000 in
theorem implPack_row (w : World) (b o n cap : Nat) (xs : List Int) (hx : xs.length = n) (hb : b < w.heap.size) (hc : ∀ i, i < n → w.cell? ⟨b, o + i, none⟩ = some (.int .u8 (xs.getD i 0))) (hby : Byt xs) (hn : n ≤ 1099511627776) :
    Calls Tryd.prog 157 #[.slice (some ⟨b, o, none⟩) n cap] w fun e w' => ∃ v', e = .returned v' ∧ Own .u8 5 w' w.heap.size v' (pk xs) ∧ Below w.heap.size w w' := by
  obtain ⟨i0, hi, hz0, hz1, hz2⟩ := info_parts Tryd.infoB
  have HC : Hid (∀ i, i < n → w.cell? ⟨b, o + i, none⟩ = some (.int .u8 (xs.getD i 0))) := hc
  have HX : Hid (xs.length = n) := hx
  clear hc hx
  go_enter Tryd.func157, Tryd.ntmps157
  go_wp2_with (at_make; refine wpList_make_own _ rfl _ _ 24 rfl w.heap.size 5 i0 (.int .u8 0) 1 Tryd.underlying24 hi hz0 hz1 _ _ _ ((8 * n + 6) / 7) rfl rfl ?b1 ?b2 ?b3 ?b4 ?_)
  case b1 => omega
  case b2 => rw [hz2]; omega
  case b3 => unfold maxLen; omega
  case b4 => exact Nat.le_refl _
  intro w1 hown hgrow
  go_wp2
  have HO : Hid (w1.ownsRow w.heap.size 5 1 (.slice (some ⟨w.heap.size, 0, none⟩) 0 ((8 * n + 6) / 7)) 0 []) := hown
  have HG : Hid (Below w.heap.size w w1) := (Below.refl _ _).grown hgrow (Nat.le_refl _) (by simp)
  clear hown hgrow
  go_loopw [3, 4, 5, 16] (fun v r a i wr => ∃ k q A R : Nat, k ≤ n ∧ i = .int .i64 k ∧ A ≤ 6 ∧ Hid (7 * q + A = 8 * k) ∧ a = .int .u8 A ∧ R < 65536 ∧ r = .int .u16 R ∧ Hid (R % 2 ^ A = numW 8 (xs.take k) % 2 ^ A) ∧
      v = .slice (some ⟨w.heap.size, 0, none⟩) q ((8 * n + 6) / 7) ∧ wr.ownsRow w.heap.size 5 1 (.slice (some ⟨w.heap.size, 0, none⟩) q ((8 * n + 6) / 7)) q ((pkE xs q).map (Value.int .u8)) ∧ Below w.heap.size w wr) (fun _ _ _ i _ => n - (intOf i).toNat)
  case atStart => exact ⟨0, 0, 0, 0, Nat.zero_le _, rfl, by omega, rfl, rfl, by omega, rfl, rfl, rfl, HO.out, HG.out⟩
  case round =>
    obtain ⟨k, q, A, R, hk, rfl, hA, HQ, rfl, hR, rfl, HR, rfl, ho, hg⟩ := hrel
    by_cases hlt : k < n
    · obtain ⟨x, hx, hxe⟩ := byt_at hby k
      have hsrc : wr.cell? ⟨b, o + k, none⟩ = some (.int .u8 (x : Int)) := by rw [← hxe]; exact (hg.cell (p := ⟨b, o + k, none⟩) hb).trans (HC.out k hlt)
      have hltI : (k : Int) < (n : Int) := by omega
      obtain ⟨R', hR', hreg, HR'⟩ := reg_in R x A (numW 8 (xs.take k)) hx hA HR.out
      have HN : Hid (numW 8 (xs.take (k + 1)) = numW 8 (xs.take k) * 256 + x) := by
        have := numW_take_succ 8 xs k (by rw [HX.out]; exact hlt)
        rw [hxe] at this
        show _ = _
        rw [this, Int.toNat_natCast, Nat.mod_eq_of_lt (show x < 2 ^ 8 from hx)]
      rw [← HN.out] at HR'
      have HR2 : Hid (R' % 2 ^ (A + 8) = numW 8 (xs.take (k + 1)) % 2 ^ (A + 8)) := HR'
      have HQ2 : Hid (7 * q + (A + 8) = 8 * (k + 1)) := by have := HQ.out; show _ = _; omega
      clear hxe HR' HR HN HQ
      go_wp2
      go_loopw [3, 5] (fun v a wr => ∃ q A : Nat, A ≤ 14 ∧ Hid (7 * q + A = 8 * (k + 1)) ∧ a = .int .u8 A ∧ Hid (R' % 2 ^ A = numW 8 (xs.take (k + 1)) % 2 ^ A) ∧
          v = .slice (some ⟨w.heap.size, 0, none⟩) q ((8 * n + 6) / 7) ∧ wr.ownsRow w.heap.size 5 1 (.slice (some ⟨w.heap.size, 0, none⟩) q ((8 * n + 6) / 7)) q ((pkE xs q).map (Value.int .u8)) ∧ Below w.heap.size w wr) (fun _ a _ => (intOf a).toNat)
      case atStart => exact ⟨q, A + 8, by omega, HQ2, by go_num, HR2, rfl, ho, hg⟩
      case round =>
        clear HQ2 HR2 ho hg hsrc hreg
        obtain ⟨q', A', hA', HQ', rfl, HR', rfl, ho, hg⟩ := hrel
        by_cases h7 : 7 ≤ A'
        · obtain ⟨A2, rfl⟩ : ∃ A2, A' = A2 + 7 := ⟨A' - 7, by omega⟩
          have h7I : (7 : Int) ≤ ((A2 + 7 : Nat) : Int) := by omega
          have HD : Hid ((128 + (R' : Int) / 2 ^ A2 % 128) = ((128 + dig 8 7 xs q' : Nat) : Int)) := reg_out xs R' A2 (k + 1) q' (by rw [HX.out]; omega) HQ'.out HR'.out
          have hcap : q' + 1 ≤ (8 * n + 6) / 7 := by have := HQ'.out; omega
          go_wp2_with fail
          refine (groupByte_any _ _ (shr_nonneg R' A2) (shr_lt R' A2 hR')).mono ?_
          rintro e wr ⟨rfl, rfl⟩
          go_wp2_with (at_builtin; refine wpList_append_fits _ rfl _ _ 24 rfl w.heap.size 5 i0 1 Tryd.underlying24 hi hz1 w.heap.size q' ((8 * n + 6) / 7) _ rfl (ho.alloc _) ⟨wr.heap.size, 0, none⟩ 1 1 [.int .u8 (128 + (R' : Int) / 2 ^ A2 % 128)] rfl rfl (cell_one_new _ _ _) (by intro u hu; simp at hu; subst hu; rfl) hcap ?_)
          intro w2 ho2 hg2
          have HO2 : Hid (w2.ownsRow w.heap.size 5 1 (.slice (some ⟨w.heap.size, 0, none⟩) (q' + 1) ((8 * n + 6) / 7)) (q' + 1) ((pkE xs (q' + 1)).map (Value.int .u8))) := by
            rw [HD.out] at ho2; unfold pkE; rw [range_snoc, List.map_append]; exact ho2
          have HG2 : Hid (Below w.heap.size w w2) := (hg.alloc (hg.size) _).grown hg2 (by have := hg.size; simp; omega) (by intro k hk; simp at hk; omega)
          clear ho2 hg2 ho hg
          go_wp2
          go_roundw
          case rel => exact ⟨q' + 1, A2, by omega, (by have := HQ'.out; show _ = _; omega), by go_num, mod_low (by omega) HR'.out, rfl, HO2.out, HG2.out⟩
          case measure => simp [intOf]; omega
        · have h7I : ((A' : Nat) : Int) < 7 := by omega
          go_wp2
          go_roundw
          case rel => exact ⟨k + 1, q', A', R', by omega, by go_num, by omega, HQ', rfl, hR', rfl, HR', rfl, ho, hg⟩
          case measure => simp [intOf]; omega
    · have hkn : k = n := by omega
      subst hkn
      by_cases hA0 : A = 0
      · subst hA0
        go_wp2
        go_ret
        exact ⟨_, rfl, own_of (pkE_len xs q) (pk_even (by rw [HX.out]; exact HQ.out)) ho, hg⟩
      · have hA1 : (0 : Int) < (A : Int) := by omega
        have HD : Hid ((128 + IntKind.u16.wrap ((R : Int) * 2 ^ (7 - A)) % 128) = ((128 + numW 8 xs % 2 ^ A * 2 ^ (7 - A) : Nat) : Int)) := reg_last R _ A (by omega) (by have := HR.out; rw [List.take_of_length_le (by rw [HX.out]; exact Nat.le_refl _)] at this; exact this)
        have hcap : q + 1 ≤ (8 * k + 6) / 7 := by have := HQ.out; omega
        go_wp2_with fail
        refine (groupByte_any _ _ (wrap16 _).1 (wrap16 _).2).mono ?_
        rintro e wr ⟨rfl, rfl⟩
        go_wp2_with (at_builtin; refine wpList_append_fits _ rfl _ _ 24 rfl w.heap.size 5 i0 1 Tryd.underlying24 hi hz1 w.heap.size q ((8 * k + 6) / 7) _ rfl (ho.alloc _) ⟨wr.heap.size, 0, none⟩ 1 1 [.int .u8 (128 + IntKind.u16.wrap ((R : Int) * 2 ^ (7 - A)) % 128)] rfl rfl (cell_one_new _ _ _) (by intro u hu; simp at hu; subst hu; rfl) hcap ?_)
        intro w2 ho2 hg2
        have HO2 : Hid (Own .u8 5 w2 w.heap.size (.slice (some ⟨w.heap.size, 0, none⟩) (q + 1) ((8 * k + 6) / 7)) (pk xs)) := by
          rw [HD.out] at ho2
          exact own_of (q := q + 1) (ys := pkE xs q ++ [((128 + numW 8 xs % 2 ^ A * 2 ^ (7 - A) : Nat) : Int)]) (by simp [pkE_len]) (pk_odd (by rw [HX.out]; exact HQ.out) (by omega) (by omega)) (by rw [List.map_append]; exact ho2)
        have HG2 : Hid (Below w.heap.size w w2) := (hg.alloc (hg.size) _).grown hg2 (by have := hg.size; simp; omega) (by intro k hk; simp at hk; omega)
        clear ho2 hg2 ho hg
        go_wp2
        go_ret
        exact ⟨_, rfl, HO2.out, HG2.out⟩

set_option maxHeartbeats 400000 in
theorem implPack_nil (w : World) (ao : Option Addr) (cap : Nat) :
    Calls Tryd.prog 157 #[.slice ao 0 cap] w fun e w' => ∃ v', e = .returned v' ∧ Own .u8 5 w' w.heap.size v' [] ∧ Below w.heap.size w w' := by
  obtain ⟨i0, hi, hz0, hz1, hz2⟩ := info_parts Tryd.infoB
  go_enter Tryd.func157, Tryd.ntmps157
  go_wp2_with (at_make; refine wpList_make_own _ rfl _ _ 24 rfl w.heap.size 5 i0 (.int .u8 0) 1 Tryd.underlying24 hi hz0 hz1 _ _ _ 0 rfl rfl ?b1 ?b2 ?b3 ?b4 ?_)
  case b1 => rfl
  case b2 => rw [hz2]; omega
  case b3 => unfold maxLen; omega
  case b4 => exact Nat.le_refl _
  intro w1 hown hgrow
  have HO : Hid (w1.ownsRow w.heap.size 5 1 (.slice (some ⟨w.heap.size, 0, none⟩) 0 0) 0 []) := hown
  have HG : Hid (Below w.heap.size w w1) := (Below.refl _ _).grown hgrow (Nat.le_refl _) (by simp)
  clear hown hgrow
  go_wp2
  go_rounds 1
  go_ret
  exact ⟨_, rfl, HO.out, HG.out⟩

theorem implPack_any (w : World) (v : Value) (xs : List Int) (h : Rd .u8 w v xs) (hby : Byt xs) (hn : xs.length ≤ 1099511627776) :
    Calls Tryd.prog 157 #[v] w fun e w' => ∃ v', e = .returned v' ∧ Own .u8 5 w' w.heap.size v' (pk xs) ∧ Below w.heap.size w w' := by
  obtain ⟨ao, cap, rfl, h1, h2, h3⟩ := h
  rcases h3 with rfl | ⟨b, o, rfl, hb, hc⟩
  · exact implPack_nil w ao cap
  · exact implPack_row w b o xs.length cap xs rfl hb hc hby hn

end Go.Proofs.YtcopcegamadkgaaDoor

namespace Go.Proofs.YtcopcegamadkgaaDoor
open Go.RowKit

/-- Blocks of other types are as they were. -/
def KT (e : TypeId) (w w' : World) : Prop := w.heap.size ≤ w'.heap.size ∧ ∀ b, b < w.heap.size → (¬ ∃ cur, w.heap[b]? = some (.cells cur e (0, 0))) → w'.heap[b]? = w.heap[b]?
theorem KT.refl (e : TypeId) (w : World) : KT e w w := ⟨Nat.le_refl _, fun _ _ _ => rfl⟩
theorem KT.trans {e : TypeId} {w w1 w2 : World} (h : KT e w w1) (h2 : KT e w1 w2) : KT e w w2 :=
  ⟨Nat.le_trans h.1 h2.1, fun b hb hn => by
    have h3 := h.2 b hb hn
    rw [h2.2 b (Nat.lt_of_lt_of_le hb h.1) (by rw [h3]; exact hn), h3]⟩
theorem KT.below {e : TypeId} {w w1 w2 : World} (h : KT e w w1) (hb : Below w1.heap.size w1 w2) : KT e w w2 :=
  h.trans ⟨hb.size, fun b hb' _ => hb.block b hb'⟩
theorem KT.alloc {e : TypeId} {w w1 : World} (h : KT e w w1) (o : Obj) : KT e w (w1.alloc o) := h.below ((Below.refl _ _).alloc (Nat.le_refl _) o)
theorem KT.grown {e : TypeId} {w w1 w2 : World} {base size n : Nat} {v : Value} {xs : List Value} (h : KT e w w1) (ho : w1.ownsRow base e size v n xs) (hg : w1.grownBy w2 v.ownBlock) : KT e w w2 := by
  refine h.trans ⟨hg.size, fun b hb hn => hg.block b hb fun he => hn ?_⟩
  rcases ho.2 with ⟨rfl, -⟩ | ⟨g, cap, cur, rfl, -, hgg, -⟩
  · simp [Value.ownBlock] at he
  · simp only [Value.ownBlock, Option.some.injEq] at he
    subst he
    exact ⟨cur, hgg⟩

end Go.Proofs.YtcopcegamadkgaaDoor

namespace Go.Proofs.YtcopcegamadkgaaDoor
open Go.RowKit

theorem conv_any {w : World} {v : Value} {xs : List Int} (h : Rd .u8 w v xs) : (convert 24 9 v).run Tryd.prog w = .ok (.string (strOfNums xs)) w := by
  obtain ⟨ao, cap, rfl, h1, h2, h3⟩ := h
  rcases h3 with rfl | ⟨b, o, rfl, hb, hc⟩
  · cases ao with
    | none => exact run_convert_bytes_nil w _ _ Tryd.underlying24 Tryd.underlying5 0 cap _ Tryd.underlying9
    | some a =>
      rw [run_convert_bytes_string w _ _ _ _ _ _ Tryd.underlying24 Tryd.underlying5 Tryd.underlying9]
      exact run_bytesToString w a 0 cap [] (by simp [loadCells, loadCellsFrom])
  · exact run_convert_bytes_arg w _ _ Tryd.underlying24 Tryd.underlying5 b o _ cap xs rfl hc _ Tryd.underlying9

end Go.Proofs.YtcopcegamadkgaaDoor

namespace Go.Proofs.YtcopcegamadkgaaDoor
open Go.RowKit

theorem step_append {P : Program} {ops : Array Oper} {o : Oper} {a : Act} {w : World} {K : Act → World → Prop} {Q : Exit → Act → World → Prop} {E : Prop}
    (hg : o.guard = none) (s x : Operand) (t : TypeId) (hop : o.op = Op.call { callee := Callee.builtin Builtin.append, args := #[s, x], argTypes := #[t, t] })
    (base : Nat) (e : TypeId) (i : TypeInfo) (z : Value) (size bytes : Nat) (h1 : P.underlying t = some (.slice e)) (h2 : P.info? e = some i) (h3 : i.zero = some z) (h4 : i.size = size) (h5 : i.bytes = bytes) (h6 : z.cells.size = size) (h7 : 0 < size)
    (v : Value) (n : Nat) (xs : List Value) (hs : a.eval s = v) (hown : w.ownsRow base e size v n xs) (ad : Addr) (m c : Nat) (news : List Value) (hx : a.eval x = .slice (some ad) m c) (hn : news.length = m * size)
    (hc : ∀ j u, news[j]? = some u → w.cell? (ad.add j) = some u) (h1c : ∀ u ∈ news, u.oneCell' = true) (b1 : n + m ≤ maxLen) (b2 : (n + m) * bytes ≤ 140737488355328) (hb : base ≤ w.heap.size)
    (hK : ∀ v' w', w'.ownsRow base e size v' (n + m) (xs ++ news) → w.grownBy w' v.ownBlock → K (a.put o.dst v') w') :
    if Region.wanted o (yielded ops a.tmps) = true then Oper.wp P o a w K Q else E := by
  have hw : Region.wanted o (yielded ops a.tmps) = true := by simp [Region.wanted, hg]
  rw [if_pos hw]
  obtain ⟨v', w', hrun, r1, r2, _⟩ := run_append_own (P := P) w base t o.type e i z size bytes h1 h2 h3 h4 h5 h6 h7 v n xs hown ad m c news hn hc h1c b1 b2 hb
  unfold Oper.wp
  simp [execOp, hop, resolve, invoke, builtin, hs, hx, hrun, Result.andThen]
  exact hK v' w' r1 r2

end Go.Proofs.YtcopcegamadkgaaDoor

namespace Go.Proofs.YtcopcegamadkgaaDoor
open Go.RowKit

theorem splA_tot : ∀ l cur : List UInt8, ((splA cur l).map List.length).sum + (splA cur l).length = cur.length + l.length + 1
  | [], cur => by simp [splA]
  | x :: l, cur => by
    by_cases h : x = 47
    · subst h
      have := splA_tot l []
      rw [splA_sl]
      simp only [List.map_cons, List.sum_cons, List.length_cons, List.length_nil] at this ⊢
      omega
    · have := splA_tot l (cur ++ [x])
      rw [splA_ch h]
      simp only [List.length_append, List.length_cons, List.length_nil] at this ⊢
      omega
theorem sum_le (m : Nat) : ∀ L : List (List UInt8), (∀ x ∈ L, x.length ≤ m) → (L.map List.length).sum ≤ L.length * m
  | [], _ => by simp
  | x :: L, h => by
    have h1 := h x (by simp)
    have h2 := sum_le m L (fun y hy => h y (by simp [hy]))
    rw [List.map_cons, List.sum_cons, List.length_cons, Nat.add_mul]
    omega
theorem okL_len {l : List UInt8} (h : okL l = true) : l.length ≤ 16 := by
  unfold okL okN at h
  simp only [Bool.and_eq_true, decide_eq_true_eq] at h
  have h2 : (ByteArray.mk l.toArray).size = l.length := rfl
  omega
theorem okPath_size {s : ByteArray} (h : okPath s = true) : s.size ≤ 102 := by
  have hs : s.data.toList.length = s.size := by rw [Array.length_toList]; rfl
  unfold okPath at h
  simp only [Bool.or_eq_true, Bool.and_eq_true, decide_eq_true_eq] at h
  rcases h with h | ⟨⟨⟨h1, h2⟩, h3⟩, h4⟩
  · rw [h] at hs; simp at hs; omega
  · have h5 := splA_tot (s.data.toList.drop 1) []
    have h6 := sum_le 16 (nm s) (fun x hx => okL_len (List.all_eq_true.1 h4 x hx))
    unfold nm at h3 h6
    rw [List.length_drop, hs] at h5
    simp only [List.length_nil] at h5
    omega

theorem okNd_all {n : Nd} (h : okNd n = true) : n.path.size ≤ 102 ∧ n.data.size ≤ 64 ∧ (0 ≤ n.ver ∧ n.ver ≤ 2147483647) ∧ (0 ≤ n.cver ∧ n.cver ≤ 2147483647) ∧ (0 ≤ n.cz ∧ n.cz ≤ 2147483647) ∧ (0 ≤ n.mz ∧ n.mz ≤ 2147483647) ∧ (0 ≤ n.pz ∧ n.pz ≤ 2147483647) := by
  unfold okNd okS at h
  simp only [Bool.and_eq_true, decide_eq_true_eq] at h
  obtain ⟨⟨⟨⟨⟨⟨h1, h2⟩, h3⟩, h4⟩, h5⟩, h6⟩, h7⟩ := h
  exact ⟨okPath_size h1, h2, h3, h4, h5, h6, h7⟩

theorem okTree_nd {ns : List Nd} (h : okTree ns = true) (k : Nat) (hk : k < ns.length) : okNd (nAt ns k) = true := by
  unfold okTree okSorted at h
  simp only [Bool.and_eq_true] at h
  have := List.all_eq_true.1 h.2 k (by simpa using hk)
  unfold okAt at this
  simp only [Bool.and_eq_true] at this
  exact this.1
theorem okTree_len {ns : List Nd} (h : okTree ns = true) : ns.length ≤ 1000 := by
  unfold okTree at h
  simp only [Bool.and_eq_true, decide_eq_true_eq] at h
  exact h.1
end Go.Proofs.YtcopcegamadkgaaDoor

namespace Go.Proofs.YtcopcegamadkgaaDoor
open Go.RowKit Go.Shelf

theorem cmp_lt : ∀ a b : List UInt8, (Lib.compareBytes a b < 0) ↔ Op.bytesLess a b = true
  | [], [] => by simp [Lib.compareBytes, Op.bytesLess]
  | [], _ :: _ => by simp [Lib.compareBytes, Op.bytesLess]
  | _ :: _, [] => by simp [Lib.compareBytes, Op.bytesLess]
  | a :: l, b :: m => by
    unfold Lib.compareBytes Op.bytesLess
    by_cases h1 : a < b
    · simp [h1]
    · by_cases h2 : b < a
      · have h3 : ¬ a = b := fun e => by subst e; exact absurd h2 h1
        simp [h1, h2, h3]
      · have h3 : a = b := UInt8.le_antisymm (UInt8.not_lt.1 h2) (UInt8.not_lt.1 h1)
        subst h3
        simp [h1, cmp_lt l m]
theorem cmp_eq0 : ∀ a b : List UInt8, (Lib.compareBytes a b = 0) ↔ a = b
  | [], [] => by simp [Lib.compareBytes]
  | [], _ :: _ => by simp [Lib.compareBytes]
  | _ :: _, [] => by simp [Lib.compareBytes]
  | a :: l, b :: m => by
    unfold Lib.compareBytes
    by_cases h1 : a < b
    · have h3 : ¬ a = b := fun e => by subst e; exact absurd h1 (UInt8.lt_irrefl _)
      simp [h1, h3]
    · by_cases h2 : b < a
      · have h3 : ¬ a = b := fun e => by subst e; exact absurd h2 h1
        simp [h1, h2, h3]
      · have h3 : a = b := UInt8.le_antisymm (UInt8.not_lt.1 h2) (UInt8.not_lt.1 h1)
        subst h3
        simp [h1, cmp_eq0 l m]
/-- How two texts stand to one another. -/
def cmpP (a b : ByteArray) : Int := Lib.compareBytes a.data.toList b.data.toList

set_option maxHeartbeats 400000 in
set_option maxRecDepth 100000 in
theorem cmpStr_any (w : World) (a b : ByteArray) :
    Calls Tryd.prog 171 #[.string a, .string b] w fun e w' => e = .returned (.int .i64 (cmpP a b)) ∧ w' = w := by
  go_enter Tryd.func171, Tryd.ntmps171
  go_wp2
  rw [run_callFunc_extern Tryd.func174 (by kernel_rfl) (by kernel_rfl) (by kernel_rfl) (e := Extern.BytealgCompare.compare) (by kernel_rfl), Lib.run_compareString]
  simp only [Result.andThen]
  rw [Oper.upon_value]
  go_wp2
  go_ret
  exact ⟨rfl, rfl⟩

set_option maxHeartbeats 400000 in
theorem compare_any (w : World) (a b : ByteArray) :
    Calls Tryd.prog 160 #[.string a, .string b] w fun e w' => e = .returned (.int .i64 (cmpP a b)) ∧ w' = w := by
  go_enter Tryd.func160, Tryd.ntmps160
  go_wp2_with fail
  refine (cmpStr_any w a b).mono ?_
  rintro e w1 ⟨rfl, rfl⟩
  go_wp2
  go_ret
  exact ⟨rfl, rfl⟩

set_option maxHeartbeats 400000 in
theorem find1_any (w : World) (n : Nd) (p : ByteArray) :
    Calls Tryd.prog 159 #[.agg #[.string n.path, .string n.data, .int .i64 n.ver, .int .i64 n.cver, .int .i64 n.cz, .int .i64 n.mz, .int .i64 n.pz], .string p] w fun e w' => e = .returned (.int .i64 (cmpP n.path p)) ∧ Below w.heap.size w w' := by
  have B0 : Hid (Below w.heap.size w (w.alloc (.cells #[.string n.path, .string n.data, .int .i64 n.ver, .int .i64 n.cver, .int .i64 n.cz, .int .i64 n.mz, .int .i64 n.pz] 84))) := (Below.refl _ _).alloc (Nat.le_refl _) _
  go_enter Tryd.func159, Tryd.ntmps159
  go_wp2_with fail
  generalize w.alloc (.cells #[.string n.path, .string n.data, .int .i64 n.ver, .int .i64 n.cver, .int .i64 n.cz, .int .i64 n.mz, .int .i64 n.pz] 84) = w0 at *
  refine (compare_any w0 n.path p).mono ?_
  rintro e w1 ⟨rfl, hw⟩
  obtain rfl : w0 = w1 := hw.symm
  go_wp2
  go_ret
  exact ⟨rfl, B0.out⟩

end Go.Proofs.YtcopcegamadkgaaDoor

namespace Go.Proofs.YtcopcegamadkgaaDoor
open Go.RowKit Go.Shelf

/-- The place of a path in a row in order. -/
def Low (ns : List Nd) (p : ByteArray) (L : Nat) : Prop := L ≤ ns.length ∧ (∀ i, i < L → cmpP (nAt ns i).path p < 0) ∧ ∀ i, L ≤ i → i < ns.length → ¬ cmpP (nAt ns i).path p < 0
def fnd (ns : List Nd) (p : ByteArray) (L : Nat) : Bool := decide (L < ns.length) && (cmpP (nAt ns L).path p == 0)

set_option maxHeartbeats 1000000 in
set_option maxRecDepth 100000 in
theorem bs_row (w : World) (b o n cap L : Nat) (ns : List Nd) (p : ByteArray) (hp : ns.length = n) (hn : n ≤ 1000) (hb : b < w.heap.size) (hc : ∀ i, i < n → CellsN w b (o + i * 7) (nAt ns i)) (hL : Low ns p L) :
    Calls Tryd.prog 158 #[.slice (some ⟨b, o, none⟩) n cap, .string p, .func (.func 159) #[] #[]] w fun e w' => e = .returned (.tuple #[.int .i64 (L : Int), .bool (fnd ns p L)]) ∧ Below w.heap.size w w' := by
  obtain ⟨l1, l2, l3⟩ := hL
  have HC : Hid (∀ i, i < n → CellsN w b (o + i * 7) (nAt ns i)) := hc
  have HP : Hid (ns.length = n) := hp
  have H2 : Hid (∀ i, i < L → cmpP (nAt ns i).path p < 0) := l2
  have H3 : Hid (∀ i, L ≤ i → i < ns.length → ¬ cmpP (nAt ns i).path p < 0) := l3
  rw [hp] at l1
  clear hc hp l2 l3
  go_enter Tryd.func158, Tryd.ntmps158
  go_wp2
  go_loopw [9, 10] (fun vi vj wr => ∃ i j : Nat, i ≤ L ∧ L ≤ j ∧ j ≤ n ∧ vi = .int .i64 i ∧ vj = .int .i64 j ∧ Hid (Below w.heap.size w wr)) (fun i j _ => (intOf j - intOf i).toNat)
  case atStart => exact ⟨0, n, Nat.zero_le _, l1, Nat.le_refl _, rfl, rfl, Below.refl _ _⟩
  case round =>
    obtain ⟨i, j, hi, hj, hjn, rfl, rfl, HB⟩ := hrel
    by_cases hlt : i < j
    · have hltI : (i : Int) < (j : Int) := by omega
      obtain ⟨h, hh⟩ : ∃ h : Nat, h = (i + j) / 2 := ⟨_, rfl⟩
      have hI : ((i : Int) + (j : Int)) / 2 = (h : Int) := by omega
      have h1 : i ≤ h := by omega
      have h2 : h < j := by omega
      have h3 : h < n := by omega
      clear hh
      obtain ⟨c0, c1, c2, c3, c4, c5, c6⟩ := (HC.out h h3).below HB.out hb
      go_wp2_with fail
      refine (find1_any wr (nAt ns h) p).mono ?_
      rintro e w1 ⟨rfl, b1⟩
      have B1 : Hid (Below w.heap.size w w1) := HB.out.trans (b1.mono HB.out.size)
      clear b1 c0 c1 c2 c3 c4 c5 c6 HB
      by_cases hc : cmpP (nAt ns h).path p < 0
      · have hhL : h < L := by
          by_cases hh : h < L
          · exact hh
          · exact absurd hc (by have := H3.out h (by omega) (by rw [HP.out]; exact h3); omega)
        go_wp2
        exact ⟨⟨h + 1, j, by omega, hj, hjn, by go_num, rfl, B1⟩, by simp [intOf]; omega⟩
      · have hhL : L ≤ h := by
          by_cases hh : h < L
          · exact absurd (H2.out h hh) hc
          · omega
        go_wp2
        exact ⟨⟨i, h, hi, hhL, by omega, rfl, by go_num, B1⟩, by simp [intOf]; omega⟩
    · have hiL : i = L := by omega
      subst hiL
      have hnI : ¬ (i : Int) < (j : Int) := by omega
      by_cases hLn : i < n
      · have hLI : (i : Int) < (n : Int) := by omega
        have HF : Hid (fnd ns p i = (cmpP (nAt ns i).path p == 0)) := by show _ = _; unfold fnd; rw [HP.out, decide_eq_true hLn]; rfl
        obtain ⟨c0, c1, c2, c3, c4, c5, c6⟩ := (HC.out i hLn).below HB.out hb
        go_wp2_with fail
        refine (find1_any wr (nAt ns i) p).mono ?_
        rintro e w1 ⟨rfl, b1⟩
        have B1 : Hid (Below w.heap.size w w1) := HB.out.trans (b1.mono HB.out.size)
        clear b1 c0 c1 c2 c3 c4 c5 c6 HB
        go_wp2
        refine bodyPost_ret (v := .tuple #[.int .i64 (i : Int), .bool (cmpP (nAt ns i).path p == 0)]) (by simp [results, Tryd.results158, go_sem]) rfl ⟨by rw [HF.out], B1.out⟩
      · have hLI : ¬ (i : Int) < (n : Int) := by omega
        have HF : Hid (fnd ns p i = false) := by show _ = _; unfold fnd; rw [HP.out, decide_eq_false hLn]; rfl
        go_wp2
        refine bodyPost_ret (v := .tuple #[.int .i64 (i : Int), .bool false]) (by simp [results, Tryd.results158, go_sem]) rfl ⟨by rw [HF.out], HB.out⟩

set_option maxHeartbeats 400000 in
theorem bs_nil (w : World) (ao : Option Addr) (cap : Nat) (p : ByteArray) :
    Calls Tryd.prog 158 #[.slice ao 0 cap, .string p, .func (.func 159) #[] #[]] w fun e w' => e = .returned (.tuple #[.int .i64 0, .bool false]) ∧ w' = w := by
  go_enter Tryd.func158, Tryd.ntmps158
  go_wp2
  go_rounds 1
  refine bodyPost_ret (v := .tuple #[.int .i64 0, .bool false]) (by simp [results, Tryd.results158, go_sem]) rfl ⟨rfl, rfl⟩

set_option maxHeartbeats 400000 in
theorem findNode_any (w : World) (v : Value) (ns : List Nd) (p : ByteArray) (L : Nat) (h : RdN w v ns) (hn : ns.length ≤ 1000) (hL : Low ns p L) :
    Calls Tryd.prog 142 #[v, .string p] w fun e w' => e = .returned (.tuple #[.int .i64 (L : Int), .bool (fnd ns p L)]) ∧ Below w.heap.size w w' := by
  have H : Hid (Calls Tryd.prog 158 #[v, .string p, .func (.func 159) #[] #[]] w fun e w' => e = .returned (.tuple #[.int .i64 (L : Int), .bool (fnd ns p L)]) ∧ Below w.heap.size w w') := by
    obtain ⟨ao, cap, rfl, h1, h2, h3⟩ := h
    rcases h3 with rfl | ⟨b, o, rfl, hb, hc⟩
    · have hL0 : L = 0 := by have := hL.1; simpa using this
      subst hL0
      refine (bs_nil w ao cap p).mono ?_
      rintro e w' ⟨rfl, rfl⟩
      exact ⟨rfl, Below.refl _ _⟩
    · exact bs_row w b o ns.length cap L ns p rfl hn hb hc hL
  clear h hL
  go_enter Tryd.func142, Tryd.ntmps142
  go_wp2_with fail
  refine H.out.mono ?_
  rintro e w1 ⟨rfl, b1⟩
  have B1 : Hid (Below w.heap.size w w1) := b1
  clear b1 H
  go_wp2
  refine bodyPost_ret (v := .tuple #[.int .i64 (L : Int), .bool (fnd ns p L)]) (by simp [results, Tryd.results142, go_sem]) rfl ⟨rfl, B1.out⟩

end Go.Proofs.YtcopcegamadkgaaDoor

namespace Go.Proofs.YtcopcegamadkgaaDoor
open Go.RowKit

theorem ofInt_wrap64 (x : Nat) : (BitVec.ofInt 64 (wrap64 (x : Int))).toNat = x % 18446744073709551616 := by
  rw [BitVec.toNat_ofInt]
  unfold wrap64
  omega

theorem i64_join (x b : Nat) (hb : b < 256) : bits .or .i64 (wrap64 ((x : Int) * 256)) (b : Int) = wrap64 (((x * 256 + b : Nat) : Int)) := by
  show IntKind.i64.wrap ((BitVec.ofInt 64 (wrap64 ((x : Int) * 256)) ||| BitVec.ofInt 64 (b : Int)).toNat : Int) = _
  have e1 : (BitVec.ofInt 64 (wrap64 ((x : Int) * 256))).toNat = x * 256 % 18446744073709551616 := by
    have := ofInt_wrap64 (x * 256)
    rw [Int.natCast_mul] at this
    exact this
  have e2 : (BitVec.ofInt 64 (b : Int)).toNat = b := by
    rw [BitVec.ofInt_natCast, BitVec.toNat_ofNat]; exact Nat.mod_eq_of_lt (by omega)
  rw [BitVec.toNat_or, e1, e2, nat_join 8 (x * 256 % 18446744073709551616) b (by simp only [Nat.reducePow]; omega) (by simpa using hb), IntKind.wrap_i64]
  unfold wrap64
  omega

/-- The wrap of a number that was wrapped and moved. -/
theorem wrap64_shl (x : Nat) : wrap64 (wrap64 (x : Int) * 256) = wrap64 ((x : Int) * 256) := by unfold wrap64; omega

end Go.Proofs.YtcopcegamadkgaaDoor

namespace Go.Proofs.YtcopcegamadkgaaDoor
open Go.RowKit

def badChain : List PanicEntry := [{ v := .iface 146 (.agg #[]), recovered := false }]

set_option maxHeartbeats 400000 in
set_option maxRecDepth 100000 in
theorem take_bad (w : World) (k n c m : Nat) (ao : Option Addr) (h0 : w.cell? ⟨k, 0, none⟩ = some (.slice ao n c)) (hm : n < m) :
    Calls Tryd.prog 132 #[.pointer (some ⟨k, 0, none⟩), .int .i64 m] w fun e w' => e = .panicked badChain ∧ w' = w := by
  have hI : (n : Int) < (m : Int) := by omega
  go_enter Tryd.func132, Tryd.ntmps132
  go_wp2
  exact ⟨rfl, rfl, rfl⟩

def TakePost (w : World) (k b o n c m : Nat) (e : Ending) (w' : World) : Prop := e = .returned (.slice (some ⟨b, o, none⟩) m c) ∧ ∃ o', (o' = o + m ∨ n = m) ∧ w' = w.setCell ⟨k, 0, none⟩ (.slice (some ⟨b, o', none⟩) (n - m) (c - m))

set_option maxHeartbeats 400000 in
set_option maxRecDepth 100000 in
theorem take_ok (w : World) (k b o n c m : Nat) (h0 : w.cell? ⟨k, 0, none⟩ = some (.slice (some ⟨b, o, none⟩) n c)) (hz : w.frozen? ⟨k, 0, none⟩ = false) (hm : m ≤ n) (hm0 : 0 < m) (hc : n ≤ c) :
    Calls Tryd.prog 132 #[.pointer (some ⟨k, 0, none⟩), .int .i64 m] w fun e w' => TakePost w k b o n c m e w' := by
  have hI : ¬ (n : Int) < (m : Int) := by omega
  by_cases hcm : c = m
  · subst hcm
    go_enter Tryd.func132, Tryd.ntmps132
    go_wp2
    go_ret
    exact ⟨rfl, o, .inr (by omega), by rw [Nat.sub_self, show n - c = 0 by omega]⟩
  · have hcm' : m < c := by omega
    go_enter Tryd.func132, Tryd.ntmps132
    go_wp2
    go_ret
    exact ⟨rfl, o + m, .inl rfl, rfl⟩

/-- A reader: what is left of the bytes, in the world from before. -/
def RS (w0 w : World) (k : Nat) (ys : List Int) : Prop :=
  w0.heap.size ≤ k ∧ k < w.heap.size ∧ w.frozen? ⟨k, 0, none⟩ = false ∧ Below w0.heap.size w0 w ∧ ∃ v, w.cell? ⟨k, 0, none⟩ = some v ∧ Rd .u8 w0 v ys

theorem RS.drewN {w0 w : World} {k : Nat} {ys : List Int} (h : RS w0 w k ys) (q : Nat) : RS w0 (w.drewN q) k ys :=
  ⟨h.1, h.2.1, h.2.2.1, h.2.2.2.1.trans ((below_drewN' w q).mono h.2.2.2.1.size), h.2.2.2.2⟩

theorem RS.keep {w0 w w' : World} {k B : Nat} {ys : List Int} (h : RS w0 w k ys) (hb : Below B w w') (hk : k < B) : RS w0 w' k ys := by
  obtain ⟨h1, h2, h3, h4, v, h5, h6⟩ := h
  exact ⟨h1, Nat.lt_of_lt_of_le h2 hb.size, (hb.frozen (p := ⟨k, 0, none⟩) hk).trans h3, h4.trans (hb.mono (by omega)), v, (hb.cell (p := ⟨k, 0, none⟩) hk).trans h5, h6⟩

theorem RS.set {w0 w : World} {k : Nat} {ys zs : List Int} {v : Value} (h : RS w0 w k ys) (hv : Rd .u8 w0 v zs) : RS w0 (w.setCell ⟨k, 0, none⟩ v) k zs := by
  obtain ⟨h1, h2, h3, h4, u, h5, h6⟩ := h
  refine ⟨h1, by simpa using h2, ?_, h4.setCell h1 _, v, World.cell?_setCell_same _ _ _ h5, hv⟩
  rw [World.frozen?_setCell]; exact h3

theorem Rd.split {k : IntKind} {w : World} {b o n c : Nat} {ys : List Int} (h : Rd k w (.slice (some ⟨b, o, none⟩) n c) ys) (m : Nat) (hm : m ≤ n) (hm0 : 0 < m) :
    Rd k w (.slice (some ⟨b, o, none⟩) m c) (ys.take m) ∧ ∀ o', (o' = o + m ∨ n = m) → Rd k w (.slice (some ⟨b, o', none⟩) (n - m) (c - m)) (ys.drop m) := by
  obtain ⟨ao, cap, e, h1, h2, h3⟩ := h
  simp only [Value.slice.injEq] at e
  obtain ⟨rfl, rfl, rfl⟩ := e
  rcases h3 with rfl | ⟨b', o', e', hb, hc⟩
  · simp at hm; omega
  · simp only [Option.some.injEq, Addr.mk.injEq, and_true] at e'
    obtain ⟨rfl, rfl⟩ := e'
    refine ⟨⟨some ⟨b, o, none⟩, c, by rw [List.length_take, Nat.min_eq_left hm], by rw [List.length_take]; omega, h2, .inr ⟨b, o, rfl, hb, fun i hi => ?_⟩⟩, fun o' ho' => ⟨some ⟨b, o', none⟩, c - m, by rw [List.length_drop], by rw [List.length_drop]; omega, by omega, ?_⟩⟩
    · rw [List.length_take] at hi
      rw [hc i (by omega)]
      simp [List.getD, List.getElem?_take_of_lt (show i < m by omega)]
    · rcases ho' with rfl | hnm
      · refine .inr ⟨b, o + m, rfl, hb, fun i hi => ?_⟩
        rw [List.length_drop] at hi
        rw [Nat.add_assoc, hc (m + i) (by omega)]
        simp [List.getD]
      · exact .inl (List.drop_eq_nil_of_le (by omega))

theorem take_any (w0 w : World) (k m : Nat) (ys : List Int) (h : RS w0 w k ys) (hm : m ≤ ys.length) (hm0 : 0 < m) :
    Calls Tryd.prog 132 #[.pointer (some ⟨k, 0, none⟩), .int .i64 m] w fun e w' => ∃ b o c v', e = .returned (.slice (some ⟨b, o, none⟩) m c) ∧ b < w0.heap.size ∧ (∀ i, i < m → w0.cell? ⟨b, o + i, none⟩ = some (.int .u8 (ys.getD i 0))) ∧ RS w0 w' k (ys.drop m) ∧ w' = w.setCell ⟨k, 0, none⟩ v' := by
  obtain ⟨h1, h2, h3, h4, v, h5, h6⟩ := h
  have h6' := h6
  obtain ⟨ao, c, rfl, g1, g2, g3⟩ := h6
  rcases g3 with rfl | ⟨b, o, rfl, hb, hc⟩
  · simp at hm; omega
  · refine (take_ok w k b o ys.length c m h5 h3 hm hm0 g1).mono ?_
    rintro e w' ⟨rfl, o', ho', rfl⟩
    exact ⟨b, o, c, _, rfl, hb, fun i hi => hc i (by omega), RS.set ⟨h1, h2, h3, h4, _, h5, h6'⟩ ((Rd.split h6' m hm hm0).2 o' ho'), rfl⟩

theorem take_none (w0 w : World) (k m : Nat) (ys : List Int) (h : RS w0 w k ys) (hm : ys.length < m) :
    Calls Tryd.prog 132 #[.pointer (some ⟨k, 0, none⟩), .int .i64 m] w fun e w' => e = .panicked badChain ∧ w' = w := by
  obtain ⟨-, -, -, -, v, h5, h6⟩ := h
  obtain ⟨ao, c, rfl, -, -, -⟩ := h6
  exact take_bad w k _ c m ao h5 hm

set_option maxHeartbeats 400000 in
set_option maxRecDepth 100000 in
theorem number_none (w0 w : World) (k m : Nat) (ys : List Int) (h : RS w0 w k ys) (hm : ys.length < m) :
    Calls Tryd.prog 99 #[.pointer (some ⟨k, 0, none⟩), .int .i64 m] w fun e w' => e = .panicked badChain ∧ w' = w := by
  have H : Hid (Calls Tryd.prog 132 #[.pointer (some ⟨k, 0, none⟩), .int .i64 m] w fun e w' => e = .panicked badChain ∧ w' = w) := take_none w0 w k m ys h hm
  clear h hm
  go_enter Tryd.func99, Tryd.ntmps99
  go_wp2_with fail
  refine H.out.mono ?_
  rintro e w1 ⟨rfl, rfl⟩
  exact ⟨rfl, rfl, rfl⟩

set_option maxHeartbeats 400000 in
set_option maxRecDepth 100000 in
theorem number_any (w0 w : World) (k m : Nat) (ys : List Int) (h : RS w0 w k ys) (hm : m ≤ ys.length) (hm0 : 0 < m) (hm8 : m ≤ 8) (hby : Byt ys) :
    Calls Tryd.prog 99 #[.pointer (some ⟨k, 0, none⟩), .int .i64 m] w fun e w' => e = .returned (.int .i64 (wrap64 ((numB (ys.take m) : Nat) : Int))) ∧ RS w0 w' k (ys.drop m) ∧ ∃ v' q, w' = (w.setCell ⟨k, 0, none⟩ v').drewN q := by
  have H : Hid (Calls Tryd.prog 132 #[.pointer (some ⟨k, 0, none⟩), .int .i64 m] w fun e w' => ∃ b o c v', e = .returned (.slice (some ⟨b, o, none⟩) m c) ∧ b < w0.heap.size ∧ (∀ i, i < m → w0.cell? ⟨b, o + i, none⟩ = some (.int .u8 (ys.getD i 0))) ∧ RS w0 w' k (ys.drop m) ∧ w' = w.setCell ⟨k, 0, none⟩ v') := take_any w0 w k m ys h hm hm0
  have HBY : Hid (Byt ys) := hby
  have HM : Hid (m ≤ ys.length) := hm
  clear h hby hm
  go_enter Tryd.func99, Tryd.ntmps99
  go_wp2_with fail
  refine H.out.mono ?_
  rintro e w1 ⟨b, o, c, v', rfl, hb, hc, hr, hw⟩
  have HC : Hid (∀ i, i < m → w0.cell? ⟨b, o + i, none⟩ = some (.int .u8 (ys.getD i 0))) := hc
  have HR : Hid (RS w0 w1 k (ys.drop m)) := hr
  have HW : Hid (w1 = w.setCell ⟨k, 0, none⟩ v') := hw
  clear hc hr hw
  go_wp2
  go_loopw [5, 12] (fun vn vi wr => ∃ (i : Nat) (z : Int), i ≤ m ∧ vi = .int .i64 i ∧ vn = .int .i64 z ∧ Hid (z = wrap64 ((numB (ys.take i) : Nat) : Int)) ∧ ∃ q, wr = w1.drewN q) (fun _ i _ => m - (intOf i).toNat)
  case atStart => exact ⟨0, 0, Nat.zero_le _, rfl, rfl, (by show (0 : Int) = _; unfold wrap64; rw [List.take_zero, numB_nil]; rfl), 0, rfl⟩
  case round =>
    obtain ⟨i, z, hi, rfl, rfl, HZ, q, rfl⟩ := hrel
    by_cases hlt : i < m
    · have hI : (i : Int) < (m : Int) := by omega
      obtain ⟨x, hx, hxe⟩ := byt_at HBY.out i
      have c1 : w1.cell? ⟨b, o + i, none⟩ = some (.int .u8 (x : Int)) := by rw [HR.out.2.2.2.1.cell (p := ⟨b, o + i, none⟩) hb, HC.out i hlt, hxe]
      have HXE : Hid (ys.getD i 0 = (x : Int)) := hxe
      have hxI : (x : Int) < 256 := by omega
      clear hxe
      have HN : Hid (bits .or .i64 (wrap64 (z * 256)) (x : Int) = wrap64 ((numB (ys.take (i + 1)) : Nat) : Int)) := by
        show _ = _
        have ht : ys.take (i + 1) = ys.take i ++ [(x : Int)] := by
          have hl : i < ys.length := by have := HM.out; omega
          have he := HXE.out
          simp only [List.getD, List.getElem?_eq_getElem hl, Option.getD_some] at he
          rw [List.take_succ_eq_append_getElem hl, he]
        rw [ht, numB_snoc, HZ.out, wrap64_shl, i64_join _ _ hx, Int.toNat_natCast]
      go_wp2
      exact ⟨⟨i + 1, _, by omega, by go_num, rfl, HN, q, rfl⟩, by simp [intOf]; omega⟩
    · have him : i = m := by omega
      subst him
      have HRQ : Hid (RS w0 (w1.drewN q) k (ys.drop i)) := HR.out.drewN q
      have HWQ : Hid (∃ v' q', w1.drewN q = (w.setCell ⟨k, 0, none⟩ v').drewN q') := ⟨v', q, by rw [HW.out]⟩
      go_wp2
      go_ret
      exact ⟨ret_int HZ.out, HRQ.out, HWQ.out⟩

end Go.Proofs.YtcopcegamadkgaaDoor

namespace Go.Proofs.YtcopcegamadkgaaDoor
open Go.RowKit

/-- A text at the head of bytes, and what is behind it. -/
def rdT : List Int → Option (ByteArray × List Int)
  | [] => none
  | y :: r => if y.toNat ≤ r.length then some (strOfNums (r.take y.toNat), r.drop y.toNat) else none
def num4 (ys : List Int) (i : Nat) : Int := ((numB ((ys.drop (4 * i)).take 4) : Nat) : Int)
/-- A node at the head of bytes, and what is behind it. -/
def rdNd (ys : List Int) : Option (Nd × List Int) :=
  match rdT ys with
  | none => none
  | some (p, r1) =>
    match rdT r1 with
    | none => none
    | some (d, r2) => if 20 ≤ r2.length then some (⟨p, d, num4 r2 0, num4 r2 1, num4 r2 2, num4 r2 3, num4 r2 4⟩, r2.drop 20) else none
theorem byt_drop {ys : List Int} (h : Byt ys) (n : Nat) : Byt (ys.drop n) := fun x hx => h x (List.mem_of_mem_drop hx)
theorem rdT_some {ys r : List Int} {s : ByteArray} (h : rdT ys = some (s, r)) : ∃ y t, ys = y :: t ∧ y.toNat ≤ t.length ∧ s = strOfNums (t.take y.toNat) ∧ r = t.drop y.toNat := by
  cases ys with
  | nil => simp [rdT] at h
  | cons y t =>
    simp only [rdT] at h
    by_cases hy : y.toNat ≤ t.length
    · rw [if_pos hy] at h
      simp only [Option.some.injEq, Prod.mk.injEq] at h
      exact ⟨y, t, rfl, hy, h.1.symm, h.2.symm⟩
    · rw [if_neg hy] at h; cases h
theorem rdT_byt {ys r : List Int} {s : ByteArray} (h : rdT ys = some (s, r)) (hb : Byt ys) : Byt r ∧ r.length < ys.length ∧ s.size < 256 := by
  obtain ⟨y, t, rfl, h1, rfl, rfl⟩ := rdT_some h
  refine ⟨fun x hx => hb x (List.mem_cons_of_mem _ (List.mem_of_mem_drop hx)), by simp; omega, ?_⟩
  have := hb y (by simp)
  rw [strOfNums_size, List.length_take]
  omega
theorem rdNd_byt {ys r : List Int} {n : Nd} (h : rdNd ys = some (n, r)) (hb : Byt ys) : Byt r ∧ r.length < ys.length ∧ n.path.size < 256 ∧ n.data.size < 256 := by
  unfold rdNd at h
  cases h1 : rdT ys with
  | none => rw [h1] at h; cases h
  | some q =>
    obtain ⟨p, r1⟩ := q
    rw [h1] at h
    simp only at h
    cases h2 : rdT r1 with
    | none => rw [h2] at h; cases h
    | some q2 =>
      obtain ⟨d, r2⟩ := q2
      rw [h2] at h
      simp only at h
      by_cases h3 : 20 ≤ r2.length
      · rw [if_pos h3] at h
        simp only [Option.some.injEq, Prod.mk.injEq] at h
        obtain ⟨rfl, rfl⟩ := h
        have b1 := rdT_byt h1 hb
        have b2 := rdT_byt h2 b1.1
        refine ⟨byt_drop b2.1 _, ?_, b1.2.2, b2.2.2⟩
        rw [List.length_drop]; omega
      · rw [if_neg h3] at h; cases h

/-- All nodes of bytes. -/
def pNs : Nat → List Int → Option (List Nd)
  | 0, ys => if ys = [] then some [] else none
  | f + 1, ys => if ys = [] then some [] else
    match rdNd ys with
    | none => none
    | some (n, r) => (pNs f r).map (n :: ·)
theorem pNs_nil (f : Nat) : pNs f [] = some [] := by cases f <;> simp [pNs]
theorem pNs_none {f : Nat} {ys : List Int} (h : ys ≠ []) (hr : rdNd ys = none) : pNs f ys = none := by
  cases f with
  | zero => simp [pNs, h]
  | succ f => simp [pNs, h, hr]
theorem pNs_some {f : Nat} {ys r : List Int} {n : Nd} (h : ys ≠ []) (hr : rdNd ys = some (n, r)) : pNs (f + 1) ys = (pNs f r).map (n :: ·) := by simp [pNs, h, hr]
/-- A way through the bytes: what was read, and what is left. -/
def Par (ys : List Int) (ns : List Nd) (r : List Int) : Prop := ∃ f, r.length ≤ f ∧ pNs ys.length ys = (pNs f r).map (ns ++ ·) ∧ ns.length + r.length ≤ ys.length
theorem Par.start (ys : List Int) : Par ys [] ys := ⟨ys.length, Nat.le_refl _, by simp, by simp⟩
theorem Par.step {ys : List Int} {ns : List Nd} {r r' : List Int} {n : Nd} (h : Par ys ns r) (hb : Byt r) (hr : rdNd r = some (n, r')) : Par ys (ns ++ [n]) r' := by
  obtain ⟨f, hf, he, hl⟩ := h
  have h1 := (rdNd_byt hr hb).2.1
  have hne : r ≠ [] := fun e => by rw [e] at h1; simp at h1
  cases f with
  | zero => omega
  | succ f =>
    refine ⟨f, by omega, ?_, by simp; omega⟩
    rw [he, pNs_some hne hr, Option.map_map]
    congr 1
    funext l
    simp
theorem Par.done {ys : List Int} {ns : List Nd} (h : Par ys ns []) : pNs ys.length ys = some ns := by
  obtain ⟨f, -, he, -⟩ := h
  rw [he, pNs_nil]; simp
theorem Par.bad {ys : List Int} {ns : List Nd} {r : List Int} (h : Par ys ns r) (hne : r ≠ []) (hr : rdNd r = none) : pNs ys.length ys = none := by
  obtain ⟨f, -, he, -⟩ := h
  rw [he, pNs_none hne hr]; rfl
end Go.Proofs.YtcopcegamadkgaaDoor

namespace Go.Proofs.YtcopcegamadkgaaDoor
open Go.RowKit

set_option maxHeartbeats 400000 in
set_option maxRecDepth 100000 in
theorem take_zero (w : World) (k n c : Nat) (ao : Option Addr) (h0 : w.cell? ⟨k, 0, none⟩ = some (.slice ao n c)) (hz : w.frozen? ⟨k, 0, none⟩ = false) :
    Calls Tryd.prog 132 #[.pointer (some ⟨k, 0, none⟩), .int .i64 0] w fun e w' => e = .returned (.slice ao 0 c) ∧ w' = w.setCell ⟨k, 0, none⟩ (.slice ao n c) := by
  have hI : ¬ (n : Int) < 0 := by omega
  go_enter Tryd.func132, Tryd.ntmps132
  cases ao with
  | none =>
    go_wp2
    go_ret
    exact ⟨rfl, rfl⟩
  | some a =>
    go_wp2
    go_ret
    exact ⟨rfl, rfl⟩

theorem take_gen (w0 w : World) (k m : Nat) (ys : List Int) (h : RS w0 w k ys) (hm : m ≤ ys.length) :
    Calls Tryd.prog 132 #[.pointer (some ⟨k, 0, none⟩), .int .i64 m] w fun e w' => ∃ v1, e = .returned v1 ∧ Rd .u8 w0 v1 (ys.take m) ∧ RS w0 w' k (ys.drop m) ∧ w.grownBy w' (some k) := by
  have h' := h
  obtain ⟨h1, h2, h3, h4, v, h5, h6⟩ := h
  have h6' := h6
  obtain ⟨ao, c, rfl, g1, g2, g3⟩ := h6
  by_cases hm0 : m = 0
  · subst hm0
    refine (take_zero w k ys.length c ao h5 h3).mono ?_
    rintro e w' ⟨rfl, rfl⟩
    refine ⟨_, rfl, ⟨ao, c, by simp, Nat.zero_le _, g2, .inl (List.take_zero)⟩, ?_, grownBy_set _ _ _ _ _ (World.grownBy.refl _ _)⟩
    rw [List.drop_zero]
    exact RS.set h' h6'
  · rcases g3 with rfl | ⟨b, o, rfl, hb, hc⟩
    · simp at hm; omega
    · refine (take_ok w k b o ys.length c m h5 h3 hm (by omega) g1).mono ?_
      rintro e w' ⟨rfl, o', ho', rfl⟩
      have hs := Rd.split h6' m hm (by omega)
      exact ⟨_, rfl, hs.1, RS.set h' (hs.2 o' ho'), grownBy_set _ _ _ _ _ (World.grownBy.refl _ _)⟩

set_option maxHeartbeats 400000 in
set_option maxRecDepth 100000 in
theorem oneByte_any (w0 w : World) (k : Nat) (y : Int) (r : List Int) (h : RS w0 w k (y :: r)) :
    Calls Tryd.prog 131 #[.pointer (some ⟨k, 0, none⟩)] w fun e w' => e = .returned (.int .u8 y) ∧ RS w0 w' k r ∧ w.grownBy w' (some k) := by
  have H : Hid (Calls Tryd.prog 132 #[.pointer (some ⟨k, 0, none⟩), .int .i64 1] w fun e w' => ∃ b o c, e = .returned (.slice (some ⟨b, o, none⟩) 1 c) ∧ w'.cell? ⟨b, o, none⟩ = some (.int .u8 y) ∧ Hid (RS w0 w' k r) ∧ Hid (w.grownBy w' (some k))) := by
    refine (take_any w0 w k 1 (y :: r) h (by simp) (by omega)).mono ?_
    rintro e w' ⟨b, o, c, v', rfl, hb, hc, hr, rfl⟩
    have h0 := hc 0 (by omega)
    refine ⟨b, o, c, rfl, ?_, (by show RS _ _ _ _; simpa using hr), grownBy_set _ _ _ _ _ (World.grownBy.refl _ _)⟩
    rw [hr.2.2.2.1.cell (p := ⟨b, o, none⟩) hb]
    simpa using h0
  clear h
  go_enter Tryd.func131, Tryd.ntmps131
  go_wp2_with fail
  refine H.out.mono ?_
  rintro e w1 ⟨b, o, c, rfl, hc, hr, hg⟩
  go_wp2
  go_ret
  exact ⟨rfl, hr.out, hg.out⟩

set_option maxHeartbeats 400000 in
set_option maxRecDepth 100000 in
theorem oneByte_none (w0 w : World) (k : Nat) (h : RS w0 w k []) :
    Calls Tryd.prog 131 #[.pointer (some ⟨k, 0, none⟩)] w fun e w' => e = .panicked badChain ∧ w' = w := by
  have H : Hid (Calls Tryd.prog 132 #[.pointer (some ⟨k, 0, none⟩), .int .i64 1] w fun e w' => e = .panicked badChain ∧ w' = w) := take_none w0 w k 1 [] h (by simp)
  clear h
  go_enter Tryd.func131, Tryd.ntmps131
  go_wp2_with fail
  refine H.out.mono ?_
  rintro e w1 ⟨rfl, rfl⟩
  exact ⟨rfl, rfl, rfl⟩

def TxPost (w0 w : World) (k : Nat) (ys : List Int) (e : Ending) (w' : World) : Prop :=
  w.grownBy w' (some k) ∧ ((rdT ys = none ∧ e = .panicked badChain) ∨ ∃ s r, rdT ys = some (s, r) ∧ e = .returned (.string s) ∧ RS w0 w' k r)

set_option maxHeartbeats 400000 in
set_option maxRecDepth 100000 in
theorem text_any (w0 w : World) (k : Nat) (ys : List Int) (h : RS w0 w k ys) (hby : Byt ys) :
    Calls Tryd.prog 98 #[.pointer (some ⟨k, 0, none⟩)] w fun e w' => TxPost w0 w k ys e w' := by
  have HS : Hid (RS w0 w k ys) := h
  clear h
  go_enter Tryd.func98, Tryd.ntmps98
  go_wp2_with fail
  cases ys with
  | nil =>
    refine (oneByte_none w0 w k HS.out).mono ?_
    rintro e w1 ⟨rfl, rfl⟩
    exact ⟨rfl, World.grownBy.refl _ _, .inl ⟨rfl, rfl⟩⟩
  | cons y r =>
    have hy := hby y (by simp)
    obtain ⟨m, rfl⟩ : ∃ m : Nat, y = (m : Int) := ⟨y.toNat, by omega⟩
    have hm : m < 256 := by omega
    clear hby hy
    refine (oneByte_any w0 w k m r HS.out).mono ?_
    rintro e w1 ⟨rfl, r1, g1⟩
    have R1 : Hid (RS w0 w1 k r) := r1
    have G1 : Hid (w.grownBy w1 (some k)) := g1
    clear r1 g1 HS
    have hmI : (m : Int) < 256 := by omega
    go_wp2_with fail
    by_cases hl : m ≤ r.length
    · refine (take_gen w0 w1 k m r R1.out hl).mono ?_
      rintro e w2 ⟨v2, rfl, rd2, r2, g2⟩
      have hcv := conv_any (rd2.below r2.2.2.2.1)
      have HP : Hid (TxPost w0 w k ((m : Int) :: r) (.returned (.string (strOfNums (r.take m)))) w2) := by
        refine ⟨G1.out.trans g2, .inr ⟨_, _, ?_, rfl, r2⟩⟩
        simp only [rdT, Int.toNat_natCast]
        rw [if_pos hl]
      clear rd2 r2 g2 R1 G1
      go_wp2
      go_ret
      exact HP.out
    · refine (take_none w0 w1 k m r R1.out (by omega)).mono ?_
      rintro e w2 ⟨rfl, rfl⟩
      refine ⟨rfl, G1.out, .inl ⟨?_, rfl⟩⟩
      simp only [rdT, Int.toNat_natCast]
      rw [if_neg hl]

end Go.Proofs.YtcopcegamadkgaaDoor

namespace Go.Proofs.YtcopcegamadkgaaDoor
open Go.RowKit

def stP (b p : Nat) : Value := .agg #[.pointer (some ⟨b, p + 2, none⟩), .pointer (some ⟨b, p + 3, none⟩), .pointer (some ⟨b, p + 4, none⟩), .pointer (some ⟨b, p + 5, none⟩), .pointer (some ⟨b, p + 6, none⟩)]

set_option maxHeartbeats 1000000 in
set_option maxRecDepth 100000 in
theorem stats_any (w : World) (b p : Nat) :
    Calls Tryd.prog 95 #[.pointer (some ⟨b, p, none⟩)] w fun e w' => e = .returned (stP b p) ∧ Below w.heap.size w w' := by
  go_enter Tryd.func95, Tryd.ntmps95
  go_wp2
  refine wp_region_held_drew (S := fun _ => True) (by kernel_rfl) (trivial) (fun hHeld => ?_)
  refine wpAnyH_take (i := 0) (oi := { dst := some 3, op := _, type := _, pos := _, after := _, guard := _ }) (v := (.pointer (some ⟨b, p, none⟩))) rfl (by kernel_rfl) (by kernel_rfl) (by kernel_rfl) (fun _ _ _ h => h) (Or.inl ⟨by rfl, ?hy1⟩) (by assumption) ?rest1
  case hy1 =>
    intro w9 hS9
    go_simp
    try with_reducible rfl
  try simp only [Act.put, List.setIfInBounds_toArray, List.set_cons_zero, List.set_cons_succ]
  refine wpAnyH_take (i := 1) (oi := { dst := some 4, op := _, type := _, pos := _, after := _, guard := _ }) (v := (.pointer (some ⟨b, p, none⟩))) rfl (by kernel_rfl) (by kernel_rfl) (by kernel_rfl) (fun _ _ _ h => h) (Or.inl ⟨by rfl, ?hy2⟩) (by assumption) ?rest2
  case hy2 =>
    intro w9 hS9
    go_simp
    try with_reducible rfl
  try simp only [Act.put, List.setIfInBounds_toArray, List.set_cons_zero, List.set_cons_succ]
  refine wpAnyH_take (i := 2) (oi := { dst := some 5, op := _, type := _, pos := _, after := _, guard := _ }) (v := (.pointer (some ⟨b, p, none⟩))) rfl (by kernel_rfl) (by kernel_rfl) (by kernel_rfl) (fun _ _ _ h => h) (Or.inl ⟨by rfl, ?hy3⟩) (by assumption) ?rest3
  case hy3 =>
    intro w9 hS9
    go_simp
    try with_reducible rfl
  try simp only [Act.put, List.setIfInBounds_toArray, List.set_cons_zero, List.set_cons_succ]
  refine wpAnyH_take (i := 3) (oi := { dst := some 6, op := _, type := _, pos := _, after := _, guard := _ }) (v := (.pointer (some ⟨b, p + 2, none⟩))) rfl (by kernel_rfl) (by kernel_rfl) (by kernel_rfl) (fun _ _ _ h => h) (Or.inl ⟨by rfl, ?hy4⟩) (by assumption) ?rest4
  case hy4 =>
    intro w9 hS9
    go_simp
    try with_reducible rfl
  try simp only [Act.put, List.setIfInBounds_toArray, List.set_cons_zero, List.set_cons_succ]
  refine wpAnyH_take (i := 4) (oi := { dst := some 7, op := _, type := _, pos := _, after := _, guard := _ }) (v := (.pointer (some ⟨b, p, none⟩))) rfl (by kernel_rfl) (by kernel_rfl) (by kernel_rfl) (fun _ _ _ h => h) (Or.inl ⟨by rfl, ?hy5⟩) (by assumption) ?rest5
  case hy5 =>
    intro w9 hS9
    go_simp
    try with_reducible rfl
  try simp only [Act.put, List.setIfInBounds_toArray, List.set_cons_zero, List.set_cons_succ]
  refine wpAnyH_take (i := 5) (oi := { dst := some 8, op := _, type := _, pos := _, after := _, guard := _ }) (v := (.pointer (some ⟨b, p, none⟩))) rfl (by kernel_rfl) (by kernel_rfl) (by kernel_rfl) (fun _ _ _ h => h) (Or.inl ⟨by rfl, ?hy6⟩) (by assumption) ?rest6
  case hy6 =>
    intro w9 hS9
    go_simp
    try with_reducible rfl
  try simp only [Act.put, List.setIfInBounds_toArray, List.set_cons_zero, List.set_cons_succ]
  refine wpAnyH_take (i := 6) (oi := { dst := some 9, op := _, type := _, pos := _, after := _, guard := _ }) (v := (.pointer (some ⟨b, p, none⟩))) rfl (by kernel_rfl) (by kernel_rfl) (by kernel_rfl) (fun _ _ _ h => h) (Or.inl ⟨by rfl, ?hy7⟩) (by assumption) ?rest7
  case hy7 =>
    intro w9 hS9
    go_simp
    try with_reducible rfl
  try simp only [Act.put, List.setIfInBounds_toArray, List.set_cons_zero, List.set_cons_succ]
  refine wpAnyH_take (i := 7) (oi := { dst := some 10, op := _, type := _, pos := _, after := _, guard := _ }) (v := (.pointer (some ⟨b, p + 3, none⟩))) rfl (by kernel_rfl) (by kernel_rfl) (by kernel_rfl) (fun _ _ _ h => h) (Or.inl ⟨by rfl, ?hy8⟩) (by assumption) ?rest8
  case hy8 =>
    intro w9 hS9
    go_simp
    try with_reducible rfl
  try simp only [Act.put, List.setIfInBounds_toArray, List.set_cons_zero, List.set_cons_succ]
  refine wpAnyH_take (i := 8) (oi := { dst := some 11, op := _, type := _, pos := _, after := _, guard := _ }) (v := (.pointer (some ⟨b, p, none⟩))) rfl (by kernel_rfl) (by kernel_rfl) (by kernel_rfl) (fun _ _ _ h => h) (Or.inl ⟨by rfl, ?hy9⟩) (by assumption) ?rest9
  case hy9 =>
    intro w9 hS9
    go_simp
    try with_reducible rfl
  try simp only [Act.put, List.setIfInBounds_toArray, List.set_cons_zero, List.set_cons_succ]
  refine wpAnyH_take (i := 9) (oi := { dst := some 12, op := _, type := _, pos := _, after := _, guard := _ }) (v := (.pointer (some ⟨b, p, none⟩))) rfl (by kernel_rfl) (by kernel_rfl) (by kernel_rfl) (fun _ _ _ h => h) (Or.inl ⟨by rfl, ?hy10⟩) (by assumption) ?rest10
  case hy10 =>
    intro w9 hS9
    go_simp
    try with_reducible rfl
  try simp only [Act.put, List.setIfInBounds_toArray, List.set_cons_zero, List.set_cons_succ]
  refine wpAnyH_take (i := 10) (oi := { dst := some 13, op := _, type := _, pos := _, after := _, guard := _ }) (v := (.pointer (some ⟨b, p, none⟩))) rfl (by kernel_rfl) (by kernel_rfl) (by kernel_rfl) (fun _ _ _ h => h) (Or.inl ⟨by rfl, ?hy11⟩) (by assumption) ?rest11
  case hy11 =>
    intro w9 hS9
    go_simp
    try with_reducible rfl
  try simp only [Act.put, List.setIfInBounds_toArray, List.set_cons_zero, List.set_cons_succ]
  refine wpAnyH_take (i := 11) (oi := { dst := some 14, op := _, type := _, pos := _, after := _, guard := _ }) (v := (.pointer (some ⟨b, p + 4, none⟩))) rfl (by kernel_rfl) (by kernel_rfl) (by kernel_rfl) (fun _ _ _ h => h) (Or.inl ⟨by rfl, ?hy12⟩) (by assumption) ?rest12
  case hy12 =>
    intro w9 hS9
    go_simp
    try with_reducible rfl
  try simp only [Act.put, List.setIfInBounds_toArray, List.set_cons_zero, List.set_cons_succ]
  refine wpAnyH_take (i := 12) (oi := { dst := some 15, op := _, type := _, pos := _, after := _, guard := _ }) (v := (.pointer (some ⟨b, p, none⟩))) rfl (by kernel_rfl) (by kernel_rfl) (by kernel_rfl) (fun _ _ _ h => h) (Or.inl ⟨by rfl, ?hy13⟩) (by assumption) ?rest13
  case hy13 =>
    intro w9 hS9
    go_simp
    try with_reducible rfl
  try simp only [Act.put, List.setIfInBounds_toArray, List.set_cons_zero, List.set_cons_succ]
  refine wpAnyH_take (i := 13) (oi := { dst := some 16, op := _, type := _, pos := _, after := _, guard := _ }) (v := (.pointer (some ⟨b, p, none⟩))) rfl (by kernel_rfl) (by kernel_rfl) (by kernel_rfl) (fun _ _ _ h => h) (Or.inl ⟨by rfl, ?hy14⟩) (by assumption) ?rest14
  case hy14 =>
    intro w9 hS9
    go_simp
    try with_reducible rfl
  try simp only [Act.put, List.setIfInBounds_toArray, List.set_cons_zero, List.set_cons_succ]
  refine wpAnyH_take (i := 14) (oi := { dst := some 17, op := _, type := _, pos := _, after := _, guard := _ }) (v := (.pointer (some ⟨b, p, none⟩))) rfl (by kernel_rfl) (by kernel_rfl) (by kernel_rfl) (fun _ _ _ h => h) (Or.inl ⟨by rfl, ?hy15⟩) (by assumption) ?rest15
  case hy15 =>
    intro w9 hS9
    go_simp
    try with_reducible rfl
  try simp only [Act.put, List.setIfInBounds_toArray, List.set_cons_zero, List.set_cons_succ]
  refine wpAnyH_take (i := 15) (oi := { dst := some 18, op := _, type := _, pos := _, after := _, guard := _ }) (v := (.pointer (some ⟨b, p + 5, none⟩))) rfl (by kernel_rfl) (by kernel_rfl) (by kernel_rfl) (fun _ _ _ h => h) (Or.inl ⟨by rfl, ?hy16⟩) (by assumption) ?rest16
  case hy16 =>
    intro w9 hS9
    go_simp
    try with_reducible rfl
  try simp only [Act.put, List.setIfInBounds_toArray, List.set_cons_zero, List.set_cons_succ]
  refine wpAnyH_take (i := 16) (oi := { dst := some 19, op := _, type := _, pos := _, after := _, guard := _ }) (v := (.pointer (some ⟨b, p, none⟩))) rfl (by kernel_rfl) (by kernel_rfl) (by kernel_rfl) (fun _ _ _ h => h) (Or.inl ⟨by rfl, ?hy17⟩) (by assumption) ?rest17
  case hy17 =>
    intro w9 hS9
    go_simp
    try with_reducible rfl
  try simp only [Act.put, List.setIfInBounds_toArray, List.set_cons_zero, List.set_cons_succ]
  refine wpAnyH_take (i := 17) (oi := { dst := some 20, op := _, type := _, pos := _, after := _, guard := _ }) (v := (.pointer (some ⟨b, p, none⟩))) rfl (by kernel_rfl) (by kernel_rfl) (by kernel_rfl) (fun _ _ _ h => h) (Or.inl ⟨by rfl, ?hy18⟩) (by assumption) ?rest18
  case hy18 =>
    intro w9 hS9
    go_simp
    try with_reducible rfl
  try simp only [Act.put, List.setIfInBounds_toArray, List.set_cons_zero, List.set_cons_succ]
  refine wpAnyH_take (i := 18) (oi := { dst := some 21, op := _, type := _, pos := _, after := _, guard := _ }) (v := (.pointer (some ⟨b, p, none⟩))) rfl (by kernel_rfl) (by kernel_rfl) (by kernel_rfl) (fun _ _ _ h => h) (Or.inl ⟨by rfl, ?hy19⟩) (by assumption) ?rest19
  case hy19 =>
    intro w9 hS9
    go_simp
    try with_reducible rfl
  try simp only [Act.put, List.setIfInBounds_toArray, List.set_cons_zero, List.set_cons_succ]
  refine wpAnyH_take (i := 19) (oi := { dst := some 22, op := _, type := _, pos := _, after := _, guard := _ }) (v := (.pointer (some ⟨b, p + 6, none⟩))) rfl (by kernel_rfl) (by kernel_rfl) (by kernel_rfl) (fun _ _ _ h => h) (Or.inl ⟨by rfl, ?hy20⟩) (by assumption) ?rest20
  case hy20 =>
    intro w9 hS9
    go_simp
    try with_reducible rfl
  try simp only [Act.put, List.setIfInBounds_toArray, List.set_cons_zero, List.set_cons_succ]
  refine wpAnyH_take (i := 20) (oi := { dst := some 23, op := _, type := _, pos := _, after := _, guard := _ }) (v := (stP b p)) rfl (by kernel_rfl) (by kernel_rfl) (by kernel_rfl) (fun _ _ _ h => h) (Or.inl ⟨by rfl, ?hy21⟩) (by assumption) ?rest21
  case hy21 =>
    intro w9 hS9
    go_simp
    rfl
  try simp only [Act.put, List.setIfInBounds_toArray, List.set_cons_zero, List.set_cons_succ]
  refine wpAnyH_ready (rs := [21]) (by kernel_rfl) (by simp) ?_
  refine AllReadyH.cons (o := { dst := none, op := _, type := _, pos := _, after := _, guard := _ }) rfl (fun K hK => ?_) AllReadyH.nil
  unfold stP
  go_simp
  refine hK.out _ _ trivial (fun hx9 => ?_)
  clear hK K hHeld hx9
  refine wpAnyH_done (by kernel_rfl) ?_ _
  go_wp2
  refine bodyPost_ret (v := stP b p) (by simp [results, Tryd.results95, go_sem, stP]) rfl ⟨rfl, ?_⟩
  exact ((Below.refl _ _).alloc (Nat.le_refl _) _).trans ((below_drewN' _ 1).mono (by simp))

end Go.Proofs.YtcopcegamadkgaaDoor

namespace Go.Proofs.YtcopcegamadkgaaDoor
open Go.RowKit

/-- The cells of a box of another type are kept. -/
theorem KT.box {e t : TypeId} {w w' : World} {b : Nat} {A : Array Value} {f : Nat × Nat} (h : KT e w w') (hb : w.heap[b]? = some (.cells A t f)) (ht : t ≠ e) : w'.heap[b]? = some (.cells A t f) := by
  have hlt := (Array.getElem?_eq_some_iff.1 hb).1
  rw [h.2 b hlt (by rw [hb]; rintro ⟨cur, h⟩; injection h with h; injection h with _ h2; exact ht h2), hb]
/-- A node at the head of a box of its own. -/
def BxN (w : World) (b : Nat) (n : Nd) : Prop := (∃ A t f, w.heap[b]? = some (.cells A t f) ∧ t ≠ 5) ∧ CellsN w b 0 n
theorem BxN.keep {w w' : World} {b : Nat} {n : Nd} (h : BxN w b n) (hk : KT 5 w w') : BxN w' b n := by
  obtain ⟨⟨A, t, f, h1, h2⟩, h3⟩ := h
  have h4 := hk.box h1 h2
  have e : ∀ q, w'.cell? ⟨b, q, none⟩ = w.cell? ⟨b, q, none⟩ := fun q => World.cell?_of_block (a := ⟨b, q, none⟩) (by show w'.heap[b]? = w.heap[b]?; rw [h4, h1])
  exact ⟨⟨A, t, f, h4, h2⟩, (e _).trans h3.c0, (e _).trans h3.c1, (e _).trans h3.c2, (e _).trans h3.c3, (e _).trans h3.c4, (e _).trans h3.c5, (e _).trans h3.c6⟩
theorem BxN.below {w w' : World} {b : Nat} {n : Nd} (h : BxN w b n) (hk : Below w.heap.size w w') : BxN w' b n := h.keep ((KT.refl _ _).below hk)
theorem BxN.cells {w : World} {b : Nat} {n : Nd} (h : BxN w b n) : CellsN w b 0 n := h.2
theorem cell_of {w : World} {b : Nat} {A : Array Value} {t : TypeId} {f : Nat × Nat} (h : w.heap[b]? = some (.cells A t f)) (q : Nat) : w.cell? ⟨b, q, none⟩ = A[q]? := by simp [World.cell?, h]
theorem KT.cell {e t : TypeId} {w w' : World} {b : Nat} {A : Array Value} {f : Nat × Nat} (h : KT e w w') (hb : w.heap[b]? = some (.cells A t f)) (ht : t ≠ e) (q : Nat) : w'.cell? ⟨b, q, none⟩ = w.cell? ⟨b, q, none⟩ :=
  World.cell?_of_block (a := ⟨b, q, none⟩) (by show w'.heap[b]? = w.heap[b]?; rw [h.box hb ht, hb])

theorem ix_0 (W : World) (b : Nat) : (Instr.index 142 (.agg #[.pointer (some ⟨b, 2, none⟩), .pointer (some ⟨b, 3, none⟩), .pointer (some ⟨b, 4, none⟩), .pointer (some ⟨b, 5, none⟩), .pointer (some ⟨b, 6, none⟩)]) (.int .i64 0)).run Tryd.prog W = .ok (.pointer (some ⟨b, 2, none⟩)) W := by kernel_rfl
theorem ix_1 (W : World) (b : Nat) : (Instr.index 142 (.agg #[.pointer (some ⟨b, 2, none⟩), .pointer (some ⟨b, 3, none⟩), .pointer (some ⟨b, 4, none⟩), .pointer (some ⟨b, 5, none⟩), .pointer (some ⟨b, 6, none⟩)]) (.int .i64 1)).run Tryd.prog W = .ok (.pointer (some ⟨b, 3, none⟩)) W := by kernel_rfl
theorem ix_2 (W : World) (b : Nat) : (Instr.index 142 (.agg #[.pointer (some ⟨b, 2, none⟩), .pointer (some ⟨b, 3, none⟩), .pointer (some ⟨b, 4, none⟩), .pointer (some ⟨b, 5, none⟩), .pointer (some ⟨b, 6, none⟩)]) (.int .i64 2)).run Tryd.prog W = .ok (.pointer (some ⟨b, 4, none⟩)) W := by kernel_rfl
theorem ix_3 (W : World) (b : Nat) : (Instr.index 142 (.agg #[.pointer (some ⟨b, 2, none⟩), .pointer (some ⟨b, 3, none⟩), .pointer (some ⟨b, 4, none⟩), .pointer (some ⟨b, 5, none⟩), .pointer (some ⟨b, 6, none⟩)]) (.int .i64 3)).run Tryd.prog W = .ok (.pointer (some ⟨b, 5, none⟩)) W := by kernel_rfl
theorem ix_4 (W : World) (b : Nat) : (Instr.index 142 (.agg #[.pointer (some ⟨b, 2, none⟩), .pointer (some ⟨b, 3, none⟩), .pointer (some ⟨b, 4, none⟩), .pointer (some ⟨b, 5, none⟩), .pointer (some ⟨b, 6, none⟩)]) (.int .i64 4)).run Tryd.prog W = .ok (.pointer (some ⟨b, 6, none⟩)) W := by kernel_rfl

end Go.Proofs.YtcopcegamadkgaaDoor

namespace Go.Proofs.YtcopcegamadkgaaDoor
open Go.RowKit

theorem grown_of {w w' : World} (h : Below w.heap.size w w') (row : Option Nat) : w.grownBy w' row := ⟨h.os, h.tape, h.output, h.size, fun k hk _ => h.block k hk⟩
theorem grown_alloc (w : World) (o : Obj) (row : Option Nat) : w.grownBy (w.alloc o) row := grown_of ((Below.refl _ _).alloc (Nat.le_refl _) o) row
theorem grown_new {w W : World} {row : Option Nat} {B : Nat} (h : w.grownBy W row) (hB : w.heap.size ≤ B) (i : Nat) (u : Value) : w.grownBy (W.setCell ⟨B, i, none⟩ u) row :=
  ⟨h.os, h.tape, h.output, by simpa using h.size, fun k hk hne => by
    rw [← h.block k hk hne]
    exact Below.heap_setCell _ _ _ _ (by show k ≠ B; omega)⟩
/-- A local node that may be written. -/
def NB (W : World) (B : Nat) (n : Nd) : Prop := BoxN W B n ∧ ∀ j, W.frozen? ⟨B, j, none⟩ = false
theorem NB.turn {W W' : World} {B : Nat} {n : Nd} {row : Option Nat} (h : NB W B n) (hg : W.grownBy W' row) (hne : some B ≠ row) : NB W' B n := by
  have hb := hg.block B h.1.lt hne
  have e : ∀ q, W'.cell? ⟨B, q, none⟩ = W.cell? ⟨B, q, none⟩ := fun q => World.cell?_of_block (a := ⟨B, q, none⟩) hb
  refine ⟨⟨Nat.lt_of_lt_of_le h.1.lt hg.size, (e _).trans h.1.c0, (e _).trans h.1.c1, (e _).trans h.1.c2, (e _).trans h.1.c3, (e _).trans h.1.c4, (e _).trans h.1.c5, (e _).trans h.1.c6⟩, fun j => ?_⟩
  rw [World.frozen?_of_block (a := ⟨B, j, none⟩) hb]; exact h.2 j
theorem NB.other {W : World} {B B' : Nat} {n : Nd} (h : NB W B n) (hne : B ≠ B') (i : Nat) (u : Value) : NB (W.setCell ⟨B', i, none⟩ u) B n := by
  have e : ∀ q, (W.setCell ⟨B', i, none⟩ u).cell? ⟨B, q, none⟩ = W.cell? ⟨B, q, none⟩ := fun q => World.cell?_setCell_other _ _ _ _ (by intro e; injection e with e; omega)
  refine ⟨⟨by simpa using h.1.lt, (e _).trans h.1.c0, (e _).trans h.1.c1, (e _).trans h.1.c2, (e _).trans h.1.c3, (e _).trans h.1.c4, (e _).trans h.1.c5, (e _).trans h.1.c6⟩, fun j => ?_⟩
  rw [World.frozen?_setCell]; exact h.2 j
theorem NB.put0 {W : World} {B : Nat} {n : Nd} (h : NB W B n) (s : ByteArray) : NB (W.setCell ⟨B, 0, none⟩ (Value.string s)) B { n with path := s } := by
  have e : ∀ q, q ≠ 0 → (W.setCell ⟨B, 0, none⟩ (Value.string s)).cell? ⟨B, q, none⟩ = W.cell? ⟨B, q, none⟩ := fun q hq => World.cell?_setCell_other _ _ _ _ (by intro e; injection e with _ e; omega)
  refine ⟨⟨by simpa using h.1.lt, World.cell?_setCell_same _ _ _ h.1.c0, (e 1 (by omega)).trans h.1.c1, (e 2 (by omega)).trans h.1.c2, (e 3 (by omega)).trans h.1.c3, (e 4 (by omega)).trans h.1.c4, (e 5 (by omega)).trans h.1.c5, (e 6 (by omega)).trans h.1.c6⟩, fun j => ?_⟩
  rw [World.frozen?_setCell]; exact h.2 j
theorem NB.put1 {W : World} {B : Nat} {n : Nd} (h : NB W B n) (s : ByteArray) : NB (W.setCell ⟨B, 1, none⟩ (Value.string s)) B { n with data := s } := by
  have e : ∀ q, q ≠ 1 → (W.setCell ⟨B, 1, none⟩ (Value.string s)).cell? ⟨B, q, none⟩ = W.cell? ⟨B, q, none⟩ := fun q hq => World.cell?_setCell_other _ _ _ _ (by intro e; injection e with _ e; omega)
  refine ⟨⟨by simpa using h.1.lt, (e 0 (by omega)).trans h.1.c0, World.cell?_setCell_same _ _ _ h.1.c1, (e 2 (by omega)).trans h.1.c2, (e 3 (by omega)).trans h.1.c3, (e 4 (by omega)).trans h.1.c4, (e 5 (by omega)).trans h.1.c5, (e 6 (by omega)).trans h.1.c6⟩, fun j => ?_⟩
  rw [World.frozen?_setCell]; exact h.2 j
theorem NB.put2 {W : World} {B : Nat} {n : Nd} (h : NB W B n) (s : Int) : NB (W.setCell ⟨B, 2, none⟩ (Value.int .i64 s)) B { n with ver := s } := by
  have e : ∀ q, q ≠ 2 → (W.setCell ⟨B, 2, none⟩ (Value.int .i64 s)).cell? ⟨B, q, none⟩ = W.cell? ⟨B, q, none⟩ := fun q hq => World.cell?_setCell_other _ _ _ _ (by intro e; injection e with _ e; omega)
  refine ⟨⟨by simpa using h.1.lt, (e 0 (by omega)).trans h.1.c0, (e 1 (by omega)).trans h.1.c1, World.cell?_setCell_same _ _ _ h.1.c2, (e 3 (by omega)).trans h.1.c3, (e 4 (by omega)).trans h.1.c4, (e 5 (by omega)).trans h.1.c5, (e 6 (by omega)).trans h.1.c6⟩, fun j => ?_⟩
  rw [World.frozen?_setCell]; exact h.2 j
theorem NB.put3 {W : World} {B : Nat} {n : Nd} (h : NB W B n) (s : Int) : NB (W.setCell ⟨B, 3, none⟩ (Value.int .i64 s)) B { n with cver := s } := by
  have e : ∀ q, q ≠ 3 → (W.setCell ⟨B, 3, none⟩ (Value.int .i64 s)).cell? ⟨B, q, none⟩ = W.cell? ⟨B, q, none⟩ := fun q hq => World.cell?_setCell_other _ _ _ _ (by intro e; injection e with _ e; omega)
  refine ⟨⟨by simpa using h.1.lt, (e 0 (by omega)).trans h.1.c0, (e 1 (by omega)).trans h.1.c1, (e 2 (by omega)).trans h.1.c2, World.cell?_setCell_same _ _ _ h.1.c3, (e 4 (by omega)).trans h.1.c4, (e 5 (by omega)).trans h.1.c5, (e 6 (by omega)).trans h.1.c6⟩, fun j => ?_⟩
  rw [World.frozen?_setCell]; exact h.2 j
theorem NB.put4 {W : World} {B : Nat} {n : Nd} (h : NB W B n) (s : Int) : NB (W.setCell ⟨B, 4, none⟩ (Value.int .i64 s)) B { n with cz := s } := by
  have e : ∀ q, q ≠ 4 → (W.setCell ⟨B, 4, none⟩ (Value.int .i64 s)).cell? ⟨B, q, none⟩ = W.cell? ⟨B, q, none⟩ := fun q hq => World.cell?_setCell_other _ _ _ _ (by intro e; injection e with _ e; omega)
  refine ⟨⟨by simpa using h.1.lt, (e 0 (by omega)).trans h.1.c0, (e 1 (by omega)).trans h.1.c1, (e 2 (by omega)).trans h.1.c2, (e 3 (by omega)).trans h.1.c3, World.cell?_setCell_same _ _ _ h.1.c4, (e 5 (by omega)).trans h.1.c5, (e 6 (by omega)).trans h.1.c6⟩, fun j => ?_⟩
  rw [World.frozen?_setCell]; exact h.2 j
theorem NB.put5 {W : World} {B : Nat} {n : Nd} (h : NB W B n) (s : Int) : NB (W.setCell ⟨B, 5, none⟩ (Value.int .i64 s)) B { n with mz := s } := by
  have e : ∀ q, q ≠ 5 → (W.setCell ⟨B, 5, none⟩ (Value.int .i64 s)).cell? ⟨B, q, none⟩ = W.cell? ⟨B, q, none⟩ := fun q hq => World.cell?_setCell_other _ _ _ _ (by intro e; injection e with _ e; omega)
  refine ⟨⟨by simpa using h.1.lt, (e 0 (by omega)).trans h.1.c0, (e 1 (by omega)).trans h.1.c1, (e 2 (by omega)).trans h.1.c2, (e 3 (by omega)).trans h.1.c3, (e 4 (by omega)).trans h.1.c4, World.cell?_setCell_same _ _ _ h.1.c5, (e 6 (by omega)).trans h.1.c6⟩, fun j => ?_⟩
  rw [World.frozen?_setCell]; exact h.2 j
theorem NB.put6 {W : World} {B : Nat} {n : Nd} (h : NB W B n) (s : Int) : NB (W.setCell ⟨B, 6, none⟩ (Value.int .i64 s)) B { n with pz := s } := by
  have e : ∀ q, q ≠ 6 → (W.setCell ⟨B, 6, none⟩ (Value.int .i64 s)).cell? ⟨B, q, none⟩ = W.cell? ⟨B, q, none⟩ := fun q hq => World.cell?_setCell_other _ _ _ _ (by intro e; injection e with _ e; omega)
  refine ⟨⟨by simpa using h.1.lt, (e 0 (by omega)).trans h.1.c0, (e 1 (by omega)).trans h.1.c1, (e 2 (by omega)).trans h.1.c2, (e 3 (by omega)).trans h.1.c3, (e 4 (by omega)).trans h.1.c4, (e 5 (by omega)).trans h.1.c5, World.cell?_setCell_same _ _ _ h.1.c6⟩, fun j => ?_⟩
  rw [World.frozen?_setCell]; exact h.2 j
theorem NB.new (w : World) (n : Nd) (t : TypeId) : NB (w.alloc (.cells #[.string n.path, .string n.data, .int .i64 n.ver, .int .i64 n.cver, .int .i64 n.cz, .int .i64 n.mz, .int .i64 n.pz] t)) w.heap.size n := ⟨BoxN.new w n t, fun j => (by go_simp)⟩
theorem RS.new {w0 w w' : World} {k : Nat} {ys : List Int} (h : RS w0 w k ys) (hb : Below w.heap.size w w') : RS w0 w' k ys := h.keep hb h.2.1
theorem RS.setOther {w0 w : World} {k B : Nat} {ys : List Int} (h : RS w0 w k ys) (hB : k ≠ B) (h0 : w0.heap.size ≤ B) (i : Nat) (u : Value) : RS w0 (w.setCell ⟨B, i, none⟩ u) k ys := by
  obtain ⟨h1, h2, h3, h4, v, h5, h6⟩ := h
  refine ⟨h1, by simpa using h2, by rw [World.frozen?_setCell]; exact h3, h4.setCell h0 _, v, ?_, h6⟩
  rw [World.cell?_setCell_other _ _ _ _ (by intro e; injection e with e; omega)]; exact h5
theorem wrap4 {ys : List Int} (h : Byt ys) : wrap64 ((numB (ys.take 4) : Nat) : Int) = ((numB (ys.take 4) : Nat) : Int) := by
  have hb := (bigR_numB (ys.take 4).length (ys.take 4) rfl (fun x hx => h x (List.mem_of_mem_take hx))).2
  have h1 : 256 ^ (ys.take 4).length ≤ 256 ^ 4 := Nat.pow_le_pow_right (by omega) (by rw [List.length_take]; omega)
  have h2 : numB (ys.take 4) < 4294967296 := Nat.lt_of_lt_of_le hb h1
  unfold wrap64
  omega
def ndV (n : Nd) : Value := .agg #[.string n.path, .string n.data, .int .i64 n.ver, .int .i64 n.cver, .int .i64 n.cz, .int .i64 n.mz, .int .i64 n.pz]
def ndK (p d : ByteArray) (a : Nat → Int) (k : Nat) : Nd := ⟨p, d, if 0 < k then a 0 else 0, if 1 < k then a 1 else 0, if 2 < k then a 2 else 0, if 3 < k then a 3 else 0, if 4 < k then a 4 else 0⟩
def NdPost (w0 w : World) (k : Nat) (ys : List Int) (e : Ending) (w' : World) : Prop :=
  w.grownBy w' (some k) ∧ ((rdNd ys = none ∧ e = .panicked badChain) ∨ ∃ n r, rdNd ys = some (n, r) ∧ e = .returned (ndV n) ∧ RS w0 w' k r)

set_option maxHeartbeats 2000000 in
set_option maxRecDepth 100000 in
theorem nodeImage_any (w0 w : World) (k : Nat) (ys : List Int) (h : RS w0 w k ys) (hby : Byt ys) :
    Calls Tryd.prog 60 #[.pointer (some ⟨k, 0, none⟩)] w fun e w' => NdPost w0 w k ys e w' := by
  have hk := h.2.1
  have hk0 := h.1
  have HBY : Hid (Byt ys) := hby
  have HS : Hid (RS w0 w k ys) := h
  clear h hby
  have A1 : Hid (RS w0 ((w.alloc (.cells #[.string ⟨#[]⟩, .string ⟨#[]⟩, .int .i64 0, .int .i64 0, .int .i64 0, .int .i64 0, .int .i64 0] 86)).alloc (.cells #[.string ⟨#[]⟩, .string ⟨#[]⟩, .int .i64 0, .int .i64 0, .int .i64 0, .int .i64 0, .int .i64 0] 86)) k ys) := (HS.out.new ((Below.refl _ _).alloc (Nat.le_refl _) _)).new ((Below.refl _ _).alloc (Nat.le_refl _) _)
  have N2 : Hid (NB ((w.alloc (.cells #[.string ⟨#[]⟩, .string ⟨#[]⟩, .int .i64 0, .int .i64 0, .int .i64 0, .int .i64 0, .int .i64 0] 86)).alloc (.cells #[.string ⟨#[]⟩, .string ⟨#[]⟩, .int .i64 0, .int .i64 0, .int .i64 0, .int .i64 0, .int .i64 0] 86)) w.heap.size nd0) := (NB.new w nd0 _).turn (grown_alloc _ _ none) (by simp)
  have N3 : Hid (NB ((w.alloc (.cells #[.string ⟨#[]⟩, .string ⟨#[]⟩, .int .i64 0, .int .i64 0, .int .i64 0, .int .i64 0, .int .i64 0] 86)).alloc (.cells #[.string ⟨#[]⟩, .string ⟨#[]⟩, .int .i64 0, .int .i64 0, .int .i64 0, .int .i64 0, .int .i64 0] 86)) (w.heap.size + 1) nd0) := by
    have := NB.new (w.alloc (.cells #[.string ⟨#[]⟩, .string ⟨#[]⟩, .int .i64 0, .int .i64 0, .int .i64 0, .int .i64 0, .int .i64 0] 86)) nd0 86
    rw [show (w.alloc (.cells #[.string ⟨#[]⟩, .string ⟨#[]⟩, .int .i64 0, .int .i64 0, .int .i64 0, .int .i64 0, .int .i64 0] 86)).heap.size = w.heap.size + 1 by simp] at this
    exact this
  have G1 : Hid (w.grownBy ((w.alloc (.cells #[.string ⟨#[]⟩, .string ⟨#[]⟩, .int .i64 0, .int .i64 0, .int .i64 0, .int .i64 0, .int .i64 0] 86)).alloc (.cells #[.string ⟨#[]⟩, .string ⟨#[]⟩, .int .i64 0, .int .i64 0, .int .i64 0, .int .i64 0, .int .i64 0] 86)) (some k)) := (grown_alloc _ _ _).trans (grown_alloc _ _ _)
  go_enter Tryd.func60, Tryd.ntmps60
  go_wp2_with fail
  generalize ((w.alloc (.cells #[.string ⟨#[]⟩, .string ⟨#[]⟩, .int .i64 0, .int .i64 0, .int .i64 0, .int .i64 0, .int .i64 0] 86)).alloc (.cells #[.string ⟨#[]⟩, .string ⟨#[]⟩, .int .i64 0, .int .i64 0, .int .i64 0, .int .i64 0, .int .i64 0] 86)) = w1 at *
  refine (text_any w0 w1 k ys A1.out HBY.out).mono ?_
  rintro e w2 ⟨g2, hp⟩
  rcases hp with ⟨hp, rfl⟩ | ⟨p, r1, hp, rfl, hr2⟩
  · exact ⟨rfl, G1.out.trans g2, .inl ⟨by unfold rdNd; rw [hp], rfl⟩⟩
  have HP1 : Hid (rdT ys = some (p, r1)) := hp
  have HB1 : Hid (Byt r1) := (rdT_byt hp HBY.out).1
  have G2 : Hid (w.grownBy w2 (some k)) := G1.out.trans g2
  have N22 : Hid (NB w2 w.heap.size nd0) := N2.out.turn g2 (by simp; omega)
  have N32 : Hid (NB w2 (w.heap.size + 1) nd0) := N3.out.turn g2 (by simp; omega)
  have R2 : Hid (RS w0 w2 k r1) := hr2
  clear hp g2 hr2 N2 N3 A1 G1
  have d0 := N32.out.1.c0
  have f0 := N32.out.2 0
  have N33 : Hid (NB (w2.setCell ⟨w.heap.size + 1, 0, none⟩ (.string p)) (w.heap.size + 1) { nd0 with path := p }) := N32.out.put0 p
  have N23 : Hid (NB (w2.setCell ⟨w.heap.size + 1, 0, none⟩ (.string p)) w.heap.size nd0) := N22.out.other (by omega) _ _
  have R3 : Hid (RS w0 (w2.setCell ⟨w.heap.size + 1, 0, none⟩ (.string p)) k r1) := R2.out.setOther (by omega) (by omega) _ _
  have G3 : Hid (w.grownBy (w2.setCell ⟨w.heap.size + 1, 0, none⟩ (.string p)) (some k)) := grown_new G2.out (by omega) _ _
  go_wp2_with fail
  clear d0 f0 N32 N22 R2 G2
  generalize w2.setCell ⟨w.heap.size + 1, 0, none⟩ (.string p) = w3 at *
  refine (text_any w0 w3 k r1 R3.out HB1.out).mono ?_
  rintro e w4 ⟨g4, hp⟩
  rcases hp with ⟨hp, rfl⟩ | ⟨d, r2, hp, rfl, hr4⟩
  · refine ⟨rfl, G3.out.trans g4, .inl ⟨?_, rfl⟩⟩
    unfold rdNd; rw [HP1.out]; simp only; rw [hp]
  have HP2 : Hid (rdT r1 = some (d, r2)) := hp
  have HB2 : Hid (Byt r2) := (rdT_byt hp HB1.out).1
  have G4 : Hid (w.grownBy w4 (some k)) := G3.out.trans g4
  have N24 : Hid (NB w4 w.heap.size nd0) := N23.out.turn g4 (by simp; omega)
  have N34 : Hid (NB w4 (w.heap.size + 1) { nd0 with path := p }) := N33.out.turn g4 (by simp; omega)
  have R4 : Hid (RS w0 w4 k r2) := hr4
  clear hp g4 hr4 N23 N33 R3 G3
  have d1 := N34.out.1.c1
  have f1 := N34.out.2 1
  have N35 : Hid (NB (w4.setCell ⟨w.heap.size + 1, 1, none⟩ (.string d)) (w.heap.size + 1) (ndK p d (num4 r2) 0)) := N34.out.put1 d
  have N25 : Hid (NB (w4.setCell ⟨w.heap.size + 1, 1, none⟩ (.string d)) w.heap.size nd0) := N24.out.other (by omega) _ _
  have R5 : Hid (RS w0 (w4.setCell ⟨w.heap.size + 1, 1, none⟩ (.string d)) k r2) := R4.out.setOther (by omega) (by omega) _ _
  have G5 : Hid (w.grownBy (w4.setCell ⟨w.heap.size + 1, 1, none⟩ (.string d)) (some k)) := grown_new G4.out (by omega) _ _
  go_wp2_with fail
  clear d1 f1 N34 N24 R4 G4
  generalize w4.setCell ⟨w.heap.size + 1, 1, none⟩ (.string d) = w5 at *
  refine (stats_any w5 (w.heap.size + 1) 0).mono ?_
  rintro e w6 ⟨rfl, b6⟩
  have G6 : Hid (w.grownBy w6 (some k)) := G5.out.trans (grown_of b6 _)
  have N26 : Hid (NB w6 w.heap.size nd0) := N25.out.turn (grown_of b6 none) (by simp)
  have N36 : Hid (NB w6 (w.heap.size + 1) (ndK p d (num4 r2) 0)) := N35.out.turn (grown_of b6 none) (by simp)
  have R6 : Hid (RS w0 w6 k (r2.drop (4 * 0))) := by show RS _ _ _ _; rw [Nat.mul_zero, List.drop_zero]; exact R5.out.new b6
  clear b6 N25 N35 R5 G5
  unfold stP
  go_wp2
  go_loopw [15] (fun vi wr => ∃ i : Nat, i ≤ 5 ∧ vi = .int .i64 i ∧ Hid (4 * i ≤ r2.length) ∧ Hid (w.grownBy wr (some k)) ∧ Hid (NB wr w.heap.size nd0) ∧ Hid (NB wr (w.heap.size + 1) (ndK p d (num4 r2) i)) ∧ Hid (RS w0 wr k (r2.drop (4 * i)))) (fun i _ => 5 - (intOf i).toNat)
  case atStart => exact ⟨0, by omega, rfl, Nat.zero_le _, G6, N26, N36, R6⟩
  case round =>
    obtain ⟨i, hi, rfl, HL, HG, HN2, HN3, HR⟩ := hrel
    have hl := HL.out
    rcases (show i = 0 ∨ i = 1 ∨ i = 2 ∨ i = 3 ∨ i = 4 ∨ i = 5 by omega) with rfl | rfl | rfl | rfl | rfl | rfl
    · have hix := fun W => ix_0 W (w.heap.size + 1)
      go_wp2_with fail
      clear hix
      by_cases hlt : 4 ≤ r2.length
      rotate_left
      · refine (number_none w0 wr k 4 _ HR.out (by rw [List.length_drop]; omega)).mono ?_
        rintro e w7 ⟨rfl, rfl⟩
        refine ⟨rfl, HG.out, .inl ⟨?_, rfl⟩⟩
        unfold rdNd; rw [HP1.out]; simp only; rw [HP2.out]; simp only; rw [if_neg (by omega)]
      refine (number_any w0 wr k 4 _ HR.out (by rw [List.length_drop]; omega) (by omega) (by omega) (byt_drop HB2.out _)).mono ?_
      rintro e w7 ⟨rfl, r7, v7, q7, rfl⟩
      rw [wrap4 (byt_drop HB2.out _)]
      have g7 : wr.grownBy ((wr.setCell ⟨k, 0, none⟩ v7).drewN q7) (some k) := (grownBy_set _ _ _ _ _ (World.grownBy.refl _ _)).trans (grown_of (below_drewN' _ q7) _)
      have HG7 : Hid (w.grownBy ((wr.setCell ⟨k, 0, none⟩ v7).drewN q7) (some k)) := HG.out.trans g7
      have N27 : Hid (NB ((wr.setCell ⟨k, 0, none⟩ v7).drewN q7) w.heap.size nd0) := HN2.out.turn g7 (by simp; omega)
      have N37 : Hid (NB ((wr.setCell ⟨k, 0, none⟩ v7).drewN q7) (w.heap.size + 1) (ndK p d (num4 r2) 0)) := HN3.out.turn g7 (by simp; omega)
      have R7 : Hid (RS w0 ((wr.setCell ⟨k, 0, none⟩ v7).drewN q7) k (r2.drop (4 * 1))) := by rw [List.drop_drop] at r7; exact r7
      clear r7 g7 HG HN2 HN3 HR HL
      generalize (wr.setCell ⟨k, 0, none⟩ v7).drewN q7 = w7 at *
      have d0 := N37.out.1.c2
      have f0 := N37.out.2 2
      have N38 : Hid (NB (w7.setCell ⟨w.heap.size + 1, 2, none⟩ (.int .i64 (num4 r2 0))) (w.heap.size + 1) (ndK p d (num4 r2) 1)) := N37.out.put2 (num4 r2 0)
      have N28 : Hid (NB (w7.setCell ⟨w.heap.size + 1, 2, none⟩ (.int .i64 (num4 r2 0))) w.heap.size nd0) := N27.out.other (by omega) _ _
      have R8 : Hid (RS w0 (w7.setCell ⟨w.heap.size + 1, 2, none⟩ (.int .i64 (num4 r2 0))) k (r2.drop (4 * 1))) := R7.out.setOther (by omega) (by omega) _ _
      have G8 : Hid (w.grownBy (w7.setCell ⟨w.heap.size + 1, 2, none⟩ (.int .i64 (num4 r2 0))) (some k)) := grown_new HG7.out (by omega) _ _
      go_wp2
      exact ⟨⟨1, by omega, rfl, by show 4 * 1 ≤ _; omega, G8, N28, N38, R8⟩, by simp [intOf]⟩
    · have hix := fun W => ix_1 W (w.heap.size + 1)
      go_wp2_with fail
      clear hix
      by_cases hlt : 8 ≤ r2.length
      rotate_left
      · refine (number_none w0 wr k 4 _ HR.out (by rw [List.length_drop]; omega)).mono ?_
        rintro e w7 ⟨rfl, rfl⟩
        refine ⟨rfl, HG.out, .inl ⟨?_, rfl⟩⟩
        unfold rdNd; rw [HP1.out]; simp only; rw [HP2.out]; simp only; rw [if_neg (by omega)]
      refine (number_any w0 wr k 4 _ HR.out (by rw [List.length_drop]; omega) (by omega) (by omega) (byt_drop HB2.out _)).mono ?_
      rintro e w7 ⟨rfl, r7, v7, q7, rfl⟩
      rw [wrap4 (byt_drop HB2.out _)]
      have g7 : wr.grownBy ((wr.setCell ⟨k, 0, none⟩ v7).drewN q7) (some k) := (grownBy_set _ _ _ _ _ (World.grownBy.refl _ _)).trans (grown_of (below_drewN' _ q7) _)
      have HG7 : Hid (w.grownBy ((wr.setCell ⟨k, 0, none⟩ v7).drewN q7) (some k)) := HG.out.trans g7
      have N27 : Hid (NB ((wr.setCell ⟨k, 0, none⟩ v7).drewN q7) w.heap.size nd0) := HN2.out.turn g7 (by simp; omega)
      have N37 : Hid (NB ((wr.setCell ⟨k, 0, none⟩ v7).drewN q7) (w.heap.size + 1) (ndK p d (num4 r2) 1)) := HN3.out.turn g7 (by simp; omega)
      have R7 : Hid (RS w0 ((wr.setCell ⟨k, 0, none⟩ v7).drewN q7) k (r2.drop (4 * 2))) := by rw [List.drop_drop] at r7; exact r7
      clear r7 g7 HG HN2 HN3 HR HL
      generalize (wr.setCell ⟨k, 0, none⟩ v7).drewN q7 = w7 at *
      have d0 := N37.out.1.c3
      have f0 := N37.out.2 3
      have N38 : Hid (NB (w7.setCell ⟨w.heap.size + 1, 3, none⟩ (.int .i64 (num4 r2 1))) (w.heap.size + 1) (ndK p d (num4 r2) 2)) := N37.out.put3 (num4 r2 1)
      have N28 : Hid (NB (w7.setCell ⟨w.heap.size + 1, 3, none⟩ (.int .i64 (num4 r2 1))) w.heap.size nd0) := N27.out.other (by omega) _ _
      have R8 : Hid (RS w0 (w7.setCell ⟨w.heap.size + 1, 3, none⟩ (.int .i64 (num4 r2 1))) k (r2.drop (4 * 2))) := R7.out.setOther (by omega) (by omega) _ _
      have G8 : Hid (w.grownBy (w7.setCell ⟨w.heap.size + 1, 3, none⟩ (.int .i64 (num4 r2 1))) (some k)) := grown_new HG7.out (by omega) _ _
      go_wp2
      exact ⟨⟨2, by omega, rfl, by show 4 * 2 ≤ _; omega, G8, N28, N38, R8⟩, by simp [intOf]⟩
    · have hix := fun W => ix_2 W (w.heap.size + 1)
      go_wp2_with fail
      clear hix
      by_cases hlt : 12 ≤ r2.length
      rotate_left
      · refine (number_none w0 wr k 4 _ HR.out (by rw [List.length_drop]; omega)).mono ?_
        rintro e w7 ⟨rfl, rfl⟩
        refine ⟨rfl, HG.out, .inl ⟨?_, rfl⟩⟩
        unfold rdNd; rw [HP1.out]; simp only; rw [HP2.out]; simp only; rw [if_neg (by omega)]
      refine (number_any w0 wr k 4 _ HR.out (by rw [List.length_drop]; omega) (by omega) (by omega) (byt_drop HB2.out _)).mono ?_
      rintro e w7 ⟨rfl, r7, v7, q7, rfl⟩
      rw [wrap4 (byt_drop HB2.out _)]
      have g7 : wr.grownBy ((wr.setCell ⟨k, 0, none⟩ v7).drewN q7) (some k) := (grownBy_set _ _ _ _ _ (World.grownBy.refl _ _)).trans (grown_of (below_drewN' _ q7) _)
      have HG7 : Hid (w.grownBy ((wr.setCell ⟨k, 0, none⟩ v7).drewN q7) (some k)) := HG.out.trans g7
      have N27 : Hid (NB ((wr.setCell ⟨k, 0, none⟩ v7).drewN q7) w.heap.size nd0) := HN2.out.turn g7 (by simp; omega)
      have N37 : Hid (NB ((wr.setCell ⟨k, 0, none⟩ v7).drewN q7) (w.heap.size + 1) (ndK p d (num4 r2) 2)) := HN3.out.turn g7 (by simp; omega)
      have R7 : Hid (RS w0 ((wr.setCell ⟨k, 0, none⟩ v7).drewN q7) k (r2.drop (4 * 3))) := by rw [List.drop_drop] at r7; exact r7
      clear r7 g7 HG HN2 HN3 HR HL
      generalize (wr.setCell ⟨k, 0, none⟩ v7).drewN q7 = w7 at *
      have d0 := N37.out.1.c4
      have f0 := N37.out.2 4
      have N38 : Hid (NB (w7.setCell ⟨w.heap.size + 1, 4, none⟩ (.int .i64 (num4 r2 2))) (w.heap.size + 1) (ndK p d (num4 r2) 3)) := N37.out.put4 (num4 r2 2)
      have N28 : Hid (NB (w7.setCell ⟨w.heap.size + 1, 4, none⟩ (.int .i64 (num4 r2 2))) w.heap.size nd0) := N27.out.other (by omega) _ _
      have R8 : Hid (RS w0 (w7.setCell ⟨w.heap.size + 1, 4, none⟩ (.int .i64 (num4 r2 2))) k (r2.drop (4 * 3))) := R7.out.setOther (by omega) (by omega) _ _
      have G8 : Hid (w.grownBy (w7.setCell ⟨w.heap.size + 1, 4, none⟩ (.int .i64 (num4 r2 2))) (some k)) := grown_new HG7.out (by omega) _ _
      go_wp2
      exact ⟨⟨3, by omega, rfl, by show 4 * 3 ≤ _; omega, G8, N28, N38, R8⟩, by simp [intOf]⟩
    · have hix := fun W => ix_3 W (w.heap.size + 1)
      go_wp2_with fail
      clear hix
      by_cases hlt : 16 ≤ r2.length
      rotate_left
      · refine (number_none w0 wr k 4 _ HR.out (by rw [List.length_drop]; omega)).mono ?_
        rintro e w7 ⟨rfl, rfl⟩
        refine ⟨rfl, HG.out, .inl ⟨?_, rfl⟩⟩
        unfold rdNd; rw [HP1.out]; simp only; rw [HP2.out]; simp only; rw [if_neg (by omega)]
      refine (number_any w0 wr k 4 _ HR.out (by rw [List.length_drop]; omega) (by omega) (by omega) (byt_drop HB2.out _)).mono ?_
      rintro e w7 ⟨rfl, r7, v7, q7, rfl⟩
      rw [wrap4 (byt_drop HB2.out _)]
      have g7 : wr.grownBy ((wr.setCell ⟨k, 0, none⟩ v7).drewN q7) (some k) := (grownBy_set _ _ _ _ _ (World.grownBy.refl _ _)).trans (grown_of (below_drewN' _ q7) _)
      have HG7 : Hid (w.grownBy ((wr.setCell ⟨k, 0, none⟩ v7).drewN q7) (some k)) := HG.out.trans g7
      have N27 : Hid (NB ((wr.setCell ⟨k, 0, none⟩ v7).drewN q7) w.heap.size nd0) := HN2.out.turn g7 (by simp; omega)
      have N37 : Hid (NB ((wr.setCell ⟨k, 0, none⟩ v7).drewN q7) (w.heap.size + 1) (ndK p d (num4 r2) 3)) := HN3.out.turn g7 (by simp; omega)
      have R7 : Hid (RS w0 ((wr.setCell ⟨k, 0, none⟩ v7).drewN q7) k (r2.drop (4 * 4))) := by rw [List.drop_drop] at r7; exact r7
      clear r7 g7 HG HN2 HN3 HR HL
      generalize (wr.setCell ⟨k, 0, none⟩ v7).drewN q7 = w7 at *
      have d0 := N37.out.1.c5
      have f0 := N37.out.2 5
      have N38 : Hid (NB (w7.setCell ⟨w.heap.size + 1, 5, none⟩ (.int .i64 (num4 r2 3))) (w.heap.size + 1) (ndK p d (num4 r2) 4)) := N37.out.put5 (num4 r2 3)
      have N28 : Hid (NB (w7.setCell ⟨w.heap.size + 1, 5, none⟩ (.int .i64 (num4 r2 3))) w.heap.size nd0) := N27.out.other (by omega) _ _
      have R8 : Hid (RS w0 (w7.setCell ⟨w.heap.size + 1, 5, none⟩ (.int .i64 (num4 r2 3))) k (r2.drop (4 * 4))) := R7.out.setOther (by omega) (by omega) _ _
      have G8 : Hid (w.grownBy (w7.setCell ⟨w.heap.size + 1, 5, none⟩ (.int .i64 (num4 r2 3))) (some k)) := grown_new HG7.out (by omega) _ _
      go_wp2
      exact ⟨⟨4, by omega, rfl, by show 4 * 4 ≤ _; omega, G8, N28, N38, R8⟩, by simp [intOf]⟩
    · have hix := fun W => ix_4 W (w.heap.size + 1)
      go_wp2_with fail
      clear hix
      by_cases hlt : 20 ≤ r2.length
      rotate_left
      · refine (number_none w0 wr k 4 _ HR.out (by rw [List.length_drop]; omega)).mono ?_
        rintro e w7 ⟨rfl, rfl⟩
        refine ⟨rfl, HG.out, .inl ⟨?_, rfl⟩⟩
        unfold rdNd; rw [HP1.out]; simp only; rw [HP2.out]; simp only; rw [if_neg (by omega)]
      refine (number_any w0 wr k 4 _ HR.out (by rw [List.length_drop]; omega) (by omega) (by omega) (byt_drop HB2.out _)).mono ?_
      rintro e w7 ⟨rfl, r7, v7, q7, rfl⟩
      rw [wrap4 (byt_drop HB2.out _)]
      have g7 : wr.grownBy ((wr.setCell ⟨k, 0, none⟩ v7).drewN q7) (some k) := (grownBy_set _ _ _ _ _ (World.grownBy.refl _ _)).trans (grown_of (below_drewN' _ q7) _)
      have HG7 : Hid (w.grownBy ((wr.setCell ⟨k, 0, none⟩ v7).drewN q7) (some k)) := HG.out.trans g7
      have N27 : Hid (NB ((wr.setCell ⟨k, 0, none⟩ v7).drewN q7) w.heap.size nd0) := HN2.out.turn g7 (by simp; omega)
      have N37 : Hid (NB ((wr.setCell ⟨k, 0, none⟩ v7).drewN q7) (w.heap.size + 1) (ndK p d (num4 r2) 4)) := HN3.out.turn g7 (by simp; omega)
      have R7 : Hid (RS w0 ((wr.setCell ⟨k, 0, none⟩ v7).drewN q7) k (r2.drop (4 * 5))) := by rw [List.drop_drop] at r7; exact r7
      clear r7 g7 HG HN2 HN3 HR HL
      generalize (wr.setCell ⟨k, 0, none⟩ v7).drewN q7 = w7 at *
      have d0 := N37.out.1.c6
      have f0 := N37.out.2 6
      have N38 : Hid (NB (w7.setCell ⟨w.heap.size + 1, 6, none⟩ (.int .i64 (num4 r2 4))) (w.heap.size + 1) (ndK p d (num4 r2) 5)) := N37.out.put6 (num4 r2 4)
      have N28 : Hid (NB (w7.setCell ⟨w.heap.size + 1, 6, none⟩ (.int .i64 (num4 r2 4))) w.heap.size nd0) := N27.out.other (by omega) _ _
      have R8 : Hid (RS w0 (w7.setCell ⟨w.heap.size + 1, 6, none⟩ (.int .i64 (num4 r2 4))) k (r2.drop (4 * 5))) := R7.out.setOther (by omega) (by omega) _ _
      have G8 : Hid (w.grownBy (w7.setCell ⟨w.heap.size + 1, 6, none⟩ (.int .i64 (num4 r2 4))) (some k)) := grown_new HG7.out (by omega) _ _
      go_wp2
      exact ⟨⟨5, by omega, rfl, by show 4 * 5 ≤ _; omega, G8, N28, N38, R8⟩, by simp [intOf]⟩
    · obtain ⟨⟨-, y0, y1, y2, y3, y4, y5, y6⟩, -⟩ := HN3.out
      obtain ⟨⟨-, x0, x1, x2, x3, x4, x5, x6⟩, xf⟩ := HN2.out
      have hl20 : 20 ≤ r2.length := by omega
      have HRD : Hid (rdNd ys = some (ndK p d (num4 r2) 5, r2.drop 20)) := by
        show _ = _
        unfold rdNd; rw [HP1.out]; simp only; rw [HP2.out]; simp only; rw [if_pos hl20]
        rfl
      obtain ⟨nn, hnn⟩ : ∃ nn, nn = ndK p d (num4 r2) 5 := ⟨_, rfl⟩
      rw [← hnn] at y0 y1 y2 y3 y4 y5 y6 HRD
      clear hnn
      go_wp2
      refine bodyPost_ret (v := ndV nn) (by simp [results, Tryd.results60, go_sem, ndV, x0, x1, x2, x3, x4, x5, x6]) rfl ⟨?_, .inr ⟨nn, r2.drop 20, HRD.out, rfl, ?_⟩⟩
      · iterate 7 refine grown_new ?_ (Nat.le_refl _) _ _
        exact HG.out
      · iterate 7 refine RS.setOther ?_ (by omega) (by omega) _ _
        exact HR.out

end Go.Proofs.YtcopcegamadkgaaDoor

namespace Go.Proofs.YtcopcegamadkgaaDoor
open Go.RowKit

theorem assert_bad (W : World) (v : Value) : (Instr.typeAssert (.iface 146 v) 20 146 true).run Tryd.prog W = .ok (.tuple #[v, .bool true]) W := by kernel_rfl

set_option maxHeartbeats 400000 in
theorem end_nil (w : World) : Calls Tryd.prog 58 #[.nilIface] w fun e w' => e = .returned (.tuple #[]) ∧ w' = w := by
  go_enter Tryd.func58, Tryd.ntmps58
  go_wp2
  exact bodyPost_ret (results_none rfl _ _ _) rfl ⟨rfl, rfl⟩

set_option maxHeartbeats 400000 in
theorem end_bad (w : World) : Calls Tryd.prog 58 #[.iface 146 (.agg #[])] w fun e w' => e = .returned (.tuple #[]) ∧ Below w.heap.size w w' := by
  have ha : ∀ (W : World) (v : Value), (Instr.typeAssert (.iface 146 v) 20 146 true).run Tryd.prog W = .ok (.tuple #[v, .bool true]) W := fun W v => assert_bad W v
  go_enter Tryd.func58, Tryd.ntmps58
  go_wp2
  go_end0
  exact ⟨rfl, (Below.refl _ _).alloc (Nat.le_refl _) _⟩

theorem catchX_bad (older : List PanicEntry) (w : World) :
    CallsD Tryd.prog 114 #[] (.panicking ({ v := .iface 146 (.agg #[]), recovered := false } :: older)) w fun e u' w' =>
      e = .returned (.tuple #[]) ∧ u' = .panicking ({ v := .iface 146 (.agg #[]), recovered := true } :: older) ∧ Below w.heap.size w w' := by
  refine callsD_of_wpS Tryd.func114 rfl fun c₀ cs hu => ?_
  apply wpS_region
  simp [wpOpsS, go_sem, recoverD, hu, Tryd.ntmps114]
  refine (end_bad w).mono ?_
  rintro e w' ⟨rfl, bw⟩
  simp_all [bodyPostS, results, Tryd.results114]
theorem catchX_idle (w : World) :
    CallsD Tryd.prog 114 #[] .returning w fun e u' w' => e = .returned (.tuple #[]) ∧ u' = .returning ∧ w' = w := by
  refine callsD_of_wpS Tryd.func114 rfl fun c₀ cs hu => ?_
  apply wpS_region
  simp [wpOpsS, go_sem, recoverD, hu, Tryd.ntmps114]
  refine (end_nil w).mono ?_
  rintro e w' ⟨rfl, rfl⟩
  cases c₀
  simp_all [bodyPostS, results, Tryd.results114]

end Go.Proofs.YtcopcegamadkgaaDoor

namespace Go.Proofs.YtcopcegamadkgaaDoor
open Go.RowKit

/-- The answer's own variable, still zero. -/
def Zt (W : World) (k : Nat) : Prop := k < W.heap.size ∧ W.cell? ⟨k, 0, none⟩ = some (.bool false) ∧ W.cell? ⟨k, 1, none⟩ = some (.slice none 0 0) ∧ ∀ j, W.frozen? ⟨k, j, none⟩ = false
theorem Zt.turn {W W' : World} {k : Nat} {row : Option Nat} (h : Zt W k) (hg : W.grownBy W' row) (hne : some k ≠ row) : Zt W' k := by
  have hb := hg.block k h.1 hne
  exact ⟨Nat.lt_of_lt_of_le h.1 hg.size, (World.cell?_of_block (a := ⟨k, 0, none⟩) hb).trans h.2.1, (World.cell?_of_block (a := ⟨k, 1, none⟩) hb).trans h.2.2.1, fun j => (World.frozen?_of_block (a := ⟨k, j, none⟩) hb).trans (h.2.2.2 j)⟩
theorem Zt.set {W : World} {k B : Nat} (h : Zt W k) (hne : k ≠ B) (i : Nat) (u : Value) : Zt (W.setCell ⟨B, i, none⟩ u) k :=
  ⟨by simpa using h.1, (World.cell?_setCell_other _ _ _ _ (by intro e; injection e with e; omega)).trans h.2.1, (World.cell?_setCell_other _ _ _ _ (by intro e; injection e with e; omega)).trans h.2.2.1, fun j => by rw [World.frozen?_setCell]; exact h.2.2.2 j⟩
/-- A box of one cell that may be written. -/
def B1 (W : World) (k : Nat) (v : Value) : Prop := k < W.heap.size ∧ W.cell? ⟨k, 0, none⟩ = some v ∧ W.frozen? ⟨k, 0, none⟩ = false
theorem B1.turn {W W' : World} {k : Nat} {v : Value} {row : Option Nat} (h : B1 W k v) (hg : W.grownBy W' row) (hne : some k ≠ row) : B1 W' k v := by
  have hb := hg.block k h.1 hne
  exact ⟨Nat.lt_of_lt_of_le h.1 hg.size, (World.cell?_of_block (a := ⟨k, 0, none⟩) hb).trans h.2.1, (World.frozen?_of_block (a := ⟨k, 0, none⟩) hb).trans h.2.2⟩
theorem OwnN.turn {W W' : World} {lo : Nat} {v : Value} {ns : List Nd} {k : Nat} (h : OwnN 84 W lo v ns) (hg : W.grownBy W' (some k)) (hk : k < lo) : OwnN 84 W' lo v ns := by
  refine World.ownsRow.kept h hg ?_
  cases e : v.ownBlock with
  | none => exact .inl rfl
  | some g =>
    refine .inr fun e2 => ?_
    have := (World.ownsRow.lt h g e).1
    simp only [Option.some.injEq] at e2
    omega
theorem nrow_one (ns : List Nd) (n : Nd) : nrow (ns ++ [n]) = nrow ns ++ ndL n := by rw [nrow_append]; simp [nrow]
theorem ndL_cells (w : World) (n : Nd) (t : TypeId) : ∀ j u, (ndL n)[j]? = some u → (w.alloc (.cells #[.string n.path, .string n.data, .int .i64 n.ver, .int .i64 n.cver, .int .i64 n.cz, .int .i64 n.mz, .int .i64 n.pz] t)).cell? ((⟨w.heap.size, 0, none⟩ : Addr).add j) = some u := by
  intro j u hj
  rw [Addr.add_lit, Nat.zero_add, cell_of (heap_alloc_new w _) j, ← hj]
  simp [ndL]
theorem ndL_one (n : Nd) : ∀ u ∈ ndL n, u.oneCell' = true := by
  intro u hu
  simp only [ndL, List.mem_cons, List.mem_nil_iff, or_false] at hu
  rcases hu with rfl | rfl | rfl | rfl | rfl | rfl | rfl <;> rfl
def SzN (ns : List Nd) : Prop := ∀ n ∈ ns, n.path.size < 256 ∧ n.data.size < 256
theorem SzN.at {ns : List Nd} (h : SzN ns) (i : Nat) : (nAt ns i).path.size ≤ 1048576 ∧ (nAt ns i).data.size ≤ 1048576 := by
  by_cases hi : i < ns.length
  · rw [nAt_get hi]
    have := h _ (List.getElem_mem hi)
    omega
  · unfold nAt; rw [List.getD, List.getElem?_eq_none (by omega)]; exact ⟨Nat.zero_le _, Nat.zero_le _⟩
/-- The way of DecodeTree. -/
def TS (w : World) (ys : List Int) (W : World) (v : Value) (ns : List Nd) (r : List Int) : Prop :=
  Par ys ns r ∧ Byt r ∧ SzN ns ∧ RS w W (w.heap.size + 1) r ∧ Zt W w.heap.size ∧ B1 W (w.heap.size + 1 + 1) v ∧ OwnN 84 W (w.heap.size + 3) v ns
theorem TS.start (w : World) (ao : Option Addr) (ys : List Int) (cap : Nat) (h : Rd .u8 w (.slice ao ys.length cap) ys) (hb : Byt ys) :
    TS w ys (((w.alloc (.cells #[.bool false, .slice none 0 0] 41)).alloc (.cells #[.slice ao ys.length cap] 92)).alloc (.cells #[.slice none 0 0] 36)) (.slice none 0 0) [] ys := by
  refine ⟨Par.start ys, hb, (fun n hn => by cases hn), ⟨by omega, by simp, (by go_simp), (((Below.refl _ _).alloc (Nat.le_refl _) _).alloc (by simp) _).alloc (by simp; omega) _, _, (by go_simp), h⟩, ⟨by simp; omega, (by go_simp), (by go_simp), fun j => (by go_simp)⟩, ⟨by simp, (by go_simp), (by go_simp)⟩, World.ownsRow_nil _ _ _ _⟩

theorem TS.drewN {w W : World} {ys : List Int} {v : Value} {ns : List Nd} {r : List Int} (h : TS w ys W v ns r) (q : Nat) : TS w ys (W.drewN q) v ns r := ⟨h.1, h.2.1, h.2.2.1, h.2.2.2.1.drewN q, h.2.2.2.2.1, h.2.2.2.2.2.1, h.2.2.2.2.2.2⟩
theorem TS.below {w W : World} {ys : List Int} {v : Value} {ns : List Nd} {r : List Int} (h : TS w ys W v ns r) : Below w.heap.size w W := h.2.2.2.1.2.2.2.1

set_option maxHeartbeats 400000 in
theorem done_any (w0 w : World) (k : Nat) (ys : List Int) (h : RS w0 w k ys) :
    Calls Tryd.prog 59 #[.pointer (some ⟨k, 0, none⟩)] w fun e w' => e = .returned (.bool (decide (ys = []))) ∧ w' = w := by
  obtain ⟨-, -, -, -, v, h5, h6⟩ := h
  obtain ⟨ao, c, rfl, -⟩ := h6
  by_cases hy : ys = []
  · subst hy
    have h0 : ((List.length ([] : List Int) : Int) == 0) = true := rfl
    go_enter Tryd.func59, Tryd.ntmps59
    go_wp2
    go_ret
    exact ⟨rfl, rfl⟩
  · have hl : 0 < ys.length := List.length_pos_iff.2 hy
    have h0 : ((ys.length : Int) == 0) = false := beq_eq_false_iff_ne.2 (by omega)
    rw [decide_eq_false hy]
    go_enter Tryd.func59, Tryd.ntmps59
    go_wp2
    go_ret
    exact ⟨rfl, rfl⟩

theorem hmf (fn : Fn) (first cap : Array Value) (w : World) : (Instr.makeFunc fn first cap).run Tryd.prog w = .ok (.func fn first cap) w := rfl

theorem RS.turn {w0 W W' : World} {k : Nat} {r : List Int} {row : Option Nat} (h : RS w0 W k r) (hg : W.grownBy W' row) (hne : some k ≠ row) (hlo : ∀ g, row = some g → w0.heap.size ≤ g) : RS w0 W' k r := by
  obtain ⟨h1, h2, h3, h4, v, h5, h6⟩ := h
  have hb := hg.block k h2 hne
  exact ⟨h1, Nat.lt_of_lt_of_le h2 hg.size, (World.frozen?_of_block (a := ⟨k, 0, none⟩) hb).trans h3, h4.grown hg h4.size hlo, v, (World.cell?_of_block (a := ⟨k, 0, none⟩) hb).trans h5, h6⟩
/-- A node was read. -/
def TR (w : World) (ys : List Int) (W : World) (v : Value) (ns : List Nd) (n : Nd) (r : List Int) : Prop :=
  Par ys (ns ++ [n]) r ∧ Byt r ∧ SzN (ns ++ [n]) ∧ RS w W (w.heap.size + 1) r ∧ Zt W w.heap.size ∧ B1 W (w.heap.size + 1 + 1) v ∧ OwnN 84 W (w.heap.size + 3) v ns
theorem TS.read {w W W1 : World} {ys : List Int} {v : Value} {ns : List Nd} {r r' : List Int} {n : Nd} (h : TS w ys W v ns r) (hg : W.grownBy W1 (some (w.heap.size + 1))) (hp : rdNd r = some (n, r')) (hr : RS w W1 (w.heap.size + 1) r') : TR w ys W1 v ns n r' := by
  obtain ⟨t1, t2, t3, t4, t5, t6, t7⟩ := h
  have hb := rdNd_byt hp t2
  refine ⟨t1.step t2 hp, hb.1, ?_, hr, t5.turn hg (by simp), t6.turn hg (by simp), t7.turn hg (by omega)⟩
  intro m hm
  rcases List.mem_append.1 hm with hm | hm
  · exact t3 m hm
  · simp at hm; subst hm; exact hb.2.2
theorem TR.alloc {w W : World} {ys : List Int} {v : Value} {ns : List Nd} {r : List Int} {n : Nd} (h : TR w ys W v ns n r) (o : Obj) : TR w ys (W.alloc o) v ns n r := by
  obtain ⟨t1, t2, t3, t4, t5, t6, t7⟩ := h
  exact ⟨t1, t2, t3, t4.new ((Below.refl _ _).alloc (Nat.le_refl _) _), t5.turn (grown_alloc _ _ none) (by simp), t6.turn (grown_alloc _ _ none) (by simp), t7.below ((Below.refl _ _).alloc (Nat.le_refl _) _)⟩
theorem TR.push {w W W3 : World} {ys : List Int} {v v3 : Value} {ns : List Nd} {r : List Int} {n : Nd} (h : TR w ys W v ns n r) (hg : W.grownBy W3 v.ownBlock) (ho : W3.ownsRow (w.heap.size + 3) 84 7 v3 (ns.length + 1) (nrow ns ++ ndL n)) :
    TS w ys (W3.setCell ⟨w.heap.size + 1 + 1, 0, none⟩ v3) v3 (ns ++ [n]) r := by
  obtain ⟨t1, t2, t3, t4, t5, t6, t7⟩ := h
  have hne : ∀ k, k < w.heap.size + 3 → some k ≠ v.ownBlock := fun k hk e => by have := (World.ownsRow.lt t7 k e.symm).1; omega
  have hlo : ∀ g, v.ownBlock = some g → w.heap.size ≤ g := fun g e => by have := (World.ownsRow.lt t7 g e).1; omega
  have b6 := t6.turn hg (hne _ (by omega))
  refine ⟨t1, t2, t3, (t4.turn hg (hne _ (by omega)) hlo).setOther (by omega) (by omega) _ _, (t5.turn hg (hne _ (by omega))).set (by omega) _ _, ⟨by simpa using b6.1, World.cell?_setCell_same _ _ _ b6.2.1, by rw [World.frozen?_setCell]; exact b6.2.2⟩, ?_⟩
  have : OwnN 84 W3 (w.heap.size + 3) v3 (ns ++ [n]) := by unfold OwnN; rw [nrow_one, List.length_append]; exact ho
  exact OwnN.setBelow this (by show w.heap.size + 1 + 1 < w.heap.size + 3; omega) _

end Go.Proofs.YtcopcegamadkgaaDoor

namespace Go.Proofs.YtcopcegamadkgaaDoor
open Go.RowKit Go.Shelf

/-- The nodes without a path. -/
def woN (ns : List Nd) (p : ByteArray) : List Nd := ns.filter fun n => !(n.path.toList == p.toList)
theorem woN_yes (ns : List Nd) (p : ByteArray) (k : Nat) (h : k < ns.length) (hc : ((nAt ns k).path.toList == p.toList) = true) : woN (ns.take (k + 1)) p = woN (ns.take k) p := by
  unfold woN
  rw [List.take_succ_eq_append_getElem h, List.filter_append, ← nAt_get h]
  simp [hc]
theorem woN_no (ns : List Nd) (p : ByteArray) (k : Nat) (h : k < ns.length) (hc : ((nAt ns k).path.toList == p.toList) = false) : woN (ns.take (k + 1)) p = woN (ns.take k) p ++ [nAt ns k] := by
  unfold woN
  rw [List.take_succ_eq_append_getElem h, List.filter_append, ← nAt_get h]
  simp [hc]
theorem woN_len (ns : List Nd) (p : ByteArray) : (woN ns p).length ≤ ns.length := List.length_filter_le _ _

set_option maxHeartbeats 1000000 in
set_option maxRecDepth 100000 in
theorem without_any (w : World) (v : Value) (ns : List Nd) (p : ByteArray) (h : RdN w v ns) (hn : ns.length ≤ 1000000) :
    Calls Tryd.prog 67 #[v, .string p] w fun e w' => ∃ v', e = .returned v' ∧ OwnN 84 w' w.heap.size v' (woN ns p) ∧ Below w.heap.size w w' := by
  obtain ⟨i0, hi, hz0, hz1, hz2⟩ := info_parts Tryd.infoN
  obtain ⟨ao, ca, rfl, _, _⟩ := h.len
  have HR : Hid (RdN w (.slice ao ns.length ca) ns) := h
  have O0 : Hid (OwnN 84 (w.alloc (.cells #[] 84)) w.heap.size (.slice (some ⟨w.heap.size, 0, none⟩) 0 0) (woN (ns.take 0) p)) := World.ownsRow_lit w #[] 0 (Nat.le_refl _) (Nat.zero_le _) rfl
  have B0 : Hid (Below w.heap.size w (w.alloc (.cells #[] 84))) := (Below.refl _ _).alloc (Nat.le_refl _) _
  generalize hnn : ns.length = n at *
  have HP : Hid (ns.length = n) := hnn
  clear h hnn
  go_enter Tryd.func67, Tryd.ntmps67
  go_wp2
  go_loopw [5, 6] (fun vo vk wr => ∃ k : Nat, k ≤ n ∧ vk = .int .i64 k ∧ Hid (OwnN 84 wr w.heap.size vo (woN (ns.take k) p)) ∧ Hid (Below w.heap.size w wr)) (fun _ i _ => n - (intOf i).toNat)
  case atStart => exact ⟨0, Nat.zero_le _, rfl, O0, B0⟩
  case round =>
    obtain ⟨k, hk, rfl, HW, HB⟩ := hrel
    have sB := HB.out.size
    by_cases hlt : k < n
    · have hltI : (k : Int) < (n : Int) := by omega
      obtain ⟨b, o, hao, hb, hc⟩ : ∃ b o, ao = some ⟨b, o, none⟩ ∧ b < w.heap.size ∧ CellsN w b (o + k * 7) (nAt ns k) := by
        obtain ⟨ao', cap', e', -, -, h3⟩ := HR.out
        simp only [Value.slice.injEq] at e'
        obtain ⟨rfl, -, -⟩ := e'
        rcases h3 with h3 | ⟨b, o, rfl, hb, hc⟩
        · have := HP.out; rw [h3] at this; simp at this; omega
        · exact ⟨b, o, rfl, hb, hc k (by rw [HP.out]; exact hlt)⟩
      subst hao
      obtain ⟨c0, c1, c2, c3, c4, c5, c6⟩ := hc.below HB.out hb
      clear hc
      have hll : (woN (ns.take k) p).length ≤ 1000000 := by
        have := woN_len (ns.take k) p
        rw [List.length_take] at this
        omega
      cases hA : ((nAt ns k).path.toList == p.toList) with
      | true =>
        have HS : Hid (woN (ns.take (k + 1)) p = woN (ns.take k) p) := woN_yes ns p k (by rw [HP.out]; exact hlt) hA
        go_wp2
        exact ⟨⟨k + 1, by omega, by go_num, (by rw [HS.out]; exact HW), HB⟩, by simp [intOf]; omega⟩
      | false =>
        have HS : Hid (woN (ns.take (k + 1)) p = woN (ns.take k) p ++ [nAt ns k]) := woN_no ns p k (by rw [HP.out]; exact hlt) hA
        generalize woN (ns.take k) p = Lk at *
        generalize nAt ns k = m at *
        have OR : Hid (wr.ownsRow w.heap.size 84 7 u5 Lk.length (nrow Lk)) := HW.out
        go_wp2_with (at_builtin; go_must (refine wpList_append_own _ rfl _ _ 34 rfl w.heap.size 84 i0 (.agg #[.string ByteArray.empty, .string ByteArray.empty, .int .i64 0, .int .i64 0, .int .i64 0, .int .i64 0, .int .i64 0]) 7 72 Tryd.underlying34 hi hz0 hz1 hz2 rfl (by decide) _ _ _ rfl (OR.out.alloc _) ⟨wr.heap.size, 0, none⟩ 1 1 (ndL m) rfl rfl (ndL_cells wr m _) (ndL_one m) ?_ ?_ ?_ ?_))
        · unfold maxLen; omega
        · omega
        · simp; omega
        intro v5 w5 ho5 hg5 _
        have O5 : Hid (OwnN 84 w5 w.heap.size v5 (woN (ns.take (k + 1)) p)) := by
          rw [HS.out]
          unfold OwnN
          rw [List.length_append, nrow_one]
          exact ho5
        have B5 : Hid (Below w.heap.size w w5) := (HB.out.alloc sB _).grown hg5 (by simp; omega) (fun q hq => (World.ownsRow.lt OR.out q hq).1)
        clear ho5 hg5 OR HW HB HS c0 c1 c2 c3 c4 c5 c6
        go_wp2
        exact ⟨⟨k + 1, by omega, by go_num, O5, B5⟩, by simp [intOf]; omega⟩
    · have hkn : k = n := by omega
      subst hkn
      go_wp2
      go_ret
      refine ⟨_, rfl, ?_, HB.out⟩
      have := HW.out
      rw [List.take_of_length_le (by rw [HP.out]; exact Nat.le_refl _)] at this
      exact this

end Go.Proofs.YtcopcegamadkgaaDoor

