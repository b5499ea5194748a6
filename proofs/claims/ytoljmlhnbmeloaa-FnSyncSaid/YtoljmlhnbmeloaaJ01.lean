import Derived.WalkKit
import Derived.ProofKit
import Derived.OpenShut
import Derived.Handy
import Derived.Carry
import Derived.WalkSpells
import Derived.WalkSmall
import Derived.Test.YtoljmlhnbmeloaaChecked
import Derived.Deep.QuietTactic
import Derived.BigQuiet
import Derived.Deep.RegionHeld3
import Derived.Deep.RegionLaw
import Derived.Laws.BytesArg
import Derived.Lib.ConvBytes
import Derived.Test.YtoljmlhnbmeloaaRows
namespace Go.Proofs.Ytoljmlhnbmeloaa
open Go.RowKit

/-- A slice of one-cell integers that reads as xs. -/
def Rd (k : IntKind) (w : World) (v : Value) (xs : List Int) : Prop :=
  ∃ ao cap, v = .slice ao xs.length cap ∧ xs.length ≤ cap ∧ cap ≤ maxLen ∧
    (xs = [] ∨ ∃ b off, ao = some ⟨b, off, none⟩ ∧ b < w.heap.size ∧ ∀ i, i < xs.length → w.cell? ⟨b, off + i, none⟩ = some (.int k (xs.getD i 0)))

/-- A slice of one-cell integers that is the call's own, from block 'base' on. -/
def Own (k : IntKind) (e : TypeId) (w : World) (base : Nat) (v : Value) (xs : List Int) : Prop :=
  w.ownsRow base e 1 v xs.length (xs.map (Value.int k))

theorem Own.rd {k : IntKind} {e : TypeId} {w : World} {base : Nat} {v : Value} {xs : List Int} (h : Own k e w base v xs) : Rd k w v xs := by
  rcases h.2 with ⟨rfl, h0⟩ | ⟨g, cap, cur, rfl, hb, hg, hn, hm, hs, ht⟩
  · have : xs = [] := List.eq_nil_of_length_eq_zero h0
    subst this
    exact ⟨none, 0, rfl, Nat.le_refl _, Nat.zero_le _, .inl rfl⟩
  · refine ⟨_, cap, rfl, hn, hm, .inr ⟨g, 0, rfl, (Array.getElem?_eq_some_iff.1 hg).1, fun i hi => ?_⟩⟩
    have h1 := World.ownsRow.cells h (g := g) rfl i (.int k (xs.getD i 0)) (by simp [List.getD, hi])
    rw [Addr.add_lit] at h1
    exact h1

theorem Own.below {k : IntKind} {e : TypeId} {w w' : World} {base : Nat} {v : Value} {xs : List Int} (h : Own k e w base v xs) (hb : Below w.heap.size w w') : Own k e w' base v xs := by
  refine ⟨h.1, ?_⟩
  rcases h.2 with hn | ⟨g, cap, cur, rfl, hbg, hgg, rest⟩
  · exact .inl hn
  · exact .inr ⟨g, cap, cur, rfl, hbg, by rw [hb.block g (Array.getElem?_eq_some_iff.1 hgg).1]; exact hgg, rest⟩

theorem Own.mono {k : IntKind} {e : TypeId} {w : World} {base base' : Nat} {v : Value} {xs : List Int} (h : Own k e w base v xs) (hb : base' ≤ base) : Own k e w base' v xs := by
  refine ⟨h.1, ?_⟩
  rcases h.2 with hn | ⟨g, cap, cur, rfl, hbg, rest⟩
  · exact .inl hn
  · exact .inr ⟨g, cap, cur, rfl, by omega, rest⟩

theorem Rd.below {k : IntKind} {w w' : World} {v : Value} {xs : List Int} (h : Rd k w v xs) (hb : Below w.heap.size w w') : Rd k w' v xs := by
  obtain ⟨ao, cap, rfl, h1, h2, h3⟩ := h
  refine ⟨ao, cap, rfl, h1, h2, ?_⟩
  rcases h3 with h3 | ⟨b, off, rfl, hlt, hc⟩
  · exact .inl h3
  · exact .inr ⟨b, off, rfl, Nat.lt_of_lt_of_le hlt hb.size, fun i hi => by rw [hb.cell (p := ⟨b, off + i, none⟩) hlt]; exact hc i hi⟩

theorem Rd.drewN {k : IntKind} {w : World} {v : Value} {xs : List Int} (h : Rd k w v xs) (n : Nat) : Rd k (w.drewN n) v xs := h.below ⟨rfl, rfl, rfl, Nat.le_refl _, fun _ _ => rfl⟩
theorem Own.drewN {k : IntKind} {e : TypeId} {w : World} {base : Nat} {v : Value} {xs : List Int} (h : Own k e w base v xs) (n : Nat) : Own k e (w.drewN n) base v xs := h
theorem below_drewN' (w : World) (n : Nat) : Below w.heap.size w (w.drewN n) := ⟨rfl, rfl, rfl, Nat.le_refl _, fun _ _ => rfl⟩

/-- A row that was written leaves every other row. -/
theorem Own.other {k : IntKind} {e : TypeId} {w w' : World} {base : Nat} {v : Value} {xs : List Int} {row : Option Nat} (h : Own k e w base v xs) (hg : w.grownBy w' row) (hne : v.ownBlock = none ∨ v.ownBlock ≠ row) : Own k e w' base v xs :=
  World.ownsRow.kept h hg hne

theorem Own.lt {k : IntKind} {e : TypeId} {w : World} {base : Nat} {v : Value} {xs : List Int} (h : Own k e w base v xs) : ∀ g, v.ownBlock = some g → base ≤ g ∧ g < w.heap.size := World.ownsRow.lt h

theorem Rd.len {k : IntKind} {w : World} {v : Value} {xs : List Int} (h : Rd k w v xs) : ∃ ao cap, v = .slice ao xs.length cap ∧ xs.length ≤ cap ∧ cap ≤ maxLen := by
  obtain ⟨ao, cap, h0, h1, h2, _⟩ := h
  exact ⟨ao, cap, h0, h1, h2⟩

end Go.Proofs.Ytoljmlhnbmeloaa

namespace Go.Proofs.Ytoljmlhnbmeloaa
open Go.RowKit

theorem Try.infoB : (Try.prog.info? 5).map (fun i => (i.zero, i.size, i.bytes)) = some (some (.int .u8 0), 1, 1) := by kernel_rfl

theorem ret_bool {a b : Bool} (h : a = b) : Ending.returned (.bool a) = .returned (.bool b) := by rw [h]
theorem ret_int {k : IntKind} {a b : Int} (h : a = b) : Ending.returned (.int k a) = .returned (.int k b) := by rw [h]

theorem take_eq_succ {xs ys : List Int} {k : Nat} (hx : k < xs.length) (hy : k < ys.length) (h : xs.take k = ys.take k) (hk : xs.getD k 0 = ys.getD k 0) : xs.take (k + 1) = ys.take (k + 1) := by
  rw [List.take_succ_eq_append_getElem hx, List.take_succ_eq_append_getElem hy, h]
  simp [List.getD, hx, hy] at hk
  rw [hk]

theorem ne_of_getD {xs ys : List Int} {k : Nat} (hk : ¬ xs.getD k 0 = ys.getD k 0) : ¬ xs = ys := by
  intro h; subst h; exact hk rfl

set_option maxHeartbeats 400000 in
theorem eqByteS_len (w : World) (ao bo : Option Addr) (n m ca cb : Nat) (h : n ≠ m) :
    Calls Try.prog 24 #[.slice ao n ca, .slice bo m cb] w fun e w' => e = .returned (.bool false) ∧ w' = w := by
  have h1 : ((n : Int) != (m : Int)) = true := by rw [bne_iff_ne]; omega
  go_enter Try.func24, Try.ntmps24
  go_wp2
  go_ret
  exact ⟨rfl, rfl⟩

set_option maxHeartbeats 400000 in
theorem eqByteS_nil (w : World) (ao bo : Option Addr) (ca cb : Nat) :
    Calls Try.prog 24 #[.slice ao 0 ca, .slice bo 0 cb] w fun e w' => e = .returned (.bool true) ∧ w' = w := by
  go_enter Try.func24, Try.ntmps24
  go_wp2
  go_rounds 1
  go_ret
  exact ⟨rfl, rfl⟩

set_option maxHeartbeats 400000 in
theorem eqByteS_row (w : World) (b o b2 o2 n ca cb : Nat) (hn : n ≤ maxLen) (xs ys : List Int) (hx : xs.length = n) (hy : ys.length = n)
    (hcx : ∀ i, i < n → w.cell? ⟨b, o + i, none⟩ = some (.int .u8 (xs.getD i 0))) (hcy : ∀ i, i < n → w.cell? ⟨b2, o2 + i, none⟩ = some (.int .u8 (ys.getD i 0))) :
    Calls Try.prog 24 #[.slice (some ⟨b, o, none⟩) n ca, .slice (some ⟨b2, o2, none⟩) n cb] w fun e w' => e = .returned (.bool (decide (xs = ys))) ∧ ∃ q, w' = w.drewN q := by
  unfold maxLen at hn
  have HX : Hid (xs.length = n) := hx
  have HY : Hid (ys.length = n) := hy
  have CX : Hid (∀ i, i < n → w.cell? ⟨b, o + i, none⟩ = some (.int .u8 (xs.getD i 0))) := hcx
  have CY : Hid (∀ i, i < n → w.cell? ⟨b2, o2 + i, none⟩ = some (.int .u8 (ys.getD i 0))) := hcy
  clear hx hy hcx hcy
  have h1 : ((n : Int) != (n : Int)) = false := by simp
  go_enter Try.func24, Try.ntmps24
  go_wp2
  go_loopw [5] (fun i wr => ∃ k : Nat, k ≤ n ∧ i = .int .i64 k ∧ Hid (xs.take k = ys.take k) ∧ ∃ q, wr = w.drewN q) (fun i _ => n - (intOf i).toNat)
  case atStart => exact ⟨0, Nat.zero_le _, rfl, rfl, 0, rfl⟩
  case round =>
    obtain ⟨k, hk, rfl, HT, q, rfl⟩ := hrel
    by_cases hlt : k < n
    · have c1 : w.cell? ⟨b, o + k, none⟩ = some (.int .u8 (xs.getD k 0)) := CX.out k hlt
      have c2 : w.cell? ⟨b2, o2 + k, none⟩ = some (.int .u8 (ys.getD k 0)) := CY.out k hlt
      have hltI : (k : Int) < (n : Int) := by omega
      generalize hu : xs.getD k 0 = u at c1
      generalize hv : ys.getD k 0 = v at c2
      have HU : Hid (xs.getD k 0 = u) := hu
      have HV : Hid (ys.getD k 0 = v) := hv
      clear hu hv
      by_cases he : u = v
      · have hb : (u != v) = false := by simp [he]
        have HE : Hid (u = v) := he
        clear he
        go_wp2
        go_quiet (fail)
        go_wp2
        go_roundw
        case rel => exact ⟨k + 1, by omega, by go_num, take_eq_succ (by rw [HX.out]; omega) (by rw [HY.out]; omega) HT.out (by rw [HU.out, HV.out, HE.out]), _, rfl⟩
        case measure => simp [intOf]; omega
      · have hb : (u != v) = true := by simp [he]
        have HE : Hid (¬ u = v) := he
        clear he
        go_wp2
        go_quiet (fail)
        go_wp2
        go_ret
        exact ⟨ret_bool (by symm; rw [decide_eq_false_iff_not]; exact ne_of_getD (k := k) (by rw [HU.out, HV.out]; exact HE.out)), _, World.drewN_drewN _ _ _⟩
    · go_wp2
      go_ret
      exact ⟨ret_bool (by symm; rw [decide_eq_true_iff]; have h := HT.out; rw [List.take_of_length_le (by rw [HX.out]; omega), List.take_of_length_le (by rw [HY.out]; omega)] at h; exact h), _, rfl⟩

theorem eqByteS_any (w : World) (va vb : Value) (xs ys : List Int) (ha : Rd .u8 w va xs) (hb : Rd .u8 w vb ys) :
    Calls Try.prog 24 #[va, vb] w fun e w' => e = .returned (.bool (decide (xs = ys))) ∧ ∃ q, w' = w.drewN q := by
  obtain ⟨ao, ca, rfl, h1, h2, h3⟩ := ha
  obtain ⟨bo, cb, rfl, k1, k2, k3⟩ := hb
  by_cases hne : xs.length = ys.length
  · rcases h3 with rfl | ⟨b, o, rfl, _, hc⟩
    · have hy : ys = [] := List.eq_nil_of_length_eq_zero hne.symm
      subst hy
      refine (eqByteS_nil w ao bo ca cb).mono ?_
      rintro e w' ⟨rfl, rfl⟩
      exact ⟨ret_bool (by simp), 0, rfl⟩
    · rcases k3 with rfl | ⟨b2, o2, rfl, _, hc2⟩
      · have hx : xs = [] := List.eq_nil_of_length_eq_zero hne
        subst hx
        refine (eqByteS_nil w _ bo ca cb).mono ?_
        rintro e w' ⟨rfl, rfl⟩
        exact ⟨ret_bool (by simp), 0, rfl⟩
      · rw [← hne] at hc2 ⊢
        exact eqByteS_row w b o b2 o2 xs.length ca cb (by omega) xs ys rfl hne.symm hc hc2
  · refine (eqByteS_len w ao bo _ _ ca cb hne).mono ?_
    rintro e w' ⟨rfl, rfl⟩
    exact ⟨ret_bool (by symm; rw [decide_eq_false_iff_not]; intro h; exact hne (by rw [h])), 0, rfl⟩

/-! ### a row that is written from its head on -/
def mix (ys xs : List Int) (i : Nat) : List Int := ys.take i ++ xs.drop i

theorem mix_length {ys xs : List Int} (h : ys.length = xs.length) (i : Nat) : (mix ys xs i).length = xs.length := by
  simp [mix]; omega

theorem mix_zero (ys xs : List Int) : mix ys xs 0 = xs := by simp [mix]

theorem mix_all {ys xs : List Int} (h : ys.length = xs.length) {i : Nat} (hi : xs.length ≤ i) : mix ys xs i = ys := by
  simp [mix, List.take_of_length_le (show ys.length ≤ i by omega), List.drop_eq_nil_of_le hi]

theorem mix_set {ys xs : List Int} (h : ys.length = xs.length) {i : Nat} (hi : i < xs.length) : (mix ys xs i).set i (ys.getD i 0) = mix ys xs (i + 1) := by
  apply List.ext_getElem?
  intro j
  unfold mix
  rw [List.getElem?_set]
  by_cases e : i = j
  · subst e
    have h1 : i < (ys.take i ++ xs.drop i).length := by simp; omega
    have h2 : i < (ys.take (i + 1)).length := by simp; omega
    rw [if_pos rfl, if_pos h1, List.getElem?_append_left h2, List.getElem?_take_of_lt (by omega)]
    simp [List.getD, show i < ys.length by omega]
  · rw [if_neg e]
    by_cases hlt : j < i
    · rw [List.getElem?_append_left (by simp; omega), List.getElem?_append_left (by simp; omega), List.getElem?_take_of_lt hlt, List.getElem?_take_of_lt (by omega)]
    · rw [List.getElem?_append_right (by simp; omega), List.getElem?_append_right (by simp; omega), List.getElem?_drop, List.getElem?_drop]
      simp only [List.length_take]
      congr 1
      omega

theorem Own.mixed {k : IntKind} {e : TypeId} {w : World} {base g n cap : Nat} {ys xs : List Int} {i : Nat} (hy : ys.length = xs.length) (hn : xs.length = n) (hi : i < xs.length)
    (h : Own k e w base (.slice (some ⟨g, 0, none⟩) n cap) (mix ys xs i)) {u : Int} (hu : u = ys.getD i 0) :
    Own k e (w.setCell ⟨g, i, none⟩ (.int k u)) base (.slice (some ⟨g, 0, none⟩) n cap) (mix ys xs (i + 1)) := by
  subst hu
  unfold Own at h ⊢
  rw [mix_length hy, hn] at h ⊢
  have := (World.ownsRow.stored h i (.int k (ys.getD i 0))).1
  rw [← List.map_set, mix_set hy hi] at this
  exact this

theorem grownBy_set (w w' : World) (g i : Nat) (u : Value) (h : w.grownBy w' (some g)) : w.grownBy (w'.setCell ⟨g, i, none⟩ u) (some g) :=
  ⟨h.os, h.tape, h.output, by simpa using h.size, fun k hk hne => by
    have hs := h.size
    rw [← h.block k hk hne]
    exact Below.heap_setCell _ _ _ _ (fun e => hne (by rw [e]))⟩

/-- What the marks are. -/
def marks (k : Int) (n : Nat) : List Int := (List.range n).map fun (i : Nat) => (k + (i : Int)) % 256
theorem marks_length (k : Int) (n : Nat) : (marks k n).length = n := by simp [marks]
theorem marks_getD (k : Int) (n i : Nat) (h : i < n) : (marks k n).getD i 0 = (k + i) % 256 := by simp [marks, List.getD, h]

theorem Own.row {k : IntKind} {e : TypeId} {w : World} {base : Nat} {v : Value} {xs : List Int} (h : Own k e w base v xs) :
    (v = .slice none 0 0 ∧ xs = []) ∨ ∃ g cap, v = .slice (some ⟨g, 0, none⟩) xs.length cap ∧ base ≤ g ∧ xs.length ≤ cap ∧ cap ≤ maxLen := by
  rcases h.2 with ⟨rfl, h0⟩ | ⟨g, cap, cur, rfl, hb, hg, hn, hm, _⟩
  · exact .inl ⟨rfl, List.eq_nil_of_length_eq_zero h0⟩
  · exact .inr ⟨g, cap, rfl, hb, hn, hm⟩

set_option maxHeartbeats 400000 in
theorem markByteS_row (w : World) (base g n cap : Nat) (xs : List Int) (k : Int) (hx : xs.length = n) (hown : Own .u8 5 w base (.slice (some ⟨g, 0, none⟩) n cap) xs) (hk0 : 0 ≤ k) (hk1 : k ≤ 1099511627776) (hn : n ≤ 1099511627776) :
    Calls Try.prog 27 #[.slice (some ⟨g, 0, none⟩) n cap, .int .i64 k] w fun e w' => e = .returned (.int .i64 (k + n)) ∧ Own .u8 5 w' base (.slice (some ⟨g, 0, none⟩) n cap) (marks k n) ∧ w.grownBy w' (some g) := by
  have HX : Hid (xs.length = n) := hx
  clear hx
  go_enter Try.func27, Try.ntmps27
  go_wp2
  go_loopw [1, 5] (fun kk i wr => ∃ j : Nat, j ≤ n ∧ i = .int .i64 j ∧ kk = .int .i64 (k + j) ∧ Own .u8 5 wr base (.slice (some ⟨g, 0, none⟩) n cap) (mix (marks k n) xs j) ∧ w.grownBy wr (some g)) (fun _ i _ => n - (intOf i).toNat)
  case atStart => exact ⟨0, Nat.zero_le _, rfl, by go_num, by rw [mix_zero]; exact hown, World.grownBy.refl _ _⟩
  case round =>
    obtain ⟨j, hj, rfl, rfl, ho, hg⟩ := hrel
    by_cases hlt : j < n
    · have ho' : wr.ownsRow base 5 1 (.slice (some ⟨g, 0, none⟩) n cap) n ((mix (marks k n) xs j).map (Value.int .u8)) := by
        have := ho; unfold Own at this; rw [mix_length (by rw [marks_length, HX.out]), HX.out] at this; exact this
      have hf := World.ownsRow.frozenAt ho' j
      have hc : ∃ c, wr.cell? ⟨g, j, none⟩ = some c := ⟨_, (World.ownsRow.cellAt ho' j (by omega)).trans (List.getElem?_eq_getElem (by simp [mix_length (show (marks k n).length = xs.length by rw [marks_length, HX.out]), HX.out]; exact hlt))⟩
      obtain ⟨c, hc⟩ := hc
      have HO : Hid (Own .u8 5 wr base (.slice (some ⟨g, 0, none⟩) n cap) (mix (marks k n) xs j)) := ho
      clear ho ho'
      have hltI : (j : Int) < (n : Int) := by omega
      go_wp2
      go_roundw
      case rel => exact ⟨j + 1, by omega, by go_num, by go_num, Own.mixed (by rw [marks_length, HX.out]) HX.out (by rw [HX.out]; exact hlt) HO.out (by rw [marks_getD _ _ _ hlt]), grownBy_set _ _ _ _ _ hg⟩
      case measure => simp [intOf]; omega
    · have hjn : j = n := by omega
      subst hjn
      go_wp2
      go_ret
      exact ⟨rfl, by rw [mix_all (by rw [marks_length, HX.out]) (by rw [HX.out]; exact Nat.le_refl _)] at ho; exact ho, hg⟩

set_option maxHeartbeats 400000 in
theorem markByteS_nil (w : World) (k : Int) : Calls Try.prog 27 #[.slice none 0 0, .int .i64 k] w fun e w' => e = .returned (.int .i64 k) ∧ w' = w := by
  go_enter Try.func27, Try.ntmps27
  go_wp2
  go_rounds 1
  go_ret
  exact ⟨rfl, rfl⟩

theorem markByteS_any (w : World) (base : Nat) (v : Value) (xs : List Int) (k : Int) (hown : Own .u8 5 w base v xs) (hk0 : 0 ≤ k) (hk1 : k ≤ 1099511627776) (hn : xs.length ≤ 1099511627776) :
    Calls Try.prog 27 #[v, .int .i64 k] w fun e w' => e = .returned (.int .i64 (k + xs.length)) ∧ Own .u8 5 w' base v (marks k xs.length) ∧ w.grownBy w' v.ownBlock := by
  rcases hown.row with ⟨rfl, rfl⟩ | ⟨g, cap, rfl, _⟩
  · refine (markByteS_nil w k).mono ?_
    rintro e w' ⟨rfl, rfl⟩
    exact ⟨ret_int (by simp), World.ownsRow_nil _ _ _ _, World.grownBy.refl _ _⟩
  · exact markByteS_row w base g xs.length cap xs k rfl hown hk0 hk1 hn

set_option maxHeartbeats 400000 in
theorem heldByteS_nil (w : World) (ao : Option Addr) (cap : Nat) (k : Int) : Calls Try.prog 28 #[.slice ao 0 cap, .int .i64 k] w fun e w' => e = .returned (.int .i64 k) ∧ w' = w := by
  go_enter Try.func28, Try.ntmps28
  go_wp2
  go_rounds 1
  go_ret
  exact ⟨rfl, rfl⟩

set_option maxHeartbeats 400000 in
theorem heldByteS_row (w : World) (b o n cap : Nat) (k : Int) (hc : ∀ i, i < n → w.cell? ⟨b, o + i, none⟩ = some (.int .u8 ((k + i) % 256))) (hk0 : 0 ≤ k) (hk1 : k ≤ 1099511627776) (hn : n ≤ 1099511627776) :
    Calls Try.prog 28 #[.slice (some ⟨b, o, none⟩) n cap, .int .i64 k] w fun e w' => e = .returned (.int .i64 (k + n)) ∧ w' = w := by
  have HC : Hid (∀ i, i < n → w.cell? ⟨b, o + i, none⟩ = some (.int .u8 ((k + i) % 256))) := hc
  clear hc
  go_enter Try.func28, Try.ntmps28
  go_wp2
  go_loop [1, 5] (fun kk i => ∃ j : Nat, j ≤ n ∧ i = .int .i64 j ∧ kk = .int .i64 (k + j)) (fun _ i => n - (intOf i).toNat)
  case atStart => exact ⟨0, Nat.zero_le _, rfl, by go_num⟩
  case round =>
    obtain ⟨j, hj, rfl, rfl⟩ := hrel
    by_cases hlt : j < n
    · have hc := HC.out j hlt
      have hltI : (j : Int) < (n : Int) := by omega
      go_wp2
      go_round
      case rel => exact ⟨j + 1, by omega, by go_num, by go_num⟩
      case measure => simp [intOf]; omega
    · have hjn : j = n := by omega
      subst hjn
      go_wp2
      go_ret
      exact ⟨rfl, rfl⟩

theorem heldByteS_any (w : World) (v : Value) (n : Nat) (k : Int) (h : Rd .u8 w v (marks k n)) (hk0 : 0 ≤ k) (hk1 : k ≤ 1099511627776) (hn : n ≤ 1099511627776) :
    Calls Try.prog 28 #[v, .int .i64 k] w fun e w' => e = .returned (.int .i64 (k + n)) ∧ w' = w := by
  obtain ⟨ao, cap, rfl, h1, h2, h3⟩ := h
  rw [marks_length] at *
  rcases h3 with h3 | ⟨b, o, rfl, _, hc⟩
  · have h0 : n = 0 := by have := congrArg List.length h3; rw [marks_length] at this; simpa using this
    subst h0
    refine (heldByteS_nil w ao cap k).mono ?_
    rintro e w' ⟨rfl, rfl⟩
    exact ⟨ret_int (by simp), rfl⟩
  · exact heldByteS_row w b o n cap k (fun i hi => by rw [hc i hi, marks_getD k n i hi]) hk0 hk1 hn

theorem own_zeros {w : World} {base g n cap : Nat} {k : IntKind} {e : TypeId} (h : w.ownsRow base e 1 (.slice (some ⟨g, 0, none⟩) n cap) n (madeCells #[Value.int k 0] n).toList) :
    Own k e w base (.slice (some ⟨g, 0, none⟩) n cap) (List.replicate n 0) := by
  unfold Own
  rw [toList_madeCells_one] at h
  simpa using h

set_option maxHeartbeats 400000 in
theorem toByteS_nil (w : World) (ao : Option Addr) (cap : Nat) :
    Calls Try.prog 29 #[.slice ao 0 cap] w fun e w' => ∃ v', e = .returned v' ∧ Own .u8 5 w' w.heap.size v' [] ∧ Below w.heap.size w w' := by
  obtain ⟨i0, hi, hz0, hz1, hz2⟩ := info_parts Try.infoB
  go_enter Try.func29, Try.ntmps29
  go_wp2_with (at_make; refine wpList_make_full _ rfl _ _ 29 rfl w.heap.size 5 i0 (.int .u8 0) 1 Try.underlying29 hi hz0 hz1 _ _ _ _ 0 rfl rfl rfl rfl ?b2 ?b3 ?b4 ?_)
  case b2 => rw [hz2]; omega
  case b3 => unfold maxLen; omega
  case b4 => exact Nat.le_refl _
  intro w1 hown hgrow
  have HO : Hid (Own .u8 5 w1 w.heap.size (.slice (some ⟨w.heap.size, 0, none⟩) 0 0) []) := own_zeros hown
  have HG : Hid (Below w.heap.size w w1) := (Below.refl _ _).grown hgrow (Nat.le_refl _) (by simp)
  clear hown hgrow
  go_wp2
  go_rounds 1
  go_ret
  exact ⟨_, rfl, HO.out, HG.out⟩

set_option maxHeartbeats 400000 in
theorem toByteS_row (w : World) (b o n cap : Nat) (xs : List Int) (hx : xs.length = n) (hb : b < w.heap.size) (hc : ∀ i, i < n → w.cell? ⟨b, o + i, none⟩ = some (.int .u8 (xs.getD i 0))) (hn : n ≤ 1099511627776) :
    Calls Try.prog 29 #[.slice (some ⟨b, o, none⟩) n cap] w fun e w' => ∃ v', e = .returned v' ∧ Own .u8 5 w' w.heap.size v' xs ∧ Below w.heap.size w w' := by
  obtain ⟨i0, hi, hz0, hz1, hz2⟩ := info_parts Try.infoB
  have HC : Hid (∀ i, i < n → w.cell? ⟨b, o + i, none⟩ = some (.int .u8 (xs.getD i 0))) := hc
  have HX : Hid (xs.length = n) := hx
  clear hc hx
  go_enter Try.func29, Try.ntmps29
  go_wp2_with (at_make; refine wpList_make_full _ rfl _ _ 29 rfl w.heap.size 5 i0 (.int .u8 0) 1 Try.underlying29 hi hz0 hz1 _ _ _ _ n rfl rfl rfl rfl ?b2 ?b3 ?b4 ?_)
  case b2 => rw [hz2]; omega
  case b3 => unfold maxLen; omega
  case b4 => exact Nat.le_refl _
  intro w1 hown hgrow
  have HO : Hid (Own .u8 5 w1 w.heap.size (.slice (some ⟨w.heap.size, 0, none⟩) n n) (List.replicate n 0)) := own_zeros hown
  have HG : Hid (Below w.heap.size w w1) := (Below.refl _ _).grown hgrow (Nat.le_refl _) (by simp)
  clear hown hgrow hi hz0 hz1 hz2
  go_wp2
  go_loopw [4] (fun i wr => ∃ j : Nat, j ≤ n ∧ i = .int .i64 j ∧ Own .u8 5 wr w.heap.size (.slice (some ⟨w.heap.size, 0, none⟩) n n) (mix xs (List.replicate n 0) j) ∧ Below w.heap.size w wr) (fun i _ => n - (intOf i).toNat)
  case atStart => exact ⟨0, Nat.zero_le _, rfl, by rw [mix_zero]; exact HO.out, HG.out⟩
  case round =>
    obtain ⟨j, hj, rfl, ho, hg⟩ := hrel
    by_cases hlt : j < n
    · have hrep : xs.length = (List.replicate n (0 : Int)).length := by rw [HX.out]; simp
      have ho' : wr.ownsRow w.heap.size 5 1 (.slice (some ⟨w.heap.size, 0, none⟩) n n) n ((mix xs (List.replicate n 0) j).map (Value.int .u8)) := by
        have := ho; unfold Own at this; rw [mix_length hrep, List.length_replicate] at this; exact this
      have hf := World.ownsRow.frozenAt ho' j
      have hcj : ∃ c, wr.cell? ⟨w.heap.size, j, none⟩ = some c := ⟨_, (World.ownsRow.cellAt ho' j (by omega)).trans (List.getElem?_eq_getElem (by simp [mix_length hrep]; exact hlt))⟩
      obtain ⟨c, hcj⟩ := hcj
      have hsrc : wr.cell? ⟨b, o + j, none⟩ = some (.int .u8 (xs.getD j 0)) := (hg.cell (p := ⟨b, o + j, none⟩) hb).trans (HC.out j hlt)
      have HO2 : Hid (Own .u8 5 wr w.heap.size (.slice (some ⟨w.heap.size, 0, none⟩) n n) (mix xs (List.replicate n 0) j)) := ho
      have HG2 : Hid (Below w.heap.size w wr) := hg
      have HR : Hid (xs.length = (List.replicate n (0 : Int)).length) := hrep
      clear ho ho' hg hrep HO HG
      have hltI : (j : Int) < (n : Int) := by omega
      go_wp2
      go_roundw
      case rel => exact ⟨j + 1, by omega, by go_num, Own.mixed HR.out (by simp) (by simp; exact hlt) HO2.out (by simp [List.getD]), HG2.out.setCell (Nat.le_refl _) _⟩
      case measure => simp [intOf]; omega
    · have hjn : j = n := by omega
      subst hjn
      go_wp2
      go_ret
      exact ⟨_, rfl, by rw [mix_all (by rw [HX.out]; simp) (by simp)] at ho; exact ho, hg⟩

theorem toByteS_any (w : World) (v : Value) (xs : List Int) (h : Rd .u8 w v xs) (hn : xs.length ≤ 1099511627776) :
    Calls Try.prog 29 #[v] w fun e w' => ∃ v', e = .returned v' ∧ Own .u8 5 w' w.heap.size v' xs ∧ Below w.heap.size w w' := by
  obtain ⟨ao, cap, rfl, h1, h2, h3⟩ := h
  rcases h3 with rfl | ⟨b, o, rfl, hb, hc⟩
  · exact toByteS_nil w ao cap
  · exact toByteS_row w b o xs.length cap xs rfl hb hc hn

end Go.Proofs.Ytoljmlhnbmeloaa

namespace Go.Proofs.Ytoljmlhnbmeloaa

/-- The number whose digits, of w bits each, are the low bits of xs, the highest first. -/
def numW (w : Nat) (xs : List Int) : Nat := xs.foldl (fun a x => a * 2 ^ w + x.toNat % 2 ^ w) 0

theorem numW_nil (w : Nat) : numW w [] = 0 := rfl
theorem numW_snoc (w : Nat) (xs : List Int) (x : Int) : numW w (xs ++ [x]) = numW w xs * 2 ^ w + x.toNat % 2 ^ w := by
  simp [numW, List.foldl_append]

theorem pow_pos2 (k : Nat) : 0 < 2 ^ k := Nat.two_pow_pos k

theorem take_succ_getD (xs : List Int) (k : Nat) (h : k < xs.length) : xs.take (k + 1) = xs.take k ++ [xs.getD k 0] := by
  rw [List.take_succ_eq_append_getElem h]; simp [List.getD, h]

theorem numW_take_succ (w : Nat) (xs : List Int) (k : Nat) (h : k < xs.length) : numW w (xs.take (k + 1)) = numW w (xs.take k) * 2 ^ w + (xs.getD k 0).toNat % 2 ^ w := by
  rw [take_succ_getD xs k h, numW_snoc]

theorem numW_lt (w : Nat) (xs : List Int) : ∀ k, k ≤ xs.length → numW w (xs.take k) < 2 ^ (w * k) := by
  intro k
  induction k with
  | zero => intro _; simp [numW]
  | succ k ih =>
    intro h
    rw [numW_take_succ w xs k (by omega), Nat.mul_succ, Nat.pow_add]
    have h1 := ih (by omega)
    have h2 : (xs.getD k 0).toNat % 2 ^ w < 2 ^ w := Nat.mod_lt _ (pow_pos2 w)
    have h3 : (numW w (xs.take k) + 1) * 2 ^ w ≤ 2 ^ (w * k) * 2 ^ w := Nat.mul_le_mul_right _ h1
    rw [Nat.add_mul, Nat.one_mul] at h3
    omega

/-- The first k digits: what is left when the others are cut off. -/
theorem numW_cut (w : Nat) (xs : List Int) (k : Nat) : ∀ d, k + d ≤ xs.length → numW w (xs.take (k + d)) / 2 ^ (w * d) = numW w (xs.take k) := by
  intro d
  induction d with
  | zero => intro _; simp
  | succ d ih =>
    intro h
    rw [← Nat.add_assoc, numW_take_succ w xs (k + d) (by omega), Nat.mul_succ, Nat.add_comm (w * d) w, Nat.pow_add, ← Nat.div_div_eq_div_mul]
    have h2 : (xs.getD (k + d) 0).toNat % 2 ^ w < 2 ^ w := Nat.mod_lt _ (pow_pos2 w)
    rw [Nat.add_comm, Nat.add_mul_div_right _ _ (pow_pos2 w), Nat.div_eq_of_lt h2, Nat.zero_add]
    exact ih (by omega)

/-- Digit q, of v bits, of the bits of xs (w bits each). -/
def dig (w v : Nat) (xs : List Int) (q : Nat) : Nat := numW w xs / 2 ^ (w * xs.length - v * (q + 1)) % 2 ^ v

theorem dig_lt (w v : Nat) (xs : List Int) (q : Nat) : dig w v xs q < 2 ^ v := Nat.mod_lt _ (pow_pos2 v)

theorem dig_take (w v : Nat) (xs : List Int) (k q : Nat) (hk : k ≤ xs.length) (hq : v * (q + 1) ≤ w * k) :
    dig w v xs q = numW w (xs.take k) / 2 ^ (w * k - v * (q + 1)) % 2 ^ v := by
  unfold dig
  have e1 : w * xs.length - v * (q + 1) = w * (xs.length - k) + (w * k - v * (q + 1)) := by
    rw [Nat.mul_sub]
    have : w * k ≤ w * xs.length := Nat.mul_le_mul_left _ hk
    omega
  rw [e1, Nat.pow_add, ← Nat.div_div_eq_div_mul]
  have e2 := numW_cut w xs k (xs.length - k) (by omega)
  rw [show k + (xs.length - k) = xs.length by omega, List.take_length] at e2
  rw [e2]

/-- A register that holds the low bits gives the digit. -/
theorem reg_dig (r N a v : Nat) (h : r % 2 ^ (a + v) = N % 2 ^ (a + v)) : r / 2 ^ a % 2 ^ v = N / 2 ^ a % 2 ^ v := by
  have key : ∀ x, x / 2 ^ a % 2 ^ v = x % 2 ^ (a + v) / 2 ^ a := by
    intro x
    rw [Nat.pow_add, Nat.mod_mul_right_div_self]
  rw [key, key, h]

theorem mod_low {r N a b : Nat} (hab : a ≤ b) (h : r % 2 ^ b = N % 2 ^ b) : r % 2 ^ a = N % 2 ^ a := by
  have hd : 2 ^ a ∣ 2 ^ b := Nat.pow_dvd_pow 2 hab
  rw [← Nat.mod_mod_of_dvd r hd, h, Nat.mod_mod_of_dvd N hd]

/-- A register of K bits that takes in one digit more. -/
theorem reg_step (r N x a w K : Nat) (hK : a + w ≤ K) (h : r % 2 ^ a = N % 2 ^ a) :
    (r * 2 ^ w % 2 ^ K + x) % 2 ^ (a + w) = (N * 2 ^ w + x) % 2 ^ (a + w) := by
  have hd : 2 ^ (a + w) ∣ 2 ^ K := Nat.pow_dvd_pow 2 hK
  have e : r * 2 ^ w % 2 ^ (a + w) = N * 2 ^ w % 2 ^ (a + w) := by
    rw [Nat.pow_add, Nat.mul_mod_mul_right, Nat.mul_mod_mul_right, h]
  rw [Nat.add_mod, Nat.mod_mod_of_dvd _ hd, e, ← Nat.add_mod]

/-- Pack's answer. -/
def pk (xs : List Int) : List Int :=
  (List.range (8 * xs.length / 7)).map (fun q => ((128 + dig 8 7 xs q : Nat) : Int)) ++
    (if 8 * xs.length % 7 = 0 then [] else [((128 + numW 8 xs % 2 ^ (8 * xs.length % 7) * 2 ^ (7 - 8 * xs.length % 7) : Nat) : Int)])

theorem pk_length (xs : List Int) : (pk xs).length = (8 * xs.length + 6) / 7 := by
  unfold pk
  by_cases h : 8 * xs.length % 7 = 0
  · simp [h]; omega
  · simp [h]; omega

/-- joinGroups' answer. -/
def up (ps : List Int) : List Int := (List.range (7 * ps.length / 8)).map (fun q => ((dig 7 8 ps q : Nat) : Int))

theorem up_length (ps : List Int) : (up ps).length = 7 * ps.length / 8 := by simp [up]

theorem range_snoc (f : Nat → Int) (q : Nat) : (List.range (q + 1)).map f = (List.range q).map f ++ [f q] := by
  rw [List.range_succ, List.map_append]; rfl

theorem shift_lt {N a : Nat} (h : N < 2 ^ a) (v : Nat) (hav : a ≤ v) : N * 2 ^ (v - a) < 2 ^ v := by
  have : 2 ^ v = 2 ^ a * 2 ^ (v - a) := by rw [← Nat.pow_add]; congr 1; omega
  rw [this]
  exact (Nat.mul_lt_mul_right (pow_pos2 _)).2 h

theorem pk_range (xs : List Int) : ∀ x ∈ pk xs, 128 ≤ x ∧ x < 256 := by
  intro x hx
  unfold pk at hx
  rw [List.mem_append] at hx
  rcases hx with hx | hx
  · obtain ⟨q, _, rfl⟩ := List.mem_map.1 hx
    have := dig_lt 8 7 xs q
    simp only [Nat.reducePow] at this
    omega
  · by_cases h : 8 * xs.length % 7 = 0
    · simp [h] at hx
    · simp only [h, if_false, List.mem_singleton] at hx
      have h1 : numW 8 xs % 2 ^ (8 * xs.length % 7) < 2 ^ (8 * xs.length % 7) := Nat.mod_lt _ (pow_pos2 _)
      have h2 := shift_lt h1 7 (by omega)
      simp only [Nat.reducePow] at h2
      omega

theorem up_range (ps : List Int) : ∀ x ∈ up ps, 0 ≤ x ∧ x < 256 := by
  intro x hx
  unfold up at hx
  obtain ⟨q, _, rfl⟩ := List.mem_map.1 hx
  have := dig_lt 7 8 ps q
  simp only [Nat.reducePow] at this
  omega

end Go.Proofs.Ytoljmlhnbmeloaa

namespace Go.Proofs.Ytoljmlhnbmeloaa
open Go.RowKit

theorem u16_low7 (r : Int) (h0 : 0 ≤ r) (h1 : r < 65536) : bits .and .u16 r 127 = r % 128 := by
  rw [u16_and r 127 h0 h1 (by omega) (by omega)]
  rw [show ((127 : Int).toNat) = 127 from rfl, nat_mask7]
  omega

theorem u8_mark (x : Int) (h0 : 0 ≤ x) (h1 : x < 128) : bits .or .u8 128 x = 128 + x := by
  rw [u8_or 128 x (by omega) (by omega) h0 (by omega)]
  rw [show ((128 : Int).toNat) = 128 from rfl, nat_join 7 128 x.toNat (by decide) (by simp only [Nat.reducePow]; omega)]
  omega


def Byt (xs : List Int) : Prop := ∀ x ∈ xs, 0 ≤ x ∧ x < 256
theorem byt_at {xs : List Int} (h : Byt xs) (k : Nat) : ∃ x : Nat, x < 256 ∧ xs.getD k 0 = (x : Int) := by
  by_cases hk : k < xs.length
  · have := h xs[k] (List.getElem_mem hk)
    exact ⟨xs[k].toNat, by omega, by simp only [List.getD, List.getElem?_eq_getElem hk, Option.getD_some]; omega⟩
  · exact ⟨0, by omega, by simp [List.getD, show xs.length ≤ k by omega]⟩

theorem reg_in (R x A N : Nat) (hx : x < 256) (hA : A ≤ 6) (h : R % 2 ^ A = N % 2 ^ A) :
    ∃ R' : Nat, R' < 65536 ∧ bits .or .u16 (IntKind.u16.wrap ((R : Int) * 256)) (x : Int) = (R' : Int) ∧ R' % 2 ^ (A + 8) = (N * 256 + x) % 2 ^ (A + 8) := by
  have hs := reg_step R N x A 8 16 (by omega) h
  simp only [show (2 : Nat) ^ 8 = 256 from rfl, show (2 : Nat) ^ 16 = 65536 from rfl] at hs
  refine ⟨R * 256 % 65536 + x, by omega, ?_, hs⟩
  have e : IntKind.u16.wrap ((R : Int) * 256) = ((R * 256 % 65536 : Nat) : Int) := by rw [IntKind.wrap_u16]; omega
  rw [e, u16_or_nat _ _ (by omega) (by omega), nat_join 8 (R * 256 % 65536) x (by simp only [Nat.reducePow]; omega) (by simpa using hx)]

theorem shr_nonneg (R A : Nat) : (0 : Int) ≤ (R : Int) / 2 ^ A := Int.ediv_nonneg (by omega) (by exact_mod_cast Nat.zero_le _)
theorem shr_cast (R A : Nat) : (R : Int) / 2 ^ A = ((R / 2 ^ A : Nat) : Int) := by simp
theorem shr_lt (R A : Nat) (h : R < 65536) : (R : Int) / 2 ^ A < 65536 := by
  rw [shr_cast]
  have := Nat.div_le_self R (2 ^ A)
  omega

theorem reg_out (xs : List Int) (R A k q : Nat) (hk : k ≤ xs.length) (hq : 7 * q + (A + 7) = 8 * k) (h : R % 2 ^ (A + 7) = numW 8 (xs.take k) % 2 ^ (A + 7)) :
    (128 + (R : Int) / 2 ^ A % 128) = ((128 + dig 8 7 xs q : Nat) : Int) := by
  rw [shr_cast, dig_take 8 7 xs k q hk (by omega), show 8 * k - 7 * (q + 1) = A by omega, ← reg_dig R _ A 7 h]
  simp only [Nat.reducePow]
  omega

theorem wrap16 (x : Int) : 0 ≤ IntKind.u16.wrap x ∧ IntKind.u16.wrap x < 65536 := by rw [IntKind.wrap_u16]; omega
theorem reg_last (R N A : Nat) (hA : A ≤ 7) (h : R % 2 ^ A = N % 2 ^ A) : (128 + IntKind.u16.wrap ((R : Int) * 2 ^ (7 - A)) % 128) = ((128 + N % 2 ^ A * 2 ^ (7 - A) : Nat) : Int) := by
  have e : (R : Int) * 2 ^ (7 - A) = ((R * 2 ^ (7 - A) : Nat) : Int) := by simp
  rw [e, IntKind.wrap_u16]
  have e2 : R * 2 ^ (7 - A) % 128 = N % 2 ^ A * 2 ^ (7 - A) := by
    have e3 : 128 = 2 ^ A * 2 ^ (7 - A) := by rw [← Nat.pow_add, show A + (7 - A) = 7 by omega]
    conv => lhs; rw [e3]
    rw [Nat.mul_mod_mul_right, h]
  rw [← e2]
  generalize R * 2 ^ (7 - A) = z
  omega

def pkE (xs : List Int) (q : Nat) : List Int := (List.range q).map (fun j => ((128 + dig 8 7 xs j : Nat) : Int))

theorem pkE_len (xs : List Int) (q : Nat) : (pkE xs q).length = q := by simp [pkE]
theorem pk_even {xs : List Int} {q : Nat} (h : 7 * q + 0 = 8 * xs.length) : pk xs = pkE xs q := by
  unfold pk pkE
  rw [show 8 * xs.length / 7 = q by omega, if_pos (by omega), List.append_nil]
theorem pk_odd {xs : List Int} {q A : Nat} (h : 7 * q + A = 8 * xs.length) (h0 : 0 < A) (h6 : A ≤ 6) : pk xs = pkE xs q ++ [((128 + numW 8 xs % 2 ^ A * 2 ^ (7 - A) : Nat) : Int)] := by
  unfold pk pkE
  rw [show 8 * xs.length / 7 = q by omega, show 8 * xs.length % 7 = A by omega, if_neg (by omega)]
theorem own_of {k : IntKind} {e : TypeId} {w : World} {base q : Nat} {v : Value} {ys xs : List Int} (hl : ys.length = q) (he : xs = ys) (h : w.ownsRow base e 1 v q (ys.map (Value.int k))) : Own k e w base v xs := by
  subst he; unfold Own; rw [hl]; exact h


end Go.Proofs.Ytoljmlhnbmeloaa

namespace Go.Proofs.Ytoljmlhnbmeloaa
open Go.RowKit

/-- A source of drawn numbers: its bytes, how many are used, the mixed number and the size. -/
structure Sr where
  code : List Int
  used : Nat
  mix : Nat
  size : Nat
/-- A drawn number below n, and the source behind it. -/
def Sr.next (s : Sr) (n : Nat) : Nat × Sr :=
  if n ≤ 1 then (0, s)
  else if s.used < s.code.length ∧ n ≤ 256 then ((s.code.getD s.used 0).toNat % n, { s with used := s.used + 1 })
  else ((s.mix * 1103 + 12347) % 1000003 / 3 % n, { s with mix := (s.mix * 1103 + 12347) % 1000003 })
theorem Sr.next_lt (s : Sr) (n : Nat) (h : 1 ≤ n) : (s.next n).1 < n := by
  unfold Sr.next
  split
  · exact h
  · split <;> exact Nat.mod_lt _ (by omega)

/-- Only block k has turned. -/
def Tch (k : Nat) (a b : World) : Prop := Below 0 a b ∧ ∀ j, j ≠ k → j < a.heap.size → b.heap[j]? = a.heap[j]?
theorem Tch.refl (k : Nat) (a : World) : Tch k a a := ⟨Below.refl _ _, fun _ _ _ => rfl⟩
theorem Tch.trans {k : Nat} {a b c : World} (h : Tch k a b) (h' : Tch k b c) : Tch k a c := ⟨h.1.trans h'.1, fun j hj hl => (h'.2 j hj (Nat.lt_of_lt_of_le hl h.1.size)).trans (h.2 j hj hl)⟩
theorem Tch.set (k i : Nat) (a : World) (q : Nat) (v : Value) : Tch k a ((a.drewN q).setCell ⟨k, i, none⟩ v) := ⟨((below_drewN' a q).mono (Nat.zero_le _)).setCell (Nat.zero_le _) _, fun _ hj _ => Below.heap_setCell (a.drewN q) _ _ _ hj⟩
theorem Tch.size {k : Nat} {a b : World} (h : Tch k a b) : a.heap.size ≤ b.heap.size := h.1.size
theorem Tch.below {k B : Nat} {a b : World} (h : Tch k a b) (hk : B ≤ k) (hB : B ≤ a.heap.size) : Below B a b := ⟨h.1.os, h.1.tape, h.1.output, h.1.size, fun j hj => h.2 j (by omega) (by omega)⟩
theorem Tch.of {k : Nat} {a b : World} (h : Below a.heap.size a b) : Tch k a b := ⟨h.mono (Nat.zero_le _), fun j _ hl => h.block j hl⟩
theorem Tch.then {k : Nat} {a b c : World} (h : Tch k a b) (h' : Below a.heap.size b c) : Tch k a c := ⟨h.1.trans (h'.mono (Nat.zero_le _)), fun j hj hl => (h'.block j hl).trans (h.2 j hj hl)⟩

/-- A source in the box k; it and its bytes lie below B. -/
structure SRX (W : World) (k B : Nat) (s : Sr) : Prop where
  kB : k < B
  lt : B ≤ W.heap.size
  fr : ∀ j, W.frozen? ⟨k, j, none⟩ = false
  row : ∃ ca cc, W.cell? ⟨k, 0, none⟩ = some (.slice ca s.code.length cc) ∧ (s.code = [] ∨ ∃ g, ca = some ⟨g, 0, none⟩ ∧ g ≠ k ∧ g < B ∧ ∀ i, i < s.code.length → W.cell? ⟨g, i, none⟩ = some (.int .u8 (s.code.getD i 0)))
  c1 : W.cell? ⟨k, 1, none⟩ = some (.int .i64 (s.used : Int))
  c2 : W.cell? ⟨k, 2, none⟩ = some (.int .i64 (s.mix : Int))
  c3 : W.cell? ⟨k, 3, none⟩ = some (.int .i64 (s.size : Int))
  mx : s.mix < 1000003
  len : s.code.length ≤ 4000
  us : s.used ≤ 4000
  byt : Byt s.code
  sz : 1 ≤ s.size ∧ s.size ≤ 7
theorem SRX.keep {W W' : World} {k B : Nat} {s : Sr} (h : SRX W k B s) (hb : Below B W W') : SRX W' k B s := by
  have hk := h.kB
  have e : ∀ i, W'.cell? ⟨k, i, none⟩ = W.cell? ⟨k, i, none⟩ := fun i => hb.cell (p := ⟨k, i, none⟩) hk
  obtain ⟨ca, cc, c0, hrow⟩ := h.row
  refine ⟨hk, Nat.le_trans h.lt hb.size, fun j => (World.frozen?_of_block (w := W) (hb.block k hk)).trans (h.fr j), ⟨ca, cc, (e 0).trans c0, ?_⟩, (e 1).trans h.c1, (e 2).trans h.c2, (e 3).trans h.c3, h.mx, h.len, h.us, h.byt, h.sz⟩
  rcases hrow with h0 | ⟨g, rfl, hgk, hgB, hx⟩
  · exact .inl h0
  · exact .inr ⟨g, rfl, hgk, hgB, fun i hi => (hb.cell (p := ⟨g, i, none⟩) hgB).trans (hx i hi)⟩
theorem SRX.mono {W : World} {k B B' : Nat} {s : Sr} (h : SRX W k B s) (hB : B ≤ B') (hl : B' ≤ W.heap.size) : SRX W k B' s := by
  obtain ⟨ca, cc, c0, hrow⟩ := h.row
  refine ⟨Nat.lt_of_lt_of_le h.kB hB, hl, h.fr, ⟨ca, cc, c0, ?_⟩, h.c1, h.c2, h.c3, h.mx, h.len, h.us, h.byt, h.sz⟩
  rcases hrow with h0 | ⟨g, rfl, hgk, hgB, hx⟩
  · exact .inl h0
  · exact .inr ⟨g, rfl, hgk, Nat.lt_of_lt_of_le hgB hB, hx⟩
theorem SRX.put1 {W : World} {k B q a : Nat} {s : Sr} (h : SRX W k B s) (ha : a ≤ 4000) : SRX ((W.drewN q).setCell ⟨k, 1, none⟩ (.int .i64 (a : Int))) k B { s with used := a } := by
  have e : ∀ (p : Addr), p ≠ ⟨k, 1, none⟩ → ((W.drewN q).setCell ⟨k, 1, none⟩ (.int .i64 (a : Int))).cell? p = W.cell? p := fun p hp => World.cell?_setCell_other _ _ _ _ (fun h => hp (by first | exact h | exact h.symm))
  obtain ⟨ca, cc, c0, hrow⟩ := h.row
  refine ⟨h.kB, by simpa using h.lt, fun j => by rw [World.frozen?_setCell]; exact h.fr j, ⟨ca, cc, (e _ (by simp)).trans c0, ?_⟩, World.cell?_setCell_same _ _ _ h.c1, (e _ (by simp)).trans h.c2, (e _ (by simp)).trans h.c3, h.mx, h.len, ha, h.byt, h.sz⟩
  rcases hrow with h0 | ⟨g, rfl, hgk, hgB, hx⟩
  · exact .inl h0
  · exact .inr ⟨g, rfl, hgk, hgB, fun i hi => (e _ (by intro h; injection h with h; exact hgk h)).trans (hx i hi)⟩
theorem SRX.put2 {W : World} {k B q m : Nat} {s : Sr} (h : SRX W k B s) (hm : m < 1000003) : SRX ((W.drewN q).setCell ⟨k, 2, none⟩ (.int .i64 (m : Int))) k B { s with mix := m } := by
  have e : ∀ (p : Addr), p ≠ ⟨k, 2, none⟩ → ((W.drewN q).setCell ⟨k, 2, none⟩ (.int .i64 (m : Int))).cell? p = W.cell? p := fun p hp => World.cell?_setCell_other _ _ _ _ (fun h => hp (by first | exact h | exact h.symm))
  obtain ⟨ca, cc, c0, hrow⟩ := h.row
  refine ⟨h.kB, by simpa using h.lt, fun j => by rw [World.frozen?_setCell]; exact h.fr j, ⟨ca, cc, (e _ (by simp)).trans c0, ?_⟩, (e _ (by simp)).trans h.c1, World.cell?_setCell_same _ _ _ h.c2, (e _ (by simp)).trans h.c3, hm, h.len, h.us, h.byt, h.sz⟩
  rcases hrow with h0 | ⟨g, rfl, hgk, hgB, hx⟩
  · exact .inl h0
  · exact .inr ⟨g, rfl, hgk, hgB, fun i hi => (e _ (by intro h; injection h with h; exact hgk h)).trans (hx i hi)⟩

set_option maxHeartbeats 1000000 in
set_option maxRecDepth 100000 in
theorem next_x (W : World) (k B n : Nat) (s : Sr) (h : SRX W k B s) (hn1 : n ≤ 1000000) :
    Calls Try.prog 40 #[.pointer (some ⟨k, 0, none⟩), .int .i64 (n : Int)] W fun e w' => e = .returned (.int .i64 ((s.next n).1 : Int)) ∧ SRX w' k B (s.next n).2 ∧ Tch k W w' := by
  by_cases h0 : n ≤ 1
  · have hn0 : (n : Int) ≤ 1 := by omega
    have HN : Hid (s.next n = (0, s)) := by show _ = _; unfold Sr.next; rw [if_pos h0]
    have HS : Hid (SRX W k B s) := h
    clear h
    go_enter Try.func40, Try.ntmps40
    go_wp2
    go_ret
    rw [HN.out]
    exact ⟨rfl, HS.out, Tch.refl _ _⟩
  have HS : Hid (SRX W k B s) := h
  obtain ⟨ca, cc, c0, hrow⟩ := h.row
  have c1 := h.c1
  have c2 := h.c2
  have hf1 := h.fr 1
  have hf2 := h.fr 2
  have hmx := h.mx
  have hN := h.len
  have hat := h.us
  have hn0 : ¬ (n : Int) ≤ 1 := by omega
  have hz : ((n : Int) == 0) = false := beq_eq_false_iff_ne.2 (by omega)
  by_cases hc : s.used < s.code.length ∧ n ≤ 256
  · have HN : Hid (s.next n = ((s.code.getD s.used 0).toNat % n, { s with used := s.used + 1 })) := by show _ = _; unfold Sr.next; rw [if_neg h0, if_pos hc]
    obtain ⟨hc1, hc2⟩ := hc
    rcases hrow with h00 | ⟨g, rfl, hgk, hgB, hx⟩
    · rw [h00] at hc1; simp at hc1
    obtain ⟨x, hx8, hxe⟩ := byt_at h.byt s.used
    have cx := hx s.used hc1
    rw [hxe] at cx
    have HX : Hid ((s.code.getD s.used 0).toNat = x) := by show _ = _; omega
    generalize hA : s.used = at_ at *
    generalize hL : s.code.length = N at *
    have HA : Hid (s.used = at_) := hA
    clear hA hL h hx hxe
    have hI1 : (at_ : Int) < (N : Int) := by omega
    have hI2 : (n : Int) ≤ 256 := by omega
    go_enter Try.func40, Try.ntmps40
    go_wp2
    go_quiet (fail)
    go_wp2
    go_quiet (fail)
    go_wp2
    go_ret
    rw [HN.out, HX.out]
    refine ⟨ret_int (by simp), ?_, Tch.set k 1 W _ _⟩
    have e : ((at_ : Int) + 1) = ((at_ + 1 : Nat) : Int) := by omega
    rw [e]
    exact HS.out.put1 (by omega)
  · have HN : Hid (s.next n = ((s.mix * 1103 + 12347) % 1000003 / 3 % n, { s with mix := (s.mix * 1103 + 12347) % 1000003 })) := by show _ = _; unfold Sr.next; rw [if_neg h0, if_neg hc]
    generalize hA : s.used = at_ at *
    generalize hL : s.code.length = N at *
    generalize hM : s.mix = mx at *
    have HA : Hid (s.used = at_) := hA
    clear hA hL hM h hrow
    have hcase : (¬ (at_ : Int) < (N : Int)) ∨ ((at_ : Int) < (N : Int) ∧ ¬ (n : Int) ≤ 256) := by omega
    clear hc
    rcases hcase with h1 | ⟨h1, h2⟩
    · have h1n : N ≤ at_ := by omega
      have h1m : ¬ at_ < N := by omega
      have h1e : (N : Int) ≤ (at_ : Int) := by omega
      go_enter Try.func40, Try.ntmps40
      go_wp2
      go_quiet (fail)
      go_wp2
      go_ret
      rw [HN.out]
      refine ⟨ret_int (by rw [Int.natCast_emod, show ((mx : Int) * 1103 + 12347) % 1000003 / 3 = (((mx * 1103 + 12347) % 1000003 / 3 : Nat) : Int) by omega]), ?_, Tch.set k 2 W _ _⟩
      have e : ((mx : Int) * 1103 + 12347) % 1000003 = (((mx * 1103 + 12347) % 1000003 : Nat) : Int) := by omega
      rw [e, ← HA.out]
      exact HS.out.put2 (Nat.mod_lt _ (by omega))
    · have h1n : at_ < N := by omega
      have h2n : 256 < n := by omega
      have h2m : ¬ n ≤ 256 := by omega
      go_enter Try.func40, Try.ntmps40
      go_wp2
      go_quiet (fail)
      go_wp2
      go_ret
      rw [HN.out]
      refine ⟨ret_int (by rw [Int.natCast_emod, show ((mx : Int) * 1103 + 12347) % 1000003 / 3 = (((mx * 1103 + 12347) % 1000003 / 3 : Nat) : Int) by omega]), ?_, Tch.set k 2 W _ _⟩
      have e : ((mx : Int) * 1103 + 12347) % 1000003 = (((mx * 1103 + 12347) % 1000003 : Nat) : Int) := by omega
      rw [e, ← HA.out]
      exact HS.out.put2 (Nat.mod_lt _ (by omega))

end Go.Proofs.Ytoljmlhnbmeloaa

namespace Go.Proofs.Ytoljmlhnbmeloaa
open Go.RowKit

theorem step_append {P : Program} {ops : Array Oper} {o : Oper} {a : Act} {w : World} {K : Act → World → Prop} {Q : Exit → Act → World → Prop} {E : Prop}
    (hg : o.guard = none) (s x : Operand) (t : TypeId) (hop : o.op = Op.call { callee := Callee.builtin Builtin.append, args := #[s, x], argTypes := #[t, t] })
    (base : Nat) (e : TypeId) (i : TypeInfo) (z : Value) (size bytes : Nat) (h1 : P.underlying t = some (.slice e)) (h2 : P.info? e = some i) (h3 : i.zero = some z) (h4 : i.size = size) (h5 : i.bytes = bytes) (h6 : z.cells.size = size) (h7 : 0 < size)
    (v : Value) (n : Nat) (xs : List Value) (hs : a.eval s = v) (hown : w.ownsRow base e size v n xs) (ad : Addr) (m c : Nat) (news : List Value) (hx : a.eval x = .slice (some ad) m c) (hn : news.length = m * size)
    (hc : ∀ j u, news[j]? = some u → w.cell? (ad.add j) = some u) (h1c : ∀ u ∈ news, u.oneCell' = true) (b1 : n + m ≤ maxLen) (b2 : (n + m) * bytes ≤ 140737488355328) (hb : base ≤ w.heap.size)
    (hK : ∀ v' w', w'.ownsRow base e size v' (n + m) (xs ++ news) → w.grownBy w' v.ownBlock → K (a.put o.dst v') w') :
    if Region.wanted o (yielded ops a.tmps) = true then Oper.wp P o a w K Q else E := by
  have hw : Region.wanted o (yielded ops a.tmps) = true := by simp [Region.wanted, hg]
  rw [if_pos hw]
  obtain ⟨v', w', hrun, r1, r2, _⟩ := run_append_own (P := P) w base t o.type e i z size bytes h1 h2 h3 h4 h5 h6 h7 v n xs hown ad m c news hn hc h1c b1 b2 hb
  unfold Oper.wp
  simp [execOp, hop, resolve, invoke, builtin, hs, hx, hrun, Result.andThen]
  exact hK v' w' r1 r2

end Go.Proofs.Ytoljmlhnbmeloaa

namespace Go.Proofs.Ytoljmlhnbmeloaa
open Go.RowKit

theorem Tch_grown (w : World) (k i : Nat) (v : Value) : w.grownBy (w.setCell ⟨k, i, none⟩ v) (some k) := grownBy_set w w k i v (World.grownBy.refl _ _)

theorem rowX3 {w : World} {lo n : Nat} {e : TypeId} {v : Value} {us : List Value} (h : w.ownsRow lo e 1 v n us) : ∃ a c, v = .slice a n c ∧ n ≤ c ∧ c ≤ maxLen := by
  rcases h.2 with ⟨rfl, rfl⟩ | ⟨g, cap, cur, rfl, -, -, h1, h2, -⟩
  · exact ⟨none, 0, rfl, Nat.le_refl _, Nat.zero_le _⟩
  · exact ⟨_, _, rfl, h1, h2⟩

theorem rowXs {w : World} {lo n : Nat} {e : TypeId} {v : Value} {us : List Value} (h : w.ownsRow lo e 1 v n us) (h0 : 0 < n) : ∃ g c, v = .slice (some ⟨g, 0, none⟩) n c := by
  rcases h.2 with ⟨rfl, h1⟩ | ⟨g, cap, cur, rfl, -⟩
  · omega
  · exact ⟨g, cap, rfl⟩
theorem rowXc {w : World} {lo i g c j x : Nat} {v : Value} {ys : List Int} (h : w.ownsRow lo 5 1 v ys.length (ys.map (Value.int .u8))) (hv : v = .slice (some ⟨g, 0, none⟩) i c) (hl : ys.length = i) (hj : j < i) (hx : ys.getD j 0 = (x : Int)) : w.cell? ⟨g, j, none⟩ = some (.int .u8 (x : Int)) := by
  subst hv
  rw [hl] at h
  rw [World.ownsRow.cellAt h j (by omega), ← hx]
  simp [List.getD, hl, hj]

/-- The source's box while it is made. -/
def SBX (w wr : World) (v : Value) (xs : List Int) (mx : Int) : Prop :=
  w.heap.size < wr.heap.size ∧ (∀ j, wr.frozen? ⟨w.heap.size, j, none⟩ = false) ∧ wr.cell? ⟨w.heap.size, 0, none⟩ = some v ∧ wr.cell? ⟨w.heap.size, 1, none⟩ = some (.int .i64 0) ∧ wr.cell? ⟨w.heap.size, 2, none⟩ = some (.int .i64 mx) ∧ wr.cell? ⟨w.heap.size, 3, none⟩ = some (.int .i64 0) ∧
    wr.ownsRow (w.heap.size + 1) 5 1 v xs.length (xs.map (Value.int .u8)) ∧ Below w.heap.size w wr

theorem SBX.push {w wr w3 : World} {v v3 : Value} {ys : List Int} {x : Int} {mx : Int} (h : SBX w wr v ys mx) (hb : Below (w.heap.size + 1) wr w3) (ho : w3.ownsRow (w.heap.size + 1) 5 1 v3 (ys.length + 1) (ys.map (Value.int .u8) ++ [.int .u8 x])) : SBX w (w3.setCell ⟨w.heap.size, 0, none⟩ v3) v3 (ys ++ [x]) mx := by
  obtain ⟨sz, fr, c0, c1, c2, c3, ow, bl⟩ := h
  have e : ∀ i, i ≠ 0 → (w3.setCell ⟨w.heap.size, 0, none⟩ v3).cell? ⟨w.heap.size, i, none⟩ = wr.cell? ⟨w.heap.size, i, none⟩ := fun i hi => by
    rw [World.cell?_setCell_other _ _ _ _ (by intro e; injection e with _ e; omega)]
    exact hb.cell (p := ⟨w.heap.size, i, none⟩) (Nat.lt_succ_self _)
  have k0 : w3.cell? ⟨w.heap.size, 0, none⟩ = some v := (hb.cell (p := ⟨w.heap.size, 0, none⟩) (Nat.lt_succ_self _)).trans c0
  refine ⟨by have := hb.size; simp; omega, fun j => ?_, World.cell?_setCell_same _ _ _ k0, (e 1 (by omega)).trans c1, (e 2 (by omega)).trans c2, (e 3 (by omega)).trans c3, ?_, (bl.trans (hb.mono (by omega))).setCell (Nat.le_refl _) _⟩
  · rw [World.frozen?_setCell]; exact (hb.frozen (p := ⟨w.heap.size, j, none⟩) (Nat.lt_succ_self _)).trans (fr j)
  · rw [List.length_append, List.map_append]
    refine World.ownsRow.kept ho (row := some w.heap.size) (Tch_grown _ _ _ _) ?_
    cases hv : v3.ownBlock with
    | none => exact .inl rfl
    | some g => exact .inr (fun e => by have := (World.ownsRow.lt ho g hv).1; injection e with e; omega)

theorem SBX.mix {w wr : World} {v : Value} {ys : List Int} {mx : Int} (h : SBX w wr v ys mx) (q : Nat) (mx' : Int) : SBX w ((wr.drewN q).setCell ⟨w.heap.size, 2, none⟩ (.int .i64 mx')) v ys mx' := by
  obtain ⟨sz, fr, c0, c1, c2, c3, ow, bl⟩ := h
  have e : ∀ i, i ≠ 2 → ((wr.drewN q).setCell ⟨w.heap.size, 2, none⟩ (.int .i64 mx')).cell? ⟨w.heap.size, i, none⟩ = wr.cell? ⟨w.heap.size, i, none⟩ := fun i hi => World.cell?_setCell_other _ _ _ _ (by intro e; injection e with _ e; omega)
  refine ⟨by show _ < (World.setCell _ _ _).heap.size; simpa using sz, fun j => ?_, (e 0 (by omega)).trans c0, (e 1 (by omega)).trans c1, World.cell?_setCell_same _ _ _ c2, (e 3 (by omega)).trans c3, ?_, (bl.trans ((below_drewN' wr q).mono (by omega))).setCell (Nat.le_refl _) _⟩
  · rw [World.frozen?_setCell]; exact fr j
  · refine World.ownsRow.kept (w := wr.drewN q) ow (row := some w.heap.size) (Tch_grown _ _ _ _) ?_
    cases hv : v.ownBlock with
    | none => exact .inl rfl
    | some g => exact .inr (fun e => by have := (World.ownsRow.lt ow g hv).1; injection e with e; omega)

theorem SBX.drew {w wr : World} {v : Value} {ys : List Int} {mx : Int} (h : SBX w wr v ys mx) : SBX w wr.drew v ys mx := ⟨h.1, h.2.1, h.2.2.1, h.2.2.2.1, h.2.2.2.2.1, h.2.2.2.2.2.1, h.2.2.2.2.2.2.1, h.2.2.2.2.2.2.2.drew⟩

/-- The mixed number behind some bytes. -/
def mixR (m : Nat) (ys : List Int) : Nat := ys.foldl (fun m x => (m * 257 + x.toNat + 1) % 1000003) m
theorem mixR_succ (m : Nat) (ys : List Int) (j x : Nat) (h : j < ys.length) (hx : ys.getD j 0 = (x : Int)) : mixR m (ys.take (j + 1)) = (mixR m (ys.take j) * 257 + x + 1) % 1000003 := by
  unfold mixR
  rw [List.take_succ_eq_append_getElem h, List.foldl_append]
  simp only [List.getD, List.getElem?_eq_getElem h, Option.getD_some] at hx
  simp [hx]
/-- The source of some bytes. -/
def srcOf (xs : List Int) : Sr := ⟨xs.take 4000, 0, mixR (xs.length % 1000 + 53) (xs.take 4000), min 7 (1 + (xs.take 4000).length / 50)⟩
theorem SBX.src {w wr : World} {v : Value} {ys : List Int} {m z : Nat} (h : SBX w wr v ys (m : Int)) (h1 : m < 1000003) (hl : ys.length ≤ 4000) (hby : Byt ys) (hz : 1 ≤ z ∧ z ≤ 7) : ∀ w2, (w2 = wr.setCell ⟨w.heap.size, 3, none⟩ (.int .i64 (z : Int)) ∨ ∃ u, w2 = (wr.setCell ⟨w.heap.size, 3, none⟩ u).setCell ⟨w.heap.size, 3, none⟩ (.int .i64 (z : Int))) → SRX w2 w.heap.size wr.heap.size ⟨ys, 0, m, z⟩ ∧ Below w.heap.size w w2 := by
  obtain ⟨sz, fr, c0, c1, c2, c3, ow, bl⟩ := h
  intro w2 hw2
  have e : ∀ (p : Addr), p ≠ ⟨w.heap.size, 3, none⟩ → w2.cell? p = wr.cell? p := by
    intro p hp
    rcases hw2 with rfl | ⟨u, rfl⟩
    · exact World.cell?_setCell_other _ _ _ _ (fun h => hp (by first | exact h | exact h.symm))
    · rw [World.cell?_setCell_other _ _ _ _ (fun h => hp (by first | exact h | exact h.symm))]
      exact World.cell?_setCell_other _ _ _ _ (fun h => hp (by first | exact h | exact h.symm))
  have e3 : w2.cell? ⟨w.heap.size, 3, none⟩ = some (.int .i64 (z : Int)) := by
    rcases hw2 with rfl | ⟨u, rfl⟩
    · exact World.cell?_setCell_same _ _ _ c3
    · exact World.cell?_setCell_same _ _ _ (World.cell?_setCell_same _ _ _ c3)
  have ef : ∀ j, w2.frozen? ⟨w.heap.size, j, none⟩ = false := by
    intro j
    rcases hw2 with rfl | ⟨u, rfl⟩
    · rw [World.frozen?_setCell]; exact fr j
    · rw [World.frozen?_setCell, World.frozen?_setCell]; exact fr j
  have es : w2.heap.size = wr.heap.size := by
    rcases hw2 with rfl | ⟨u, rfl⟩ <;> simp
  have eb : Below w.heap.size w w2 := by
    rcases hw2 with rfl | ⟨u, rfl⟩
    · exact bl.setCell (Nat.le_refl _) _
    · exact (bl.setCell (Nat.le_refl _) _).setCell (Nat.le_refl _) _
  obtain ⟨va, vc, hv, -, -⟩ := rowX3 ow
  refine ⟨⟨sz, by rw [es]; exact Nat.le_refl _, ef, ⟨va, vc, by rw [e _ (by simp), c0, hv], ?_⟩, (e _ (by simp)).trans c1, (e _ (by simp)).trans c2, e3, h1, hl, Nat.zero_le _, hby, hz⟩, eb⟩
  by_cases hz : ys = []
  · exact .inl hz
  · have hp : 0 < ys.length := List.length_pos_iff.2 hz
    obtain ⟨g, c, hv2⟩ := rowXs ow hp
    have hva : va = some ⟨g, 0, none⟩ := by rw [hv] at hv2; simp only [Value.slice.injEq] at hv2; exact hv2.1
    have hg : w.heap.size + 1 ≤ g := (World.ownsRow.lt ow g (by rw [hv2]; rfl)).1
    refine .inr ⟨g, hva, by omega, (World.ownsRow.lt ow g (by rw [hv2]; rfl)).2, fun i hi => ?_⟩
    obtain ⟨x, hx, hxe⟩ := byt_at hby i
    show w2.cell? _ = some (.int .u8 (ys.getD i 0))
    rw [hxe]
    exact (e _ (by intro h; injection h with h; omega)).trans (rowXc ow hv2 rfl hi hxe)

theorem mixX_ok (mx x : Nat) (h1 : mx < 1000003) (hx : x < 256) : (IntKind.i64.wrap (IntKind.i64.wrap (IntKind.i64.wrap ((mx : Int) * 257) + IntKind.i64.wrap (x : Int)) + 1)).tmod 1000003 = (((mx * 257 + x + 1) % 1000003 : Nat) : Int) := by
  have e1 : IntKind.i64.wrap ((mx : Int) * 257) = (mx : Int) * 257 := by rw [IntKind.wrap_i64]; omega
  have e2 : IntKind.i64.wrap (x : Int) = (x : Int) := by rw [IntKind.wrap_i64]; omega
  have e3 : IntKind.i64.wrap ((mx : Int) * 257 + (x : Int)) = (mx : Int) * 257 + (x : Int) := by rw [IntKind.wrap_i64]; omega
  have e4 : IntKind.i64.wrap ((mx : Int) * 257 + (x : Int) + 1) = (mx : Int) * 257 + (x : Int) + 1 := by rw [IntKind.wrap_i64]; omega
  rw [e1, e2, e3, e4, Int.tmod_eq_emod_of_nonneg (by omega)]
  omega

set_option maxHeartbeats 4000000 in
set_option maxRecDepth 100000 in
theorem sourceX_row (w : World) (b o n cap : Nat) (xs : List Int) (hx : xs.length = n) (hb : b < w.heap.size) (hc : ∀ i, i < n → w.cell? ⟨b, o + i, none⟩ = some (.int .u8 (xs.getD i 0))) (hby : Byt xs) (hn : n ≤ 1048576) :
    Calls Try.prog 38 #[.slice (some ⟨b, o, none⟩) n cap] w fun e w' => ∃ k, e = .returned (.pointer (some ⟨k, 0, none⟩)) ∧ w.heap.size ≤ k ∧ SRX w' k w'.heap.size (srcOf xs) ∧ Below w.heap.size w w' := by
  obtain ⟨i0, hi, hz0, hz1, hz2⟩ := info_parts Try.infoB
  have HC : Hid (∀ i, i < n → w.cell? ⟨b, o + i, none⟩ = some (.int .u8 (xs.getD i 0))) := hc
  have HX : Hid (xs.length = n) := hx
  have HBY : Hid (Byt xs) := hby
  clear hc hx hby
  go_enter Try.func38, Try.ntmps38
  go_wp2
  go_loopw [4] (fun vi wr => ∃ (i : Nat) (v : Value), i ≤ n ∧ i ≤ 4000 ∧ vi = .int .i64 i ∧ Hid (SBX w wr v (xs.take i) 0)) (fun i _ => n - (intOf i).toNat)
  case atStart =>
    refine ⟨0, .slice none 0 0, Nat.zero_le _, Nat.zero_le _, rfl, ?_⟩
    refine ⟨by simp, fun j => (by go_simp), (by go_simp), (by go_simp), (by go_simp), (by go_simp), ?_, (Below.refl _ _).alloc (Nat.le_refl _) _⟩
    rw [List.take_zero]; exact World.ownsRow_nil _ _ _ _
  case round =>
    obtain ⟨i, v, hi1, hi2, rfl, HSB⟩ := hrel
    by_cases hlt : i < n ∧ i < 4000
    · obtain ⟨hl1, hl2⟩ := hlt
      have hI1 : (i : Int) < (n : Int) := by omega
      have hI2 : (i : Int) < 4000 := by omega
      obtain ⟨sz, fr, c0, c1, c2, c3, ow, bl⟩ := HSB.out
      have f0 := fr 0
      obtain ⟨va, vc, rfl, -, -⟩ := rowX3 ow
      have hl : (xs.take i).length = i := by rw [List.length_take, HX.out]; omega
      rw [hl] at c0 ow
      obtain ⟨x, hx8, hxe⟩ := byt_at HBY.out i
      have cx : wr.cell? ⟨b, o + i, none⟩ = some (.int .u8 (x : Int)) := by rw [bl.cell (p := ⟨b, o + i, none⟩) hb, HC.out i hl1, hxe]
      have HOW : Hid (wr.ownsRow (w.heap.size + 1) 5 1 (.slice va i vc) i ((xs.take i).map (Value.int .u8))) := ow
      have HBL : Hid (Below w.heap.size w wr) := bl
      have hsz1 : w.heap.size + 1 ≤ wr.heap.size := sz
      have HXT : Hid (xs.take (i + 1) = xs.take i ++ [(x : Int)]) := by
        have hl' : i < xs.length := by rw [HX.out]; exact hl1
        have he := hxe
        simp only [List.getD, List.getElem?_eq_getElem hl', Option.getD_some] at he
        show _ = _
        rw [List.take_succ_eq_append_getElem hl', he]
      have HLEN : Hid ((xs.take i).length = i) := hl
      have HSB0 : Hid (SBX w wr (.slice va i vc) (xs.take i) 0) := by have h := HSB.out; rw [hl] at h; exact h
      clear fr ow bl hl hxe HSB
      generalize hL : (xs.take i).map (Value.int .u8) = L at *
      have HL : Hid ((xs.take i).map (Value.int .u8) = L) := hL
      clear hL
      go_wp2
      go_region_law (first | (refine step_append rfl (.tmp 18) (.tmp 23) 29 rfl (w.heap.size + 1) 5 i0 (.int .u8 0) 1 1 Try.underlying29 hi hz0 hz1 hz2 rfl (by decide) (.slice va i vc) i L rfl (HOW.out.alloc _) ⟨wr.heap.size, 0, none⟩ 1 1 [.int .u8 (x : Int)] rfl rfl (cell_one_new _ _ _) (by intro u hu; simp at hu; subst hu; rfl) (by unfold maxLen; omega) (by omega) (by simp; omega) ?_; intro v3 w3 ho3 hg3; have b3 : Hid (Below (w.heap.size + 1) wr w3) := Below.grown (by first | exact ((Below.refl _ _).alloc hsz1 _).drew | exact ((Below.refl _ _).drew).alloc hsz1 _) hg3 (by simp; omega) (fun q hq => (World.ownsRow.lt HOW.out q hq).1); have k0 : w3.cell? ⟨w.heap.size, 0, none⟩ = some (.slice va i vc) := (b3.out.cell (p := ⟨w.heap.size, 0, none⟩) (Nat.lt_succ_self _)).trans c0; have k1 : w3.frozen? ⟨w.heap.size, 0, none⟩ = false := (b3.out.frozen (p := ⟨w.heap.size, 0, none⟩) (Nat.lt_succ_self _)).trans f0; obtain ⟨a3, c3', hv3, -, -⟩ := rowX3 ho3; subst hv3; have HO3 : Hid (w3.ownsRow (w.heap.size + 1) 5 1 (.slice a3 (i + 1) c3') (i + 1) (L ++ [.int .u8 (x : Int)])) := ho3; clear ho3 hg3))
      all_goals
        have HSB2 : Hid (SBX w (w3.setCell ⟨w.heap.size, 0, none⟩ (.slice a3 (i + 1) c3')) (.slice a3 (i + 1) c3') (xs.take (i + 1)) 0) := by
          have hp := HSB0.out.push (x := (x : Int)) b3.out (by rw [HLEN.out, HL.out]; exact HO3.out)
          rw [← HXT.out] at hp
          exact hp
        clear k0 k1 HO3 b3
        generalize w3.setCell ⟨w.heap.size, 0, none⟩ (.slice a3 (i + 1) c3') = w4 at *
        go_wp2
        exact ⟨⟨i + 1, _, by omega, by omega, by go_num, HSB2⟩, by simp [intOf]; omega⟩
    · have hex : (¬ (i : Int) < (n : Int)) ∨ ((i : Int) < (n : Int) ∧ ¬ (i : Int) < 4000) := by omega
      clear hlt
      obtain ⟨ys, hys⟩ : ∃ ys, ys = xs.take i := ⟨_, rfl⟩
      have HSO : Hid (srcOf xs = ⟨ys, 0, mixR (n % 1000 + 53) ys, min 7 (1 + i / 50)⟩) := by
        have ht : xs.take 4000 = ys := by
          rw [hys]
          by_cases h4 : i < 4000
          · have hin : i = n := by omega
            rw [List.take_of_length_le (by rw [HX.out]; omega), List.take_of_length_le (by rw [HX.out]; omega)]
          · rw [show i = 4000 by omega]
        show _ = _
        unfold srcOf
        rw [ht, HX.out]
        congr 3
        rw [hys, List.length_take, HX.out]
        congr 1
        omega
      rw [← hys] at HSB
      have hyl : ys.length = i := by rw [hys, List.length_take, HX.out]; omega
      have HYB : Hid (Byt ys) := by rw [hys]; exact fun y hy => HBY.out y (List.mem_of_mem_take hy)
      have HYL : Hid (ys.length = i) := hyl
      clear hys hyl
      obtain ⟨sz, fr, c0, c1, c2, c3, ow, bl⟩ := HSB.out
      have f2 := fr 2
      clear fr ow bl
      rcases hex with h1 | ⟨h1, h2⟩
      all_goals
        go_wp2
        have HS1 : Hid (SBX w (wr.setCell ⟨w.heap.size, 2, none⟩ (.int .i64 ((n : Int) % 1000 + 53))) v ys ((n : Int) % 1000 + 53)) := HSB.out.mix 0 _
        have hmx : n % 1000 + 53 < 1000003 := by omega
        have hme : (n : Int) % 1000 + 53 = ((n % 1000 + 53 : Nat) : Int) := by omega
        rw [hme] at HS1
        rw [hme]
        clear hme
        generalize n % 1000 + 53 = m0 at *
        clear c0 c1 c2 c3 f2 HSB sz
        generalize wr.setCell ⟨w.heap.size, 2, none⟩ (.int .i64 (m0 : Int)) = w5 at *
        go_loopw [5] (fun vi wr => ∃ (j mx : Nat), j ≤ i ∧ vi = .int .i64 j ∧ Hid (mx = mixR m0 (ys.take j)) ∧ mx < 1000003 ∧ Hid (SBX w wr v ys (mx : Int))) (fun x _ => i - (intOf x).toNat)
        case atStart => exact ⟨0, m0, Nat.zero_le _, rfl, rfl, hmx, HS1⟩
        case round =>
          clear HS1 hmx
          obtain ⟨j, mx, hj, rfl, HM, hm1, HSJ⟩ := hrel
          obtain ⟨sz, fr, c0, c1, c2, c3, ow, bl⟩ := HSJ.out
          have f2 := fr 2
          have f3 := fr 3
          by_cases hji : j < i
          · have hjI : (j : Int) < (i : Int) := by omega
            obtain ⟨g, vc, hva⟩ := rowXs ow (by rw [HYL.out]; omega)
            rw [HYL.out] at hva
            obtain ⟨x, hx8, hxe⟩ := byt_at HYB.out j
            have cx : wr.cell? ⟨g, j, none⟩ = some (.int .u8 (x : Int)) := rowXc ow hva HYL.out hji hxe
            rw [hva] at c0
            have HM2 : Hid ((mx * 257 + x + 1) % 1000003 = mixR m0 (ys.take (j + 1))) := by
              show _ = _
              rw [mixR_succ m0 ys j x (by rw [HYL.out]; exact hji) hxe, HM.out]
            clear ow bl hxe hva fr HM
            go_wp2
            go_region_law (fail)
            all_goals
              rw [mixX_ok mx x hm1 hx8]
              have hmk : (mx * 257 + x + 1) % 1000003 < 1000003 := Nat.mod_lt _ (by omega)
              generalize (mx * 257 + x + 1) % 1000003 = m2 at *
              have HS2 : Hid (SBX w ((wr.setCell ⟨w.heap.size, 2, none⟩ (.int .i64 (m2 : Int))).drew) v ys (m2 : Int)) := (HSJ.out.mix 0 (m2 : Int)).drew
              generalize (wr.setCell ⟨w.heap.size, 2, none⟩ (.int .i64 (m2 : Int))).drew = w6 at *
              clear c0 c1 c2 c3 cx f2 f3 HSJ
              go_wp2
              exact ⟨⟨j + 1, m2, by omega, by go_num, HM2, hmk, HS2⟩, by simp [intOf]; omega⟩
          · have hjI : ¬ (j : Int) < (i : Int) := by omega
            have hji2 : j = i := by omega
            obtain ⟨va, vc, hva, -, -⟩ := rowX3 ow
            rw [HYL.out] at hva
            rw [hva] at c0
            have HMY : Hid (mx = mixR m0 ys) := by
              have := HM.out
              rw [hji2, ← HYL.out, List.take_length] at this
              exact this
            have HSR := HSJ.out.src hm1 (by rw [HYL.out]; omega) HYB.out (z := min 7 (1 + i / 50)) (by omega)
            have HSS : Hid (∀ w2, (w2 = wr.setCell ⟨w.heap.size, 3, none⟩ (.int .i64 (min 7 (1 + i / 50) : Nat)) ∨ ∃ u, w2 = (wr.setCell ⟨w.heap.size, 3, none⟩ u).setCell ⟨w.heap.size, 3, none⟩ (.int .i64 (min 7 (1 + i / 50) : Nat))) → SRX w2 w.heap.size wr.heap.size (srcOf xs) ∧ Below w.heap.size w w2) := by
              intro w2 hw2
              have := HSR w2 hw2
              rw [HSO.out, ← HMY.out]
              exact this
            clear bl HSR ow HM HMY HSO
            by_cases h7 : 7 < 1 + i / 50
            · have h7I : (7 : Int) < 1 + (i : Int) / 50 := by omega
              have e7 : min 7 (1 + i / 50) = 7 := by omega
              rw [e7] at HSS
              go_wp2
              go_ret
              refine ⟨_, rfl, Nat.le_refl _, SRX.mono (HSS.out _ (.inr ⟨_, rfl⟩)).1 (by simp) (by simp), (HSS.out _ (.inr ⟨_, rfl⟩)).2⟩
            · first
                | (exfalso; omega)
                | (have h7I : ¬ (7 : Int) < 1 + (i : Int) / 50 := by omega
                   have e7 : ((min 7 (1 + i / 50) : Nat) : Int) = 1 + (i : Int) / 50 := by omega
                   rw [e7] at HSS
                   clear e7
                   go_wp2
                   go_ret
                   refine ⟨_, rfl, Nat.le_refl _, SRX.mono (HSS.out _ (.inl rfl)).1 (by simp) (by simp), (HSS.out _ (.inl rfl)).2⟩)

set_option maxHeartbeats 400000 in
set_option maxRecDepth 100000 in
theorem sourceX_nil (w : World) (ao : Option Addr) (cap : Nat) :
    Calls Try.prog 38 #[.slice ao 0 cap] w fun e w' => ∃ k, e = .returned (.pointer (some ⟨k, 0, none⟩)) ∧ w.heap.size ≤ k ∧ SRX w' k w'.heap.size (srcOf []) ∧ Below w.heap.size w w' := by
  go_enter Try.func38, Try.ntmps38
  go_wp2
  go_rounds 1
  go_rounds 1
  go_ret
  refine ⟨_, rfl, Nat.le_refl _, ⟨by simp, by simp, fun j => (by go_simp), ⟨none, 0, (by go_simp; rfl), .inl rfl⟩, (by go_simp; rfl), (by go_simp; rfl), (by go_simp; rfl), by decide, by decide, by decide, fun x hx => by simp [srcOf] at hx, by decide⟩, ?_⟩
  repeat (first | exact Below.refl _ _ | refine Below.setCell ?_ (by simp) _ | refine Below.alloc ?_ (by simp) _)

theorem sourceX_any (w : World) (v : Value) (xs : List Int) (h : Rd .u8 w v xs) (hby : Byt xs) (hn : xs.length ≤ 1048576) :
    Calls Try.prog 38 #[v] w fun e w' => ∃ k, e = .returned (.pointer (some ⟨k, 0, none⟩)) ∧ w.heap.size ≤ k ∧ SRX w' k w'.heap.size (srcOf xs) ∧ Below w.heap.size w w' := by
  obtain ⟨ao, cap, rfl, h1, h2, h3⟩ := h
  rcases h3 with rfl | ⟨b, o, rfl, hb, hc⟩
  · exact sourceX_nil w ao cap
  · exact sourceX_row w b o xs.length cap xs rfl hb hc hby hn

end Go.Proofs.Ytoljmlhnbmeloaa

namespace Go.Proofs.Ytoljmlhnbmeloaa
open Go.RowKit

theorem Try.infoI : (Try.prog.info? 2).map (fun i => (i.zero, i.size, i.bytes)) = some (some (.int .i64 0), 1, 8) := by kernel_rfl

def bitsL (W : Nat) (xs : List Int) (q : Nat) : List Int := (List.range q).map (fun i => ((dig W 1 xs i : Nat) : Int))
theorem bitsL_len (W : Nat) (xs : List Int) (q : Nat) : (bitsL W xs q).length = q := by simp [bitsL]
theorem bitsL_getD (W : Nat) (xs : List Int) (q i : Nat) (h : i < q) : (bitsL W xs q).getD i 0 = ((dig W 1 xs i : Nat) : Int) := by simp [bitsL, List.getD, h]
theorem bitsL_succ (W : Nat) (xs : List Int) (q : Nat) : bitsL W xs (q + 1) = bitsL W xs q ++ [((dig W 1 xs q : Nat) : Int)] := range_snoc _ q

theorem bit_at (W : Nat) (xs : List Int) (k j x i : Nat) (hk : k < xs.length) (hj : j < W) (hx : xs.getD k 0 = (x : Int)) (hi : i + 1 + j = W * k + W) : dig W 1 xs i = x / 2 ^ j % 2 := by
  have e0 : W * (k + 1) = W * k + W := Nat.mul_succ W k
  rw [dig_take W 1 xs (k + 1) i hk (by rw [e0]; omega), numW_take_succ W xs k hk, hx, Int.toNat_natCast]
  rw [show W * (k + 1) - 1 * (i + 1) = j by rw [e0]; omega]
  have e : 2 ^ W = 2 ^ (W - j - 1) * 2 * 2 ^ j := by rw [← Nat.pow_succ, ← Nat.pow_add]; congr 1; omega
  rw [e, ← Nat.mul_assoc, Nat.add_comm, Nat.add_mul_div_right _ _ (pow_pos2 j), ← Nat.mul_assoc, Nat.pow_one, Nat.add_mul_mod_self_right]
  rw [Nat.mul_comm (2 ^ (W - j - 1) * 2) (2 ^ j), Nat.mod_mul_right_div_self, Nat.mod_mod_of_dvd _ (Nat.dvd_mul_left 2 _)]

theorem i64_low1 (n : Int) : bits .and .i64 n 1 = n % 2 := by
  have h1 : (BitVec.ofInt 64 1).toNat = 2 ^ 1 - 1 := by decide
  have key : (BitVec.ofInt 64 n &&& BitVec.ofInt 64 1).toNat = (n % ((2 ^ 64 : Nat) : Int)).toNat % 2 ^ 1 := by
    rw [BitVec.toNat_and, BitVec.toNat_ofInt, h1, Nat.and_two_pow_sub_one_eq_mod]
  show IntKind.i64.wrap ((BitVec.ofInt 64 n &&& BitVec.ofInt 64 1).toNat : Nat) = n % 2
  rw [key, IntKind.wrap_i64]
  omega

theorem shr_bit (x j : Nat) (hx : x < 256) : bits .and .i64 (wrap64 ((x : Int) / 2 ^ j)) 1 = ((x / 2 ^ j % 2 : Nat) : Int) := by
  have h := Nat.div_le_self x (2 ^ j)
  rw [i64_low1, shr_cast]
  generalize x / 2 ^ j = y at *
  rw [IntWalk.wrap64_in _ ⟨by omega, by omega⟩]
  omega




/-! ### the groups of seven bits -/
def gv (xs : List Int) (q t : Nat) : Nat :=
  if 7 * q + t ≤ 8 * xs.length then numW 8 xs / 2 ^ (8 * xs.length - (7 * q + t)) % 2 ^ t else numW 8 xs % 2 ^ (8 * xs.length - 7 * q) * 2 ^ (7 * q + t - 8 * xs.length)

theorem gv_zero (xs : List Int) (q : Nat) (h : 7 * q ≤ 8 * xs.length) : gv xs q 0 = 0 := by
  unfold gv; rw [if_pos (by omega)]; simp [Nat.mod_one]

theorem gv_in (xs : List Int) (q t : Nat) (h : 7 * q + t < 8 * xs.length) : gv xs q (t + 1) = 2 * gv xs q t + dig 8 1 xs (7 * q + t) := by
  unfold gv dig
  rw [if_pos (by omega), if_pos (by omega)]
  have e : 8 * xs.length - (7 * q + t) = 8 * xs.length - (7 * q + (t + 1)) + 1 := by omega
  rw [e, show 2 ^ (8 * xs.length - (7 * q + (t + 1)) + 1) = 2 ^ (8 * xs.length - (7 * q + (t + 1))) * 2 from Nat.pow_succ _ _, ← Nat.div_div_eq_div_mul, show 8 * xs.length - 1 * (7 * q + t + 1) = 8 * xs.length - (7 * q + (t + 1)) by omega, Nat.pow_one]
  generalize numW 8 xs / 2 ^ (8 * xs.length - (7 * q + (t + 1))) = X
  rw [Nat.pow_succ, Nat.mul_comm (2 ^ t) 2, Nat.mod_mul]
  omega

theorem gv_out (xs : List Int) (q t : Nat) (h0 : 7 * q ≤ 8 * xs.length) (h : 8 * xs.length ≤ 7 * q + t) : gv xs q (t + 1) = 2 * gv xs q t := by
  unfold gv
  rw [if_neg (by omega)]
  by_cases e : 7 * q + t = 8 * xs.length
  · rw [if_pos (by omega), show 8 * xs.length - (7 * q + t) = 0 by omega, show 8 * xs.length - 7 * q = t by omega, show 7 * q + (t + 1) - 8 * xs.length = 1 by omega]
    simp; omega
  · rw [if_neg (by omega), show 7 * q + (t + 1) - 8 * xs.length = 7 * q + t - 8 * xs.length + 1 by omega, Nat.pow_succ]
    rw [← Nat.mul_assoc, Nat.mul_comm _ 2]

theorem gv_lt (xs : List Int) (q t : Nat) (h0 : 7 * q ≤ 8 * xs.length) : gv xs q t < 2 ^ t := by
  unfold gv
  by_cases h : 7 * q + t ≤ 8 * xs.length
  · rw [if_pos h]; exact Nat.mod_lt _ (pow_pos2 t)
  · rw [if_neg h]
    have h1 : numW 8 xs % 2 ^ (8 * xs.length - 7 * q) < 2 ^ (8 * xs.length - 7 * q) := Nat.mod_lt _ (pow_pos2 _)
    have h2 := shift_lt h1 t (by omega)
    rw [show 7 * q + t - 8 * xs.length = t - (8 * xs.length - 7 * q) by omega]
    exact h2

theorem gv_le (xs : List Int) (q t : Nat) (h0 : 7 * q ≤ 8 * xs.length) (ht : t ≤ 7) : gv xs q t ≤ 127 := by
  have h := gv_lt xs q t h0
  have h2 : 2 ^ t ≤ 2 ^ 7 := Nat.pow_le_pow_right (by omega) ht
  simp only [Nat.reducePow] at h2
  omega

def pkS (xs : List Int) (q : Nat) : List Int := (List.range q).map (fun j => ((128 + gv xs j 7 : Nat) : Int))
theorem pkS_len (xs : List Int) (q : Nat) : (pkS xs q).length = q := by simp [pkS]
theorem pkS_succ (xs : List Int) (q : Nat) : pkS xs (q + 1) = pkS xs q ++ [((128 + gv xs q 7 : Nat) : Int)] := range_snoc _ q

theorem pkS_full (xs : List Int) (q : Nat) (h : 7 * q ≤ 8 * xs.length) : pkS xs q = pkE xs q := by
  unfold pkS pkE
  apply List.map_congr_left
  intro j hj
  have hj := List.mem_range.1 hj
  unfold gv dig
  rw [if_pos (by omega), show 7 * j + 7 = 7 * (j + 1) by omega]

theorem pkS_all (xs : List Int) (q : Nat) (h : 8 * xs.length ≤ 7 * q) (h1 : 7 * q < 8 * xs.length + 7) : pkS xs q = pk xs := by
  by_cases e : 7 * q = 8 * xs.length
  · rw [pkS_full xs q (by omega), pk_even (by omega)]
  · obtain ⟨p, rfl⟩ : ∃ p, q = p + 1 := ⟨q - 1, by omega⟩
    rw [pkS_succ, pkS_full xs p (by omega), pk_odd (q := p) (A := 8 * xs.length - 7 * p) (by omega) (by omega) (by omega)]
    unfold gv
    rw [if_neg (by omega), show 7 * p + 7 - 8 * xs.length = 7 - (8 * xs.length - 7 * p) by omega]

end Go.Proofs.Ytoljmlhnbmeloaa

namespace Go.Proofs.Ytoljmlhnbmeloaa
open Go.RowKit




end Go.Proofs.Ytoljmlhnbmeloaa

namespace Go.Proofs.Ytoljmlhnbmeloaa
open Go.RowKit

theorem conv_any {w : World} {v : Value} {xs : List Int} (h : Rd .u8 w v xs) : (convert 29 9 v).run Try.prog w = .ok (.string (strOfNums xs)) w := by
  obtain ⟨ao, cap, rfl, h1, h2, h3⟩ := h
  rcases h3 with rfl | ⟨b, o, rfl, hb, hc⟩
  · cases ao with
    | none => exact run_convert_bytes_nil w _ _ Try.underlying29 Try.underlying5 0 cap _ Try.underlying9
    | some a =>
      rw [run_convert_bytes_string w _ _ _ _ _ _ Try.underlying29 Try.underlying5 Try.underlying9]
      exact run_bytesToString w a 0 cap [] (by simp [loadCells, loadCellsFrom])
  · exact run_convert_bytes_arg w _ _ Try.underlying29 Try.underlying5 b o _ cap xs rfl hc _ Try.underlying9

/-- What a conversion of a text to bytes leaves. -/
theorem conv_back (w : World) (xs : List Int) (hby : ∀ x ∈ xs, 0 ≤ x ∧ x < 256) (hl : xs.length ≤ 1099511627776) :
    ∃ cap W, (convert 9 29 (.string (strOfNums xs))).run Try.prog w = .ok (.slice (some ⟨w.heap.size, 0, none⟩) xs.length cap) W ∧ Below w.heap.size w W ∧ w.heap.size < W.heap.size ∧
      Rd .u8 W (.slice (some ⟨w.heap.size, 0, none⟩) xs.length cap) xs ∧ ∀ j, j < xs.length → W.frozen? ⟨w.heap.size, j, none⟩ = false := by
  have hr := Lib.run_convert_string_bytes (P := Try.prog) w 9 29 5 (strOfNums xs) Try.underlying9 Try.underlying29 Try.underlying5
  rw [strOfNums_size] at hr
  have hge := grownCap_ge w xs.length 0 5
  have hle := grownCap_le_maxLen w xs.length 0 5 (by unfold maxLen; omega)
  have hsz := Lib.bytesWorld_size w 5 (strOfNums xs)
  refine ⟨_, _, hr, ⟨rfl, rfl, rfl, by omega, fun k hk => Lib.bytesWorld_at_old w _ _ k hk⟩, by omega, ?_, ?_⟩
  · refine ⟨_, _, rfl, hge, hle, .inr ⟨w.heap.size, 0, rfl, by omega, fun i hi => ?_⟩⟩
    rw [Nat.zero_add, Lib.bytesWorld_cell w 5 (strOfNums xs) i (by rw [strOfNums_size]; exact hi), strOfNums_data]
    have hx := hby _ (List.getElem_mem hi)
    simp only [List.getD, List.getElem?_map, List.getElem?_eq_getElem hi, Option.map_some, Option.getD_some, UInt8.toNat_ofNat']
    rw [show xs[i].toNat % 2 ^ 8 = xs[i].toNat from Nat.mod_eq_of_lt (by have := hx; simp only [Nat.reducePow]; omega), Int.toNat_of_nonneg hx.1]
  · intro j hj
    have hn := Lib.bytesWorld_at_new w 5 (strOfNums xs)
    have hs : j < (Lib.bytesCells w 5 (strOfNums xs)).size := by
      unfold Lib.bytesCells
      rw [Array.size_append, Array.size_map]
      have : (strOfNums xs).data.size = xs.length := strOfNums_size xs
      omega
    simp [World.frozen?, hn]
    omega

end Go.Proofs.Ytoljmlhnbmeloaa

namespace Go.Proofs.Ytoljmlhnbmeloaa
open Go.RowKit

theorem map_inj_on {xs ys : List Int} (hx : Byt xs) (hy : Byt ys) (h : xs.map (fun n => UInt8.ofNat n.toNat) = ys.map (fun n => UInt8.ofNat n.toNat)) : xs = ys := by
  induction xs generalizing ys with
  | nil => cases ys with
    | nil => rfl
    | cons y ys => simp at h
  | cons x xs ih => cases ys with
    | nil => simp at h
    | cons y ys =>
      simp only [List.map_cons, List.cons.injEq] at h
      have bx := hx x (by simp)
      have by' := hy y (by simp)
      have e : x = y := by
        have h1 := congrArg UInt8.toNat h.1
        simp only [UInt8.toNat_ofNat'] at h1
        omega
      rw [e, ih (fun z hz => hx z (by simp [hz])) (fun z hz => hy z (by simp [hz])) h.2]

theorem same_iff {xs ys : List Int} (hx : Byt xs) (hy : Byt ys) : ((strOfNums xs).toList == (strOfNums ys).toList) = decide (xs = ys) := by
  rw [ByteArray.toList_eq, ByteArray.toList_eq, strOfNums_data, strOfNums_data]
  by_cases h : xs = ys
  · subst h; simp
  · rw [decide_eq_false h, beq_eq_false_iff_ne]
    exact fun e => h (map_inj_on hx hy e)



end Go.Proofs.Ytoljmlhnbmeloaa

namespace Go.Proofs.Ytoljmlhnbmeloaa
open Go.RowKit

def upE (ps : List Int) (q : Nat) : List Int := (List.range q).map (fun j => ((dig 7 8 ps j : Nat) : Int))
theorem upE_len (ps : List Int) (q : Nat) : (upE ps q).length = q := by simp [upE]
theorem upE_succ (ps : List Int) (q : Nat) : upE ps (q + 1) = upE ps q ++ [((dig 7 8 ps q : Nat) : Int)] := range_snoc _ q
theorem upE_all {ps : List Int} {q : Nat} (h : q = 7 * ps.length / 8) : up ps = upE ps q := by subst h; rfl

theorem u8_low7 (x : Nat) (hx : x < 256) : bits .and .u8 (x : Int) 127 = ((x % 128 : Nat) : Int) := by
  rw [show (127 : Int) = ((127 : Nat) : Int) from rfl, u8_and_nat x 127 hx (by omega), nat_mask7]

theorem reg_in7 (R x A N : Nat) (hx : x < 128) (hA : A ≤ 7) (h : R % 2 ^ A = N % 2 ^ A) :
    ∃ R' : Nat, R' < 65536 ∧ bits .or .u16 (IntKind.u16.wrap ((R : Int) * 128)) (x : Int) = (R' : Int) ∧ R' % 2 ^ (A + 7) = (N * 128 + x) % 2 ^ (A + 7) := by
  have hs := reg_step R N x A 7 16 (by omega) h
  simp only [show (2 : Nat) ^ 7 = 128 from rfl, show (2 : Nat) ^ 16 = 65536 from rfl] at hs
  refine ⟨R * 128 % 65536 + x, by omega, ?_, hs⟩
  have e : IntKind.u16.wrap ((R : Int) * 128) = ((R * 128 % 65536 : Nat) : Int) := by rw [IntKind.wrap_u16]; omega
  rw [e, u16_or_nat _ _ (by omega) (by omega), nat_join 7 (R * 128 % 65536) x (by simp only [Nat.reducePow]; omega) (by simpa using hx)]

theorem reg_out8 (xs : List Int) (R A k q : Nat) (hk : k ≤ xs.length) (hq : 8 * q + (A + 8) = 7 * k) (h : R % 2 ^ (A + 8) = numW 7 (xs.take k) % 2 ^ (A + 8)) :
    IntKind.u8.wrap ((R : Int) / 2 ^ A) = ((dig 7 8 xs q : Nat) : Int) := by
  rw [IntKind.wrap_u8', shr_cast, dig_take 7 8 xs k q hk (by omega), show 7 * k - 8 * (q + 1) = A by omega, ← reg_dig R _ A 8 h]
  simp only [Nat.reducePow]
  omega




end Go.Proofs.Ytoljmlhnbmeloaa

namespace Go.Proofs.Ytoljmlhnbmeloaa
open Go.RowKit

def unp (ps : List Int) : List Int := if pk (up ps) = ps then up ps else []

theorem byt_pk (xs : List Int) : Byt (pk xs) := fun x hx => by have := pk_range xs x hx; omega
theorem byt_up (xs : List Int) : Byt (up xs) := fun x hx => by have := up_range xs x hx; omega

theorem bcell {W w1 : World} (hb : Below W.heap.size W w1) : (∀ b o, b < W.heap.size → w1.cell? ⟨b, o, none⟩ = W.cell? ⟨b, o, none⟩) ∧ (∀ b o, b < W.heap.size → w1.frozen? ⟨b, o, none⟩ = W.frozen? ⟨b, o, none⟩) :=
  ⟨fun b o h => hb.cell (p := ⟨b, o, none⟩) h, fun b o h => hb.frozen (p := ⟨b, o, none⟩) h⟩

/-- A new block of one cell, in every later world. -/
theorem box_later {w w1 : World} {x : Value} {t : TypeId} (hb : Below (w.alloc (.cells #[x] t)).heap.size (w.alloc (.cells #[x] t)) w1) :
    w1.cell? ⟨w.heap.size, 0, none⟩ = some x ∧ w1.frozen? ⟨w.heap.size, 0, none⟩ = false ∧ w.heap.size < w1.heap.size := by
  obtain ⟨hc, hf⟩ := bcell hb
  have hs := hb.size
  simp at hs
  refine ⟨?_, ?_, by omega⟩
  · rw [hc _ _ (by simp)]; simp
  · rw [hf _ _ (by simp)]; simp

theorem Own.setBelow {k : IntKind} {e : TypeId} {w : World} {base : Nat} {v : Value} {xs : List Int} (h : Own k e w base v xs) {a : Addr} (ha : a.block < base) (u : Value) : Own k e (w.setCell a u) base v xs := ownsRow_setCell_below h ha u


/-! ### the groups of eight bits -/
def g8 (xs : List Int) (q t : Nat) : Nat := numW 7 xs / 2 ^ (7 * xs.length - (8 * q + t)) % 2 ^ t
theorem g8_zero (xs : List Int) (q : Nat) : g8 xs q 0 = 0 := by unfold g8; simp [Nat.mod_one]
theorem g8_in (xs : List Int) (q t : Nat) (h : 8 * q + t < 7 * xs.length) : g8 xs q (t + 1) = 2 * g8 xs q t + dig 7 1 xs (8 * q + t) := by
  unfold g8 dig
  have e : 7 * xs.length - (8 * q + t) = 7 * xs.length - (8 * q + (t + 1)) + 1 := by omega
  rw [e, show 2 ^ (7 * xs.length - (8 * q + (t + 1)) + 1) = 2 ^ (7 * xs.length - (8 * q + (t + 1))) * 2 from Nat.pow_succ _ _, ← Nat.div_div_eq_div_mul, show 7 * xs.length - 1 * (8 * q + t + 1) = 7 * xs.length - (8 * q + (t + 1)) by omega, Nat.pow_one]
  generalize numW 7 xs / 2 ^ (7 * xs.length - (8 * q + (t + 1))) = X
  rw [Nat.pow_succ, Nat.mul_comm (2 ^ t) 2, Nat.mod_mul]
  omega
theorem g8_le (xs : List Int) (q t : Nat) (ht : t ≤ 8) : g8 xs q t ≤ 255 := by
  have h : g8 xs q t < 2 ^ t := Nat.mod_lt _ (pow_pos2 t)
  have h2 : 2 ^ t ≤ 2 ^ 8 := Nat.pow_le_pow_right (by omega) ht
  simp only [Nat.reducePow] at h2
  omega
theorem g8_dig (xs : List Int) (q : Nat) : g8 xs q 8 = dig 7 8 xs q := by unfold g8 dig; rw [show 8 * q + 8 = 8 * (q + 1) by omega]


end Go.Proofs.Ytoljmlhnbmeloaa

namespace Go.Proofs.Ytoljmlhnbmeloaa
open Go.RowKit

/-- A row of another block is not the row that was written. -/
theorem own_ne {k : IntKind} {e e' : TypeId} {w w' : World} {B B' : Nat} {v v' : Value} {xs xs' : List Int} (h : Own k e w B v xs) (h' : Own k e' w' B' v' xs') (hlt : w.heap.size ≤ B') : v.ownBlock = none ∨ v.ownBlock ≠ v'.ownBlock := by
  cases hv : v.ownBlock with
  | none => exact .inl rfl
  | some g =>
    refine .inr fun e => ?_
    have h1 := (h.lt g hv).2
    have h2 := (h'.lt g e.symm).1
    omega

theorem own_ne' {k : IntKind} {e e' : TypeId} {w w' : World} {B B' : Nat} {v v' : Value} {xs xs' : List Int} (h : Own k e w B v xs) (h' : Own k e' w' B' v' xs') (hlt : w.heap.size ≤ B') : v'.ownBlock = none ∨ v'.ownBlock ≠ v.ownBlock := by
  cases hv : v'.ownBlock with
  | none => exact .inl rfl
  | some g =>
    refine .inr fun e => ?_
    have h1 := (h.lt g e.symm).2
    have h2 := (h'.lt g hv).1
    omega


end Go.Proofs.Ytoljmlhnbmeloaa

namespace Go.Proofs.Ytoljmlhnbmeloaa
open Go.RowKit




/-- A local struct of one cell. -/
def Box (w : World) (b : Nat) (v : Value) : Prop := b < w.heap.size ∧ w.cell? ⟨b, 0, none⟩ = some v
theorem Box.below {w w' : World} {b : Nat} {v : Value} (h : Box w b v) (hb : Below w.heap.size w w') : Box w' b v :=
  ⟨Nat.lt_of_lt_of_le h.1 hb.size, (hb.cell (p := ⟨b, 0, none⟩) h.1).trans h.2⟩
theorem Box.other {w w' : World} {b : Nat} {v : Value} {row : Option Nat} (h : Box w b v) (hg : w.grownBy w' row) (hne : some b ≠ row) : Box w' b v :=
  ⟨Nat.lt_of_lt_of_le h.1 hg.size, hg.cell h.2 hne⟩
theorem Box.new (w : World) (v : Value) (t : TypeId) : Box (w.alloc (.cells #[v] t)) w.heap.size v := ⟨by simp, by simp⟩
theorem Box.drewN {w : World} {b : Nat} {v : Value} (h : Box w b v) (n : Nat) : Box (w.drewN n) b v := h

/-- A block made behind a row is not that row; nor one made ahead of it. -/
theorem own_box {k : IntKind} {e : TypeId} {w : World} {B b : Nat} {v : Value} {xs : List Int} (h : Own k e w B v xs) (hb : w.heap.size ≤ b) : some b ≠ v.ownBlock := by
  intro e; have := (h.lt b e.symm).2; omega
theorem box_own {k : IntKind} {e : TypeId} {w : World} {B b : Nat} {v : Value} {xs : List Int} (h : Own k e w B v xs) (hb : b < B) : some b ≠ v.ownBlock := by
  intro e; have := (h.lt b e.symm).1; omega

end Go.Proofs.Ytoljmlhnbmeloaa

namespace Go.Proofs.Ytoljmlhnbmeloaa
open Go.RowKit

def zeros (n : Nat) : List Int := List.replicate n 0
theorem zeros_len (n : Nat) : (zeros n).length = n := by simp [zeros]

/-- How many bytes a new disk has. -/
def ndl (k : Int) : Nat := if 1 ≤ k ∧ k ≤ 300 then k.toNat * 64 else 0

theorem box2_later {w w1 : World} {x y : Value} {t : TypeId} (hb : Below (w.alloc (.cells #[x, y] t)).heap.size (w.alloc (.cells #[x, y] t)) w1) :
    w1.cell? ⟨w.heap.size, 0, none⟩ = some x ∧ w1.cell? ⟨w.heap.size, 1, none⟩ = some y ∧ w1.frozen? ⟨w.heap.size, 0, none⟩ = false ∧ w1.frozen? ⟨w.heap.size, 1, none⟩ = false ∧ w.heap.size < w1.heap.size := by
  obtain ⟨hc, hf⟩ := bcell hb
  have hs := hb.size
  simp at hs
  refine ⟨?_, ?_, ?_, ?_, by omega⟩
  · rw [hc _ _ (by simp)]; simp
  · rw [hc _ _ (by simp)]; simp
  · rw [hf _ _ (by simp)]; simp
  · rw [hf _ _ (by simp)]; simp


set_option maxHeartbeats 400000 in
set_option maxRecDepth 100000 in
theorem specNewDisk_any (w : World) (k : Int) :
    Calls Try.prog 87 #[.int .i64 k] w fun e w' => ∃ v', e = .returned (.agg #[v', .slice none 0 0]) ∧ Own .u8 5 w' w.heap.size v' (zeros (ndl k)) ∧ Below w.heap.size w w' := by
  obtain ⟨i0, hi, hz0, hz1, hz2⟩ := info_parts Try.infoB
  by_cases h1 : k < 1
  · have e : ndl k = 0 := if_neg (by omega)
    rw [e]
    go_enter Try.func87, Try.ntmps87
    go_wp2
    exact bodyPost_ret (v := .agg #[.slice none 0 0, .slice none 0 0]) (by simp [results, Try.results87, go_sem]) rfl ⟨_, rfl, World.ownsRow_nil _ _ _ _, (Below.refl _ _).alloc (Nat.le_refl _) _⟩
  · by_cases h2 : 300 < k
    · have e : ndl k = 0 := if_neg (by omega)
      rw [e]
      go_enter Try.func87, Try.ntmps87
      go_wp2
      exact bodyPost_ret (v := .agg #[.slice none 0 0, .slice none 0 0]) (by simp [results, Try.results87, go_sem]) rfl ⟨_, rfl, World.ownsRow_nil _ _ _ _, (Below.refl _ _).alloc (Nat.le_refl _) _⟩
    · obtain ⟨n, rfl⟩ : ∃ n : Nat, k = (n : Int) := ⟨k.toNat, by omega⟩
      have e : ndl (n : Int) = n * 64 := by unfold ndl; rw [if_pos (by omega), Int.toNat_natCast]
      rw [e]
      clear e
      go_enter Try.func87, Try.ntmps87
      go_wp2_with (at_make; go_must (refine wpList_make_full _ rfl _ _ 29 rfl (w.heap.size + 1) 5 i0 (.int .u8 0) 1 Try.underlying29 hi hz0 hz1 _ _ _ _ (n * 64) rfl rfl ?a1 ?a2 ?b2 ?b3 ?b4 ?_))
      case b2 => omega
      case b3 => unfold maxLen; omega
      intro w1 hown hgrow
      have B1 : Below (w.alloc (.cells #[.slice none 0 0, .slice none 0 0] 32)).heap.size (w.alloc (.cells #[.slice none 0 0, .slice none 0 0] 32)) w1 := (Below.refl _ _).grown hgrow (Nat.le_refl _) (by simp)
      obtain ⟨c0, c1, f0, f1, z1⟩ := box2_later B1
      have HB : Hid (Below w.heap.size w w1) := ((Below.refl _ _).alloc (Nat.le_refl _) _).trans (B1.mono (by simp))
      have HO : Hid (Own .u8 5 w1 (w.heap.size + 1) (.slice (some ⟨w.heap.size + 1, 0, none⟩) (n * 64) (n * 64)) (List.replicate (n * 64) 0)) := own_zeros (by simpa using hown)
      clear hown hgrow B1
      go_wp2
      refine bodyPost_ret (v := .agg #[.slice (some ⟨w.heap.size + 1, 0, none⟩) (n * 64) (n * 64), .slice none 0 0]) (by simp [results, Try.results87, go_sem, c0, c1]) rfl ⟨_, rfl, ?_, ?_⟩
      · exact (Own.setBelow (Own.setBelow HO.out (a := ⟨w.heap.size, 0, none⟩) (by simp) _) (a := ⟨w.heap.size, 1, none⟩) (by simp) _).mono (by omega)
      · exact (HB.out.setCell (Nat.le_refl _) _).setCell (Nat.le_refl _) _

set_option maxHeartbeats 400000 in
theorem eqWriteS_nil (w : World) (ao bo : Option Addr) (ca cb : Nat) :
    Calls Try.prog 61 #[.slice ao 0 ca, .slice bo 0 cb] w fun e w' => e = .returned (.bool true) ∧ w' = w := by
  go_enter Try.func61, Try.ntmps61
  go_wp2
  go_rounds 1
  go_ret
  exact ⟨rfl, rfl⟩

set_option maxHeartbeats 400000 in
theorem markWriteS_nil (w : World) (ao : Option Addr) (ca : Nat) (k : Int) :
    Calls Try.prog 62 #[.slice ao 0 ca, .int .i64 k] w fun e w' => e = .returned (.int .i64 k) ∧ w' = w := by
  go_enter Try.func62, Try.ntmps62
  go_wp2
  go_rounds 1
  go_ret
  exact ⟨rfl, rfl⟩

set_option maxHeartbeats 400000 in
theorem heldWriteS_nil (w : World) (ao : Option Addr) (ca : Nat) (k : Int) :
    Calls Try.prog 63 #[.slice ao 0 ca, .int .i64 k] w fun e w' => e = .returned (.int .i64 k) ∧ w' = w := by
  go_enter Try.func63, Try.ntmps63
  go_wp2
  go_rounds 1
  go_ret
  exact ⟨rfl, rfl⟩

set_option maxHeartbeats 400000 in
theorem eqDisk_nil (w : World) (va vb : Value) (xs ys : List Int) (ao bo : Option Addr) (ca cb : Nat) (ha : Rd .u8 w va xs) (hb : Rd .u8 w vb ys) :
    Calls Try.prog 25 #[.agg #[va, .slice ao 0 ca], .agg #[vb, .slice bo 0 cb]] w fun e w' => e = .returned (.bool (decide (xs = ys))) ∧ Below w.heap.size w w' := by
  have B0 : Hid (Below w.heap.size w ((w.alloc (.cells #[va, .slice ao 0 ca] 32)).alloc (.cells #[vb, .slice bo 0 cb] 32))) := ((Below.refl _ _).alloc (Nat.le_refl _) _).alloc (by simp) _
  have RA : Hid (Rd .u8 ((w.alloc (.cells #[va, .slice ao 0 ca] 32)).alloc (.cells #[vb, .slice bo 0 cb] 32)) va xs) := ha.below B0.out
  have RB : Hid (Rd .u8 ((w.alloc (.cells #[va, .slice ao 0 ca] 32)).alloc (.cells #[vb, .slice bo 0 cb] 32)) vb ys) := hb.below B0.out
  clear ha hb
  go_enter Try.func25, Try.ntmps25
  go_wp2_with fail
  refine (eqByteS_any _ _ _ xs ys RA.out RB.out).mono ?_
  rintro e w1 ⟨rfl, q1, rfl⟩
  have BE : Hid (Below w.heap.size w (((w.alloc (.cells #[va, .slice ao 0 ca] 32)).alloc (.cells #[vb, .slice bo 0 cb] 32)).drewN q1)) := B0.out.trans ((below_drewN' _ q1).mono (by simp; omega))
  by_cases h : xs = ys
  · have hd : decide (xs = ys) = true := by simp [h]
    rw [hd]
    clear h
    go_wp2_with fail
    refine (eqWriteS_nil _ _ _ _ _).mono ?_
    rintro e w2 ⟨rfl, hw⟩
    subst hw
    go_wp2
    go_ret
    exact ⟨ret_bool hd.symm, BE.out⟩
  · have hd : decide (xs = ys) = false := by simp [h]
    rw [hd]
    clear h
    go_wp2
    go_ret
    exact ⟨ret_bool hd.symm, BE.out⟩

set_option maxHeartbeats 400000 in
theorem markDisk_nil (w : World) (base : Nat) (v : Value) (xs : List Int) (ao : Option Addr) (ca : Nat) (k : Int) (hown : Own .u8 5 w base v xs) (hk0 : 0 ≤ k) (hk1 : k ≤ 1099511627776) (hn : xs.length ≤ 1099511627776) :
    Calls Try.prog 26 #[.agg #[v, .slice ao 0 ca], .int .i64 k] w fun e w' => e = .returned (.int .i64 (k + xs.length)) ∧ Own .u8 5 w' base v (marks k xs.length) ∧ w.grownBy w' v.ownBlock := by
  have HO : Hid (Own .u8 5 (w.alloc (.cells #[v, .slice ao 0 ca] 32)) base v xs) := World.ownsRow.alloc hown _
  have NB : Hid (some w.heap.size ≠ v.ownBlock) := own_box hown (Nat.le_refl _)
  clear hown
  go_enter Try.func26, Try.ntmps26
  go_wp2_with fail
  refine (markByteS_any _ base _ xs k HO.out hk0 hk1 hn).mono ?_
  rintro e w1 ⟨rfl, o1, g1⟩
  have O1 : Hid (Own .u8 5 w1 base v (marks k xs.length)) := o1
  have G1 : Hid (w.grownBy w1 v.ownBlock) := ⟨g1.os, g1.tape, g1.output, by have := g1.size; simp at this; omega, fun j hj hne => (g1.block j (by simp; omega) hne).trans (Below.heap_alloc _ _ _ hj)⟩
  have c1 : w1.cell? ⟨w.heap.size, 1, none⟩ = some (.slice ao 0 ca) := g1.cell (a := ⟨w.heap.size, 1, none⟩) (by simp) NB.out
  clear o1 g1
  go_wp2_with fail
  refine (markWriteS_nil _ _ _ _).mono ?_
  rintro e w2 ⟨rfl, hw⟩
  subst hw
  go_wp2
  go_ret
  exact ⟨rfl, O1.out, G1.out⟩

set_option maxHeartbeats 400000 in
theorem heldDisk_nil (w : World) (v : Value) (n : Nat) (ao : Option Addr) (ca : Nat) (k : Int) (h : Rd .u8 w v (marks k n)) (hk0 : 0 ≤ k) (hk1 : k ≤ 1099511627776) (hn : n ≤ 1099511627776) :
    Calls Try.prog 30 #[.agg #[v, .slice ao 0 ca], .int .i64 k] w fun e w' => e = .returned (.int .i64 (k + n)) ∧ Below w.heap.size w w' := by
  have HR : Hid (Rd .u8 (w.alloc (.cells #[v, .slice ao 0 ca] 32)) v (marks k n)) := h.below ((Below.refl _ _).alloc (Nat.le_refl _) _)
  clear h
  go_enter Try.func30, Try.ntmps30
  go_wp2_with fail
  refine (heldByteS_any _ _ n k HR.out hk0 hk1 hn).mono ?_
  rintro e w1 ⟨rfl, hw⟩
  subst hw
  have h0 : ¬ (k + (n : Int)) < 0 := by omega
  go_wp2_with fail
  refine (heldWriteS_nil _ _ _ _).mono ?_
  rintro e w2 ⟨rfl, hw⟩
  subst hw
  go_wp2
  go_ret
  exact ⟨rfl, (Below.refl _ _).alloc (Nat.le_refl _) _⟩

end Go.Proofs.Ytoljmlhnbmeloaa

namespace Go.Proofs.Ytoljmlhnbmeloaa
open Go.RowKit

/-- A local struct of two cells. -/
def Box2 (w : World) (b : Nat) (x y : Value) : Prop := b < w.heap.size ∧ w.cell? ⟨b, 0, none⟩ = some x ∧ w.cell? ⟨b, 1, none⟩ = some y
theorem Box2.below {w w' : World} {b : Nat} {x y : Value} (h : Box2 w b x y) (hb : Below w.heap.size w w') : Box2 w' b x y :=
  ⟨Nat.lt_of_lt_of_le h.1 hb.size, (hb.cell (p := ⟨b, 0, none⟩) h.1).trans h.2.1, (hb.cell (p := ⟨b, 1, none⟩) h.1).trans h.2.2⟩
theorem Box2.other {w w' : World} {b : Nat} {x y : Value} {row : Option Nat} (h : Box2 w b x y) (hg : w.grownBy w' row) (hne : some b ≠ row) : Box2 w' b x y :=
  ⟨Nat.lt_of_lt_of_le h.1 hg.size, hg.cell h.2.1 hne, hg.cell h.2.2 hne⟩
theorem Box2.new (w : World) (x y : Value) (t : TypeId) : Box2 (w.alloc (.cells #[x, y] t)) w.heap.size x y := ⟨by simp, by simp, by simp⟩


end Go.Proofs.Ytoljmlhnbmeloaa

namespace Go.Proofs.Ytoljmlhnbmeloaa
open Go.RowKit

def pB (ps : List (Int × List Int)) (i : Nat) : Int := (ps.getD i (0, [])).1
def pD (ps : List (Int × List Int)) (i : Nat) : List Int := (ps.getD i (0, [])).2

/-- A slice of records (a number and a list of bytes) that reads as ps. -/
def RdW (w : World) (v : Value) (ps : List (Int × List Int)) : Prop :=
  ∃ ao cap, v = .slice ao ps.length cap ∧ ps.length ≤ cap ∧ cap ≤ maxLen ∧
    (ps = [] ∨ ∃ b off, ao = some ⟨b, off, none⟩ ∧ b < w.heap.size ∧ ∀ i, i < ps.length →
      w.cell? ⟨b, off + i * 2, none⟩ = some (.int .i64 (pB ps i)) ∧ ∃ da c, w.cell? ⟨b, off + i * 2 + 1, none⟩ = some (.slice da (pD ps i).length c) ∧ Rd .u8 w (.slice da (pD ps i).length c) (pD ps i))

theorem RdW.len {w : World} {v : Value} {ps : List (Int × List Int)} (h : RdW w v ps) : ∃ ao cap, v = .slice ao ps.length cap ∧ ps.length ≤ cap ∧ cap ≤ maxLen := by
  obtain ⟨ao, cap, h0, h1, h2, _⟩ := h
  exact ⟨ao, cap, h0, h1, h2⟩

theorem RdW.below {w w' : World} {v : Value} {ps : List (Int × List Int)} (h : RdW w v ps) (hb : Below w.heap.size w w') : RdW w' v ps := by
  obtain ⟨ao, cap, rfl, h1, h2, h3⟩ := h
  refine ⟨ao, cap, rfl, h1, h2, ?_⟩
  rcases h3 with h3 | ⟨b, off, rfl, hlt, hc⟩
  · exact .inl h3
  · refine .inr ⟨b, off, rfl, Nat.lt_of_lt_of_le hlt hb.size, fun i hi => ?_⟩
    obtain ⟨c1, da, c, c2, r⟩ := hc i hi
    exact ⟨(hb.cell (p := ⟨b, _, none⟩) hlt).trans c1, da, c, (hb.cell (p := ⟨b, _, none⟩) hlt).trans c2, r.below hb⟩

def tot (ps : List (Int × List Int)) : Nat := (ps.map fun p => p.2.length).sum
theorem tot_take_succ (ps : List (Int × List Int)) (k : Nat) (h : k < ps.length) : tot (ps.take (k + 1)) = tot (ps.take k) + (pD ps k).length := by
  unfold tot pD
  rw [List.take_succ_eq_append_getElem h, List.map_append, List.sum_append]
  simp [List.getD, h]
theorem tot_all (ps : List (Int × List Int)) (k : Nat) (h : ps.length ≤ k) : tot (ps.take k) = tot ps := by rw [List.take_of_length_le h]

set_option maxHeartbeats 400000 in
theorem szByteS_any (w : World) (ao : Option Addr) (n cap : Nat) (left : Int) (hn : n ≤ maxLen) (h0 : 0 ≤ left) (h1 : left ≤ 1048576) :
    Calls Try.prog 58 #[.slice ao n cap, .int .i64 left] w fun e w' => e = .returned (.int .i64 (if left < n then -1 else left - n)) ∧ w' = w := by
  unfold maxLen at hn
  by_cases h : left < n
  · rw [if_pos h]
    have h2 : left - (n : Int) < 0 := by omega
    go_enter Try.func58, Try.ntmps58
    go_wp2
    go_ret
    exact ⟨rfl, rfl⟩
  · rw [if_neg h]
    have h2 : ¬ left - (n : Int) < 0 := by omega
    go_enter Try.func58, Try.ntmps58
    go_wp2
    go_ret
    exact ⟨rfl, rfl⟩

set_option maxHeartbeats 400000 in
theorem szWrite_any (w : World) (x : Int) (ao : Option Addr) (n cap : Nat) (left : Int) (hn : n ≤ maxLen) (h0 : 0 ≤ left) (h1 : left ≤ 1048576) :
    Calls Try.prog 80 #[.agg #[.int .i64 x, .slice ao n cap], .int .i64 left] w fun e w' => e = .returned (.int .i64 (if left < n then -1 else left - n)) ∧ Below w.heap.size w w' := by
  have B0 : Hid (Below w.heap.size w (w.alloc (.cells #[.int .i64 x, .slice ao n cap] 114))) := (Below.refl _ _).alloc (Nat.le_refl _) _
  go_enter Try.func80, Try.ntmps80
  go_wp2_with fail
  refine (szByteS_any _ ao n cap left hn h0 h1).mono ?_
  rintro e w1 ⟨rfl, hw⟩
  subst hw
  by_cases h : left < n
  · rw [if_pos h]
    go_wp2
    go_ret
    exact ⟨rfl, B0.out⟩
  · rw [if_neg h]
    have h2 : ¬ left - (n : Int) < 0 := by omega
    go_wp2
    go_ret
    exact ⟨rfl, B0.out⟩

set_option maxHeartbeats 400000 in
set_option maxRecDepth 100000 in
theorem szWriteS_row (w : World) (b o n cap : Nat) (ps : List (Int × List Int)) (hp : ps.length = n) (hn : n ≤ maxLen) (hb : b < w.heap.size)
    (hc : ∀ i, i < n → w.cell? ⟨b, o + i * 2, none⟩ = some (.int .i64 (pB ps i)) ∧ ∃ da c, w.cell? ⟨b, o + i * 2 + 1, none⟩ = some (.slice da (pD ps i).length c) ∧ Rd .u8 w (.slice da (pD ps i).length c) (pD ps i)) (left : Int) (h0 : 0 ≤ left) (h1 : left ≤ 1048576) :
    Calls Try.prog 59 #[.slice (some ⟨b, o, none⟩) n cap, .int .i64 left] w fun e w' => ∃ r : Int, e = .returned (.int .i64 r) ∧ (r < 0 ∨ r + n + tot ps = left) ∧ Below w.heap.size w w' := by
  have HC : Hid (∀ i, i < n → w.cell? ⟨b, o + i * 2, none⟩ = some (.int .i64 (pB ps i)) ∧ ∃ da c, w.cell? ⟨b, o + i * 2 + 1, none⟩ = some (.slice da (pD ps i).length c) ∧ Rd .u8 w (.slice da (pD ps i).length c) (pD ps i)) := hc
  have HP : Hid (ps.length = n) := hp
  clear hc hp
  unfold maxLen at hn
  by_cases hl : left < n
  · have h2 : left - (n : Int) < 0 := by omega
    go_enter Try.func59, Try.ntmps59
    go_wp2
    go_ret
    exact ⟨-1, rfl, .inl (by omega), Below.refl _ _⟩
  · have h2 : ¬ left - (n : Int) < 0 := by omega
    go_enter Try.func59, Try.ntmps59
    go_wp2
    go_loopw [1, 5] (fun l i wr => ∃ (k : Nat) (L : Int), k ≤ n ∧ i = .int .i64 k ∧ 0 ≤ L ∧ L ≤ 1048576 ∧ l = .int .i64 L ∧ Hid (L + n + tot (ps.take k) = left) ∧ Below w.heap.size w wr) (fun _ i _ => n - (intOf i).toNat)
    case atStart => exact ⟨0, left - n, Nat.zero_le _, rfl, by omega, by omega, rfl, (by show _ = _; simp [tot]), Below.refl _ _⟩
    case round =>
      obtain ⟨k, L, hk, rfl, hL0, hL1, rfl, HE, hg⟩ := hrel
      by_cases hlt : k < n
      · obtain ⟨c1, da, dc, c2, r⟩ := HC.out k hlt
        have hltI : (k : Int) < (n : Int) := by omega
        have c1' := (hg.cell (p := ⟨b, o + k * 2, none⟩) hb).trans c1
        have c2' := (hg.cell (p := ⟨b, o + k * 2 + 1, none⟩) hb).trans c2
        have HG : Hid (Below w.heap.size w wr) := hg
        have hd2 : (pD ps k).length ≤ maxLen := by obtain ⟨_, _, _, h3, h4⟩ := r.len; omega
        have HTS : Hid (tot (ps.take (k + 1)) = tot (ps.take k) + (pD ps k).length) := tot_take_succ ps k (by rw [HP.out]; exact hlt)
        have sg := hg.size
        clear c1 c2 hg r
        go_wp2_with fail
        refine (szWrite_any _ _ _ _ _ L hd2 hL0 hL1).mono ?_
        rintro e w1 ⟨rfl, b1⟩
        have HG1 : Hid (Below w.heap.size w w1) := HG.out.trans (b1.mono sg)
        clear b1 c1' c2'
        by_cases hneg : L < (pD ps k).length
        · rw [if_pos hneg]
          go_wp2
          go_ret
          exact ⟨-1, rfl, .inl (by omega), HG1.out⟩
        · rw [if_neg hneg]
          have h3 : ¬ L - ((pD ps k).length : Int) < 0 := by omega
          go_wp2
          go_roundw
          case rel => exact ⟨k + 1, L - (pD ps k).length, by omega, by go_num, by omega, by omega, rfl, (by show _ = _; rw [HTS.out]; have := HE.out; omega), HG1.out⟩
          case measure => simp [intOf]; omega
      · have HG : Hid (Below w.heap.size w wr) := hg
        clear hg
        go_wp2
        go_ret
        exact ⟨L, rfl, .inr (by have := HE.out; rw [tot_all ps k (by rw [HP.out]; omega)] at this; exact this), HG.out⟩

set_option maxHeartbeats 400000 in
theorem szWriteS_nil (w : World) (ao : Option Addr) (cap : Nat) (left : Int) (h0 : 0 ≤ left) (h1 : left ≤ 1048576) :
    Calls Try.prog 59 #[.slice ao 0 cap, .int .i64 left] w fun e w' => e = .returned (.int .i64 left) ∧ w' = w := by
  have h2 : ¬ left < 0 := by omega
  go_enter Try.func59, Try.ntmps59
  go_wp2
  go_rounds 1
  go_ret
  exact ⟨by simp, rfl⟩

theorem szWriteS_any (w : World) (v : Value) (ps : List (Int × List Int)) (h : RdW w v ps) (left : Int) (h0 : 0 ≤ left) (h1 : left ≤ 1048576) :
    Calls Try.prog 59 #[v, .int .i64 left] w fun e w' => ∃ r : Int, e = .returned (.int .i64 r) ∧ (r < 0 ∨ r + ps.length + tot ps = left) ∧ Below w.heap.size w w' := by
  obtain ⟨ao, cap, rfl, k1, k2, k3⟩ := h
  rcases k3 with rfl | ⟨b, o, rfl, hb, hc⟩
  · refine (szWriteS_nil w ao cap left h0 h1).mono ?_
    rintro e w' ⟨rfl, rfl⟩
    exact ⟨left, rfl, .inr (by simp [tot]), Below.refl _ _⟩
  · exact szWriteS_row w b o ps.length cap ps rfl (by omega) hb hc left h0 h1

set_option maxHeartbeats 400000 in
theorem szDisk_any (w : World) (vd vp : Value) (dur : List Int) (ps : List (Int × List Int)) (hd : Rd .u8 w vd dur) (hp : RdW w vp ps) :
    Calls Try.prog 22 #[.agg #[vd, vp], .int .i64 1048576] w fun e w' => ∃ r : Int, e = .returned (.int .i64 r) ∧ (r < 0 ∨ r + dur.length + ps.length + tot ps = 1048576) ∧ Below w.heap.size w w' := by
  have B0 : Hid (Below w.heap.size w (w.alloc (.cells #[vd, vp] 46))) := (Below.refl _ _).alloc (Nat.le_refl _) _
  have RP : Hid (RdW (w.alloc (.cells #[vd, vp] 46)) vp ps) := hp.below B0.out
  obtain ⟨ao, cap, rfl, k1, k2⟩ := hd.len
  clear hp hd
  go_enter Try.func22, Try.ntmps22
  go_wp2_with fail
  refine (szByteS_any _ ao dur.length cap 1048576 (by omega) (by omega) (by omega)).mono ?_
  rintro e w1 ⟨rfl, hw⟩
  subst hw
  by_cases h : (1048576 : Int) < dur.length
  · rw [if_pos h]
    go_wp2
    go_ret
    exact ⟨-1, rfl, .inl (by omega), B0.out⟩
  · rw [if_neg h]
    have h2 : ¬ (1048576 : Int) - (dur.length : Int) < 0 := by omega
    go_wp2_with fail
    refine (szWriteS_any _ _ ps RP.out (1048576 - dur.length) (by omega) (by omega)).mono ?_
    rintro e w2 ⟨r, rfl, hr, b2⟩
    have B2 : Hid (Below w.heap.size w w2) := B0.out.trans (b2.mono (by simp))
    clear b2
    by_cases hneg : r < 0
    · go_wp2
      go_ret
      exact ⟨-1, rfl, .inl (by omega), B2.out⟩
    · have h3 : r + ps.length + tot ps = 1048576 - dur.length := by omega
      have H3 : Hid (r + dur.length + ps.length + tot ps = 1048576) := by show _ = _; omega
      clear hr h3
      go_wp2
      go_ret
      exact ⟨r, rfl, .inr H3.out, B2.out⟩

end Go.Proofs.Ytoljmlhnbmeloaa

namespace Go.Proofs.Ytoljmlhnbmeloaa
open Go.RowKit

/-! ### rows of records -/
def rowW (n : Nat) (f : Nat → Int) (g : Nat → Value) : List Value := (List.range n).flatMap fun i => [.int .i64 (f i), g i]

theorem rowW_succ (n : Nat) (f : Nat → Int) (g : Nat → Value) : rowW (n + 1) f g = rowW n f g ++ [.int .i64 (f n), g n] := by
  unfold rowW; rw [List.range_succ, List.flatMap_append]; simp
theorem rowW_length (n : Nat) (f : Nat → Int) (g : Nat → Value) : (rowW n f g).length = n * 2 := by
  induction n with
  | zero => rfl
  | succ n ih => rw [rowW_succ, List.length_append, ih]; simp; omega
theorem rowW_get (n : Nat) (f : Nat → Int) (g : Nat → Value) (j : Nat) (h : j < n * 2) : (rowW n f g)[j]? = some (if j % 2 = 0 then .int .i64 (f (j / 2)) else g (j / 2)) := by
  induction n with
  | zero => omega
  | succ n ih =>
    rw [rowW_succ]
    by_cases hj : j < n * 2
    · rw [List.getElem?_append_left (by rw [rowW_length]; exact hj), ih hj]
    · rw [List.getElem?_append_right (by rw [rowW_length]; omega), rowW_length]
      by_cases e : j = n * 2
      · subst e
        simp [show n * 2 % 2 = 0 by omega]
      · have e2 : j = n * 2 + 1 := by omega
        subst e2
        rw [if_neg (by omega), show n * 2 + 1 - n * 2 = 1 by omega, show (n * 2 + 1) / 2 = n by omega]
        rfl
theorem rowW_congr {n : Nat} {f f' : Nat → Int} {g g' : Nat → Value} (hf : ∀ i, i < n → f i = f' i) (hg : ∀ i, i < n → g i = g' i) : rowW n f g = rowW n f' g' := by
  unfold rowW
  rw [List.flatMap_def, List.flatMap_def]
  congr 1
  apply List.map_congr_left
  intro i hi
  have hi := List.mem_range.1 hi
  rw [hf i hi, hg i hi]
/-- Record k written. -/
theorem rowW_set {n : Nat} {f f' : Nat → Int} {g g' : Nat → Value} {k : Nat} (hk : k < n) (hf : ∀ i, i ≠ k → f i = f' i) (hg : ∀ i, i ≠ k → g i = g' i) :
    ((rowW n f g).set (k * 2) (.int .i64 (f' k))).set (k * 2 + 1) (g' k) = rowW n f' g' := by
  apply List.ext_getElem?
  intro j
  by_cases hj : j < n * 2
  · rw [List.getElem?_set, List.getElem?_set, rowW_get n f' g' j hj, rowW_get n f g j hj]
    simp only [List.length_set, rowW_length]
    by_cases e1 : k * 2 + 1 = j
    · rw [if_pos e1, if_pos (by omega), if_neg (by omega), show j / 2 = k by omega]
    · rw [if_neg e1]
      by_cases e2 : k * 2 = j
      · rw [if_pos e2, if_pos (by omega), if_pos (by omega), show j / 2 = k by omega]
      · rw [if_neg e2, hf _ (by omega), hg _ (by omega)]
  · rw [List.getElem?_eq_none (by simp [rowW_length]; omega), List.getElem?_eq_none (by rw [rowW_length]; omega)]

theorem rowW_zero (n : Nat) : (madeCells #[Value.int .i64 0, Value.slice none 0 0] (n * 2)).toList = rowW n (fun _ => 0) (fun _ => .slice none 0 0) := by
  apply List.ext_getElem?
  intro j
  by_cases hj : j < n * 2
  · rw [rowW_get _ _ _ _ hj]
    rcases Nat.mod_two_eq_zero_or_one j with e | e
    · simp [madeCells, hj, e]
    · simp [madeCells, hj, e]
  · simp [madeCells, hj, List.getElem?_eq_none (show (rowW n (fun _ => 0) (fun _ => Value.slice none 0 0)).length ≤ j by rw [rowW_length]; omega)]

def Ne2 (a b : Value) : Prop := a.ownBlock = none ∨ a.ownBlock ≠ b.ownBlock

/-- A slice of records that is the call's own, each list in a row of its own. -/
def OwnW (e : TypeId) (w : World) (lo : Nat) (v : Value) (ps : List (Int × List Int)) (dv : Nat → Value) : Prop :=
  w.ownsRow lo e 2 v ps.length (rowW ps.length (pB ps) dv) ∧ (∀ i, i < ps.length → Own .u8 5 w lo (dv i) (pD ps i)) ∧
  (∀ i j, i < ps.length → j < ps.length → i ≠ j → Ne2 (dv i) (dv j)) ∧ ∀ i, i < ps.length → Ne2 (dv i) v

theorem Own.slice {k : IntKind} {e : TypeId} {w : World} {lo : Nat} {v : Value} {xs : List Int} (h : Own k e w lo v xs) : ∃ a c, v = .slice a xs.length c := by
  obtain ⟨a, c, h0, _⟩ := h.rd.len
  exact ⟨a, c, h0⟩

theorem OwnW.rd {e : TypeId} {w : World} {lo : Nat} {v : Value} {ps : List (Int × List Int)} {dv : Nat → Value} (h : OwnW e w lo v ps dv) : RdW w v ps := by
  obtain ⟨ho, hd, _, _⟩ := h
  rcases ho.2 with ⟨rfl, h0⟩ | ⟨g, cap, cur, rfl, hb, hg, hn, hm, hs, ht⟩
  · have : ps = [] := List.eq_nil_of_length_eq_zero h0
    subst this
    exact ⟨none, 0, rfl, Nat.le_refl _, Nat.zero_le _, .inl rfl⟩
  · refine ⟨_, cap, rfl, hn, hm, .inr ⟨g, 0, rfl, (Array.getElem?_eq_some_iff.1 hg).1, fun i hi => ?_⟩⟩
    have c1 := World.ownsRow.cells ho (g := g) rfl (i * 2) _ (rowW_get _ _ _ _ (by omega))
    have c2 := World.ownsRow.cells ho (g := g) rfl (i * 2 + 1) _ (rowW_get _ _ _ _ (by omega))
    rw [Addr.add_lit] at c1 c2
    rw [if_pos (by omega), show i * 2 / 2 = i by omega] at c1
    rw [if_neg (by omega), show (i * 2 + 1) / 2 = i by omega] at c2
    obtain ⟨a, c, e⟩ := (hd i hi).slice
    refine ⟨c1, a, c, ?_, ?_⟩
    · rw [← e, Nat.add_assoc]; exact c2
    · rw [← e]; exact (hd i hi).rd

theorem OwnW.below {e : TypeId} {w w' : World} {lo : Nat} {v : Value} {ps : List (Int × List Int)} {dv : Nat → Value} (h : OwnW e w lo v ps dv) (hb : Below w.heap.size w w') : OwnW e w' lo v ps dv := by
  obtain ⟨ho, hd, h3, h4⟩ := h
  refine ⟨⟨ho.1, ?_⟩, fun i hi => (hd i hi).below hb, h3, h4⟩
  rcases ho.2 with hn | ⟨g, cap, cur, rfl, hbg, hgg, rest⟩
  · exact .inl hn
  · exact .inr ⟨g, cap, cur, rfl, hbg, by rw [hb.block g (Array.getElem?_eq_some_iff.1 hgg).1]; exact hgg, rest⟩

theorem OwnW.mono {e : TypeId} {w : World} {lo lo' : Nat} {v : Value} {ps : List (Int × List Int)} {dv : Nat → Value} (h : OwnW e w lo v ps dv) (hl : lo' ≤ lo) : OwnW e w lo' v ps dv := by
  obtain ⟨ho, hd, h3, h4⟩ := h
  refine ⟨⟨ho.1, ?_⟩, fun i hi => (hd i hi).mono hl, h3, h4⟩
  rcases ho.2 with hn | ⟨g, cap, cur, rfl, hbg, rest⟩
  · exact .inl hn
  · exact .inr ⟨g, cap, cur, rfl, by omega, rest⟩

theorem Own.setAt {k : IntKind} {e : TypeId} {w : World} {lo g j : Nat} {v u : Value} {xs : List Int} (h : Own k e w lo v xs) (hne : v.ownBlock = none ∨ v.ownBlock ≠ some g) : Own k e (w.setCell ⟨g, j, none⟩ u) lo v xs :=
  h.other (grownBy_set w w g j u (World.grownBy.refl _ _)) hne

/-! ### the copies that the laws make -/
set_option maxHeartbeats 400000 in
set_option maxRecDepth 100000 in
theorem toWrite_any (w : World) (x : Int) (vd : Value) (xs : List Int) (h : Rd .u8 w vd xs) (hn : xs.length ≤ 1099511627776) :
    Calls Try.prog 81 #[.agg #[.int .i64 x, vd]] w fun e w' => ∃ v', e = .returned (.agg #[.int .i64 x, v']) ∧ Own .u8 5 w' w.heap.size v' xs ∧ Below w.heap.size w w' := by
  obtain ⟨ao, cap, rfl, k1, k2⟩ := h.len
  have HB : Hid (∀ o1 o2 o3, Below w.heap.size w (((w.alloc o1).alloc o2).alloc o3)) := fun o1 o2 o3 => (((Below.refl _ _).alloc (Nat.le_refl _) _).alloc (by simp) _).alloc (by simp; omega) _
  have HR : Hid (Rd .u8 w (.slice ao xs.length cap) xs) := h
  clear h
  go_enter Try.func81, Try.ntmps81
  go_wp2_with fail
  refine (toByteS_any _ _ xs (HR.out.below (HB.out _ _ _)) hn).mono ?_
  rintro e w1 ⟨v1, rfl, o1, b1⟩
  obtain ⟨a1, c1, rfl⟩ := o1.slice
  have c20 : w1.cell? ⟨w.heap.size + 2, 0, none⟩ = some (.int .i64 x) := (b1.cell (p := ⟨w.heap.size + 2, 0, none⟩) (by simp)).trans (by go_simp)
  have c21 : w1.cell? ⟨w.heap.size + 2, 1, none⟩ = some (.slice none 0 0) := (b1.cell (p := ⟨w.heap.size + 2, 1, none⟩) (by simp)).trans (by go_simp)
  have f21 : w1.frozen? ⟨w.heap.size + 2, 1, none⟩ = false := (b1.frozen (p := ⟨w.heap.size + 2, 1, none⟩) (by simp)).trans (by go_simp)
  have c10 : w1.cell? ⟨w.heap.size + 1, 0, none⟩ = some (.int .i64 0) := (b1.cell (p := ⟨w.heap.size + 1, 0, none⟩) (by simp)).trans (by go_simp)
  have c11 : w1.cell? ⟨w.heap.size + 1, 1, none⟩ = some (.slice none 0 0) := (b1.cell (p := ⟨w.heap.size + 1, 1, none⟩) (by simp)).trans (by go_simp)
  have f10 : w1.frozen? ⟨w.heap.size + 1, 0, none⟩ = false := (b1.frozen (p := ⟨w.heap.size + 1, 0, none⟩) (by simp)).trans (by go_simp)
  have f11 : w1.frozen? ⟨w.heap.size + 1, 1, none⟩ = false := (b1.frozen (p := ⟨w.heap.size + 1, 1, none⟩) (by simp)).trans (by go_simp)
  have O1 : Hid (Own .u8 5 w1 (w.heap.size + 3) (.slice a1 xs.length c1) xs) := by have := o1; simp at this; exact this
  have z1 : w.heap.size + 3 ≤ w1.heap.size := by have := b1.size; simp at this; omega
  have B1 : Hid (Below w.heap.size w w1) := (HB.out _ _ _).trans (b1.mono (by simp; omega))
  clear o1 b1
  go_wp2
  refine bodyPost_ret (v := .agg #[.int .i64 x, .slice a1 xs.length c1]) (by simp [results, Try.results81, go_sem, c10, c11]) rfl ⟨_, rfl, ?_, ?_⟩
  · refine Own.mono ?_ (show w.heap.size ≤ w.heap.size + 3 by omega)
    repeat (first | exact O1.out | refine Own.setBelow ?_ (by simp; try omega) _)
  · repeat (first | exact B1.out | refine Below.setCell ?_ (by simp; try omega) _)

end Go.Proofs.Ytoljmlhnbmeloaa

namespace Go.Proofs.Ytoljmlhnbmeloaa
open Go.RowKit

theorem Try.infoW : (Try.prog.info? 42).map (fun i => (i.zero, i.size, i.bytes)) = some (some (.agg #[.int .i64 0, .slice none 0 0]), 2, 32) := by kernel_rfl

/-- Of the first k records. -/
def pBk (ps : List (Int × List Int)) (k i : Nat) : Int := if i < k then pB ps i else 0
def dvk (dv : Nat → Value) (k i : Nat) : Value := if i < k then dv i else .slice none 0 0
def dvSet (dv : Nat → Value) (k : Nat) (v : Value) (i : Nat) : Value := if i = k then v else dv i

theorem rowW_step {n k : Nat} (ps : List (Int × List Int)) (dv : Nat → Value) (v : Value) (hk : k < n) :
    ((rowW n (pBk ps k) (dvk dv k)).set (k * 2) (.int .i64 (pB ps k))).set (k * 2 + 1) v = rowW n (pBk ps (k + 1)) (dvk (dvSet dv k v) (k + 1)) := by
  have h := rowW_set (n := n) (f := pBk ps k) (f' := pBk ps (k + 1)) (g := dvk dv k) (g' := dvk (dvSet dv k v) (k + 1)) hk
    (by intro i hi; unfold pBk; by_cases h : i < k
        · rw [if_pos h, if_pos (by omega)]
        · rw [if_neg h, if_neg (by omega)])
    (by intro i hi; unfold dvk dvSet; by_cases h : i < k
        · rw [if_pos h, if_pos (by omega), if_neg hi]
        · rw [if_neg h, if_neg (by omega)])
  rw [show pBk ps (k + 1) k = pB ps k from if_pos (by omega), show dvk (dvSet dv k v) (k + 1) k = v by unfold dvk dvSet; rw [if_pos (by omega), if_pos rfl]] at h
  exact h

theorem toWriteS_step {w2 w : World} {n k B lo : Nat} (ps : List (Int × List Int)) (dv : Nat → Value) {v : Value} (hk : k < n)
    (ho : w2.ownsRow lo 42 2 (.slice (some ⟨lo, 0, none⟩) n n) n (rowW n (pBk ps k) (dvk dv k))) (hB : lo < B)
    (h1 : ∀ i, i < k → Own .u8 5 w2 (lo + 1) (dv i) (pD ps i)) (h2 : ∀ i j, i < k → j < k → i ≠ j → Ne2 (dv i) (dv j)) (h3 : ∀ i, i < k → ∀ g, (dv i).ownBlock = some g → g < B)
    (h4 : Own .u8 5 w2 B v (pD ps k)) (hb : Below lo w w2) :
    ((w2.setCell ⟨lo, k * 2, none⟩ (.int .i64 (pB ps k))).setCell ⟨lo, k * 2 + 1, none⟩ v).ownsRow lo 42 2 (.slice (some ⟨lo, 0, none⟩) n n) n (rowW n (pBk ps (k + 1)) (dvk (dvSet dv k v) (k + 1))) ∧
    ((∀ i, i < k + 1 → Own .u8 5 ((w2.setCell ⟨lo, k * 2, none⟩ (.int .i64 (pB ps k))).setCell ⟨lo, k * 2 + 1, none⟩ v) (lo + 1) (dvSet dv k v i) (pD ps i)) ∧
      (∀ i j, i < k + 1 → j < k + 1 → i ≠ j → Ne2 (dvSet dv k v i) (dvSet dv k v j))) ∧
    Below lo w ((w2.setCell ⟨lo, k * 2, none⟩ (.int .i64 (pB ps k))).setCell ⟨lo, k * 2 + 1, none⟩ v) := by
  have ne : ∀ {x : Value} {q : List Int}, Own .u8 5 w2 (lo + 1) x q → x.ownBlock = none ∨ x.ownBlock ≠ some lo := by
    intro x q h
    cases hv : x.ownBlock with
    | none => exact .inl rfl
    | some g => exact .inr (fun e => by have := (h.lt g hv).1; simp at e; omega)
  refine ⟨?_, ⟨fun i hi => ?_, fun i j hi hj hne => ?_⟩, (hb.setCell (Nat.le_refl _) _).setCell (Nat.le_refl _) _⟩
  · have s1 := (World.ownsRow.stored ho (k * 2) (.int .i64 (pB ps k))).1
    have s2 := (World.ownsRow.stored s1 (k * 2 + 1) v).1
    rw [rowW_step ps dv v hk] at s2
    exact s2
  · unfold dvSet
    by_cases e : i = k
    · subst e
      rw [if_pos rfl]
      have h5 := h4.mono (show lo + 1 ≤ B by omega)
      exact (h5.setAt (ne h5)).setAt (ne h5)
    · rw [if_neg e]
      have h5 := h1 i (by omega)
      exact (h5.setAt (ne h5)).setAt (ne h5)
  · unfold dvSet Ne2
    by_cases ei : i = k
    · rw [if_pos ei, if_neg (show ¬ j = k by omega)]
      cases hv : v.ownBlock with
      | none => exact .inl rfl
      | some g => exact .inr (fun e => by have a := (h4.lt g hv).1; have b := h3 j (by omega) g e.symm; omega)
    · rw [if_neg ei]
      by_cases ej : j = k
      · rw [if_pos ej]
        cases hv : (dv i).ownBlock with
        | none => exact .inl rfl
        | some g => exact .inr (fun e => by have a := (h4.lt g e.symm).1; have b := h3 i (by omega) g hv; omega)
      · rw [if_neg ej]
        exact h2 i j (by omega) (by omega) hne

set_option maxHeartbeats 800000 in
set_option maxRecDepth 100000 in
theorem toWriteS_row (w : World) (b o n cap : Nat) (ps : List (Int × List Int)) (hp : ps.length = n) (hb : b < w.heap.size)
    (hc : ∀ i, i < n → w.cell? ⟨b, o + i * 2, none⟩ = some (.int .i64 (pB ps i)) ∧ ∃ da c, w.cell? ⟨b, o + i * 2 + 1, none⟩ = some (.slice da (pD ps i).length c) ∧ Rd .u8 w (.slice da (pD ps i).length c) (pD ps i))
    (hn : n ≤ 1048576) (hd : ∀ i, (pD ps i).length ≤ 1048576) :
    Calls Try.prog 60 #[.slice (some ⟨b, o, none⟩) n cap] w fun e w' => ∃ v' dv, e = .returned v' ∧ OwnW 42 w' w.heap.size v' ps dv ∧ Below w.heap.size w w' := by
  obtain ⟨i0, hi, hz0, hz1, hz2⟩ := info_parts Try.infoW
  have HC : Hid (∀ i, i < n → w.cell? ⟨b, o + i * 2, none⟩ = some (.int .i64 (pB ps i)) ∧ ∃ da c, w.cell? ⟨b, o + i * 2 + 1, none⟩ = some (.slice da (pD ps i).length c) ∧ Rd .u8 w (.slice da (pD ps i).length c) (pD ps i)) := hc
  have HP : Hid (ps.length = n) := hp
  have HD : Hid (∀ i, (pD ps i).length ≤ 1048576) := hd
  clear hc hp hd
  go_enter Try.func60, Try.ntmps60
  go_wp2_with (at_make; go_must (refine wpList_make_full _ rfl _ _ 30 rfl w.heap.size 42 i0 (.agg #[.int .i64 0, .slice none 0 0]) 2 Try.underlying30 hi hz0 hz1 _ _ _ _ n rfl rfl rfl rfl ?b2 ?b3 ?b4 ?_))
  case b2 => rw [hz2]; omega
  case b3 => unfold maxLen; omega
  case b4 => exact Nat.le_refl _
  intro w1 hown hgrow
  have HO : Hid (w1.ownsRow w.heap.size 42 2 (.slice (some ⟨w.heap.size, 0, none⟩) n n) n (rowW n (pBk ps 0) (dvk (fun _ => .slice none 0 0) 0))) := by
    have e : rowW n (pBk ps 0) (dvk (fun _ => .slice none 0 0) 0) = rowW n (fun _ => 0) (fun _ => .slice none 0 0) := rowW_congr (fun _ _ => rfl) (fun _ _ => rfl)
    show World.ownsRow _ _ _ _ _ _ _
    rw [e, ← rowW_zero]
    exact hown
  have HG : Hid (Below w.heap.size w w1) := (Below.refl _ _).grown hgrow (Nat.le_refl _) (by simp)
  have z1 : w.heap.size < w1.heap.size := by have := (World.ownsRow.lt HO.out w.heap.size rfl).2; exact this
  clear hown hgrow hi hz0 hz1 hz2
  go_wp2
  go_loopw [4] (fun i wr => ∃ (k : Nat) (dv : Nat → Value), k ≤ n ∧ i = .int .i64 k ∧ wr.ownsRow w.heap.size 42 2 (.slice (some ⟨w.heap.size, 0, none⟩) n n) n (rowW n (pBk ps k) (dvk dv k)) ∧
      Hid ((∀ i, i < k → Own .u8 5 wr (w.heap.size + 1) (dv i) (pD ps i)) ∧ (∀ i j, i < k → j < k → i ≠ j → Ne2 (dv i) (dv j))) ∧ Below w.heap.size w wr) (fun i _ => n - (intOf i).toNat)
  case atStart => exact ⟨0, fun _ => .slice none 0 0, Nat.zero_le _, rfl, HO.out, ⟨fun i hi => by omega, fun i j hi => by omega⟩, HG.out⟩
  case round =>
    obtain ⟨k, dv, hk, rfl, ho, HI, hg⟩ := hrel
    by_cases hlt : k < n
    · obtain ⟨c1, da, dc, c2, r⟩ := HC.out k hlt
      have hltI : (k : Int) < (n : Int) := by omega
      have c1' := (hg.cell (p := ⟨b, o + k * 2, none⟩) hb).trans c1
      have c2' := (hg.cell (p := ⟨b, o + k * 2 + 1, none⟩) hb).trans c2
      have HR : Hid (Rd .u8 wr (.slice da (pD ps k).length dc) (pD ps k)) := r.below hg
      have HGr : Hid (Below w.heap.size w wr) := hg
      have HOr : Hid (wr.ownsRow w.heap.size 42 2 (.slice (some ⟨w.heap.size, 0, none⟩) n n) n (rowW n (pBk ps k) (dvk dv k))) := ho
      have zr : w.heap.size < wr.heap.size := (World.ownsRow.lt ho w.heap.size rfl).2
      clear c1 c2 r hg ho
      go_wp2_with fail
      refine (toWrite_any _ _ _ (pD ps k) HR.out (by have := HD.out k; omega)).mono ?_
      rintro e w2 ⟨v2, rfl, o2, b2⟩
      obtain ⟨a2, cc2, rfl⟩ := o2.slice
      have O2 : Hid (Own .u8 5 w2 wr.heap.size (.slice a2 (pD ps k).length cc2) (pD ps k)) := o2
      have HO2 : w2.ownsRow w.heap.size 42 2 (.slice (some ⟨w.heap.size, 0, none⟩) n n) n (rowW n (pBk ps k) (dvk dv k)) :=
        World.ownsRow.kept HOr.out (row := none) ⟨b2.os, b2.tape, b2.output, b2.size, fun k hk _ => b2.block k hk⟩ (.inr (by simp [Value.ownBlock]))
      have f0 := World.ownsRow.frozenAt HO2 (k * 2)
      have f1 := World.ownsRow.frozenAt HO2 (k * 2 + 1)
      have d0 := (World.ownsRow.cellAt HO2 (k * 2) (by omega)).trans (rowW_get n _ _ (k * 2) (by omega))
      have d1 := (World.ownsRow.cellAt HO2 (k * 2 + 1) (by omega)).trans (rowW_get n _ _ (k * 2 + 1) (by omega))
      obtain ⟨x0, d0⟩ : ∃ x, w2.cell? ⟨w.heap.size, k * 2, none⟩ = some x := ⟨_, d0⟩
      obtain ⟨x1, d1⟩ : ∃ x, w2.cell? ⟨w.heap.size, k * 2 + 1, none⟩ = some x := ⟨_, d1⟩
      have HO3 : Hid (w2.ownsRow w.heap.size 42 2 (.slice (some ⟨w.heap.size, 0, none⟩) n n) n (rowW n (pBk ps k) (dvk dv k))) := HO2
      have HI2 : Hid ((∀ i, i < k → Own .u8 5 w2 (w.heap.size + 1) (dv i) (pD ps i)) ∧ (∀ i, i < k → ∀ g, (dv i).ownBlock = some g → g < wr.heap.size)) :=
        ⟨fun i hi => (HI.out.1 i hi).below b2, fun i hi g hg => ((HI.out.1 i hi).lt g hg).2⟩
      have HG2 : Hid (Below w.heap.size w w2) := HGr.out.trans (b2.mono HGr.out.size)
      clear o2 b2 HO2 c1' c2' HOr
      have S : Hid (((w2.setCell ⟨w.heap.size, k * 2, none⟩ (.int .i64 (pB ps k))).setCell ⟨w.heap.size, k * 2 + 1, none⟩ (.slice a2 (pD ps k).length cc2)).ownsRow w.heap.size 42 2 (.slice (some ⟨w.heap.size, 0, none⟩) n n) n (rowW n (pBk ps (k + 1)) (dvk (dvSet dv k (.slice a2 (pD ps k).length cc2)) (k + 1))) ∧
          ((∀ i, i < k + 1 → Own .u8 5 ((w2.setCell ⟨w.heap.size, k * 2, none⟩ (.int .i64 (pB ps k))).setCell ⟨w.heap.size, k * 2 + 1, none⟩ (.slice a2 (pD ps k).length cc2)) (w.heap.size + 1) (dvSet dv k (.slice a2 (pD ps k).length cc2) i) (pD ps i)) ∧
            (∀ i j, i < k + 1 → j < k + 1 → i ≠ j → Ne2 (dvSet dv k (.slice a2 (pD ps k).length cc2) i) (dvSet dv k (.slice a2 (pD ps k).length cc2) j))) ∧
          Below w.heap.size w ((w2.setCell ⟨w.heap.size, k * 2, none⟩ (.int .i64 (pB ps k))).setCell ⟨w.heap.size, k * 2 + 1, none⟩ (.slice a2 (pD ps k).length cc2))) :=
        toWriteS_step ps dv hlt HO3.out (by omega) HI2.out.1 HI.out.2 HI2.out.2 O2.out HG2.out
      clear HO3 HI2 HI O2 HG2
      go_wp2
      go_roundw
      case rel => exact ⟨k + 1, dvSet dv k (.slice a2 (pD ps k).length cc2), by omega, by go_num, S.out.1, S.out.2.1, S.out.2.2⟩
      case measure => simp [intOf]; omega
    · have hkn : k = n := by omega
      subst hkn
      go_wp2
      go_ret
      refine ⟨_, dv, rfl, ⟨?_, fun i hi => (HI.out.1 i (by rw [HP.out] at hi; exact hi)).mono (by omega), fun i j hi hj hne => HI.out.2 i j (by rw [HP.out] at hi; exact hi) (by rw [HP.out] at hj; exact hj) hne, fun i hi => ?_⟩, hg⟩
      · rw [HP.out]
        have e : rowW k (pBk ps k) (dvk dv k) = rowW k (pB ps) dv := rowW_congr (fun i hi => if_pos hi) (fun i hi => if_pos hi)
        rw [← e]
        exact ho
      · have h1 := HI.out.1 i (by rw [HP.out] at hi; exact hi)
        unfold Ne2
        cases hv : (dv i).ownBlock with
        | none => exact .inl rfl
        | some q => exact .inr (fun e => by have := (h1.lt q hv).1; simp [Value.ownBlock] at e; omega)

set_option maxHeartbeats 400000 in
theorem toWriteS_nil (w : World) (ao : Option Addr) (cap : Nat) :
    Calls Try.prog 60 #[.slice ao 0 cap] w fun e w' => ∃ v' dv, e = .returned v' ∧ OwnW 42 w' w.heap.size v' [] dv ∧ Below w.heap.size w w' := by
  obtain ⟨i0, hi, hz0, hz1, hz2⟩ := info_parts Try.infoW
  go_enter Try.func60, Try.ntmps60
  go_wp2_with (at_make; go_must (refine wpList_make_full _ rfl _ _ 30 rfl w.heap.size 42 i0 (.agg #[.int .i64 0, .slice none 0 0]) 2 Try.underlying30 hi hz0 hz1 _ _ _ _ 0 rfl rfl rfl rfl ?b2 ?b3 ?b4 ?_))
  case b2 => rw [hz2]; omega
  case b3 => unfold maxLen; omega
  case b4 => exact Nat.le_refl _
  intro w1 hown hgrow
  have HO : Hid (w1.ownsRow w.heap.size 42 2 (.slice (some ⟨w.heap.size, 0, none⟩) 0 0) 0 []) := by
    have e := rowW_zero 0
    rw [Nat.zero_mul] at e
    rw [e] at hown
    exact hown
  have HG : Hid (Below w.heap.size w w1) := (Below.refl _ _).grown hgrow (Nat.le_refl _) (by simp)
  clear hown hgrow
  go_wp2
  go_rounds 1
  go_ret
  exact ⟨_, fun _ => .slice none 0 0, rfl, ⟨HO.out, fun i hi => absurd hi (Nat.not_lt_zero _), fun i j hi => absurd hi (Nat.not_lt_zero _), fun i hi => absurd hi (Nat.not_lt_zero _)⟩, HG.out⟩

theorem toWriteS_any (w : World) (v : Value) (ps : List (Int × List Int)) (h : RdW w v ps) (hn : ps.length ≤ 1048576) (hd : ∀ i, (pD ps i).length ≤ 1048576) :
    Calls Try.prog 60 #[v] w fun e w' => ∃ v' dv, e = .returned v' ∧ OwnW 42 w' w.heap.size v' ps dv ∧ Below w.heap.size w w' := by
  obtain ⟨ao, cap, rfl, k1, k2, k3⟩ := h
  rcases k3 with rfl | ⟨b, o, rfl, hb, hc⟩
  · exact toWriteS_nil w ao cap
  · exact toWriteS_row w b o ps.length cap ps rfl hb hc hn hd

theorem OwnW.slice {e : TypeId} {w : World} {lo : Nat} {v : Value} {ps : List (Int × List Int)} {dv : Nat → Value} (h : OwnW e w lo v ps dv) : ∃ a c, v = .slice a ps.length c := by
  obtain ⟨a, c, h0, _⟩ := h.rd.len
  exact ⟨a, c, h0⟩

theorem OwnW.setBelow {e : TypeId} {w : World} {lo : Nat} {v : Value} {ps : List (Int × List Int)} {dv : Nat → Value} (h : OwnW e w lo v ps dv) {a : Addr} (ha : a.block < lo) (u : Value) : OwnW e (w.setCell a u) lo v ps dv :=
  ⟨ownsRow_setCell_below h.1 ha u, fun i hi => (h.2.1 i hi).setBelow ha u, h.2.2⟩

set_option maxHeartbeats 800000 in
set_option maxRecDepth 100000 in
theorem toDisk_any (w : World) (vd vp : Value) (dur : List Int) (ps : List (Int × List Int)) (h : Rd .u8 w vd dur) (hp : RdW w vp ps) (hl : dur.length ≤ 1048576) (hn : ps.length ≤ 1048576) (hd : ∀ i, (pD ps i).length ≤ 1048576) :
    Calls Try.prog 23 #[.agg #[vd, vp]] w fun e w' => ∃ va ca vb cb dv mid, e = .returned (.agg #[.slice va dur.length ca, .slice vb ps.length cb]) ∧ Own .u8 5 w' w.heap.size (.slice va dur.length ca) dur ∧
      (∀ g, Value.ownBlock (.slice va dur.length ca) = some g → g < mid) ∧ OwnW 42 w' mid (.slice vb ps.length cb) ps dv ∧ w.heap.size ≤ mid ∧ Below w.heap.size w w' := by
  obtain ⟨ao, cap, rfl, k1, k2⟩ := h.len
  obtain ⟨bo, capb, rfl, k3, k4⟩ := hp.len
  have HB : Hid (∀ o1 o2 o3, Below w.heap.size w (((w.alloc o1).alloc o2).alloc o3)) := fun o1 o2 o3 => (((Below.refl _ _).alloc (Nat.le_refl _) _).alloc (by simp) _).alloc (by simp; omega) _
  have HR : Hid (Rd .u8 w (.slice ao dur.length cap) dur) := h
  have HP : Hid (RdW w (.slice bo ps.length capb) ps) := hp
  clear h hp
  go_enter Try.func23, Try.ntmps23
  go_wp2_with fail
  refine (toByteS_any _ _ dur (HR.out.below (HB.out _ _ _)) (by omega)).mono ?_
  rintro e w1 ⟨v1, rfl, o1, b1⟩
  obtain ⟨a1, c1, rfl⟩ := o1.slice
  have cA1 : w1.cell? ⟨w.heap.size, 1, none⟩ = some (.slice bo ps.length capb) := (b1.cell (p := ⟨w.heap.size, 1, none⟩) (by simp; omega)).trans (by go_simp)
  have cR0 : w1.cell? ⟨w.heap.size + 1, 0, none⟩ = some (.slice none 0 0) := (b1.cell (p := ⟨w.heap.size + 1, 0, none⟩) (by simp)).trans (by go_simp)
  have cR1 : w1.cell? ⟨w.heap.size + 1, 1, none⟩ = some (.slice none 0 0) := (b1.cell (p := ⟨w.heap.size + 1, 1, none⟩) (by simp)).trans (by go_simp)
  have fR0 : w1.frozen? ⟨w.heap.size + 1, 0, none⟩ = false := (b1.frozen (p := ⟨w.heap.size + 1, 0, none⟩) (by simp)).trans (by go_simp)
  have fR1 : w1.frozen? ⟨w.heap.size + 1, 1, none⟩ = false := (b1.frozen (p := ⟨w.heap.size + 1, 1, none⟩) (by simp)).trans (by go_simp)
  have cO0 : w1.cell? ⟨w.heap.size + 2, 0, none⟩ = some (.slice none 0 0) := (b1.cell (p := ⟨w.heap.size + 2, 0, none⟩) (by simp)).trans (by go_simp)
  have cO1 : w1.cell? ⟨w.heap.size + 2, 1, none⟩ = some (.slice none 0 0) := (b1.cell (p := ⟨w.heap.size + 2, 1, none⟩) (by simp)).trans (by go_simp)
  have fO0 : w1.frozen? ⟨w.heap.size + 2, 0, none⟩ = false := (b1.frozen (p := ⟨w.heap.size + 2, 0, none⟩) (by simp)).trans (by go_simp)
  have fO1 : w1.frozen? ⟨w.heap.size + 2, 1, none⟩ = false := (b1.frozen (p := ⟨w.heap.size + 2, 1, none⟩) (by simp)).trans (by go_simp)
  have O1 : Hid (Own .u8 5 w1 (w.heap.size + 3) (.slice a1 dur.length c1) dur) := by have := o1; simp at this; exact this
  have z1 : w.heap.size + 3 ≤ w1.heap.size := by have := b1.size; simp at this; omega
  have B1 : Hid (Below w.heap.size w w1) := (HB.out _ _ _).trans (b1.mono (by simp; omega))
  clear o1 b1
  go_wp2_with fail
  have BS : Hid (Below w.heap.size w (w1.setCell ⟨w.heap.size + 2, 0, none⟩ (.slice a1 dur.length c1))) := B1.out.setCell (by simp) _
  have OS : Hid (Own .u8 5 (w1.setCell ⟨w.heap.size + 2, 0, none⟩ (.slice a1 dur.length c1)) (w.heap.size + 3) (.slice a1 dur.length c1) dur) := O1.out.setBelow (by simp) _
  have zS : (w1.setCell ⟨w.heap.size + 2, 0, none⟩ (.slice a1 dur.length c1)).heap.size = w1.heap.size := by simp
  have sR0 : (w1.setCell ⟨w.heap.size + 2, 0, none⟩ (.slice a1 dur.length c1)).cell? ⟨w.heap.size + 1, 0, none⟩ = some (.slice none 0 0) := by go_simp
  have sR1 : (w1.setCell ⟨w.heap.size + 2, 0, none⟩ (.slice a1 dur.length c1)).cell? ⟨w.heap.size + 1, 1, none⟩ = some (.slice none 0 0) := by go_simp
  have sO0 : (w1.setCell ⟨w.heap.size + 2, 0, none⟩ (.slice a1 dur.length c1)).cell? ⟨w.heap.size + 2, 0, none⟩ = some (.slice a1 dur.length c1) := by go_simp
  have sO1 : (w1.setCell ⟨w.heap.size + 2, 0, none⟩ (.slice a1 dur.length c1)).cell? ⟨w.heap.size + 2, 1, none⟩ = some (.slice none 0 0) := by go_simp
  have gR0 : (w1.setCell ⟨w.heap.size + 2, 0, none⟩ (.slice a1 dur.length c1)).frozen? ⟨w.heap.size + 1, 0, none⟩ = false := by go_simp
  have gR1 : (w1.setCell ⟨w.heap.size + 2, 0, none⟩ (.slice a1 dur.length c1)).frozen? ⟨w.heap.size + 1, 1, none⟩ = false := by go_simp
  have gO1 : (w1.setCell ⟨w.heap.size + 2, 0, none⟩ (.slice a1 dur.length c1)).frozen? ⟨w.heap.size + 2, 1, none⟩ = false := by go_simp
  generalize w1.setCell ⟨w.heap.size + 2, 0, none⟩ (.slice a1 dur.length c1) = ws at *
  refine (toWriteS_any _ _ ps (HP.out.below BS.out) hn hd).mono ?_
  rintro e w2 ⟨v2, dv, rfl, o2, b2⟩
  obtain ⟨a2, c2, rfl⟩ := o2.slice
  have z2 := b2.size
  have tR0 := (b2.cell (p := ⟨w.heap.size + 1, 0, none⟩) (by simp; omega)).trans sR0
  have tR1 := (b2.cell (p := ⟨w.heap.size + 1, 1, none⟩) (by simp; omega)).trans sR1
  have tO0 := (b2.cell (p := ⟨w.heap.size + 2, 0, none⟩) (by simp; omega)).trans sO0
  have tO1 := (b2.cell (p := ⟨w.heap.size + 2, 1, none⟩) (by simp; omega)).trans sO1
  have hR0 := (b2.frozen (p := ⟨w.heap.size + 1, 0, none⟩) (by simp; omega)).trans gR0
  have hR1 := (b2.frozen (p := ⟨w.heap.size + 1, 1, none⟩) (by simp; omega)).trans gR1
  have hO1 := (b2.frozen (p := ⟨w.heap.size + 2, 1, none⟩) (by simp; omega)).trans gO1
  have OD : Hid (Own .u8 5 w2 (w.heap.size + 3) (.slice a1 dur.length c1) dur) := OS.out.below b2
  have LT : Hid (∀ g, Value.ownBlock (.slice a1 dur.length c1) = some g → g < ws.heap.size) := fun g hg => (OS.out.lt g hg).2
  have OP : Hid (OwnW 42 w2 ws.heap.size (.slice a2 ps.length c2) ps dv) := o2
  have B2 : Hid (Below w.heap.size w w2) := BS.out.trans (b2.mono BS.out.size)
  clear o2 b2 sR0 sR1 sO0 sO1 gR0 gR1 gO1 cA1 cR0 cR1 fR0 fR1 cO0 cO1 fO0 fO1 OS O1 BS
  go_wp2
  refine bodyPost_ret (v := .agg #[.slice a1 dur.length c1, .slice a2 ps.length c2]) (by simp [results, Try.results23, go_sem, tR0, tR1]) rfl ⟨a1, c1, a2, c2, dv, ws.heap.size, rfl, ?_, LT.out, ?_, by omega, ?_⟩
  · refine Own.mono ?_ (show w.heap.size ≤ w.heap.size + 3 by omega)
    repeat (first | exact OD.out | refine Own.setBelow ?_ (by simp; try omega) _)
  · repeat (first | exact OP.out | refine OwnW.setBelow ?_ (by simp; omega) _)
  · repeat (first | exact B2.out | refine Below.setCell ?_ (by simp; try omega) _)

end Go.Proofs.Ytoljmlhnbmeloaa

namespace Go.Proofs.Ytoljmlhnbmeloaa
open Go.RowKit

/-- Record i is one of the disk. -/
def okP (n : Nat) (ps : List (Int × List Int)) (i : Nat) : Prop := 0 ≤ pB ps i ∧ pB ps i < n ∧ (pD ps i).length = 64
def vldP (dl : Nat) (ps : List (Int × List Int)) : Prop := dl % 64 = 0 ∧ 1 ≤ dl / 64 ∧ dl / 64 ≤ 300 ∧ ps.length ≤ 2000 ∧ ∀ i, i < ps.length → okP (dl / 64) ps i
def okBk (n : Nat) (ps : List (Int × List Int)) (i : Nat) : Bool := decide (0 ≤ pB ps i) && decide (pB ps i < n) && decide ((pD ps i).length = 64)
theorem okBk_iff (n : Nat) (ps : List (Int × List Int)) (i : Nat) : okBk n ps i = true ↔ okP n ps i := by unfold okBk okP; simp [and_assoc]
def vldD (dl : Nat) (ps : List (Int × List Int)) : Bool := decide (dl % 64 = 0) && decide (1 ≤ dl / 64) && decide (dl / 64 ≤ 300) && decide (ps.length ≤ 2000) && (List.range ps.length).all (okBk (dl / 64) ps)
theorem vldD_iff (dl : Nat) (ps : List (Int × List Int)) : vldD dl ps = true ↔ vldP dl ps := by
  unfold vldD vldP
  simp only [Bool.and_eq_true, decide_eq_true_eq, List.all_eq_true, List.mem_range, okBk_iff, and_assoc]
theorem vldD_yes {dl : Nat} {ps : List (Int × List Int)} (h : vldP dl ps) : vldD dl ps = true := (vldD_iff dl ps).2 h
theorem vldD_no {dl : Nat} {ps : List (Int × List Int)} (h : ¬ vldP dl ps) : vldD dl ps = false := by
  cases e : vldD dl ps with
  | false => rfl
  | true => exact absurd ((vldD_iff dl ps).1 e) h

set_option maxHeartbeats 400000 in
theorem l1Blocks_any (w : World) (ao : Option Addr) (n cap : Nat) (vp : Value) (hn : n ≤ 1048576) :
    Calls Try.prog 41 #[.agg #[.slice ao n cap, vp]] w fun e w' => e = .returned (.int .i64 ((n / 64 : Nat) : Int)) ∧ Below w.heap.size w w' := by
  go_enter Try.func41, Try.ntmps41
  go_wp2
  go_ret
  exact ⟨ret_int (by omega), (Below.refl _ _).alloc (Nat.le_refl _) _⟩

set_option maxHeartbeats 400000 in
theorem blockCount_any (w : World) (ao : Option Addr) (n cap : Nat) (vp : Value) (hn : n ≤ 1048576) :
    Calls Try.prog 76 #[.agg #[.slice ao n cap, vp]] w fun e w' => e = .returned (.int .i64 ((n / 64 : Nat) : Int)) ∧ Below w.heap.size w w' := by
  go_enter Try.func76, Try.ntmps76
  go_wp2
  go_ret
  exact ⟨ret_int (by omega), (Below.refl _ _).alloc (Nat.le_refl _) _⟩

set_option maxHeartbeats 400000 in
theorem hasBlock_any (w : World) (ao : Option Addr) (n cap : Nat) (vp : Value) (x : Int) (hn : n ≤ 1048576) :
    Calls Try.prog 44 #[.agg #[.slice ao n cap, vp], .int .i64 x] w fun e w' => e = .returned (.bool (decide (0 ≤ x ∧ x < (n / 64 : Nat)))) ∧ Below w.heap.size w w' := by
  have B0 : Hid (Below w.heap.size w (w.alloc (.cells #[.slice ao n cap, vp] 32))) := (Below.refl _ _).alloc (Nat.le_refl _) _
  by_cases h0 : 0 ≤ x
  · go_enter Try.func44, Try.ntmps44
    go_wp2_with fail
    refine (blockCount_any _ ao n cap vp hn).mono ?_
    rintro e w1 ⟨rfl, b1⟩
    have B1 : Hid (Below w.heap.size w w1) := B0.out.trans (b1.mono (by simp))
    clear b1
    generalize hm : n / 64 = m at *
    have HM : Hid (n / 64 = m) := hm
    clear hm
    by_cases h1 : x < (m : Int)
    · go_wp2
      go_ret
      exact ⟨ret_bool (by have := HM.out; symm; rw [decide_eq_true_eq]; omega), B1.out⟩
    · go_wp2
      go_ret
      exact ⟨ret_bool (by have := HM.out; symm; rw [decide_eq_decide]; omega), B1.out⟩
  · have hd : decide (0 ≤ x) = false := by simpa using h0
    go_enter Try.func44, Try.ntmps44
    go_wp2
    go_ret
    exact ⟨ret_bool (by symm; first | rfl | (rw [decide_eq_false_iff_not]; omega)), B0.out⟩

/-- The cells of a slice of records. -/
def CellsW (w : World) (b o n : Nat) (ps : List (Int × List Int)) : Prop :=
  ∀ i, i < n → w.cell? ⟨b, o + i * 2, none⟩ = some (.int .i64 (pB ps i)) ∧ ∃ da c, w.cell? ⟨b, o + i * 2 + 1, none⟩ = some (.slice da (pD ps i).length c)

theorem RdW.cells {w : World} {ao : Option Addr} {n cap : Nat} {ps : List (Int × List Int)} (h : RdW w (.slice ao n cap) ps) (hn : 0 < n) : ∃ b o, ao = some ⟨b, o, none⟩ ∧ b < w.heap.size ∧ CellsW w b o n ps ∧ ps.length = n := by
  obtain ⟨ao', cap', e, h1, h2, h3⟩ := h
  simp only [Value.slice.injEq] at e
  obtain ⟨rfl, rfl, rfl⟩ := e
  rcases h3 with rfl | ⟨b, o, rfl, hb, hc⟩
  · simp at hn
  · exact ⟨b, o, rfl, hb, fun i hi => ⟨(hc i hi).1, by obtain ⟨da, c, h, _⟩ := (hc i hi).2; exact ⟨da, c, h⟩⟩, rfl⟩

theorem CellsW.below {w w' : World} {b o n : Nat} {ps : List (Int × List Int)} (h : CellsW w b o n ps) (hb : b < w.heap.size) (hB : Below w.heap.size w w') : CellsW w' b o n ps :=
  fun i hi => ⟨(hB.cell (p := ⟨b, _, none⟩) hb).trans (h i hi).1, by obtain ⟨da, c, e⟩ := (h i hi).2; exact ⟨da, c, (hB.cell (p := ⟨b, _, none⟩) hb).trans e⟩⟩

set_option maxHeartbeats 1000000 in
set_option maxRecDepth 100000 in
theorem specValid_loop (w : World) (va vb : Option Addr) (dl ca n cb : Nat) (ps : List (Int × List Int)) (hp : RdW w (.slice vb n cb) ps) (hl : ps.length = n) (hd : dl ≤ 1048576)
    (h1 : dl % 64 = 0) (h2 : 1 ≤ dl / 64) (h3 : dl / 64 ≤ 300) (h4 : n ≤ 2000) (hdl : ∀ i, (pD ps i).length ≤ 1048576) :
    Calls Try.prog 47 #[.agg #[.slice va dl ca, .slice vb n cb]] w fun e w' => e = .returned (.bool (vldD dl ps)) ∧ Below w.heap.size w w' := by
  have B0 : Hid (Below w.heap.size w (w.alloc (.cells #[.slice va dl ca, .slice vb n cb] 32))) := (Below.refl _ _).alloc (Nat.le_refl _) _
  have HP : Hid (RdW w (.slice vb n cb) ps) := hp
  have HL : Hid (ps.length = n) := hl
  have HDL : Hid (∀ i, (pD ps i).length ≤ 1048576) := hdl
  clear hp hl hdl
  go_enter Try.func47, Try.ntmps47
  go_wp2_with fail
  refine (l1Blocks_any _ va dl ca _ hd).mono ?_
  rintro e w1 ⟨rfl, b1⟩
  obtain ⟨c0, c1, _, _, z1⟩ := box2_later b1
  have B1 : Hid (Below w.heap.size w w1) := B0.out.trans (b1.mono (by simp))
  have t1 : (((dl : Int) % 64) != 0) = false := by rw [bne_eq_false_iff_eq]; omega
  have H1 : Hid (dl % 64 = 0) := h1
  clear b1 h1
  generalize hm : dl / 64 = m at *
  have HM : Hid (dl / 64 = m) := hm
  have t2 : ¬ (m : Int) < 1 := by omega
  have t3 : ¬ (300 : Int) < (m : Int) := by omega
  have t4 : ¬ (2000 : Int) < (n : Int) := by omega
  clear hm
  go_wp2
  go_loop [4] (fun i => ∃ k : Nat, k ≤ n ∧ i = .int .i64 k ∧ Hid (∀ i, i < k → okP m ps i)) (fun i => n - (intOf i).toNat)
  case atStart => exact ⟨0, Nat.zero_le _, rfl, fun i hi => by omega⟩
  case round =>
    obtain ⟨k, hk, rfl, HOK⟩ := hrel
    by_cases hlt : k < n
    · obtain ⟨b, o, rfl, hb, hc, _⟩ := HP.out.cells (by omega)
      obtain ⟨e1, da, dc, e2⟩ := (hc.below hb B1.out) k hlt
      have hltI : (k : Int) < (n : Int) := by omega
      have hdk := HDL.out k
      by_cases hok : okP m ps k
      · have HK : Hid (okP m ps k) := hok
        obtain ⟨q1, q2, q3⟩ := hok
        have q4 : (((pD ps k).length : Int) != 64) = false := by rw [bne_eq_false_iff_eq]; omega
        have q5 : ¬ pB ps k < 0 := by omega
        have q6 : ¬ (m : Int) ≤ pB ps k := by omega
        clear q1 q2 q3 hc
        go_wp2
        go_round
        case rel => exact ⟨k + 1, by omega, by go_num, fun i hi => by by_cases e : i = k; (subst e; exact HK.out); exact HOK.out i (by omega)⟩
        case measure => simp [intOf]; omega
      · have HN : Hid (vldD dl ps = false) := vldD_no (by rintro ⟨_, _, _, _, h5⟩; rw [HM.out] at h5; exact hok (h5 k (by rw [HL.out]; exact hlt)))
        clear hc
        by_cases q1 : pB ps k < 0
        · go_wp2
          go_ret
          exact ⟨ret_bool HN.out.symm, B1.out⟩
        · by_cases q2 : (m : Int) ≤ pB ps k
          · go_wp2
            go_ret
            exact ⟨ret_bool HN.out.symm, B1.out⟩
          · have q3 : (((pD ps k).length : Int) != 64) = true := by rw [bne_iff_ne]; intro e; exact hok ⟨by omega, by omega, by omega⟩
            clear hok
            go_wp2
            go_ret
            exact ⟨ret_bool HN.out.symm, B1.out⟩
    · have HY : Hid (vldD dl ps = true) := vldD_yes ⟨H1.out, by rw [HM.out]; omega, by rw [HM.out]; omega, by rw [HL.out]; omega, fun i hi => by rw [HM.out]; exact HOK.out i (by rw [HL.out] at hi; omega)⟩
      have hltI : ¬ (k : Int) < (n : Int) := by omega
      go_wp2
      go_ret
      exact ⟨ret_bool HY.out.symm, B1.out⟩

set_option maxHeartbeats 1000000 in
set_option maxRecDepth 100000 in
theorem specValid_head (w : World) (va vb : Option Addr) (dl ca n cb : Nat) (hd : dl ≤ 1048576) (hn : n ≤ 1048576) (h : ¬ (dl % 64 = 0 ∧ 1 ≤ dl / 64 ∧ dl / 64 ≤ 300 ∧ n ≤ 2000)) :
    Calls Try.prog 47 #[.agg #[.slice va dl ca, .slice vb n cb]] w fun e w' => e = .returned (.bool false) ∧ Below w.heap.size w w' := by
  have B0 : Hid (Below w.heap.size w (w.alloc (.cells #[.slice va dl ca, .slice vb n cb] 32))) := (Below.refl _ _).alloc (Nat.le_refl _) _
  go_enter Try.func47, Try.ntmps47
  go_wp2_with fail
  refine (l1Blocks_any _ va dl ca _ hd).mono ?_
  rintro e w1 ⟨rfl, b1⟩
  obtain ⟨c0, c1, _, _, z1⟩ := box2_later b1
  have B1 : Hid (Below w.heap.size w w1) := B0.out.trans (b1.mono (by simp))
  clear b1
  by_cases h1 : dl % 64 = 0
  · have t1 : (((dl : Int) % 64) != 0) = false := by rw [bne_eq_false_iff_eq]; omega
    generalize dl / 64 = m at *
    have H1 : Hid (dl % 64 = 0) := h1
    clear h1
    by_cases h2 : (m : Int) < 1
    · go_wp2
      go_ret
      exact ⟨rfl, B1.out⟩
    · by_cases h3 : (300 : Int) < (m : Int)
      · go_wp2
        go_ret
        exact ⟨rfl, B1.out⟩
      · have h4 : (2000 : Int) < (n : Int) := by have := H1.out; omega
        clear h
        go_wp2
        go_ret
        exact ⟨rfl, B1.out⟩
  · have t1 : (((dl : Int) % 64) != 0) = true := by rw [bne_iff_ne]; omega
    generalize dl / 64 = m at *
    clear h1 h
    go_wp2
    go_ret
    exact ⟨rfl, B1.out⟩

theorem specValid_any (w : World) (va vb : Option Addr) (dl ca n cb : Nat) (ps : List (Int × List Int)) (hp : RdW w (.slice vb n cb) ps) (hl : ps.length = n) (hd : dl ≤ 1048576) (hn : n ≤ 1048576) (hdl : ∀ i, (pD ps i).length ≤ 1048576) :
    Calls Try.prog 47 #[.agg #[.slice va dl ca, .slice vb n cb]] w fun e w' => e = .returned (.bool (vldD dl ps)) ∧ Below w.heap.size w w' := by
  by_cases h : dl % 64 = 0 ∧ 1 ≤ dl / 64 ∧ dl / 64 ≤ 300 ∧ n ≤ 2000
  · exact specValid_loop w va vb dl ca n cb ps hp hl hd h.1 h.2.1 h.2.2.1 h.2.2.2 hdl
  · rw [vldD_no (fun h5 => h ⟨h5.1, h5.2.1, h5.2.2.1, by have := h5.2.2.2.1; omega⟩)]
    exact specValid_head w va vb dl ca n cb hd hn h

set_option maxHeartbeats 1000000 in
set_option maxRecDepth 100000 in
theorem implValid_head (w : World) (va vb : Option Addr) (dl ca n cb : Nat) (hd : dl ≤ 1048576) (hn : n ≤ 1048576) (h : ¬ (dl % 64 = 0 ∧ 1 ≤ dl / 64 ∧ dl / 64 ≤ 300 ∧ n ≤ 2000)) :
    Calls Try.prog 43 #[.agg #[.slice va dl ca, .slice vb n cb]] w fun e w' => e = .returned (.bool false) ∧ Below w.heap.size w w' := by
  have B0 : Hid (Below w.heap.size w (w.alloc (.cells #[.slice va dl ca, .slice vb n cb] 32))) := (Below.refl _ _).alloc (Nat.le_refl _) _
  by_cases h1 : dl % 64 = 0
  · have t1 : (((dl : Int) % 64) != 0) = false := by rw [bne_eq_false_iff_eq]; omega
    have HX : Hid (¬ (dl % 64 = 0 ∧ 1 ≤ dl / 64 ∧ dl / 64 ≤ 300 ∧ n ≤ 2000)) := h
    have H1 : Hid (dl % 64 = 0) := h1
    clear h h1
    go_enter Try.func43, Try.ntmps43
    go_wp2_with fail
    refine (blockCount_any _ va dl ca _ hd).mono ?_
    rintro e w1 ⟨rfl, b1⟩
    obtain ⟨c0, c1, _, _, z1⟩ := box2_later b1
    have B1 : Hid (Below w.heap.size w w1) := B0.out.trans (b1.mono (by simp))
    have h := HX.out
    have h1 := H1.out
    clear b1
    generalize dl / 64 = m at *
    by_cases h2 : (m : Int) < 1
    · clear h h1
      go_wp2
      go_ret
      exact ⟨rfl, B1.out⟩
    · by_cases h3 : (300 : Int) < (m : Int)
      · clear h h1
        go_wp2
        go_ret
        exact ⟨rfl, B1.out⟩
      · have h4 : (2000 : Int) < (n : Int) := by omega
        clear h h1
        go_wp2
        go_ret
        exact ⟨rfl, B1.out⟩
  · have t1 : (((dl : Int) % 64) != 0) = true := by rw [bne_iff_ne]; omega
    clear h1 h
    go_enter Try.func43, Try.ntmps43
    go_wp2
    go_ret
    exact ⟨rfl, B0.out⟩

set_option maxHeartbeats 1000000 in
set_option maxRecDepth 100000 in
theorem implValid_loop (w : World) (va vb : Option Addr) (dl ca n cb : Nat) (ps : List (Int × List Int)) (hp : RdW w (.slice vb n cb) ps) (hl : ps.length = n) (hd : dl ≤ 1048576)
    (h1 : dl % 64 = 0) (h2 : 1 ≤ dl / 64) (h3 : dl / 64 ≤ 300) (h4 : n ≤ 2000) (hdl : ∀ i, (pD ps i).length ≤ 1048576) :
    Calls Try.prog 43 #[.agg #[.slice va dl ca, .slice vb n cb]] w fun e w' => e = .returned (.bool (vldD dl ps)) ∧ Below w.heap.size w w' := by
  have B0 : Hid (Below w.heap.size w (w.alloc (.cells #[.slice va dl ca, .slice vb n cb] 32))) := (Below.refl _ _).alloc (Nat.le_refl _) _
  have HP : Hid (RdW w (.slice vb n cb) ps) := hp
  have HL : Hid (ps.length = n) := hl
  have HDL : Hid (∀ i, (pD ps i).length ≤ 1048576) := hdl
  have H1 : Hid (dl % 64 = 0) := h1
  have H2 : Hid (1 ≤ dl / 64 ∧ dl / 64 ≤ 300) := ⟨h2, h3⟩
  have t1 : (((dl : Int) % 64) != 0) = false := by rw [bne_eq_false_iff_eq]; omega
  clear hp hl hdl h1 h2 h3
  go_enter Try.func43, Try.ntmps43
  go_wp2_with fail
  refine (blockCount_any _ va dl ca _ hd).mono ?_
  rintro e w1 ⟨rfl, b1⟩
  have X1 : Hid (Box2 w1 w.heap.size (.slice va dl ca) (.slice vb n cb)) := (Box2.new w _ _ _).below b1
  have B1 : Hid (Below w.heap.size w w1) := B0.out.trans (b1.mono (by simp))
  clear b1
  have h2 := H2.out
  generalize hm : dl / 64 = m at *
  have HM : Hid (dl / 64 = m) := hm
  have t2 : ¬ (m : Int) < 1 := by omega
  have t3 : ¬ (300 : Int) < (m : Int) := by omega
  have t4 : ¬ (2000 : Int) < (n : Int) := by omega
  clear hm h2
  obtain ⟨z1, c0, c1⟩ := X1.out
  go_wp2
  clear c0 c1 z1
  go_loopw [28] (fun i wr => ∃ k : Nat, k ≤ n ∧ i = .int .i64 k ∧ Hid (∀ i, i < k → okP m ps i) ∧ Hid (Box2 wr w.heap.size (.slice va dl ca) (.slice vb n cb)) ∧ Below w.heap.size w wr) (fun i _ => n - (intOf i).toNat)
  case atStart => exact ⟨0, Nat.zero_le _, rfl, fun i hi => by omega, X1, B1.out⟩
  case round =>
    clear X1 B1
    obtain ⟨k, hk, rfl, HOK, HX, hg⟩ := hrel
    by_cases hlt : k < n
    · obtain ⟨b, o, rfl, hb, hc, _⟩ := HP.out.cells (by omega)
      obtain ⟨e1, da, dc, e2⟩ := (hc.below hb hg) k hlt
      have hltI : (k : Int) < (n : Int) := by omega
      have hdk := HDL.out k
      obtain ⟨z1, c0, c1⟩ := HX.out
      have HG : Hid (Below w.heap.size w wr) := hg
      clear hg hc
      go_wp2_with fail
      have BA : Hid (Below w.heap.size w (wr.alloc (.cells #[.int .i64 (pB ps k), .slice da (pD ps k).length dc] 42))) := HG.out.alloc HG.out.size _
      have XA : Hid (Box2 (wr.alloc (.cells #[.int .i64 (pB ps k), .slice da (pD ps k).length dc] 42)) w.heap.size (.slice va dl ca) (.slice (some ⟨b, o, none⟩) n cb)) := HX.out.below ((Below.refl _ _).alloc (Nat.le_refl _) _)
      have XB : Hid (Box2 (wr.alloc (.cells #[.int .i64 (pB ps k), .slice da (pD ps k).length dc] 42)) wr.heap.size (.int .i64 (pB ps k)) (.slice da (pD ps k).length dc)) := Box2.new _ _ _ _
      generalize wr.alloc (.cells #[.int .i64 (pB ps k), .slice da (pD ps k).length dc] 42) = wa at *
      refine (hasBlock_any _ va dl ca _ (pB ps k) hd).mono ?_
      rintro e w2 ⟨rfl, b2⟩
      rw [HM.out]
      have X2 : Hid (Box2 w2 w.heap.size (.slice va dl ca) (.slice (some ⟨b, o, none⟩) n cb)) := XA.out.below b2
      have XC : Hid (Box2 w2 wr.heap.size (.int .i64 (pB ps k)) (.slice da (pD ps k).length dc)) := XB.out.below b2
      have B2 : Hid (Below w.heap.size w w2) := BA.out.trans (b2.mono BA.out.size)
      obtain ⟨_, d0, d1⟩ := XC.out
      clear b2 c0 c1 z1 e1 e2 HX
      by_cases hok : okP m ps k
      · have HK : Hid (okP m ps k) := hok
        obtain ⟨q1, q2, q3⟩ := hok
        have q4 : (((pD ps k).length : Int) != 64) = false := by rw [bne_eq_false_iff_eq]; omega
        rw [show decide (0 ≤ pB ps k ∧ pB ps k < (m : Int)) = true by rw [decide_eq_true_eq]; omega]
        clear q1 q2 q3
        go_wp2
        go_roundw
        case rel => exact ⟨k + 1, by omega, by go_num, (fun i hi => by by_cases e : i = k; (subst e; exact HK.out); exact HOK.out i (by omega)), X2, B2.out⟩
        case measure => simp [intOf]; omega
      · have HN : Hid (vldD dl ps = false) := vldD_no (by rintro ⟨_, _, _, _, h5⟩; rw [HM.out] at h5; exact hok (h5 k (by rw [HL.out]; exact hlt)))
        by_cases q1 : 0 ≤ pB ps k ∧ pB ps k < (m : Int)
        · rw [show decide (0 ≤ pB ps k ∧ pB ps k < (m : Int)) = true by rw [decide_eq_true_eq]; exact q1]
          have q3 : (((pD ps k).length : Int) != 64) = true := by rw [bne_iff_ne]; intro e; exact hok ⟨q1.1, q1.2, by omega⟩
          clear hok q1
          go_wp2
          go_ret
          exact ⟨ret_bool HN.out.symm, B2.out⟩
        · rw [show decide (0 ≤ pB ps k ∧ pB ps k < (m : Int)) = false by rw [decide_eq_false_iff_not]; exact q1]
          clear hok q1
          go_wp2
          go_ret
          exact ⟨ret_bool HN.out.symm, B2.out⟩
    · have HY : Hid (vldD dl ps = true) := vldD_yes ⟨H1.out, by rw [HM.out]; exact H2.out.1, by rw [HM.out]; exact H2.out.2, by rw [HL.out]; omega, fun i hi => by rw [HM.out]; exact HOK.out i (by rw [HL.out] at hi; omega)⟩
      have hltI : ¬ (k : Int) < (n : Int) := by omega
      have HG : Hid (Below w.heap.size w wr) := hg
      clear hg
      go_wp2
      go_ret
      exact ⟨ret_bool HY.out.symm, HG.out⟩

theorem implValid_any (w : World) (va vb : Option Addr) (dl ca n cb : Nat) (ps : List (Int × List Int)) (hp : RdW w (.slice vb n cb) ps) (hl : ps.length = n) (hd : dl ≤ 1048576) (hn : n ≤ 1048576) (hdl : ∀ i, (pD ps i).length ≤ 1048576) :
    Calls Try.prog 43 #[.agg #[.slice va dl ca, .slice vb n cb]] w fun e w' => e = .returned (.bool (vldD dl ps)) ∧ Below w.heap.size w w' := by
  by_cases h : dl % 64 = 0 ∧ 1 ≤ dl / 64 ∧ dl / 64 ≤ 300 ∧ n ≤ 2000
  · exact implValid_loop w va vb dl ca n cb ps hp hl hd h.1 h.2.1 h.2.2.1 h.2.2.2 hdl
  · rw [vldD_no (fun h5 => h ⟨h5.1, h5.2.1, h5.2.2.1, by have := h5.2.2.2.1; omega⟩)]
    exact implValid_head w va vb dl ca n cb hd hn h

end Go.Proofs.Ytoljmlhnbmeloaa

