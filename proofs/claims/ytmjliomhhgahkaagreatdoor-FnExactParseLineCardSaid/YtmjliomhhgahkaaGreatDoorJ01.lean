import Derived.OrdersHeld
import Derived.WalkKit
import Derived.ProofKit
import Derived.OpenShut
import Derived.Handy
import Derived.Carry
import Derived.WalkSpells
import Derived.WalkSmall
import Derived.Test.YtmjliomhhgahkaaGreatDoorChecked
import Derived.Deep.QuietTactic
import Derived.BigQuiet
import Derived.Laws.BytesArg
import Derived.Lib.Bytealg
import Derived.Laws.Externs
import Derived.Lib.IndexLaws
import Derived.RangeFuncNested
import Derived.RangeFuncLeaves
import Derived.Shelf.Abstract
import Derived.OwnWalkIn
import Derived.TacticsInMore
import Derived.LoopNIn
import Derived.LoopIn
import Derived.RangeFuncBox
import Derived.Deep.RegionWith
import Derived.Deep.RegionHeld3
import Derived.Laws.Cover1
import Derived.IntWalk
import Derived.Lib.ConvBytes
import Derived.Lib.AppendStr
import Derived.Defers
import Derived.Recover
import Derived.Lib.ParseIntB
import Derived.Deep.RegionHeld
namespace Go.Proofs.YtmjliomhhgahkaaGreatDoor
open Go.RowKit

/-- A slice of one-cell integers that reads as xs. -/
def Rd (k : IntKind) (w : World) (v : Value) (xs : List Int) : Prop :=
  ∃ ao cap, v = .slice ao xs.length cap ∧ xs.length ≤ cap ∧ cap ≤ maxLen ∧
    (xs = [] ∨ ∃ b off, ao = some ⟨b, off, none⟩ ∧ b < w.heap.size ∧ ∀ i, i < xs.length → w.cell? ⟨b, off + i, none⟩ = some (.int k (xs.getD i 0)))

/-- A slice of one-cell integers that is the call's own, from block 'base' on. -/
def Own (k : IntKind) (e : TypeId) (w : World) (base : Nat) (v : Value) (xs : List Int) : Prop :=
  w.ownsRow base e 1 v xs.length (xs.map (Value.int k))

theorem Own.rd {k : IntKind} {e : TypeId} {w : World} {base : Nat} {v : Value} {xs : List Int} (h : Own k e w base v xs) : Rd k w v xs := by
  rcases h.2 with ⟨rfl, h0⟩ | ⟨g, cap, cur, rfl, hb, hg, hn, hm, hs, ht⟩
  · have : xs = [] := List.eq_nil_of_length_eq_zero h0
    subst this
    exact ⟨none, 0, rfl, Nat.le_refl _, Nat.zero_le _, .inl rfl⟩
  · refine ⟨_, cap, rfl, hn, hm, .inr ⟨g, 0, rfl, (Array.getElem?_eq_some_iff.1 hg).1, fun i hi => ?_⟩⟩
    have h1 := World.ownsRow.cells h (g := g) rfl i (.int k (xs.getD i 0)) (by simp [List.getD, hi])
    rw [Addr.add_lit] at h1
    exact h1

theorem Own.below {k : IntKind} {e : TypeId} {w w' : World} {base : Nat} {v : Value} {xs : List Int} (h : Own k e w base v xs) (hb : Below w.heap.size w w') : Own k e w' base v xs := by
  refine ⟨h.1, ?_⟩
  rcases h.2 with hn | ⟨g, cap, cur, rfl, hbg, hgg, rest⟩
  · exact .inl hn
  · exact .inr ⟨g, cap, cur, rfl, hbg, by rw [hb.block g (Array.getElem?_eq_some_iff.1 hgg).1]; exact hgg, rest⟩

theorem Own.mono {k : IntKind} {e : TypeId} {w : World} {base base' : Nat} {v : Value} {xs : List Int} (h : Own k e w base v xs) (hb : base' ≤ base) : Own k e w base' v xs := by
  refine ⟨h.1, ?_⟩
  rcases h.2 with hn | ⟨g, cap, cur, rfl, hbg, rest⟩
  · exact .inl hn
  · exact .inr ⟨g, cap, cur, rfl, by omega, rest⟩

theorem Rd.below {k : IntKind} {w w' : World} {v : Value} {xs : List Int} (h : Rd k w v xs) (hb : Below w.heap.size w w') : Rd k w' v xs := by
  obtain ⟨ao, cap, rfl, h1, h2, h3⟩ := h
  refine ⟨ao, cap, rfl, h1, h2, ?_⟩
  rcases h3 with h3 | ⟨b, off, rfl, hlt, hc⟩
  · exact .inl h3
  · exact .inr ⟨b, off, rfl, Nat.lt_of_lt_of_le hlt hb.size, fun i hi => by rw [hb.cell (p := ⟨b, off + i, none⟩) hlt]; exact hc i hi⟩

theorem below_drewN' (w : World) (n : Nat) : Below w.heap.size w (w.drewN n) := ⟨rfl, rfl, rfl, Nat.le_refl _, fun _ _ => rfl⟩

theorem Own.lt {k : IntKind} {e : TypeId} {w : World} {base : Nat} {v : Value} {xs : List Int} (h : Own k e w base v xs) : ∀ g, v.ownBlock = some g → base ≤ g ∧ g < w.heap.size := World.ownsRow.lt h

theorem Rd.len {k : IntKind} {w : World} {v : Value} {xs : List Int} (h : Rd k w v xs) : ∃ ao cap, v = .slice ao xs.length cap ∧ xs.length ≤ cap ∧ cap ≤ maxLen := by
  obtain ⟨ao, cap, h0, h1, h2, _⟩ := h
  exact ⟨ao, cap, h0, h1, h2⟩

theorem hd9 {p : Prop} (h : p) : Hid p := h
theorem sT9 {α : Type} (l : List α) (i : Nat) (a : α) : l.toArray.setIfInBounds i a = (l.set i a).toArray := List.setIfInBounds_toArray ..
theorem sZ9 {α : Type} (a b : α) (l : List α) : (a :: l).set 0 b = b :: l := rfl
theorem sS9 {α : Type} (a b : α) (l : List α) (n : Nat) : (a :: l).set (n + 1) b = a :: l.set n b := rfl
theorem tk9 {P : Program} {md : Region.Mode} {ops : Array Oper} {Q : Exit → Act → World → Prop} {S : World → Prop} {i : Nat} {oi : Oper} {v : Value} {fuel : Nat} {listed : Array Bool} {a : Act} {w : World} (hi : ops[i]? = some oi)
    (hb : (Region.noSelect ops && (Region.free md ops listed i && (Region.ready md ops listed).contains i)) = true)
    (hQ : ∀ c a w, Q (.panic c) (a.put oi.dst v) w → Q (.panic c) a w) (hy : YieldsIf P ops S oi v a) (hS : S w)
    (h : wpAnyH P md ops Q S fuel (listed.setIfInBounds i true) (a.put oi.dst v) w) : wpAnyH P md ops Q S (fuel + 1) listed a w := by
  simp only [Bool.and_eq_true] at hb
  exact wpAnyH_take hi hb.1 hb.2.1 hb.2.2 hQ hy hS h

theorem tkL9 {P : Program} {md : Region.Mode} {ops : Array Oper} {Q : Exit → Act → World → Prop} {S : World → Prop} {i : Nat} {oi : Oper} {v : Value} {fuel : Nat} {listed : Array Bool} {a : Act} {w : World} (hi : ops[i]? = some oi)
    (hb : (Region.noSelect ops && (Region.free md ops listed i && (Region.ready md ops listed).contains i)) = true)
    (hQ : ∀ c a w, Q (.panic c) (a.put oi.dst v) w → Q (.panic c) a w) (hw : Region.wanted oi (yielded ops a.tmps) = true) (hS : S w) (hy : ∀ w, S w → (execOp a.eval oi).run P w = .ok (.value v) w)
    (h : wpAnyH P md ops Q S fuel (listed.setIfInBounds i true) (a.put oi.dst v) w) : wpAnyH P md ops Q S (fuel + 1) listed a w := tk9 hi hb hQ (Or.inl ⟨hw, hy⟩) hS h


/-- The pieces between slashes, with the piece under way. -/
def splA : List UInt8 → List UInt8 → List (List UInt8)
  | cur, [] => [cur]
  | cur, x :: l => if x = 47 then cur :: splA [] l else splA (cur ++ [x]) l
def nm (s : ByteArray) : List (List UInt8) := splA [] (s.data.toList.drop 1)
def seg (s : ByteArray) (a b : Nat) : List UInt8 := (s.data.toList.drop a).take (b - a)



end Go.Proofs.YtmjliomhhgahkaaGreatDoor
namespace Go.Proofs.YtmjliomhhgahkaaGreatDoor
open Go.RowKit Go.Shelf



attribute [local go_sem] Oper.semAt_some


attribute [local go_sem] Oper.semAt_some





attribute [local go_sem] Oper.semAt_some



end Go.Proofs.YtmjliomhhgahkaaGreatDoor
namespace Go.Proofs.YtmjliomhhgahkaaGreatDoor
open Go.RowKit

/-- A node. -/
structure Nd where
  path : ByteArray
  data : ByteArray
  ver : Int
  cver : Int
  cz : Int
  mz : Int
  pz : Int
/-! ### rows of nodes -/






/-- A local node. -/
structure BoxN (w : World) (B : Nat) (n : Nd) : Prop where
  lt : B < w.heap.size
  c0 : w.cell? ⟨B, 0, none⟩ = some (.string n.path)
  c1 : w.cell? ⟨B, 1, none⟩ = some (.string n.data)
  c2 : w.cell? ⟨B, 2, none⟩ = some (.int .i64 n.ver)
  c3 : w.cell? ⟨B, 3, none⟩ = some (.int .i64 n.cver)
  c4 : w.cell? ⟨B, 4, none⟩ = some (.int .i64 n.cz)
  c5 : w.cell? ⟨B, 5, none⟩ = some (.int .i64 n.mz)
  c6 : w.cell? ⟨B, 6, none⟩ = some (.int .i64 n.pz)


theorem Tryz.infoB : (Tryz.prog.info? 5).map (fun i => (i.zero, i.size, i.bytes)) = some (some (.int .u8 0), 1, 1) := by kernel_rfl

theorem ret_bool {a b : Bool} (h : a = b) : Ending.returned (.bool a) = .returned (.bool b) := by rw [h]
theorem ret_int {k : IntKind} {a b : Int} (h : a = b) : Ending.returned (.int k a) = .returned (.int k b) := by rw [h]

theorem take_eq_succ {xs ys : List Int} {k : Nat} (hx : k < xs.length) (hy : k < ys.length) (h : xs.take k = ys.take k) (hk : xs.getD k 0 = ys.getD k 0) : xs.take (k + 1) = ys.take (k + 1) := by
  rw [List.take_succ_eq_append_getElem hx, List.take_succ_eq_append_getElem hy, h]
  simp [List.getD, hx, hy] at hk
  rw [hk]

theorem ne_of_getD {xs ys : List Int} {k : Nat} (hk : ¬ xs.getD k 0 = ys.getD k 0) : ¬ xs = ys := by
  intro h; subst h; exact hk rfl

set_option maxHeartbeats 400000 in
theorem eqByteS_len (w : World) (ao bo : Option Addr) (n m ca cb : Nat) (h : n ≠ m) :
    Calls Tryz.prog 8 #[.slice ao n ca, .slice bo m cb] w fun e w' => e = .returned (.bool false) ∧ w' = w := by
  have h1 : ((n : Int) != (m : Int)) = true := by rw [bne_iff_ne]; omega
  go_enter Tryz.func8, Tryz.ntmps8
  go_wp2
  go_ret
  exact ⟨rfl, rfl⟩

set_option maxHeartbeats 400000 in
theorem eqByteS_nil (w : World) (ao bo : Option Addr) (ca cb : Nat) :
    Calls Tryz.prog 8 #[.slice ao 0 ca, .slice bo 0 cb] w fun e w' => e = .returned (.bool true) ∧ w' = w := by
  go_enter Tryz.func8, Tryz.ntmps8
  go_wp2
  go_rounds 1
  go_ret
  exact ⟨rfl, rfl⟩

set_option maxHeartbeats 400000 in
theorem eqByteS_row (w : World) (b o b2 o2 n ca cb : Nat) (hn : n ≤ maxLen) (xs ys : List Int) (hx : xs.length = n) (hy : ys.length = n)
    (hcx : ∀ i, i < n → w.cell? ⟨b, o + i, none⟩ = some (.int .u8 (xs.getD i 0))) (hcy : ∀ i, i < n → w.cell? ⟨b2, o2 + i, none⟩ = some (.int .u8 (ys.getD i 0))) :
    Calls Tryz.prog 8 #[.slice (some ⟨b, o, none⟩) n ca, .slice (some ⟨b2, o2, none⟩) n cb] w fun e w' => e = .returned (.bool (decide (xs = ys))) ∧ ∃ q, w' = w.drewN q := by
  unfold maxLen at hn
  have HX := hd9 hx
  have HY := hd9 hy
  have CX := hd9 hcx
  have CY := hd9 hcy
  clear hx hy hcx hcy
  have h1 : ((n : Int) != (n : Int)) = false := by simp
  go_enter Tryz.func8, Tryz.ntmps8
  go_wp2
  go_loopw [5] (fun i wr => ∃ k : Nat, k ≤ n ∧ i = .int .i64 k ∧ Hid (xs.take k = ys.take k) ∧ ∃ q, wr = w.drewN q) (fun i _ => n - (intOf i).toNat)
  case atStart => exact ⟨0, Nat.zero_le _, rfl, rfl, 0, rfl⟩
  case round =>
    obtain ⟨k, hk, rfl, HT, q, rfl⟩ := hrel
    by_cases hlt : k < n
    · have c1 := CX.out k hlt
      have c2 := CY.out k hlt
      have hltI : (k : Int) < (n : Int) := by omega
      generalize hu : xs.getD k 0 = u at c1
      generalize hv : ys.getD k 0 = v at c2
      have HU := hd9 hu
      have HV := hd9 hv
      clear hu hv
      by_cases he : u = v
      · have hb : (u != v) = false := by simp [he]
        have HE := hd9 he
        clear he
        go_wp2
        go_quiet (fail)
        go_wp2
        go_roundw
        case rel => exact ⟨k + 1, by omega, by go_num, take_eq_succ (by rw [HX.out]; omega) (by rw [HY.out]; omega) HT.out (by rw [HU.out, HV.out, HE.out]), _, rfl⟩
        case measure => simp [intOf]; omega
      · have hb : (u != v) = true := by simp [he]
        have HE := hd9 he
        clear he
        go_wp2
        go_quiet (fail)
        go_wp2
        go_ret
        exact ⟨ret_bool (by symm; rw [decide_eq_false_iff_not]; exact ne_of_getD (k := k) (by rw [HU.out, HV.out]; exact HE.out)), _, World.drewN_drewN _ _ _⟩
    · go_wp2
      go_ret
      exact ⟨ret_bool (by symm; rw [decide_eq_true_iff]; have h := HT.out; rw [List.take_of_length_le (by rw [HX.out]; omega), List.take_of_length_le (by rw [HY.out]; omega)] at h; exact h), _, rfl⟩

theorem eqByteS_any (w : World) (va vb : Value) (xs ys : List Int) (ha : Rd .u8 w va xs) (hb : Rd .u8 w vb ys) :
    Calls Tryz.prog 8 #[va, vb] w fun e w' => e = .returned (.bool (decide (xs = ys))) ∧ ∃ q, w' = w.drewN q := by
  obtain ⟨ao, ca, rfl, h1, h2, h3⟩ := ha
  obtain ⟨bo, cb, rfl, k1, k2, k3⟩ := hb
  by_cases hne : xs.length = ys.length
  · rcases h3 with rfl | ⟨b, o, rfl, _, hc⟩
    · have hy := List.eq_nil_of_length_eq_zero hne.symm
      subst hy
      refine (eqByteS_nil w ao bo ca cb).mono ?_
      rintro e w' ⟨rfl, rfl⟩
      exact ⟨ret_bool (by simp), 0, rfl⟩
    · rcases k3 with rfl | ⟨b2, o2, rfl, _, hc2⟩
      · have hx := List.eq_nil_of_length_eq_zero hne
        subst hx
        refine (eqByteS_nil w _ bo ca cb).mono ?_
        rintro e w' ⟨rfl, rfl⟩
        exact ⟨ret_bool (by simp), 0, rfl⟩
      · rw [← hne] at hc2 ⊢
        exact eqByteS_row w b o b2 o2 xs.length ca cb (by omega) xs ys rfl hne.symm hc hc2
  · refine (eqByteS_len w ao bo _ _ ca cb hne).mono ?_
    rintro e w' ⟨rfl, rfl⟩
    exact ⟨ret_bool (by symm; rw [decide_eq_false_iff_not]; intro h; exact hne (by rw [h])), 0, rfl⟩

/-! ### a row that is written from its head on -/
def mix (ys xs : List Int) (i : Nat) : List Int := ys.take i ++ xs.drop i

theorem mix_length {ys xs : List Int} (h : ys.length = xs.length) (i : Nat) : (mix ys xs i).length = xs.length := by
  simp [mix]; omega

theorem mix_zero (ys xs : List Int) : mix ys xs 0 = xs := by simp [mix]

theorem mix_all {ys xs : List Int} (h : ys.length = xs.length) {i : Nat} (hi : xs.length ≤ i) : mix ys xs i = ys := by
  simp [mix, List.take_of_length_le (show ys.length ≤ i by omega), List.drop_eq_nil_of_le hi]

theorem mix_set {ys xs : List Int} (h : ys.length = xs.length) {i : Nat} (hi : i < xs.length) : (mix ys xs i).set i (ys.getD i 0) = mix ys xs (i + 1) := by
  apply List.ext_getElem?
  intro j
  unfold mix
  rw [List.getElem?_set]
  by_cases e : i = j
  · subst e
    have h1 : i < (ys.take i ++ xs.drop i).length := by simp; omega
    have h2 : i < (ys.take (i + 1)).length := by simp; omega
    rw [if_pos rfl, if_pos h1, List.getElem?_append_left h2, List.getElem?_take_of_lt (by omega)]
    simp [List.getD, show i < ys.length by omega]
  · rw [if_neg e]
    by_cases hlt : j < i
    · rw [List.getElem?_append_left (by simp; omega), List.getElem?_append_left (by simp; omega), List.getElem?_take_of_lt hlt, List.getElem?_take_of_lt (by omega)]
    · rw [List.getElem?_append_right (by simp; omega), List.getElem?_append_right (by simp; omega), List.getElem?_drop, List.getElem?_drop]
      simp only [List.length_take]
      congr 1
      omega

theorem Own.mixed {k : IntKind} {e : TypeId} {w : World} {base g n cap : Nat} {ys xs : List Int} {i : Nat} (hy : ys.length = xs.length) (hn : xs.length = n) (hi : i < xs.length)
    (h : Own k e w base (.slice (some ⟨g, 0, none⟩) n cap) (mix ys xs i)) {u : Int} (hu : u = ys.getD i 0) :
    Own k e (w.setCell ⟨g, i, none⟩ (.int k u)) base (.slice (some ⟨g, 0, none⟩) n cap) (mix ys xs (i + 1)) := by
  subst hu
  unfold Own at h ⊢
  rw [mix_length hy, hn] at h ⊢
  have := (World.ownsRow.stored h i (.int k (ys.getD i 0))).1
  rw [← List.map_set, mix_set hy hi] at this
  exact this

theorem grownBy_set (w w' : World) (g i : Nat) (u : Value) (h : w.grownBy w' (some g)) : w.grownBy (w'.setCell ⟨g, i, none⟩ u) (some g) :=
  ⟨h.os, h.tape, h.output, by simpa using h.size, fun k hk hne => by
    have hs := h.size
    rw [← h.block k hk hne]
    exact Below.heap_setCell _ _ _ _ (fun e => hne (by rw [e]))⟩

/-- What the marks are. -/
def marks (k : Int) (n : Nat) : List Int := (List.range n).map fun (i : Nat) => (k + (i : Int)) % 256
theorem marks_length (k : Int) (n : Nat) : (marks k n).length = n := by simp [marks]
theorem marks_getD (k : Int) (n i : Nat) (h : i < n) : (marks k n).getD i 0 = (k + i) % 256 := by simp [marks, List.getD, h]

theorem Own.row {k : IntKind} {e : TypeId} {w : World} {base : Nat} {v : Value} {xs : List Int} (h : Own k e w base v xs) :
    (v = .slice none 0 0 ∧ xs = []) ∨ ∃ g cap, v = .slice (some ⟨g, 0, none⟩) xs.length cap ∧ base ≤ g ∧ xs.length ≤ cap ∧ cap ≤ maxLen := by
  rcases h.2 with ⟨rfl, h0⟩ | ⟨g, cap, cur, rfl, hb, hg, hn, hm, _⟩
  · exact .inl ⟨rfl, List.eq_nil_of_length_eq_zero h0⟩
  · exact .inr ⟨g, cap, rfl, hb, hn, hm⟩

theorem own_zeros {w : World} {base g n cap : Nat} {k : IntKind} {e : TypeId} (h : w.ownsRow base e 1 (.slice (some ⟨g, 0, none⟩) n cap) n (madeCells #[Value.int k 0] n).toList) :
    Own k e w base (.slice (some ⟨g, 0, none⟩) n cap) (List.replicate n 0) := by
  unfold Own
  rw [toList_madeCells_one] at h
  simpa using h

set_option maxHeartbeats 400000 in
theorem toByteS_nil (w : World) (ao : Option Addr) (cap : Nat) :
    Calls Tryz.prog 5 #[.slice ao 0 cap] w fun e w' => ∃ v', e = .returned v' ∧ Own .u8 5 w' w.heap.size v' [] ∧ Below w.heap.size w w' := by
  obtain ⟨i0, hi, hz0, hz1, hz2⟩ := info_parts Tryz.infoB
  go_enter Tryz.func5, Tryz.ntmps5
  go_wp2_with (at_make; refine wpList_make_full _ rfl _ _ 22 rfl w.heap.size 5 i0 (.int .u8 0) 1 Tryz.underlying22 hi hz0 hz1 _ _ _ _ 0 rfl rfl rfl rfl ?b2 ?b3 ?b4 ?_)
  case b2 => rw [hz2]; omega
  case b3 => unfold maxLen; omega
  case b4 => exact Nat.le_refl _
  intro w1 hown hgrow
  have HO : Hid (Own .u8 5 w1 w.heap.size (.slice (some ⟨w.heap.size, 0, none⟩) 0 0) []) := own_zeros hown
  have HG := hd9 ((Below.refl _ _).grown hgrow (Nat.le_refl _) (by simp))
  clear hown hgrow
  go_wp2
  go_rounds 1
  go_ret
  exact ⟨_, rfl, HO.out, HG.out⟩

set_option maxHeartbeats 400000 in
theorem toByteS_row (w : World) (b o n cap : Nat) (xs : List Int) (hx : xs.length = n) (hb : b < w.heap.size) (hc : ∀ i, i < n → w.cell? ⟨b, o + i, none⟩ = some (.int .u8 (xs.getD i 0))) (hn : n ≤ 1099511627776) :
    Calls Tryz.prog 5 #[.slice (some ⟨b, o, none⟩) n cap] w fun e w' => ∃ v', e = .returned v' ∧ Own .u8 5 w' w.heap.size v' xs ∧ Below w.heap.size w w' := by
  obtain ⟨i0, hi, hz0, hz1, hz2⟩ := info_parts Tryz.infoB
  have HC := hd9 hc
  have HX := hd9 hx
  clear hc hx
  go_enter Tryz.func5, Tryz.ntmps5
  go_wp2_with (at_make; refine wpList_make_full _ rfl _ _ 22 rfl w.heap.size 5 i0 (.int .u8 0) 1 Tryz.underlying22 hi hz0 hz1 _ _ _ _ n rfl rfl rfl rfl ?b2 ?b3 ?b4 ?_)
  case b2 => rw [hz2]; omega
  case b3 => unfold maxLen; omega
  case b4 => exact Nat.le_refl _
  intro w1 hown hgrow
  have HO := hd9 (own_zeros hown)
  have HG := hd9 ((Below.refl _ _).grown hgrow (Nat.le_refl _) (by simp))
  clear hown hgrow hi hz0 hz1 hz2
  go_wp2
  go_loopw [4] (fun i wr => ∃ j : Nat, j ≤ n ∧ i = .int .i64 j ∧ Own .u8 5 wr w.heap.size (.slice (some ⟨w.heap.size, 0, none⟩) n n) (mix xs (List.replicate n 0) j) ∧ Below w.heap.size w wr) (fun i _ => n - (intOf i).toNat)
  case atStart => exact ⟨0, Nat.zero_le _, rfl, by rw [mix_zero]; exact HO.out, HG.out⟩
  case round =>
    obtain ⟨j, hj, rfl, ho, hg⟩ := hrel
    by_cases hlt : j < n
    · have hrep : xs.length = (List.replicate n (0 : Int)).length := by rw [HX.out]; simp
      have ho' : wr.ownsRow w.heap.size 5 1 (.slice (some ⟨w.heap.size, 0, none⟩) n n) n ((mix xs (List.replicate n 0) j).map (Value.int .u8)) := by
        have := ho; unfold Own at this; rw [mix_length hrep, List.length_replicate] at this; exact this
      have hf := World.ownsRow.frozenAt ho' j
      have hcj : ∃ c, wr.cell? ⟨w.heap.size, j, none⟩ = some c := ⟨_, (World.ownsRow.cellAt ho' j (by omega)).trans (List.getElem?_eq_getElem (by simp [mix_length hrep]; exact hlt))⟩
      obtain ⟨c, hcj⟩ := hcj
      have hsrc := (hg.cell (p := ⟨b, o + j, none⟩) hb).trans (HC.out j hlt)
      have HO2 := hd9 ho
      have HG2 := hd9 hg
      have HR := hd9 hrep
      clear ho ho' hg hrep HO HG
      have hltI : (j : Int) < (n : Int) := by omega
      go_wp2
      go_roundw
      case rel => exact ⟨j + 1, by omega, by go_num, Own.mixed HR.out (by simp) (by simp; exact hlt) HO2.out (by simp [List.getD]), HG2.out.setCell (Nat.le_refl _) _⟩
      case measure => simp [intOf]; omega
    · have hjn : j = n := by omega
      subst hjn
      go_wp2
      go_ret
      exact ⟨_, rfl, by rw [mix_all (by rw [HX.out]; simp) (by simp)] at ho; exact ho, hg⟩

theorem toByteS_any (w : World) (v : Value) (xs : List Int) (h : Rd .u8 w v xs) (hn : xs.length ≤ 1099511627776) :
    Calls Tryz.prog 5 #[v] w fun e w' => ∃ v', e = .returned v' ∧ Own .u8 5 w' w.heap.size v' xs ∧ Below w.heap.size w w' := by
  obtain ⟨ao, cap, rfl, h1, h2, h3⟩ := h
  rcases h3 with rfl | ⟨b, o, rfl, hb, hc⟩
  · exact toByteS_nil w ao cap
  · exact toByteS_row w b o xs.length cap xs rfl hb hc hn

end Go.Proofs.YtmjliomhhgahkaaGreatDoor
namespace Go.Proofs.YtmjliomhhgahkaaGreatDoor

/-- What bytes are as a number. -/
def numB (xs : List Int) : Nat := xs.foldl (fun a x => a * 256 + x.toNat) 0

/-- The number whose digits, of w bits each, are the low bits of xs, the highest first. -/
def numW (w : Nat) (xs : List Int) : Nat := xs.foldl (fun a x => a * 2 ^ w + x.toNat % 2 ^ w) 0

/-- Digit q, of v bits, of the bits of xs (w bits each). -/
def dig (w v : Nat) (xs : List Int) (q : Nat) : Nat := numW w xs / 2 ^ (w * xs.length - v * (q + 1)) % 2 ^ v

end Go.Proofs.YtmjliomhhgahkaaGreatDoor
namespace Go.Proofs.YtmjliomhhgahkaaGreatDoor
open Go.RowKit

def Byt (xs : List Int) : Prop := ∀ x ∈ xs, 0 ≤ x ∧ x < 256

/-- Blocks of other types are as they were. -/
def KT (e : TypeId) (w w' : World) : Prop := w.heap.size ≤ w'.heap.size ∧ ∀ b, b < w.heap.size → (¬ ∃ cur, w.heap[b]? = some (.cells cur e (0, 0))) → w'.heap[b]? = w.heap[b]?
theorem KT.refl (e : TypeId) (w : World) : KT e w w := ⟨Nat.le_refl _, fun _ _ _ => rfl⟩
theorem KT.trans {e : TypeId} {w w1 w2 : World} (h : KT e w w1) (h2 : KT e w1 w2) : KT e w w2 :=
  ⟨Nat.le_trans h.1 h2.1, fun b hb hn => by
    have h3 := h.2 b hb hn
    rw [h2.2 b (Nat.lt_of_lt_of_le hb h.1) (by rw [h3]; exact hn), h3]⟩
theorem KT.below {e : TypeId} {w w1 w2 : World} (h : KT e w w1) (hb : Below w1.heap.size w1 w2) : KT e w w2 :=
  h.trans ⟨hb.size, fun b hb' _ => hb.block b hb'⟩
theorem KT.alloc {e : TypeId} {w w1 : World} (h : KT e w w1) (o : Obj) : KT e w (w1.alloc o) := h.below ((Below.refl _ _).alloc (Nat.le_refl _) o)
theorem KT.grown {e : TypeId} {w w1 w2 : World} {base size n : Nat} {v : Value} {xs : List Value} (h : KT e w w1) (ho : w1.ownsRow base e size v n xs) (hg : w1.grownBy w2 v.ownBlock) : KT e w w2 := by
  refine h.trans ⟨hg.size, fun b hb hn => hg.block b hb fun he => hn ?_⟩
  rcases ho.2 with ⟨rfl, -⟩ | ⟨g, cap, cur, rfl, -, hgg, -⟩
  · simp [Value.ownBlock] at he
  · simp only [Value.ownBlock, Option.some.injEq] at he
    subst he
    exact ⟨cur, hgg⟩




theorem conv_any {w : World} {v : Value} {xs : List Int} (h : Rd .u8 w v xs) : (convert 22 9 v).run Tryz.prog w = .ok (.string (strOfNums xs)) w := by
  obtain ⟨ao, cap, rfl, h1, h2, h3⟩ := h
  rcases h3 with rfl | ⟨b, o, rfl, hb, hc⟩
  · cases ao with
    | none => exact run_convert_bytes_nil w _ _ Tryz.underlying22 Tryz.underlying5 0 cap _ Tryz.underlying9
    | some a =>
      rw [run_convert_bytes_string w _ _ _ _ _ _ Tryz.underlying22 Tryz.underlying5 Tryz.underlying9]
      exact run_bytesToString w a 0 cap [] (by simp [loadCells, loadCellsFrom])
  · exact run_convert_bytes_arg w _ _ Tryz.underlying22 Tryz.underlying5 b o _ cap xs rfl hc _ Tryz.underlying9






end Go.Proofs.YtmjliomhhgahkaaGreatDoor
namespace Go.Proofs.YtmjliomhhgahkaaGreatDoor
open Go.RowKit Go.Shelf

end Go.Proofs.YtmjliomhhgahkaaGreatDoor
namespace Go.Proofs.YtmjliomhhgahkaaGreatDoor
open Go.RowKit




end Go.Proofs.YtmjliomhhgahkaaGreatDoor
namespace Go.Proofs.YtmjliomhhgahkaaGreatDoor
open Go.RowKit Go.Shelf


end Go.Proofs.YtmjliomhhgahkaaGreatDoor
namespace Go.Proofs.YtmjliomhhgahkaaGreatDoor
open Go.RowKit

/-! ### what a superblock's bytes say -/
def nL (ys : List Int) : Int := ((numB ((ys.drop 13).take 4) : Nat) : Int)













/-- The cells of a box of another type are kept. -/
theorem KT.box {e t : TypeId} {w w' : World} {b : Nat} {A : Array Value} {f : Nat × Nat} (h : KT e w w') (hb : w.heap[b]? = some (.cells A t f)) (ht : t ≠ e) : w'.heap[b]? = some (.cells A t f) := by
  have hlt := (Array.getElem?_eq_some_iff.1 hb).1
  rw [h.2 b hlt (by rw [hb]; rintro ⟨cur, h⟩; injection h with h; injection h with _ h2; exact ht h2), hb]
theorem KT.cell {e t : TypeId} {w w' : World} {b : Nat} {A : Array Value} {f : Nat × Nat} (h : KT e w w') (hb : w.heap[b]? = some (.cells A t f)) (ht : t ≠ e) (q : Nat) : w'.cell? ⟨b, q, none⟩ = w.cell? ⟨b, q, none⟩ :=
  World.cell?_of_block (a := ⟨b, q, none⟩) (by show w'.heap[b]? = w.heap[b]?; rw [h.box hb ht, hb])


/-- A local node that may be written. -/
def NB (W : World) (B : Nat) (n : Nd) : Prop := BoxN W B n ∧ ∀ j, W.frozen? ⟨B, j, none⟩ = false







/-- A box of one cell that may be written. -/
def B1 (W : World) (k : Nat) (v : Value) : Prop := k < W.heap.size ∧ W.cell? ⟨k, 0, none⟩ = some v ∧ W.frozen? ⟨k, 0, none⟩ = false
end Go.Proofs.YtmjliomhhgahkaaGreatDoor
namespace Go.Proofs.YtmjliomhhgahkaaGreatDoor
open Go.RowKit Go.Shelf





/-- An operation. -/
structure Op5 where
  kind : Int
  path : ByteArray
  data : ByteArray
  ver : Int
  seq : Bool
def opV (o : Op5) : Value := .agg #[.int .i64 o.kind, .string o.path, .string o.data, .int .i64 o.ver, .bool o.seq]
end Go.Proofs.YtmjliomhhgahkaaGreatDoor
namespace Go.Proofs.YtmjliomhhgahkaaGreatDoor
open Go.RowKit

/-- A digit; a number's value. -/
def isDg (c : UInt8) : Bool := decide (48 ≤ c.toNat) && decide (c.toNat ≤ 57)
theorem isDg_iff (c : UInt8) : isDg c = true ↔ 48 ≤ c.toNat ∧ c.toNat ≤ 57 := by unfold isDg; simp
def dgN (acc : Nat) (l : List UInt8) : Nat := l.foldl (fun a c => a * 10 + (c.toNat - 48)) acc
theorem dgN_nil (acc : Nat) : dgN acc [] = acc := by unfold dgN; exact List.foldl_nil
theorem dgN_cons (acc : Nat) (c : UInt8) (r : List UInt8) : dgN acc (c :: r) = dgN (acc * 10 + (c.toNat - 48)) r := by unfold dgN; exact List.foldl_cons ..
theorem dgN_append (acc : Nat) (l : List UInt8) (c : UInt8) : dgN acc (l ++ [c]) = dgN acc l * 10 + (c.toNat - 48) := by
  unfold dgN
  rw [List.foldl_append, List.foldl_cons, List.foldl_nil]
theorem dgN_lt : ∀ (l : List UInt8) (acc : Nat), l.all isDg = true → dgN acc l < (acc + 1) * 10 ^ l.length
  | [], acc, _ => by simp [dgN_nil]
  | c :: r, acc, h => by
    simp only [List.all_cons, Bool.and_eq_true] at h
    have hc := (isDg_iff c).1 h.1
    have := dgN_lt r (acc * 10 + (c.toNat - 48)) h.2
    rw [dgN_cons]
    refine Nat.lt_of_lt_of_le this ?_
    rw [List.length_cons, Nat.pow_succ, Nat.mul_comm (10 ^ r.length) 10, ← Nat.mul_assoc]
    exact Nat.mul_le_mul_right _ (by omega)
def digO (l : List UInt8) : Option Int :=
  if l.length = 0 ∨ 9 < l.length ∨ (l.head? = some 48 ∧ 1 < l.length) then none
  else if l.all isDg = true then some (dgN 0 l : Nat) else none
/-- A field as a number. -/
def numO (l : List UInt8) : Option Int :=
  if 1 < l.length ∧ l.head? = some 45 then (if l.tail.head? = some 48 ∨ l.tail.head? = some 45 then none else (digO l.tail).map fun v => -v) else digO l
theorem parseM : ∀ (l : List UInt8) (acc M : Nat), (acc + 1) * 10 ^ l.length ≤ 1000000000 → 1000000000 ≤ M → Lib.parseUintM M acc l = if l.all isDg = true then .ok (dgN acc l) else Lib.parseUintB 64 []
  | [], acc, M, _, _ => by simp [Lib.parseUintM, dgN_nil]
  | c :: r, acc, M, h, hM => by
    have hp : 1 ≤ 10 ^ r.length := Nat.pos_of_ne_zero (by simp)
    have e : (acc + 1) * 10 ^ (c :: r).length = ((acc + 1) * 10) * 10 ^ r.length := by
      rw [List.length_cons, Nat.pow_succ, Nat.mul_comm (10 ^ r.length) 10, ← Nat.mul_assoc]
    rw [e] at h
    have h1 : (acc + 1) * 10 ≤ 1000000000 := Nat.le_trans (Nat.le_mul_of_pos_right _ hp) h
    unfold Lib.parseUintM
    by_cases hc : 48 ≤ c.toNat ∧ c.toNat ≤ 57
    · rw [if_pos hc, if_neg (by omega), if_neg (by omega)]
      rw [parseM r _ M (Nat.le_trans (Nat.mul_le_mul_right _ (by omega)) h) hM]
      simp only [List.all_cons, (isDg_iff c).2 hc, Bool.true_and, dgN_cons]
    · rw [if_neg hc]
      have : isDg c = false := by
        cases hd : isDg c with
        | false => rfl
        | true => exact absurd ((isDg_iff c).1 hd) hc
      simp [this]
      rfl
theorem pI_neg (r : List UInt8) : Lib.parseIntB 64 (45 :: r) = match Lib.parseUintB 64 r with | .range => .range | .ok u => if 9223372036854775808 < u then .range else .ok (-(u : Int)) | _ => Lib.parseIntB 64 [] := by
  have e45 : (45 : UInt8).toNat = 45 := rfl
  unfold Lib.parseIntB
  simp [e45]
  cases Lib.parseUintB 64 r <;> rfl
theorem pI_pos (c : UInt8) (r : List UInt8) (h : c.toNat ≠ 43) (h2 : c.toNat ≠ 45) : Lib.parseIntB 64 (c :: r) = match Lib.parseUintB 64 (c :: r) with | .range => .range | .ok u => if 9223372036854775808 ≤ u then .range else .ok (u : Int) | _ => Lib.parseIntB 64 [] := by
  unfold Lib.parseIntB
  simp [h, h2]
  cases Lib.parseUintB 64 (c :: r) <;> rfl
/-- What ParseInt makes of a field that begins as a number does. -/
theorem num_parse {l d : List UInt8} (hd : d = if l.head? = some 45 then l.tail else l) (h0 : l ≠ [48]) :
    (d = [] ∨ 9 < d.length ∨ (∃ c, d.head? = some c ∧ (c.toNat < 49 ∨ 57 < c.toNat)) → numO l = none) ∧
    (d ≠ [] → d.length ≤ 9 → (∀ c, d.head? = some c → 49 ≤ c.toNat ∧ c.toNat ≤ 57) → Lib.parseIntB 64 l = match numO l with | some v => .ok v | none => Lib.parseIntB 64 []) := by
  have key : ∀ x : List UInt8, x ≠ [48] → (x = [] ∨ 9 < x.length ∨ (∃ c, x.head? = some c ∧ (c.toNat < 49 ∨ 57 < c.toNat))) → digO x = none := by
    intro x hx h
    unfold digO
    rcases h with rfl | h | ⟨c, hc, h⟩
    · simp
    · rw [if_pos (by omega)]
    · by_cases h9 : x.length = 0 ∨ 9 < x.length ∨ (x.head? = some 48 ∧ 1 < x.length)
      · rw [if_pos h9]
      · rw [if_neg h9, if_neg]
        intro hall
        cases x with
        | nil => simp at hc
        | cons y r =>
          simp only [List.head?_cons, Option.some.injEq] at hc
          subst hc
          simp only [List.all_cons, Bool.and_eq_true] at hall
          have hy := (isDg_iff y).1 hall.1
          have hy48 : y = 48 := UInt8.toNat.inj (by show y.toNat = 48; omega)
          subst hy48
          cases r with
          | nil => exact hx rfl
          | cons z r => exact h9 (.inr (.inr ⟨rfl, by simp⟩))
  have dig : ∀ x : List UInt8, x ≠ [] → x.length ≤ 9 → (∀ c, x.head? = some c → 49 ≤ c.toNat ∧ c.toNat ≤ 57) → digO x = (if x.all isDg = true then some (dgN 0 x : Int) else none) ∧ Lib.parseUintB 64 x = (if x.all isDg = true then .ok (dgN 0 x) else Lib.parseUintB 64 []) := by
    intro x hx hl hc
    refine ⟨?_, ?_⟩
    · unfold digO
      rw [if_neg]
      rintro (h | h | ⟨h, -⟩)
      · exact hx (List.eq_nil_of_length_eq_zero h)
      · omega
      · have := hc _ h
        have e : (48 : UInt8).toNat = 48 := rfl
        omega
    · unfold Lib.parseUintB
      rw [if_neg hx]
      refine parseM x 0 _ ?_ (by decide)
      have : 10 ^ x.length ≤ 10 ^ 9 := Nat.pow_le_pow_right (by omega) hl
      omega
  by_cases hm : l.head? = some 45
  · rw [if_pos hm] at hd
    subst hd
    cases l with
    | nil => simp at hm
    | cons c r =>
      simp only [List.head?_cons, Option.some.injEq] at hm
      subst hm
      simp only [List.tail_cons]
      cases r with
      | nil => exact ⟨fun _ => by decide, fun h => absurd rfl h⟩
      | cons c r =>
        have e1 : numO (45 :: c :: r) = (if c = 48 ∨ c = 45 then none else (digO (c :: r)).map fun v => -v) := by
          unfold numO; simp
        refine ⟨fun h => ?_, fun h1 h2 h3 => ?_⟩
        · rw [e1]
          by_cases hc : c = 48 ∨ c = 45
          · rw [if_pos hc]
          · rw [if_neg hc, key (c :: r) (fun e => hc (.inl (by injection e))) h]
            rfl
        · have hc := h3 c rfl
          have e48 : (48 : UInt8).toNat = 48 := rfl
          have e45 : (45 : UInt8).toNat = 45 := rfl
          rw [e1, if_neg (by rintro (rfl | rfl) <;> omega)]
          obtain ⟨d1, d2⟩ := dig (c :: r) h1 h2 h3
          rw [pI_neg, d1, d2]
          by_cases ha : (c :: r).all isDg = true
          · rw [if_pos ha, if_pos ha]
            have := dgN_lt (c :: r) 0 ha
            have h9 : 10 ^ (c :: r).length ≤ 10 ^ 9 := Nat.pow_le_pow_right (by omega) h2
            simp only [Option.map_some]
            rw [if_neg (by omega)]
          · rw [if_neg ha, if_neg ha]
            rfl
  · rw [if_neg hm] at hd
    subst hd
    have e1 : numO d = digO d := by
      unfold numO
      rw [if_neg (fun h => hm h.2)]
    refine ⟨fun h => by rw [e1]; exact key d h0 h, fun h1 h2 h3 => ?_⟩
    obtain ⟨d1, d2⟩ := dig d h1 h2 h3
    rw [e1, d1]
    cases d with
    | nil => exact absurd rfl h1
    | cons c r =>
      have hc := h3 c rfl
      rw [pI_pos c r (by omega) (by omega), d2]
      by_cases ha : (c :: r).all isDg = true
      · rw [if_pos ha, if_pos ha]
        have := dgN_lt (c :: r) 0 ha
        have h9 : 10 ^ (c :: r).length ≤ 10 ^ 9 := Nat.pow_le_pow_right (by omega) h2
        show (if 9223372036854775808 ≤ dgN 0 (c :: r) then _ else _) = _
        rw [if_neg (by omega)]
      · rw [if_neg ha, if_neg ha]
        rfl

section
variable {P : Program} {md : Region.Mode} {ops : Array Oper} {Q : Exit → Act → World → Prop} {S : World → Prop} {fuel : Nat} {listed : Array Bool} {a : Act} {w : World} {d : Option Nat} {op : Op} {ty : TypeId} {ps : String} {af : Array Edge} {gu : Option (Nat × Bool)} {os : List Oper}
theorem tkE9 (i : Nat) (v : Value) (hi : ops[i]? = some ⟨d, op, ty, ps, af, gu⟩) (hb : ((Region.noSelect ops && (Region.free md ops listed i && (Region.ready md ops listed).contains i)) && (Region.wanted ⟨d, op, ty, ps, af, gu⟩ (yielded ops a.tmps) == true)) = true) (hQ : ∀ p : List PanicEntry × Act × World, Q (.panic p.1) (p.2.1.put d v) p.2.2 → Q (.panic p.1) p.2.1 p.2.2) (hS : S w) (hy : ∀ w, S w → (execOp a.eval ⟨d, op, ty, ps, af, gu⟩).run P w = .ok (.value v) w) (h : wpAnyH P md ops Q S fuel (listed.setIfInBounds i true) (a.put d v) w) : wpAnyH P md ops Q S (fuel + 1) listed a w := tkL9 hi (Bool.and_eq_true_iff.1 hb).1 (fun c a w h => hQ (c, a, w) h) (beq_iff_eq.1 (Bool.and_eq_true_iff.1 hb).2) hS hy h
theorem tkI9 (v : Value) (hb : (ops[ops.size - (os.length + 1)]?, ((Region.noSelect ops && (Region.free md ops listed (ops.size - (os.length + 1)) && (Region.ready md ops listed).contains (ops.size - (os.length + 1)))) && (Region.wanted ⟨d, op, ty, ps, af, gu⟩ (yielded ops a.tmps) == true))) = (some ⟨d, op, ty, ps, af, gu⟩, true)) (hQ : ∀ p : List PanicEntry × Act × World, Q (.panic p.1) (p.2.1.put d v) p.2.2 → Q (.panic p.1) p.2.1 p.2.2) (hS : S w) (hy : ∀ w, S w → (execOp a.eval ⟨d, op, ty, ps, af, gu⟩).run P w = .ok (.value v) w) (h : wpAnyH P md ops Q S os.length (listed.setIfInBounds (ops.size - (os.length + 1)) true) (a.put d v) w) : wpAnyH P md ops Q S (⟨d, op, ty, ps, af, gu⟩ :: os).length listed a w := tkE9 _ v (Prod.mk.inj hb).1 (Prod.mk.inj hb).2 hQ hS hy h
theorem rdA9 (i : Nat) (ho : ops[i]? = some ⟨d, op, ty, ps, af, gu⟩) (hr : Region.ready md ops listed = [i]) (h : ∀ K' : Act → World → Prop, Shut (∀ a w, S w → (S w → wpAnyH P md ops Q S fuel (listed.setIfInBounds i true) a w) → K' a w) → if Region.wanted ⟨d, op, ty, ps, af, gu⟩ (yielded ops a.tmps) = true then Oper.wp P ⟨d, op, ty, ps, af, gu⟩ a w K' Q else K' (a.put d undef) w) : wpAnyH P md ops Q S (fuel + 1) listed a w := wpAnyH_ready hr (by simp) (AllReadyH.cons ho h AllReadyH.nil)
end

theorem dl_len (b : ByteArray) : b.data.toList.length = b.size := by rw [Array.length_toList]; rfl
theorem dl_get (b : ByteArray) (i : Nat) (h : i < b.size) : b.data.toList[i]? = some b[i] := by
  rw [Array.getElem?_toList]
  exact Array.getElem?_eq_getElem h
theorem dl_head (b : ByteArray) (h : 0 < b.size) : b.data.toList.head? = some b[0] := by
  rw [List.head?_eq_getElem?]; exact dl_get b 0 h
theorem dl_second (b : ByteArray) (h : 1 < b.size) : b.data.toList.tail.head? = some b[1] := by
  rw [List.head?_eq_getElem?, List.getElem?_tail]; exact dl_get b 1 h
theorem dl_tail (b : ByteArray) : (b.extract 1 b.size).data.toList = b.data.toList.tail := by
  rw [ByteArray.data_extract, Array.toList_extract, List.extract_eq_take_drop]
  rw [List.take_of_length_le (by rw [List.length_drop, dl_len]; omega)]
  exact (List.drop_one)
theorem u8_eq (c : UInt8) (k : Nat) (hk : k < 256) : (((c.toNat : Nat) : Int) == ((k : Nat) : Int)) = decide (c = UInt8.ofNat k) := by
  by_cases h : c = UInt8.ofNat k
  · subst h
    have : (UInt8.ofNat k).toNat = k := by simp; omega
    rw [this]; simp
  · rw [decide_eq_false h]
    refine beq_false_of_ne fun e => h (UInt8.toNat.inj ?_)
    have : (UInt8.ofNat k).toNat = k := by simp; omega
    rw [this]; omega
theorem digO_bound {l : List UInt8} {x : Int} (h : digO l = some x) : 0 ≤ x ∧ x < 1000000000 := by
  unfold digO at h
  split at h
  · cases h
  · rename_i h1
    split at h
    · rename_i h2
      injection h with h
      subst h
      have := dgN_lt l 0 h2
      have h9 : 10 ^ l.length ≤ 10 ^ 9 := Nat.pow_le_pow_right (by omega) (by omega)
      omega
    · cases h
theorem numO_neg {l : List UInt8} {c : UInt8} (h1 : 1 < l.length) (h2 : l.head? = some 45) (h3 : l.tail.head? = some c) : numO l = if c = 48 ∨ c = 45 then none else (numO l.tail).map fun v => -v := by
  unfold numO
  rw [if_pos ⟨h1, h2⟩, h3]
  simp only [Option.some.injEq]
  by_cases hc : c = 48 ∨ c = 45
  · rw [if_pos hc, if_pos hc]
  · rw [if_neg hc, if_neg hc, if_neg (fun h => hc (.inr h.2))]
theorem numO_pos {l : List UInt8} (h : ¬ (1 < l.length ∧ l.head? = some 45)) : numO l = digO l := by unfold numO; rw [if_neg h]

def NumP (w : World) (b : ByteArray) (e : Ending) (w' : World) : Prop := ∃ v ok, e = .returned (.tuple #[.int .i64 v, .bool ok]) ∧ Below w.heap.size w w' ∧ ok = (numO b.data.toList).isSome ∧ ∀ x, numO b.data.toList = some x → v = x
theorem NumP.no {w w' : World} {b : ByteArray} {v : Int} (h : numO b.data.toList = none) (hb : Below w.heap.size w w') : NumP w b (.returned (.tuple #[.int .i64 v, .bool false])) w' := ⟨v, false, rfl, hb, by rw [h]; rfl, fun x hx => by rw [h] at hx; cases hx⟩

theorem take_succ9 (b : ByteArray) (i : Nat) (h : i < b.size) : b.data.toList.take (i + 1) = b.data.toList.take i ++ [b[i]] := by
  have := dl_get b i h
  rw [List.take_add_one, this]
  rfl
theorem all_take9 {l : List UInt8} {p : UInt8 → Bool} {i : Nat} {c : UInt8} (h : l[i]? = some c) (hc : p c = false) : l.all p = false := by
  rw [List.all_eq_false]
  exact ⟨c, List.mem_of_getElem? h, by simp [hc]⟩

set_option linter.unusedSimpArgs false in
set_option maxRecDepth 100000 in
set_option maxHeartbeats 4000000 in
theorem l6Number_dig (b : ByteArray) (w : World) (hs1 : 1 ≤ b.size) (hs9 : b.size ≤ 9) (h45 : b.size = 1 ∨ b[0] ≠ 45) (h48 : b.size = 1 ∨ b[0] ≠ 48) : Calls Tryz.prog 29 #[.string b] w fun e w' => NumP w b e w' := by
  have hnum : numO b.data.toList = if b.data.toList.all isDg = true then some (dgN 0 b.data.toList : Int) else none := by
    rw [numO_pos, digO, if_neg]
    · rw [dl_len, dl_head b (by omega)]
      rintro (h | h | ⟨h, h2⟩)
      · omega
      · omega
      · rcases h48 with h9 | h9
        · omega
        · exact h9 (by injection h)
    · rw [dl_len, dl_head b (by omega)]
      rintro ⟨h2, h⟩
      rcases h45 with h9 | h9
      · omega
      · exact h9 (by injection h)
  have HN : Hid (numO b.data.toList = if b.data.toList.all isDg = true then some (dgN 0 b.data.toList : Int) else none) := hnum
  have hs0 : ((b.size : Int) == 0) = false := beq_false_of_ne (by omega)
  have hs9I : ¬ (9 : Int) < (b.size : Int) := by omega
  clear hnum
  have HD : Hid (∀ i, i ≤ b.size → (b.data.toList.take i).all isDg = true → dgN 0 (b.data.toList.take i) < 1000000000) := fun i hi h => by
    have := dgN_lt _ 0 h
    rw [List.length_take, dl_len] at this
    have h9 : 10 ^ min i b.size ≤ 10 ^ 9 := Nat.pow_le_pow_right (by omega) (by omega)
    omega
  have hcase : (¬ (1 : Int) < (b.size : Int) ∧ True ∧ ((b[0].toNat : Nat) : Int) = 48) ∨ (¬ (1 : Int) < (b.size : Int) ∧ True ∧ (((b[0].toNat : Nat) : Int) == 48) = false) ∨ ((1 : Int) < (b.size : Int) ∧ (((b[0].toNat : Nat) : Int) == 45) = false ∧ (((b[0].toNat : Nat) : Int) == 48) = false) := by
    by_cases h1 : b.size = 1
    · by_cases h8 : ((b[0].toNat : Nat) : Int) = 48
      · exact .inl ⟨by omega, trivial, h8⟩
      · exact .inr (.inl ⟨by omega, trivial, beq_false_of_ne h8⟩)
    · exact .inr (.inr ⟨by omega, (u8_eq b[0] 45 (by omega)).trans (decide_eq_false (h45.resolve_left h1)), (u8_eq b[0] 48 (by omega)).trans (decide_eq_false (h48.resolve_left h1))⟩)
  clear h45 h48
  rcases hcase with ⟨q1, q45, q48⟩ | ⟨q1, q45, q48⟩ | ⟨q1, q45, q48⟩
  all_goals
    go_enter Tryz.func29, Tryz.ntmps29
    go_wp2_with fail
    go_loopw [6, 7] (fun v6 v7 wr => ∃ (i v : Nat), v6 = .int .i64 (v : Int) ∧ v7 = .int .i64 (i : Int) ∧ i ≤ b.size ∧ wr = w ∧ v < 1000000000 ∧ Hid ((b.data.toList.take i).all isDg = true) ∧ Hid (v = dgN 0 (b.data.toList.take i))) (fun _ i _ => b.size - (intOf i).toNat)
    case atStart => exact ⟨0, 0, rfl, rfl, Nat.zero_le _, rfl, by omega, rfl, (dgN_nil 0).symm⟩
    case round =>
      obtain ⟨i, v, rfl, rfl, hi, rfl, hv, HA, HV⟩ := hrel
      by_cases hlt : i < b.size
      · have hltI : (i : Int) < (b.size : Int) := by omega
        by_cases hdg : 48 ≤ b[i].toNat ∧ b[i].toNat ≤ 57
        · have g1 : ¬ ((b[i].toNat : Nat) : Int) < 48 := by omega
          have g2 : ¬ (57 : Int) < ((b[i].toNat : Nat) : Int) := by omega
          go_wp2_with fail
          have h1 : (b.data.toList.take (i + 1)).all isDg = true := by
            rw [take_succ9 b i hlt, List.all_append, HA.out]
            simp [(isDg_iff b[i]).2 hdg]
          have h2 : v * 10 + (b[i].toNat - 48) = dgN 0 (b.data.toList.take (i + 1)) := by rw [take_succ9 b i hlt, dgN_append, ← HV.out]
          have h3 := HD.out (i + 1) hlt h1
          rw [← h2] at h3
          exact ⟨⟨i + 1, v * 10 + (b[i].toNat - 48), by congr 1; omega, by go_num, hlt, trivial, h3, h1, h2⟩, by simp [intOf]; omega⟩
        · have hno : isDg b[i] = false := by
            cases hd : isDg b[i] with
            | false => rfl
            | true => exact absurd ((isDg_iff _).1 hd) hdg
          have hnone : numO b.data.toList = none := by rw [HN.out, if_neg (by rw [all_take9 (dl_get b i hlt) hno]; decide)]
          have HNO := hd9 hnone
          clear hnone HN HA HV HD hno
          by_cases g1 : ((b[i].toNat : Nat) : Int) < 48
          · go_wp2_with fail
            go_ret2
            exact NumP.no HNO.out (Below.refl _ _)
          · have g2 : (57 : Int) < ((b[i].toNat : Nat) : Int) := by omega
            go_wp2_with fail
            go_ret2
            exact NumP.no HNO.out (Below.refl _ _)
      · have hin : i = b.size := by omega
        have hall : b.data.toList.all isDg = true := by
          have := HA.out
          rwa [List.take_of_length_le (by rw [dl_len]; omega)] at this
        have hval : v = dgN 0 b.data.toList := by
          have := HV.out
          rwa [List.take_of_length_le (by rw [dl_len]; omega)] at this
        have hsome : numO b.data.toList = some (v : Int) := by rw [HN.out, if_pos hall, hval]
        have HSO := hd9 hsome
        have hltI : ¬ (i : Int) < (b.size : Int) := by omega
        clear hall hval hsome HN HA HV HD hin
        go_wp2_with fail
        go_ret2
        exact ⟨(v : Int), true, rfl, Below.refl _ _, by rw [HSO.out]; rfl, fun x hx => by rw [HSO.out] at hx; injection hx⟩

set_option linter.unusedSimpArgs false in
set_option maxRecDepth 100000 in
set_option maxHeartbeats 4000000 in
theorem l6Number_any : ∀ (n : Nat) (b : ByteArray) (w : World), b.size ≤ n → n ≤ 1048576 → Calls Tryz.prog 29 #[.string b] w fun e w' => NumP w b e w'
  | 0, b, w, hn, hm => by
    have h0 : (b.size : Int) = 0 := by omega
    have hnone : numO b.data.toList = none := by
      rw [numO_pos (by rw [dl_len]; omega), digO, if_pos (by rw [dl_len]; omega)]
    have HNO := hd9 hnone
    clear hnone
    go_enter Tryz.func29, Tryz.ntmps29
    go_wp2_with fail
    go_ret2
    exact NumP.no HNO.out (Below.refl _ _)
  | n + 1, b, w, hn, hm => by
    by_cases h0 : b.size = 0
    case pos => exact l6Number_any 0 b w (by omega) (by omega)
    by_cases h1 : 1 < b.size ∧ b[0] = 45
    case pos =>
      obtain ⟨h1, h45⟩ := h1
      have h1I : (1 : Int) < (b.size : Int) := by omega
      have q45 : ((b[0].toNat : Nat) : Int) = 45 := by rw [h45]; rfl
      have hnum := numO_neg (l := b.data.toList) (c := b[1]) (by rw [dl_len]; exact h1) (by rw [dl_head b (by omega), h45]) (dl_second b h1)
      have hsz : (b.extract 1 b.size).size ≤ n := by rw [ByteArray.size_extract]; omega
      have HI := hd9 (l6Number_any n (b.extract 1 b.size) w hsz (by omega))
      have HN := hd9 hnum
      clear hnum h45 hsz
      go_enter Tryz.func29, Tryz.ntmps29
      go_wp2_with fail
      refine HI.out.mono ?_
      rintro e w1 ⟨v, ok, rfl, b1, hok, hv⟩
      rw [dl_tail] at hok hv
      have HO := hd9 hok
      have HV := hd9 hv
      have hq : (∀ k : Nat, k < 256 → (((b[1].toNat : Nat) : Int) = (k : Int) ↔ b[1] = UInt8.ofNat k)) := fun k hk => by
        have := u8_eq b[1] k hk
        constructor
        · intro h; rw [beq_iff_eq.2 h] at this; exact of_decide_eq_true this.symm
        · intro h; rw [decide_eq_true h] at this; exact beq_iff_eq.1 this
      have HQ := hd9 hq
      have B1 := hd9 b1
      clear hok hv hq HI b1
      cases ok with
      | false =>
        have hnone : numO b.data.toList = none := by
          rw [HN.out]
          cases hx : numO b.data.toList.tail with
          | none => simp
          | some x => have := HO.out; rw [hx] at this; cases this
        have HNO := hd9 hnone
        clear hnone HN HO HV HQ
        go_wp2_with fail
        go_quiet (fail)
        have B2 := hd9 (B1.out.trans ((below_drewN' w1 nq).mono B1.out.size))
        generalize w1.drewN nq = w2 at *
        go_wp2_with fail
        go_ret2
        exact NumP.no HNO.out B2.out
      | true =>
        by_cases c48 : ((b[1].toNat : Nat) : Int) = 48
        · have hnone : numO b.data.toList = none := by rw [HN.out, if_pos (.inl ((HQ.out 48 (by omega)).1 c48))]
          have HNO := hd9 hnone
          clear hnone HN HO HV HQ
          go_wp2_with fail
          go_quiet (fail)
          have B2 := hd9 (B1.out.trans ((below_drewN' w1 nq).mono B1.out.size))
          generalize w1.drewN nq = w2 at *
          go_wp2_with fail
          go_ret2
          exact NumP.no HNO.out B2.out
        · by_cases c45 : ((b[1].toNat : Nat) : Int) = 45
          · have hnone : numO b.data.toList = none := by rw [HN.out, if_pos (.inr ((HQ.out 45 (by omega)).1 c45))]
            have HNO := hd9 hnone
            clear hnone HN HO HV HQ
            go_wp2_with fail
            go_quiet (fail)
            have B2 := hd9 (B1.out.trans ((below_drewN' w1 nq).mono B1.out.size))
            generalize w1.drewN nq = w2 at *
            go_wp2_with fail
            go_ret2
            exact NumP.no HNO.out B2.out
          · have hn : numO b.data.toList = (numO b.data.toList.tail).map fun v => -v := by
              rw [HN.out, if_neg]
              rintro (h | h)
              · exact c48 ((HQ.out 48 (by omega)).2 h)
              · exact c45 ((HQ.out 45 (by omega)).2 h)
            have hd : numO b.data.toList.tail = digO b.data.toList.tail := numO_pos (fun h9 => c45 ((HQ.out 45 (by omega)).2 (by
              have := h9.2
              rw [dl_second b h1] at this
              injection this)))
            obtain ⟨x, hx⟩ : ∃ x, numO b.data.toList.tail = some x := Option.isSome_iff_exists.1 HO.out.symm
            have hbd := digO_bound (hd ▸ hx)
            have hvx : v = x := HV.out x hx
            subst hvx
            have hsome : numO b.data.toList = some (-v) := by rw [hn, hx]; rfl
            have HSO := hd9 hsome
            obtain ⟨hb1, hb2⟩ := hbd
            clear hn hd hx hsome HN HO HV HQ
            go_wp2_with fail
            go_quiet (fail)
            have B2 := hd9 (B1.out.trans ((below_drewN' w1 nq).mono B1.out.size))
            generalize w1.drewN nq = w2 at *
            go_wp2_with fail
            go_ret2
            have e1 : IntKind.i64.wrap (-v) = -v := IntWalk.i64_in _ ⟨by omega, by omega⟩
            have e2 : (((b[1].toNat : Nat) : Int) != 48 && ((b[1].toNat : Nat) : Int) != 45) = true := by simp [c48, c45]
            refine ⟨-v, true, ?_, B2.out, by rw [HSO.out]; rfl, fun y hy => by rw [HSO.out] at hy; injection hy⟩
            show Ending.returned (.tuple #[.int .i64 (IntKind.i64.wrap (-v)), .bool (((b[1].toNat : Nat) : Int) != 48 && ((b[1].toNat : Nat) : Int) != 45)]) = _
            rw [e1, e2]
    case neg =>
      by_cases h9 : b.size ≤ 9
      · by_cases h48 : 1 < b.size ∧ b[0] = 48
        · obtain ⟨hs, h48⟩ := h48
          have hnone : numO b.data.toList = none := by
            rw [numO_pos, digO, if_pos]
            · rw [dl_len, dl_head b (by omega), h48]; exact .inr (.inr ⟨rfl, hs⟩)
            · rw [dl_len, dl_head b (by omega), h48]; rintro ⟨-, h⟩; injection h with h; cases h
          have HNO := hd9 hnone
          have hsI : (1 : Int) < (b.size : Int) := by omega
          have h0I : ((b.size : Int) == 0) = false := beq_false_of_ne (by omega)
          have h9I : ¬ (9 : Int) < (b.size : Int) := by omega
          have q48 : ((b[0].toNat : Nat) : Int) = 48 := by rw [h48]; rfl
          clear hnone h48 h1
          go_enter Tryz.func29, Tryz.ntmps29
          go_wp2_with fail
          go_ret2
          exact NumP.no HNO.out (Below.refl _ _)
        · refine l6Number_dig b w (by omega) h9 ?_ ?_
          · by_cases e : b.size = 1
            · exact .inl e
            · exact .inr fun h => h1 ⟨by omega, h⟩
          · by_cases e : b.size = 1
            · exact .inl e
            · exact .inr fun h => h48 ⟨by omega, h⟩
      · have hs : 1 < b.size := by omega
        have h45 : b[0] ≠ 45 := fun h => h1 ⟨hs, h⟩
        have hnone : numO b.data.toList = none := by
          rw [numO_pos, digO, if_pos]
          · rw [dl_len]; exact .inr (.inl (by omega))
          · rw [dl_head b (by omega)]; rintro ⟨-, h⟩; injection h with h; exact h45 h
        have HNO := hd9 hnone
        have hsI : (1 : Int) < (b.size : Int) := by omega
        have h0I : ((b.size : Int) == 0) = false := beq_false_of_ne (by omega)
        have h9I : (9 : Int) < (b.size : Int) := by omega
        have q45 : (((b[0].toNat : Nat) : Int) == 45) = false := (u8_eq b[0] 45 (by omega)).trans (decide_eq_false h45)
        clear hnone h45 h1
        go_enter Tryz.func29, Tryz.ntmps29
        go_wp2_with fail
        go_ret2
        exact NumP.no HNO.out (Below.refl _ _)

end Go.Proofs.YtmjliomhhgahkaaGreatDoor


