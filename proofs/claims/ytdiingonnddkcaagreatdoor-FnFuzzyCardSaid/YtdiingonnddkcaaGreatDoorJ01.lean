import Derived.OrdersHeld
import Derived.WalkKit
import Derived.ProofKit
import Derived.OpenShut
import Derived.Handy
import Derived.Carry
import Derived.WalkSpells
import Derived.WalkSmall
import Derived.Test.YtdiingonnddkcaaGreatDoorChecked
import Derived.Deep.QuietTactic
import Derived.BigQuiet
import Derived.Laws.BytesArg
import Derived.Lib.Bytealg
import Derived.Laws.Externs
import Derived.Lib.IndexLaws
import Derived.RangeFuncNested
import Derived.RangeFuncLeaves
import Derived.Shelf.Abstract
import Derived.OwnWalkIn
import Derived.TacticsInMore
import Derived.LoopNIn
import Derived.LoopIn
import Derived.RangeFuncBox
namespace Go.Proofs.YtdiingonnddkcaaGreatDoor
open Go.RowKit

/-- A slice of one-cell integers that reads as xs. -/
def Rd (k : IntKind) (w : World) (v : Value) (xs : List Int) : Prop :=
  ∃ ao cap, v = .slice ao xs.length cap ∧ xs.length ≤ cap ∧ cap ≤ maxLen ∧
    (xs = [] ∨ ∃ b off, ao = some ⟨b, off, none⟩ ∧ b < w.heap.size ∧ ∀ i, i < xs.length → w.cell? ⟨b, off + i, none⟩ = some (.int k (xs.getD i 0)))

/-- A slice of one-cell integers that is the call's own, from block 'base' on. -/
def Own (k : IntKind) (e : TypeId) (w : World) (base : Nat) (v : Value) (xs : List Int) : Prop :=
  w.ownsRow base e 1 v xs.length (xs.map (Value.int k))

theorem Own.rd {k : IntKind} {e : TypeId} {w : World} {base : Nat} {v : Value} {xs : List Int} (h : Own k e w base v xs) : Rd k w v xs := by
  rcases h.2 with ⟨rfl, h0⟩ | ⟨g, cap, cur, rfl, hb, hg, hn, hm, hs, ht⟩
  · have : xs = [] := List.eq_nil_of_length_eq_zero h0
    subst this
    exact ⟨none, 0, rfl, Nat.le_refl _, Nat.zero_le _, .inl rfl⟩
  · refine ⟨_, cap, rfl, hn, hm, .inr ⟨g, 0, rfl, (Array.getElem?_eq_some_iff.1 hg).1, fun i hi => ?_⟩⟩
    have h1 := World.ownsRow.cells h (g := g) rfl i (.int k (xs.getD i 0)) (by simp [List.getD, hi])
    rw [Addr.add_lit] at h1
    exact h1

theorem Rd.below {k : IntKind} {w w' : World} {v : Value} {xs : List Int} (h : Rd k w v xs) (hb : Below w.heap.size w w') : Rd k w' v xs := by
  obtain ⟨ao, cap, rfl, h1, h2, h3⟩ := h
  refine ⟨ao, cap, rfl, h1, h2, ?_⟩
  rcases h3 with h3 | ⟨b, off, rfl, hlt, hc⟩
  · exact .inl h3
  · exact .inr ⟨b, off, rfl, Nat.lt_of_lt_of_le hlt hb.size, fun i hi => by rw [hb.cell (p := ⟨b, off + i, none⟩) hlt]; exact hc i hi⟩

theorem below_drewN' (w : World) (n : Nat) : Below w.heap.size w (w.drewN n) := ⟨rfl, rfl, rfl, Nat.le_refl _, fun _ _ => rfl⟩

theorem Rd.len {k : IntKind} {w : World} {v : Value} {xs : List Int} (h : Rd k w v xs) : ∃ ao cap, v = .slice ao xs.length cap ∧ xs.length ≤ cap ∧ cap ≤ maxLen := by
  obtain ⟨ao, cap, h0, h1, h2, _⟩ := h
  exact ⟨ao, cap, h0, h1, h2⟩

theorem hd9 {p : Prop} (h : p) : Hid p := h
theorem sT9 {α : Type} (l : List α) (i : Nat) (a : α) : l.toArray.setIfInBounds i a = (l.set i a).toArray := List.setIfInBounds_toArray ..
theorem sZ9 {α : Type} (a b : α) (l : List α) : (a :: l).set 0 b = b :: l := rfl
theorem sS9 {α : Type} (a b : α) (l : List α) (n : Nat) : (a :: l).set (n + 1) b = a :: l.set n b := rfl
theorem tk9 {P : Program} {md : Region.Mode} {ops : Array Oper} {Q : Exit → Act → World → Prop} {S : World → Prop} {i : Nat} {oi : Oper} {v : Value} {fuel : Nat} {listed : Array Bool} {a : Act} {w : World} (hi : ops[i]? = some oi)
    (hb : (Region.noSelect ops && (Region.free md ops listed i && (Region.ready md ops listed).contains i)) = true)
    (hQ : ∀ c a w, Q (.panic c) (a.put oi.dst v) w → Q (.panic c) a w) (hy : YieldsIf P ops S oi v a) (hS : S w)
    (h : wpAnyH P md ops Q S fuel (listed.setIfInBounds i true) (a.put oi.dst v) w) : wpAnyH P md ops Q S (fuel + 1) listed a w := by
  simp only [Bool.and_eq_true] at hb
  exact wpAnyH_take hi hb.1 hb.2.1 hb.2.2 hQ hy hS h

theorem tkL9 {P : Program} {md : Region.Mode} {ops : Array Oper} {Q : Exit → Act → World → Prop} {S : World → Prop} {i : Nat} {oi : Oper} {v : Value} {fuel : Nat} {listed : Array Bool} {a : Act} {w : World} (hi : ops[i]? = some oi)
    (hb : (Region.noSelect ops && (Region.free md ops listed i && (Region.ready md ops listed).contains i)) = true)
    (hQ : ∀ c a w, Q (.panic c) (a.put oi.dst v) w → Q (.panic c) a w) (hw : Region.wanted oi (yielded ops a.tmps) = true) (hS : S w) (hy : ∀ w, S w → (execOp a.eval oi).run P w = .ok (.value v) w)
    (h : wpAnyH P md ops Q S fuel (listed.setIfInBounds i true) (a.put oi.dst v) w) : wpAnyH P md ops Q S (fuel + 1) listed a w := tk9 hi hb hQ (Or.inl ⟨hw, hy⟩) hS h
theorem tkR9 {P : Program} {md : Region.Mode} {ops : Array Oper} {Q : Exit → Act → World → Prop} {S : World → Prop} {i : Nat} {oi : Oper} {fuel : Nat} {listed : Array Bool} {a : Act} {w : World} (hi : ops[i]? = some oi)
    (hb : (Region.noSelect ops && (Region.free md ops listed i && (Region.ready md ops listed).contains i)) = true)
    (hQ : ∀ c a w, Q (.panic c) (a.put oi.dst undef) w → Q (.panic c) a w) (hw : Region.wanted oi (yielded ops a.tmps) = false) (hS : S w)
    (h : wpAnyH P md ops Q S fuel (listed.setIfInBounds i true) (a.put oi.dst undef) w) : wpAnyH P md ops Q S (fuel + 1) listed a w := tk9 hi hb hQ (Or.inr ⟨hw, rfl⟩) hS h


theorem ret_b {a b : Bool} (h : a = b) : Ending.returned (.bool a) = .returned (.bool b) := by rw [h]

/-- A letter or a digit. -/
def okB (x : Nat) : Bool := (decide (97 ≤ x) && decide (x ≤ 122)) || (decide (48 ≤ x) && decide (x ≤ 57))
/-- A name. -/
def bN (s : ByteArray) (j : Nat) : Nat := (s.data.toList.getD j 0).toNat
def okN (s : ByteArray) : Bool := decide (1 ≤ s.size) && decide (s.size ≤ 16) && (List.range s.size).all (fun j => okB (bN s j))

theorem bN_get (s : ByteArray) (j : Nat) (h : j < s.size) : bN s j = s[j].toNat := by
  have h' : j < s.data.toList.length := h
  unfold bN
  simp only [List.getD, List.getElem?_eq_getElem h', Option.getD_some]
  rfl
theorem okN_no {s : ByteArray} {j : Nat} (h : j < s.size) (hb : okB (bN s j) = false) : okN s = false := by
  unfold okN
  have : (List.range s.size).all (fun j => okB (bN s j)) = false := by
    rw [List.all_eq_false]
    exact ⟨j, List.mem_range.2 h, by rw [hb]; simp⟩
  rw [this, Bool.and_false]
theorem okN_yes {s : ByteArray} (h1 : 1 ≤ s.size) (h2 : s.size ≤ 16) (h : ∀ j, j < s.size → okB (bN s j) = true) : okN s = true := by
  unfold okN
  rw [decide_eq_true h1, decide_eq_true h2]
  simp only [Bool.true_and, List.all_eq_true, List.mem_range]
  exact h

set_option maxHeartbeats 400000 in
set_option maxRecDepth 100000 in
theorem letter_any (w : World) (x : Nat) (hx : x < 256) :
    Calls Tryz.prog 97 #[.int .u8 (x : Int)] w fun e w' => e = .returned (.bool (okB x)) ∧ w' = w := by
  go_enter Tryz.func97, Tryz.ntmps97
  go_wp2
  all_goals
    go_ret
    refine ⟨ret_b ?_, rfl⟩
    unfold okB
    rw [Bool.eq_iff_iff]
    simp only [Bool.and_eq_true, Bool.or_eq_true, decide_eq_true_eq, Bool.false_eq_true, false_iff, true_iff]
    omega


theorem Tryz.infoT : (Tryz.prog.info? 9).map (fun i => (i.zero, i.size, i.bytes)) = some (some (.string ByteArray.empty), 1, 16) := by kernel_rfl

/-- The pieces between slashes, with the piece under way. -/
def splA : List UInt8 → List UInt8 → List (List UInt8)
  | cur, [] => [cur]
  | cur, x :: l => if x = 47 then cur :: splA [] l else splA (cur ++ [x]) l
theorem splA_sl (cur l : List UInt8) : splA cur (47 :: l) = cur :: splA [] l := by simp [splA]
theorem splA_ch {x : UInt8} (h : ¬ x = 47) (cur l : List UInt8) : splA cur (x :: l) = splA (cur ++ [x]) l := by simp [splA, h]
def nm (s : ByteArray) : List (List UInt8) := splA [] (s.data.toList.drop 1)
def seg (s : ByteArray) (a b : Nat) : List UInt8 := (s.data.toList.drop a).take (b - a)
def sV (l : List UInt8) : Value := .string ⟨l.toArray⟩

theorem seg_self (s : ByteArray) (a : Nat) : seg s a a = [] := by unfold seg; simp
theorem seg_succ (s : ByteArray) (a i : Nat) (ha : a ≤ i) (hi : i < s.size) : seg s a (i + 1) = seg s a i ++ [s[i]] := by
  have hl : i < s.data.toList.length := hi
  unfold seg
  rw [show i + 1 - a = (i - a) + 1 by omega, List.take_succ_eq_append_getElem (by rw [List.length_drop]; omega)]
  congr 1
  rw [List.getElem_drop]
  simp only [show a + (i - a) = i by omega]
  rfl
theorem drop_cons (s : ByteArray) (i : Nat) (hi : i < s.size) : s.data.toList.drop i = s[i] :: s.data.toList.drop (i + 1) := by
  have hl : i < s.data.toList.length := hi
  rw [List.drop_eq_getElem_cons hl]; rfl
theorem extract_seg (s : ByteArray) (a b : Nat) : s.extract a b = ⟨(seg s a b).toArray⟩ := by
  apply ByteArray.ext
  rw [ByteArray.data_extract]
  apply Array.ext'
  unfold seg
  rw [Array.toList_extract, List.extract_eq_take_drop]

theorem row_slice {w : World} {lo n : Nat} {e : TypeId} {v : Value} {us : List Value} (h : w.ownsRow lo e 1 v n us) : ∃ a c, v = .slice a n c ∧ n ≤ c ∧ c ≤ maxLen := by
  rcases h.2 with ⟨rfl, rfl⟩ | ⟨g, cap, cur, rfl, -, -, h1, h2, -⟩
  · exact ⟨none, 0, rfl, Nat.le_refl _, Nat.zero_le _⟩
  · exact ⟨_, _, rfl, h1, h2⟩

set_option maxHeartbeats 1000000 in
set_option maxRecDepth 100000 in
theorem names_any (w : World) (s : ByteArray) (h1 : 1 ≤ s.size) (h2 : s.size ≤ 1048576) :
    Calls Tryz.prog 96 #[.string s] w fun e w' => ∃ v, e = .returned v ∧ w'.ownsRow w.heap.size 9 1 v (nm s).length ((nm s).map sV) ∧ Below w.heap.size w w' := by
  obtain ⟨i0, hi, hz0, hz1, hz2⟩ := info_parts Tryz.infoT
  go_enter Tryz.func96, Tryz.ntmps96
  go_wp2
  go_loopw [3, 4, 5] (fun vo vf vi wr => ∃ (i fr : Nat) (acc : List (List UInt8)), 1 ≤ fr ∧ i ≤ s.size + 1 ∧ vi = .int .i64 i ∧ vf = .int .i64 fr ∧ acc.length ≤ i ∧ ((i ≤ s.size ∧ fr ≤ i ∧ Hid (nm s = acc ++ splA (seg s fr i) (s.data.toList.drop i))) ∨ (i = s.size + 1 ∧ fr = s.size + 1 ∧ Hid (nm s = acc))) ∧ Hid (wr.ownsRow w.heap.size 9 1 vo acc.length (acc.map sV)) ∧ Hid (Below w.heap.size w wr)) (fun _ _ i _ => s.size + 1 - (intOf i).toNat)
  case atStart =>
    refine ⟨1, 1, [], Nat.le_refl _, by omega, rfl, rfl, by simp, .inl ⟨h1, Nat.le_refl _, ?_⟩, World.ownsRow_lit w #[] 0 (Nat.le_refl _) (Nat.zero_le _) rfl, (Below.refl _ _).alloc (Nat.le_refl _) _⟩
    show nm s = _
    rw [seg_self]; rfl
  case round =>
    obtain ⟨i, fr, acc, hf1, hi1, rfl, rfl, hal, hst, HO, HB⟩ := hrel
    have sB := HB.out.size
    obtain ⟨a, c, hv, -, -⟩ := row_slice HO.out
    rcases hst with ⟨hi2, hfi, HN⟩ | ⟨hi2, hf2, HN⟩
    · have hI : (i : Int) ≤ (s.size : Int) := by omega
      by_cases hend : i = s.size
      · have he : ((i : Int) == (s.size : Int)) = true := by rw [hend]; simp
        have HN2 : Hid (nm s = acc ++ [seg s fr i]) := by
          show _ = _
          rw [HN.out, List.drop_eq_nil_of_le (by show s.size ≤ i; omega)]; rfl
        have HEX : Hid (Value.string (s.extract fr i) = sV (seg s fr i)) := by show _ = _; rw [extract_seg]; rfl
        have hk1 : (fr : Int) ≤ (i : Int) := by omega
        have hk2 : fr ≤ i := by omega
        have HEND := hd9 hend
        clear hend
        subst hv
        go_wp2_with (at_builtin; go_must (refine wpList_append_own _ rfl _ _ 32 rfl w.heap.size 9 i0 (.string ByteArray.empty) 1 16 Tryz.underlying32 hi hz0 hz1 hz2 rfl (by decide) _ _ _ rfl (HO.out.alloc _) ⟨wr.heap.size, 0, none⟩ 1 1 [.string (s.extract fr i)] rfl rfl (cell_one_new _ _ _) (by intro u hu; simp at hu; subst hu; rfl) ?_ ?_ ?_ ?_))
        · unfold maxLen; omega
        · omega
        · simp; omega
        intro v2 w2 ho2 hg2 _
        have HO2 : Hid (w2.ownsRow w.heap.size 9 1 v2 (acc ++ [seg s fr i]).length ((acc ++ [seg s fr i]).map sV)) := by
          rw [HEX.out] at ho2
          show World.ownsRow _ _ _ _ _ _ _
          rw [List.length_append, List.map_append]; exact ho2
        have HB2 := hd9 ((HB.out.alloc sB _).grown hg2 (by simp; omega) (fun q hq => (World.ownsRow.lt HO.out q hq).1))
        clear ho2 hg2 HO HB
        go_wp2
        exact ⟨⟨i + 1, i + 1, acc ++ [seg s fr i], by omega, by have := HEND.out; omega, by go_num, by go_num, by rw [List.length_append]; simp; omega, .inr ⟨by have := HEND.out; omega, by have := HEND.out; omega, HN2⟩, HO2, HB2⟩, by simp [intOf]; omega⟩
      · have hlt : i < s.size := by omega
        have he : ((i : Int) == (s.size : Int)) = false := beq_eq_false_iff_ne.2 (by omega)
        have hltI : (i : Int) < (s.size : Int) := by omega
        have HC := hd9 (drop_cons s i hlt)
        have HEX : Hid (Value.string (s.extract fr i) = sV (seg s fr i)) := by show _ = _; rw [extract_seg]; rfl
        have hk1 : (fr : Int) ≤ (i : Int) := by omega
        have hk2 : fr ≤ i := by omega
        by_cases h47 : s[i] = 47
        · have e47 : ((s[i].toNat : Int) == 47) = true := by rw [h47]; rfl
          have HN2 : Hid (nm s = (acc ++ [seg s fr i]) ++ splA (seg s (i + 1) (i + 1)) (s.data.toList.drop (i + 1))) := by
            show _ = _
            rw [HN.out, HC.out, h47, splA_sl, seg_self, List.append_assoc]
            rfl
          clear h47
          subst hv
          go_wp2_with (at_builtin; go_must (refine wpList_append_own _ rfl _ _ 32 rfl w.heap.size 9 i0 (.string ByteArray.empty) 1 16 Tryz.underlying32 hi hz0 hz1 hz2 rfl (by decide) _ _ _ rfl (HO.out.alloc _) ⟨wr.heap.size, 0, none⟩ 1 1 [.string (s.extract fr i)] rfl rfl (cell_one_new _ _ _) (by intro u hu; simp at hu; subst hu; rfl) ?_ ?_ ?_ ?_))
          · unfold maxLen; omega
          · omega
          · simp; omega
          intro v2 w2 ho2 hg2 _
          have HO2 : Hid (w2.ownsRow w.heap.size 9 1 v2 (acc ++ [seg s fr i]).length ((acc ++ [seg s fr i]).map sV)) := by
            rw [HEX.out] at ho2
            show World.ownsRow _ _ _ _ _ _ _
            rw [List.length_append, List.map_append]; exact ho2
          have HB2 := hd9 ((HB.out.alloc sB _).grown hg2 (by simp; omega) (fun q hq => (World.ownsRow.lt HO.out q hq).1))
          clear ho2 hg2 HO HB
          go_wp2
          exact ⟨⟨i + 1, i + 1, acc ++ [seg s fr i], by omega, by omega, by go_num, by go_num, by rw [List.length_append]; simp; omega, .inl ⟨by omega, Nat.le_refl _, HN2⟩, HO2, HB2⟩, by simp [intOf]; omega⟩
        · have e47 : ((s[i].toNat : Int) == 47) = false := by
            rw [beq_eq_false_iff_ne]
            intro h
            apply h47
            apply UInt8.toNat_inj.1
            have : s[i].toNat = 47 := by omega
            rw [this]; rfl
          have HN2 : Hid (nm s = acc ++ splA (seg s fr (i + 1)) (s.data.toList.drop (i + 1))) := by
            show _ = _
            rw [HN.out, HC.out, splA_ch h47, seg_succ s fr i hk2 hlt]
          clear h47 hv
          go_wp2
          exact ⟨⟨i + 1, fr, acc, hf1, by omega, by go_num, rfl, by omega, .inl ⟨by omega, by omega, HN2⟩, HO, HB⟩, by simp [intOf]; omega⟩
    · have hI : ¬ (i : Int) ≤ (s.size : Int) := by omega
      clear hv
      go_wp2
      go_ret
      exact ⟨_, rfl, by rw [HN.out]; exact HO.out, HB.out⟩


def okL (l : List UInt8) : Bool := okN ⟨l.toArray⟩
def okPath (s : ByteArray) : Bool := decide (s.data.toList = [47]) || (decide (2 ≤ s.size) && decide (bN s 0 = 47) && decide ((nm s).length ≤ 6) && (nm s).all okL)

theorem splA_pos : ∀ (l cur : List UInt8), 0 < (splA cur l).length
  | [], cur => by simp [splA]
  | x :: l, cur => by
    by_cases h : x = 47
    · subst h; rw [splA_sl]; simp
    · rw [splA_ch h]; exact splA_pos l _
theorem splA_len : ∀ (l cur : List UInt8), (splA cur l).length ≤ l.length + 1
  | [], cur => by simp [splA]
  | x :: l, cur => by
    by_cases h : x = 47
    · subst h; rw [splA_sl]; have := splA_len l []; simp only [List.length_cons]; omega
    · rw [splA_ch h]; have := splA_len l (cur ++ [x]); simp only [List.length_cons]; omega
theorem nm_pos (s : ByteArray) : 0 < (nm s).length := splA_pos _ _
theorem nm_len (s : ByteArray) : (nm s).length ≤ s.size + 1 := by
  have := splA_len (s.data.toList.drop 1) []
  have h2 : (s.data.toList.drop 1).length ≤ s.size := by rw [List.length_drop]; show s.size - 1 ≤ _; omega
  unfold nm; omega
theorem okPath_root {s : ByteArray} (h : s.data.toList = [47]) : okPath s = true := by unfold okPath; rw [decide_eq_true h]; rfl
theorem okPath_not {s : ByteArray} (h : ¬ s.data.toList = [47]) : okPath s = (decide (2 ≤ s.size) && decide (bN s 0 = 47) && decide ((nm s).length ≤ 6) && (nm s).all okL) := by unfold okPath; rw [decide_eq_false h]; rfl
def pN (rs : List (List UInt8)) (i : Nat) : ByteArray := ⟨(rs.getD i []).toArray⟩
theorem all_no {rs : List (List UInt8)} {i : Nat} (h : i < rs.length) (hn : okN (pN rs i) = false) : rs.all okL = false := by
  rw [List.all_eq_false]
  refine ⟨rs[i], List.getElem_mem h, ?_⟩
  unfold okL
  have : pN rs i = ⟨rs[i].toArray⟩ := by unfold pN; simp [List.getD, h]
  rw [← this, hn]; simp
theorem all_yes {rs : List (List UInt8)} (hn : ∀ i, i < rs.length → okN (pN rs i) = true) : rs.all okL = true := by
  rw [List.all_eq_true]
  intro l hl
  obtain ⟨i, hi, rfl⟩ := List.mem_iff_getElem.1 hl
  have := hn i hi
  unfold okL
  have e : pN rs i = ⟨rs[i].toArray⟩ := by unfold pN; simp [List.getD, hi]
  rw [← e]; exact this

set_option maxHeartbeats 1000000 in
set_option maxRecDepth 100000 in
theorem specPath_any (w : World) (s : ByteArray) (h2 : s.size ≤ 1048576) :
    Calls Tryz.prog 64 #[.string s] w fun e w' => e = .returned (.bool (okPath s)) ∧ Below w.heap.size w w' := by
  by_cases hr : s.data.toList = [47]
  · have hrt : (s.toList == [47]) = true := by rw [ByteArray.toList_eq, hr]; rfl
    have HP := hd9 (okPath_root hr)
    clear hr
    go_enter Tryz.func64, Tryz.ntmps64
    go_wp2
    go_ret
    exact ⟨ret_b HP.out.symm, Below.refl _ _⟩
  · have hrt : (s.toList == [47]) = false := by rw [ByteArray.toList_eq, beq_eq_false_iff_ne]; exact hr
    have HP := hd9 (okPath_not hr)
    clear hr
    by_cases hs : s.size < 2
    · have hsI : (s.size : Int) < 2 := by omega
      have HP2 : Hid (okPath s = false) := by show _ = _; rw [HP.out, decide_eq_false (by omega)]; rfl
      go_enter Tryz.func64, Tryz.ntmps64
      go_wp2
      go_ret
      exact ⟨ret_b HP2.out.symm, Below.refl _ _⟩
    · have hsI : ¬ (s.size : Int) < 2 := by omega
      have h0 : 0 < s.size := by omega
      have hb0 := bN_get s 0 h0
      by_cases h47 : s[0].toNat = 47
      · have e47 : ((s[0].toNat : Int) != 47) = false := by rw [h47]; rfl
        have HP2 : Hid (okPath s = (decide ((nm s).length ≤ 6) && (nm s).all okL)) := by show _ = _; rw [HP.out, decide_eq_true (show 2 ≤ s.size by omega), decide_eq_true (hb0.trans h47)]; rfl
        clear h47 hb0 HP
        go_enter Tryz.func64, Tryz.ntmps64
        go_wp2_with fail
        refine (names_any _ s (by omega) h2).mono ?_
        rintro e w1 ⟨v, rfl, ho, hb⟩
        have hnl := nm_len s
        have hnp := nm_pos s
        obtain ⟨rs, hrs⟩ : ∃ rs, rs = nm s := ⟨_, rfl⟩
        rw [← hrs] at ho hnl hnp
        rw [← hrs] at HP2
        clear hrs
        obtain ⟨g, c, rfl⟩ : ∃ g c, v = .slice (some ⟨g, 0, none⟩) rs.length c := by
          rcases ho.2 with ⟨rfl, h1⟩ | ⟨g, cap, cur, rfl, -⟩
          · omega
          · exact ⟨g, cap, rfl⟩
        have HC : Hid (∀ i, i < rs.length → w1.cell? ⟨g, i, none⟩ = some (.string (pN rs i))) := fun i hi => by
          rw [World.ownsRow.cellAt ho i (by omega)]
          simp [pN, List.getD, hi, sV]
        have HB := hd9 hb
        clear ho hb
        by_cases h6 : rs.length ≤ 6
        · have h6I : ¬ (6 : Int) < (rs.length : Int) := by omega
          have HP3 : Hid (okPath s = rs.all okL) := by show _ = _; rw [HP2.out, decide_eq_true h6]; rfl
          clear HP2
          go_wp2
          go_loopw [4] (fun vi wr => ∃ i : Nat, i ≤ rs.length ∧ vi = .int .i64 i ∧ Hid (∀ t, t < i → okN (pN rs t) = true) ∧ ∃ q, wr = w1.drewN q) (fun i _ => rs.length - (intOf i).toNat)
          case atStart => exact ⟨0, Nat.zero_le _, rfl, (fun t ht => by omega), 0, rfl⟩
          case round =>
            obtain ⟨i, hi, rfl, HK, q, rfl⟩ := hrel
            by_cases hlt : i < rs.length
            · have hltI : (i : Int) < (rs.length : Int) := by omega
              have c1 := HC.out i hlt
              obtain ⟨p, hp⟩ : ∃ p, p = pN rs i := ⟨_, rfl⟩
              have HPI := hd9 hp
              rw [← hp] at c1
              clear hp
              by_cases hp1 : p.size < 1
              · have hpI : (p.size : Int) < 1 := by omega
                have HF : Hid (okPath s = false) := by show _ = _; rw [HP3.out]; exact all_no hlt (by rw [← HPI.out]; unfold okN; rw [decide_eq_false (by omega)]; rfl)
                have BQ := hd9 (HB.out.trans ((below_drewN' w1 q).mono HB.out.size))
                go_wp2
                go_ret
                exact ⟨ret_b HF.out.symm, BQ.out⟩
              · have hpI : ¬ (p.size : Int) < 1 := by omega
                by_cases hp2 : 16 < p.size
                · have hpI2 : (16 : Int) < (p.size : Int) := by omega
                  have HF : Hid (okPath s = false) := by show _ = _; rw [HP3.out]; exact all_no hlt (by rw [← HPI.out]; unfold okN; rw [decide_eq_false (show ¬ p.size ≤ 16 by omega)]; simp)
                  have BQ := hd9 (HB.out.trans ((below_drewN' w1 q).mono HB.out.size))
                  go_wp2
                  go_ret
                  exact ⟨ret_b HF.out.symm, BQ.out⟩
                · have hpI2 : ¬ (16 : Int) < (p.size : Int) := by omega
                  go_wp2
                  go_loopw [5] (fun vj wr => ∃ j : Nat, j ≤ p.size ∧ vj = .int .i64 j ∧ Hid (∀ t, t < j → okB (bN p t) = true) ∧ ∃ q, wr = w1.drewN q) (fun j _ => p.size - (intOf j).toNat)
                  case atStart => exact ⟨0, Nat.zero_le _, rfl, (fun t ht => by omega), q, rfl⟩
                  case round =>
                    obtain ⟨j, hj, rfl, HJ, q2, rfl⟩ := hrel
                    by_cases hjl : j < p.size
                    · have hjI : (j : Int) < (p.size : Int) := by omega
                      have hbn := bN_get p j hjl
                      have hx8 : p[j].toNat < 256 := p[j].toNat_lt
                      go_wp2_with fail
                      refine (letter_any _ p[j].toNat hx8).mono ?_
                      rintro e w3 ⟨rfl, rfl⟩
                      by_cases hok : okB (bN p j) = true
                      · have HOK : Hid (okB (bN p j) = true) := hok
                        rw [hbn] at hok
                        rw [hok]
                        clear hok hbn
                        go_wp2
                        exact ⟨⟨j + 1, by omega, by go_num, (fun t ht => by by_cases e : t = j; (subst e; exact HOK.out); exact HJ.out t (by omega)), q2, rfl⟩, by simp [intOf]; omega⟩
                      · have hok' : okB (bN p j) = false := by simpa using hok
                        have HF : Hid (okPath s = false) := by show _ = _; rw [HP3.out]; exact all_no hlt (by rw [← HPI.out]; exact okN_no hjl hok')
                        have BQ := hd9 (HB.out.trans ((below_drewN' w1 q2).mono HB.out.size))
                        rw [hbn] at hok'
                        rw [hok']
                        clear hok hok' hbn
                        go_wp2
                        go_ret
                        exact ⟨ret_b HF.out.symm, BQ.out⟩
                    · have hjI : ¬ (j : Int) < (p.size : Int) := by omega
                      have HOK : Hid (okN (pN rs i) = true) := by
                        show _ = _
                        rw [← HPI.out]
                        exact okN_yes (by omega) (by omega) (fun t ht => HJ.out t (by omega))
                      go_wp2
                      exact ⟨⟨i + 1, by omega, by go_num, (fun t ht => by by_cases e : t = i; (subst e; exact HOK.out); exact HK.out t (by omega)), q2, rfl⟩, by simp [intOf]; omega⟩
            · have hltI : ¬ (i : Int) < (rs.length : Int) := by omega
              have HT : Hid (okPath s = true) := by show _ = _; rw [HP3.out]; exact all_yes (fun t ht => HK.out t (by omega))
              have BQ := hd9 (HB.out.trans ((below_drewN' w1 q).mono HB.out.size))
              go_wp2
              go_ret
              exact ⟨ret_b HT.out.symm, BQ.out⟩
        · have h6I : (6 : Int) < (rs.length : Int) := by omega
          have HP3 : Hid (okPath s = false) := by show _ = _; rw [HP2.out, decide_eq_false h6]; rfl
          go_wp2
          go_ret
          exact ⟨ret_b HP3.out.symm, HB.out⟩
      · have e47 : ((s[0].toNat : Int) != 47) = true := by rw [bne_iff_ne]; omega
        have HP2 : Hid (okPath s = false) := by show _ = _; rw [HP.out, decide_eq_false (show ¬ bN s 0 = 47 by omega), Bool.and_false]; rfl
        clear HP
        go_enter Tryz.func64, Tryz.ntmps64
        go_wp2
        go_ret
        exact ⟨ret_b HP2.out.symm, Below.refl _ _⟩


set_option maxHeartbeats 1000000 in
set_option maxRecDepth 100000 in
theorem idxByte_any (w : World) (s : ByteArray) (c : Int) :
    Calls Tryz.prog 133 #[.string s, .int .u8 c] w fun e w' => e = .returned (.int .i64 (Lib.indexByte s.data.toList c.toNat.toUInt8)) ∧ w' = w := by
  go_enter Tryz.func133, Tryz.ntmps133
  go_wp2
  rw [run_callFunc_extern Tryz.func146 (by kernel_rfl) (by kernel_rfl) (by kernel_rfl) (e := Extern.BytealgIndexByte.indexByte) (by kernel_rfl), Lib.run_indexByteString]
  simp only [Result.andThen]
  rw [Oper.upon_value]
  go_wp2
  go_ret
  exact ⟨rfl, rfl⟩

/-- The text of one slash. -/
def slash : ByteArray := ⟨#[47]⟩

set_option maxHeartbeats 1000000 in
set_option maxRecDepth 100000 in
theorem idxLite_any (w : World) (s : ByteArray) :
    Calls Tryz.prog 125 #[.string s, .string ⟨#[47]⟩] w fun e w' => e = .returned (.int .i64 (Lib.indexByte s.data.toList 47)) ∧ w' = w := by
  by_cases he : s.data.toList = [47]
  · have hb : ([47] == s.toList) = true := by rw [ByteArray.toList_eq, he]; rfl
    have HX : Hid (Lib.indexByte s.data.toList 47 = 0) := by show _ = _; rw [he]; rfl
    clear he
    go_enter Tryz.func125, Tryz.ntmps125
    go_wp2
    go_ret
    exact ⟨by rw [HX.out]; rfl, rfl⟩
  · have hb : ([47] == s.toList) = false := by rw [ByteArray.toList_eq, beq_eq_false_iff_ne]; exact fun h => he h.symm
    clear he
    go_enter Tryz.func125, Tryz.ntmps125
    go_wp2_with fail
    refine (idxByte_any w s 47).mono ?_
    rintro e w2 ⟨rfl, rfl⟩
    go_wp2
    go_ret
    exact ⟨rfl, rfl⟩

set_option maxHeartbeats 1000000 in
set_option maxRecDepth 100000 in
theorem idx_any (w : World) (s : ByteArray) :
    Calls Tryz.prog 118 #[.string s, .string ⟨#[47]⟩] w fun e w' => e = .returned (.int .i64 (Lib.indexByte s.data.toList 47)) ∧ w' = w := by
  go_enter Tryz.func118, Tryz.ntmps118
  go_wp2_with fail
  refine (idxLite_any w s).mono ?_
  rintro e w2 ⟨rfl, rfl⟩
  go_wp2
  go_ret
  exact ⟨rfl, rfl⟩


theorem pre_eq (s : ByteArray) (h : 1 ≤ s.size) : ((s.extract 0 1).toList == [47]) = decide (bN s 0 = 47) := by
  have h0 : 0 < s.data.toList.length := h
  rw [ByteArray.toList_eq, ByteArray.data_extract, Array.toList_extract, List.extract_eq_take_drop]
  unfold bN
  cases e : s.data.toList with
  | nil => rw [e] at h0; simp at h0
  | cons x l =>
    simp only [List.drop_zero, Nat.sub_zero, List.take_succ_cons, List.take_zero, List.getD_cons_zero]
    by_cases hx : x = 47
    · subst hx; rfl
    · have h1 : ¬ x.toNat = 47 := fun hh => hx (UInt8.toNat_inj.1 hh)
      rw [decide_eq_false h1, beq_eq_false_iff_ne]
      simpa using hx

set_option maxHeartbeats 1000000 in
set_option maxRecDepth 100000 in
theorem preLite_any (w : World) (s : ByteArray) (hs : 1 ≤ s.size) :
    Calls Tryz.prog 99 #[.string s, .string ⟨#[47]⟩] w fun e w' => e = .returned (.bool (decide (bN s 0 = 47))) ∧ w' = w := by
  have HE := hd9 (pre_eq s hs)
  have h1 : (1 : Int) ≤ (s.size : Int) := by omega
  go_enter Tryz.func99, Tryz.ntmps99
  go_wp2
  go_ret
  exact ⟨by rw [← HE.out]; rfl, rfl⟩

set_option maxHeartbeats 1000000 in
set_option maxRecDepth 100000 in
theorem pre_any (w : World) (s : ByteArray) (hs : 1 ≤ s.size) :
    Calls Tryz.prog 72 #[.string s, .string ⟨#[47]⟩] w fun e w' => e = .returned (.bool (decide (bN s 0 = 47))) ∧ w' = w := by
  go_enter Tryz.func72, Tryz.ntmps72
  go_wp2_with fail
  refine (preLite_any w s hs).mono ?_
  rintro e w2 ⟨rfl, rfl⟩
  go_wp2
  go_ret
  exact ⟨rfl, rfl⟩

set_option maxHeartbeats 1000000 in
set_option maxRecDepth 100000 in
theorem pre_none (w : World) (s : ByteArray) (hs : s.size = 0) :
    Calls Tryz.prog 72 #[.string s, .string ⟨#[47]⟩] w fun e w' => e = .returned (.bool false) ∧ w' = w := by
  have h1 : ¬ (1 : Int) ≤ (s.size : Int) := by omega
  clear hs
  go_enter Tryz.func72, Tryz.ntmps72
  go_wp2_with fail
  refine (show Calls Tryz.prog 99 #[.string s, .string ⟨#[47]⟩] w (fun e w' => e = .returned (.bool false) ∧ w' = w) from ?_).mono ?_
  · go_enter Tryz.func99, Tryz.ntmps99
    go_wp2
    go_ret
    exact ⟨rfl, rfl⟩
  rintro e w2 ⟨rfl, rfl⟩
  go_wp2
  go_ret
  exact ⟨rfl, rfl⟩

set_option maxHeartbeats 1000000 in
set_option maxRecDepth 100000 in
theorem validName_any (w : World) (p : ByteArray) :
    Calls Tryz.prog 74 #[.string p] w fun e w' => e = .returned (.bool (okN p)) ∧ ∃ q, w' = w.drewN q := by
  by_cases hp1 : p.size < 1
  · have hpI : (p.size : Int) < 1 := by omega
    have HF : Hid (okN p = false) := by show _ = _; unfold okN; rw [decide_eq_false (by omega)]; rfl
    go_enter Tryz.func74, Tryz.ntmps74
    go_wp2
    go_ret
    exact ⟨ret_b HF.out.symm, 0, rfl⟩
  · have hpI : ¬ (p.size : Int) < 1 := by omega
    by_cases hp2 : 16 < p.size
    · have hpI2 : (16 : Int) < (p.size : Int) := by omega
      have HF : Hid (okN p = false) := by show _ = _; unfold okN; rw [decide_eq_false (show ¬ p.size ≤ 16 by omega)]; simp
      go_enter Tryz.func74, Tryz.ntmps74
      go_wp2
      go_ret
      exact ⟨ret_b HF.out.symm, 0, rfl⟩
    · have hpI2 : ¬ (16 : Int) < (p.size : Int) := by omega
      go_enter Tryz.func74, Tryz.ntmps74
      go_wp2
      go_loopw [16] (fun vj wr => ∃ j : Nat, j ≤ p.size ∧ vj = .int .i64 j ∧ Hid (∀ t, t < j → okB (bN p t) = true) ∧ ∃ q, wr = w.drewN q) (fun j _ => p.size - (intOf j).toNat)
      case atStart => exact ⟨0, Nat.zero_le _, rfl, (fun t ht => by omega), 0, rfl⟩
      case round =>
        obtain ⟨j, hj, rfl, HJ, q, rfl⟩ := hrel
        by_cases hjl : j < p.size
        · have hjI : (j : Int) < (p.size : Int) := by omega
          have hbn := bN_get p j hjl
          have hx8 : p[j].toNat < 256 := p[j].toNat_lt
          obtain ⟨x, hx⟩ : ∃ x, x = p[j].toNat := ⟨_, rfl⟩
          have HX := hd9 hx
          have HBN : Hid (bN p j = x) := by show _ = _; rw [hbn, hx]
          clear hx hbn
          by_cases c1 : x < 48
          · have k1 : ¬ (97 : Int) ≤ (p[j].toNat : Int) := by have := HX.out; omega
            have k2 : ¬ (48 : Int) ≤ (p[j].toNat : Int) := by have := HX.out; omega
            have HF := hd9 (okN_no hjl (by rw [HBN.out]; unfold okB; rw [decide_eq_false (show ¬ 97 ≤ x by omega), decide_eq_false (show ¬ 48 ≤ x by omega)]; rfl))
            go_wp2
            go_ret
            exact ⟨ret_b HF.out.symm, _, rfl⟩
          · by_cases c2 : x ≤ 57
            · have k1 : ¬ (97 : Int) ≤ (p[j].toNat : Int) := by have := HX.out; omega
              have k2 : (48 : Int) ≤ (p[j].toNat : Int) := by have := HX.out; omega
              have k3 : (p[j].toNat : Int) ≤ 57 := by have := HX.out; omega
              have HOK : Hid (okB (bN p j) = true) := by show _ = _; rw [HBN.out]; unfold okB; rw [decide_eq_true (show 48 ≤ x by omega), decide_eq_true (show x ≤ 57 by omega)]; simp
              go_wp2
              exact ⟨⟨j + 1, by omega, by go_num, (fun t ht => by by_cases e : t = j; (subst e; exact HOK.out); exact HJ.out t (by omega)), q, rfl⟩, by simp [intOf]; omega⟩
            · by_cases c3 : x < 97
              · have k1 : ¬ (97 : Int) ≤ (p[j].toNat : Int) := by have := HX.out; omega
                have k2 : (48 : Int) ≤ (p[j].toNat : Int) := by have := HX.out; omega
                have k3 : ¬ (p[j].toNat : Int) ≤ 57 := by have := HX.out; omega
                have HF := hd9 (okN_no hjl (by rw [HBN.out]; unfold okB; rw [decide_eq_false (show ¬ 97 ≤ x by omega), decide_eq_false (show ¬ x ≤ 57 by omega)]; simp))
                go_wp2
                go_ret
                exact ⟨ret_b HF.out.symm, _, rfl⟩
              · by_cases c4 : x ≤ 122
                · have k1 : (97 : Int) ≤ (p[j].toNat : Int) := by have := HX.out; omega
                  have k2 : (p[j].toNat : Int) ≤ 122 := by have := HX.out; omega
                  have k3 : (48 : Int) ≤ (p[j].toNat : Int) := by omega
                  have k4 : ¬ (p[j].toNat : Int) ≤ 57 := by omega
                  have HOK : Hid (okB (bN p j) = true) := by show _ = _; rw [HBN.out]; unfold okB; rw [decide_eq_true (show 97 ≤ x by omega), decide_eq_true (show x ≤ 122 by omega)]; simp
                  go_wp2
                  exact ⟨⟨j + 1, by omega, by go_num, (fun t ht => by by_cases e : t = j; (subst e; exact HOK.out); exact HJ.out t (by omega)), q, rfl⟩, by simp [intOf]; omega⟩
                · have k1 : (97 : Int) ≤ (p[j].toNat : Int) := by have := HX.out; omega
                  have k2 : ¬ (p[j].toNat : Int) ≤ 122 := by have := HX.out; omega
                  have k3 : (48 : Int) ≤ (p[j].toNat : Int) := by omega
                  have k4 : ¬ (p[j].toNat : Int) ≤ 57 := by omega
                  have HF := hd9 (okN_no hjl (by rw [HBN.out]; unfold okB; rw [decide_eq_false (show ¬ x ≤ 122 by omega), decide_eq_false (show ¬ x ≤ 57 by omega)]; simp))
                  go_wp2
                  go_ret
                  exact ⟨ret_b HF.out.symm, _, rfl⟩
        · have hjI : ¬ (j : Int) < (p.size : Int) := by omega
          have HOK := hd9 (okN_yes (by omega) (by omega) (fun t ht => HJ.out t (by omega)))
          go_wp2
          go_ret
          exact ⟨ret_b HOK.out.symm, _, rfl⟩

end Go.Proofs.YtdiingonnddkcaaGreatDoor
namespace Go.Proofs.YtdiingonnddkcaaGreatDoor
open Go.RowKit Go.Shelf

/-- The two blocks that a loop over a function keeps its books in. -/
def Book (r : Loop) (M : Nat) (W : World) : Prop := W.heap[M + 1]? = some (.loop r) ∧ W.heap[M]? = some (.deferred (some []))

theorem Book.keep {r : Loop} {M : Nat} {X Y : World} (h : Book r M X) (hk : KeepsFrom M X Y) : Book r M Y := ⟨hk.same _ _ (by omega) h.1 rfl, hk.same _ _ (Nat.le_refl _) h.2 rfl⟩


/-- The same, where the body may leave by a return (StX: what it has left then). -/
theorem range_leaves {F : Fence} {n : Nat} {P : Program} {β : Type} {g : Operand} {ps : Array Tmp} {assign body : Code} {Q : Exit → Act → World → Prop} {a : Act} {w : World}
    (hro : F.round = none) (h1 : 1 ≤ n) {gf : Nat} {lb : Array Value} (hg : a.eval g = .func (.func gf) #[] lb) (hFg : F.fn gf) (eg : ∀ args w, (callFunc gf args).run P w = .ok (.enter gf args) w)
    (St : β → World → Prop) (Pre : β → Array Value → World → Prop) (step : β → Array Value → β) (Kp : World → World → Prop) (Fin : β → Prop) (StX : World → Prop) (hStX : OwnFrom w.heap.size (fun (_ : Unit) W => StX W)) (s0 : β)
    (hSt : OwnFrom w.heap.size St) (hKt : ∀ {A B C : World}, Kp A B → Kp B C → Kp A C)
    (hKb : ∀ (W : World) (l : Nat) (o o' : Obj), w.heap.size ≤ l → W.heap[l]? = some o → o.isCells = false → o.isWalk = false → Kp W (W.putObj l o'))
    (hps : ∀ s vs W, Pre s vs W → vs.size = ps.size) (h0 : St s0 w)
    (Ax : β → Array Value → Act → World → Prop) (hAx : ∀ s vs a', OwnFrom w.heap.size (fun (_ : Unit) W => Ax s vs a' W))
    (hassign : ∀ (l : Nat) (s : β) (vs : Array Value) (W : World) (K : Act → World → Prop), St s W → Pre s vs W → (∀ a' W', KeepsFrom w.heap.size W W' → Kp W W' → Ax s vs a' W' → K a' W') →
      assign.wpIn (F.inRound l) (n - 1 - 1) P (Exit.then K (fun _ _ _ => False)) { tmps := (ps.zip vs).foldl (fun t (p, v) => t.setIfInBounds p v) a.tmps, defers := [] } W)
    (hbody : ∀ (l : Nat) (s : β) (vs : Array Value) (a' : Act) (W : World), Ax s vs a' W → body.wpIn (F.inRound l) (n - 1 - 1) P (fun e _ W' => (e = .normal ∧ KeepsFrom w.heap.size W W' ∧ Kp W W' ∧ St (step s vs) W') ∨ (e = .ret ∧ KeepsFrom w.heap.size W W' ∧ StX W')) a' W)
    (hcall : ∀ (Bk BkX : World → Prop) (W1 : World), (∀ X Y, KeepsFrom w.heap.size X Y → Bk X → Bk Y) → (∀ X Y, KeepsFrom w.heap.size X Y → BkX X → BkX Y) →
      (∀ s vs W, St s W → Bk W → Pre s vs W → YieldAt F (n - 1 - 1) P (w.heap.size + 1) vs W fun e W' => (e = .returned (.bool true) ∧ St (step s vs) W' ∧ Bk W' ∧ Kp W W') ∨ (e = .returned (.bool false) ∧ StX W' ∧ BkX W')) →
      Below w.heap.size w W1 → w.heap.size + 2 ≤ W1.heap.size → St s0 W1 → Bk W1 →
      CallsIn F (n - 1) P gf (#[.func (.yield (w.heap.size + 1)) #[] #[]] ++ lb) W1 fun e W' => (∃ v, e = .returned v) ∧ ((∃ s, Fin s ∧ St s W' ∧ Bk W') ∨ (StX W' ∧ BkX W')))
    (hdone : ∀ (D : Nat) (s : β) (W : World), w.heap.size ≤ D → Fin s → St s W → W.heap[D]? = some (.deferred (some [])) → Q .normal { a with defers := { target := .collected D, args := #[] } :: a.defers } W)
    (hstop : ∀ (D : Nat) (W : World), w.heap.size ≤ D → StX W → W.heap[D]? = some (.deferred (some [])) → Code.ret.wpIn F n P Q { a with defers := { target := .collected D, args := #[] } :: a.defers } W) :
    (Code.rangeFunc g ps assign body).wpIn F n P Q a w := by
  refine wpIn_rangeFunc ?_
  intro fn hfn
  rw [hro]
  obtain ⟨r0, hr0⟩ : ∃ r : Loop, r = { state := .ready, pending := none, fn, tmps := a.tmps, params := ps, assign, body, defers := w.heap.size } := ⟨_, rfl⟩
  have hst : r0.state = .ready := by rw [hr0]
  have hpe : r0.pending = none := by rw [hr0]
  have hgrow : Below w.heap.size w ((w.alloc (.deferred (some []))).alloc (.loop r0)) := ((Below.refl _ w).alloc (Nat.le_refl _) _).alloc (by simp) _
  have hbook : Book r0 w.heap.size ((w.alloc (.deferred (some []))).alloc (.loop r0)) := by
    constructor
    · have := heap_alloc_new (w.alloc (.deferred (some []))) (.loop r0)
      rwa [World.size_alloc] at this
    · exact (Below.heap_alloc _ _ _ (by simp)).trans (heap_alloc_new w _)
  have hst1 : St s0 ((w.alloc (.deferred (some []))).alloc (.loop r0)) := hSt.alloc _ (hSt.alloc _ h0)
  have hsz : w.heap.size + 2 ≤ ((w.alloc (.deferred (some []))).alloc (.loop r0)).heap.size := by simp
  have henter : (Instr.enterLoop fn a.tmps ps assign body none).run P w = .ok (w.heap.size + 1, [{ target := .collected w.heap.size, args := #[] }]) ((w.alloc (.deferred (some []))).alloc (.loop r0)) := by
    rw [hr0]; exact run_enterLoop_outer _ _ _ _ _
  generalize (w.alloc (.deferred (some []))).alloc (.loop r0) = W1 at *
  refine ⟨_, _, W1, { target := .fn (.func gf) lb, args := #[.func (.yield (w.heap.size + 1)) #[] #[]] }, W1, gf, #[.func (.yield (w.heap.size + 1)) #[] #[]] ++ lb, W1, henter, ?_, ?_, ?_, fun _ => h1, ?_⟩
  · simp only [resolve, hg]
    simp [go_sem]
  · intro f' hf'
    simp [Target.leads] at hf'
    subst hf'
    exact hFg
  · simp [invoke, go_sem, eg]
  refine (hcall (Book r0 w.heap.size) (Book { r0 with state := .done, pending := some .ret } w.heap.size) W1 (fun X Y hk hb => hb.keep hk) (fun X Y hk hb => hb.keep hk) ?_ hgrow hsz hst1 hbook).mono ?_
  · intro s vs W hs hb hp
    have hy := run_yield (P := P) (args := vs) hb.1 (by rw [hr0]; exact hps s vs W hp)
    rw [hr0] at hy
    refine ⟨fn, _, assign, body, hy, roundIn_of_wpIn hfn (hassign _ s vs W _ hs hp ?_)⟩
    clear hy
    intro a' Wa hka hkp hax
    have hba := hb.keep hka
    have hlt := (Array.getElem?_eq_some_iff.1 hba.1).1
    refine ⟨_, run_beginRound hba.1 hst, ?_⟩
    have hl2 : (Wa.putObj (w.heap.size + 1) (.loop { r0 with state := .busy })).heap[w.heap.size + 1]? = some (.loop { r0 with state := .busy }) := World.putObj_heap_same hlt
    have hk2 : (Wa.putObj (w.heap.size + 1) (.loop { r0 with state := .busy })).heap[w.heap.size]? = some (.deferred (some [])) := (World.putObj_heap_other (by omega)).trans hba.2
    have hkb : Kp Wa (Wa.putObj (w.heap.size + 1) (.loop { r0 with state := .busy })) := hKb _ _ _ _ (by omega) hba.1 rfl rfl
    refine wpIn_mono (hbody _ s vs a' _ ((hAx s vs a').putObj (s := ()) _ hax (by omega) hba.1 rfl)) ?_
    rintro e a3 W3 (⟨rfl, hk3, hp3, hs3⟩ | ⟨rfl, hk3, hs3⟩)
    · have hl3 := hk3.same _ _ (by omega) hl2 rfl
      have hd3 := hk3.same _ _ (Nat.le_refl _) hk2 rfl
      have hend := run_endRound (P := P) none hl3
      have hr1 : ({ { r0 with state := .busy } with state := if (none : Option Code).isNone then .ready else .done, pending := none } : Loop) = r0 := by rw [hr0]; rfl
      rw [hr1] at hend
      exact ⟨_, _, hend, .inl ⟨rfl, hSt.putObj _ hs3 (by omega) hl3 rfl, ⟨World.putObj_heap_same (Array.getElem?_eq_some_iff.1 hl3).1, (World.putObj_heap_other (by omega)).trans hd3⟩, hKt hkp (hKt (hKt hkb hp3) (hKb _ _ _ _ (by omega) hl3 rfl rfl))⟩⟩
    · have hl3 := hk3.same _ _ (by omega) hl2 rfl
      have hd3 := hk3.same _ _ (Nat.le_refl _) hk2 rfl
      have hend := run_endRound (P := P) (some .ret) hl3
      have hr1 : ({ { r0 with state := .busy } with state := if (some Code.ret : Option Code).isNone then .ready else .done, pending := some .ret } : Loop) = { r0 with state := .done, pending := some .ret } := by rw [hr0]; rfl
      rw [hr1] at hend
      exact ⟨_, _, hend, .inr ⟨rfl, hStX.putObj (s := ()) _ hs3 (by omega) hl3 rfl, ⟨World.putObj_heap_same (Array.getElem?_eq_some_iff.1 hl3).1, (World.putObj_heap_other (by omega)).trans hd3⟩⟩⟩
  · rintro e W2 ⟨⟨v, rfl⟩, (⟨s, hF, hs, hb⟩ | ⟨hs, hb⟩)⟩
    · have hend := run_endLoop (P := P) hb.1 (by rw [hst]; simp)
      rw [hpe] at hend
      exact ⟨none, _, hend, hdone _ s _ (Nat.le_refl _) hF (hSt.putObj _ hs (by omega) hb.1 rfl) ((World.putObj_heap_other (by omega)).trans hb.2)⟩
    · have hend := run_endLoop (P := P) hb.1 (by simp)
      exact ⟨some .ret, _, hend, hstop _ _ (Nat.le_refl _) (hStX.putObj (s := ()) _ hs (by omega) hb.1 rfl) ((World.putObj_heap_other (by omega)).trans hb.2)⟩


attribute [local go_sem] Oper.semAt_some

theorem splA_none : ∀ (l cur : List UInt8), Lib.indexByte l 47 = -1 → splA cur l = [cur ++ l]
  | [], cur, _ => by simp [splA]
  | x :: l, cur, h => by
    unfold Lib.indexByte at h
    by_cases hx : x = 47
    · rw [hx] at h; simp at h
    · have hb := beq_eq_false_iff_ne.2 hx
      rw [hb] at h
      simp only [Bool.false_eq_true, if_false] at h
      have hge := Lib.indexByte_ge l 47
      have h1 : Lib.indexByte l 47 = -1 := by
        by_cases e : Lib.indexByte l 47 = -1
        · exact e
        · rw [if_neg (by simpa using e)] at h; omega
      rw [splA_ch hx, splA_none l _ h1]; simp
theorem splA_some : ∀ (l cur : List UInt8) (k : Nat), Lib.indexByte l 47 = (k : Int) → k < l.length ∧ splA cur l = (cur ++ l.take k) :: splA [] (l.drop (k + 1))
  | [], cur, k, h => by simp [Lib.indexByte] at h
  | x :: l, cur, k, h => by
    unfold Lib.indexByte at h
    by_cases hx : x = 47
    · rw [hx] at h
      have hk : k = 0 := by simp at h; omega
      subst hk
      rw [hx, splA_sl]; simp
    · have hb := beq_eq_false_iff_ne.2 hx
      rw [hb] at h
      simp only [Bool.false_eq_true, if_false] at h
      by_cases e : Lib.indexByte l 47 = -1
      · rw [if_pos (by simpa using e)] at h; omega
      · rw [if_neg (by simpa using e)] at h
        have hge := Lib.indexByte_ge l 47
        obtain ⟨j, rfl⟩ : ∃ j, k = j + 1 := ⟨k - 1, by omega⟩
        obtain ⟨h1, h2⟩ := splA_some l (cur ++ [x]) j (by omega)
        refine ⟨by simp; omega, ?_⟩
        rw [splA_ch hx, h2]; simp

/-- The length of the text in a box. -/
def lenIn (B : Nat) (W : World) : Nat := match W.cell? ⟨B, 0, none⟩ with
  | some (.string x) => x.size
  | _ => 0


def YPost (Bs : Nat) (St : Nat → World → Prop) (StX Bk BkX : World → Prop) (k : Nat) (W : World) (e : Ending) (W' : World) : Prop :=
  (e = .returned (.bool true) ∧ St (k + 1) W' ∧ Bk W' ∧ ∀ v, Boxed W Bs 9 v → Boxed W' Bs 9 v) ∨ (e = .returned (.bool false) ∧ StX W' ∧ BkX W')

set_option maxHeartbeats 2000000 in
set_option maxRecDepth 100000 in
theorem split1_any (nn : Nat) (hn1 : 1 ≤ nn) (l Bs Be Bv : Nat) (R : List (List UInt8)) (s0 : ByteArray)
    (St : Nat → World → Prop) (StX Bk BkX : World → Prop)
    (hSB : ∀ k X Y, Below X.heap.size X Y → St k X → St k Y) (hBB : ∀ X Y, Below X.heap.size X Y → Bk X → Bk Y)
    (hSW : ∀ k X v, St k X → St k (X.setCell ⟨Bs, 0, none⟩ v)) (hBW : ∀ X v, Bk X → Bk (X.setCell ⟨Bs, 0, none⟩ v))
    (hSR : ∀ k W, St k W → W.cell? ⟨Be, 0, none⟩ = some (.string ⟨#[47]⟩) ∧ W.cell? ⟨Bv, 0, none⟩ = some (.int .i64 0))
    (hY : ∀ k vs W, St k W → Bk W → (k < R.length ∧ vs = #[sV (R.getD k [])]) → YieldAt Fence.wide (nn - 1) Tryz.prog l vs W (YPost Bs St StX Bk BkX k W))
    (W : World) (h0 : St 0 W) (h1 : Bk W) (hs : Boxed W Bs 9 (.string s0)) (hz : s0.size ≤ 1048576) (hR : R = splA [] s0.data.toList) :
    CallsIn Fence.wide nn Tryz.prog 116 #[.func (.yield l) #[] #[], .pointer (some ⟨Be, 0, none⟩), .pointer (some ⟨Bs, 0, none⟩), .pointer (some ⟨Bv, 0, none⟩)] W fun e W' => (∃ v, e = .returned v) ∧ ((∃ s, s = R.length ∧ St s W' ∧ Bk W') ∨ (StX W' ∧ BkX W')) := by
  have HY := hd9 hY
  have HSB := hd9 hSB
  have HBB := hd9 hBB
  have HSW := hd9 hSW
  have HBW := hd9 hBW
  have HSR := hd9 hSR
  have H0 := hd9 h0
  have H1 := hd9 h1
  have HS0 := hd9 hs
  have HR : Hid (R.drop 0 = splA [] s0.data.toList) := hR
  obtain ⟨cE, cV⟩ := hSR 0 W h0
  have cS := hs.cell
  clear hY hSB hBB hSW hBW hSR h0 h1 hs hR
  refine callsIn_of_wp Tryz.func116 rfl trivial ?_ rfl
  simp only [Tryz.ntmps116, List.size_toArray, List.length_cons, List.length_nil, Nat.reduceAdd, Nat.reduceSub, Array.replicate_succ, Array.replicate_zero, List.push_toArray, List.append_toArray, List.nil_append, List.cons_append]
  gi_wp2
  gi_loopw [] (fun wr => ∃ (k : Nat) (r : ByteArray), Hid (St k wr) ∧ Hid (Bk wr) ∧ r.size ≤ 1048576 ∧ Hid (Boxed wr Bs 9 (.string r)) ∧ Hid (R.drop k = splA [] r.data.toList)) (fun wr => lenIn Bs wr)
  case atStart => exact ⟨0, s0, H0, H1, hz, HS0, HR⟩
  case round =>
    obtain ⟨k, r, HS, HB, hrz, HX, HD⟩ := hrel
    obtain ⟨cE, cV⟩ := HSR.out k wr HS.out
    have cS := HX.out.cell
    gi_wp2_with fail
    refine ⟨trivial, ?_⟩
    refine (callsIn_wide.2 (idx_any _ r)).mono ?_
    rintro e w2 ⟨rfl, rfl⟩
    by_cases hneg : Lib.indexByte r.data.toList 47 = -1
    · have hd := HD.out
      rw [splA_none _ _ hneg, List.nil_append] at hd
      have hlt : k < R.length := by
        by_cases h : k < R.length
        · exact h
        · rw [List.drop_eq_nil_of_le (by omega)] at hd; cases hd
      have hend : Hid (k + 1 = R.length) := by
        have := congrArg List.length hd
        rw [List.length_drop] at this
        simp at this
        show _ = _; omega
      have hget : R.getD k [] = r.data.toList := by
        have := congrArg (fun x => x.getD 0 []) hd
        simpa [List.getD, List.getElem?_drop] using this
      have hYx := HY.out k #[.string r] w2 HS.out HB.out ⟨hlt, by rw [hget]; rfl⟩
      rw [hneg]
      clear hneg hd hlt hget
      obtain ⟨fn, tmps, assign, body, hy, hR⟩ := hYx
      gi_wp2
      refine hR.mono ?_
      rintro e W3 (⟨rfl, hS3, hB3, -⟩ | ⟨rfl, hS3, hB3⟩)
      · have HS3 : Hid (St (k + 1) W3) := hS3
        have HB3 := hd9 hB3
        clear hS3 hB3 hy hR
        gi_wp2
        refine bodyPost_end (results_none rfl _ _ _) rfl ?_
        exact ⟨⟨_, rfl⟩, .inl ⟨k + 1, hend.out, HS3.out, HB3.out⟩⟩
      · have HS3 : Hid (StX W3) := hS3
        have HB3 := hd9 hB3
        clear hS3 hB3 hy hR
        gi_wp2
        refine bodyPost_end (results_none rfl _ _ _) rfl ?_
        exact ⟨⟨_, rfl⟩, .inr ⟨HS3.out, HB3.out⟩⟩
    · have hge := Lib.indexByte_ge r.data.toList 47
      obtain ⟨j, hj⟩ : ∃ j : Nat, Lib.indexByte r.data.toList 47 = (j : Int) := ⟨(Lib.indexByte r.data.toList 47).toNat, by omega⟩
      have hd := HD.out
      obtain ⟨hjl, hsp⟩ := splA_some _ [] j hj
      have hjr : j < r.size := hjl
      rw [hsp, List.nil_append] at hd
      have hlt : k < R.length := by
        by_cases h : k < R.length
        · exact h
        · rw [List.drop_eq_nil_of_le (by omega)] at hd; cases hd
      have hget : R.getD k [] = r.data.toList.take j := by
        have := congrArg (fun x => x.getD 0 []) hd
        simpa [List.getD, List.getElem?_drop] using this
      have hD2 : Hid (R.drop (k + 1) = splA [] (r.extract (j + 1) r.size).data.toList) := by
        have h1 := congrArg (List.drop 1) hd
        rw [List.drop_drop, List.drop_succ_cons, List.drop_zero] at h1
        show _ = _
        rw [extract_seg, h1]
        unfold seg
        congr 1
        rw [List.take_of_length_le (by rw [List.length_drop]; show r.size - _ ≤ _; omega)]
      have hYx := HY.out k #[.string (r.extract 0 j)] w2 HS.out HB.out ⟨hlt, by rw [hget, extract_seg]; unfold seg; simp [sV]⟩
      rw [hj]
      have hsz : (r.extract (j + 1) r.size).size = r.size - (j + 1) := by simp
      have HSZ := hd9 hsz
      clear hneg hd hlt hget hj hsp hjl hge hsz
      have hjI : ¬ (j : Int) < 0 := by omega
      have hjI2 : (j : Int) ≤ (r.size : Int) := by omega
      have hjI3 : (j : Int) + 1 ≤ (r.size : Int) := by omega
      obtain ⟨fn, tmps, assign, body, hy, hR⟩ := hYx
      gi_wp2
      refine hR.mono ?_
      rintro e W3 (⟨rfl, hS3, hB3, hK3⟩ | ⟨rfl, hS3, hB3⟩)
      · have HS3 : Hid (St (k + 1) W3) := hS3
        have HB3 := hd9 hB3
        have HX3 := hd9 (hK3 _ HX.out)
        clear hS3 hB3 hy hR hK3 cE cV cS
        obtain ⟨cE, cV⟩ := HSR.out (k + 1) W3 HS3.out
        have cS := HX3.out.cell
        have fS := HX3.out.frozen
        gi_wp2
        go_roundw
        case rel => exact ⟨k + 1, _, HSW.out _ _ _ HS3.out, HBW.out _ _ HB3.out, by rw [HSZ.out]; omega, HX3.out.set _, hD2⟩
        case measure =>
          have e1 := (HX3.out.set (.string (r.extract (j + 1) r.size))).cell
          have e2 := HX.out.cell
          unfold lenIn
          rw [e1, e2]
          show (r.extract (j + 1) r.size).size < r.size
          rw [HSZ.out]; omega
      · have HS3 : Hid (StX W3) := hS3
        have HB3 := hd9 hB3
        clear hS3 hB3 hy hR
        gi_wp2
        refine bodyPost_ret (results_none rfl _ _ _) rfl ?_
        exact ⟨⟨_, rfl⟩, .inr ⟨HS3.out, HB3.out⟩⟩


attribute [local go_sem] Oper.semAt_some

def SeqPost (s : ByteArray) (w : World) (e : Ending) (w' : World) : Prop :=
  e = .returned (.func (.func 116) #[] #[.pointer (some ⟨w.heap.size + 1, 0, none⟩), .pointer (some ⟨w.heap.size, 0, none⟩), .pointer (some ⟨w.heap.size + 2, 0, none⟩)]) ∧
  w' = ((w.alloc (.cells #[.string s] 9)).alloc (.cells #[.string ⟨#[47]⟩] 9)).alloc (.cells #[.int .i64 0] 3)

set_option maxHeartbeats 400000 in
theorem splitSeq_in (F : Fence) (n : Nat) (h87 : F.fn 100) (hro : F.round = none) (s : ByteArray) (w : World) :
    CallsIn F n Tryz.prog 100 #[.string s, .string ⟨#[47]⟩, .int .i64 0] w (SeqPost s w) := by
  refine callsIn_of_wp Tryz.func100 rfl h87 ?_ hro
  simp only [Tryz.ntmps100, List.size_toArray, List.length_cons, List.length_nil, Nat.reduceAdd, Nat.reduceSub, Array.replicate_succ, Array.replicate_zero, List.push_toArray, List.append_toArray, List.nil_append, List.cons_append]
  gi_wp2
  go_ret
  exact ⟨rfl, rfl⟩

set_option maxHeartbeats 400000 in
theorem SplitSeq_in (n : Nat) (hn : 1 ≤ n) (s : ByteArray) (w : World) :
    CallsIn Fence.wide n Tryz.prog 73 #[.string s, .string ⟨#[47]⟩] w (SeqPost s w) := by
  refine callsIn_of_wp Tryz.func73 rfl trivial ?_ rfl
  simp only [Tryz.ntmps73, List.size_toArray, List.length_cons, List.length_nil, Nat.reduceAdd, Nat.reduceSub, Array.replicate_succ, Array.replicate_zero, List.push_toArray, List.append_toArray, List.nil_append, List.cons_append]
  gi_wp2_with fail
  refine ⟨trivial, ?_⟩
  refine (splitSeq_in Fence.wide _ trivial rfl s w).mono ?_
  rintro e w5 ⟨rfl, hw5⟩
  have HW := hd9 hw5
  clear hw5
  gi_wp2
  go_ret
  exact ⟨rfl, HW.out⟩

theorem splA_sum : ∀ (l cur : List UInt8), ((splA cur l).map (fun p => p.length + 1)).sum = cur.length + l.length + 1
  | [], cur => by simp [splA]
  | x :: l, cur => by
    by_cases h : x = 47
    · subst h; rw [splA_sl]; have := splA_sum l []; simp only [List.map_cons, List.sum_cons, this, List.length_cons, List.length_nil]; omega
    · rw [splA_ch h, splA_sum l (cur ++ [x])]; simp only [List.length_append, List.length_cons, List.length_nil]; omega

theorem sum_ok : ∀ (rs : List (List UInt8)), rs.all okL = true → (rs.map (fun p => p.length + 1)).sum ≤ 17 * rs.length
  | [], _ => by simp
  | p :: rs, h => by
    rw [List.all_cons, Bool.and_eq_true] at h
    have h1 := sum_ok rs h.2
    have h2 : p.length ≤ 16 := by
      have := h.1
      unfold okL okN at this
      simp only [Bool.and_eq_true, decide_eq_true_eq] at this
      exact this.1.2
    simp only [List.map_cons, List.sum_cons, List.length_cons]; omega

theorem okPath_long {s : ByteArray} (h : 102 < s.size) : okPath s = false := by
  have h1 : ¬ s.data.toList = [47] := fun e => by
    have : s.data.toList.length = 1 := by rw [e]; rfl
    have h2 : s.data.toList.length = s.size := rfl
    omega
  rw [okPath_not h1]
  cases hn : (decide ((nm s).length ≤ 6)) with
  | false => simp
  | true =>
    cases ha : (nm s).all okL with
    | false => simp
    | true =>
      exfalso
      have h3 := sum_ok _ ha
      have h4 := splA_sum (s.data.toList.drop 1) []
      have h5 : (s.data.toList.drop 1).length = s.size - 1 := by rw [List.length_drop]; rfl
      rw [h5] at h4
      unfold nm at h3 hn
      rw [h4] at h3
      simp at h3 hn
      omega

end Go.Proofs.YtdiingonnddkcaaGreatDoor


