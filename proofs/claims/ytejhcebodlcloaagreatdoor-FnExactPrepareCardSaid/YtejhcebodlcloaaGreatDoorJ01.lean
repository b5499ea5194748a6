import Derived.OrdersHeld
import Derived.WalkKit
import Derived.ProofKit
import Derived.OpenShut
import Derived.Handy
import Derived.Carry
import Derived.WalkSpells
import Derived.WalkSmall
import Derived.Test.YtejhcebodlcloaaGreatDoorChecked
import Derived.Deep.QuietTactic
import Derived.BigQuiet
import Derived.Laws.BytesArg
import Derived.Lib.Bytealg
import Derived.Laws.Externs
import Derived.Lib.IndexLaws
namespace Go.Proofs.YtejhcebodlcloaaGreatDoor
open Go.RowKit

/-- A slice of one-cell integers that reads as xs. -/
def Rd (k : IntKind) (w : World) (v : Value) (xs : List Int) : Prop :=
  ∃ ao cap, v = .slice ao xs.length cap ∧ xs.length ≤ cap ∧ cap ≤ maxLen ∧
    (xs = [] ∨ ∃ b off, ao = some ⟨b, off, none⟩ ∧ b < w.heap.size ∧ ∀ i, i < xs.length → w.cell? ⟨b, off + i, none⟩ = some (.int k (xs.getD i 0)))

/-- A slice of one-cell integers that is the call's own, from block 'base' on. -/
def Own (k : IntKind) (e : TypeId) (w : World) (base : Nat) (v : Value) (xs : List Int) : Prop :=
  w.ownsRow base e 1 v xs.length (xs.map (Value.int k))

theorem Own.rd {k : IntKind} {e : TypeId} {w : World} {base : Nat} {v : Value} {xs : List Int} (h : Own k e w base v xs) : Rd k w v xs := by
  rcases h.2 with ⟨rfl, h0⟩ | ⟨g, cap, cur, rfl, hb, hg, hn, hm, hs, ht⟩
  · have : xs = [] := List.eq_nil_of_length_eq_zero h0
    subst this
    exact ⟨none, 0, rfl, Nat.le_refl _, Nat.zero_le _, .inl rfl⟩
  · refine ⟨_, cap, rfl, hn, hm, .inr ⟨g, 0, rfl, (Array.getElem?_eq_some_iff.1 hg).1, fun i hi => ?_⟩⟩
    have h1 := World.ownsRow.cells h (g := g) rfl i (.int k (xs.getD i 0)) (by simp [List.getD, hi])
    rw [Addr.add_lit] at h1
    exact h1

theorem Rd.below {k : IntKind} {w w' : World} {v : Value} {xs : List Int} (h : Rd k w v xs) (hb : Below w.heap.size w w') : Rd k w' v xs := by
  obtain ⟨ao, cap, rfl, h1, h2, h3⟩ := h
  refine ⟨ao, cap, rfl, h1, h2, ?_⟩
  rcases h3 with h3 | ⟨b, off, rfl, hlt, hc⟩
  · exact .inl h3
  · exact .inr ⟨b, off, rfl, Nat.lt_of_lt_of_le hlt hb.size, fun i hi => by rw [hb.cell (p := ⟨b, off + i, none⟩) hlt]; exact hc i hi⟩

theorem below_drewN' (w : World) (n : Nat) : Below w.heap.size w (w.drewN n) := ⟨rfl, rfl, rfl, Nat.le_refl _, fun _ _ => rfl⟩

theorem hd9 {p : Prop} (h : p) : Hid p := h
theorem sT9 {α : Type} (l : List α) (i : Nat) (a : α) : l.toArray.setIfInBounds i a = (l.set i a).toArray := List.setIfInBounds_toArray ..
theorem sZ9 {α : Type} (a b : α) (l : List α) : (a :: l).set 0 b = b :: l := rfl
theorem sS9 {α : Type} (a b : α) (l : List α) (n : Nat) : (a :: l).set (n + 1) b = a :: l.set n b := rfl
theorem tk9 {P : Program} {md : Region.Mode} {ops : Array Oper} {Q : Exit → Act → World → Prop} {S : World → Prop} {i : Nat} {oi : Oper} {v : Value} {fuel : Nat} {listed : Array Bool} {a : Act} {w : World} (hi : ops[i]? = some oi)
    (hb : (Region.noSelect ops && (Region.free md ops listed i && (Region.ready md ops listed).contains i)) = true)
    (hQ : ∀ c a w, Q (.panic c) (a.put oi.dst v) w → Q (.panic c) a w) (hy : YieldsIf P ops S oi v a) (hS : S w)
    (h : wpAnyH P md ops Q S fuel (listed.setIfInBounds i true) (a.put oi.dst v) w) : wpAnyH P md ops Q S (fuel + 1) listed a w := by
  simp only [Bool.and_eq_true] at hb
  exact wpAnyH_take hi hb.1 hb.2.1 hb.2.2 hQ hy hS h

theorem tkL9 {P : Program} {md : Region.Mode} {ops : Array Oper} {Q : Exit → Act → World → Prop} {S : World → Prop} {i : Nat} {oi : Oper} {v : Value} {fuel : Nat} {listed : Array Bool} {a : Act} {w : World} (hi : ops[i]? = some oi)
    (hb : (Region.noSelect ops && (Region.free md ops listed i && (Region.ready md ops listed).contains i)) = true)
    (hQ : ∀ c a w, Q (.panic c) (a.put oi.dst v) w → Q (.panic c) a w) (hw : Region.wanted oi (yielded ops a.tmps) = true) (hS : S w) (hy : ∀ w, S w → (execOp a.eval oi).run P w = .ok (.value v) w)
    (h : wpAnyH P md ops Q S fuel (listed.setIfInBounds i true) (a.put oi.dst v) w) : wpAnyH P md ops Q S (fuel + 1) listed a w := tk9 hi hb hQ (Or.inl ⟨hw, hy⟩) hS h
theorem tkR9 {P : Program} {md : Region.Mode} {ops : Array Oper} {Q : Exit → Act → World → Prop} {S : World → Prop} {i : Nat} {oi : Oper} {fuel : Nat} {listed : Array Bool} {a : Act} {w : World} (hi : ops[i]? = some oi)
    (hb : (Region.noSelect ops && (Region.free md ops listed i && (Region.ready md ops listed).contains i)) = true)
    (hQ : ∀ c a w, Q (.panic c) (a.put oi.dst undef) w → Q (.panic c) a w) (hw : Region.wanted oi (yielded ops a.tmps) = false) (hS : S w)
    (h : wpAnyH P md ops Q S fuel (listed.setIfInBounds i true) (a.put oi.dst undef) w) : wpAnyH P md ops Q S (fuel + 1) listed a w := tk9 hi hb hQ (Or.inr ⟨hw, rfl⟩) hS h


theorem ret_b {a b : Bool} (h : a = b) : Ending.returned (.bool a) = .returned (.bool b) := by rw [h]

/-- A letter or a digit. -/
def okB (x : Nat) : Bool := (decide (97 ≤ x) && decide (x ≤ 122)) || (decide (48 ≤ x) && decide (x ≤ 57))
/-- A name. -/
def bN (s : ByteArray) (j : Nat) : Nat := (s.data.toList.getD j 0).toNat
def okN (s : ByteArray) : Bool := decide (1 ≤ s.size) && decide (s.size ≤ 16) && (List.range s.size).all (fun j => okB (bN s j))

theorem bN_get (s : ByteArray) (j : Nat) (h : j < s.size) : bN s j = s[j].toNat := by
  have h' : j < s.data.toList.length := h
  unfold bN
  simp only [List.getD, List.getElem?_eq_getElem h', Option.getD_some]
  rfl
theorem okN_no {s : ByteArray} {j : Nat} (h : j < s.size) (hb : okB (bN s j) = false) : okN s = false := by
  unfold okN
  have : (List.range s.size).all (fun j => okB (bN s j)) = false := by
    rw [List.all_eq_false]
    exact ⟨j, List.mem_range.2 h, by rw [hb]; simp⟩
  rw [this, Bool.and_false]
theorem okN_yes {s : ByteArray} (h1 : 1 ≤ s.size) (h2 : s.size ≤ 16) (h : ∀ j, j < s.size → okB (bN s j) = true) : okN s = true := by
  unfold okN
  rw [decide_eq_true h1, decide_eq_true h2]
  simp only [Bool.true_and, List.all_eq_true, List.mem_range]
  exact h

set_option maxHeartbeats 400000 in
set_option maxRecDepth 100000 in
theorem letter_any (w : World) (x : Nat) (hx : x < 256) :
    Calls Tryz.prog 67 #[.int .u8 (x : Int)] w fun e w' => e = .returned (.bool (okB x)) ∧ w' = w := by
  go_enter Tryz.func67, Tryz.ntmps67
  go_wp2
  all_goals
    go_ret
    refine ⟨ret_b ?_, rfl⟩
    unfold okB
    rw [Bool.eq_iff_iff]
    simp only [Bool.and_eq_true, Bool.or_eq_true, decide_eq_true_eq, Bool.false_eq_true, false_iff, true_iff]
    omega


theorem Tryz.infoT : (Tryz.prog.info? 9).map (fun i => (i.zero, i.size, i.bytes)) = some (some (.string ByteArray.empty), 1, 16) := by kernel_rfl

/-- The pieces between slashes, with the piece under way. -/
def splA : List UInt8 → List UInt8 → List (List UInt8)
  | cur, [] => [cur]
  | cur, x :: l => if x = 47 then cur :: splA [] l else splA (cur ++ [x]) l
theorem splA_sl (cur l : List UInt8) : splA cur (47 :: l) = cur :: splA [] l := by simp [splA]
theorem splA_ch {x : UInt8} (h : ¬ x = 47) (cur l : List UInt8) : splA cur (x :: l) = splA (cur ++ [x]) l := by simp [splA, h]
def nm (s : ByteArray) : List (List UInt8) := splA [] (s.data.toList.drop 1)
def seg (s : ByteArray) (a b : Nat) : List UInt8 := (s.data.toList.drop a).take (b - a)
def sV (l : List UInt8) : Value := .string ⟨l.toArray⟩

theorem seg_self (s : ByteArray) (a : Nat) : seg s a a = [] := by unfold seg; simp
theorem seg_succ (s : ByteArray) (a i : Nat) (ha : a ≤ i) (hi : i < s.size) : seg s a (i + 1) = seg s a i ++ [s[i]] := by
  have hl : i < s.data.toList.length := hi
  unfold seg
  rw [show i + 1 - a = (i - a) + 1 by omega, List.take_succ_eq_append_getElem (by rw [List.length_drop]; omega)]
  congr 1
  rw [List.getElem_drop]
  simp only [show a + (i - a) = i by omega]
  rfl
theorem drop_cons (s : ByteArray) (i : Nat) (hi : i < s.size) : s.data.toList.drop i = s[i] :: s.data.toList.drop (i + 1) := by
  have hl : i < s.data.toList.length := hi
  rw [List.drop_eq_getElem_cons hl]; rfl
theorem extract_seg (s : ByteArray) (a b : Nat) : s.extract a b = ⟨(seg s a b).toArray⟩ := by
  apply ByteArray.ext
  rw [ByteArray.data_extract]
  apply Array.ext'
  unfold seg
  rw [Array.toList_extract, List.extract_eq_take_drop]

theorem row_slice {w : World} {lo n : Nat} {e : TypeId} {v : Value} {us : List Value} (h : w.ownsRow lo e 1 v n us) : ∃ a c, v = .slice a n c ∧ n ≤ c ∧ c ≤ maxLen := by
  rcases h.2 with ⟨rfl, rfl⟩ | ⟨g, cap, cur, rfl, -, -, h1, h2, -⟩
  · exact ⟨none, 0, rfl, Nat.le_refl _, Nat.zero_le _⟩
  · exact ⟨_, _, rfl, h1, h2⟩

set_option maxHeartbeats 1000000 in
set_option maxRecDepth 100000 in
theorem names_any (w : World) (s : ByteArray) (h1 : 1 ≤ s.size) (h2 : s.size ≤ 1048576) :
    Calls Tryz.prog 66 #[.string s] w fun e w' => ∃ v, e = .returned v ∧ w'.ownsRow w.heap.size 9 1 v (nm s).length ((nm s).map sV) ∧ Below w.heap.size w w' := by
  obtain ⟨i0, hi, hz0, hz1, hz2⟩ := info_parts Tryz.infoT
  go_enter Tryz.func66, Tryz.ntmps66
  go_wp2
  go_loopw [3, 4, 5] (fun vo vf vi wr => ∃ (i fr : Nat) (acc : List (List UInt8)), 1 ≤ fr ∧ i ≤ s.size + 1 ∧ vi = .int .i64 i ∧ vf = .int .i64 fr ∧ acc.length ≤ i ∧ ((i ≤ s.size ∧ fr ≤ i ∧ Hid (nm s = acc ++ splA (seg s fr i) (s.data.toList.drop i))) ∨ (i = s.size + 1 ∧ fr = s.size + 1 ∧ Hid (nm s = acc))) ∧ Hid (wr.ownsRow w.heap.size 9 1 vo acc.length (acc.map sV)) ∧ Hid (Below w.heap.size w wr)) (fun _ _ i _ => s.size + 1 - (intOf i).toNat)
  case atStart =>
    refine ⟨1, 1, [], Nat.le_refl _, by omega, rfl, rfl, by simp, .inl ⟨h1, Nat.le_refl _, ?_⟩, World.ownsRow_lit w #[] 0 (Nat.le_refl _) (Nat.zero_le _) rfl, (Below.refl _ _).alloc (Nat.le_refl _) _⟩
    show nm s = _
    rw [seg_self]; rfl
  case round =>
    obtain ⟨i, fr, acc, hf1, hi1, rfl, rfl, hal, hst, HO, HB⟩ := hrel
    have sB := HB.out.size
    obtain ⟨a, c, hv, -, -⟩ := row_slice HO.out
    rcases hst with ⟨hi2, hfi, HN⟩ | ⟨hi2, hf2, HN⟩
    · have hI : (i : Int) ≤ (s.size : Int) := by omega
      by_cases hend : i = s.size
      · have he : ((i : Int) == (s.size : Int)) = true := by rw [hend]; simp
        have HN2 : Hid (nm s = acc ++ [seg s fr i]) := by
          show _ = _
          rw [HN.out, List.drop_eq_nil_of_le (by show s.size ≤ i; omega)]; rfl
        have HEX : Hid (Value.string (s.extract fr i) = sV (seg s fr i)) := by show _ = _; rw [extract_seg]; rfl
        have hk1 : (fr : Int) ≤ (i : Int) := by omega
        have hk2 : fr ≤ i := by omega
        have HEND := hd9 hend
        clear hend
        subst hv
        go_wp2_with (at_builtin; go_must (refine wpList_append_own _ rfl _ _ 30 rfl w.heap.size 9 i0 (.string ByteArray.empty) 1 16 Tryz.underlying30 hi hz0 hz1 hz2 rfl (by decide) _ _ _ rfl (HO.out.alloc _) ⟨wr.heap.size, 0, none⟩ 1 1 [.string (s.extract fr i)] rfl rfl (cell_one_new _ _ _) (by intro u hu; simp at hu; subst hu; rfl) ?_ ?_ ?_ ?_))
        · unfold maxLen; omega
        · omega
        · simp; omega
        intro v2 w2 ho2 hg2 _
        have HO2 : Hid (w2.ownsRow w.heap.size 9 1 v2 (acc ++ [seg s fr i]).length ((acc ++ [seg s fr i]).map sV)) := by
          rw [HEX.out] at ho2
          show World.ownsRow _ _ _ _ _ _ _
          rw [List.length_append, List.map_append]; exact ho2
        have HB2 := hd9 ((HB.out.alloc sB _).grown hg2 (by simp; omega) (fun q hq => (World.ownsRow.lt HO.out q hq).1))
        clear ho2 hg2 HO HB
        go_wp2
        exact ⟨⟨i + 1, i + 1, acc ++ [seg s fr i], by omega, by have := HEND.out; omega, by go_num, by go_num, by rw [List.length_append]; simp; omega, .inr ⟨by have := HEND.out; omega, by have := HEND.out; omega, HN2⟩, HO2, HB2⟩, by simp [intOf]; omega⟩
      · have hlt : i < s.size := by omega
        have he : ((i : Int) == (s.size : Int)) = false := beq_eq_false_iff_ne.2 (by omega)
        have hltI : (i : Int) < (s.size : Int) := by omega
        have HC := hd9 (drop_cons s i hlt)
        have HEX : Hid (Value.string (s.extract fr i) = sV (seg s fr i)) := by show _ = _; rw [extract_seg]; rfl
        have hk1 : (fr : Int) ≤ (i : Int) := by omega
        have hk2 : fr ≤ i := by omega
        by_cases h47 : s[i] = 47
        · have e47 : ((s[i].toNat : Int) == 47) = true := by rw [h47]; rfl
          have HN2 : Hid (nm s = (acc ++ [seg s fr i]) ++ splA (seg s (i + 1) (i + 1)) (s.data.toList.drop (i + 1))) := by
            show _ = _
            rw [HN.out, HC.out, h47, splA_sl, seg_self, List.append_assoc]
            rfl
          clear h47
          subst hv
          go_wp2_with (at_builtin; go_must (refine wpList_append_own _ rfl _ _ 30 rfl w.heap.size 9 i0 (.string ByteArray.empty) 1 16 Tryz.underlying30 hi hz0 hz1 hz2 rfl (by decide) _ _ _ rfl (HO.out.alloc _) ⟨wr.heap.size, 0, none⟩ 1 1 [.string (s.extract fr i)] rfl rfl (cell_one_new _ _ _) (by intro u hu; simp at hu; subst hu; rfl) ?_ ?_ ?_ ?_))
          · unfold maxLen; omega
          · omega
          · simp; omega
          intro v2 w2 ho2 hg2 _
          have HO2 : Hid (w2.ownsRow w.heap.size 9 1 v2 (acc ++ [seg s fr i]).length ((acc ++ [seg s fr i]).map sV)) := by
            rw [HEX.out] at ho2
            show World.ownsRow _ _ _ _ _ _ _
            rw [List.length_append, List.map_append]; exact ho2
          have HB2 := hd9 ((HB.out.alloc sB _).grown hg2 (by simp; omega) (fun q hq => (World.ownsRow.lt HO.out q hq).1))
          clear ho2 hg2 HO HB
          go_wp2
          exact ⟨⟨i + 1, i + 1, acc ++ [seg s fr i], by omega, by omega, by go_num, by go_num, by rw [List.length_append]; simp; omega, .inl ⟨by omega, Nat.le_refl _, HN2⟩, HO2, HB2⟩, by simp [intOf]; omega⟩
        · have e47 : ((s[i].toNat : Int) == 47) = false := by
            rw [beq_eq_false_iff_ne]
            intro h
            apply h47
            apply UInt8.toNat_inj.1
            have : s[i].toNat = 47 := by omega
            rw [this]; rfl
          have HN2 : Hid (nm s = acc ++ splA (seg s fr (i + 1)) (s.data.toList.drop (i + 1))) := by
            show _ = _
            rw [HN.out, HC.out, splA_ch h47, seg_succ s fr i hk2 hlt]
          clear h47 hv
          go_wp2
          exact ⟨⟨i + 1, fr, acc, hf1, by omega, by go_num, rfl, by omega, .inl ⟨by omega, by omega, HN2⟩, HO, HB⟩, by simp [intOf]; omega⟩
    · have hI : ¬ (i : Int) ≤ (s.size : Int) := by omega
      clear hv
      go_wp2
      go_ret
      exact ⟨_, rfl, by rw [HN.out]; exact HO.out, HB.out⟩


def okL (l : List UInt8) : Bool := okN ⟨l.toArray⟩
def okPath (s : ByteArray) : Bool := decide (s.data.toList = [47]) || (decide (2 ≤ s.size) && decide (bN s 0 = 47) && decide ((nm s).length ≤ 6) && (nm s).all okL)

theorem splA_pos : ∀ (l cur : List UInt8), 0 < (splA cur l).length
  | [], cur => by simp [splA]
  | x :: l, cur => by
    by_cases h : x = 47
    · subst h; rw [splA_sl]; simp
    · rw [splA_ch h]; exact splA_pos l _
theorem splA_len : ∀ (l cur : List UInt8), (splA cur l).length ≤ l.length + 1
  | [], cur => by simp [splA]
  | x :: l, cur => by
    by_cases h : x = 47
    · subst h; rw [splA_sl]; have := splA_len l []; simp only [List.length_cons]; omega
    · rw [splA_ch h]; have := splA_len l (cur ++ [x]); simp only [List.length_cons]; omega
theorem nm_pos (s : ByteArray) : 0 < (nm s).length := splA_pos _ _
theorem nm_len (s : ByteArray) : (nm s).length ≤ s.size + 1 := by
  have := splA_len (s.data.toList.drop 1) []
  have h2 : (s.data.toList.drop 1).length ≤ s.size := by rw [List.length_drop]; show s.size - 1 ≤ _; omega
  unfold nm; omega
theorem okPath_root {s : ByteArray} (h : s.data.toList = [47]) : okPath s = true := by unfold okPath; rw [decide_eq_true h]; rfl
theorem okPath_not {s : ByteArray} (h : ¬ s.data.toList = [47]) : okPath s = (decide (2 ≤ s.size) && decide (bN s 0 = 47) && decide ((nm s).length ≤ 6) && (nm s).all okL) := by unfold okPath; rw [decide_eq_false h]; rfl
def pN (rs : List (List UInt8)) (i : Nat) : ByteArray := ⟨(rs.getD i []).toArray⟩
theorem all_no {rs : List (List UInt8)} {i : Nat} (h : i < rs.length) (hn : okN (pN rs i) = false) : rs.all okL = false := by
  rw [List.all_eq_false]
  refine ⟨rs[i], List.getElem_mem h, ?_⟩
  unfold okL
  have : pN rs i = ⟨rs[i].toArray⟩ := by unfold pN; simp [List.getD, h]
  rw [← this, hn]; simp
theorem all_yes {rs : List (List UInt8)} (hn : ∀ i, i < rs.length → okN (pN rs i) = true) : rs.all okL = true := by
  rw [List.all_eq_true]
  intro l hl
  obtain ⟨i, hi, rfl⟩ := List.mem_iff_getElem.1 hl
  have := hn i hi
  unfold okL
  have e : pN rs i = ⟨rs[i].toArray⟩ := by unfold pN; simp [List.getD, hi]
  rw [← e]; exact this

set_option maxHeartbeats 1000000 in
set_option maxRecDepth 100000 in
theorem specPath_any (w : World) (s : ByteArray) (h2 : s.size ≤ 1048576) :
    Calls Tryz.prog 47 #[.string s] w fun e w' => e = .returned (.bool (okPath s)) ∧ Below w.heap.size w w' := by
  by_cases hr : s.data.toList = [47]
  · have hrt : (s.toList == [47]) = true := by rw [ByteArray.toList_eq, hr]; rfl
    have HP := hd9 (okPath_root hr)
    clear hr
    go_enter Tryz.func47, Tryz.ntmps47
    go_wp2
    go_ret
    exact ⟨ret_b HP.out.symm, Below.refl _ _⟩
  · have hrt : (s.toList == [47]) = false := by rw [ByteArray.toList_eq, beq_eq_false_iff_ne]; exact hr
    have HP := hd9 (okPath_not hr)
    clear hr
    by_cases hs : s.size < 2
    · have hsI : (s.size : Int) < 2 := by omega
      have HP2 : Hid (okPath s = false) := by show _ = _; rw [HP.out, decide_eq_false (by omega)]; rfl
      go_enter Tryz.func47, Tryz.ntmps47
      go_wp2
      go_ret
      exact ⟨ret_b HP2.out.symm, Below.refl _ _⟩
    · have hsI : ¬ (s.size : Int) < 2 := by omega
      have h0 : 0 < s.size := by omega
      have hb0 := bN_get s 0 h0
      by_cases h47 : s[0].toNat = 47
      · have e47 : ((s[0].toNat : Int) != 47) = false := by rw [h47]; rfl
        have HP2 : Hid (okPath s = (decide ((nm s).length ≤ 6) && (nm s).all okL)) := by show _ = _; rw [HP.out, decide_eq_true (show 2 ≤ s.size by omega), decide_eq_true (hb0.trans h47)]; rfl
        clear h47 hb0 HP
        go_enter Tryz.func47, Tryz.ntmps47
        go_wp2_with fail
        refine (names_any _ s (by omega) h2).mono ?_
        rintro e w1 ⟨v, rfl, ho, hb⟩
        have hnl := nm_len s
        have hnp := nm_pos s
        obtain ⟨rs, hrs⟩ : ∃ rs, rs = nm s := ⟨_, rfl⟩
        rw [← hrs] at ho hnl hnp
        rw [← hrs] at HP2
        clear hrs
        obtain ⟨g, c, rfl⟩ : ∃ g c, v = .slice (some ⟨g, 0, none⟩) rs.length c := by
          rcases ho.2 with ⟨rfl, h1⟩ | ⟨g, cap, cur, rfl, -⟩
          · omega
          · exact ⟨g, cap, rfl⟩
        have HC : Hid (∀ i, i < rs.length → w1.cell? ⟨g, i, none⟩ = some (.string (pN rs i))) := fun i hi => by
          rw [World.ownsRow.cellAt ho i (by omega)]
          simp [pN, List.getD, hi, sV]
        have HB := hd9 hb
        clear ho hb
        by_cases h6 : rs.length ≤ 6
        · have h6I : ¬ (6 : Int) < (rs.length : Int) := by omega
          have HP3 : Hid (okPath s = rs.all okL) := by show _ = _; rw [HP2.out, decide_eq_true h6]; rfl
          clear HP2
          go_wp2
          go_loopw [4] (fun vi wr => ∃ i : Nat, i ≤ rs.length ∧ vi = .int .i64 i ∧ Hid (∀ t, t < i → okN (pN rs t) = true) ∧ ∃ q, wr = w1.drewN q) (fun i _ => rs.length - (intOf i).toNat)
          case atStart => exact ⟨0, Nat.zero_le _, rfl, (fun t ht => by omega), 0, rfl⟩
          case round =>
            obtain ⟨i, hi, rfl, HK, q, rfl⟩ := hrel
            by_cases hlt : i < rs.length
            · have hltI : (i : Int) < (rs.length : Int) := by omega
              have c1 := HC.out i hlt
              obtain ⟨p, hp⟩ : ∃ p, p = pN rs i := ⟨_, rfl⟩
              have HPI := hd9 hp
              rw [← hp] at c1
              clear hp
              by_cases hp1 : p.size < 1
              · have hpI : (p.size : Int) < 1 := by omega
                have HF : Hid (okPath s = false) := by show _ = _; rw [HP3.out]; exact all_no hlt (by rw [← HPI.out]; unfold okN; rw [decide_eq_false (by omega)]; rfl)
                have BQ := hd9 (HB.out.trans ((below_drewN' w1 q).mono HB.out.size))
                go_wp2
                go_ret
                exact ⟨ret_b HF.out.symm, BQ.out⟩
              · have hpI : ¬ (p.size : Int) < 1 := by omega
                by_cases hp2 : 16 < p.size
                · have hpI2 : (16 : Int) < (p.size : Int) := by omega
                  have HF : Hid (okPath s = false) := by show _ = _; rw [HP3.out]; exact all_no hlt (by rw [← HPI.out]; unfold okN; rw [decide_eq_false (show ¬ p.size ≤ 16 by omega)]; simp)
                  have BQ := hd9 (HB.out.trans ((below_drewN' w1 q).mono HB.out.size))
                  go_wp2
                  go_ret
                  exact ⟨ret_b HF.out.symm, BQ.out⟩
                · have hpI2 : ¬ (16 : Int) < (p.size : Int) := by omega
                  go_wp2
                  go_loopw [5] (fun vj wr => ∃ j : Nat, j ≤ p.size ∧ vj = .int .i64 j ∧ Hid (∀ t, t < j → okB (bN p t) = true) ∧ ∃ q, wr = w1.drewN q) (fun j _ => p.size - (intOf j).toNat)
                  case atStart => exact ⟨0, Nat.zero_le _, rfl, (fun t ht => by omega), q, rfl⟩
                  case round =>
                    obtain ⟨j, hj, rfl, HJ, q2, rfl⟩ := hrel
                    by_cases hjl : j < p.size
                    · have hjI : (j : Int) < (p.size : Int) := by omega
                      have hbn := bN_get p j hjl
                      have hx8 : p[j].toNat < 256 := p[j].toNat_lt
                      go_wp2_with fail
                      refine (letter_any _ p[j].toNat hx8).mono ?_
                      rintro e w3 ⟨rfl, rfl⟩
                      by_cases hok : okB (bN p j) = true
                      · have HOK : Hid (okB (bN p j) = true) := hok
                        rw [hbn] at hok
                        rw [hok]
                        clear hok hbn
                        go_wp2
                        exact ⟨⟨j + 1, by omega, by go_num, (fun t ht => by by_cases e : t = j; (subst e; exact HOK.out); exact HJ.out t (by omega)), q2, rfl⟩, by simp [intOf]; omega⟩
                      · have hok' : okB (bN p j) = false := by simpa using hok
                        have HF : Hid (okPath s = false) := by show _ = _; rw [HP3.out]; exact all_no hlt (by rw [← HPI.out]; exact okN_no hjl hok')
                        have BQ := hd9 (HB.out.trans ((below_drewN' w1 q2).mono HB.out.size))
                        rw [hbn] at hok'
                        rw [hok']
                        clear hok hok' hbn
                        go_wp2
                        go_ret
                        exact ⟨ret_b HF.out.symm, BQ.out⟩
                    · have hjI : ¬ (j : Int) < (p.size : Int) := by omega
                      have HOK : Hid (okN (pN rs i) = true) := by
                        show _ = _
                        rw [← HPI.out]
                        exact okN_yes (by omega) (by omega) (fun t ht => HJ.out t (by omega))
                      go_wp2
                      exact ⟨⟨i + 1, by omega, by go_num, (fun t ht => by by_cases e : t = i; (subst e; exact HOK.out); exact HK.out t (by omega)), q2, rfl⟩, by simp [intOf]; omega⟩
            · have hltI : ¬ (i : Int) < (rs.length : Int) := by omega
              have HT : Hid (okPath s = true) := by show _ = _; rw [HP3.out]; exact all_yes (fun t ht => HK.out t (by omega))
              have BQ := hd9 (HB.out.trans ((below_drewN' w1 q).mono HB.out.size))
              go_wp2
              go_ret
              exact ⟨ret_b HT.out.symm, BQ.out⟩
        · have h6I : (6 : Int) < (rs.length : Int) := by omega
          have HP3 : Hid (okPath s = false) := by show _ = _; rw [HP2.out, decide_eq_false h6]; rfl
          go_wp2
          go_ret
          exact ⟨ret_b HP3.out.symm, HB.out⟩
      · have e47 : ((s[0].toNat : Int) != 47) = true := by rw [bne_iff_ne]; omega
        have HP2 : Hid (okPath s = false) := by show _ = _; rw [HP.out, decide_eq_false (show ¬ bN s 0 = 47 by omega), Bool.and_false]; rfl
        clear HP
        go_enter Tryz.func47, Tryz.ntmps47
        go_wp2
        go_ret
        exact ⟨ret_b HP2.out.symm, Below.refl _ _⟩


set_option maxHeartbeats 1000000 in
set_option maxRecDepth 100000 in
theorem idxByte_any (w : World) (s : ByteArray) (c : Int) :
    Calls Tryz.prog 132 #[.string s, .int .u8 c] w fun e w' => e = .returned (.int .i64 (Lib.indexByte s.data.toList c.toNat.toUInt8)) ∧ w' = w := by
  go_enter Tryz.func132, Tryz.ntmps132
  go_wp2
  rw [run_callFunc_extern Tryz.func143 (by kernel_rfl) (by kernel_rfl) (by kernel_rfl) (e := Extern.BytealgIndexByte.indexByte) (by kernel_rfl), Lib.run_indexByteString]
  simp only [Result.andThen]
  rw [Oper.upon_value]
  go_wp2
  go_ret
  exact ⟨rfl, rfl⟩

/-- The text of one slash. -/
def slash : ByteArray := ⟨#[47]⟩

set_option maxHeartbeats 1000000 in
set_option maxRecDepth 100000 in
theorem idxLite_any (w : World) (s : ByteArray) :
    Calls Tryz.prog 121 #[.string s, .string ⟨#[47]⟩] w fun e w' => e = .returned (.int .i64 (Lib.indexByte s.data.toList 47)) ∧ w' = w := by
  by_cases he : s.data.toList = [47]
  · have hb : ([47] == s.toList) = true := by rw [ByteArray.toList_eq, he]; rfl
    have HX : Hid (Lib.indexByte s.data.toList 47 = 0) := by show _ = _; rw [he]; rfl
    clear he
    go_enter Tryz.func121, Tryz.ntmps121
    go_wp2
    go_ret
    exact ⟨by rw [HX.out]; rfl, rfl⟩
  · have hb : ([47] == s.toList) = false := by rw [ByteArray.toList_eq, beq_eq_false_iff_ne]; exact fun h => he h.symm
    clear he
    go_enter Tryz.func121, Tryz.ntmps121
    go_wp2_with fail
    refine (idxByte_any w s 47).mono ?_
    rintro e w2 ⟨rfl, rfl⟩
    go_wp2
    go_ret
    exact ⟨rfl, rfl⟩

set_option maxHeartbeats 1000000 in
set_option maxRecDepth 100000 in
theorem idx_any (w : World) (s : ByteArray) :
    Calls Tryz.prog 110 #[.string s, .string ⟨#[47]⟩] w fun e w' => e = .returned (.int .i64 (Lib.indexByte s.data.toList 47)) ∧ w' = w := by
  go_enter Tryz.func110, Tryz.ntmps110
  go_wp2_with fail
  refine (idxLite_any w s).mono ?_
  rintro e w2 ⟨rfl, rfl⟩
  go_wp2
  go_ret
  exact ⟨rfl, rfl⟩

end Go.Proofs.YtejhcebodlcloaaGreatDoor


