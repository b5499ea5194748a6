import Derived.Test.YtejhcebodlcloaaGreatDoorChecked
import Derived.Test.YtejhcebodlcloaaGreatDoorJ01
import Derived.Deep.QuietTactic
import Derived.BigQuiet
import Derived.Laws.BytesArg
import Derived.Lib.ConvBytes
import Derived.Deep.RegionHeld3
import Derived.Test.YtejhcebodlcloaaGreatDoorJ03
import Derived.Lib.AppendStr
import Derived.Test.YtejhcebodlcloaaGreatDoorJ06
namespace Go.Proofs.YtejhcebodlcloaaGreatDoor
open Go.RowKit

/-! ### a row that is written from its head on -/
theorem grownBy_set (w w' : World) (g i : Nat) (u : Value) (h : w.grownBy w' (some g)) : w.grownBy (w'.setCell ⟨g, i, none⟩ u) (some g) :=
  ⟨h.os, h.tape, h.output, by simpa using h.size, fun k hk hne => by
    have hs := h.size
    rw [← h.block k hk hne]
    exact Below.heap_setCell _ _ _ _ (fun e => hne (by rw [e]))⟩

/-- What the marks are. -/
def marks (k : Int) (n : Nat) : List Int := (List.range n).map fun (i : Nat) => (k + (i : Int)) % 256
end Go.Proofs.YtejhcebodlcloaaGreatDoor
namespace Go.Proofs.YtejhcebodlcloaaGreatDoor


/-- The number whose digits, of w bits each, are the low bits of xs, the highest first. -/
def numW (w : Nat) (xs : List Int) : Nat := xs.foldl (fun a x => a * 2 ^ w + x.toNat % 2 ^ w) 0

/-- Digit q, of v bits, of the bits of xs (w bits each). -/
def dig (w v : Nat) (xs : List Int) (q : Nat) : Nat := numW w xs / 2 ^ (w * xs.length - v * (q + 1)) % 2 ^ v

/-- joinGroups' answer. -/
def up (ps : List Int) : List Int := (List.range (7 * ps.length / 8)).map (fun q => ((dig 7 8 ps q : Nat) : Int))

end Go.Proofs.YtejhcebodlcloaaGreatDoor
namespace Go.Proofs.YtejhcebodlcloaaGreatDoor
open Go.RowKit


/-- Blocks of other types are as they were. -/
def KT (e : TypeId) (w w' : World) : Prop := w.heap.size ≤ w'.heap.size ∧ ∀ b, b < w.heap.size → (¬ ∃ cur, w.heap[b]? = some (.cells cur e (0, 0))) → w'.heap[b]? = w.heap[b]?
theorem KT.refl (e : TypeId) (w : World) : KT e w w := ⟨Nat.le_refl _, fun _ _ _ => rfl⟩
theorem KT.trans {e : TypeId} {w w1 w2 : World} (h : KT e w w1) (h2 : KT e w1 w2) : KT e w w2 :=
  ⟨Nat.le_trans h.1 h2.1, fun b hb hn => by
    have h3 := h.2 b hb hn
    rw [h2.2 b (Nat.lt_of_lt_of_le hb h.1) (by rw [h3]; exact hn), h3]⟩
theorem KT.below {e : TypeId} {w w1 w2 : World} (h : KT e w w1) (hb : Below w1.heap.size w1 w2) : KT e w w2 :=
  h.trans ⟨hb.size, fun b hb' _ => hb.block b hb'⟩
theorem KT.alloc {e : TypeId} {w w1 : World} (h : KT e w w1) (o : Obj) : KT e w (w1.alloc o) := h.below ((Below.refl _ _).alloc (Nat.le_refl _) o)
theorem KT.grown {e : TypeId} {w w1 w2 : World} {base size n : Nat} {v : Value} {xs : List Value} (h : KT e w w1) (ho : w1.ownsRow base e size v n xs) (hg : w1.grownBy w2 v.ownBlock) : KT e w w2 := by
  refine h.trans ⟨hg.size, fun b hb hn => hg.block b hb fun he => hn ?_⟩
  rcases ho.2 with ⟨rfl, -⟩ | ⟨g, cap, cur, rfl, -, hgg, -⟩
  · simp [Value.ownBlock] at he
  · simp only [Value.ownBlock, Option.some.injEq] at he
    subst he
    exact ⟨cur, hgg⟩




theorem conv_any {w : World} {v : Value} {xs : List Int} (h : Rd .u8 w v xs) : (convert 120 9 v).run Tryz.prog w = .ok (.string (strOfNums xs)) w := by
  obtain ⟨ao, cap, rfl, h1, h2, h3⟩ := h
  rcases h3 with rfl | ⟨b, o, rfl, hb, hc⟩
  · cases ao with
    | none => exact run_convert_bytes_nil w _ _ Tryz.underlying120 Tryz.underlying5 0 cap _ Tryz.underlying9
    | some a =>
      rw [run_convert_bytes_string w _ _ _ _ _ _ Tryz.underlying120 Tryz.underlying5 Tryz.underlying9]
      exact run_bytesToString w a 0 cap [] (by simp [loadCells, loadCellsFrom])
  · exact run_convert_bytes_arg w _ _ Tryz.underlying120 Tryz.underlying5 b o _ cap xs rfl hc _ Tryz.underlying9




theorem splA_tot : ∀ l cur : List UInt8, ((splA cur l).map List.length).sum + (splA cur l).length = cur.length + l.length + 1
  | [], cur => by simp [splA]
  | x :: l, cur => by
    by_cases h : x = 47
    · subst h
      have := splA_tot l []
      rw [splA_sl]
      simp only [List.map_cons, List.sum_cons, List.length_cons, List.length_nil] at this ⊢
      omega
    · have := splA_tot l (cur ++ [x])
      rw [splA_ch h]
      simp only [List.length_append, List.length_cons, List.length_nil] at this ⊢
      omega
theorem sum_le (m : Nat) : ∀ L : List (List UInt8), (∀ x ∈ L, x.length ≤ m) → (L.map List.length).sum ≤ L.length * m
  | [], _ => by simp
  | x :: L, h => by
    have h1 := h x (by simp)
    have h2 := sum_le m L (fun y hy => h y (by simp [hy]))
    rw [List.map_cons, List.sum_cons, List.length_cons, Nat.add_mul]
    omega
theorem okL_len {l : List UInt8} (h : okL l = true) : l.length ≤ 16 := by
  unfold okL okN at h
  simp only [Bool.and_eq_true, decide_eq_true_eq] at h
  have h2 : (ByteArray.mk l.toArray).size = l.length := rfl
  omega
theorem okPath_size {s : ByteArray} (h : okPath s = true) : s.size ≤ 102 := by
  have hs : s.data.toList.length = s.size := by rw [Array.length_toList]; rfl
  unfold okPath at h
  simp only [Bool.or_eq_true, Bool.and_eq_true, decide_eq_true_eq] at h
  rcases h with h | ⟨⟨⟨h1, h2⟩, h3⟩, h4⟩
  · rw [h] at hs; simp at hs; omega
  · have h5 := splA_tot (s.data.toList.drop 1) []
    have h6 := sum_le 16 (nm s) (fun x hx => okL_len (List.all_eq_true.1 h4 x hx))
    unfold nm at h3 h6
    rw [List.length_drop, hs] at h5
    simp only [List.length_nil] at h5
    omega

theorem okNd_all {n : Nd} (h : okNd n = true) : n.path.size ≤ 102 ∧ n.data.size ≤ 64 ∧ (0 ≤ n.ver ∧ n.ver ≤ 2147483647) ∧ (0 ≤ n.cver ∧ n.cver ≤ 2147483647) ∧ (0 ≤ n.cz ∧ n.cz ≤ 2147483647) ∧ (0 ≤ n.mz ∧ n.mz ≤ 2147483647) ∧ (0 ≤ n.pz ∧ n.pz ≤ 2147483647) := by
  unfold okNd okS at h
  simp only [Bool.and_eq_true, decide_eq_true_eq] at h
  obtain ⟨⟨⟨⟨⟨⟨h1, h2⟩, h3⟩, h4⟩, h5⟩, h6⟩, h7⟩ := h
  exact ⟨okPath_size h1, h2, h3, h4, h5, h6, h7⟩

theorem okTree_nd {ns : List Nd} (h : okTree ns = true) (k : Nat) (hk : k < ns.length) : okNd (nAt ns k) = true := by
  unfold okTree okSorted at h
  simp only [Bool.and_eq_true] at h
  have := List.all_eq_true.1 h.2 k (by simpa using hk)
  unfold okAt at this
  simp only [Bool.and_eq_true] at this
  exact this.1
theorem okTree_len {ns : List Nd} (h : okTree ns = true) : ns.length ≤ 1000 := by
  unfold okTree at h
  simp only [Bool.and_eq_true, decide_eq_true_eq] at h
  exact h.1

theorem splA_join : ∀ (l cur : List UInt8), 47 :: (cur ++ l) = (splA cur l).flatMap (fun a => 47 :: a)
  | [], cur => by simp [splA]
  | x :: l, cur => by
    by_cases h : x = 47
    · subst h
      rw [splA_sl, List.flatMap_cons, ← splA_join l []]
      simp
    · rw [splA_ch h, ← splA_join l (cur ++ [x])]
      simp
theorem splA_no : ∀ (l cur : List UInt8), (47 : UInt8) ∉ cur → ∀ a ∈ splA cur l, (47 : UInt8) ∉ a
  | [], cur, h, a, ha => by simp [splA] at ha; subst ha; exact h
  | x :: l, cur, h, a, ha => by
    by_cases hx : x = 47
    · subst hx
      rw [splA_sl] at ha
      rcases List.mem_cons.1 ha with rfl | ha
      · exact h
      · exact splA_no l [] (by simp) a ha
    · rw [splA_ch hx] at ha
      refine splA_no l (cur ++ [x]) ?_ a ha
      intro hm
      rcases List.mem_append.1 hm with hm | hm
      · exact h hm
      · simp at hm; exact hx hm.symm
/-- What is ahead of the last slash, and what is behind it. -/
def headL (s : ByteArray) : List UInt8 := (nm s).dropLast.flatMap (fun a => 47 :: a)
def lastL (s : ByteArray) : List UInt8 := (nm s).getLastD []
theorem nm_ne (s : ByteArray) : nm s ≠ [] := fun h => by have := splA_pos (s.data.toList.drop 1) []; unfold nm at h; rw [h] at this; simp at this
theorem nm_split (s : ByteArray) : nm s = (nm s).dropLast ++ [lastL s] := by
  unfold lastL
  have h := nm_ne s
  rw [List.getLastD_eq_getLast?, List.getLast?_eq_some_getLast h, Option.getD_some]
  exact (List.dropLast_concat_getLast h).symm
theorem path_split {s : ByteArray} (h1 : 1 ≤ s.size) (h0 : bN s 0 = 47) : s.data.toList = headL s ++ 47 :: lastL s := by
  have hl : 0 < s.data.toList.length := by rw [Array.length_toList]; exact h1
  have hc : s.data.toList = 47 :: s.data.toList.drop 1 := by
    conv => lhs; rw [← List.drop_zero (l := s.data.toList), List.drop_eq_getElem_cons hl]
    congr 1
    unfold bN at h0
    simp only [List.getD, List.getElem?_eq_getElem hl, Option.getD_some] at h0
    exact UInt8.toNat.inj (by simpa using h0)
  have hj := splA_join (s.data.toList.drop 1) []
  rw [List.nil_append, ← hc] at hj
  have hj2 : s.data.toList = (nm s).flatMap (fun a => 47 :: a) := hj
  rw [hj2]
  conv => lhs; rw [nm_split s]
  rw [List.flatMap_append]
  simp [headL]
theorem last_no (s : ByteArray) : (47 : UInt8) ∉ lastL s := by
  refine splA_no (s.data.toList.drop 1) [] (by simp) _ ?_
  show lastL s ∈ nm s
  rw [nm_split s]
  simp
/-- The path above. -/
def parL (s : ByteArray) : List UInt8 := if headL s = [] then [47] else headL s
theorem okPath_head {s : ByteArray} (h : okPath s = true) : 1 ≤ s.size ∧ bN s 0 = 47 := by
  unfold okPath at h
  simp only [Bool.or_eq_true, Bool.and_eq_true, decide_eq_true_eq] at h
  rcases h with h | ⟨⟨⟨h1, h2⟩, -⟩, -⟩
  · have hs : s.data.toList.length = s.size := by rw [Array.length_toList]; rfl
    rw [h] at hs
    refine ⟨by simp at hs; omega, ?_⟩
    unfold bN; rw [h]; rfl
  · exact ⟨by omega, h2⟩


theorem bN_ne {s : ByteArray} {A L : List UInt8} (hs : s.data.toList = A ++ 47 :: L) (hL : (47 : UInt8) ∉ L) (j : Nat) (hj : A.length < j) (hj2 : j < s.size) : bN s j ≠ 47 := by
  intro h
  have hl : j < s.data.toList.length := by rw [Array.length_toList]; exact hj2
  unfold bN at h
  simp only [List.getD, List.getElem?_eq_getElem hl, Option.getD_some] at h
  have he : s.data.toList[j] = 47 := UInt8.toNat.inj (by simpa using h)
  have hm : s.data.toList[j] ∈ L := by
    refine List.mem_of_getElem? (i := j - A.length - 1) ?_
    have h1 : s.data.toList[j]? = some s.data.toList[j] := List.getElem?_eq_getElem hl
    rw [← h1]
    conv => rhs; rw [hs]
    rw [List.getElem?_append_right (by omega)]
    conv => rhs; rw [show j - A.length = (j - A.length - 1) + 1 by omega, List.getElem?_cons_succ]
  rw [he] at hm
  exact hL hm
theorem bN_at {s : ByteArray} {A L : List UInt8} (hs : s.data.toList = A ++ 47 :: L) : bN s A.length = 47 ∧ A.length < s.size := by
  have hz : s.data.toList.length = s.size := by rw [Array.length_toList]; rfl
  constructor
  · unfold bN
    rw [hs]
    simp [List.getD]
  · rw [← hz, hs]; simp

set_option maxHeartbeats 1000000 in
set_option maxRecDepth 100000 in
theorem lastIdx_any (w : World) (s : ByteArray) (A L : List UInt8) (hs : s.data.toList = A ++ 47 :: L) (hL : (47 : UInt8) ∉ L) (hz : s.size ≤ 1048576) :
    Calls Tryz.prog 112 #[.string s, .int .u8 47] w fun e w' => e = .returned (.int .i64 (A.length : Int)) ∧ w' = w := by
  have HS : Hid (s.data.toList = A ++ 47 :: L) := hs
  have HL : Hid ((47 : UInt8) ∉ L) := hL
  obtain ⟨h47, hlt⟩ := bN_at hs
  clear hs hL
  go_enter Tryz.func112, Tryz.ntmps112
  go_wp2
  go_loop [5] (fun i => ∃ j : Nat, A.length ≤ j ∧ j < s.size ∧ i = .int .i64 j) (fun i => (intOf i).toNat)
  case atStart => exact ⟨s.size - 1, by omega, by omega, by go_num⟩
  case round =>
    obtain ⟨j, hj, hj2, rfl⟩ := hrel
    have hjI : (0 : Int) ≤ (j : Int) := by omega
    have hb := bN_get s j hj2
    by_cases he : j = A.length
    · subst he
      have hx : s[A.length].toNat = 47 := by rw [← hb]; exact h47
      go_wp2
      go_ret
      exact ⟨rfl, rfl⟩
    · have hx : s[j].toNat ≠ 47 := by rw [← hb]; exact bN_ne HS.out HL.out j (by omega) hj2
      go_wp2
      exact ⟨⟨j - 1, by omega, by omega, by go_num⟩, by simp [intOf]; omega⟩

set_option maxHeartbeats 400000 in
theorem lastIB_any (w : World) (s : ByteArray) (A L : List UInt8) (hs : s.data.toList = A ++ 47 :: L) (hL : (47 : UInt8) ∉ L) (hz : s.size ≤ 1048576) :
    Calls Tryz.prog 102 #[.string s, .int .u8 47] w fun e w' => e = .returned (.int .i64 (A.length : Int)) ∧ w' = w := by
  have H : Hid (Calls Tryz.prog 112 #[.string s, .int .u8 47] w fun e w' => e = .returned (.int .i64 (A.length : Int)) ∧ w' = w) := lastIdx_any w s A L hs hL hz
  clear hs hL
  go_enter Tryz.func102, Tryz.ntmps102
  go_wp2_with fail
  refine H.out.mono ?_
  rintro e w1 ⟨rfl, rfl⟩
  go_wp2
  go_ret
  exact ⟨rfl, rfl⟩


set_option maxHeartbeats 400000 in
theorem parentPath_any (w : World) (s : ByteArray) (h : okPath s = true) :
    Calls Tryz.prog 87 #[.string s] w fun e w' => e = .returned (sV (parL s)) ∧ w' = w := by
  obtain ⟨h1, h0⟩ := okPath_head h
  have hz := okPath_size h
  have hs := path_split h1 h0
  have hal := (bN_at hs).2
  have H : Hid (Calls Tryz.prog 102 #[.string s, .int .u8 47] w fun e w' => e = .returned (.int .i64 ((headL s).length : Int)) ∧ w' = w) := lastIB_any w s _ _ hs (last_no s) (by omega)
  by_cases hm : headL s = []
  · have HEX : Hid (Value.string (s.extract 0 1) = sV (parL s)) := by
      show _ = _
      rw [extract_seg]
      unfold sV seg parL
      rw [if_pos hm, hs, hm]
      simp
    have hml : (headL s).length = 0 := by rw [hm]; rfl
    rw [hml] at H
    clear hs h h0 hm hml hal
    go_enter Tryz.func87, Tryz.ntmps87
    go_wp2_with fail
    refine H.out.mono ?_
    rintro e w1 ⟨rfl, rfl⟩
    go_wp2
    go_ret
    exact ⟨congrArg Ending.returned HEX.out, rfl⟩
  · have hml : 1 ≤ (headL s).length := by
      cases hh : headL s with
      | nil => exact absurd hh hm
      | cons a l => simp
    have HEX : Hid (Value.string (s.extract 0 (headL s).length) = sV (parL s)) := by
      show _ = _
      rw [extract_seg]
      unfold sV seg parL
      rw [if_neg hm, hs]
      simp
    clear hs h h0 hm
    generalize (headL s).length = m at *
    go_enter Tryz.func87, Tryz.ntmps87
    go_wp2_with fail
    refine H.out.mono ?_
    rintro e w1 ⟨rfl, rfl⟩
    go_wp2
    · go_ret
      exact ⟨congrArg Ending.returned HEX.out, rfl⟩
    · have hm1 : m = 1 := by omega
      subst hm1
      go_ret
      exact ⟨congrArg Ending.returned HEX.out, rfl⟩

/-- Is it a child of that path? -/
def chB (s p : ByteArray) : Bool := !(s.toList == [47]) && (parL s == p.toList)

set_option maxHeartbeats 400000 in
theorem isChild_any (w : World) (s p : ByteArray) (h : okPath s = true) :
    Calls Tryz.prog 94 #[.string s, .string p] w fun e w' => e = .returned (.bool (chB s p)) ∧ w' = w := by
  have H : Hid (Calls Tryz.prog 87 #[.string s] w fun e w' => e = .returned (sV (parL s)) ∧ w' = w) := parentPath_any w s h
  clear h
  unfold chB
  cases hA : (s.toList == [47]) with
  | true =>
    go_enter Tryz.func94, Tryz.ntmps94
    go_wp2
    go_ret
    exact ⟨rfl, rfl⟩
  | false =>
    go_enter Tryz.func94, Tryz.ntmps94
    go_wp2_with fail
    refine H.out.mono ?_
    rintro e w1 ⟨rfl, rfl⟩
    unfold sV
    go_wp2
    go_ret
    exact ⟨rfl, rfl⟩


theorem flat_succ (L : List (List UInt8)) (i : Nat) (h : i < L.length) : (L.take i).flatMap (fun a => 47 :: a) ++ 47 :: L[i] = (L.take (i + 1)).flatMap (fun a => 47 :: a) := by
  rw [List.take_succ_eq_append_getElem h, List.flatMap_append]; simp
theorem dropLast_take' (L : List (List UInt8)) (i : Nat) (h : i + 1 = L.length) : L.take i = L.dropLast := by
  rw [List.dropLast_eq_take]; congr 1; omega
theorem flat_le (s : ByteArray) (k : Nat) : (((nm s).take k).flatMap (fun a => (47 : UInt8) :: a)).length ≤ s.size + 1 := by
  have h1 : ((nm s).flatMap (fun a => (47 : UInt8) :: a)).length ≤ s.size + 1 := by
    have hj := congrArg List.length (splA_join (s.data.toList.drop 1) [])
    have hs2 : s.data.toList.length = s.size := by rw [Array.length_toList]; rfl
    rw [List.length_cons, List.nil_append, List.length_drop, hs2] at hj
    unfold nm
    omega
  have h2 : (nm s).flatMap (fun a => (47 : UInt8) :: a) = ((nm s).take k).flatMap (fun a => 47 :: a) ++ ((nm s).drop k).flatMap (fun a => 47 :: a) := by
    rw [← List.flatMap_append, List.take_append_drop]
  have h3 := congrArg List.length h2
  rw [List.length_append] at h3
  omega
theorem ba_ap (a b : List UInt8) : (⟨a.toArray⟩ ++ ⟨b.toArray⟩ : ByteArray) = ⟨(a ++ b).toArray⟩ := by
  apply ByteArray.ext
  simp [ByteArray.data_append]

set_option maxHeartbeats 1000000 in
set_option maxRecDepth 100000 in
theorem l3Parent_any (w : World) (s : ByteArray) (h : okPath s = true) :
    Calls Tryz.prog 44 #[.string s] w fun e w' => e = .returned (sV (parL s)) ∧ Below w.heap.size w w' := by
  obtain ⟨h1, -⟩ := okPath_head h
  have hz := okPath_size h
  have hn : 1 ≤ (nm s).length := by
    cases hh : nm s with
    | nil => exact absurd hh (nm_ne s)
    | cons a l => simp
  have hnl : (nm s).length ≤ 103 := by
    have := splA_tot (s.data.toList.drop 1) []
    have hs2 : s.data.toList.length = s.size := by rw [Array.length_toList]; rfl
    rw [List.length_drop, hs2] at this
    simp only [List.length_nil] at this
    unfold nm
    omega
  clear h
  go_enter Tryz.func44, Tryz.ntmps44
  go_wp2_with fail
  refine (names_any _ s h1 (by omega)).mono ?_
  rintro e w1 ⟨v1, rfl, o1, b1⟩
  obtain ⟨g, c, hv⟩ : ∃ g c, v1 = .slice (some ⟨g, 0, none⟩) (nm s).length c := by
    rcases o1.2 with ⟨-, h0⟩ | ⟨g, cap, cur, rfl, -⟩
    · omega
    · exact ⟨g, cap, rfl⟩
  subst hv
  have CL : Hid (∀ i (hi : i < (nm s).length), w1.cell? ⟨g, i, none⟩ = some (.string ⟨((nm s)[i]).toArray⟩)) := by
    intro i hi
    have := World.ownsRow.cells o1 (g := g) rfl i (sV (nm s)[i]) (by rw [List.getElem?_map, List.getElem?_eq_getElem hi]; rfl)
    rw [Addr.add_lit, Nat.zero_add] at this; exact this
  have B1 : Hid (Below w.heap.size w w1) := b1
  clear o1 b1
  obtain ⟨n, hnn⟩ : ∃ n, n = (nm s).length := ⟨_, rfl⟩
  have HNN : Hid (n = (nm s).length) := hnn
  rw [← hnn] at hn hnl ⊢
  clear hnn
  go_wp2
  go_loop [4, 5] (fun vo vi => ∃ i : Nat, i + 1 ≤ n ∧ vi = .int .i64 i ∧ vo = .string ⟨(((nm s).take i).flatMap (fun a => 47 :: a)).toArray⟩) (fun _ i => n - (intOf i).toNat)
  case atStart => exact ⟨0, hn, rfl, rfl⟩
  case round =>
    obtain ⟨i, hi, rfl, rfl⟩ := hrel
    by_cases hlt : i + 1 < n
    · have hltI : (i : Int) + 1 < (n : Int) := by omega
      have hil : i < (nm s).length := by rw [← HNN.out]; omega
      have c1 := CL.out i hil
      have HF : Hid ((⟨(((nm s).take i).flatMap (fun a => 47 :: a)).toArray⟩ : ByteArray) ++ ((⟨#[47]⟩ : ByteArray) ++ ⟨((nm s)[i]).toArray⟩) = ⟨(((nm s).take (i + 1)).flatMap (fun a => 47 :: a)).toArray⟩) := by
        show _ = _
        rw [show (⟨#[47]⟩ : ByteArray) = ⟨([47] : List UInt8).toArray⟩ from rfl, ba_ap, ba_ap, ← flat_succ _ i hil]
        rfl
      have hlen : (((nm s).take i).flatMap (fun a => (47 : UInt8) :: a)).length + (1 + ((nm s)[i]).length) ≤ 103 := by
        have := flat_le s (i + 1)
        rw [← flat_succ _ i hil, List.length_append, List.length_cons] at this
        omega
      generalize hA : ((nm s).take i).flatMap (fun a => (47 : UInt8) :: a) = A at *
      generalize hB : (nm s)[i] = Bx at *
      clear hA hB
      go_wp2
      exact ⟨⟨i + 1, by omega, by go_num, congrArg Value.string HF.out⟩, by simp [intOf]; omega⟩
    · have hin : i + 1 = (nm s).length := by rw [← HNN.out]; omega
      have hnI : ¬ (i : Int) + 1 < (n : Int) := by omega
      have HH : Hid (((nm s).take i).flatMap (fun a => (47 : UInt8) :: a) = headL s) := by show _ = _; rw [dropLast_take' _ _ hin]; rfl
      rw [HH.out]
      have HP : Hid (parL s = if headL s = [] then [47] else headL s) := rfl
      clear HH
      cases hh : headL s with
      | nil =>
        rw [hh] at HP
        go_wp2
        go_ret
        exact ⟨by rw [HP.out]; rfl, B1.out⟩
      | cons a l =>
        rw [hh] at HP
        go_wp2
        go_ret
        exact ⟨by rw [HP.out, if_neg (by simp)]; rfl, B1.out⟩

end Go.Proofs.YtejhcebodlcloaaGreatDoor


