import Derived.Test.YtdiingonnddkcaaGreatDoorChecked
import Derived.Test.YtdiingonnddkcaaGreatDoorJ01
import Derived.Deep.QuietTactic
import Derived.BigQuiet
import Derived.Laws.BytesArg
import Derived.Lib.ConvBytes
import Derived.Deep.RegionHeld3
import Derived.Test.YtdiingonnddkcaaGreatDoorJ02
import Derived.Lib.AppendStr
import Derived.Test.YtdiingonnddkcaaGreatDoorJ03
namespace Go.Proofs.YtdiingonnddkcaaGreatDoor
open Go.RowKit

theorem Tryz.infoB : (Tryz.prog.info? 5).map (fun i => (i.zero, i.size, i.bytes)) = some (some (.int .u8 0), 1, 1) := by kernel_rfl

theorem ret_int {k : IntKind} {a b : Int} (h : a = b) : Ending.returned (.int k a) = .returned (.int k b) := by rw [h]

/-! ### a row that is written from its head on -/
def mix (ys xs : List Int) (i : Nat) : List Int := ys.take i ++ xs.drop i

theorem grownBy_set (w w' : World) (g i : Nat) (u : Value) (h : w.grownBy w' (some g)) : w.grownBy (w'.setCell ⟨g, i, none⟩ u) (some g) :=
  ⟨h.os, h.tape, h.output, by simpa using h.size, fun k hk hne => by
    have hs := h.size
    rw [← h.block k hk hne]
    exact Below.heap_setCell _ _ _ _ (fun e => hne (by rw [e]))⟩

end Go.Proofs.YtdiingonnddkcaaGreatDoor
namespace Go.Proofs.YtdiingonnddkcaaGreatDoor


/-- The number whose digits, of w bits each, are the low bits of xs, the highest first. -/
def numW (w : Nat) (xs : List Int) : Nat := xs.foldl (fun a x => a * 2 ^ w + x.toNat % 2 ^ w) 0

/-- Digit q, of v bits, of the bits of xs (w bits each). -/
def dig (w v : Nat) (xs : List Int) (q : Nat) : Nat := numW w xs / 2 ^ (w * xs.length - v * (q + 1)) % 2 ^ v

/-- joinGroups' answer. -/
def up (ps : List Int) : List Int := (List.range (7 * ps.length / 8)).map (fun q => ((dig 7 8 ps q : Nat) : Int))

end Go.Proofs.YtdiingonnddkcaaGreatDoor
namespace Go.Proofs.YtdiingonnddkcaaGreatDoor
open Go.RowKit

def Byt (xs : List Int) : Prop := ∀ x ∈ xs, 0 ≤ x ∧ x < 256
theorem byt_at {xs : List Int} (h : Byt xs) (k : Nat) : ∃ x : Nat, x < 256 ∧ xs.getD k 0 = (x : Int) := by
  by_cases hk : k < xs.length
  · have := h xs[k] (List.getElem_mem hk)
    exact ⟨xs[k].toNat, by omega, by simp only [List.getD, List.getElem?_eq_getElem hk, Option.getD_some]; omega⟩
  · exact ⟨0, by omega, by simp [List.getD, show xs.length ≤ k by omega]⟩



theorem conv_any {w : World} {v : Value} {xs : List Int} (h : Rd .u8 w v xs) : (convert 22 9 v).run Tryz.prog w = .ok (.string (strOfNums xs)) w := by
  obtain ⟨ao, cap, rfl, h1, h2, h3⟩ := h
  rcases h3 with rfl | ⟨b, o, rfl, hb, hc⟩
  · cases ao with
    | none => exact run_convert_bytes_nil w _ _ Tryz.underlying22 Tryz.underlying5 0 cap _ Tryz.underlying9
    | some a =>
      rw [run_convert_bytes_string w _ _ _ _ _ _ Tryz.underlying22 Tryz.underlying5 Tryz.underlying9]
      exact run_bytesToString w a 0 cap [] (by simp [loadCells, loadCellsFrom])
  · exact run_convert_bytes_arg w _ _ Tryz.underlying22 Tryz.underlying5 b o _ cap xs rfl hc _ Tryz.underlying9


theorem step_append {P : Program} {ops : Array Oper} {o : Oper} {a : Act} {w : World} {K : Act → World → Prop} {Q : Exit → Act → World → Prop} {E : Prop}
    (hg : o.guard = none) (s x : Operand) (t : TypeId) (hop : o.op = Op.call { callee := Callee.builtin Builtin.append, args := #[s, x], argTypes := #[t, t] })
    (base : Nat) (e : TypeId) (i : TypeInfo) (z : Value) (size bytes : Nat) (h1 : P.underlying t = some (.slice e)) (h2 : P.info? e = some i) (h3 : i.zero = some z) (h4 : i.size = size) (h5 : i.bytes = bytes) (h6 : z.cells.size = size) (h7 : 0 < size)
    (v : Value) (n : Nat) (xs : List Value) (hs : a.eval s = v) (hown : w.ownsRow base e size v n xs) (ad : Addr) (m c : Nat) (news : List Value) (hx : a.eval x = .slice (some ad) m c) (hn : news.length = m * size)
    (hc : ∀ j u, news[j]? = some u → w.cell? (ad.add j) = some u) (h1c : ∀ u ∈ news, u.oneCell' = true) (b1 : n + m ≤ maxLen) (b2 : (n + m) * bytes ≤ 140737488355328) (hb : base ≤ w.heap.size)
    (hK : ∀ v' w', w'.ownsRow base e size v' (n + m) (xs ++ news) → w.grownBy w' v.ownBlock → K (a.put o.dst v') w') :
    if Region.wanted o (yielded ops a.tmps) = true then Oper.wp P o a w K Q else E := by
  have hw : Region.wanted o (yielded ops a.tmps) = true := by simp [Region.wanted, hg]
  rw [if_pos hw]
  obtain ⟨v', w', hrun, r1, r2, _⟩ := run_append_own (P := P) w base t o.type e i z size bytes h1 h2 h3 h4 h5 h6 h7 v n xs hown ad m c news hn hc h1c b1 b2 hb
  unfold Oper.wp
  simp [execOp, hop, resolve, invoke, builtin, hs, hx, hrun, Result.andThen]
  exact hK v' w' r1 r2



theorem splA_tot : ∀ l cur : List UInt8, ((splA cur l).map List.length).sum + (splA cur l).length = cur.length + l.length + 1
  | [], cur => by simp [splA]
  | x :: l, cur => by
    by_cases h : x = 47
    · subst h
      have := splA_tot l []
      rw [splA_sl]
      simp only [List.map_cons, List.sum_cons, List.length_cons, List.length_nil] at this ⊢
      omega
    · have := splA_tot l (cur ++ [x])
      rw [splA_ch h]
      simp only [List.length_append, List.length_cons, List.length_nil] at this ⊢
      omega
theorem sum_le (m : Nat) : ∀ L : List (List UInt8), (∀ x ∈ L, x.length ≤ m) → (L.map List.length).sum ≤ L.length * m
  | [], _ => by simp
  | x :: L, h => by
    have h1 := h x (by simp)
    have h2 := sum_le m L (fun y hy => h y (by simp [hy]))
    rw [List.map_cons, List.sum_cons, List.length_cons, Nat.add_mul]
    omega
theorem okL_len {l : List UInt8} (h : okL l = true) : l.length ≤ 16 := by
  unfold okL okN at h
  simp only [Bool.and_eq_true, decide_eq_true_eq] at h
  have h2 : (ByteArray.mk l.toArray).size = l.length := rfl
  omega
theorem okPath_size {s : ByteArray} (h : okPath s = true) : s.size ≤ 102 := by
  have hs : s.data.toList.length = s.size := by rw [Array.length_toList]; rfl
  unfold okPath at h
  simp only [Bool.or_eq_true, Bool.and_eq_true, decide_eq_true_eq] at h
  rcases h with h | ⟨⟨⟨h1, h2⟩, h3⟩, h4⟩
  · rw [h] at hs; simp at hs; omega
  · have h5 := splA_tot (s.data.toList.drop 1) []
    have h6 := sum_le 16 (nm s) (fun x hx => okL_len (List.all_eq_true.1 h4 x hx))
    unfold nm at h3 h6
    rw [List.length_drop, hs] at h5
    simp only [List.length_nil] at h5
    omega

theorem okNd_all {n : Nd} (h : okNd n = true) : n.path.size ≤ 102 ∧ n.data.size ≤ 64 ∧ (0 ≤ n.ver ∧ n.ver ≤ 2147483647) ∧ (0 ≤ n.cver ∧ n.cver ≤ 2147483647) ∧ (0 ≤ n.cz ∧ n.cz ≤ 2147483647) ∧ (0 ≤ n.mz ∧ n.mz ≤ 2147483647) ∧ (0 ≤ n.pz ∧ n.pz ≤ 2147483647) := by
  unfold okNd okS at h
  simp only [Bool.and_eq_true, decide_eq_true_eq] at h
  obtain ⟨⟨⟨⟨⟨⟨h1, h2⟩, h3⟩, h4⟩, h5⟩, h6⟩, h7⟩ := h
  exact ⟨okPath_size h1, h2, h3, h4, h5, h6, h7⟩

theorem okTree_nd {ns : List Nd} (h : okTree ns = true) (k : Nat) (hk : k < ns.length) : okNd (nAt ns k) = true := by
  unfold okTree okSorted at h
  simp only [Bool.and_eq_true] at h
  have := List.all_eq_true.1 h.2 k (by simpa using hk)
  unfold okAt at this
  simp only [Bool.and_eq_true] at this
  exact this.1
theorem okTree_len {ns : List Nd} (h : okTree ns = true) : ns.length ≤ 1000 := by
  unfold okTree at h
  simp only [Bool.and_eq_true, decide_eq_true_eq] at h
  exact h.1

theorem splA_join : ∀ (l cur : List UInt8), 47 :: (cur ++ l) = (splA cur l).flatMap (fun a => 47 :: a)
  | [], cur => by simp [splA]
  | x :: l, cur => by
    by_cases h : x = 47
    · subst h
      rw [splA_sl, List.flatMap_cons, ← splA_join l []]
      simp
    · rw [splA_ch h, ← splA_join l (cur ++ [x])]
      simp
theorem splA_no : ∀ (l cur : List UInt8), (47 : UInt8) ∉ cur → ∀ a ∈ splA cur l, (47 : UInt8) ∉ a
  | [], cur, h, a, ha => by simp [splA] at ha; subst ha; exact h
  | x :: l, cur, h, a, ha => by
    by_cases hx : x = 47
    · subst hx
      rw [splA_sl] at ha
      rcases List.mem_cons.1 ha with rfl | ha
      · exact h
      · exact splA_no l [] (by simp) a ha
    · rw [splA_ch hx] at ha
      refine splA_no l (cur ++ [x]) ?_ a ha
      intro hm
      rcases List.mem_append.1 hm with hm | hm
      · exact h hm
      · simp at hm; exact hx hm.symm
/-- What is ahead of the last slash, and what is behind it. -/
def headL (s : ByteArray) : List UInt8 := (nm s).dropLast.flatMap (fun a => 47 :: a)
def lastL (s : ByteArray) : List UInt8 := (nm s).getLastD []
theorem nm_ne (s : ByteArray) : nm s ≠ [] := fun h => by have := splA_pos (s.data.toList.drop 1) []; unfold nm at h; rw [h] at this; simp at this
theorem nm_split (s : ByteArray) : nm s = (nm s).dropLast ++ [lastL s] := by
  unfold lastL
  have h := nm_ne s
  rw [List.getLastD_eq_getLast?, List.getLast?_eq_some_getLast h, Option.getD_some]
  exact (List.dropLast_concat_getLast h).symm
theorem path_split {s : ByteArray} (h1 : 1 ≤ s.size) (h0 : bN s 0 = 47) : s.data.toList = headL s ++ 47 :: lastL s := by
  have hl : 0 < s.data.toList.length := by rw [Array.length_toList]; exact h1
  have hc : s.data.toList = 47 :: s.data.toList.drop 1 := by
    conv => lhs; rw [← List.drop_zero (l := s.data.toList), List.drop_eq_getElem_cons hl]
    congr 1
    unfold bN at h0
    simp only [List.getD, List.getElem?_eq_getElem hl, Option.getD_some] at h0
    exact UInt8.toNat.inj (by simpa using h0)
  have hj := splA_join (s.data.toList.drop 1) []
  rw [List.nil_append, ← hc] at hj
  have hj2 : s.data.toList = (nm s).flatMap (fun a => 47 :: a) := hj
  rw [hj2]
  conv => lhs; rw [nm_split s]
  rw [List.flatMap_append]
  simp [headL]
theorem last_no (s : ByteArray) : (47 : UInt8) ∉ lastL s := by
  refine splA_no (s.data.toList.drop 1) [] (by simp) _ ?_
  show lastL s ∈ nm s
  rw [nm_split s]
  simp
/-- The path above. -/
def parL (s : ByteArray) : List UInt8 := if headL s = [] then [47] else headL s
theorem okPath_head {s : ByteArray} (h : okPath s = true) : 1 ≤ s.size ∧ bN s 0 = 47 := by
  unfold okPath at h
  simp only [Bool.or_eq_true, Bool.and_eq_true, decide_eq_true_eq] at h
  rcases h with h | ⟨⟨⟨h1, h2⟩, -⟩, -⟩
  · have hs : s.data.toList.length = s.size := by rw [Array.length_toList]; rfl
    rw [h] at hs
    refine ⟨by simp at hs; omega, ?_⟩
    unfold bN; rw [h]; rfl
  · exact ⟨by omega, h2⟩


theorem bN_ne {s : ByteArray} {A L : List UInt8} (hs : s.data.toList = A ++ 47 :: L) (hL : (47 : UInt8) ∉ L) (j : Nat) (hj : A.length < j) (hj2 : j < s.size) : bN s j ≠ 47 := by
  intro h
  have hl : j < s.data.toList.length := by rw [Array.length_toList]; exact hj2
  unfold bN at h
  simp only [List.getD, List.getElem?_eq_getElem hl, Option.getD_some] at h
  have he : s.data.toList[j] = 47 := UInt8.toNat.inj (by simpa using h)
  have hm : s.data.toList[j] ∈ L := by
    refine List.mem_of_getElem? (i := j - A.length - 1) ?_
    have h1 : s.data.toList[j]? = some s.data.toList[j] := List.getElem?_eq_getElem hl
    rw [← h1]
    conv => rhs; rw [hs]
    rw [List.getElem?_append_right (by omega)]
    conv => rhs; rw [show j - A.length = (j - A.length - 1) + 1 by omega, List.getElem?_cons_succ]
  rw [he] at hm
  exact hL hm
theorem bN_at {s : ByteArray} {A L : List UInt8} (hs : s.data.toList = A ++ 47 :: L) : bN s A.length = 47 ∧ A.length < s.size := by
  have hz : s.data.toList.length = s.size := by rw [Array.length_toList]; rfl
  constructor
  · unfold bN
    rw [hs]
    simp [List.getD]
  · rw [← hz, hs]; simp

set_option maxHeartbeats 1000000 in
set_option maxRecDepth 100000 in
theorem lastIdx_any (w : World) (s : ByteArray) (A L : List UInt8) (hs : s.data.toList = A ++ 47 :: L) (hL : (47 : UInt8) ∉ L) (hz : s.size ≤ 1048576) :
    Calls Tryz.prog 101 #[.string s, .int .u8 47] w fun e w' => e = .returned (.int .i64 (A.length : Int)) ∧ w' = w := by
  have HS : Hid (s.data.toList = A ++ 47 :: L) := hs
  have HL : Hid ((47 : UInt8) ∉ L) := hL
  obtain ⟨h47, hlt⟩ := bN_at hs
  clear hs hL
  go_enter Tryz.func101, Tryz.ntmps101
  go_wp2
  go_loop [5] (fun i => ∃ j : Nat, A.length ≤ j ∧ j < s.size ∧ i = .int .i64 j) (fun i => (intOf i).toNat)
  case atStart => exact ⟨s.size - 1, by omega, by omega, by go_num⟩
  case round =>
    obtain ⟨j, hj, hj2, rfl⟩ := hrel
    have hjI : (0 : Int) ≤ (j : Int) := by omega
    have hb := bN_get s j hj2
    by_cases he : j = A.length
    · subst he
      have hx : s[A.length].toNat = 47 := by rw [← hb]; exact h47
      go_wp2
      go_ret
      exact ⟨rfl, rfl⟩
    · have hx : s[j].toNat ≠ 47 := by rw [← hb]; exact bN_ne HS.out HL.out j (by omega) hj2
      go_wp2
      exact ⟨⟨j - 1, by omega, by omega, by go_num⟩, by simp [intOf]; omega⟩

set_option maxHeartbeats 400000 in
theorem lastIB_any (w : World) (s : ByteArray) (A L : List UInt8) (hs : s.data.toList = A ++ 47 :: L) (hL : (47 : UInt8) ∉ L) (hz : s.size ≤ 1048576) :
    Calls Tryz.prog 76 #[.string s, .int .u8 47] w fun e w' => e = .returned (.int .i64 (A.length : Int)) ∧ w' = w := by
  have H : Hid (Calls Tryz.prog 101 #[.string s, .int .u8 47] w fun e w' => e = .returned (.int .i64 (A.length : Int)) ∧ w' = w) := lastIdx_any w s A L hs hL hz
  clear hs hL
  go_enter Tryz.func76, Tryz.ntmps76
  go_wp2_with fail
  refine H.out.mono ?_
  rintro e w1 ⟨rfl, rfl⟩
  go_wp2
  go_ret
  exact ⟨rfl, rfl⟩

set_option maxHeartbeats 400000 in
theorem lastName_any (w : World) (s : ByteArray) (h : okPath s = true) :
    Calls Tryz.prog 41 #[.string s] w fun e w' => e = .returned (sV (lastL s)) ∧ w' = w := by
  obtain ⟨h1, h0⟩ := okPath_head h
  have hz := okPath_size h
  have hs := path_split h1 h0
  have hal := (bN_at hs).2
  have H : Hid (Calls Tryz.prog 76 #[.string s, .int .u8 47] w fun e w' => e = .returned (.int .i64 ((headL s).length : Int)) ∧ w' = w) := lastIB_any w s _ _ hs (last_no s) (by omega)
  have HEX : Hid (Value.string (s.extract ((headL s).length + 1) s.size) = sV (lastL s)) := by
    show _ = _
    rw [extract_seg]
    unfold sV seg
    rw [hs, List.drop_append, List.drop_eq_nil_of_le (by omega)]
    have hl : (lastL s).length = s.size - ((headL s).length + 1) := by
      have := congrArg List.length hs
      rw [List.length_append, List.length_cons, Array.length_toList] at this
      have h2 : s.data.size = s.size := rfl
      omega
    simp
    rw [List.take_of_length_le (by omega)]
  clear hs h h1 h0
  generalize (headL s).length = m at *
  go_enter Tryz.func41, Tryz.ntmps41
  go_wp2_with fail
  refine H.out.mono ?_
  rintro e w1 ⟨rfl, rfl⟩
  go_wp2
  go_ret
  exact ⟨congrArg Ending.returned HEX.out, rfl⟩

set_option maxHeartbeats 400000 in
theorem parentPath_any (w : World) (s : ByteArray) (h : okPath s = true) :
    Calls Tryz.prog 75 #[.string s] w fun e w' => e = .returned (sV (parL s)) ∧ w' = w := by
  obtain ⟨h1, h0⟩ := okPath_head h
  have hz := okPath_size h
  have hs := path_split h1 h0
  have hal := (bN_at hs).2
  have H : Hid (Calls Tryz.prog 76 #[.string s, .int .u8 47] w fun e w' => e = .returned (.int .i64 ((headL s).length : Int)) ∧ w' = w) := lastIB_any w s _ _ hs (last_no s) (by omega)
  by_cases hm : headL s = []
  · have HEX : Hid (Value.string (s.extract 0 1) = sV (parL s)) := by
      show _ = _
      rw [extract_seg]
      unfold sV seg parL
      rw [if_pos hm, hs, hm]
      simp
    have hml : (headL s).length = 0 := by rw [hm]; rfl
    rw [hml] at H
    clear hs h h0 hm hml hal
    go_enter Tryz.func75, Tryz.ntmps75
    go_wp2_with fail
    refine H.out.mono ?_
    rintro e w1 ⟨rfl, rfl⟩
    go_wp2
    go_ret
    exact ⟨congrArg Ending.returned HEX.out, rfl⟩
  · have hml : 1 ≤ (headL s).length := by
      cases hh : headL s with
      | nil => exact absurd hh hm
      | cons a l => simp
    have HEX : Hid (Value.string (s.extract 0 (headL s).length) = sV (parL s)) := by
      show _ = _
      rw [extract_seg]
      unfold sV seg parL
      rw [if_neg hm, hs]
      simp
    clear hs h h0 hm
    generalize (headL s).length = m at *
    go_enter Tryz.func75, Tryz.ntmps75
    go_wp2_with fail
    refine H.out.mono ?_
    rintro e w1 ⟨rfl, rfl⟩
    go_wp2
    · go_ret
      exact ⟨congrArg Ending.returned HEX.out, rfl⟩
    · have hm1 : m = 1 := by omega
      subst hm1
      go_ret
      exact ⟨congrArg Ending.returned HEX.out, rfl⟩

/-- Is it a child of that path? -/
def chB (s p : ByteArray) : Bool := !(s.toList == [47]) && (parL s == p.toList)

set_option maxHeartbeats 400000 in
theorem isChild_any (w : World) (s p : ByteArray) (h : okPath s = true) :
    Calls Tryz.prog 40 #[.string s, .string p] w fun e w' => e = .returned (.bool (chB s p)) ∧ w' = w := by
  have H : Hid (Calls Tryz.prog 75 #[.string s] w fun e w' => e = .returned (sV (parL s)) ∧ w' = w) := parentPath_any w s h
  clear h
  unfold chB
  cases hA : (s.toList == [47]) with
  | true =>
    go_enter Tryz.func40, Tryz.ntmps40
    go_wp2
    go_ret
    exact ⟨rfl, rfl⟩
  | false =>
    go_enter Tryz.func40, Tryz.ntmps40
    go_wp2_with fail
    refine H.out.mono ?_
    rintro e w1 ⟨rfl, rfl⟩
    unfold sV
    go_wp2
    go_ret
    exact ⟨rfl, rfl⟩


theorem flat_succ (L : List (List UInt8)) (i : Nat) (h : i < L.length) : (L.take i).flatMap (fun a => 47 :: a) ++ 47 :: L[i] = (L.take (i + 1)).flatMap (fun a => 47 :: a) := by
  rw [List.take_succ_eq_append_getElem h, List.flatMap_append]; simp
theorem dropLast_take' (L : List (List UInt8)) (i : Nat) (h : i + 1 = L.length) : L.take i = L.dropLast := by
  rw [List.dropLast_eq_take]; congr 1; omega
theorem flat_le (s : ByteArray) (k : Nat) : (((nm s).take k).flatMap (fun a => (47 : UInt8) :: a)).length ≤ s.size + 1 := by
  have h1 : ((nm s).flatMap (fun a => (47 : UInt8) :: a)).length ≤ s.size + 1 := by
    have hj := congrArg List.length (splA_join (s.data.toList.drop 1) [])
    have hs2 : s.data.toList.length = s.size := by rw [Array.length_toList]; rfl
    rw [List.length_cons, List.nil_append, List.length_drop, hs2] at hj
    unfold nm
    omega
  have h2 : (nm s).flatMap (fun a => (47 : UInt8) :: a) = ((nm s).take k).flatMap (fun a => 47 :: a) ++ ((nm s).drop k).flatMap (fun a => 47 :: a) := by
    rw [← List.flatMap_append, List.take_append_drop]
  have h3 := congrArg List.length h2
  rw [List.length_append] at h3
  omega
theorem ba_ap (a b : List UInt8) : (⟨a.toArray⟩ ++ ⟨b.toArray⟩ : ByteArray) = ⟨(a ++ b).toArray⟩ := by
  apply ByteArray.ext
  simp [ByteArray.data_append]

set_option maxHeartbeats 1000000 in
set_option maxRecDepth 100000 in
theorem l3Parent_any (w : World) (s : ByteArray) (h : okPath s = true) :
    Calls Tryz.prog 61 #[.string s] w fun e w' => e = .returned (sV (parL s)) ∧ Below w.heap.size w w' := by
  obtain ⟨h1, -⟩ := okPath_head h
  have hz := okPath_size h
  have hn : 1 ≤ (nm s).length := by
    cases hh : nm s with
    | nil => exact absurd hh (nm_ne s)
    | cons a l => simp
  have hnl : (nm s).length ≤ 103 := by
    have := splA_tot (s.data.toList.drop 1) []
    have hs2 : s.data.toList.length = s.size := by rw [Array.length_toList]; rfl
    rw [List.length_drop, hs2] at this
    simp only [List.length_nil] at this
    unfold nm
    omega
  clear h
  go_enter Tryz.func61, Tryz.ntmps61
  go_wp2_with fail
  refine (names_any _ s h1 (by omega)).mono ?_
  rintro e w1 ⟨v1, rfl, o1, b1⟩
  obtain ⟨g, c, hv⟩ : ∃ g c, v1 = .slice (some ⟨g, 0, none⟩) (nm s).length c := by
    rcases o1.2 with ⟨-, h0⟩ | ⟨g, cap, cur, rfl, -⟩
    · omega
    · exact ⟨g, cap, rfl⟩
  subst hv
  have CL : Hid (∀ i (hi : i < (nm s).length), w1.cell? ⟨g, i, none⟩ = some (.string ⟨((nm s)[i]).toArray⟩)) := by
    intro i hi
    have := World.ownsRow.cells o1 (g := g) rfl i (sV (nm s)[i]) (by rw [List.getElem?_map, List.getElem?_eq_getElem hi]; rfl)
    rw [Addr.add_lit, Nat.zero_add] at this; exact this
  have B1 : Hid (Below w.heap.size w w1) := b1
  clear o1 b1
  obtain ⟨n, hnn⟩ : ∃ n, n = (nm s).length := ⟨_, rfl⟩
  have HNN : Hid (n = (nm s).length) := hnn
  rw [← hnn] at hn hnl ⊢
  clear hnn
  go_wp2
  go_loop [4, 5] (fun vo vi => ∃ i : Nat, i + 1 ≤ n ∧ vi = .int .i64 i ∧ vo = .string ⟨(((nm s).take i).flatMap (fun a => 47 :: a)).toArray⟩) (fun _ i => n - (intOf i).toNat)
  case atStart => exact ⟨0, hn, rfl, rfl⟩
  case round =>
    obtain ⟨i, hi, rfl, rfl⟩ := hrel
    by_cases hlt : i + 1 < n
    · have hltI : (i : Int) + 1 < (n : Int) := by omega
      have hil : i < (nm s).length := by rw [← HNN.out]; omega
      have c1 := CL.out i hil
      have HF : Hid ((⟨(((nm s).take i).flatMap (fun a => 47 :: a)).toArray⟩ : ByteArray) ++ ((⟨#[47]⟩ : ByteArray) ++ ⟨((nm s)[i]).toArray⟩) = ⟨(((nm s).take (i + 1)).flatMap (fun a => 47 :: a)).toArray⟩) := by
        show _ = _
        rw [show (⟨#[47]⟩ : ByteArray) = ⟨([47] : List UInt8).toArray⟩ from rfl, ba_ap, ba_ap, ← flat_succ _ i hil]
        rfl
      have hlen : (((nm s).take i).flatMap (fun a => (47 : UInt8) :: a)).length + (1 + ((nm s)[i]).length) ≤ 103 := by
        have := flat_le s (i + 1)
        rw [← flat_succ _ i hil, List.length_append, List.length_cons] at this
        omega
      generalize hA : ((nm s).take i).flatMap (fun a => (47 : UInt8) :: a) = A at *
      generalize hB : (nm s)[i] = Bx at *
      clear hA hB
      go_wp2
      exact ⟨⟨i + 1, by omega, by go_num, congrArg Value.string HF.out⟩, by simp [intOf]; omega⟩
    · have hin : i + 1 = (nm s).length := by rw [← HNN.out]; omega
      have hnI : ¬ (i : Int) + 1 < (n : Int) := by omega
      have HH : Hid (((nm s).take i).flatMap (fun a => (47 : UInt8) :: a) = headL s) := by show _ = _; rw [dropLast_take' _ _ hin]; rfl
      rw [HH.out]
      have HP : Hid (parL s = if headL s = [] then [47] else headL s) := rfl
      clear HH
      cases hh : headL s with
      | nil =>
        rw [hh] at HP
        go_wp2
        go_ret
        exact ⟨by rw [HP.out]; rfl, B1.out⟩
      | cons a l =>
        rw [hh] at HP
        go_wp2
        go_ret
        exact ⟨by rw [HP.out, if_neg (by simp)]; rfl, B1.out⟩

end Go.Proofs.YtdiingonnddkcaaGreatDoor
namespace Go.Proofs.YtdiingonnddkcaaGreatDoor
open Go.RowKit Go.Shelf

/-- Decimal digits with zeros ahead up to so many. -/
def six : Nat → Nat → Nat → List UInt8
  | 0, _, _ => []
  | f + 1, v, d => if v = 0 ∧ d = 0 then [] else six f (v / 10) (d - 1) ++ [UInt8.ofNat (48 + v % 10)]
theorem six_len : ∀ f v d, (six f v d).length ≤ f
  | 0, _, _ => Nat.le_refl _
  | f + 1, v, d => by
    unfold six
    split
    · simp
    · have := six_len f (v / 10) (d - 1)
      simp; omega

set_option maxHeartbeats 1000000 in
set_option maxRecDepth 100000 in
theorem l3Six_end (w : World) (dg : Int) (hd : dg ≤ 0) : Calls Tryz.prog 63 #[.int .i64 0, .int .i64 dg] w fun e w' => e = .returned (.string ⟨#[]⟩) ∧ Below w.heap.size w w' := by
  go_enter Tryz.func63, Tryz.ntmps63
  go_wp2
  go_ret
  exact ⟨rfl, Below.refl _ _⟩
theorem strOf_one (n : Nat) : strOfNums [(n : Int)] = ⟨[UInt8.ofNat n].toArray⟩ := by
  unfold strOfNums
  simp

set_option linter.unusedSimpArgs false in
set_option maxHeartbeats 2000000 in
set_option maxRecDepth 100000 in
theorem l3Six_any : ∀ (f : Nat) (w : World) (v : Nat) (dg : Int), f ≤ 20 → v < 10 ^ f → v ≤ 1000000000000 → dg.toNat ≤ f → dg ≤ 100 → (f : Int) - 100 ≤ dg →
    Calls Tryz.prog 63 #[.int .i64 (v : Int), .int .i64 dg] w fun e w' => e = .returned (.string ⟨(six (f + 1) v dg.toNat).toArray⟩) ∧ Below w.heap.size w w' := by
  intro f
  induction f with
  | zero =>
    intro w v dg hf hv hv2 hd hdg hdm
    have hv0 : v = 0 := by simpa using hv
    subst hv0
    refine (l3Six_end w dg (by omega)).mono ?_
    rintro e w' ⟨rfl, b⟩
    rw [show dg.toNat = 0 by omega]
    exact ⟨rfl, b⟩
  | succ f ih =>
    intro w v dg hf hv hv2 hd hdg hdm
    by_cases hz : v = 0 ∧ dg ≤ 0
    · obtain ⟨rfl, hz2⟩ := hz
      refine (l3Six_end w dg hz2).mono ?_
      rintro e w' ⟨rfl, b⟩
      rw [show dg.toNat = 0 by omega]
      exact ⟨rfl, b⟩
    have HS : Hid (six (f + 2) v dg.toNat = six (f + 1) (v / 10) (dg - 1).toNat ++ [UInt8.ofNat (48 + v % 10)]) := by
      show _ = _
      rw [six, if_neg (by omega), show (dg - 1).toNat = dg.toNat - 1 by omega]
    have HI : Hid (∀ W : World, Calls Tryz.prog 63 #[.int .i64 ((v : Int) / 10), .int .i64 (dg - 1)] W fun e w' => e = .returned (.string ⟨(six (f + 1) (v / 10) (dg - 1).toNat).toArray⟩) ∧ Below W.heap.size W w') := by
      intro W
      have := ih W (v / 10) (dg - 1) (by omega) (by rw [Nat.pow_succ] at hv; omega) (by omega) (by omega) (by omega) (by omega)
      rw [show ((v / 10 : Nat) : Int) = (v : Int) / 10 by omega] at this
      exact this
    clear ih hv
    have hcase : (¬ (v : Int) = 0) ∨ ((v : Int) = 0 ∧ ¬ dg ≤ 0) := by omega
    have hL := six_len (f + 1) (v / 10) (dg - 1).toNat
    generalize six (f + 1) (v / 10) (dg - 1).toNat = L at *
    have hm : v % 10 < 10 := Nat.mod_lt _ (by omega)
    have HONE : Hid (strOfNums [((48 + v % 10 : Nat) : Int)] = ⟨[UInt8.ofNat (48 + v % 10)].toArray⟩) := strOf_one _
    have HB8 : Hid (∀ W : World, Rd .u8 (W.alloc (.cells #[.int .u8 (48 + (v : Int) % 10)] 5)) (.slice (some ⟨W.heap.size, 0, none⟩) 1 1) [((48 + v % 10 : Nat) : Int)]) := by
      intro W
      refine ⟨_, _, rfl, Nat.le_refl _, by unfold maxLen; omega, .inr ⟨W.heap.size, 0, rfl, by simp, fun i hi => ?_⟩⟩
      have : i = 0 := by simp at hi; omega
      subst this
      simp
    rcases hcase with hc | ⟨hc, hc2⟩
    · have hcb : ((v : Int) == 0) = false := by simp; omega
      clear hc hz
      go_enter Tryz.func63, Tryz.ntmps63
      go_wp2_with fail
      refine wp_region_held_drew (S := fun _ => True) (by kernel_rfl) trivial (fun hHeld => ?_)
      have bC : Below w.heap.size w w.drew := below_drewN' w 1
      generalize w.drew = P0 at *
      refine wpAnyH_take (i := 0) (oi := { dst := some 11, op := _, type := _, pos := _, after := _, guard := _ }) (v := (.int .i64 (v : Int))) rfl (by kernel_rfl) (by kernel_rfl) (by kernel_rfl) (fun _ _ _ h => h) (Or.inl ⟨by rfl, ?hy6⟩) (by assumption) ?rest6
      case hy6 =>
        intro w9 hS9
        go_simp
      try simp only [Act.put, List.setIfInBounds_toArray, List.set_cons_zero, List.set_cons_succ]
      refine wpAnyH_take (i := 1) (oi := { dst := some 12, op := _, type := _, pos := _, after := _, guard := _ }) (v := (.int .i64 ((v : Int) / 10))) rfl (by kernel_rfl) (by kernel_rfl) (by kernel_rfl) (fun _ _ _ h => h) (Or.inl ⟨by rfl, ?hy7⟩) (by assumption) ?rest7
      case hy7 =>
        intro w9 hS9
        go_simp
        rw [IntKind.wrap_i64]
        omega
      try simp only [Act.put, List.setIfInBounds_toArray, List.set_cons_zero, List.set_cons_succ]
      refine wpAnyH_take (i := 2) (oi := { dst := some 13, op := _, type := _, pos := _, after := _, guard := _ }) (v := (.int .i64 dg)) rfl (by kernel_rfl) (by kernel_rfl) (by kernel_rfl) (fun _ _ _ h => h) (Or.inl ⟨by rfl, ?hy8⟩) (by assumption) ?rest8
      case hy8 =>
        intro w9 hS9
        go_simp
      try simp only [Act.put, List.setIfInBounds_toArray, List.set_cons_zero, List.set_cons_succ]
      refine wpAnyH_take (i := 3) (oi := { dst := some 14, op := _, type := _, pos := _, after := _, guard := _ }) (v := (.int .i64 (dg - 1))) rfl (by kernel_rfl) (by kernel_rfl) (by kernel_rfl) (fun _ _ _ h => h) (Or.inl ⟨by rfl, ?hy9⟩) (by assumption) ?rest9
      case hy9 =>
        intro w9 hS9
        go_simp
        try (rw [IntKind.wrap_i64]; omega)
      try simp only [Act.put, List.setIfInBounds_toArray, List.set_cons_zero, List.set_cons_succ]
      refine wpAnyH_take (i := 5) (oi := { dst := some 16, op := _, type := _, pos := _, after := _, guard := _ }) (v := (.int .i64 (v : Int))) rfl (by kernel_rfl) (by kernel_rfl) (by kernel_rfl) (fun _ _ _ h => h) (Or.inl ⟨by rfl, ?hy10⟩) (by assumption) ?rest10
      case hy10 =>
        intro w9 hS9
        go_simp
      try simp only [Act.put, List.setIfInBounds_toArray, List.set_cons_zero, List.set_cons_succ]
      refine wpAnyH_take (i := 6) (oi := { dst := some 17, op := _, type := _, pos := _, after := _, guard := _ }) (v := (.int .i64 ((v : Int) % 10))) rfl (by kernel_rfl) (by kernel_rfl) (by kernel_rfl) (fun _ _ _ h => h) (Or.inl ⟨by rfl, ?hy11⟩) (by assumption) ?rest11
      case hy11 =>
        intro w9 hS9
        go_simp
        exact Int.tmod_eq_emod_of_nonneg (by omega)
      try simp only [Act.put, List.setIfInBounds_toArray, List.set_cons_zero, List.set_cons_succ]
      refine wpAnyH_take (i := 7) (oi := { dst := some 18, op := _, type := _, pos := _, after := _, guard := _ }) (v := (.int .i64 (48 + (v : Int) % 10))) rfl (by kernel_rfl) (by kernel_rfl) (by kernel_rfl) (fun _ _ _ h => h) (Or.inl ⟨by rfl, ?hy12⟩) (by assumption) ?rest12
      case hy12 =>
        intro w9 hS9
        go_simp
        try (rw [IntKind.wrap_i64]; omega)
      try simp only [Act.put, List.setIfInBounds_toArray, List.set_cons_zero, List.set_cons_succ]
      refine wpAnyH_take (i := 8) (oi := { dst := some 19, op := _, type := _, pos := _, after := _, guard := _ }) (v := (.int .u8 (48 + (v : Int) % 10))) rfl (by kernel_rfl) (by kernel_rfl) (by kernel_rfl) (fun _ _ _ h => h) (Or.inl ⟨by rfl, ?hy13⟩) (by assumption) ?rest13
      case hy13 =>
        intro w9 hS9
        go_simp
        rw [IntKind.wrap_u8]
        omega
      try simp only [Act.put, List.setIfInBounds_toArray, List.set_cons_zero, List.set_cons_succ]
      refine wpAnyH_ready (rs := [4, 9]) (by kernel_rfl) (by simp) ?_
      refine (AllReadyH.cons (o := { dst := some 15, op := _, type := _, pos := _, after := _, guard := _ }) rfl (fun K hK => ?_) (AllReadyH.cons (o := { dst := some 20, op := _, type := _, pos := _, after := _, guard := _ }) rfl (fun K hK => ?_) AllReadyH.nil))
      · go_simp
        refine (HI.out P0).mono ?_
        rintro e P1 ⟨rfl, bA⟩
        replace bC := bC.trans (bA.mono bC.size)
        clear bA
        refine hK.out _ _ trivial (fun hx9 => ?_)
        clear hK K hx9
        try simp only [Act.put, List.setIfInBounds_toArray, List.set_cons_zero, List.set_cons_succ]
        refine wpAnyH_ready (rs := [9]) (by kernel_rfl) (by simp) ?_
        refine (AllReadyH.cons (o := { dst := some 20, op := _, type := _, pos := _, after := _, guard := _ }) rfl (fun K hK => ?_) AllReadyH.nil)
        go_simp
        have rB := HB8.out P1
        replace bC := bC.alloc bC.size (.cells #[.int .u8 (48 + (v : Int) % 10)] 5)
        generalize hB : P1.heap.size = BB at rB ⊢
        generalize P1.alloc (.cells #[.int .u8 (48 + (v : Int) % 10)] 5) = P2 at *
        clear hB
        refine hK.out _ _ trivial (fun hx9 => ?_)
        clear hK K hx9
        try simp only [Act.put, List.setIfInBounds_toArray, List.set_cons_zero, List.set_cons_succ]
        refine wpAnyH_ready (rs := [10]) (by kernel_rfl) (by simp) ?_
        refine (AllReadyH.cons (o := { dst := some 21, op := _, type := _, pos := _, after := _, guard := _ }) rfl (fun K hK => ?_) AllReadyH.nil)
        have hc9 := conv_any rB
        rw [HONE.out] at hc9
        go_simp
        clear hc9 rB
        refine hK.out _ _ trivial (fun hx9 => ?_)
        clear hK K hx9
        try simp only [Act.put, List.setIfInBounds_toArray, List.set_cons_zero, List.set_cons_succ]
        refine wpAnyH_take (i := 11) (oi := { dst := some 22, op := _, type := _, pos := _, after := _, guard := _ }) (v := (.string (⟨L.toArray⟩ ++ ⟨[UInt8.ofNat (48 + v % 10)].toArray⟩))) rfl (by kernel_rfl) (by kernel_rfl) (by kernel_rfl) (fun _ _ _ h => h) (Or.inl ⟨by rfl, ?hy14⟩) (by assumption) ?rest14
        case hy14 =>
          intro w9 hS9
          go_simp
          omega
        try simp only [Act.put, List.setIfInBounds_toArray, List.set_cons_zero, List.set_cons_succ]
        skip
        refine wpAnyH_take (i := 12) (oi := { dst := some 4, op := _, type := _, pos := _, after := _, guard := _ }) (v := (.string (⟨L.toArray⟩ ++ ⟨[UInt8.ofNat (48 + v % 10)].toArray⟩))) rfl (by kernel_rfl) (by kernel_rfl) (by kernel_rfl) (fun _ _ _ h => h) (Or.inl ⟨by rfl, ?hy15⟩) (by assumption) ?rest15
        case hy15 =>
          intro w9 hS9
          go_simp
        try simp only [Act.put, List.setIfInBounds_toArray, List.set_cons_zero, List.set_cons_succ]
        refine wpAnyH_done (by kernel_rfl) ?_ _
        clear hHeld
        have HBC : Hid (Below w.heap.size w P2) := bC
        clear bC
        go_wp2
        go_ret
        refine ⟨?_, HBC.out⟩
        rw [HS.out, ← ba_ap]
        rfl
      · go_simp
        have rB := HB8.out P0
        replace bC := bC.alloc bC.size (.cells #[.int .u8 (48 + (v : Int) % 10)] 5)
        generalize hB : P0.heap.size = BB at rB ⊢
        generalize P0.alloc (.cells #[.int .u8 (48 + (v : Int) % 10)] 5) = P4 at *
        clear hB
        refine hK.out _ _ trivial (fun hx9 => ?_)
        clear hK K hx9
        try simp only [Act.put, List.setIfInBounds_toArray, List.set_cons_zero, List.set_cons_succ]
        refine wpAnyH_ready (rs := [4, 10]) (by kernel_rfl) (by simp) ?_
        refine (AllReadyH.cons (o := { dst := some 15, op := _, type := _, pos := _, after := _, guard := _ }) rfl (fun K hK => ?_) (AllReadyH.cons (o := { dst := some 21, op := _, type := _, pos := _, after := _, guard := _ }) rfl (fun K hK => ?_) AllReadyH.nil))
        · go_simp
          refine (HI.out P4).mono ?_
          rintro e P5 ⟨rfl, bA⟩
          replace bC := bC.trans (bA.mono bC.size)
          replace rB := rB.below bA
          clear bA
          refine hK.out _ _ trivial (fun hx9 => ?_)
          clear hK K hx9
          try simp only [Act.put, List.setIfInBounds_toArray, List.set_cons_zero, List.set_cons_succ]
          refine wpAnyH_ready (rs := [10]) (by kernel_rfl) (by simp) ?_
          refine (AllReadyH.cons (o := { dst := some 21, op := _, type := _, pos := _, after := _, guard := _ }) rfl (fun K hK => ?_) AllReadyH.nil)
          have hc9 := conv_any rB
          rw [HONE.out] at hc9
          go_simp
          clear hc9 rB
          refine hK.out _ _ trivial (fun hx9 => ?_)
          clear hK K hx9
          try simp only [Act.put, List.setIfInBounds_toArray, List.set_cons_zero, List.set_cons_succ]
          refine wpAnyH_take (i := 11) (oi := { dst := some 22, op := _, type := _, pos := _, after := _, guard := _ }) (v := (.string (⟨L.toArray⟩ ++ ⟨[UInt8.ofNat (48 + v % 10)].toArray⟩))) rfl (by kernel_rfl) (by kernel_rfl) (by kernel_rfl) (fun _ _ _ h => h) (Or.inl ⟨by rfl, ?hy16⟩) (by assumption) ?rest16
          case hy16 =>
            intro w9 hS9
            go_simp
            omega
          try simp only [Act.put, List.setIfInBounds_toArray, List.set_cons_zero, List.set_cons_succ]
          skip
          refine wpAnyH_take (i := 12) (oi := { dst := some 4, op := _, type := _, pos := _, after := _, guard := _ }) (v := (.string (⟨L.toArray⟩ ++ ⟨[UInt8.ofNat (48 + v % 10)].toArray⟩))) rfl (by kernel_rfl) (by kernel_rfl) (by kernel_rfl) (fun _ _ _ h => h) (Or.inl ⟨by rfl, ?hy17⟩) (by assumption) ?rest17
          case hy17 =>
            intro w9 hS9
            go_simp
          try simp only [Act.put, List.setIfInBounds_toArray, List.set_cons_zero, List.set_cons_succ]
          refine wpAnyH_done (by kernel_rfl) ?_ _
          clear hHeld
          have HBC : Hid (Below w.heap.size w P5) := bC
          clear bC
          go_wp2
          go_ret
          refine ⟨?_, HBC.out⟩
          rw [HS.out, ← ba_ap]
          rfl
        · have hc9 := conv_any rB
          rw [HONE.out] at hc9
          go_simp
          clear hc9 rB
          refine hK.out _ _ trivial (fun hx9 => ?_)
          clear hK K hx9
          try simp only [Act.put, List.setIfInBounds_toArray, List.set_cons_zero, List.set_cons_succ]
          refine wpAnyH_ready (rs := [4]) (by kernel_rfl) (by simp) ?_
          refine (AllReadyH.cons (o := { dst := some 15, op := _, type := _, pos := _, after := _, guard := _ }) rfl (fun K hK => ?_) AllReadyH.nil)
          go_simp
          refine (HI.out P4).mono ?_
          rintro e P8 ⟨rfl, bA⟩
          replace bC := bC.trans (bA.mono bC.size)
          clear bA
          refine hK.out _ _ trivial (fun hx9 => ?_)
          clear hK K hx9
          try simp only [Act.put, List.setIfInBounds_toArray, List.set_cons_zero, List.set_cons_succ]
          refine wpAnyH_take (i := 11) (oi := { dst := some 22, op := _, type := _, pos := _, after := _, guard := _ }) (v := (.string (⟨L.toArray⟩ ++ ⟨[UInt8.ofNat (48 + v % 10)].toArray⟩))) rfl (by kernel_rfl) (by kernel_rfl) (by kernel_rfl) (fun _ _ _ h => h) (Or.inl ⟨by rfl, ?hy18⟩) (by assumption) ?rest18
          case hy18 =>
            intro w9 hS9
            go_simp
            omega
          try simp only [Act.put, List.setIfInBounds_toArray, List.set_cons_zero, List.set_cons_succ]
          skip
          refine wpAnyH_take (i := 12) (oi := { dst := some 4, op := _, type := _, pos := _, after := _, guard := _ }) (v := (.string (⟨L.toArray⟩ ++ ⟨[UInt8.ofNat (48 + v % 10)].toArray⟩))) rfl (by kernel_rfl) (by kernel_rfl) (by kernel_rfl) (fun _ _ _ h => h) (Or.inl ⟨by rfl, ?hy19⟩) (by assumption) ?rest19
          case hy19 =>
            intro w9 hS9
            go_simp
          try simp only [Act.put, List.setIfInBounds_toArray, List.set_cons_zero, List.set_cons_succ]
          refine wpAnyH_done (by kernel_rfl) ?_ _
          clear hHeld
          have HBC : Hid (Below w.heap.size w P8) := bC
          clear bC
          go_wp2
          go_ret
          refine ⟨?_, HBC.out⟩
          rw [HS.out, ← ba_ap]
          rfl
    · have hcb : ((v : Int) == 0) = true := by simp; omega
      have hcd : ¬ dg ≤ 0 := hc2
      clear hc hz hc2
      go_enter Tryz.func63, Tryz.ntmps63
      go_wp2_with fail
      refine wp_region_held_drew (S := fun _ => True) (by kernel_rfl) trivial (fun hHeld => ?_)
      have bC : Below w.heap.size w w.drew := below_drewN' w 1
      generalize w.drew = P0 at *
      refine wpAnyH_take (i := 0) (oi := { dst := some 11, op := _, type := _, pos := _, after := _, guard := _ }) (v := (.int .i64 (v : Int))) rfl (by kernel_rfl) (by kernel_rfl) (by kernel_rfl) (fun _ _ _ h => h) (Or.inl ⟨by rfl, ?hy20⟩) (by assumption) ?rest20
      case hy20 =>
        intro w9 hS9
        go_simp
      try simp only [Act.put, List.setIfInBounds_toArray, List.set_cons_zero, List.set_cons_succ]
      refine wpAnyH_take (i := 1) (oi := { dst := some 12, op := _, type := _, pos := _, after := _, guard := _ }) (v := (.int .i64 ((v : Int) / 10))) rfl (by kernel_rfl) (by kernel_rfl) (by kernel_rfl) (fun _ _ _ h => h) (Or.inl ⟨by rfl, ?hy21⟩) (by assumption) ?rest21
      case hy21 =>
        intro w9 hS9
        go_simp
        rw [IntKind.wrap_i64]
        omega
      try simp only [Act.put, List.setIfInBounds_toArray, List.set_cons_zero, List.set_cons_succ]
      refine wpAnyH_take (i := 2) (oi := { dst := some 13, op := _, type := _, pos := _, after := _, guard := _ }) (v := (.int .i64 dg)) rfl (by kernel_rfl) (by kernel_rfl) (by kernel_rfl) (fun _ _ _ h => h) (Or.inl ⟨by rfl, ?hy22⟩) (by assumption) ?rest22
      case hy22 =>
        intro w9 hS9
        go_simp
      try simp only [Act.put, List.setIfInBounds_toArray, List.set_cons_zero, List.set_cons_succ]
      refine wpAnyH_take (i := 3) (oi := { dst := some 14, op := _, type := _, pos := _, after := _, guard := _ }) (v := (.int .i64 (dg - 1))) rfl (by kernel_rfl) (by kernel_rfl) (by kernel_rfl) (fun _ _ _ h => h) (Or.inl ⟨by rfl, ?hy23⟩) (by assumption) ?rest23
      case hy23 =>
        intro w9 hS9
        go_simp
        try (rw [IntKind.wrap_i64]; omega)
      try simp only [Act.put, List.setIfInBounds_toArray, List.set_cons_zero, List.set_cons_succ]
      refine wpAnyH_take (i := 5) (oi := { dst := some 16, op := _, type := _, pos := _, after := _, guard := _ }) (v := (.int .i64 (v : Int))) rfl (by kernel_rfl) (by kernel_rfl) (by kernel_rfl) (fun _ _ _ h => h) (Or.inl ⟨by rfl, ?hy24⟩) (by assumption) ?rest24
      case hy24 =>
        intro w9 hS9
        go_simp
      try simp only [Act.put, List.setIfInBounds_toArray, List.set_cons_zero, List.set_cons_succ]
      refine wpAnyH_take (i := 6) (oi := { dst := some 17, op := _, type := _, pos := _, after := _, guard := _ }) (v := (.int .i64 ((v : Int) % 10))) rfl (by kernel_rfl) (by kernel_rfl) (by kernel_rfl) (fun _ _ _ h => h) (Or.inl ⟨by rfl, ?hy25⟩) (by assumption) ?rest25
      case hy25 =>
        intro w9 hS9
        go_simp
        exact Int.tmod_eq_emod_of_nonneg (by omega)
      try simp only [Act.put, List.setIfInBounds_toArray, List.set_cons_zero, List.set_cons_succ]
      refine wpAnyH_take (i := 7) (oi := { dst := some 18, op := _, type := _, pos := _, after := _, guard := _ }) (v := (.int .i64 (48 + (v : Int) % 10))) rfl (by kernel_rfl) (by kernel_rfl) (by kernel_rfl) (fun _ _ _ h => h) (Or.inl ⟨by rfl, ?hy26⟩) (by assumption) ?rest26
      case hy26 =>
        intro w9 hS9
        go_simp
        try (rw [IntKind.wrap_i64]; omega)
      try simp only [Act.put, List.setIfInBounds_toArray, List.set_cons_zero, List.set_cons_succ]
      refine wpAnyH_take (i := 8) (oi := { dst := some 19, op := _, type := _, pos := _, after := _, guard := _ }) (v := (.int .u8 (48 + (v : Int) % 10))) rfl (by kernel_rfl) (by kernel_rfl) (by kernel_rfl) (fun _ _ _ h => h) (Or.inl ⟨by rfl, ?hy27⟩) (by assumption) ?rest27
      case hy27 =>
        intro w9 hS9
        go_simp
        rw [IntKind.wrap_u8]
        omega
      try simp only [Act.put, List.setIfInBounds_toArray, List.set_cons_zero, List.set_cons_succ]
      refine wpAnyH_ready (rs := [4, 9]) (by kernel_rfl) (by simp) ?_
      refine (AllReadyH.cons (o := { dst := some 15, op := _, type := _, pos := _, after := _, guard := _ }) rfl (fun K hK => ?_) (AllReadyH.cons (o := { dst := some 20, op := _, type := _, pos := _, after := _, guard := _ }) rfl (fun K hK => ?_) AllReadyH.nil))
      · go_simp
        refine (HI.out P0).mono ?_
        rintro e P1 ⟨rfl, bA⟩
        replace bC := bC.trans (bA.mono bC.size)
        clear bA
        refine hK.out _ _ trivial (fun hx9 => ?_)
        clear hK K hx9
        try simp only [Act.put, List.setIfInBounds_toArray, List.set_cons_zero, List.set_cons_succ]
        refine wpAnyH_ready (rs := [9]) (by kernel_rfl) (by simp) ?_
        refine (AllReadyH.cons (o := { dst := some 20, op := _, type := _, pos := _, after := _, guard := _ }) rfl (fun K hK => ?_) AllReadyH.nil)
        go_simp
        have rB := HB8.out P1
        replace bC := bC.alloc bC.size (.cells #[.int .u8 (48 + (v : Int) % 10)] 5)
        generalize hB : P1.heap.size = BB at rB ⊢
        generalize P1.alloc (.cells #[.int .u8 (48 + (v : Int) % 10)] 5) = P2 at *
        clear hB
        refine hK.out _ _ trivial (fun hx9 => ?_)
        clear hK K hx9
        try simp only [Act.put, List.setIfInBounds_toArray, List.set_cons_zero, List.set_cons_succ]
        refine wpAnyH_ready (rs := [10]) (by kernel_rfl) (by simp) ?_
        refine (AllReadyH.cons (o := { dst := some 21, op := _, type := _, pos := _, after := _, guard := _ }) rfl (fun K hK => ?_) AllReadyH.nil)
        have hc9 := conv_any rB
        rw [HONE.out] at hc9
        go_simp
        clear hc9 rB
        refine hK.out _ _ trivial (fun hx9 => ?_)
        clear hK K hx9
        try simp only [Act.put, List.setIfInBounds_toArray, List.set_cons_zero, List.set_cons_succ]
        refine wpAnyH_take (i := 11) (oi := { dst := some 22, op := _, type := _, pos := _, after := _, guard := _ }) (v := (.string (⟨L.toArray⟩ ++ ⟨[UInt8.ofNat (48 + v % 10)].toArray⟩))) rfl (by kernel_rfl) (by kernel_rfl) (by kernel_rfl) (fun _ _ _ h => h) (Or.inl ⟨by rfl, ?hy28⟩) (by assumption) ?rest28
        case hy28 =>
          intro w9 hS9
          go_simp
          omega
        try simp only [Act.put, List.setIfInBounds_toArray, List.set_cons_zero, List.set_cons_succ]
        skip
        refine wpAnyH_take (i := 12) (oi := { dst := some 4, op := _, type := _, pos := _, after := _, guard := _ }) (v := (.string (⟨L.toArray⟩ ++ ⟨[UInt8.ofNat (48 + v % 10)].toArray⟩))) rfl (by kernel_rfl) (by kernel_rfl) (by kernel_rfl) (fun _ _ _ h => h) (Or.inl ⟨by rfl, ?hy29⟩) (by assumption) ?rest29
        case hy29 =>
          intro w9 hS9
          go_simp
        try simp only [Act.put, List.setIfInBounds_toArray, List.set_cons_zero, List.set_cons_succ]
        refine wpAnyH_done (by kernel_rfl) ?_ _
        clear hHeld
        have HBC : Hid (Below w.heap.size w P2) := bC
        clear bC
        go_wp2
        go_ret
        refine ⟨?_, HBC.out⟩
        rw [HS.out, ← ba_ap]
        rfl
      · go_simp
        have rB := HB8.out P0
        replace bC := bC.alloc bC.size (.cells #[.int .u8 (48 + (v : Int) % 10)] 5)
        generalize hB : P0.heap.size = BB at rB ⊢
        generalize P0.alloc (.cells #[.int .u8 (48 + (v : Int) % 10)] 5) = P4 at *
        clear hB
        refine hK.out _ _ trivial (fun hx9 => ?_)
        clear hK K hx9
        try simp only [Act.put, List.setIfInBounds_toArray, List.set_cons_zero, List.set_cons_succ]
        refine wpAnyH_ready (rs := [4, 10]) (by kernel_rfl) (by simp) ?_
        refine (AllReadyH.cons (o := { dst := some 15, op := _, type := _, pos := _, after := _, guard := _ }) rfl (fun K hK => ?_) (AllReadyH.cons (o := { dst := some 21, op := _, type := _, pos := _, after := _, guard := _ }) rfl (fun K hK => ?_) AllReadyH.nil))
        · go_simp
          refine (HI.out P4).mono ?_
          rintro e P5 ⟨rfl, bA⟩
          replace bC := bC.trans (bA.mono bC.size)
          replace rB := rB.below bA
          clear bA
          refine hK.out _ _ trivial (fun hx9 => ?_)
          clear hK K hx9
          try simp only [Act.put, List.setIfInBounds_toArray, List.set_cons_zero, List.set_cons_succ]
          refine wpAnyH_ready (rs := [10]) (by kernel_rfl) (by simp) ?_
          refine (AllReadyH.cons (o := { dst := some 21, op := _, type := _, pos := _, after := _, guard := _ }) rfl (fun K hK => ?_) AllReadyH.nil)
          have hc9 := conv_any rB
          rw [HONE.out] at hc9
          go_simp
          clear hc9 rB
          refine hK.out _ _ trivial (fun hx9 => ?_)
          clear hK K hx9
          try simp only [Act.put, List.setIfInBounds_toArray, List.set_cons_zero, List.set_cons_succ]
          refine wpAnyH_take (i := 11) (oi := { dst := some 22, op := _, type := _, pos := _, after := _, guard := _ }) (v := (.string (⟨L.toArray⟩ ++ ⟨[UInt8.ofNat (48 + v % 10)].toArray⟩))) rfl (by kernel_rfl) (by kernel_rfl) (by kernel_rfl) (fun _ _ _ h => h) (Or.inl ⟨by rfl, ?hy30⟩) (by assumption) ?rest30
          case hy30 =>
            intro w9 hS9
            go_simp
            omega
          try simp only [Act.put, List.setIfInBounds_toArray, List.set_cons_zero, List.set_cons_succ]
          skip
          refine wpAnyH_take (i := 12) (oi := { dst := some 4, op := _, type := _, pos := _, after := _, guard := _ }) (v := (.string (⟨L.toArray⟩ ++ ⟨[UInt8.ofNat (48 + v % 10)].toArray⟩))) rfl (by kernel_rfl) (by kernel_rfl) (by kernel_rfl) (fun _ _ _ h => h) (Or.inl ⟨by rfl, ?hy31⟩) (by assumption) ?rest31
          case hy31 =>
            intro w9 hS9
            go_simp
          try simp only [Act.put, List.setIfInBounds_toArray, List.set_cons_zero, List.set_cons_succ]
          refine wpAnyH_done (by kernel_rfl) ?_ _
          clear hHeld
          have HBC : Hid (Below w.heap.size w P5) := bC
          clear bC
          go_wp2
          go_ret
          refine ⟨?_, HBC.out⟩
          rw [HS.out, ← ba_ap]
          rfl
        · have hc9 := conv_any rB
          rw [HONE.out] at hc9
          go_simp
          clear hc9 rB
          refine hK.out _ _ trivial (fun hx9 => ?_)
          clear hK K hx9
          try simp only [Act.put, List.setIfInBounds_toArray, List.set_cons_zero, List.set_cons_succ]
          refine wpAnyH_ready (rs := [4]) (by kernel_rfl) (by simp) ?_
          refine (AllReadyH.cons (o := { dst := some 15, op := _, type := _, pos := _, after := _, guard := _ }) rfl (fun K hK => ?_) AllReadyH.nil)
          go_simp
          refine (HI.out P4).mono ?_
          rintro e P8 ⟨rfl, bA⟩
          replace bC := bC.trans (bA.mono bC.size)
          clear bA
          refine hK.out _ _ trivial (fun hx9 => ?_)
          clear hK K hx9
          try simp only [Act.put, List.setIfInBounds_toArray, List.set_cons_zero, List.set_cons_succ]
          refine wpAnyH_take (i := 11) (oi := { dst := some 22, op := _, type := _, pos := _, after := _, guard := _ }) (v := (.string (⟨L.toArray⟩ ++ ⟨[UInt8.ofNat (48 + v % 10)].toArray⟩))) rfl (by kernel_rfl) (by kernel_rfl) (by kernel_rfl) (fun _ _ _ h => h) (Or.inl ⟨by rfl, ?hy32⟩) (by assumption) ?rest32
          case hy32 =>
            intro w9 hS9
            go_simp
            omega
          try simp only [Act.put, List.setIfInBounds_toArray, List.set_cons_zero, List.set_cons_succ]
          skip
          refine wpAnyH_take (i := 12) (oi := { dst := some 4, op := _, type := _, pos := _, after := _, guard := _ }) (v := (.string (⟨L.toArray⟩ ++ ⟨[UInt8.ofNat (48 + v % 10)].toArray⟩))) rfl (by kernel_rfl) (by kernel_rfl) (by kernel_rfl) (fun _ _ _ h => h) (Or.inl ⟨by rfl, ?hy33⟩) (by assumption) ?rest33
          case hy33 =>
            intro w9 hS9
            go_simp
          try simp only [Act.put, List.setIfInBounds_toArray, List.set_cons_zero, List.set_cons_succ]
          refine wpAnyH_done (by kernel_rfl) ?_ _
          clear hHeld
          have HBC : Hid (Below w.heap.size w P8) := bC
          clear bC
          go_wp2
          go_ret
          refine ⟨?_, HBC.out⟩
          rw [HS.out, ← ba_ap]
          rfl

end Go.Proofs.YtdiingonnddkcaaGreatDoor


