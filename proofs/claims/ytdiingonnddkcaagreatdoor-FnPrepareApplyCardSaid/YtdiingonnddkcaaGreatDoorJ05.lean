import Derived.Test.YtdiingonnddkcaaGreatDoorJ01
import Derived.Laws.BytesArg
import Derived.Lib.ConvBytes
import Derived.Test.YtdiingonnddkcaaGreatDoorJ03
import Derived.Lib.AppendStr
import Derived.Test.YtdiingonnddkcaaGreatDoorJ04
import Derived.Deep.RegionHeld3
namespace Go.Proofs.YtdiingonnddkcaaGreatDoor

/-- A number as n bytes, the highest first. -/
def bigR : Nat → Nat → List Int
  | _, 0 => []
  | N, n + 1 => bigR (N / 256) n ++ [((N % 256 : Nat) : Int)]

theorem bigR_len : ∀ (n N : Nat), (bigR N n).length = n
  | 0, _ => rfl
  | n + 1, N => by unfold bigR; rw [List.length_append, bigR_len n]; rfl

theorem bigR_byt : ∀ (n N : Nat), ∀ x ∈ bigR N n, 0 ≤ x ∧ x < 256
  | 0, _, x, h => by cases h
  | n + 1, N, x, h => by
    unfold bigR at h
    rcases List.mem_append.1 h with h | h
    · exact bigR_byt n _ x h
    · simp only [List.mem_cons, List.not_mem_nil, or_false] at h
      omega

theorem bigR_step (N m k : Nat) : bigR (N / 2 ^ (8 * (m + 1))) k ++ [((N / 2 ^ (8 * m) % 256 : Nat) : Int)] = bigR (N / 2 ^ (8 * m)) (k + 1) := by
  conv => rhs; unfold bigR
  rw [Nat.div_div_eq_div_mul, show 8 * (m + 1) = 8 * m + 8 by omega, Nat.pow_add]

/-- What bytes are as a number. -/
def numB (xs : List Int) : Nat := xs.foldl (fun a x => a * 256 + x.toNat) 0
theorem numB_snoc (xs : List Int) (x : Int) : numB (xs ++ [x]) = numB xs * 256 + x.toNat := by unfold numB; rw [List.foldl_append]; rfl
theorem numB_nil : numB [] = 0 := rfl
theorem numB_bigR : ∀ (n N : Nat), N < 256 ^ n → numB (bigR N n) = N
  | 0, N, h => by simp at h; subst h; rfl
  | n + 1, N, h => by
    unfold bigR
    rw [numB_snoc, numB_bigR n (N / 256) (by rw [Nat.pow_succ] at h; exact Nat.div_lt_of_lt_mul (by rw [Nat.mul_comm]; exact h)), Int.toNat_natCast]
    omega
theorem bigR_numB : ∀ (n : Nat) (xs : List Int), xs.length = n → (∀ x ∈ xs, 0 ≤ x ∧ x < 256) → bigR (numB xs) n = xs ∧ numB xs < 256 ^ n
  | 0, xs, hn, h => by
    have := List.eq_nil_of_length_eq_zero hn
    subst this
    exact ⟨rfl, by decide⟩
  | n + 1, xs, hn, h => by
    rcases List.eq_nil_or_concat xs with rfl | ⟨ys, y, hc⟩
    · simp at hn
    · rw [List.concat_eq_append] at hc; subst hc
      have hl : ys.length = n := by simpa using hn
      have hy := h y (by simp)
      obtain ⟨i1, i2⟩ := bigR_numB n ys hl (fun x hx => h x (List.mem_append_left _ hx))
      rw [numB_snoc]
      refine ⟨?_, by rw [Nat.pow_succ]; omega⟩
      unfold bigR
      have e1 : (numB ys * 256 + y.toNat) / 256 = numB ys := by omega
      have e2 : (numB ys * 256 + y.toNat) % 256 = y.toNat := by omega
      rw [e1, e2, i1, Int.toNat_of_nonneg hy.1]

end Go.Proofs.YtdiingonnddkcaaGreatDoor
namespace Go.Proofs.YtdiingonnddkcaaGreatDoor
open Go.RowKit

/-- Blocks of other types are as they were. -/
def KT (e : TypeId) (w w' : World) : Prop := w.heap.size ≤ w'.heap.size ∧ ∀ b, b < w.heap.size → (¬ ∃ cur, w.heap[b]? = some (.cells cur e (0, 0))) → w'.heap[b]? = w.heap[b]?
theorem KT.refl (e : TypeId) (w : World) : KT e w w := ⟨Nat.le_refl _, fun _ _ _ => rfl⟩
theorem KT.trans {e : TypeId} {w w1 w2 : World} (h : KT e w w1) (h2 : KT e w1 w2) : KT e w w2 :=
  ⟨Nat.le_trans h.1 h2.1, fun b hb hn => by
    have h3 := h.2 b hb hn
    rw [h2.2 b (Nat.lt_of_lt_of_le hb h.1) (by rw [h3]; exact hn), h3]⟩
theorem KT.below {e : TypeId} {w w1 w2 : World} (h : KT e w w1) (hb : Below w1.heap.size w1 w2) : KT e w w2 :=
  h.trans ⟨hb.size, fun b hb' _ => hb.block b hb'⟩
theorem KT.alloc {e : TypeId} {w w1 : World} (h : KT e w w1) (o : Obj) : KT e w (w1.alloc o) := h.below ((Below.refl _ _).alloc (Nat.le_refl _) o)
theorem KT.grown {e : TypeId} {w w1 w2 : World} {base size n : Nat} {v : Value} {xs : List Value} (h : KT e w w1) (ho : w1.ownsRow base e size v n xs) (hg : w1.grownBy w2 v.ownBlock) : KT e w w2 := by
  refine h.trans ⟨hg.size, fun b hb hn => hg.block b hb fun he => hn ?_⟩
  rcases ho.2 with ⟨rfl, -⟩ | ⟨g, cap, cur, rfl, -, hgg, -⟩
  · simp [Value.ownBlock] at he
  · simp only [Value.ownBlock, Option.some.injEq] at he
    subst he
    exact ⟨cur, hgg⟩

set_option maxHeartbeats 1000000 in
set_option maxRecDepth 100000 in
theorem implNumber_any (w : World) (base : Nat) (v : Value) (xs : List Int) (N n : Nat) (h : Own .u8 5 w base v xs) (hb : base ≤ w.heap.size) (hl : xs.length ≤ 1048576) (hn : n ≤ 8) :
    Calls Tryz.prog 48 #[v, .int .i64 N, .int .i64 n] w fun e w' => ∃ v', e = .returned v' ∧ Own .u8 5 w' base v' (xs ++ bigR N n) ∧ Below base w w' ∧ KT 5 w w' := by
  obtain ⟨i0, hi, hz0, hz1, hz2⟩ := info_parts Tryz.infoB
  have HO := hd9 h
  clear h
  go_enter Tryz.func48, Tryz.ntmps48
  go_wp2
  go_loopw [0, 7] (fun vi vl wr => ∃ (k : Nat) (z : Int), k ≤ n ∧ vl = .int .i64 z ∧ z + 1 + (k : Int) = (n : Int) ∧ Hid (Own .u8 5 wr base vi (xs ++ bigR (N / 2 ^ (8 * (n - k))) k)) ∧ Hid (Below base w wr) ∧ Hid (KT 5 w wr)) (fun _ i _ => ((intOf i) + 1).toNat)
  case atStart => exact ⟨0, (n : Int) - 1, Nat.zero_le _, rfl, by omega, by show Own _ _ _ _ _ _; unfold bigR; rw [List.append_nil]; exact HO.out, Below.refl _ _, KT.refl _ _⟩
  case round =>
    obtain ⟨k, z, hk, rfl, hz, HW, HB, HK⟩ := hrel
    have sB := HB.out.size
    by_cases hz0' : 0 ≤ z
    · obtain ⟨l, rfl⟩ : ∃ l : Nat, z = (l : Int) := ⟨z.toNat, by omega⟩
      have hl8 : l ≤ 7 := by omega
      have HST : Hid (bigR (N / 2 ^ (8 * (n - k))) k ++ [((N / 2 ^ (8 * l) % 256 : Nat) : Int)] = bigR (N / 2 ^ (8 * (n - (k + 1)))) (k + 1)) := by
        show _ = _
        rw [show n - k = l + 1 by omega, show n - (k + 1) = l by omega]; exact bigR_step N l k
      obtain ⟨ys, hys⟩ : ∃ ys, ys = xs ++ bigR (N / 2 ^ (8 * (n - k))) k := ⟨_, rfl⟩
      have HYS := hd9 hys
      have HW1 : Hid (wr.ownsRow base 5 1 u0 ys.length (ys.map (Value.int .u8))) := by rw [hys]; exact HW.out
      have hyl : ys.length ≤ 1048600 := by rw [hys, List.length_append, bigR_len]; omega
      clear hys HW
      have HV : Hid ((N : Int) / 2 ^ (8 * l) % 256 = ((N / 2 ^ (8 * l) % 256 : Nat) : Int)) := by show _ = _; rw [shr_cast]; rfl
      go_wp2_with (at_builtin; go_must (refine wpList_append_own _ rfl _ _ 22 rfl base 5 i0 (.int .u8 0) 1 1 Tryz.underlying22 hi hz0 hz1 hz2 rfl (by decide) _ _ _ rfl (World.ownsRow.alloc HW1.out _) ⟨wr.heap.size, 0, none⟩ 1 1 [.int .u8 ((N : Int) / 2 ^ (8 * l) % 256)] rfl rfl (cell_one_new _ _ _) (by intro u hu; simp at hu; subst hu; rfl) ?c3 ?c4 ?c5 ?_))
      case c3 => unfold maxLen; omega
      case c4 => omega
      case c5 => simp; omega
      intro v2 w2 ho2 hg2 _
      have HO2 : Hid (Own .u8 5 w2 base v2 (xs ++ bigR (N / 2 ^ (8 * (n - (k + 1)))) (k + 1))) := by
        rw [HV.out] at ho2
        refine own_of (q := ys.length + 1) (ys := ys ++ [((N / 2 ^ (8 * l) % 256 : Nat) : Int)]) (by simp) ?_ (by rw [List.map_append]; exact ho2)
        rw [← HST.out, ← List.append_assoc, ← HYS.out]
      have HB2 := hd9 ((HB.out.alloc (by omega) _).grown hg2 (by simp; omega) (fun q hq => (World.ownsRow.lt HW1.out q hq).1))
      have HK2 := hd9 ((HK.out.alloc _).grown (HW1.out.alloc _) hg2)
      clear ho2 hg2 HW1 HB HK
      go_wp2
      exact ⟨⟨k + 1, (l : Int) - 1, by omega, by go_num, by omega, HO2, HB2, HK2⟩, by simp [intOf]⟩
    · have hkn : k = n := by omega
      subst hkn
      have hzI := hz0'
      go_wp2
      go_ret
      refine ⟨_, rfl, ?_, HB.out, HK.out⟩
      have := HW.out
      rw [Nat.sub_self, Nat.mul_zero, Nat.pow_zero, Nat.div_one] at this
      exact this



theorem conv_any {w : World} {v : Value} {xs : List Int} (h : Rd .u8 w v xs) : (convert 22 9 v).run Tryz.prog w = .ok (.string (strOfNums xs)) w := by
  obtain ⟨ao, cap, rfl, h1, h2, h3⟩ := h
  rcases h3 with rfl | ⟨b, o, rfl, hb, hc⟩
  · cases ao with
    | none => exact run_convert_bytes_nil w _ _ Tryz.underlying22 Tryz.underlying5 0 cap _ Tryz.underlying9
    | some a =>
      rw [run_convert_bytes_string w _ _ _ _ _ _ Tryz.underlying22 Tryz.underlying5 Tryz.underlying9]
      exact run_bytesToString w a 0 cap [] (by simp [loadCells, loadCellsFrom])
  · exact run_convert_bytes_arg w _ _ Tryz.underlying22 Tryz.underlying5 b o _ cap xs rfl hc _ Tryz.underlying9


/-- The bytes of a text. -/
def strN (s : ByteArray) : List Int := s.data.toList.map fun b => (b.toNat : Int)
theorem strN_len (s : ByteArray) : (strN s).length = s.size := by unfold strN; rw [List.length_map, Array.length_toList]; rfl
theorem strN_cells (s : ByteArray) : Lib.strCells s = (strN s).map (Value.int .u8) := by unfold Lib.strCells strN; rw [List.map_map]; rfl
/-- The image of a text. -/
def txB (s : ByteArray) : List Int := [(s.size : Int)] ++ strN s
theorem txB_len (s : ByteArray) : (txB s).length = 1 + s.size := by unfold txB; rw [List.length_append, strN_len]; rfl

set_option maxHeartbeats 1000000 in
set_option maxRecDepth 100000 in
theorem implText_any (w : World) (base : Nat) (v : Value) (xs : List Int) (s : ByteArray) (h : Own .u8 5 w base v xs) (hb : base ≤ w.heap.size) (hl : xs.length ≤ 1048576) (hs : s.size < 256) :
    Calls Tryz.prog 81 #[v, .string s] w fun e w' => ∃ v', e = .returned v' ∧ Own .u8 5 w' base v' (xs ++ txB s) ∧ Below base w w' ∧ KT 5 w w' := by
  obtain ⟨i0, hi, hz0, hz1, hz2⟩ := info_parts Tryz.infoB
  have HO : Hid (w.ownsRow base 5 1 v xs.length (xs.map (Value.int .u8))) := h
  clear h
  go_enter Tryz.func81, Tryz.ntmps81
  go_wp2_with (at_builtin; go_must (refine wpList_append_own _ rfl _ _ 22 rfl base 5 i0 (.int .u8 0) 1 1 Tryz.underlying22 hi hz0 hz1 hz2 rfl (by decide) _ _ _ rfl (World.ownsRow.alloc HO.out _) ⟨w.heap.size, 0, none⟩ 1 1 [.int .u8 (s.size : Int)] rfl rfl (cell_one_new _ _ _) (by intro u hu; simp at hu; subst hu; rfl) ?c3 ?c4 ?c5 ?_))
  case c3 => unfold maxLen; omega
  case c4 => omega
  case c5 => simp; omega
  intro v2 w2 ho2 hg2 _
  have O2 : Hid (w2.ownsRow base 5 1 v2 (xs.length + 1) ((xs ++ [(s.size : Int)]).map (Value.int .u8))) := by
    rw [List.map_append]; exact ho2
  have B2 : Hid (Below base w w2) := ((Below.refl _ _).alloc hb _).grown hg2 (by simp; omega) (fun q hq => (World.ownsRow.lt HO.out q hq).1)
  have K2 : Hid (KT 5 w w2) := ((KT.refl _ _).alloc _).grown (HO.out.alloc _) hg2
  have s2 := B2.out.size
  clear ho2 hg2
  go_wp2_with (at_builtin; go_must (refine Lib.wpList_append_own_string _ rfl _ _ 22 9 rfl base 5 i0 Tryz.underlying22 Tryz.underlying9 hi hz0 hz1 hz2 _ _ _ rfl O2.out s rfl ?d3 ?d4 ?d5 ?_))
  case d3 => unfold maxLen; omega
  case d4 => omega
  case d5 => omega
  intro v3 w3 ho3 hg3 _
  have O3 : Hid (Own .u8 5 w3 base v3 (xs ++ txB s)) := by
    refine own_of (q := xs.length + 1 + s.size) (ys := xs ++ txB s) (by rw [List.length_append, txB_len]; omega) rfl ?_
    rw [strN_cells] at ho3
    rw [List.map_append]; exact ho3
  have B3 : Hid (Below base w w3) := B2.out.grown hg3 (by omega) (fun q hq => (World.ownsRow.lt O2.out q hq).1)
  have K3 : Hid (KT 5 w w3) := K2.out.grown O2.out hg3
  clear ho3 hg3
  go_wp2
  go_ret
  exact ⟨_, rfl, O3.out, B3.out, K3.out⟩



theorem splA_tot : ∀ l cur : List UInt8, ((splA cur l).map List.length).sum + (splA cur l).length = cur.length + l.length + 1
  | [], cur => by simp [splA]
  | x :: l, cur => by
    by_cases h : x = 47
    · subst h
      have := splA_tot l []
      rw [splA_sl]
      simp only [List.map_cons, List.sum_cons, List.length_cons, List.length_nil] at this ⊢
      omega
    · have := splA_tot l (cur ++ [x])
      rw [splA_ch h]
      simp only [List.length_append, List.length_cons, List.length_nil] at this ⊢
      omega
theorem sum_le (m : Nat) : ∀ L : List (List UInt8), (∀ x ∈ L, x.length ≤ m) → (L.map List.length).sum ≤ L.length * m
  | [], _ => by simp
  | x :: L, h => by
    have h1 := h x (by simp)
    have h2 := sum_le m L (fun y hy => h y (by simp [hy]))
    rw [List.map_cons, List.sum_cons, List.length_cons, Nat.add_mul]
    omega
theorem okL_len {l : List UInt8} (h : okL l = true) : l.length ≤ 16 := by
  unfold okL okN at h
  simp only [Bool.and_eq_true, decide_eq_true_eq] at h
  have h2 : (ByteArray.mk l.toArray).size = l.length := rfl
  omega
theorem okPath_size {s : ByteArray} (h : okPath s = true) : s.size ≤ 102 := by
  have hs : s.data.toList.length = s.size := by rw [Array.length_toList]; rfl
  unfold okPath at h
  simp only [Bool.or_eq_true, Bool.and_eq_true, decide_eq_true_eq] at h
  rcases h with h | ⟨⟨⟨h1, h2⟩, h3⟩, h4⟩
  · rw [h] at hs; simp at hs; omega
  · have h5 := splA_tot (s.data.toList.drop 1) []
    have h6 := sum_le 16 (nm s) (fun x hx => okL_len (List.all_eq_true.1 h4 x hx))
    unfold nm at h3 h6
    rw [List.length_drop, hs] at h5
    simp only [List.length_nil] at h5
    omega

theorem okNd_all {n : Nd} (h : okNd n = true) : n.path.size ≤ 102 ∧ n.data.size ≤ 64 ∧ (0 ≤ n.ver ∧ n.ver ≤ 2147483647) ∧ (0 ≤ n.cver ∧ n.cver ≤ 2147483647) ∧ (0 ≤ n.cz ∧ n.cz ≤ 2147483647) ∧ (0 ≤ n.mz ∧ n.mz ≤ 2147483647) ∧ (0 ≤ n.pz ∧ n.pz ≤ 2147483647) := by
  unfold okNd okS at h
  simp only [Bool.and_eq_true, decide_eq_true_eq] at h
  obtain ⟨⟨⟨⟨⟨⟨h1, h2⟩, h3⟩, h4⟩, h5⟩, h6⟩, h7⟩ := h
  exact ⟨okPath_size h1, h2, h3, h4, h5, h6, h7⟩

/-- The image of a node. -/
def stB (n : Nd) : List Int := bigR n.ver.toNat 4 ++ bigR n.cver.toNat 4 ++ bigR n.cz.toNat 4 ++ bigR n.mz.toNat 4 ++ bigR n.pz.toNat 4
def nodeB (n : Nd) : List Int := txB n.path ++ txB n.data ++ stB n
theorem nodeB_len (n : Nd) : (nodeB n).length = 22 + n.path.size + n.data.size := by
  unfold nodeB stB
  simp only [List.length_append, txB_len, bigR_len]
  omega
theorem okTree_nd {ns : List Nd} (h : okTree ns = true) (k : Nat) (hk : k < ns.length) : okNd (nAt ns k) = true := by
  unfold okTree okSorted at h
  simp only [Bool.and_eq_true] at h
  have := List.all_eq_true.1 h.2 k (by simpa using hk)
  unfold okAt at this
  simp only [Bool.and_eq_true] at this
  exact this.1
theorem okTree_len {ns : List Nd} (h : okTree ns = true) : ns.length ≤ 1000 := by
  unfold okTree at h
  simp only [Bool.and_eq_true, decide_eq_true_eq] at h
  exact h.1

theorem splA_join : ∀ (l cur : List UInt8), 47 :: (cur ++ l) = (splA cur l).flatMap (fun a => 47 :: a)
  | [], cur => by simp [splA]
  | x :: l, cur => by
    by_cases h : x = 47
    · subst h
      rw [splA_sl, List.flatMap_cons, ← splA_join l []]
      simp
    · rw [splA_ch h, ← splA_join l (cur ++ [x])]
      simp
theorem splA_no : ∀ (l cur : List UInt8), (47 : UInt8) ∉ cur → ∀ a ∈ splA cur l, (47 : UInt8) ∉ a
  | [], cur, h, a, ha => by simp [splA] at ha; subst ha; exact h
  | x :: l, cur, h, a, ha => by
    by_cases hx : x = 47
    · subst hx
      rw [splA_sl] at ha
      rcases List.mem_cons.1 ha with rfl | ha
      · exact h
      · exact splA_no l [] (by simp) a ha
    · rw [splA_ch hx] at ha
      refine splA_no l (cur ++ [x]) ?_ a ha
      intro hm
      rcases List.mem_append.1 hm with hm | hm
      · exact h hm
      · simp at hm; exact hx hm.symm
/-- What is ahead of the last slash, and what is behind it. -/
def headL (s : ByteArray) : List UInt8 := (nm s).dropLast.flatMap (fun a => 47 :: a)
def lastL (s : ByteArray) : List UInt8 := (nm s).getLastD []
theorem nm_ne (s : ByteArray) : nm s ≠ [] := fun h => by have := splA_pos (s.data.toList.drop 1) []; unfold nm at h; rw [h] at this; simp at this
theorem nm_split (s : ByteArray) : nm s = (nm s).dropLast ++ [lastL s] := by
  unfold lastL
  have h := nm_ne s
  rw [List.getLastD_eq_getLast?, List.getLast?_eq_some_getLast h, Option.getD_some]
  exact (List.dropLast_concat_getLast h).symm
theorem path_split {s : ByteArray} (h1 : 1 ≤ s.size) (h0 : bN s 0 = 47) : s.data.toList = headL s ++ 47 :: lastL s := by
  have hl : 0 < s.data.toList.length := by rw [Array.length_toList]; exact h1
  have hc : s.data.toList = 47 :: s.data.toList.drop 1 := by
    conv => lhs; rw [← List.drop_zero (l := s.data.toList), List.drop_eq_getElem_cons hl]
    congr 1
    unfold bN at h0
    simp only [List.getD, List.getElem?_eq_getElem hl, Option.getD_some] at h0
    exact UInt8.toNat.inj (by simpa using h0)
  have hj := splA_join (s.data.toList.drop 1) []
  rw [List.nil_append, ← hc] at hj
  have hj2 : s.data.toList = (nm s).flatMap (fun a => 47 :: a) := hj
  rw [hj2]
  conv => lhs; rw [nm_split s]
  rw [List.flatMap_append]
  simp [headL]
theorem last_no (s : ByteArray) : (47 : UInt8) ∉ lastL s := by
  refine splA_no (s.data.toList.drop 1) [] (by simp) _ ?_
  show lastL s ∈ nm s
  rw [nm_split s]
  simp
/-- The path above. -/
def parL (s : ByteArray) : List UInt8 := if headL s = [] then [47] else headL s
theorem okPath_head {s : ByteArray} (h : okPath s = true) : 1 ≤ s.size ∧ bN s 0 = 47 := by
  unfold okPath at h
  simp only [Bool.or_eq_true, Bool.and_eq_true, decide_eq_true_eq] at h
  rcases h with h | ⟨⟨⟨h1, h2⟩, -⟩, -⟩
  · have hs : s.data.toList.length = s.size := by rw [Array.length_toList]; rfl
    rw [h] at hs
    refine ⟨by simp at hs; omega, ?_⟩
    unfold bN; rw [h]; rfl
  · exact ⟨by omega, h2⟩


theorem bN_ne {s : ByteArray} {A L : List UInt8} (hs : s.data.toList = A ++ 47 :: L) (hL : (47 : UInt8) ∉ L) (j : Nat) (hj : A.length < j) (hj2 : j < s.size) : bN s j ≠ 47 := by
  intro h
  have hl : j < s.data.toList.length := by rw [Array.length_toList]; exact hj2
  unfold bN at h
  simp only [List.getD, List.getElem?_eq_getElem hl, Option.getD_some] at h
  have he : s.data.toList[j] = 47 := UInt8.toNat.inj (by simpa using h)
  have hm : s.data.toList[j] ∈ L := by
    refine List.mem_of_getElem? (i := j - A.length - 1) ?_
    have h1 : s.data.toList[j]? = some s.data.toList[j] := List.getElem?_eq_getElem hl
    rw [← h1]
    conv => rhs; rw [hs]
    rw [List.getElem?_append_right (by omega)]
    conv => rhs; rw [show j - A.length = (j - A.length - 1) + 1 by omega, List.getElem?_cons_succ]
  rw [he] at hm
  exact hL hm
theorem bN_at {s : ByteArray} {A L : List UInt8} (hs : s.data.toList = A ++ 47 :: L) : bN s A.length = 47 ∧ A.length < s.size := by
  have hz : s.data.toList.length = s.size := by rw [Array.length_toList]; rfl
  constructor
  · unfold bN
    rw [hs]
    simp [List.getD]
  · rw [← hz, hs]; simp

set_option maxHeartbeats 1000000 in
set_option maxRecDepth 100000 in
theorem lastIdx_any (w : World) (s : ByteArray) (A L : List UInt8) (hs : s.data.toList = A ++ 47 :: L) (hL : (47 : UInt8) ∉ L) (hz : s.size ≤ 1048576) :
    Calls Tryz.prog 101 #[.string s, .int .u8 47] w fun e w' => e = .returned (.int .i64 (A.length : Int)) ∧ w' = w := by
  have HS : Hid (s.data.toList = A ++ 47 :: L) := hs
  have HL : Hid ((47 : UInt8) ∉ L) := hL
  obtain ⟨h47, hlt⟩ := bN_at hs
  clear hs hL
  go_enter Tryz.func101, Tryz.ntmps101
  go_wp2
  go_loop [5] (fun i => ∃ j : Nat, A.length ≤ j ∧ j < s.size ∧ i = .int .i64 j) (fun i => (intOf i).toNat)
  case atStart => exact ⟨s.size - 1, by omega, by omega, by go_num⟩
  case round =>
    obtain ⟨j, hj, hj2, rfl⟩ := hrel
    have hjI : (0 : Int) ≤ (j : Int) := by omega
    have hb := bN_get s j hj2
    by_cases he : j = A.length
    · subst he
      have hx : s[A.length].toNat = 47 := by rw [← hb]; exact h47
      go_wp2
      go_ret
      exact ⟨rfl, rfl⟩
    · have hx : s[j].toNat ≠ 47 := by rw [← hb]; exact bN_ne HS.out HL.out j (by omega) hj2
      go_wp2
      exact ⟨⟨j - 1, by omega, by omega, by go_num⟩, by simp [intOf]; omega⟩

set_option maxHeartbeats 400000 in
theorem lastIB_any (w : World) (s : ByteArray) (A L : List UInt8) (hs : s.data.toList = A ++ 47 :: L) (hL : (47 : UInt8) ∉ L) (hz : s.size ≤ 1048576) :
    Calls Tryz.prog 76 #[.string s, .int .u8 47] w fun e w' => e = .returned (.int .i64 (A.length : Int)) ∧ w' = w := by
  have H : Hid (Calls Tryz.prog 101 #[.string s, .int .u8 47] w fun e w' => e = .returned (.int .i64 (A.length : Int)) ∧ w' = w) := lastIdx_any w s A L hs hL hz
  clear hs hL
  go_enter Tryz.func76, Tryz.ntmps76
  go_wp2_with fail
  refine H.out.mono ?_
  rintro e w1 ⟨rfl, rfl⟩
  go_wp2
  go_ret
  exact ⟨rfl, rfl⟩

set_option maxHeartbeats 400000 in
theorem lastName_any (w : World) (s : ByteArray) (h : okPath s = true) :
    Calls Tryz.prog 41 #[.string s] w fun e w' => e = .returned (sV (lastL s)) ∧ w' = w := by
  obtain ⟨h1, h0⟩ := okPath_head h
  have hz := okPath_size h
  have hs := path_split h1 h0
  have hal := (bN_at hs).2
  have H : Hid (Calls Tryz.prog 76 #[.string s, .int .u8 47] w fun e w' => e = .returned (.int .i64 ((headL s).length : Int)) ∧ w' = w) := lastIB_any w s _ _ hs (last_no s) (by omega)
  have HEX : Hid (Value.string (s.extract ((headL s).length + 1) s.size) = sV (lastL s)) := by
    show _ = _
    rw [extract_seg]
    unfold sV seg
    rw [hs, List.drop_append, List.drop_eq_nil_of_le (by omega)]
    have hl : (lastL s).length = s.size - ((headL s).length + 1) := by
      have := congrArg List.length hs
      rw [List.length_append, List.length_cons, Array.length_toList] at this
      have h2 : s.data.size = s.size := rfl
      omega
    simp
    rw [List.take_of_length_le (by omega)]
  clear hs h h1 h0
  generalize (headL s).length = m at *
  go_enter Tryz.func41, Tryz.ntmps41
  go_wp2_with fail
  refine H.out.mono ?_
  rintro e w1 ⟨rfl, rfl⟩
  go_wp2
  go_ret
  exact ⟨congrArg Ending.returned HEX.out, rfl⟩

set_option maxHeartbeats 400000 in
theorem parentPath_any (w : World) (s : ByteArray) (h : okPath s = true) :
    Calls Tryz.prog 75 #[.string s] w fun e w' => e = .returned (sV (parL s)) ∧ w' = w := by
  obtain ⟨h1, h0⟩ := okPath_head h
  have hz := okPath_size h
  have hs := path_split h1 h0
  have hal := (bN_at hs).2
  have H : Hid (Calls Tryz.prog 76 #[.string s, .int .u8 47] w fun e w' => e = .returned (.int .i64 ((headL s).length : Int)) ∧ w' = w) := lastIB_any w s _ _ hs (last_no s) (by omega)
  by_cases hm : headL s = []
  · have HEX : Hid (Value.string (s.extract 0 1) = sV (parL s)) := by
      show _ = _
      rw [extract_seg]
      unfold sV seg parL
      rw [if_pos hm, hs, hm]
      simp
    have hml : (headL s).length = 0 := by rw [hm]; rfl
    rw [hml] at H
    clear hs h h0 hm hml hal
    go_enter Tryz.func75, Tryz.ntmps75
    go_wp2_with fail
    refine H.out.mono ?_
    rintro e w1 ⟨rfl, rfl⟩
    go_wp2
    go_ret
    exact ⟨congrArg Ending.returned HEX.out, rfl⟩
  · have hml : 1 ≤ (headL s).length := by
      cases hh : headL s with
      | nil => exact absurd hh hm
      | cons a l => simp
    have HEX : Hid (Value.string (s.extract 0 (headL s).length) = sV (parL s)) := by
      show _ = _
      rw [extract_seg]
      unfold sV seg parL
      rw [if_neg hm, hs]
      simp
    clear hs h h0 hm
    generalize (headL s).length = m at *
    go_enter Tryz.func75, Tryz.ntmps75
    go_wp2_with fail
    refine H.out.mono ?_
    rintro e w1 ⟨rfl, rfl⟩
    go_wp2
    · go_ret
      exact ⟨congrArg Ending.returned HEX.out, rfl⟩
    · have hm1 : m = 1 := by omega
      subst hm1
      go_ret
      exact ⟨congrArg Ending.returned HEX.out, rfl⟩

/-- Is it a child of that path? -/
def chB (s p : ByteArray) : Bool := !(s.toList == [47]) && (parL s == p.toList)

set_option maxHeartbeats 400000 in
theorem isChild_any (w : World) (s p : ByteArray) (h : okPath s = true) :
    Calls Tryz.prog 40 #[.string s, .string p] w fun e w' => e = .returned (.bool (chB s p)) ∧ w' = w := by
  have H : Hid (Calls Tryz.prog 75 #[.string s] w fun e w' => e = .returned (sV (parL s)) ∧ w' = w) := parentPath_any w s h
  clear h
  unfold chB
  cases hA : (s.toList == [47]) with
  | true =>
    go_enter Tryz.func40, Tryz.ntmps40
    go_wp2
    go_ret
    exact ⟨rfl, rfl⟩
  | false =>
    go_enter Tryz.func40, Tryz.ntmps40
    go_wp2_with fail
    refine H.out.mono ?_
    rintro e w1 ⟨rfl, rfl⟩
    unfold sV
    go_wp2
    go_ret
    exact ⟨rfl, rfl⟩


theorem flat_succ (L : List (List UInt8)) (i : Nat) (h : i < L.length) : (L.take i).flatMap (fun a => 47 :: a) ++ 47 :: L[i] = (L.take (i + 1)).flatMap (fun a => 47 :: a) := by
  rw [List.take_succ_eq_append_getElem h, List.flatMap_append]; simp
theorem dropLast_take' (L : List (List UInt8)) (i : Nat) (h : i + 1 = L.length) : L.take i = L.dropLast := by
  rw [List.dropLast_eq_take]; congr 1; omega
theorem flat_le (s : ByteArray) (k : Nat) : (((nm s).take k).flatMap (fun a => (47 : UInt8) :: a)).length ≤ s.size + 1 := by
  have h1 : ((nm s).flatMap (fun a => (47 : UInt8) :: a)).length ≤ s.size + 1 := by
    have hj := congrArg List.length (splA_join (s.data.toList.drop 1) [])
    have hs2 : s.data.toList.length = s.size := by rw [Array.length_toList]; rfl
    rw [List.length_cons, List.nil_append, List.length_drop, hs2] at hj
    unfold nm
    omega
  have h2 : (nm s).flatMap (fun a => (47 : UInt8) :: a) = ((nm s).take k).flatMap (fun a => 47 :: a) ++ ((nm s).drop k).flatMap (fun a => 47 :: a) := by
    rw [← List.flatMap_append, List.take_append_drop]
  have h3 := congrArg List.length h2
  rw [List.length_append] at h3
  omega
theorem ba_ap (a b : List UInt8) : (⟨a.toArray⟩ ++ ⟨b.toArray⟩ : ByteArray) = ⟨(a ++ b).toArray⟩ := by
  apply ByteArray.ext
  simp [ByteArray.data_append]

set_option maxHeartbeats 1000000 in
set_option maxRecDepth 100000 in
theorem l3Parent_any (w : World) (s : ByteArray) (h : okPath s = true) :
    Calls Tryz.prog 61 #[.string s] w fun e w' => e = .returned (sV (parL s)) ∧ Below w.heap.size w w' := by
  obtain ⟨h1, -⟩ := okPath_head h
  have hz := okPath_size h
  have hn : 1 ≤ (nm s).length := by
    cases hh : nm s with
    | nil => exact absurd hh (nm_ne s)
    | cons a l => simp
  have hnl : (nm s).length ≤ 103 := by
    have := splA_tot (s.data.toList.drop 1) []
    have hs2 : s.data.toList.length = s.size := by rw [Array.length_toList]; rfl
    rw [List.length_drop, hs2] at this
    simp only [List.length_nil] at this
    unfold nm
    omega
  clear h
  go_enter Tryz.func61, Tryz.ntmps61
  go_wp2_with fail
  refine (names_any _ s h1 (by omega)).mono ?_
  rintro e w1 ⟨v1, rfl, o1, b1⟩
  obtain ⟨g, c, hv⟩ : ∃ g c, v1 = .slice (some ⟨g, 0, none⟩) (nm s).length c := by
    rcases o1.2 with ⟨-, h0⟩ | ⟨g, cap, cur, rfl, -⟩
    · omega
    · exact ⟨g, cap, rfl⟩
  subst hv
  have CL : Hid (∀ i (hi : i < (nm s).length), w1.cell? ⟨g, i, none⟩ = some (.string ⟨((nm s)[i]).toArray⟩)) := by
    intro i hi
    have := World.ownsRow.cells o1 (g := g) rfl i (sV (nm s)[i]) (by rw [List.getElem?_map, List.getElem?_eq_getElem hi]; rfl)
    rw [Addr.add_lit, Nat.zero_add] at this; exact this
  have B1 : Hid (Below w.heap.size w w1) := b1
  clear o1 b1
  obtain ⟨n, hnn⟩ : ∃ n, n = (nm s).length := ⟨_, rfl⟩
  have HNN : Hid (n = (nm s).length) := hnn
  rw [← hnn] at hn hnl ⊢
  clear hnn
  go_wp2
  go_loop [4, 5] (fun vo vi => ∃ i : Nat, i + 1 ≤ n ∧ vi = .int .i64 i ∧ vo = .string ⟨(((nm s).take i).flatMap (fun a => 47 :: a)).toArray⟩) (fun _ i => n - (intOf i).toNat)
  case atStart => exact ⟨0, hn, rfl, rfl⟩
  case round =>
    obtain ⟨i, hi, rfl, rfl⟩ := hrel
    by_cases hlt : i + 1 < n
    · have hltI : (i : Int) + 1 < (n : Int) := by omega
      have hil : i < (nm s).length := by rw [← HNN.out]; omega
      have c1 := CL.out i hil
      have HF : Hid ((⟨(((nm s).take i).flatMap (fun a => 47 :: a)).toArray⟩ : ByteArray) ++ ((⟨#[47]⟩ : ByteArray) ++ ⟨((nm s)[i]).toArray⟩) = ⟨(((nm s).take (i + 1)).flatMap (fun a => 47 :: a)).toArray⟩) := by
        show _ = _
        rw [show (⟨#[47]⟩ : ByteArray) = ⟨([47] : List UInt8).toArray⟩ from rfl, ba_ap, ba_ap, ← flat_succ _ i hil]
        rfl
      have hlen : (((nm s).take i).flatMap (fun a => (47 : UInt8) :: a)).length + (1 + ((nm s)[i]).length) ≤ 103 := by
        have := flat_le s (i + 1)
        rw [← flat_succ _ i hil, List.length_append, List.length_cons] at this
        omega
      generalize hA : ((nm s).take i).flatMap (fun a => (47 : UInt8) :: a) = A at *
      generalize hB : (nm s)[i] = Bx at *
      clear hA hB
      go_wp2
      exact ⟨⟨i + 1, by omega, by go_num, congrArg Value.string HF.out⟩, by simp [intOf]; omega⟩
    · have hin : i + 1 = (nm s).length := by rw [← HNN.out]; omega
      have hnI : ¬ (i : Int) + 1 < (n : Int) := by omega
      have HH : Hid (((nm s).take i).flatMap (fun a => (47 : UInt8) :: a) = headL s) := by show _ = _; rw [dropLast_take' _ _ hin]; rfl
      rw [HH.out]
      have HP : Hid (parL s = if headL s = [] then [47] else headL s) := rfl
      clear HH
      cases hh : headL s with
      | nil =>
        rw [hh] at HP
        go_wp2
        go_ret
        exact ⟨by rw [HP.out]; rfl, B1.out⟩
      | cons a l =>
        rw [hh] at HP
        go_wp2
        go_ret
        exact ⟨by rw [HP.out, if_neg (by simp)]; rfl, B1.out⟩

end Go.Proofs.YtdiingonnddkcaaGreatDoor
namespace Go.Proofs.YtdiingonnddkcaaGreatDoor
open Go.RowKit Go.Shelf

/-- Decimal digits with zeros ahead up to so many. -/
def six : Nat → Nat → Nat → List UInt8
  | 0, _, _ => []
  | f + 1, v, d => if v = 0 ∧ d = 0 then [] else six f (v / 10) (d - 1) ++ [UInt8.ofNat (48 + v % 10)]
theorem six_len : ∀ f v d, (six f v d).length ≤ f
  | 0, _, _ => Nat.le_refl _
  | f + 1, v, d => by
    unfold six
    split
    · simp
    · have := six_len f (v / 10) (d - 1)
      simp; omega

set_option maxHeartbeats 1000000 in
set_option maxRecDepth 100000 in
theorem l3Six_end (w : World) (dg : Int) (hd : dg ≤ 0) : Calls Tryz.prog 63 #[.int .i64 0, .int .i64 dg] w fun e w' => e = .returned (.string ⟨#[]⟩) ∧ Below w.heap.size w w' := by
  go_enter Tryz.func63, Tryz.ntmps63
  go_wp2
  go_ret
  exact ⟨rfl, Below.refl _ _⟩
theorem strOf_one (n : Nat) : strOfNums [(n : Int)] = ⟨[UInt8.ofNat n].toArray⟩ := by
  unfold strOfNums
  simp

set_option linter.unusedSimpArgs false in
set_option maxHeartbeats 2000000 in
set_option maxRecDepth 100000 in
theorem l3Six_any : ∀ (f : Nat) (w : World) (v : Nat) (dg : Int), f ≤ 20 → v < 10 ^ f → v ≤ 1000000000000 → dg.toNat ≤ f → dg ≤ 100 → (f : Int) - 100 ≤ dg →
    Calls Tryz.prog 63 #[.int .i64 (v : Int), .int .i64 dg] w fun e w' => e = .returned (.string ⟨(six (f + 1) v dg.toNat).toArray⟩) ∧ Below w.heap.size w w' := by
  intro f
  induction f with
  | zero =>
    intro w v dg hf hv hv2 hd hdg hdm
    have hv0 : v = 0 := by simpa using hv
    subst hv0
    refine (l3Six_end w dg (by omega)).mono ?_
    rintro e w' ⟨rfl, b⟩
    rw [show dg.toNat = 0 by omega]
    exact ⟨rfl, b⟩
  | succ f ih =>
    intro w v dg hf hv hv2 hd hdg hdm
    by_cases hz : v = 0 ∧ dg ≤ 0
    · obtain ⟨rfl, hz2⟩ := hz
      refine (l3Six_end w dg hz2).mono ?_
      rintro e w' ⟨rfl, b⟩
      rw [show dg.toNat = 0 by omega]
      exact ⟨rfl, b⟩
    have HS : Hid (six (f + 2) v dg.toNat = six (f + 1) (v / 10) (dg - 1).toNat ++ [UInt8.ofNat (48 + v % 10)]) := by
      show _ = _
      rw [six, if_neg (by omega), show (dg - 1).toNat = dg.toNat - 1 by omega]
    have HI : Hid (∀ W : World, Calls Tryz.prog 63 #[.int .i64 ((v : Int) / 10), .int .i64 (dg - 1)] W fun e w' => e = .returned (.string ⟨(six (f + 1) (v / 10) (dg - 1).toNat).toArray⟩) ∧ Below W.heap.size W w') := by
      intro W
      have := ih W (v / 10) (dg - 1) (by omega) (by rw [Nat.pow_succ] at hv; omega) (by omega) (by omega) (by omega) (by omega)
      rw [show ((v / 10 : Nat) : Int) = (v : Int) / 10 by omega] at this
      exact this
    clear ih hv
    have hcase : (¬ (v : Int) = 0) ∨ ((v : Int) = 0 ∧ ¬ dg ≤ 0) := by omega
    have hL := six_len (f + 1) (v / 10) (dg - 1).toNat
    generalize six (f + 1) (v / 10) (dg - 1).toNat = L at *
    have hm : v % 10 < 10 := Nat.mod_lt _ (by omega)
    have HONE : Hid (strOfNums [((48 + v % 10 : Nat) : Int)] = ⟨[UInt8.ofNat (48 + v % 10)].toArray⟩) := strOf_one _
    have HB8 : Hid (∀ W : World, Rd .u8 (W.alloc (.cells #[.int .u8 (48 + (v : Int) % 10)] 5)) (.slice (some ⟨W.heap.size, 0, none⟩) 1 1) [((48 + v % 10 : Nat) : Int)]) := by
      intro W
      refine ⟨_, _, rfl, Nat.le_refl _, by unfold maxLen; omega, .inr ⟨W.heap.size, 0, rfl, by simp, fun i hi => ?_⟩⟩
      have : i = 0 := by simp at hi; omega
      subst this
      simp
    rcases hcase with hc | ⟨hc, hc2⟩
    · have hcb : ((v : Int) == 0) = false := by simp; omega
      clear hc hz
      go_enter Tryz.func63, Tryz.ntmps63
      go_wp2_with fail
      refine wp_region_held_drew (S := fun _ => True) (by kernel_rfl) trivial (fun hHeld => ?_)
      have bC : Below w.heap.size w w.drew := below_drewN' w 1
      generalize w.drew = P0 at *
      refine wpAnyH_take (i := 0) (oi := { dst := some 11, op := _, type := _, pos := _, after := _, guard := _ }) (v := (.int .i64 (v : Int))) rfl (by kernel_rfl) (by kernel_rfl) (by kernel_rfl) (fun _ _ _ h => h) (Or.inl ⟨by rfl, ?hy6⟩) (by assumption) ?rest6
      case hy6 =>
        intro w9 hS9
        go_simp
      try simp only [Act.put, List.setIfInBounds_toArray, List.set_cons_zero, List.set_cons_succ]
      refine wpAnyH_take (i := 1) (oi := { dst := some 12, op := _, type := _, pos := _, after := _, guard := _ }) (v := (.int .i64 ((v : Int) / 10))) rfl (by kernel_rfl) (by kernel_rfl) (by kernel_rfl) (fun _ _ _ h => h) (Or.inl ⟨by rfl, ?hy7⟩) (by assumption) ?rest7
      case hy7 =>
        intro w9 hS9
        go_simp
        rw [IntKind.wrap_i64]
        omega
      try simp only [Act.put, List.setIfInBounds_toArray, List.set_cons_zero, List.set_cons_succ]
      refine wpAnyH_take (i := 2) (oi := { dst := some 13, op := _, type := _, pos := _, after := _, guard := _ }) (v := (.int .i64 dg)) rfl (by kernel_rfl) (by kernel_rfl) (by kernel_rfl) (fun _ _ _ h => h) (Or.inl ⟨by rfl, ?hy8⟩) (by assumption) ?rest8
      case hy8 =>
        intro w9 hS9
        go_simp
      try simp only [Act.put, List.setIfInBounds_toArray, List.set_cons_zero, List.set_cons_succ]
      refine wpAnyH_take (i := 3) (oi := { dst := some 14, op := _, type := _, pos := _, after := _, guard := _ }) (v := (.int .i64 (dg - 1))) rfl (by kernel_rfl) (by kernel_rfl) (by kernel_rfl) (fun _ _ _ h => h) (Or.inl ⟨by rfl, ?hy9⟩) (by assumption) ?rest9
      case hy9 =>
        intro w9 hS9
        go_simp
        try (rw [IntKind.wrap_i64]; omega)
      try simp only [Act.put, List.setIfInBounds_toArray, List.set_cons_zero, List.set_cons_succ]
      refine wpAnyH_take (i := 5) (oi := { dst := some 16, op := _, type := _, pos := _, after := _, guard := _ }) (v := (.int .i64 (v : Int))) rfl (by kernel_rfl) (by kernel_rfl) (by kernel_rfl) (fun _ _ _ h => h) (Or.inl ⟨by rfl, ?hy10⟩) (by assumption) ?rest10
      case hy10 =>
        intro w9 hS9
        go_simp
      try simp only [Act.put, List.setIfInBounds_toArray, List.set_cons_zero, List.set_cons_succ]
      refine wpAnyH_take (i := 6) (oi := { dst := some 17, op := _, type := _, pos := _, after := _, guard := _ }) (v := (.int .i64 ((v : Int) % 10))) rfl (by kernel_rfl) (by kernel_rfl) (by kernel_rfl) (fun _ _ _ h => h) (Or.inl ⟨by rfl, ?hy11⟩) (by assumption) ?rest11
      case hy11 =>
        intro w9 hS9
        go_simp
        exact Int.tmod_eq_emod_of_nonneg (by omega)
      try simp only [Act.put, List.setIfInBounds_toArray, List.set_cons_zero, List.set_cons_succ]
      refine wpAnyH_take (i := 7) (oi := { dst := some 18, op := _, type := _, pos := _, after := _, guard := _ }) (v := (.int .i64 (48 + (v : Int) % 10))) rfl (by kernel_rfl) (by kernel_rfl) (by kernel_rfl) (fun _ _ _ h => h) (Or.inl ⟨by rfl, ?hy12⟩) (by assumption) ?rest12
      case hy12 =>
        intro w9 hS9
        go_simp
        try (rw [IntKind.wrap_i64]; omega)
      try simp only [Act.put, List.setIfInBounds_toArray, List.set_cons_zero, List.set_cons_succ]
      refine wpAnyH_take (i := 8) (oi := { dst := some 19, op := _, type := _, pos := _, after := _, guard := _ }) (v := (.int .u8 (48 + (v : Int) % 10))) rfl (by kernel_rfl) (by kernel_rfl) (by kernel_rfl) (fun _ _ _ h => h) (Or.inl ⟨by rfl, ?hy13⟩) (by assumption) ?rest13
      case hy13 =>
        intro w9 hS9
        go_simp
        rw [IntKind.wrap_u8]
        omega
      try simp only [Act.put, List.setIfInBounds_toArray, List.set_cons_zero, List.set_cons_succ]
      refine wpAnyH_ready (rs := [4, 9]) (by kernel_rfl) (by simp) ?_
      refine (AllReadyH.cons (o := { dst := some 15, op := _, type := _, pos := _, after := _, guard := _ }) rfl (fun K hK => ?_) (AllReadyH.cons (o := { dst := some 20, op := _, type := _, pos := _, after := _, guard := _ }) rfl (fun K hK => ?_) AllReadyH.nil))
      · go_simp
        refine (HI.out P0).mono ?_
        rintro e P1 ⟨rfl, bA⟩
        replace bC := bC.trans (bA.mono bC.size)
        clear bA
        refine hK.out _ _ trivial (fun hx9 => ?_)
        clear hK K hx9
        try simp only [Act.put, List.setIfInBounds_toArray, List.set_cons_zero, List.set_cons_succ]
        refine wpAnyH_ready (rs := [9]) (by kernel_rfl) (by simp) ?_
        refine (AllReadyH.cons (o := { dst := some 20, op := _, type := _, pos := _, after := _, guard := _ }) rfl (fun K hK => ?_) AllReadyH.nil)
        go_simp
        have rB := HB8.out P1
        replace bC := bC.alloc bC.size (.cells #[.int .u8 (48 + (v : Int) % 10)] 5)
        generalize hB : P1.heap.size = BB at rB ⊢
        generalize P1.alloc (.cells #[.int .u8 (48 + (v : Int) % 10)] 5) = P2 at *
        clear hB
        refine hK.out _ _ trivial (fun hx9 => ?_)
        clear hK K hx9
        try simp only [Act.put, List.setIfInBounds_toArray, List.set_cons_zero, List.set_cons_succ]
        refine wpAnyH_ready (rs := [10]) (by kernel_rfl) (by simp) ?_
        refine (AllReadyH.cons (o := { dst := some 21, op := _, type := _, pos := _, after := _, guard := _ }) rfl (fun K hK => ?_) AllReadyH.nil)
        have hc9 := conv_any rB
        rw [HONE.out] at hc9
        go_simp
        clear hc9 rB
        refine hK.out _ _ trivial (fun hx9 => ?_)
        clear hK K hx9
        try simp only [Act.put, List.setIfInBounds_toArray, List.set_cons_zero, List.set_cons_succ]
        refine wpAnyH_take (i := 11) (oi := { dst := some 22, op := _, type := _, pos := _, after := _, guard := _ }) (v := (.string (⟨L.toArray⟩ ++ ⟨[UInt8.ofNat (48 + v % 10)].toArray⟩))) rfl (by kernel_rfl) (by kernel_rfl) (by kernel_rfl) (fun _ _ _ h => h) (Or.inl ⟨by rfl, ?hy14⟩) (by assumption) ?rest14
        case hy14 =>
          intro w9 hS9
          go_simp
          omega
        try simp only [Act.put, List.setIfInBounds_toArray, List.set_cons_zero, List.set_cons_succ]
        skip
        refine wpAnyH_take (i := 12) (oi := { dst := some 4, op := _, type := _, pos := _, after := _, guard := _ }) (v := (.string (⟨L.toArray⟩ ++ ⟨[UInt8.ofNat (48 + v % 10)].toArray⟩))) rfl (by kernel_rfl) (by kernel_rfl) (by kernel_rfl) (fun _ _ _ h => h) (Or.inl ⟨by rfl, ?hy15⟩) (by assumption) ?rest15
        case hy15 =>
          intro w9 hS9
          go_simp
        try simp only [Act.put, List.setIfInBounds_toArray, List.set_cons_zero, List.set_cons_succ]
        refine wpAnyH_done (by kernel_rfl) ?_ _
        clear hHeld
        have HBC : Hid (Below w.heap.size w P2) := bC
        clear bC
        go_wp2
        go_ret
        refine ⟨?_, HBC.out⟩
        rw [HS.out, ← ba_ap]
        rfl
      · go_simp
        have rB := HB8.out P0
        replace bC := bC.alloc bC.size (.cells #[.int .u8 (48 + (v : Int) % 10)] 5)
        generalize hB : P0.heap.size = BB at rB ⊢
        generalize P0.alloc (.cells #[.int .u8 (48 + (v : Int) % 10)] 5) = P4 at *
        clear hB
        refine hK.out _ _ trivial (fun hx9 => ?_)
        clear hK K hx9
        try simp only [Act.put, List.setIfInBounds_toArray, List.set_cons_zero, List.set_cons_succ]
        refine wpAnyH_ready (rs := [4, 10]) (by kernel_rfl) (by simp) ?_
        refine (AllReadyH.cons (o := { dst := some 15, op := _, type := _, pos := _, after := _, guard := _ }) rfl (fun K hK => ?_) (AllReadyH.cons (o := { dst := some 21, op := _, type := _, pos := _, after := _, guard := _ }) rfl (fun K hK => ?_) AllReadyH.nil))
        · go_simp
          refine (HI.out P4).mono ?_
          rintro e P5 ⟨rfl, bA⟩
          replace bC := bC.trans (bA.mono bC.size)
          replace rB := rB.below bA
          clear bA
          refine hK.out _ _ trivial (fun hx9 => ?_)
          clear hK K hx9
          try simp only [Act.put, List.setIfInBounds_toArray, List.set_cons_zero, List.set_cons_succ]
          refine wpAnyH_ready (rs := [10]) (by kernel_rfl) (by simp) ?_
          refine (AllReadyH.cons (o := { dst := some 21, op := _, type := _, pos := _, after := _, guard := _ }) rfl (fun K hK => ?_) AllReadyH.nil)
          have hc9 := conv_any rB
          rw [HONE.out] at hc9
          go_simp
          clear hc9 rB
          refine hK.out _ _ trivial (fun hx9 => ?_)
          clear hK K hx9
          try simp only [Act.put, List.setIfInBounds_toArray, List.set_cons_zero, List.set_cons_succ]
          refine wpAnyH_take (i := 11) (oi := { dst := some 22, op := _, type := _, pos := _, after := _, guard := _ }) (v := (.string (⟨L.toArray⟩ ++ ⟨[UInt8.ofNat (48 + v % 10)].toArray⟩))) rfl (by kernel_rfl) (by kernel_rfl) (by kernel_rfl) (fun _ _ _ h => h) (Or.inl ⟨by rfl, ?hy16⟩) (by assumption) ?rest16
          case hy16 =>
            intro w9 hS9
            go_simp
            omega
          try simp only [Act.put, List.setIfInBounds_toArray, List.set_cons_zero, List.set_cons_succ]
          skip
          refine wpAnyH_take (i := 12) (oi := { dst := some 4, op := _, type := _, pos := _, after := _, guard := _ }) (v := (.string (⟨L.toArray⟩ ++ ⟨[UInt8.ofNat (48 + v % 10)].toArray⟩))) rfl (by kernel_rfl) (by kernel_rfl) (by kernel_rfl) (fun _ _ _ h => h) (Or.inl ⟨by rfl, ?hy17⟩) (by assumption) ?rest17
          case hy17 =>
            intro w9 hS9
            go_simp
          try simp only [Act.put, List.setIfInBounds_toArray, List.set_cons_zero, List.set_cons_succ]
          refine wpAnyH_done (by kernel_rfl) ?_ _
          clear hHeld
          have HBC : Hid (Below w.heap.size w P5) := bC
          clear bC
          go_wp2
          go_ret
          refine ⟨?_, HBC.out⟩
          rw [HS.out, ← ba_ap]
          rfl
        · have hc9 := conv_any rB
          rw [HONE.out] at hc9
          go_simp
          clear hc9 rB
          refine hK.out _ _ trivial (fun hx9 => ?_)
          clear hK K hx9
          try simp only [Act.put, List.setIfInBounds_toArray, List.set_cons_zero, List.set_cons_succ]
          refine wpAnyH_ready (rs := [4]) (by kernel_rfl) (by simp) ?_
          refine (AllReadyH.cons (o := { dst := some 15, op := _, type := _, pos := _, after := _, guard := _ }) rfl (fun K hK => ?_) AllReadyH.nil)
          go_simp
          refine (HI.out P4).mono ?_
          rintro e P8 ⟨rfl, bA⟩
          replace bC := bC.trans (bA.mono bC.size)
          clear bA
          refine hK.out _ _ trivial (fun hx9 => ?_)
          clear hK K hx9
          try simp only [Act.put, List.setIfInBounds_toArray, List.set_cons_zero, List.set_cons_succ]
          refine wpAnyH_take (i := 11) (oi := { dst := some 22, op := _, type := _, pos := _, after := _, guard := _ }) (v := (.string (⟨L.toArray⟩ ++ ⟨[UInt8.ofNat (48 + v % 10)].toArray⟩))) rfl (by kernel_rfl) (by kernel_rfl) (by kernel_rfl) (fun _ _ _ h => h) (Or.inl ⟨by rfl, ?hy18⟩) (by assumption) ?rest18
          case hy18 =>
            intro w9 hS9
            go_simp
            omega
          try simp only [Act.put, List.setIfInBounds_toArray, List.set_cons_zero, List.set_cons_succ]
          skip
          refine wpAnyH_take (i := 12) (oi := { dst := some 4, op := _, type := _, pos := _, after := _, guard := _ }) (v := (.string (⟨L.toArray⟩ ++ ⟨[UInt8.ofNat (48 + v % 10)].toArray⟩))) rfl (by kernel_rfl) (by kernel_rfl) (by kernel_rfl) (fun _ _ _ h => h) (Or.inl ⟨by rfl, ?hy19⟩) (by assumption) ?rest19
          case hy19 =>
            intro w9 hS9
            go_simp
          try simp only [Act.put, List.setIfInBounds_toArray, List.set_cons_zero, List.set_cons_succ]
          refine wpAnyH_done (by kernel_rfl) ?_ _
          clear hHeld
          have HBC : Hid (Below w.heap.size w P8) := bC
          clear bC
          go_wp2
          go_ret
          refine ⟨?_, HBC.out⟩
          rw [HS.out, ← ba_ap]
          rfl
    · have hcb : ((v : Int) == 0) = true := by simp; omega
      have hcd : ¬ dg ≤ 0 := hc2
      clear hc hz hc2
      go_enter Tryz.func63, Tryz.ntmps63
      go_wp2_with fail
      refine wp_region_held_drew (S := fun _ => True) (by kernel_rfl) trivial (fun hHeld => ?_)
      have bC : Below w.heap.size w w.drew := below_drewN' w 1
      generalize w.drew = P0 at *
      refine wpAnyH_take (i := 0) (oi := { dst := some 11, op := _, type := _, pos := _, after := _, guard := _ }) (v := (.int .i64 (v : Int))) rfl (by kernel_rfl) (by kernel_rfl) (by kernel_rfl) (fun _ _ _ h => h) (Or.inl ⟨by rfl, ?hy20⟩) (by assumption) ?rest20
      case hy20 =>
        intro w9 hS9
        go_simp
      try simp only [Act.put, List.setIfInBounds_toArray, List.set_cons_zero, List.set_cons_succ]
      refine wpAnyH_take (i := 1) (oi := { dst := some 12, op := _, type := _, pos := _, after := _, guard := _ }) (v := (.int .i64 ((v : Int) / 10))) rfl (by kernel_rfl) (by kernel_rfl) (by kernel_rfl) (fun _ _ _ h => h) (Or.inl ⟨by rfl, ?hy21⟩) (by assumption) ?rest21
      case hy21 =>
        intro w9 hS9
        go_simp
        rw [IntKind.wrap_i64]
        omega
      try simp only [Act.put, List.setIfInBounds_toArray, List.set_cons_zero, List.set_cons_succ]
      refine wpAnyH_take (i := 2) (oi := { dst := some 13, op := _, type := _, pos := _, after := _, guard := _ }) (v := (.int .i64 dg)) rfl (by kernel_rfl) (by kernel_rfl) (by kernel_rfl) (fun _ _ _ h => h) (Or.inl ⟨by rfl, ?hy22⟩) (by assumption) ?rest22
      case hy22 =>
        intro w9 hS9
        go_simp
      try simp only [Act.put, List.setIfInBounds_toArray, List.set_cons_zero, List.set_cons_succ]
      refine wpAnyH_take (i := 3) (oi := { dst := some 14, op := _, type := _, pos := _, after := _, guard := _ }) (v := (.int .i64 (dg - 1))) rfl (by kernel_rfl) (by kernel_rfl) (by kernel_rfl) (fun _ _ _ h => h) (Or.inl ⟨by rfl, ?hy23⟩) (by assumption) ?rest23
      case hy23 =>
        intro w9 hS9
        go_simp
        try (rw [IntKind.wrap_i64]; omega)
      try simp only [Act.put, List.setIfInBounds_toArray, List.set_cons_zero, List.set_cons_succ]
      refine wpAnyH_take (i := 5) (oi := { dst := some 16, op := _, type := _, pos := _, after := _, guard := _ }) (v := (.int .i64 (v : Int))) rfl (by kernel_rfl) (by kernel_rfl) (by kernel_rfl) (fun _ _ _ h => h) (Or.inl ⟨by rfl, ?hy24⟩) (by assumption) ?rest24
      case hy24 =>
        intro w9 hS9
        go_simp
      try simp only [Act.put, List.setIfInBounds_toArray, List.set_cons_zero, List.set_cons_succ]
      refine wpAnyH_take (i := 6) (oi := { dst := some 17, op := _, type := _, pos := _, after := _, guard := _ }) (v := (.int .i64 ((v : Int) % 10))) rfl (by kernel_rfl) (by kernel_rfl) (by kernel_rfl) (fun _ _ _ h => h) (Or.inl ⟨by rfl, ?hy25⟩) (by assumption) ?rest25
      case hy25 =>
        intro w9 hS9
        go_simp
        exact Int.tmod_eq_emod_of_nonneg (by omega)
      try simp only [Act.put, List.setIfInBounds_toArray, List.set_cons_zero, List.set_cons_succ]
      refine wpAnyH_take (i := 7) (oi := { dst := some 18, op := _, type := _, pos := _, after := _, guard := _ }) (v := (.int .i64 (48 + (v : Int) % 10))) rfl (by kernel_rfl) (by kernel_rfl) (by kernel_rfl) (fun _ _ _ h => h) (Or.inl ⟨by rfl, ?hy26⟩) (by assumption) ?rest26
      case hy26 =>
        intro w9 hS9
        go_simp
        try (rw [IntKind.wrap_i64]; omega)
      try simp only [Act.put, List.setIfInBounds_toArray, List.set_cons_zero, List.set_cons_succ]
      refine wpAnyH_take (i := 8) (oi := { dst := some 19, op := _, type := _, pos := _, after := _, guard := _ }) (v := (.int .u8 (48 + (v : Int) % 10))) rfl (by kernel_rfl) (by kernel_rfl) (by kernel_rfl) (fun _ _ _ h => h) (Or.inl ⟨by rfl, ?hy27⟩) (by assumption) ?rest27
      case hy27 =>
        intro w9 hS9
        go_simp
        rw [IntKind.wrap_u8]
        omega
      try simp only [Act.put, List.setIfInBounds_toArray, List.set_cons_zero, List.set_cons_succ]
      refine wpAnyH_ready (rs := [4, 9]) (by kernel_rfl) (by simp) ?_
      refine (AllReadyH.cons (o := { dst := some 15, op := _, type := _, pos := _, after := _, guard := _ }) rfl (fun K hK => ?_) (AllReadyH.cons (o := { dst := some 20, op := _, type := _, pos := _, after := _, guard := _ }) rfl (fun K hK => ?_) AllReadyH.nil))
      · go_simp
        refine (HI.out P0).mono ?_
        rintro e P1 ⟨rfl, bA⟩
        replace bC := bC.trans (bA.mono bC.size)
        clear bA
        refine hK.out _ _ trivial (fun hx9 => ?_)
        clear hK K hx9
        try simp only [Act.put, List.setIfInBounds_toArray, List.set_cons_zero, List.set_cons_succ]
        refine wpAnyH_ready (rs := [9]) (by kernel_rfl) (by simp) ?_
        refine (AllReadyH.cons (o := { dst := some 20, op := _, type := _, pos := _, after := _, guard := _ }) rfl (fun K hK => ?_) AllReadyH.nil)
        go_simp
        have rB := HB8.out P1
        replace bC := bC.alloc bC.size (.cells #[.int .u8 (48 + (v : Int) % 10)] 5)
        generalize hB : P1.heap.size = BB at rB ⊢
        generalize P1.alloc (.cells #[.int .u8 (48 + (v : Int) % 10)] 5) = P2 at *
        clear hB
        refine hK.out _ _ trivial (fun hx9 => ?_)
        clear hK K hx9
        try simp only [Act.put, List.setIfInBounds_toArray, List.set_cons_zero, List.set_cons_succ]
        refine wpAnyH_ready (rs := [10]) (by kernel_rfl) (by simp) ?_
        refine (AllReadyH.cons (o := { dst := some 21, op := _, type := _, pos := _, after := _, guard := _ }) rfl (fun K hK => ?_) AllReadyH.nil)
        have hc9 := conv_any rB
        rw [HONE.out] at hc9
        go_simp
        clear hc9 rB
        refine hK.out _ _ trivial (fun hx9 => ?_)
        clear hK K hx9
        try simp only [Act.put, List.setIfInBounds_toArray, List.set_cons_zero, List.set_cons_succ]
        refine wpAnyH_take (i := 11) (oi := { dst := some 22, op := _, type := _, pos := _, after := _, guard := _ }) (v := (.string (⟨L.toArray⟩ ++ ⟨[UInt8.ofNat (48 + v % 10)].toArray⟩))) rfl (by kernel_rfl) (by kernel_rfl) (by kernel_rfl) (fun _ _ _ h => h) (Or.inl ⟨by rfl, ?hy28⟩) (by assumption) ?rest28
        case hy28 =>
          intro w9 hS9
          go_simp
          omega
        try simp only [Act.put, List.setIfInBounds_toArray, List.set_cons_zero, List.set_cons_succ]
        skip
        refine wpAnyH_take (i := 12) (oi := { dst := some 4, op := _, type := _, pos := _, after := _, guard := _ }) (v := (.string (⟨L.toArray⟩ ++ ⟨[UInt8.ofNat (48 + v % 10)].toArray⟩))) rfl (by kernel_rfl) (by kernel_rfl) (by kernel_rfl) (fun _ _ _ h => h) (Or.inl ⟨by rfl, ?hy29⟩) (by assumption) ?rest29
        case hy29 =>
          intro w9 hS9
          go_simp
        try simp only [Act.put, List.setIfInBounds_toArray, List.set_cons_zero, List.set_cons_succ]
        refine wpAnyH_done (by kernel_rfl) ?_ _
        clear hHeld
        have HBC : Hid (Below w.heap.size w P2) := bC
        clear bC
        go_wp2
        go_ret
        refine ⟨?_, HBC.out⟩
        rw [HS.out, ← ba_ap]
        rfl
      · go_simp
        have rB := HB8.out P0
        replace bC := bC.alloc bC.size (.cells #[.int .u8 (48 + (v : Int) % 10)] 5)
        generalize hB : P0.heap.size = BB at rB ⊢
        generalize P0.alloc (.cells #[.int .u8 (48 + (v : Int) % 10)] 5) = P4 at *
        clear hB
        refine hK.out _ _ trivial (fun hx9 => ?_)
        clear hK K hx9
        try simp only [Act.put, List.setIfInBounds_toArray, List.set_cons_zero, List.set_cons_succ]
        refine wpAnyH_ready (rs := [4, 10]) (by kernel_rfl) (by simp) ?_
        refine (AllReadyH.cons (o := { dst := some 15, op := _, type := _, pos := _, after := _, guard := _ }) rfl (fun K hK => ?_) (AllReadyH.cons (o := { dst := some 21, op := _, type := _, pos := _, after := _, guard := _ }) rfl (fun K hK => ?_) AllReadyH.nil))
        · go_simp
          refine (HI.out P4).mono ?_
          rintro e P5 ⟨rfl, bA⟩
          replace bC := bC.trans (bA.mono bC.size)
          replace rB := rB.below bA
          clear bA
          refine hK.out _ _ trivial (fun hx9 => ?_)
          clear hK K hx9
          try simp only [Act.put, List.setIfInBounds_toArray, List.set_cons_zero, List.set_cons_succ]
          refine wpAnyH_ready (rs := [10]) (by kernel_rfl) (by simp) ?_
          refine (AllReadyH.cons (o := { dst := some 21, op := _, type := _, pos := _, after := _, guard := _ }) rfl (fun K hK => ?_) AllReadyH.nil)
          have hc9 := conv_any rB
          rw [HONE.out] at hc9
          go_simp
          clear hc9 rB
          refine hK.out _ _ trivial (fun hx9 => ?_)
          clear hK K hx9
          try simp only [Act.put, List.setIfInBounds_toArray, List.set_cons_zero, List.set_cons_succ]
          refine wpAnyH_take (i := 11) (oi := { dst := some 22, op := _, type := _, pos := _, after := _, guard := _ }) (v := (.string (⟨L.toArray⟩ ++ ⟨[UInt8.ofNat (48 + v % 10)].toArray⟩))) rfl (by kernel_rfl) (by kernel_rfl) (by kernel_rfl) (fun _ _ _ h => h) (Or.inl ⟨by rfl, ?hy30⟩) (by assumption) ?rest30
          case hy30 =>
            intro w9 hS9
            go_simp
            omega
          try simp only [Act.put, List.setIfInBounds_toArray, List.set_cons_zero, List.set_cons_succ]
          skip
          refine wpAnyH_take (i := 12) (oi := { dst := some 4, op := _, type := _, pos := _, after := _, guard := _ }) (v := (.string (⟨L.toArray⟩ ++ ⟨[UInt8.ofNat (48 + v % 10)].toArray⟩))) rfl (by kernel_rfl) (by kernel_rfl) (by kernel_rfl) (fun _ _ _ h => h) (Or.inl ⟨by rfl, ?hy31⟩) (by assumption) ?rest31
          case hy31 =>
            intro w9 hS9
            go_simp
          try simp only [Act.put, List.setIfInBounds_toArray, List.set_cons_zero, List.set_cons_succ]
          refine wpAnyH_done (by kernel_rfl) ?_ _
          clear hHeld
          have HBC : Hid (Below w.heap.size w P5) := bC
          clear bC
          go_wp2
          go_ret
          refine ⟨?_, HBC.out⟩
          rw [HS.out, ← ba_ap]
          rfl
        · have hc9 := conv_any rB
          rw [HONE.out] at hc9
          go_simp
          clear hc9 rB
          refine hK.out _ _ trivial (fun hx9 => ?_)
          clear hK K hx9
          try simp only [Act.put, List.setIfInBounds_toArray, List.set_cons_zero, List.set_cons_succ]
          refine wpAnyH_ready (rs := [4]) (by kernel_rfl) (by simp) ?_
          refine (AllReadyH.cons (o := { dst := some 15, op := _, type := _, pos := _, after := _, guard := _ }) rfl (fun K hK => ?_) AllReadyH.nil)
          go_simp
          refine (HI.out P4).mono ?_
          rintro e P8 ⟨rfl, bA⟩
          replace bC := bC.trans (bA.mono bC.size)
          clear bA
          refine hK.out _ _ trivial (fun hx9 => ?_)
          clear hK K hx9
          try simp only [Act.put, List.setIfInBounds_toArray, List.set_cons_zero, List.set_cons_succ]
          refine wpAnyH_take (i := 11) (oi := { dst := some 22, op := _, type := _, pos := _, after := _, guard := _ }) (v := (.string (⟨L.toArray⟩ ++ ⟨[UInt8.ofNat (48 + v % 10)].toArray⟩))) rfl (by kernel_rfl) (by kernel_rfl) (by kernel_rfl) (fun _ _ _ h => h) (Or.inl ⟨by rfl, ?hy32⟩) (by assumption) ?rest32
          case hy32 =>
            intro w9 hS9
            go_simp
            omega
          try simp only [Act.put, List.setIfInBounds_toArray, List.set_cons_zero, List.set_cons_succ]
          skip
          refine wpAnyH_take (i := 12) (oi := { dst := some 4, op := _, type := _, pos := _, after := _, guard := _ }) (v := (.string (⟨L.toArray⟩ ++ ⟨[UInt8.ofNat (48 + v % 10)].toArray⟩))) rfl (by kernel_rfl) (by kernel_rfl) (by kernel_rfl) (fun _ _ _ h => h) (Or.inl ⟨by rfl, ?hy33⟩) (by assumption) ?rest33
          case hy33 =>
            intro w9 hS9
            go_simp
          try simp only [Act.put, List.setIfInBounds_toArray, List.set_cons_zero, List.set_cons_succ]
          refine wpAnyH_done (by kernel_rfl) ?_ _
          clear hHeld
          have HBC : Hid (Below w.heap.size w P8) := bC
          clear bC
          go_wp2
          go_ret
          refine ⟨?_, HBC.out⟩
          rw [HS.out, ← ba_ap]
          rfl

end Go.Proofs.YtdiingonnddkcaaGreatDoor


