import Derived.Test.YtgjenbgclpmjmaaDoorVSplit
namespace Go.Proofs.YtgjenbgclpmjmaaDoor
open Go.RowKit Go.Shelf

attribute [local go_sem] Oper.semAt_some

def SeqPost (s : ByteArray) (w : World) (e : Ending) (w' : World) : Prop :=
  e = .returned (.func (.func 121) #[] #[.pointer (some ⟨w.heap.size + 1, 0, none⟩), .pointer (some ⟨w.heap.size, 0, none⟩), .pointer (some ⟨w.heap.size + 2, 0, none⟩)]) ∧
  w' = ((w.alloc (.cells #[.string s] 9)).alloc (.cells #[.string ⟨#[47]⟩] 9)).alloc (.cells #[.int .i64 0] 3)

set_option maxHeartbeats 400000 in
theorem splitSeq_in (F : Fence) (n : Nat) (h87 : F.fn 100) (hro : F.round = none) (s : ByteArray) (w : World) :
    CallsIn F n Tryd.prog 100 #[.string s, .string ⟨#[47]⟩, .int .i64 0] w (SeqPost s w) := by
  refine callsIn_of_wp Tryd.func100 rfl h87 ?_ hro
  simp only [Tryd.ntmps100, List.size_toArray, List.length_cons, List.length_nil, Nat.reduceAdd, Nat.reduceSub, Array.replicate_succ, Array.replicate_zero, List.push_toArray, List.append_toArray, List.nil_append, List.cons_append]
  gi_wp2
  go_ret
  exact ⟨rfl, rfl⟩

set_option maxHeartbeats 400000 in
theorem SplitSeq_in (n : Nat) (hn : 1 ≤ n) (s : ByteArray) (w : World) :
    CallsIn Fence.wide n Tryd.prog 55 #[.string s, .string ⟨#[47]⟩] w (SeqPost s w) := by
  refine callsIn_of_wp Tryd.func55 rfl trivial ?_ rfl
  simp only [Tryd.ntmps55, List.size_toArray, List.length_cons, List.length_nil, Nat.reduceAdd, Nat.reduceSub, Array.replicate_succ, Array.replicate_zero, List.push_toArray, List.append_toArray, List.nil_append, List.cons_append]
  gi_wp2_with fail
  refine ⟨trivial, ?_⟩
  refine (splitSeq_in Fence.wide _ trivial rfl s w).mono ?_
  rintro e w5 ⟨rfl, hw5⟩
  have HW : Hid (w5 = ((w.alloc (.cells #[.string s] 9)).alloc (.cells #[.string ⟨#[47]⟩] 9)).alloc (.cells #[.int .i64 0] 3)) := hw5
  clear hw5
  gi_wp2
  go_ret
  exact ⟨rfl, HW.out⟩

theorem splA_sum : ∀ (l cur : List UInt8), ((splA cur l).map (fun p => p.length + 1)).sum = cur.length + l.length + 1
  | [], cur => by simp [splA]
  | x :: l, cur => by
    by_cases h : x = 47
    · subst h; rw [splA_sl]; have := splA_sum l []; simp only [List.map_cons, List.sum_cons, this, List.length_cons, List.length_nil]; omega
    · rw [splA_ch h, splA_sum l (cur ++ [x])]; simp only [List.length_append, List.length_cons, List.length_nil]; omega

theorem sum_ok : ∀ (rs : List (List UInt8)), rs.all okL = true → (rs.map (fun p => p.length + 1)).sum ≤ 17 * rs.length
  | [], _ => by simp
  | p :: rs, h => by
    rw [List.all_cons, Bool.and_eq_true] at h
    have h1 := sum_ok rs h.2
    have h2 : p.length ≤ 16 := by
      have := h.1
      unfold okL okN at this
      simp only [Bool.and_eq_true, decide_eq_true_eq] at this
      exact this.1.2
    simp only [List.map_cons, List.sum_cons, List.length_cons]; omega

theorem okPath_long {s : ByteArray} (h : 102 < s.size) : okPath s = false := by
  have h1 : ¬ s.data.toList = [47] := fun e => by
    have : s.data.toList.length = 1 := by rw [e]; rfl
    have h2 : s.data.toList.length = s.size := rfl
    omega
  rw [okPath_not h1]
  cases hn : (decide ((nm s).length ≤ 6)) with
  | false => simp
  | true =>
    cases ha : (nm s).all okL with
    | false => simp
    | true =>
      exfalso
      have h3 := sum_ok _ ha
      have h4 := splA_sum (s.data.toList.drop 1) []
      have h5 : (s.data.toList.drop 1).length = s.size - 1 := by rw [List.length_drop]; rfl
      rw [h5] at h4
      unfold nm at h3 hn
      rw [h4] at h3
      simp at h3 hn
      omega

end Go.Proofs.YtgjenbgclpmjmaaDoor
