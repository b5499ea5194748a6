import Derived.Test.YtgjenbgclpmjmaaDoorTSort
import Derived.Test.YtgjenbgclpmjmaaDoorEText
namespace Go.Proofs.YtgjenbgclpmjmaaDoor
open Go.RowKit

theorem splA_tot : ∀ l cur : List UInt8, ((splA cur l).map List.length).sum + (splA cur l).length = cur.length + l.length + 1
  | [], cur => by simp [splA]
  | x :: l, cur => by
    by_cases h : x = 47
    · subst h
      have := splA_tot l []
      rw [splA_sl]
      simp only [List.map_cons, List.sum_cons, List.length_cons, List.length_nil] at this ⊢
      omega
    · have := splA_tot l (cur ++ [x])
      rw [splA_ch h]
      simp only [List.length_append, List.length_cons, List.length_nil] at this ⊢
      omega
theorem sum_le (m : Nat) : ∀ L : List (List UInt8), (∀ x ∈ L, x.length ≤ m) → (L.map List.length).sum ≤ L.length * m
  | [], _ => by simp
  | x :: L, h => by
    have h1 := h x (by simp)
    have h2 := sum_le m L (fun y hy => h y (by simp [hy]))
    rw [List.map_cons, List.sum_cons, List.length_cons, Nat.add_mul]
    omega
theorem okL_len {l : List UInt8} (h : okL l = true) : l.length ≤ 16 := by
  unfold okL okN at h
  simp only [Bool.and_eq_true, decide_eq_true_eq] at h
  have h2 : (ByteArray.mk l.toArray).size = l.length := rfl
  omega
theorem okPath_size {s : ByteArray} (h : okPath s = true) : s.size ≤ 102 := by
  have hs : s.data.toList.length = s.size := by rw [Array.length_toList]; rfl
  unfold okPath at h
  simp only [Bool.or_eq_true, Bool.and_eq_true, decide_eq_true_eq] at h
  rcases h with h | ⟨⟨⟨h1, h2⟩, h3⟩, h4⟩
  · rw [h] at hs; simp at hs; omega
  · have h5 := splA_tot (s.data.toList.drop 1) []
    have h6 := sum_le 16 (nm s) (fun x hx => okL_len (List.all_eq_true.1 h4 x hx))
    unfold nm at h3 h6
    rw [List.length_drop, hs] at h5
    simp only [List.length_nil] at h5
    omega

theorem okNd_all {n : Nd} (h : okNd n = true) : n.path.size ≤ 102 ∧ n.data.size ≤ 64 ∧ (0 ≤ n.ver ∧ n.ver ≤ 2147483647) ∧ (0 ≤ n.cver ∧ n.cver ≤ 2147483647) ∧ (0 ≤ n.cz ∧ n.cz ≤ 2147483647) ∧ (0 ≤ n.mz ∧ n.mz ≤ 2147483647) ∧ (0 ≤ n.pz ∧ n.pz ≤ 2147483647) := by
  unfold okNd okS at h
  simp only [Bool.and_eq_true, decide_eq_true_eq] at h
  obtain ⟨⟨⟨⟨⟨⟨h1, h2⟩, h3⟩, h4⟩, h5⟩, h6⟩, h7⟩ := h
  exact ⟨okPath_size h1, h2, h3, h4, h5, h6, h7⟩

/-- The image of a node. -/
def stB (n : Nd) : List Int := bigR n.ver.toNat 4 ++ bigR n.cver.toNat 4 ++ bigR n.cz.toNat 4 ++ bigR n.mz.toNat 4 ++ bigR n.pz.toNat 4
def nodeB (n : Nd) : List Int := txB n.path ++ txB n.data ++ stB n
theorem nodeB_len (n : Nd) : (nodeB n).length = 22 + n.path.size + n.data.size := by
  unfold nodeB stB
  simp only [List.length_append, txB_len, bigR_len]
  omega
/-- The image of nodes. -/
def nodesB (ns : List Nd) : List Int := ns.flatMap nodeB
theorem nodesB_succ (ns : List Nd) (k : Nat) (h : k < ns.length) : nodesB (ns.take k) ++ nodeB (nAt ns k) = nodesB (ns.take (k + 1)) := by
  unfold nodesB
  rw [List.take_succ_eq_append_getElem h, List.flatMap_append, nAt_get h]
  simp
theorem nodesB_all (ns : List Nd) (k : Nat) (h : ns.length ≤ k) : nodesB (ns.take k) = nodesB ns := by rw [List.take_of_length_le h]
theorem okTree_nd {ns : List Nd} (h : okTree ns = true) (k : Nat) (hk : k < ns.length) : okNd (nAt ns k) = true := by
  unfold okTree okSorted at h
  simp only [Bool.and_eq_true] at h
  have := List.all_eq_true.1 h.2 k (by simpa using hk)
  unfold okAt at this
  simp only [Bool.and_eq_true] at this
  exact this.1
theorem okTree_len {ns : List Nd} (h : okTree ns = true) : ns.length ≤ 1000 := by
  unfold okTree at h
  simp only [Bool.and_eq_true, decide_eq_true_eq] at h
  exact h.1
theorem nodesB_len {ns : List Nd} (h : ∀ k, k < ns.length → okNd (nAt ns k) = true) : ∀ k, k ≤ ns.length → (nodesB (ns.take k)).length ≤ k * 188
  | 0, _ => by simp [nodesB]
  | k + 1, hk => by
    have h1 := nodesB_len h k (by omega)
    have h2 := okNd_all (h k (by omega))
    rw [← nodesB_succ ns k (by omega), List.length_append, nodeB_len]
    omega
def treeB (ns : List Nd) : List Int := if okTree ns then nodesB ns else []
theorem treeB_len (ns : List Nd) : (treeB ns).length ≤ 188000 := by
  unfold treeB
  split
  · rename_i h
    have h1 := nodesB_len (okTree_nd h) ns.length (Nat.le_refl _)
    have h2 := okTree_len h
    rw [nodesB_all ns _ (Nat.le_refl _)] at h1
    omega
  · simp

end Go.Proofs.YtgjenbgclpmjmaaDoor
