import Derived.Test.YtcopcegamadkgaaDoorJ05
import Derived.Deep.AppendLies
import Derived.Test.YtcopcegamadkgaaDoorJ03
import Derived.Test.YtcopcegamadkgaaDoorChecked
import Derived.Test.YtcopcegamadkgaaDoorJ01
import Derived.Deep.QuietTactic
import Derived.BigQuiet
import Derived.Deep.RegionWith
import Derived.Test.YtcopcegamadkgaaDoorJ02
namespace Go.Proofs.YtcopcegamadkgaaDoor
open Go.RowKit Go.Shelf

theorem eqL_bytes {a b : ByteArray} (h : (a.toList == b.toList) = true) : a = b := by
  rw [beq_iff_eq, ByteArray.toList_eq, ByteArray.toList_eq] at h
  cases a; cases b
  simp only [ByteArray.mk.injEq] at *
  exact Array.toList_inj.1 h
theorem eqNd_eq {a b : Nd} (h : eqNd a b = true) : a = b := by
  unfold eqNd at h
  simp only [Bool.and_eq_true] at h
  obtain ⟨h1, h2, h3, h4, h5, h6, h7⟩ := h
  have e1 := eqL_bytes h1
  have e2 := eqL_bytes h2
  rw [beq_iff_eq] at h3 h4 h5 h6 h7
  cases a; cases b
  simp_all
theorem ltP_same {a b : ByteArray} (h1 : ltP a b = false) (h2 : ltP b a = false) : (a.toList == b.toList) = true := by
  cases h : (a.toList == b.toList) with
  | true => rfl
  | false => have := ltP_total h1 h; rw [this] at h2; cases h2
theorem plc_zero {a : Nd} {r : List Nd} {p : ByteArray} (h : ltP a.path p = false) : plc (a :: r) p = 0 := by
  unfold plc; rw [List.takeWhile_cons, if_neg (by simp [h])]; rfl
theorem skp_no {a : Nd} {r : List Nd} {p : ByteArray} (h : ltP p a.path = true) : plc (a :: r) p = 0 ∧ skp (a :: r) p = 0 := by
  have h1 := plc_zero (r := r) (ltP_asymm h)
  refine ⟨h1, ?_⟩
  rw [skp_eq, h1]
  have h2 := ltP_gt_ne h
  simp only [List.drop_zero, nAt, List.getD_cons_zero, h2, Bool.and_false, Bool.false_eq_true, if_false]
theorem skp_yes {a : Nd} {r : List Nd} {p : ByteArray} (h : (a.path.toList == p.toList) = true) : plc (a :: r) p = 0 ∧ skp (a :: r) p = 1 := by
  have e := eqL_bytes h
  have h1 := plc_zero (a := a) (r := r) (p := p) (by rw [e]; exact ltP_irr p)
  refine ⟨h1, ?_⟩
  rw [skp_eq, h1]
  simp only [List.drop_zero, nAt, List.getD_cons_zero, h, Bool.and_true, List.length_cons, Nat.zero_lt_succ, decide_true, if_true]
theorem wi_front {P : List Nd} {a b : Nd} {r : List Nd} (hP : ∀ x ∈ P, ltP x.path b.path = true) (h : Asc (a :: r)) (hl : ltP b.path a.path = true) : wiN (P ++ a :: r) b = P ++ b :: a :: r := by
  obtain ⟨h1, h2⟩ := skp_no (r := r) hl
  rw [wi_all P (a :: r) b hP h, h1, h2]; simp
theorem wi_swap {P : List Nd} {a b : Nd} {r : List Nd} (hP : ∀ x ∈ P, ltP x.path b.path = true) (h : Asc (a :: r)) (he : (a.path.toList == b.path.toList) = true) : wiN (P ++ a :: r) b = P ++ b :: r := by
  obtain ⟨h1, h2⟩ := skp_yes (r := r) he
  rw [wi_all P (a :: r) b hP h, h1, h2]; simp
theorem wi_end {P : List Nd} {b : Nd} (hP : ∀ x ∈ P, ltP x.path b.path = true) : wiN P b = P ++ [b] := by
  have := wi_all P [] b hP List.Pairwise.nil
  simpa using this
theorem wo_front {P : List Nd} {a : Nd} {r : List Nd} (hP : ∀ x ∈ P, ltP x.path a.path = true) (h : Asc (a :: r)) : woN (P ++ a :: r) a.path = P ++ r := by
  obtain ⟨h1, h2⟩ := skp_yes (a := a) (r := r) (p := a.path) (by simp)
  rw [wo_all P (a :: r) a.path hP h, h1, h2]; simp
theorem asc_tail {a : Nd} {r : List Nd} (h : Asc (a :: r)) : Asc r ∧ ∀ x ∈ r, ltP a.path x.path = true := ⟨(List.pairwise_cons.1 h).2, (List.pairwise_cons.1 h).1⟩

/-- The difference takes one list to the other. -/
theorem ap_dif (A B : List Nd) : ∀ P : List Nd, Asc A → Asc B → (∀ x ∈ P, ∀ y, y ∈ A ∨ y ∈ B → ltP x.path y.path = true) → apL (P ++ A) (dif A B) = P ++ B := by
  fun_induction dif A B with
  | case1 now =>
    intro P _ hB hP
    induction now generalizing P with
    | nil => simp [apL]
    | cons b now ih =>
      obtain ⟨h1, h2⟩ := asc_tail hB
      have h3 := ih (P ++ [b]) h1 (fun x hx y hy => by
        rcases List.mem_append.1 hx with hx | hx
        · exact hP x hx y (by rcases hy with hy | hy; (exact .inl hy); (exact .inr (List.mem_cons_of_mem _ hy)))
        · simp at hx; subst hx
          rcases hy with hy | hy
          · simp at hy
          · exact h2 y hy)
      show apL (apQ (P ++ []) (putE b)) (now.map putE) = _
      have e1 : apQ (P ++ []) (putE b) = P ++ [b] := by
        unfold apQ putE
        simp only [Bool.false_eq_true, if_false, List.append_nil]
        exact wi_end (fun x hx => hP x hx b (.inr (List.mem_cons_self ..)))
      rw [e1]
      have : apL (P ++ [b] ++ []) (now.map putE) = P ++ [b] ++ now := h3
      simpa using this
  | case2 a was =>
    intro P hA _ hP
    generalize a :: was = L at hA hP ⊢
    induction L with
    | nil => simp [apL]
    | cons a was ih =>
      obtain ⟨h1, h2⟩ := asc_tail hA
      show apL (apQ (P ++ a :: was) (delE a)) (was.map delE) = _
      have e1 : apQ (P ++ a :: was) (delE a) = P ++ was := by
        unfold apQ delE
        simp only [if_true]
        exact wo_front (fun x hx => hP x hx a (.inl (List.mem_cons_self ..))) hA
      rw [e1]
      exact ih h1 (fun x hx y hy => hP x hx y (by rcases hy with hy | hy; (exact .inl (List.mem_cons_of_mem _ hy)); (exact .inr hy)))
  | case3 a was b now hl ih =>
    intro P hA hB hP
    obtain ⟨h1, h2⟩ := asc_tail hB
    show apL (apQ (P ++ a :: was) (putE b)) _ = _
    unfold apQ
    simp only [putE, Bool.false_eq_true, if_false]
    rw [wi_front (fun x hx => hP x hx b (.inr (List.mem_cons_self ..))) hA hl]
    have := ih (P ++ [b]) hA h1 (fun x hx y hy => by
      rcases List.mem_append.1 hx with hx | hx
      · exact hP x hx y (by rcases hy with hy | hy; (exact .inl hy); (exact .inr (List.mem_cons_of_mem _ hy)))
      · simp at hx; subst hx
        rcases hy with hy | hy
        · rcases List.mem_cons.1 hy with rfl | hy
          · exact hl
          · exact ltP_trans hl ((asc_tail hA).2 y hy)
        · exact h2 y hy)
    simpa using this
  | case4 a was b now hl hg ih =>
    intro P hA hB hP
    obtain ⟨h1, h2⟩ := asc_tail hA
    show apL (apQ (P ++ a :: was) (delE a)) _ = _
    unfold apQ
    simp only [delE, if_true]
    rw [wo_front (fun x hx => hP x hx a (.inl (List.mem_cons_self ..))) hA]
    exact ih P h1 hB (fun x hx y hy => hP x hx y (by rcases hy with hy | hy; (exact .inl (List.mem_cons_of_mem _ hy)); (exact .inr hy)))
  | case5 a was b now hl hg he ih =>
    intro P hA hB hP
    have e := eqNd_eq he
    subst e
    obtain ⟨h1, h2⟩ := asc_tail hA
    obtain ⟨h3, h4⟩ := asc_tail hB
    have := ih (P ++ [a]) h1 h3 (fun x hx y hy => by
      rcases List.mem_append.1 hx with hx | hx
      · exact hP x hx y (by rcases hy with hy | hy; (exact .inl (List.mem_cons_of_mem _ hy)); (exact .inr (List.mem_cons_of_mem _ hy)))
      · simp at hx; subst hx
        rcases hy with hy | hy
        · exact h2 y hy
        · exact h4 y hy)
    simpa using this
  | case6 a was b now hl hg he ih =>
    intro P hA hB hP
    obtain ⟨h1, h2⟩ := asc_tail hA
    obtain ⟨h3, h4⟩ := asc_tail hB
    have hs : (a.path.toList == b.path.toList) = true := ltP_same (by simpa using hg) (by simpa using hl)
    show apL (apQ (P ++ a :: was) (putE b)) _ = _
    unfold apQ
    simp only [putE, Bool.false_eq_true, if_false]
    rw [wi_swap (fun x hx => hP x hx b (.inr (List.mem_cons_self ..))) hA hs]
    have := ih (P ++ [b]) h1 h3 (fun x hx y hy => by
      rcases List.mem_append.1 hx with hx | hx
      · exact hP x hx y (by rcases hy with hy | hy; (exact .inl (List.mem_cons_of_mem _ hy)); (exact .inr (List.mem_cons_of_mem _ hy)))
      · simp at hx; subst hx
        rcases hy with hy | hy
        · have := h2 y hy
          rw [eqL_bytes hs] at this
          exact this
        · exact h4 y hy)
    simpa using this
theorem ap_dif0 {A B : List Nd} (hA : Asc A) (hB : Asc B) : apL A (dif A B) = B := by
  have := ap_dif A B [] hA hB (fun x hx => by simp at hx)
  simpa using this

/-- Effects that lie above a path. -/
theorem dif_above (p : ByteArray) (A B : List Nd) : (∀ x, x ∈ A ∨ x ∈ B → ltP p x.path = true) → ∀ e ∈ dif A B, ltP p e.nd.path = true := by
  fun_induction dif A B with
  | case1 now => intro h e he; obtain ⟨b, hb, rfl⟩ := List.mem_map.1 he; exact h b (.inr hb)
  | case2 a was => intro h e he; obtain ⟨b, hb, rfl⟩ := List.mem_map.1 he; exact h b (.inl hb)
  | case3 a was b now hl ih =>
    intro h e he
    rcases List.mem_cons.1 he with rfl | he
    · exact h b (.inr (List.mem_cons_self ..))
    · exact ih (fun x hx => h x (by rcases hx with hx | hx; (exact .inl hx); (exact .inr (List.mem_cons_of_mem _ hx)))) e he
  | case4 a was b now hl hg ih =>
    intro h e he
    rcases List.mem_cons.1 he with rfl | he
    · exact h a (.inl (List.mem_cons_self ..))
    · exact ih (fun x hx => h x (by rcases hx with hx | hx; (exact .inl (List.mem_cons_of_mem _ hx)); (exact .inr hx))) e he
  | case5 a was b now hl hg he' ih =>
    intro h e he
    exact ih (fun x hx => h x (by rcases hx with hx | hx; (exact .inl (List.mem_cons_of_mem _ hx)); (exact .inr (List.mem_cons_of_mem _ hx)))) e he
  | case6 a was b now hl hg he' ih =>
    intro h e he
    rcases List.mem_cons.1 he with rfl | he
    · exact h b (.inr (List.mem_cons_self ..))
    · exact ih (fun x hx => h x (by rcases hx with hx | hx; (exact .inl (List.mem_cons_of_mem _ hx)); (exact .inr (List.mem_cons_of_mem _ hx)))) e he
theorem dif_asc (A B : List Nd) : Asc A → Asc B → AscE (dif A B) := by
  fun_induction dif A B with
  | case1 now => intro _ hB; exact List.pairwise_map.2 hB
  | case2 a was => intro hA _; exact List.pairwise_map.2 hA
  | case3 a was b now hl ih =>
    intro hA hB
    obtain ⟨h3, h4⟩ := asc_tail hB
    refine List.Pairwise.cons (fun e he => dif_above b.path _ _ (fun x hx => ?_) e he) (ih hA h3)
    rcases hx with hx | hx
    · rcases List.mem_cons.1 hx with rfl | hx
      · exact hl
      · exact ltP_trans hl ((asc_tail hA).2 x hx)
    · exact h4 x hx
  | case4 a was b now hl hg ih =>
    intro hA hB
    obtain ⟨h1, h2⟩ := asc_tail hA
    refine List.Pairwise.cons (fun e he => dif_above a.path _ _ (fun x hx => ?_) e he) (ih h1 hB)
    rcases hx with hx | hx
    · exact h2 x hx
    · rcases List.mem_cons.1 hx with rfl | hx
      · exact hg
      · exact ltP_trans hg ((asc_tail hB).2 x hx)
  | case5 a was b now hl hg he ih => intro hA hB; exact ih (asc_tail hA).1 (asc_tail hB).1
  | case6 a was b now hl hg he ih =>
    intro hA hB
    obtain ⟨h1, h2⟩ := asc_tail hA
    obtain ⟨h3, h4⟩ := asc_tail hB
    have hs : (a.path.toList == b.path.toList) = true := ltP_same (by simpa using hg) (by simpa using hl)
    refine List.Pairwise.cons (fun e he => dif_above b.path _ _ (fun x hx => ?_) e he) (ih h1 h3)
    rcases hx with hx | hx
    · have := h2 x hx
      rw [eqL_bytes hs] at this
      exact this
    · exact h4 x hx
theorem dif_ok (A B : List Nd) : (∀ n ∈ A, okNd n = true) → (∀ n ∈ B, okNd n = true) → ∀ e ∈ dif A B, okEf e = true := by
  have hp : ∀ b : Nd, okNd b = true → okEf (putE b) = true := fun b h => by rw [okEf_false rfl]; exact h
  have hd : ∀ a : Nd, okNd a = true → okEf (delE a) = true := fun a h => by
    rw [okEf_true rfl]
    unfold okNd at h ⊢
    simp only [Bool.and_eq_true] at h ⊢
    simp [delE, nd0, okS, blank, h]
  fun_induction dif A B with
  | case1 now => intro _ hB e he; obtain ⟨b, hb, rfl⟩ := List.mem_map.1 he; exact hp b (hB b hb)
  | case2 a was => intro hA _ e he; obtain ⟨b, hb, rfl⟩ := List.mem_map.1 he; exact hd b (hA b hb)
  | case3 a was b now hl ih =>
    intro hA hB e he
    rcases List.mem_cons.1 he with rfl | he
    · exact hp b (hB b (List.mem_cons_self ..))
    · exact ih hA (fun n hn => hB n (List.mem_cons_of_mem _ hn)) e he
  | case4 a was b now hl hg ih =>
    intro hA hB e he
    rcases List.mem_cons.1 he with rfl | he
    · exact hd a (hA a (List.mem_cons_self ..))
    · exact ih (fun n hn => hA n (List.mem_cons_of_mem _ hn)) hB e he
  | case5 a was b now hl hg he' ih =>
    intro hA hB e he
    exact ih (fun n hn => hA n (List.mem_cons_of_mem _ hn)) (fun n hn => hB n (List.mem_cons_of_mem _ hn)) e he
  | case6 a was b now hl hg he' ih =>
    intro hA hB e he
    rcases List.mem_cons.1 he with rfl | he
    · exact hp b (hB b (List.mem_cons_self ..))
    · exact ih (fun n hn => hA n (List.mem_cons_of_mem _ hn)) (fun n hn => hB n (List.mem_cons_of_mem _ hn)) e he
theorem okEs_of {es : List Ef} (h1 : AscE es) (h2 : ∀ e ∈ es, okEf e = true) : okEs es = true := by
  refine es_yes (fun k hk => ?_)
  have he : ∀ j (hj : j < es.length), eAt es j = es[j] := fun j hj => by unfold eAt; simp [List.getD, hj]
  cases k with
  | zero => rw [okEAt_zero, he 0 hk]; exact h2 _ (List.getElem_mem hk)
  | succ j =>
    rw [okEAt_succ, he _ hk, he j (by omega), h2 _ (List.getElem_mem hk)]
    simpa using List.pairwise_iff_getElem.1 h1 j (j + 1) (by omega) hk (by omega)
/-- The transaction of two sound trees is one, and gives the second. -/
theorem dif_txn {A B : List Nd} {z : Int} (hA : Snd A) (hB : Snd B) (hl : A.length + B.length ≤ 1000) (hz : 1 ≤ z ∧ z ≤ 2147483647) : okTxn z (dif A B) = true := by
  unfold okTxn
  have := dif_len A B
  simp only [Bool.and_eq_true, decide_eq_true_eq]
  exact ⟨⟨⟨hz.1, hz.2⟩, by omega⟩, okEs_of (dif_asc A B hA.1 hB.1) (dif_ok A B hA.2.1 hB.2.1)⟩
theorem resA_dif {A B : List Nd} {z : Int} (hA : Snd A) (hB : Snd B) (hl : A.length + B.length ≤ 1000) (hz : 1 ≤ z ∧ z ≤ 2147483647) : resA A z (dif A B) = B := by
  unfold resA
  rw [okTree_snd.2 hA, dif_txn hA hB hl hz]
  exact ap_dif0 hA.1 hB.1

/-- An operation adds one node at most. -/
theorem wi_len1 {ns : List Nd} (h : Asc ns) (n : Nd) : (wiN ns n).length ≤ ns.length + 1 := by rw [wi_len9 h]; omega
theorem to_len1 {ns : List Nd} (h : Asc ns) (p : ByteArray) (z : Int) : (toN ns p z).length ≤ ns.length := by
  unfold toN
  split
  · rename_i hf
    rw [wi_len9 h, skp_one h ⟨_, (found_mem hf).1, by simp⟩]
    have : 0 < ns.length := by have := (found_mem hf).1; exact List.length_pos_of_mem this
    omega
  · exact Nat.le_refl _
theorem doO_len {ns : List Nd} (h : Asc ns) (o : Op5) (z : Int) : (doO ns o z).2.1.length ≤ ns.length + 1 := by
  unfold doO
  dsimp only
  repeat' split
  all_goals (try (first | exact Nat.le_succ _ | exact Nat.le_refl _))
  · exact Nat.le_trans (to_len1 (asc_wi h _) _ _) (wi_len1 h _)
  · exact Nat.le_trans (to_len1 (asc_wo h _) _ _) (Nat.le_trans (List.length_filter_le _ _) (Nat.le_succ _))
  · exact wi_len1 h _

end Go.Proofs.YtcopcegamadkgaaDoor

namespace Go.Proofs.YtcopcegamadkgaaDoor
open Go.RowKit Go.Shelf

def op0 : Op5 := ⟨0, ByteArray.empty, ByteArray.empty, 0, false⟩
def oAt (os : List Op5) (i : Nat) : Op5 := os.getD i op0
theorem oAt_get {os : List Op5} {i : Nat} (h : i < os.length) : oAt os i = os[i] := by unfold oAt; simp [List.getD, h]
/-- The cells of an operation. -/
def CellsO (w : World) (b off : Nat) (o : Op5) : Prop :=
  w.cell? ⟨b, off, none⟩ = some (.int .i64 o.kind) ∧ w.cell? ⟨b, off + 1, none⟩ = some (.string o.path) ∧ w.cell? ⟨b, off + 2, none⟩ = some (.string o.data) ∧ w.cell? ⟨b, off + 3, none⟩ = some (.int .i64 o.ver) ∧ w.cell? ⟨b, off + 4, none⟩ = some (.bool o.seq)
theorem CellsO.below {w w' : World} {b off B : Nat} {o : Op5} (h : CellsO w b off o) (hb : Below B w w') (hlt : b < B) : CellsO w' b off o :=
  ⟨(hb.cell (p := ⟨b, off, none⟩) hlt).trans h.1, (hb.cell (p := ⟨b, off + 1, none⟩) hlt).trans h.2.1, (hb.cell (p := ⟨b, off + 2, none⟩) hlt).trans h.2.2.1, (hb.cell (p := ⟨b, off + 3, none⟩) hlt).trans h.2.2.2.1, (hb.cell (p := ⟨b, off + 4, none⟩) hlt).trans h.2.2.2.2⟩
/-- A slice of operations. -/
def RdO (w : World) (v : Value) (os : List Op5) : Prop :=
  ∃ ao cap, v = .slice ao os.length cap ∧ os.length ≤ cap ∧ cap ≤ maxLen ∧
    (os = [] ∨ ∃ b off, ao = some ⟨b, off, none⟩ ∧ b < w.heap.size ∧ ∀ i, i < os.length → CellsO w b (off + i * 5) (oAt os i))
theorem RdO.len {w : World} {v : Value} {os : List Op5} (h : RdO w v os) : ∃ ao cap, v = .slice ao os.length cap ∧ os.length ≤ cap ∧ cap ≤ maxLen := by
  obtain ⟨ao, cap, h0, h1, h2, _⟩ := h
  exact ⟨ao, cap, h0, h1, h2⟩
theorem RdO.below {w w' : World} {v : Value} {os : List Op5} (h : RdO w v os) (hb : Below w.heap.size w w') : RdO w' v os := by
  obtain ⟨ao, cap, rfl, h1, h2, h3⟩ := h
  refine ⟨ao, cap, rfl, h1, h2, ?_⟩
  rcases h3 with h3 | ⟨b, off, rfl, hlt, hc⟩
  · exact .inl h3
  · exact .inr ⟨b, off, rfl, Nat.lt_of_lt_of_le hlt hb.size, fun i hi => (hc i hi).below hb hlt⟩

/-- The operations of a request, one behind another: code, index, nodes, names. -/
def runO (z : Int) : List Op5 → List Nd → Nat → List ByteArray → Int × Nat × List Nd × List ByteArray
  | [], ns, i, nm => (0, i, ns, nm)
  | o :: os, ns, i, nm => if (doO ns o z).1 ≠ 0 then ((doO ns o z).1, i, ns, nm) else runO z os (doO ns o z).2.1 (i + 1) (nm ++ [(doO ns o z).2.2])
theorem runO_bad {z : Int} {os : List Op5} {ns : List Nd} {i : Nat} {nm : List ByteArray} {j : Nat} (hj : j < os.length) (h : (doO ns (oAt os j) z).1 ≠ 0) : runO z (os.drop j) ns i nm = ((doO ns (oAt os j) z).1, i, ns, nm) := by
  rw [List.drop_eq_getElem_cons hj, ← oAt_get hj]
  unfold runO
  rw [if_pos h]
theorem runO_good {z : Int} {os : List Op5} {ns : List Nd} {i : Nat} {nm : List ByteArray} {j : Nat} (hj : j < os.length) (h : (doO ns (oAt os j) z).1 = 0) : runO z (os.drop j) ns i nm = runO z (os.drop (j + 1)) (doO ns (oAt os j) z).2.1 (i + 1) (nm ++ [(doO ns (oAt os j) z).2.2]) := by
  rw [List.drop_eq_getElem_cons hj, ← oAt_get hj]
  conv => lhs; unfold runO
  rw [if_neg (by simpa using h)]
def okPrep (ns : List Nd) (os : List Op5) (z : Int) : Bool := okTree ns && (decide (1 ≤ os.length) && (decide (os.length ≤ 64) && (decide (1 ≤ z) && decide (z ≤ 2147483647))))
/-- What Prepare answers to what it can judge. -/
def PrOk (w : World) (ns : List Nd) (z : Int) (res : Int × Nat × List Nd × List ByteArray) (e : Ending) (w' : World) : Prop :=
  Below w.heap.size w w' ∧
    ((res.1 ≠ 0 ∧ e = .returned (.agg #[.int .i64 res.1, .int .i64 (res.2.1 : Int), .slice none 0 0, .int .i64 0, .slice none 0 0])) ∨
     (res.1 = 0 ∧ ∃ vn ve, e = .returned (.agg #[.int .i64 0, .int .i64 0, vn, .int .i64 z, ve]) ∧ w'.ownsRow w.heap.size 9 1 vn res.2.2.2.length (res.2.2.2.map Value.string) ∧ OwnE 157 w' w.heap.size ve (dif ns res.2.2.1)))

/-- The boxes of Prepare: the tree, the request, the answer. -/
def PrB (w : World) (v vo : Value) (W : World) : Prop :=
  Below w.heap.size w W ∧ w.heap.size + 3 ≤ W.heap.size ∧ W.cell? ⟨w.heap.size, 0, none⟩ = some v ∧ W.cell? ⟨w.heap.size + 1, 0, none⟩ = some vo ∧
  (W.cell? ⟨w.heap.size + 2, 0, none⟩ = some (.int .i64 0) ∧ W.cell? ⟨w.heap.size + 2, 1, none⟩ = some (.int .i64 0) ∧ W.cell? ⟨w.heap.size + 2, 2, none⟩ = some (.slice none 0 0) ∧ W.cell? ⟨w.heap.size + 2, 3, none⟩ = some (.int .i64 0) ∧ W.cell? ⟨w.heap.size + 2, 4, none⟩ = some (.slice none 0 0)) ∧ ∀ j, W.frozen? ⟨w.heap.size + 2, j, none⟩ = false
theorem PrB.belowB {w : World} {v vo : Value} {W W' : World} {B : Nat} (h : PrB w v vo W) (hb : Below B W W') (hB : w.heap.size + 3 ≤ B) : PrB w v vo W' := by
  obtain ⟨h1, h2, h3, h4, ⟨c0, c1, c2, c3, c4⟩, h6⟩ := h
  have q : w.heap.size + 2 < B := by omega
  exact ⟨h1.trans (hb.mono (by omega)), Nat.le_trans h2 hb.size, (hb.cell (p := ⟨w.heap.size, 0, none⟩) (by show w.heap.size < _; omega)).trans h3, (hb.cell (p := ⟨w.heap.size + 1, 0, none⟩) (by show w.heap.size + 1 < _; omega)).trans h4,
    ⟨(hb.cell (p := ⟨w.heap.size + 2, 0, none⟩) q).trans c0, (hb.cell (p := ⟨w.heap.size + 2, 1, none⟩) q).trans c1, (hb.cell (p := ⟨w.heap.size + 2, 2, none⟩) q).trans c2, (hb.cell (p := ⟨w.heap.size + 2, 3, none⟩) q).trans c3, (hb.cell (p := ⟨w.heap.size + 2, 4, none⟩) q).trans c4⟩, fun j => (hb.frozen (p := ⟨w.heap.size + 2, j, none⟩) q).trans (h6 j)⟩
theorem PrB.below {w : World} {v vo : Value} {W W' : World} (h : PrB w v vo W) (hb : Below W.heap.size W W') : PrB w v vo W' := h.belowB hb h.2.1
theorem PrB.new (w : World) (v vo : Value) (t1 t2 t3 : TypeId) : PrB w v vo (((w.alloc (.cells #[v] t1)).alloc (.cells #[vo] t2)).alloc (.cells #[.int .i64 0, .int .i64 0, .slice none 0 0, .int .i64 0, .slice none 0 0] t3)) := by
  refine ⟨(((Below.refl _ _).alloc (Nat.le_refl _) _).alloc (by simp) _).alloc (by simp; omega) _, by simp, by go_simp, by go_simp, ?_, fun j => by go_simp⟩
  have e : ((w.alloc (.cells #[v] t1)).alloc (.cells #[vo] t2)).heap.size = w.heap.size + 2 := by simp
  have h1 : (((w.alloc (.cells #[v] t1)).alloc (.cells #[vo] t2)).alloc (.cells #[.int .i64 0, .int .i64 0, .slice none 0 0, .int .i64 0, .slice none 0 0] t3)).heap[w.heap.size + 2]? = some (.cells #[.int .i64 0, .int .i64 0, .slice none 0 0, .int .i64 0, .slice none 0 0] t3) := by
    rw [← e]; exact heap_alloc_new _ _
  exact ⟨(cell_of h1 _).trans rfl, (cell_of h1 _).trans rfl, (cell_of h1 _).trans rfl, (cell_of h1 _).trans rfl, (cell_of h1 _).trans rfl⟩

end Go.Proofs.YtcopcegamadkgaaDoor

namespace Go.Proofs.YtcopcegamadkgaaDoor
open Go.RowKit Go.Shelf

theorem rowP_below {w w' : World} {lo n m : Nat} {e : TypeId} {v : Value} {us : List Value} (h : w.ownsRow lo e m v n us) (hb : Below w.heap.size w w') : w'.ownsRow lo e m v n us := by
  refine ⟨h.1, ?_⟩
  rcases h.2 with hn | ⟨g, cap, cur, rfl, hbg, hgg, rest⟩
  · exact .inl hn
  · exact .inr ⟨g, cap, cur, rfl, hbg, by rw [hb.block g (Array.getElem?_eq_some_iff.1 hgg).1]; exact hgg, rest⟩
/-- Two values that lie in different blocks. -/
def NotAt (u v : Value) : Prop := ∀ b o n c, u = .slice (some ⟨b, o, none⟩) n c → v.ownBlock ≠ some b
theorem RdN.grown {w w' : World} {v u : Value} {ns : List Nd} (h : RdN w v ns) (hg : w.grownBy w' u.ownBlock) (hne : ns = [] ∨ NotAt v u) : RdN w' v ns := by
  obtain ⟨ao, cap, rfl, h1, h2, h3⟩ := h
  refine ⟨ao, cap, rfl, h1, h2, ?_⟩
  rcases h3 with h3 | ⟨b, off, rfl, hlt, hc⟩
  · exact .inl h3
  · rcases hne with hne | hne
    · exact .inl hne
    refine .inr ⟨b, off, rfl, Nat.lt_of_lt_of_le hlt hg.size, fun i hi => ?_⟩
    have hb := hg.block b hlt (fun e => hne b off _ _ rfl e.symm)
    have q : ∀ j, w'.cell? ⟨b, j, none⟩ = w.cell? ⟨b, j, none⟩ := fun j => World.cell?_of_block (a := ⟨b, j, none⟩) hb
    obtain ⟨c0, c1, c2, c3, c4, c5, c6⟩ := hc i hi
    exact ⟨(q _).trans c0, (q _).trans c1, (q _).trans c2, (q _).trans c3, (q _).trans c4, (q _).trans c5, (q _).trans c6⟩
theorem rowP_mono {w : World} {lo lo' n m : Nat} {e : TypeId} {v : Value} {us : List Value} (h : w.ownsRow lo e m v n us) (hl : lo' ≤ lo) : w.ownsRow lo' e m v n us := by
  refine ⟨h.1, ?_⟩
  rcases h.2 with hn | ⟨g, cap, cur, rfl, hbg, rest⟩
  · exact .inl hn
  · exact .inr ⟨g, cap, cur, rfl, by omega, rest⟩

theorem Tryd.infoStr9 : (Tryd.prog.info? 9).map (fun i => (i.zero, i.size, i.bytes)) = some (some (.string ByteArray.empty), 1, 16) := by kernel_rfl

set_option maxHeartbeats 4000000 in
set_option maxRecDepth 100000 in
theorem specPrep_ok (w : World) (v vo : Value) (ns : List Nd) (os : List Op5) (z : Int) (h : RdN w v ns) (ho : RdO w vo os) (hos : ∀ i, i < os.length → (oAt os i).path.size ≤ 1048576 ∧ (oAt os i).data.size ≤ 1048576) (hb : okPrep ns os z = true) :
    Calls Tryd.prog 125 #[.agg #[v], .agg #[vo], .int .i64 z] w fun e w' => PrOk w ns z (runO z os ns 0 []) e w' := by
  obtain ⟨i0, hi, hz0, hz1, hz2⟩ := info_parts Tryd.infoStr9
  unfold okPrep at hb
  simp only [Bool.and_eq_true, decide_eq_true_eq] at hb
  obtain ⟨hok, h1, h2, h3, h4⟩ := hb
  have HSND : Hid (Snd ns) := okTree_snd.1 hok
  have HOK : Hid (okTree ns = true) := hok
  have hn : ns.length ≤ 1000 := HSND.out.2.2
  obtain ⟨ao, ca, rfl, _, _⟩ := h.len
  obtain ⟨bo, cb, rfl, _, _⟩ := ho.len
  have HR : Hid (RdN w (.slice ao ns.length ca) ns) := h
  have HOR : Hid (RdO w (.slice bo os.length cb) os) := ho
  have HOS : Hid (∀ i, i < os.length → (oAt os i).path.size ≤ 1048576 ∧ (oAt os i).data.size ≤ 1048576) := hos
  have HSZ : Hid (∀ i, (nAt ns i).path.size ≤ 1048576 ∧ (nAt ns i).data.size ≤ 1048576) := by
    intro i
    by_cases hi : i < ns.length
    · have := okNd_all (HSND.out.2.1 _ (List.getElem_mem hi))
      rw [nAt_get hi]; omega
    · have : nAt ns i = nd0 := by unfold nAt; simp [List.getD, List.getElem?_eq_none (show ns.length ≤ i by omega)]
      rw [this]; simp [nd0]
  obtain ⟨res, hres⟩ : ∃ res, res = runO z os ns 0 [] := ⟨_, rfl⟩
  have HRES : Hid (runO z (os.drop 0) ns 0 [] = res) := hres.symm
  rw [← hres]
  have X0 : Hid (PrB w (.slice ao ns.length ca) (.slice bo os.length cb) (((w.alloc (.cells #[.slice ao ns.length ca] 36)).alloc (.cells #[.slice bo os.length cb] 185)).alloc (.cells #[.int .i64 0, .int .i64 0, .slice none 0 0, .int .i64 0, .slice none 0 0] 181))) := PrB.new _ _ _ _ _ _
  obtain ⟨bb, bof, rfl, hbb, HC⟩ : ∃ b off, bo = some ⟨b, off, none⟩ ∧ b < w.heap.size ∧ Hid (∀ i, i < os.length → CellsO w b (off + i * 5) (oAt os i)) := by
    obtain ⟨ao', cap', e', -, -, h3⟩ := ho
    simp only [Value.slice.injEq] at e'
    obtain ⟨rfl, -, -⟩ := e'
    rcases h3 with h3 | ⟨b, o, rfl, hb, hc⟩
    · rw [h3] at h1; simp at h1
    · exact ⟨b, o, rfl, hb, hc⟩
  have h1I : ¬ (os.length : Int) < 1 := by omega
  have h1d : decide ((os.length : Int) < 1) = false := by simpa using h1I
  have h2I : ¬ (64 : Int) < (os.length : Int) := by omega
  have h2d : decide ((64 : Int) < (os.length : Int)) = false := by simpa using h2I
  have h3I : ¬ z < 1 := by omega
  have h3d : decide (z < 1) = false := by simpa using h3I
  have h4I : ¬ (2147483647 : Int) < z := by omega
  have h4d : decide ((2147483647 : Int) < z) = false := by simpa using h4I
  have HZ : Hid (okS z = true) := by show _ = _; unfold okS; simp; omega
  clear h ho hos hok hres
  go_enter Tryd.func125, Tryd.ntmps125
  go_wp2_with fail
  generalize ((w.alloc (.cells #[.slice ao ns.length ca] 36)).alloc (.cells #[.slice (some ⟨bb, bof, none⟩) os.length cb] 185)).alloc (.cells #[.int .i64 0, .int .i64 0, .slice none 0 0, .int .i64 0, .slice none 0 0] 181) = w0 at *
  obtain ⟨-, -, a0, -⟩ := X0.out
  go_wp2_with fail
  clear a0
  refine (specTree_any _ _ ns (HR.out.below X0.out.1) (by omega) HSZ.out).mono ?_
  rintro e w1 ⟨rfl, b1⟩
  rw [HOK.out]
  have X1 : Hid (PrB w (.slice ao ns.length ca) (.slice (some ⟨bb, bof, none⟩) os.length cb) w1) := X0.out.below b1
  clear b1 X0 HOK
  have zz : w.heap.size + 3 ≤ w1.heap.size := X1.out.2.1
  obtain ⟨-, -, a0, a1, -⟩ := X1.out
  go_wp2
  clear a0 a1
  have BL : Hid (Below w1.heap.size w1 (w1.alloc (.cells #[] 9))) := (Below.refl _ _).alloc (Nat.le_refl _) _
  have NA0 : Hid (ns = [] ∨ NotAt (.slice ao ns.length ca) (.slice (some ⟨w1.heap.size, 0, none⟩) 0 0)) := by
    obtain ⟨ao', cap', e', -, -, h3⟩ := HR.out
    simp only [Value.slice.injEq] at e'
    obtain ⟨rfl, -, -⟩ := e'
    rcases h3 with h3 | ⟨b', o', h4, hb, -⟩
    · exact .inl h3
    · refine .inr (fun b o n c e => ?_)
      simp only [Value.slice.injEq] at e
      rw [h4] at e
      simp at e
      simp [Value.ownBlock]
      omega
  go_loopw [7, 8, 9] (fun vk vn i wr => ∃ (j : Nat) (uk un : Value) (nk : List Nd) (nm : List ByteArray), j ≤ os.length ∧ uk = vk ∧ un = vn ∧ i = .int .i64 j ∧ Hid (RdN wr uk nk) ∧ Hid (Snd nk) ∧ Hid (nm.length = j) ∧ Hid (wr.ownsRow w1.heap.size 9 1 un j (nm.map Value.string)) ∧ Hid (runO z (os.drop j) nk j nm = res) ∧ Hid (Below w1.heap.size w1 wr) ∧ Hid (nk = [] ∨ NotAt uk un)) (fun _ _ i _ => os.length - (intOf i).toNat)
  case atStart => exact ⟨0, _, _, ns, [], Nat.zero_le _, rfl, rfl, rfl, HR.out.below (X1.out.1.trans (BL.out.mono (by omega))), HSND, (show _ = _ from rfl), World.ownsRow_lit w1 #[] 0 (Nat.le_refl _) (Nat.zero_le _) rfl, HRES, BL, NA0⟩
  case round =>
    clear BL HRES
    obtain ⟨j, uk, un, nk, nm, hj, rfl, rfl, rfl, RK, SK, NL, ON, HRS, BK, NA⟩ := hrel
    clear NA0
    have XK : Hid (PrB w (.slice ao ns.length ca) (.slice (some ⟨bb, bof, none⟩) os.length cb) wr) := X1.out.belowB BK.out zz
    obtain ⟨ka, kc, rfl, _, _⟩ := RK.out.len
    obtain ⟨-, zk, a0, a1, -⟩ := XK.out
    by_cases hlt : j < os.length
    · have hltI : (j : Int) < (os.length : Int) := by omega
      obtain ⟨q0, q1, q2, q3, q4⟩ := (HC.out j hlt).below (XK.out.1) hbb
      obtain ⟨hp, hd⟩ := HOS.out j hlt
      have HGO : Hid ((doO nk (oAt os j) z).1 ≠ 0 → ((doO nk (oAt os j) z).1, j, nk, nm) = res) := fun hne => (runO_bad hlt hne).symm.trans HRS.out
      have HGN : Hid ((doO nk (oAt os j) z).1 = 0 → runO z (os.drop (j + 1)) (doO nk (oAt os j) z).2.1 (j + 1) (nm ++ [(doO nk (oAt os j) z).2.2]) = res) := fun he => (runO_good hlt he).symm.trans HRS.out
      have SN : Hid (Snd (doO nk (oAt os j) z).2.1) := doO_snd SK.out _ HZ.out
      have CD := l3Do_any wr _ nk (oAt os j) z RK.out SK.out.2.2 (fun i hi => by rw [nAt_get hi]; exact SK.out.2.1 _ (List.getElem_mem hi)) hp hd
      unfold DoPost at CD
      have HNA : Hid (∀ (a : Option Addr) (c : Nat) (l : List Nd), Fresh wr (.slice ka nk.length kc) (.slice a l.length c) → l = [] ∨ NotAt (.slice a l.length c) un) := by
        intro a c l hf
        rcases hf with h9 | ⟨n, c, h9⟩ | ⟨g, n, c, h9, hg⟩
        · rw [h9]
          rcases NA.out with h8 | h8
          · left
            simp only [Value.slice.injEq] at h9
            exact List.eq_nil_of_length_eq_zero (by rw [h9.2.1, h8]; rfl)
          · exact .inr h8
        · rw [h9]
          exact .inr (fun b o n c e => by simp at e)
        · rw [h9]
          refine .inr (fun b o n c e => ?_)
          simp at e
          intro e2
          have := (ON.out.lt b e2).2
          omega
      clear RK SK HRS
      generalize oAt os j = oj at *
      go_wp2_with fail
      refine CD.mono ?_
      rintro e w2 ⟨v2, rfl, r2, f2, b2⟩
      clear CD q0 q1 q2 q3 q4 a0 a1
      have X2 : Hid (PrB w (.slice ao ns.length ca) (.slice (some ⟨bb, bof, none⟩) os.length cb) w2) := XK.out.below b2
      have B2 : Hid (Below w1.heap.size w1 w2) := BK.out.trans (b2.mono BK.out.size)
      have O2 : Hid (w2.ownsRow w1.heap.size 9 1 un j (nm.map Value.string)) := rowP_below ON.out b2
      generalize doO nk oj z = dd at *
      obtain ⟨a2, c2, rfl, _, _⟩ := r2.len
      have R2 : Hid (RdN w2 (.slice a2 dd.2.1.length c2) dd.2.1) := r2
      have N2 : Hid (dd.2.1 = [] ∨ NotAt (.slice a2 dd.2.1.length c2) un) := HNA.out _ _ _ f2
      have s2 := b2.size
      clear r2 b2 f2 XK BK HNA
      by_cases hc : dd.1 = 0
      · have HN2 : Hid (runO z (os.drop (j + 1)) dd.2.1 (j + 1) (nm ++ [dd.2.2]) = res) := HGN.out hc
        rw [hc]
        clear HGO HGN ON
        obtain ⟨-, z2, -⟩ := X2.out
        go_wp2_with (at_builtin; go_must (refine wpList_append_lies _ rfl _ _ 179 rfl w1.heap.size 9 i0 (.string ByteArray.empty) 1 16 Tryd.underlying179 hi hz0 hz1 hz2 rfl (by decide) _ _ _ rfl (O2.out.alloc _) ⟨w2.heap.size, 0, none⟩ 1 1 [.string dd.2.2] rfl rfl (cell_one_new _ _ _) (by intro u hu; simp at hu; subst hu; rfl) (by decide) ?c3 ?c4 ?c5 (w2.heap.size + 1) (by simp) ?_))
        case c3 => unfold maxLen; omega
        case c4 => omega
        case c5 => have := B2.out.size; simp; omega
        intro g3 cap3 w3 ho3 hg3 hat _
        have bg : Below w1.heap.size w2 w3 := ((Below.refl _ w2).alloc B2.out.size _).grown hg3 (by have := B2.out.size; simp; omega) (fun q hq => (O2.out.lt q hq).1)
        have hgb : w2.grownBy w3 un.ownBlock := World.grownBy.trans (World.grownBy_alloc w2 _ _) hg3
        have R3 : Hid (RdN w3 (.slice a2 dd.2.1.length c2) dd.2.1) := R2.out.grown hgb N2.out
        have N3 : Hid (dd.2.1 = [] ∨ NotAt (.slice a2 dd.2.1.length c2) (.slice (some ⟨g3, 0, none⟩) (j + 1) cap3)) := by
          by_cases he : dd.2.1 = []
          · exact .inl he
          refine .inr (fun b o n c e => ?_)
          rcases hat with h9 | h9
          · rcases N2.out with h8 | h8
            · exact absurd h8 he
            · have := h8 b o n c e
              rw [h9] at this
              exact this
          · obtain ⟨ao', cap', e', -, -, h3⟩ := R2.out
            simp only [Value.slice.injEq] at e e'
            obtain ⟨rfl, -, -⟩ := e'
            rcases h3 with h3 | ⟨b', o', h4, hb, -⟩
            · exact absurd h3 he
            · rw [h4] at e
              simp at e
              simp [Value.ownBlock]
              omega
        have B3 : Hid (Below w1.heap.size w1 w3) := B2.out.trans bg
        have NL3 : Hid ((nm ++ [dd.2.2]).length = j + 1) := by show _ = _; rw [List.length_append, NL.out]; rfl
        have O3 : Hid (w3.ownsRow w1.heap.size 9 1 (.slice (some ⟨g3, 0, none⟩) (j + 1) cap3) (j + 1) ((nm ++ [dd.2.2]).map Value.string)) := by
          show World.ownsRow _ _ _ _ _ _ _; rw [List.map_append]; exact ho3
        clear ho3 hg3 hat bg hgb R2 N2 O2 B2 X2
        go_wp2
        go_roundw
        case rel => exact ⟨j + 1, _, _, dd.2.1, nm ++ [dd.2.2], by omega, rfl, rfl, by go_num, R3, SN, NL3, O3, HN2, B3, N3⟩
        case measure => simp [intOf]; omega
      · have HN2 : Hid ((dd.1, j, nk, nm) = res) := HGO.out hc
        have hcb : (dd.1 == 0) = false := by simpa using hc
        clear HGO HGN ON O2 N2 R2
        obtain ⟨-, z2, -, -, ⟨d0, d1, d2, d3, d4⟩, df⟩ := X2.out
        have f0 := df 0
        have f1 := df 1
        have f2 := df 2
        have f3 := df 3
        have f4 := df 4
        clear df
        have FB : Hid (∀ W', Below w.heap.size w2 W' → Below w.heap.size w W') := fun W' hW => X2.out.1.trans hW
        generalize dd.1 = d9 at *
        clear X2 B2
        go_wp2
        refine bodyPost_ret (v := .agg #[.int .i64 d9, .int .i64 (j : Int), .slice none 0 0, .int .i64 0, .slice none 0 0]) (by simp [results, Tryd.results125, go_sem, d0, d1, d2, d3, d4]) rfl ?_
        rw [← HN2.out]
        refine ⟨FB.out _ ?_, .inl ⟨hc, rfl⟩⟩
        repeat (first | exact Below.refl _ _ | refine Below.setCell ?_ (by simp; try omega) _)
    · have hjn : j = os.length := by omega
      have HN2 : Hid ((0, j, nk, nm) = res) := by
        have := HRS.out
        rw [List.drop_of_length_le (by omega)] at this
        exact this
      subst hjn
      go_wp2_with fail
      clear a0 a1
      refine (l3Diff_any wr _ _ ns nk (HR.out.below XK.out.1) RK.out hn SK.out.2.2).mono ?_
      rintro e w2 ⟨v2, rfl, o2, b2⟩
      have X2 : Hid (PrB w (.slice ao ns.length ca) (.slice (some ⟨bb, bof, none⟩) os.length cb) w2) := XK.out.below b2
      have O2 : Hid (w2.ownsRow w1.heap.size 9 1 un os.length (nm.map Value.string)) := rowP_below ON.out b2
      obtain ⟨ea, ec, rfl, _, _⟩ := (OwnE.rd o2).len
      have E2 : Hid (OwnE 157 w2 wr.heap.size (.slice ea (dif ns nk).length ec) (dif ns nk)) := o2
      clear o2 b2 XK ON RK SK HRS
      obtain ⟨-, z2, -, -, ⟨d0, d1, d2, d3, d4⟩, df⟩ := X2.out
      have f0 := df 0
      have f1 := df 1
      have f2 := df 2
      have f3 := df 3
      have f4 := df 4
      clear df
      have FB : Hid (∀ W', Below w.heap.size w2 W' → Below w.heap.size w W') := fun W' hW => X2.out.1.trans hW
      have hzr : w1.heap.size ≤ wr.heap.size := BK.out.size
      have hun : ∃ ua uc, un = .slice ua os.length uc := by
        rcases O2.out.2 with ⟨rfl, h0⟩ | ⟨g, cap, cur, rfl, -⟩
        · exact ⟨_, _, by rw [h0]⟩
        · exact ⟨_, _, rfl⟩
      obtain ⟨ua, uc, rfl⟩ := hun
      have HDL : Hid ((dif ns nk).length = (dif ns nk).length) := rfl
      clear X2 BK NA HC HOS
      go_wp2
      refine bodyPost_ret (v := .agg #[.int .i64 0, .int .i64 0, .slice ua os.length uc, .int .i64 z, .slice ea (dif ns nk).length ec]) (by simp [results, Tryd.results125, go_sem, d0, d1, d2, d3, d4]) rfl ?_
      rw [← HN2.out]
      refine ⟨FB.out _ ?_, .inr ⟨rfl, _, _, rfl, ?_, ?_⟩⟩
      · repeat (first | exact Below.refl _ _ | refine Below.setCell ?_ (by simp; try omega) _)
      · refine rowP_mono (lo := w1.heap.size) ?_ (by omega)
        show World.ownsRow _ _ _ _ _ nm.length (nm.map Value.string)
        rw [NL.out]
        iterate 5 refine ownsRow_setCell_below ?_ (by simp; omega) _
        exact O2.out
      · unfold OwnE
        refine rowP_mono (lo := wr.heap.size) ?_ (by omega)
        iterate 5 refine ownsRow_setCell_below ?_ (by simp; omega) _
        exact E2.out

end Go.Proofs.YtcopcegamadkgaaDoor

namespace Go.Proofs.YtcopcegamadkgaaDoor
open Go.RowKit

set_option maxHeartbeats 8000000 in
set_option maxRecDepth 100000 in
theorem specTxn_row (w : World) (z : Int) (b o n cap : Nat) (ns : List Ef) (hz1 : ¬ z < 1) (hz2 : ¬ 2147483647 < z) (hp : ns.length = n) (hn : n ≤ 1000) (hb : b < w.heap.size) (hsz : ∀ i, (eAt ns i).nd.path.size ≤ 1048576 ∧ (eAt ns i).nd.data.size ≤ 1048576)
    (hc : ∀ i, i < n → CellsE w b (o + i * 8) (eAt ns i)) :
    Calls Tryd.prog 108 #[.agg #[.int .i64 z, .slice (some ⟨b, o, none⟩) n cap]] w fun e w' => e = .returned (.bool (okEs ns)) ∧ Below w.heap.size w w' := by
  have HC : Hid (∀ i, i < n → CellsE w b (o + i * 8) (eAt ns i)) := hc
  have HP : Hid (ns.length = n) := hp
  have HZ : Hid (∀ i, (eAt ns i).nd.path.size ≤ 1048576 ∧ (eAt ns i).nd.data.size ≤ 1048576) := hsz
  have h1I : ¬ (1000 : Int) < (n : Int) := by omega
  clear hc hp hsz
  have B0 : Hid (Below w.heap.size w (w.alloc (.cells #[.int .i64 z, .slice (some ⟨b, o, none⟩) n cap] 106))) := (Below.refl _ _).alloc (Nat.le_refl _) _
  have c01 : Hid ((w.alloc (.cells #[.int .i64 z, .slice (some ⟨b, o, none⟩) n cap] 106)).cell? ⟨w.heap.size, 1, none⟩ = some (.slice (some ⟨b, o, none⟩) n cap)) := by show _ = _; simp
  have z0 : w.heap.size < (w.alloc (.cells #[.int .i64 z, .slice (some ⟨b, o, none⟩) n cap] 106)).heap.size := by simp
  go_enter Tryd.func108, Tryd.ntmps108
  go_wp2
  generalize w.alloc (.cells #[.int .i64 z, .slice (some ⟨b, o, none⟩) n cap] 106) = w0 at *
  go_loopw [3] (fun i wr => ∃ k : Nat, k ≤ n ∧ i = .int .i64 k ∧ Hid (∀ t, t < k → okEAt ns t = true) ∧ Hid (Below w0.heap.size w0 wr)) (fun i _ => n - (intOf i).toNat)
  case atStart => exact ⟨0, Nat.zero_le _, rfl, (fun t ht => by omega), Below.refl _ _⟩
  case round =>
    obtain ⟨k, hk, rfl, HA, HG⟩ := hrel
    have HG0 : Hid (Below w.heap.size w wr) := B0.out.trans (HG.out.mono (by omega))
    have cT := (HG.out.cell (p := ⟨w.heap.size, 1, none⟩) z0).trans c01.out
    by_cases hlt : k < n
    · have hltI : (k : Int) < (n : Int) := by omega
      have g0 : (0 : Int) ≤ (k : Int) := by omega
      have HLT : Hid (k < ns.length) := by rw [HP.out]; exact hlt
      obtain ⟨c0, c1, c2, c3, c4, c5, c6, c7⟩ := (HC.out k hlt).below HG0.out hb
      have XN : Hid (BoxE (wr.alloc (.cells #[.bool (eAt ns k).del, .string (eAt ns k).nd.path, .string (eAt ns k).nd.data, .int .i64 (eAt ns k).nd.ver, .int .i64 (eAt ns k).nd.cver, .int .i64 (eAt ns k).nd.cz, .int .i64 (eAt ns k).nd.mz, .int .i64 (eAt ns k).nd.pz] 157)) wr.heap.size (eAt ns k)) := BoxE.new _ _ _
      have BN : Hid (Below wr.heap.size wr (wr.alloc (.cells #[.bool (eAt ns k).del, .string (eAt ns k).nd.path, .string (eAt ns k).nd.data, .int .i64 (eAt ns k).nd.ver, .int .i64 (eAt ns k).nd.cver, .int .i64 (eAt ns k).nd.cz, .int .i64 (eAt ns k).nd.mz, .int .i64 (eAt ns k).nd.pz] 157))) := (Below.refl _ _).alloc (Nat.le_refl _) _
      go_wp2
      clear c0 c1 c2 c3 c4 c5 c6 c7 cT
      generalize wr.alloc (.cells #[.bool (eAt ns k).del, .string (eAt ns k).nd.path, .string (eAt ns k).nd.data, .int .i64 (eAt ns k).nd.ver, .int .i64 (eAt ns k).nd.cver, .int .i64 (eAt ns k).nd.cz, .int .i64 (eAt ns k).nd.mz, .int .i64 (eAt ns k).nd.pz] 157) = wn at *
      have zr := HG.out.size
      obtain ⟨B, hB⟩ : ∃ B, B = wr.heap.size := ⟨_, rfl⟩
      rw [← hB] at XN
      rw [← hB]
      have HBn : Hid (∀ W, Below wn.heap.size wn W → Below w.heap.size w W) := fun W hW => (HG0.out.trans (BN.out.mono HG0.out.size)).trans (hW.mono (Nat.le_trans HG0.out.size BN.out.size))
      have HBz : Hid (∀ W, Below wn.heap.size wn W → Hid (Below w0.heap.size w0 W)) := fun W hW => (HG.out.trans (BN.out.mono HG.out.size)).trans (hW.mono (Nat.le_trans HG.out.size BN.out.size))
      have CT : Hid (∀ W, Below wn.heap.size wn W → W.cell? ⟨w.heap.size, 1, none⟩ = some (.slice (some ⟨b, o, none⟩) n cap)) := fun W hW => ((HBz.out W hW).out.cell (p := ⟨w.heap.size, 1, none⟩) z0).trans c01.out
      have HE : Hid (∀ q, Calls Tryd.prog 96 #[.agg #[.string (eAt ns k).nd.path, .string (eAt ns k).nd.data, .int .i64 (eAt ns k).nd.ver, .int .i64 (eAt ns k).nd.cver, .int .i64 (eAt ns k).nd.cz, .int .i64 (eAt ns k).nd.mz, .int .i64 (eAt ns k).nd.pz]] (wn.drewN q) fun e w' => e = .returned (.bool (okNd (eAt ns k).nd)) ∧ Hid (Below wn.heap.size wn w')) := by
        intro q
        refine (specNode_any _ (eAt ns k).nd (HZ.out k).1 (HZ.out k).2).mono ?_
        rintro e w' ⟨rfl, b'⟩
        exact ⟨rfl, (below_drewN' wn q).trans b'⟩
      have HD : Hid (Below wn.heap.size wn wn.drew) := below_drewN' wn 1
      have HHB : Hid (B = wr.heap.size) := hB
      clear hB BN
      cases hok : okNd (eAt ns k).nd with
      | false =>
        have HOK : Hid (okNd (eAt ns k).nd = false) := hok
        have HN : Hid (okEs ns = false) := es_no HLT.out (by unfold okEAt; rw [okEf_nd hok]; rfl)
        clear hok
        refine wp_region_held_drew (S := fun W => Hid (Below wn.heap.size wn W) ∧ (W.cell? ⟨B, 0, none⟩ = some (.bool (eAt ns k).del) ∧ W.cell? ⟨B, 1, none⟩ = some (.string (eAt ns k).nd.path) ∧ W.cell? ⟨B, 2, none⟩ = some (.string (eAt ns k).nd.data) ∧ W.cell? ⟨B, 3, none⟩ = some (.int .i64 (eAt ns k).nd.ver) ∧ W.cell? ⟨B, 4, none⟩ = some (.int .i64 (eAt ns k).nd.cver) ∧ W.cell? ⟨B, 5, none⟩ = some (.int .i64 (eAt ns k).nd.cz) ∧ W.cell? ⟨B, 6, none⟩ = some (.int .i64 (eAt ns k).nd.mz) ∧ W.cell? ⟨B, 7, none⟩ = some (.int .i64 (eAt ns k).nd.pz))) (by kernel_rfl) (⟨HD, (XN.out.below HD.out).all⟩) (fun hHeld => ?_)
        refine wpAnyH_take (i := 0) (oi := { dst := some 31, op := _, type := _, pos := _, after := _, guard := _ }) (v := ?v53) rfl (by kernel_rfl) (by kernel_rfl) (by kernel_rfl) (fun _ _ _ h => h) (Or.inl ⟨by rfl, ?hy53⟩) (by assumption) ?rest53
        case hy53 =>
          intro w9 hS9
          obtain ⟨-, hS9⟩ := hS9
          go_simp
          try with_reducible rfl
        try simp only [Act.put, List.setIfInBounds_toArray, List.set_cons_zero, List.set_cons_succ]
        refine wpAnyH_take (i := 1) (oi := { dst := some 32, op := _, type := _, pos := _, after := _, guard := _ }) (v := ?v54) rfl (by kernel_rfl) (by kernel_rfl) (by kernel_rfl) (fun _ _ _ h => h) (Or.inl ⟨by rfl, ?hy54⟩) (by assumption) ?rest54
        case hy54 =>
          intro w9 hS9
          obtain ⟨-, hS9⟩ := hS9
          go_simp
          try with_reducible rfl
        try simp only [Act.put, List.setIfInBounds_toArray, List.set_cons_zero, List.set_cons_succ]
        refine wpAnyH_ready (rs := [2]) (by kernel_rfl) (by simp) ?_
        refine AllReadyH.cons (o := { dst := some 33, op := _, type := _, pos := _, after := _, guard := _ }) rfl (fun K hK => ?_) AllReadyH.nil
        go_simp
        refine (HE.out 1).mono ?_
        rintro e w' ⟨rfl, HB⟩
        rw [HOK.out]
        refine hK.out _ _ ((show (fun W => Hid (Below wn.heap.size wn W) ∧ (W.cell? ⟨B, 0, none⟩ = some (.bool (eAt ns k).del) ∧ W.cell? ⟨B, 1, none⟩ = some (.string (eAt ns k).nd.path) ∧ W.cell? ⟨B, 2, none⟩ = some (.string (eAt ns k).nd.data) ∧ W.cell? ⟨B, 3, none⟩ = some (.int .i64 (eAt ns k).nd.ver) ∧ W.cell? ⟨B, 4, none⟩ = some (.int .i64 (eAt ns k).nd.cver) ∧ W.cell? ⟨B, 5, none⟩ = some (.int .i64 (eAt ns k).nd.cz) ∧ W.cell? ⟨B, 6, none⟩ = some (.int .i64 (eAt ns k).nd.mz) ∧ W.cell? ⟨B, 7, none⟩ = some (.int .i64 (eAt ns k).nd.pz))) w' from ⟨HB, (XN.out.below HB.out).all⟩)) (fun hx9 => ?_)
        clear hK K hHeld hx9
        have hHeld := (show (fun W => Hid (Below wn.heap.size wn W) ∧ (W.cell? ⟨B, 0, none⟩ = some (.bool (eAt ns k).del) ∧ W.cell? ⟨B, 1, none⟩ = some (.string (eAt ns k).nd.path) ∧ W.cell? ⟨B, 2, none⟩ = some (.string (eAt ns k).nd.data) ∧ W.cell? ⟨B, 3, none⟩ = some (.int .i64 (eAt ns k).nd.ver) ∧ W.cell? ⟨B, 4, none⟩ = some (.int .i64 (eAt ns k).nd.cver) ∧ W.cell? ⟨B, 5, none⟩ = some (.int .i64 (eAt ns k).nd.cz) ∧ W.cell? ⟨B, 6, none⟩ = some (.int .i64 (eAt ns k).nd.mz) ∧ W.cell? ⟨B, 7, none⟩ = some (.int .i64 (eAt ns k).nd.pz))) w' from ⟨HB, (XN.out.below HB.out).all⟩)
        try simp only [Act.put, List.setIfInBounds_toArray, List.set_cons_zero, List.set_cons_succ]
        refine wpAnyH_take (i := 3) (oi := { dst := some 34, op := _, type := _, pos := _, after := _, guard := _ }) (v := ?v55) rfl (by kernel_rfl) (by kernel_rfl) (by kernel_rfl) (fun _ _ _ h => h) (Or.inl ⟨by rfl, ?hy55⟩) (by assumption) ?rest55
        case hy55 =>
          intro w9 hS9
          obtain ⟨-, hS9⟩ := hS9
          go_simp
          try with_reducible rfl
        try simp only [Act.put, List.setIfInBounds_toArray, List.set_cons_zero, List.set_cons_succ]
        refine wpAnyH_take (i := 4) (oi := { dst := some 35, op := _, type := _, pos := _, after := _, guard := _ }) (v := ?v56) rfl (by kernel_rfl) (by kernel_rfl) (by kernel_rfl) (fun _ _ _ h => h) (Or.inl ⟨by rfl, ?hy56⟩) (by assumption) ?rest56
        case hy56 =>
          intro w9 hS9
          obtain ⟨-, hS9⟩ := hS9
          go_simp
          try with_reducible rfl
        try simp only [Act.put, List.setIfInBounds_toArray, List.set_cons_zero, List.set_cons_succ]
        refine wpAnyH_take (i := 5) (oi := { dst := some 36, op := _, type := _, pos := _, after := _, guard := _ }) (v := undef) rfl (by kernel_rfl) (by kernel_rfl) (by kernel_rfl) (fun _ _ _ h => h) (Or.inr ⟨by rfl, rfl⟩) (by assumption) ?_
        try simp only [Act.put, List.setIfInBounds_toArray, List.set_cons_zero, List.set_cons_succ]
        refine wpAnyH_take (i := 6) (oi := { dst := some 37, op := _, type := _, pos := _, after := _, guard := _ }) (v := undef) rfl (by kernel_rfl) (by kernel_rfl) (by kernel_rfl) (fun _ _ _ h => h) (Or.inr ⟨by rfl, rfl⟩) (by assumption) ?_
        try simp only [Act.put, List.setIfInBounds_toArray, List.set_cons_zero, List.set_cons_succ]
        refine wpAnyH_take (i := 7) (oi := { dst := some 38, op := _, type := _, pos := _, after := _, guard := _ }) (v := undef) rfl (by kernel_rfl) (by kernel_rfl) (by kernel_rfl) (fun _ _ _ h => h) (Or.inr ⟨by rfl, rfl⟩) (by assumption) ?_
        try simp only [Act.put, List.setIfInBounds_toArray, List.set_cons_zero, List.set_cons_succ]
        refine wpAnyH_take (i := 8) (oi := { dst := some 39, op := _, type := _, pos := _, after := _, guard := _ }) (v := undef) rfl (by kernel_rfl) (by kernel_rfl) (by kernel_rfl) (fun _ _ _ h => h) (Or.inr ⟨by rfl, rfl⟩) (by assumption) ?_
        try simp only [Act.put, List.setIfInBounds_toArray, List.set_cons_zero, List.set_cons_succ]
        refine wpAnyH_take (i := 9) (oi := { dst := some 40, op := _, type := _, pos := _, after := _, guard := _ }) (v := undef) rfl (by kernel_rfl) (by kernel_rfl) (by kernel_rfl) (fun _ _ _ h => h) (Or.inr ⟨by rfl, rfl⟩) (by assumption) ?_
        try simp only [Act.put, List.setIfInBounds_toArray, List.set_cons_zero, List.set_cons_succ]
        refine wpAnyH_take (i := 10) (oi := { dst := some 41, op := _, type := _, pos := _, after := _, guard := _ }) (v := undef) rfl (by kernel_rfl) (by kernel_rfl) (by kernel_rfl) (fun _ _ _ h => h) (Or.inr ⟨by rfl, rfl⟩) (by assumption) ?_
        try simp only [Act.put, List.setIfInBounds_toArray, List.set_cons_zero, List.set_cons_succ]
        refine wpAnyH_take (i := 11) (oi := { dst := some 42, op := _, type := _, pos := _, after := _, guard := _ }) (v := undef) rfl (by kernel_rfl) (by kernel_rfl) (by kernel_rfl) (fun _ _ _ h => h) (Or.inr ⟨by rfl, rfl⟩) (by assumption) ?_
        try simp only [Act.put, List.setIfInBounds_toArray, List.set_cons_zero, List.set_cons_succ]
        refine wpAnyH_take (i := 12) (oi := { dst := some 43, op := _, type := _, pos := _, after := _, guard := _ }) (v := undef) rfl (by kernel_rfl) (by kernel_rfl) (by kernel_rfl) (fun _ _ _ h => h) (Or.inr ⟨by rfl, rfl⟩) (by assumption) ?_
        try simp only [Act.put, List.setIfInBounds_toArray, List.set_cons_zero, List.set_cons_succ]
        refine wpAnyH_take (i := 13) (oi := { dst := some 44, op := _, type := _, pos := _, after := _, guard := _ }) (v := undef) rfl (by kernel_rfl) (by kernel_rfl) (by kernel_rfl) (fun _ _ _ h => h) (Or.inr ⟨by rfl, rfl⟩) (by assumption) ?_
        try simp only [Act.put, List.setIfInBounds_toArray, List.set_cons_zero, List.set_cons_succ]
        refine wpAnyH_take (i := 14) (oi := { dst := some 45, op := _, type := _, pos := _, after := _, guard := _ }) (v := undef) rfl (by kernel_rfl) (by kernel_rfl) (by kernel_rfl) (fun _ _ _ h => h) (Or.inr ⟨by rfl, rfl⟩) (by assumption) ?_
        try simp only [Act.put, List.setIfInBounds_toArray, List.set_cons_zero, List.set_cons_succ]
        refine wpAnyH_take (i := 15) (oi := { dst := some 46, op := _, type := _, pos := _, after := _, guard := _ }) (v := undef) rfl (by kernel_rfl) (by kernel_rfl) (by kernel_rfl) (fun _ _ _ h => h) (Or.inr ⟨by rfl, rfl⟩) (by assumption) ?_
        try simp only [Act.put, List.setIfInBounds_toArray, List.set_cons_zero, List.set_cons_succ]
        refine wpAnyH_take (i := 16) (oi := { dst := some 47, op := _, type := _, pos := _, after := _, guard := _ }) (v := undef) rfl (by kernel_rfl) (by kernel_rfl) (by kernel_rfl) (fun _ _ _ h => h) (Or.inr ⟨by rfl, rfl⟩) (by assumption) ?_
        try simp only [Act.put, List.setIfInBounds_toArray, List.set_cons_zero, List.set_cons_succ]
        refine wpAnyH_take (i := 17) (oi := { dst := some 48, op := _, type := _, pos := _, after := _, guard := _ }) (v := undef) rfl (by kernel_rfl) (by kernel_rfl) (by kernel_rfl) (fun _ _ _ h => h) (Or.inr ⟨by rfl, rfl⟩) (by assumption) ?_
        try simp only [Act.put, List.setIfInBounds_toArray, List.set_cons_zero, List.set_cons_succ]
        refine wpAnyH_take (i := 18) (oi := { dst := some 49, op := _, type := _, pos := _, after := _, guard := _ }) (v := undef) rfl (by kernel_rfl) (by kernel_rfl) (by kernel_rfl) (fun _ _ _ h => h) (Or.inr ⟨by rfl, rfl⟩) (by assumption) ?_
        try simp only [Act.put, List.setIfInBounds_toArray, List.set_cons_zero, List.set_cons_succ]
        refine wpAnyH_take (i := 19) (oi := { dst := some 50, op := _, type := _, pos := _, after := _, guard := _ }) (v := undef) rfl (by kernel_rfl) (by kernel_rfl) (by kernel_rfl) (fun _ _ _ h => h) (Or.inr ⟨by rfl, rfl⟩) (by assumption) ?_
        try simp only [Act.put, List.setIfInBounds_toArray, List.set_cons_zero, List.set_cons_succ]
        refine wpAnyH_take (i := 20) (oi := { dst := some 51, op := _, type := _, pos := _, after := _, guard := _ }) (v := undef) rfl (by kernel_rfl) (by kernel_rfl) (by kernel_rfl) (fun _ _ _ h => h) (Or.inr ⟨by rfl, rfl⟩) (by assumption) ?_
        try simp only [Act.put, List.setIfInBounds_toArray, List.set_cons_zero, List.set_cons_succ]
        refine wpAnyH_take (i := 21) (oi := { dst := some 52, op := _, type := _, pos := _, after := _, guard := _ }) (v := ?v57) rfl (by kernel_rfl) (by kernel_rfl) (by kernel_rfl) (fun _ _ _ h => h) (Or.inl ⟨by rfl, ?hy57⟩) (by assumption) ?rest57
        case hy57 =>
          intro w9 hS9
          obtain ⟨-, hS9⟩ := hS9
          go_simp
          try with_reducible rfl
        try simp only [Act.put, List.setIfInBounds_toArray, List.set_cons_zero, List.set_cons_succ]
        refine wpAnyH_done (by kernel_rfl) ?_ _
        clear hHeld
        go_wp2
        go_ret
        exact ⟨ret_b HN.out.symm, HBn.out _ HB.out⟩
      | true =>
        have HOK : Hid (okNd (eAt ns k).nd = true) := hok
        clear hok
        cases k with
        | zero =>
          have g2 : (0 : Int) < (n : Int) := by omega
          refine wp_region_held_drew (S := fun W => Hid (Below wn.heap.size wn W) ∧ (W.cell? ⟨B, 0, none⟩ = some (.bool (eAt ns 0).del) ∧ W.cell? ⟨B, 1, none⟩ = some (.string (eAt ns 0).nd.path) ∧ W.cell? ⟨B, 2, none⟩ = some (.string (eAt ns 0).nd.data) ∧ W.cell? ⟨B, 3, none⟩ = some (.int .i64 (eAt ns 0).nd.ver) ∧ W.cell? ⟨B, 4, none⟩ = some (.int .i64 (eAt ns 0).nd.cver) ∧ W.cell? ⟨B, 5, none⟩ = some (.int .i64 (eAt ns 0).nd.cz) ∧ W.cell? ⟨B, 6, none⟩ = some (.int .i64 (eAt ns 0).nd.mz) ∧ W.cell? ⟨B, 7, none⟩ = some (.int .i64 (eAt ns 0).nd.pz))) (by kernel_rfl) (⟨HD, (XN.out.below HD.out).all⟩) (fun hHeld => ?_)
          refine wpAnyH_take (i := 0) (oi := { dst := some 31, op := _, type := _, pos := _, after := _, guard := _ }) (v := ?v58) rfl (by kernel_rfl) (by kernel_rfl) (by kernel_rfl) (fun _ _ _ h => h) (Or.inl ⟨by rfl, ?hy58⟩) (by assumption) ?rest58
          case hy58 =>
            intro w9 hS9
            obtain ⟨-, hS9⟩ := hS9
            go_simp
            try with_reducible rfl
          try simp only [Act.put, List.setIfInBounds_toArray, List.set_cons_zero, List.set_cons_succ]
          refine wpAnyH_take (i := 1) (oi := { dst := some 32, op := _, type := _, pos := _, after := _, guard := _ }) (v := ?v59) rfl (by kernel_rfl) (by kernel_rfl) (by kernel_rfl) (fun _ _ _ h => h) (Or.inl ⟨by rfl, ?hy59⟩) (by assumption) ?rest59
          case hy59 =>
            intro w9 hS9
            obtain ⟨-, hS9⟩ := hS9
            go_simp
            try with_reducible rfl
          try simp only [Act.put, List.setIfInBounds_toArray, List.set_cons_zero, List.set_cons_succ]
          refine wpAnyH_ready (rs := [2]) (by kernel_rfl) (by simp) ?_
          refine AllReadyH.cons (o := { dst := some 33, op := _, type := _, pos := _, after := _, guard := _ }) rfl (fun K hK => ?_) AllReadyH.nil
          go_simp
          refine (HE.out 1).mono ?_
          rintro e w' ⟨rfl, HB⟩
          rw [HOK.out]
          refine hK.out _ _ ((show (fun W => Hid (Below wn.heap.size wn W) ∧ (W.cell? ⟨B, 0, none⟩ = some (.bool (eAt ns 0).del) ∧ W.cell? ⟨B, 1, none⟩ = some (.string (eAt ns 0).nd.path) ∧ W.cell? ⟨B, 2, none⟩ = some (.string (eAt ns 0).nd.data) ∧ W.cell? ⟨B, 3, none⟩ = some (.int .i64 (eAt ns 0).nd.ver) ∧ W.cell? ⟨B, 4, none⟩ = some (.int .i64 (eAt ns 0).nd.cver) ∧ W.cell? ⟨B, 5, none⟩ = some (.int .i64 (eAt ns 0).nd.cz) ∧ W.cell? ⟨B, 6, none⟩ = some (.int .i64 (eAt ns 0).nd.mz) ∧ W.cell? ⟨B, 7, none⟩ = some (.int .i64 (eAt ns 0).nd.pz))) w' from ⟨HB, (XN.out.below HB.out).all⟩)) (fun hx9 => ?_)
          clear hK K hHeld hx9
          have hHeld := (show (fun W => Hid (Below wn.heap.size wn W) ∧ (W.cell? ⟨B, 0, none⟩ = some (.bool (eAt ns 0).del) ∧ W.cell? ⟨B, 1, none⟩ = some (.string (eAt ns 0).nd.path) ∧ W.cell? ⟨B, 2, none⟩ = some (.string (eAt ns 0).nd.data) ∧ W.cell? ⟨B, 3, none⟩ = some (.int .i64 (eAt ns 0).nd.ver) ∧ W.cell? ⟨B, 4, none⟩ = some (.int .i64 (eAt ns 0).nd.cver) ∧ W.cell? ⟨B, 5, none⟩ = some (.int .i64 (eAt ns 0).nd.cz) ∧ W.cell? ⟨B, 6, none⟩ = some (.int .i64 (eAt ns 0).nd.mz) ∧ W.cell? ⟨B, 7, none⟩ = some (.int .i64 (eAt ns 0).nd.pz))) w' from ⟨HB, (XN.out.below HB.out).all⟩)
          try simp only [Act.put, List.setIfInBounds_toArray, List.set_cons_zero, List.set_cons_succ]
          refine wpAnyH_take (i := 3) (oi := { dst := some 34, op := _, type := _, pos := _, after := _, guard := _ }) (v := ?v60) rfl (by kernel_rfl) (by kernel_rfl) (by kernel_rfl) (fun _ _ _ h => h) (Or.inl ⟨by rfl, ?hy60⟩) (by assumption) ?rest60
          case hy60 =>
            intro w9 hS9
            obtain ⟨-, hS9⟩ := hS9
            go_simp
            try with_reducible rfl
          try simp only [Act.put, List.setIfInBounds_toArray, List.set_cons_zero, List.set_cons_succ]
          refine wpAnyH_take (i := 4) (oi := { dst := some 35, op := _, type := _, pos := _, after := _, guard := _ }) (v := ?v61) rfl (by kernel_rfl) (by kernel_rfl) (by kernel_rfl) (fun _ _ _ h => h) (Or.inl ⟨by rfl, ?hy61⟩) (by assumption) ?rest61
          case hy61 =>
            intro w9 hS9
            obtain ⟨-, hS9⟩ := hS9
            go_simp
            try with_reducible rfl
          try simp only [Act.put, List.setIfInBounds_toArray, List.set_cons_zero, List.set_cons_succ]
          refine wpAnyH_take (i := 5) (oi := { dst := some 36, op := _, type := _, pos := _, after := _, guard := _ }) (v := ?v62) rfl (by kernel_rfl) (by kernel_rfl) (by kernel_rfl) (fun _ _ _ h => h) (Or.inl ⟨by rfl, ?hy62⟩) (by assumption) ?rest62
          case hy62 =>
            intro w9 hS9
            obtain ⟨-, hS9⟩ := hS9
            go_simp
            try with_reducible rfl
          try simp only [Act.put, List.setIfInBounds_toArray, List.set_cons_zero, List.set_cons_succ]
          refine wpAnyH_take (i := 6) (oi := { dst := some 37, op := _, type := _, pos := _, after := _, guard := _ }) (v := ?v63) rfl (by kernel_rfl) (by kernel_rfl) (by kernel_rfl) (fun _ _ _ h => h) (Or.inl ⟨by rfl, ?hy63⟩) (by assumption) ?rest63
          case hy63 =>
            intro w9 hS9
            obtain ⟨-, hS9⟩ := hS9
            go_simp
            try with_reducible rfl
          try simp only [Act.put, List.setIfInBounds_toArray, List.set_cons_zero, List.set_cons_succ]
          refine wpAnyH_take (i := 7) (oi := { dst := some 38, op := _, type := _, pos := _, after := _, guard := _ }) (v := ?v64) rfl (by kernel_rfl) (by kernel_rfl) (by kernel_rfl) (fun _ _ _ h => h) (Or.inl ⟨by rfl, ?hy64⟩) (by assumption) ?rest64
          case hy64 =>
            intro w9 hS9
            obtain ⟨-, hS9⟩ := hS9
            go_simp
            try with_reducible rfl
          try simp only [Act.put, List.setIfInBounds_toArray, List.set_cons_zero, List.set_cons_succ]
          refine wpAnyH_take (i := 8) (oi := { dst := some 39, op := _, type := _, pos := _, after := _, guard := _ }) (v := undef) rfl (by kernel_rfl) (by kernel_rfl) (by kernel_rfl) (fun _ _ _ h => h) (Or.inr ⟨by rfl, rfl⟩) (by assumption) ?_
          try simp only [Act.put, List.setIfInBounds_toArray, List.set_cons_zero, List.set_cons_succ]
          refine wpAnyH_take (i := 9) (oi := { dst := some 40, op := _, type := _, pos := _, after := _, guard := _ }) (v := undef) rfl (by kernel_rfl) (by kernel_rfl) (by kernel_rfl) (fun _ _ _ h => h) (Or.inr ⟨by rfl, rfl⟩) (by assumption) ?_
          try simp only [Act.put, List.setIfInBounds_toArray, List.set_cons_zero, List.set_cons_succ]
          refine wpAnyH_take (i := 10) (oi := { dst := some 41, op := _, type := _, pos := _, after := _, guard := _ }) (v := undef) rfl (by kernel_rfl) (by kernel_rfl) (by kernel_rfl) (fun _ _ _ h => h) (Or.inr ⟨by rfl, rfl⟩) (by assumption) ?_
          try simp only [Act.put, List.setIfInBounds_toArray, List.set_cons_zero, List.set_cons_succ]
          refine wpAnyH_take (i := 11) (oi := { dst := some 42, op := _, type := _, pos := _, after := _, guard := _ }) (v := undef) rfl (by kernel_rfl) (by kernel_rfl) (by kernel_rfl) (fun _ _ _ h => h) (Or.inr ⟨by rfl, rfl⟩) (by assumption) ?_
          try simp only [Act.put, List.setIfInBounds_toArray, List.set_cons_zero, List.set_cons_succ]
          refine wpAnyH_take (i := 12) (oi := { dst := some 43, op := _, type := _, pos := _, after := _, guard := _ }) (v := undef) rfl (by kernel_rfl) (by kernel_rfl) (by kernel_rfl) (fun _ _ _ h => h) (Or.inr ⟨by rfl, rfl⟩) (by assumption) ?_
          try simp only [Act.put, List.setIfInBounds_toArray, List.set_cons_zero, List.set_cons_succ]
          refine wpAnyH_take (i := 13) (oi := { dst := some 44, op := _, type := _, pos := _, after := _, guard := _ }) (v := undef) rfl (by kernel_rfl) (by kernel_rfl) (by kernel_rfl) (fun _ _ _ h => h) (Or.inr ⟨by rfl, rfl⟩) (by assumption) ?_
          try simp only [Act.put, List.setIfInBounds_toArray, List.set_cons_zero, List.set_cons_succ]
          refine wpAnyH_take (i := 14) (oi := { dst := some 45, op := _, type := _, pos := _, after := _, guard := _ }) (v := undef) rfl (by kernel_rfl) (by kernel_rfl) (by kernel_rfl) (fun _ _ _ h => h) (Or.inr ⟨by rfl, rfl⟩) (by assumption) ?_
          try simp only [Act.put, List.setIfInBounds_toArray, List.set_cons_zero, List.set_cons_succ]
          refine wpAnyH_take (i := 15) (oi := { dst := some 46, op := _, type := _, pos := _, after := _, guard := _ }) (v := undef) rfl (by kernel_rfl) (by kernel_rfl) (by kernel_rfl) (fun _ _ _ h => h) (Or.inr ⟨by rfl, rfl⟩) (by assumption) ?_
          try simp only [Act.put, List.setIfInBounds_toArray, List.set_cons_zero, List.set_cons_succ]
          refine wpAnyH_take (i := 16) (oi := { dst := some 47, op := _, type := _, pos := _, after := _, guard := _ }) (v := undef) rfl (by kernel_rfl) (by kernel_rfl) (by kernel_rfl) (fun _ _ _ h => h) (Or.inr ⟨by rfl, rfl⟩) (by assumption) ?_
          try simp only [Act.put, List.setIfInBounds_toArray, List.set_cons_zero, List.set_cons_succ]
          refine wpAnyH_take (i := 17) (oi := { dst := some 48, op := _, type := _, pos := _, after := _, guard := _ }) (v := undef) rfl (by kernel_rfl) (by kernel_rfl) (by kernel_rfl) (fun _ _ _ h => h) (Or.inr ⟨by rfl, rfl⟩) (by assumption) ?_
          try simp only [Act.put, List.setIfInBounds_toArray, List.set_cons_zero, List.set_cons_succ]
          refine wpAnyH_take (i := 18) (oi := { dst := some 49, op := _, type := _, pos := _, after := _, guard := _ }) (v := undef) rfl (by kernel_rfl) (by kernel_rfl) (by kernel_rfl) (fun _ _ _ h => h) (Or.inr ⟨by rfl, rfl⟩) (by assumption) ?_
          try simp only [Act.put, List.setIfInBounds_toArray, List.set_cons_zero, List.set_cons_succ]
          refine wpAnyH_take (i := 19) (oi := { dst := some 50, op := _, type := _, pos := _, after := _, guard := _ }) (v := undef) rfl (by kernel_rfl) (by kernel_rfl) (by kernel_rfl) (fun _ _ _ h => h) (Or.inr ⟨by rfl, rfl⟩) (by assumption) ?_
          try simp only [Act.put, List.setIfInBounds_toArray, List.set_cons_zero, List.set_cons_succ]
          refine wpAnyH_take (i := 20) (oi := { dst := some 51, op := _, type := _, pos := _, after := _, guard := _ }) (v := ?v65) rfl (by kernel_rfl) (by kernel_rfl) (by kernel_rfl) (fun _ _ _ h => h) (Or.inl ⟨by rfl, ?hy65⟩) (by assumption) ?rest65
          case hy65 =>
            intro w9 hS9
            obtain ⟨-, hS9⟩ := hS9
            go_simp
            try with_reducible rfl
          try simp only [Act.put, List.setIfInBounds_toArray, List.set_cons_zero, List.set_cons_succ]
          refine wpAnyH_take (i := 21) (oi := { dst := some 52, op := _, type := _, pos := _, after := _, guard := _ }) (v := ?v66) rfl (by kernel_rfl) (by kernel_rfl) (by kernel_rfl) (fun _ _ _ h => h) (Or.inl ⟨by rfl, ?hy66⟩) (by assumption) ?rest66
          case hy66 =>
            intro w9 hS9
            obtain ⟨-, hS9⟩ := hS9
            go_simp
            try with_reducible rfl
          try simp only [Act.put, List.setIfInBounds_toArray, List.set_cons_zero, List.set_cons_succ]
          refine wpAnyH_done (by kernel_rfl) ?_ _
          clear hHeld
          obtain ⟨-, b0, b1, b2, b3, b4, b5, b6, b7⟩ := XN.out.below HB.out
          cases hdel : (eAt ns 0).del with
          | false =>
            have HT : Hid (okEAt ns 0 = true) := by show _ = _; rw [okEAt_zero, okEf_false hdel, HOK.out]
            rw [hdel] at b0
            clear hdel
            go_wp2
            go_roundw
            case rel => exact ⟨0 + 1, by omega, by go_num, (fun t ht => by by_cases e : t = 0; (subst e; exact HT.out); exact HA.out t (by omega)), HBz.out _ HB.out⟩
            case measure => simp [intOf]; omega
          | true =>
            have HEF : Hid (okEf (eAt ns 0) = (okNd (eAt ns 0).nd && blank (eAt ns 0).nd)) := okEf_true hdel
            rw [hdel] at b0
            clear hdel
            have hpp : ((eAt ns 0).nd.path.toList == (eAt ns 0).nd.path.toList) = true := by simp
            cases h_dat : ((eAt ns 0).nd.data.toList == []) with
            | false =>
              have HN : Hid (okEs ns = false) := es_no HLT.out (by rw [okEAt_zero, HEF.out]; unfold blank; rw [h_dat]; simp)
              go_wp2
              go_ret
              exact ⟨ret_b HN.out.symm, HBn.out _ HB.out⟩
            | true =>
              cases h_ver : ((eAt ns 0).nd.ver == 0) with
              | false =>
                have HN : Hid (okEs ns = false) := es_no HLT.out (by rw [okEAt_zero, HEF.out]; unfold blank; rw [h_ver]; simp)
                go_wp2
                go_ret
                exact ⟨ret_b HN.out.symm, HBn.out _ HB.out⟩
              | true =>
                cases h_cver : ((eAt ns 0).nd.cver == 0) with
                | false =>
                  have HN : Hid (okEs ns = false) := es_no HLT.out (by rw [okEAt_zero, HEF.out]; unfold blank; rw [h_cver]; simp)
                  go_wp2
                  go_ret
                  exact ⟨ret_b HN.out.symm, HBn.out _ HB.out⟩
                | true =>
                  cases h_cz : ((eAt ns 0).nd.cz == 0) with
                  | false =>
                    have HN : Hid (okEs ns = false) := es_no HLT.out (by rw [okEAt_zero, HEF.out]; unfold blank; rw [h_cz]; simp)
                    go_wp2
                    go_ret
                    exact ⟨ret_b HN.out.symm, HBn.out _ HB.out⟩
                  | true =>
                    cases h_mz : ((eAt ns 0).nd.mz == 0) with
                    | false =>
                      have HN : Hid (okEs ns = false) := es_no HLT.out (by rw [okEAt_zero, HEF.out]; unfold blank; rw [h_mz]; simp)
                      go_wp2
                      go_ret
                      exact ⟨ret_b HN.out.symm, HBn.out _ HB.out⟩
                    | true =>
                      cases h_pz : ((eAt ns 0).nd.pz == 0) with
                      | false =>
                        have HN : Hid (okEs ns = false) := es_no HLT.out (by rw [okEAt_zero, HEF.out]; unfold blank; rw [h_pz]; simp)
                        go_wp2
                        go_ret
                        exact ⟨ret_b HN.out.symm, HBn.out _ HB.out⟩
                      | true =>
                        have HT : Hid (okEAt ns 0 = true) := by show _ = _; rw [okEAt_zero, HEF.out, HOK.out]; unfold blank; rw [h_dat, h_ver, h_cver, h_cz, h_mz, h_pz]; rfl
                        go_wp2
                        go_roundw
                        case rel => exact ⟨0 + 1, by omega, by go_num, (fun t ht => by by_cases e : t = 0; (subst e; exact HT.out); exact HA.out t (by omega)), HBz.out _ HB.out⟩
                        case measure => simp [intOf]; omega
        | succ j =>
          have g1 : (0 : Int) ≤ (j : Int) + 1 := by omega
          have g2 : (j : Int) + 1 < (n : Int) := by omega
          have g3 : (0 : Int) ≤ (j : Int) := by omega
          have g4 : (j : Int) < (n : Int) := by omega
          have g5 : (0 : Int) < (j : Int) + 1 := by omega
          have g6 : IntKind.i64.wrap (j : Int) = (j : Int) := by rw [IntKind.wrap_i64]; omega
          cases hcmp : ltP (eAt ns j).nd.path (eAt ns (j + 1)).nd.path with
          | true =>
            obtain ⟨l1, l2⟩ := ltP_yes hcmp
            have HLP : Hid (ltP (eAt ns j).nd.path (eAt ns (j + 1)).nd.path = true) := hcmp
            clear hcmp
            refine wp_region_held_drew (S := fun W => Hid (Below wn.heap.size wn W) ∧ (W.cell? ⟨B, 0, none⟩ = some (.bool (eAt ns (j + 1)).del) ∧ W.cell? ⟨B, 1, none⟩ = some (.string (eAt ns (j + 1)).nd.path) ∧ W.cell? ⟨B, 2, none⟩ = some (.string (eAt ns (j + 1)).nd.data) ∧ W.cell? ⟨B, 3, none⟩ = some (.int .i64 (eAt ns (j + 1)).nd.ver) ∧ W.cell? ⟨B, 4, none⟩ = some (.int .i64 (eAt ns (j + 1)).nd.cver) ∧ W.cell? ⟨B, 5, none⟩ = some (.int .i64 (eAt ns (j + 1)).nd.cz) ∧ W.cell? ⟨B, 6, none⟩ = some (.int .i64 (eAt ns (j + 1)).nd.mz) ∧ W.cell? ⟨B, 7, none⟩ = some (.int .i64 (eAt ns (j + 1)).nd.pz)) ∧ W.cell? ⟨w.heap.size, 1, none⟩ = some (.slice (some ⟨b, o, none⟩) n cap) ∧ W.cell? ⟨b, o + j * 8 + 1, none⟩ = some (.string (eAt ns j).nd.path)) (by kernel_rfl) (⟨HD, (XN.out.below HD.out).all, (CT.out _ HD.out), ((HC.out j (by omega)).below (HBn.out _ HD.out) hb).c1⟩) (fun hHeld => ?_)
            refine wpAnyH_take (i := 0) (oi := { dst := some 31, op := _, type := _, pos := _, after := _, guard := _ }) (v := ?v67) rfl (by kernel_rfl) (by kernel_rfl) (by kernel_rfl) (fun _ _ _ h => h) (Or.inl ⟨by rfl, ?hy67⟩) (by assumption) ?rest67
            case hy67 =>
              intro w9 hS9
              obtain ⟨-, hS9⟩ := hS9
              go_simp
              try with_reducible rfl
            try simp only [Act.put, List.setIfInBounds_toArray, List.set_cons_zero, List.set_cons_succ]
            refine wpAnyH_take (i := 1) (oi := { dst := some 32, op := _, type := _, pos := _, after := _, guard := _ }) (v := ?v68) rfl (by kernel_rfl) (by kernel_rfl) (by kernel_rfl) (fun _ _ _ h => h) (Or.inl ⟨by rfl, ?hy68⟩) (by assumption) ?rest68
            case hy68 =>
              intro w9 hS9
              obtain ⟨-, hS9⟩ := hS9
              go_simp
              try with_reducible rfl
            try simp only [Act.put, List.setIfInBounds_toArray, List.set_cons_zero, List.set_cons_succ]
            refine wpAnyH_ready (rs := [2]) (by kernel_rfl) (by simp) ?_
            refine AllReadyH.cons (o := { dst := some 33, op := _, type := _, pos := _, after := _, guard := _ }) rfl (fun K hK => ?_) AllReadyH.nil
            go_simp
            refine (HE.out 1).mono ?_
            rintro e w' ⟨rfl, HB⟩
            rw [HOK.out]
            refine hK.out _ _ ((show (fun W => Hid (Below wn.heap.size wn W) ∧ (W.cell? ⟨B, 0, none⟩ = some (.bool (eAt ns (j + 1)).del) ∧ W.cell? ⟨B, 1, none⟩ = some (.string (eAt ns (j + 1)).nd.path) ∧ W.cell? ⟨B, 2, none⟩ = some (.string (eAt ns (j + 1)).nd.data) ∧ W.cell? ⟨B, 3, none⟩ = some (.int .i64 (eAt ns (j + 1)).nd.ver) ∧ W.cell? ⟨B, 4, none⟩ = some (.int .i64 (eAt ns (j + 1)).nd.cver) ∧ W.cell? ⟨B, 5, none⟩ = some (.int .i64 (eAt ns (j + 1)).nd.cz) ∧ W.cell? ⟨B, 6, none⟩ = some (.int .i64 (eAt ns (j + 1)).nd.mz) ∧ W.cell? ⟨B, 7, none⟩ = some (.int .i64 (eAt ns (j + 1)).nd.pz)) ∧ W.cell? ⟨w.heap.size, 1, none⟩ = some (.slice (some ⟨b, o, none⟩) n cap) ∧ W.cell? ⟨b, o + j * 8 + 1, none⟩ = some (.string (eAt ns j).nd.path)) w' from ⟨HB, (XN.out.below HB.out).all, (CT.out _ HB.out), ((HC.out j (by omega)).below (HBn.out _ HB.out) hb).c1⟩)) (fun hx9 => ?_)
            clear hK K hHeld hx9
            have hHeld := (show (fun W => Hid (Below wn.heap.size wn W) ∧ (W.cell? ⟨B, 0, none⟩ = some (.bool (eAt ns (j + 1)).del) ∧ W.cell? ⟨B, 1, none⟩ = some (.string (eAt ns (j + 1)).nd.path) ∧ W.cell? ⟨B, 2, none⟩ = some (.string (eAt ns (j + 1)).nd.data) ∧ W.cell? ⟨B, 3, none⟩ = some (.int .i64 (eAt ns (j + 1)).nd.ver) ∧ W.cell? ⟨B, 4, none⟩ = some (.int .i64 (eAt ns (j + 1)).nd.cver) ∧ W.cell? ⟨B, 5, none⟩ = some (.int .i64 (eAt ns (j + 1)).nd.cz) ∧ W.cell? ⟨B, 6, none⟩ = some (.int .i64 (eAt ns (j + 1)).nd.mz) ∧ W.cell? ⟨B, 7, none⟩ = some (.int .i64 (eAt ns (j + 1)).nd.pz)) ∧ W.cell? ⟨w.heap.size, 1, none⟩ = some (.slice (some ⟨b, o, none⟩) n cap) ∧ W.cell? ⟨b, o + j * 8 + 1, none⟩ = some (.string (eAt ns j).nd.path)) w' from ⟨HB, (XN.out.below HB.out).all, (CT.out _ HB.out), ((HC.out j (by omega)).below (HBn.out _ HB.out) hb).c1⟩)
            try simp only [Act.put, List.setIfInBounds_toArray, List.set_cons_zero, List.set_cons_succ]
            refine wpAnyH_take (i := 3) (oi := { dst := some 34, op := _, type := _, pos := _, after := _, guard := _ }) (v := ?v69) rfl (by kernel_rfl) (by kernel_rfl) (by kernel_rfl) (fun _ _ _ h => h) (Or.inl ⟨by rfl, ?hy69⟩) (by assumption) ?rest69
            case hy69 =>
              intro w9 hS9
              obtain ⟨-, hS9⟩ := hS9
              go_simp
              try with_reducible rfl
            try simp only [Act.put, List.setIfInBounds_toArray, List.set_cons_zero, List.set_cons_succ]
            refine wpAnyH_take (i := 4) (oi := { dst := some 35, op := _, type := _, pos := _, after := _, guard := _ }) (v := ?v70) rfl (by kernel_rfl) (by kernel_rfl) (by kernel_rfl) (fun _ _ _ h => h) (Or.inl ⟨by rfl, ?hy70⟩) (by assumption) ?rest70
            case hy70 =>
              intro w9 hS9
              obtain ⟨-, hS9⟩ := hS9
              go_simp
              try with_reducible rfl
            try simp only [Act.put, List.setIfInBounds_toArray, List.set_cons_zero, List.set_cons_succ]
            refine wpAnyH_take (i := 5) (oi := { dst := some 36, op := _, type := _, pos := _, after := _, guard := _ }) (v := ?v71) rfl (by kernel_rfl) (by kernel_rfl) (by kernel_rfl) (fun _ _ _ h => h) (Or.inl ⟨by rfl, ?hy71⟩) (by assumption) ?rest71
            case hy71 =>
              intro w9 hS9
              obtain ⟨-, hS9⟩ := hS9
              go_simp
              try with_reducible rfl
            try simp only [Act.put, List.setIfInBounds_toArray, List.set_cons_zero, List.set_cons_succ]
            refine wpAnyH_take (i := 6) (oi := { dst := some 37, op := _, type := _, pos := _, after := _, guard := _ }) (v := ?v72) rfl (by kernel_rfl) (by kernel_rfl) (by kernel_rfl) (fun _ _ _ h => h) (Or.inl ⟨by rfl, ?hy72⟩) (by assumption) ?rest72
            case hy72 =>
              intro w9 hS9
              obtain ⟨-, hS9⟩ := hS9
              go_simp
              try with_reducible rfl
            try simp only [Act.put, List.setIfInBounds_toArray, List.set_cons_zero, List.set_cons_succ]
            refine wpAnyH_take (i := 7) (oi := { dst := some 38, op := _, type := _, pos := _, after := _, guard := _ }) (v := ?v73) rfl (by kernel_rfl) (by kernel_rfl) (by kernel_rfl) (fun _ _ _ h => h) (Or.inl ⟨by rfl, ?hy73⟩) (by assumption) ?rest73
            case hy73 =>
              intro w9 hS9
              obtain ⟨-, hS9⟩ := hS9
              go_simp
              try with_reducible rfl
            try simp only [Act.put, List.setIfInBounds_toArray, List.set_cons_zero, List.set_cons_succ]
            refine wpAnyH_take (i := 8) (oi := { dst := some 39, op := _, type := _, pos := _, after := _, guard := _ }) (v := ?v74) rfl (by kernel_rfl) (by kernel_rfl) (by kernel_rfl) (fun _ _ _ h => h) (Or.inl ⟨by rfl, ?hy74⟩) (by assumption) ?rest74
            case hy74 =>
              intro w9 hS9
              obtain ⟨-, hS9⟩ := hS9
              go_simp
              try with_reducible rfl
            try simp only [Act.put, List.setIfInBounds_toArray, List.set_cons_zero, List.set_cons_succ]
            refine wpAnyH_take (i := 9) (oi := { dst := some 40, op := _, type := _, pos := _, after := _, guard := _ }) (v := ?v75) rfl (by kernel_rfl) (by kernel_rfl) (by kernel_rfl) (fun _ _ _ h => h) (Or.inl ⟨by rfl, ?hy75⟩) (by assumption) ?rest75
            case hy75 =>
              intro w9 hS9
              obtain ⟨-, hS9⟩ := hS9
              go_simp
              try with_reducible rfl
            try simp only [Act.put, List.setIfInBounds_toArray, List.set_cons_zero, List.set_cons_succ]
            refine wpAnyH_take (i := 10) (oi := { dst := some 41, op := _, type := _, pos := _, after := _, guard := _ }) (v := ?v76) rfl (by kernel_rfl) (by kernel_rfl) (by kernel_rfl) (fun _ _ _ h => h) (Or.inl ⟨by rfl, ?hy76⟩) (by assumption) ?rest76
            case hy76 =>
              intro w9 hS9
              obtain ⟨-, hS9⟩ := hS9
              go_simp
              try with_reducible rfl
            try simp only [Act.put, List.setIfInBounds_toArray, List.set_cons_zero, List.set_cons_succ]
            refine wpAnyH_take (i := 11) (oi := { dst := some 42, op := _, type := _, pos := _, after := _, guard := _ }) (v := ?v77) rfl (by kernel_rfl) (by kernel_rfl) (by kernel_rfl) (fun _ _ _ h => h) (Or.inl ⟨by rfl, ?hy77⟩) (by assumption) ?rest77
            case hy77 =>
              intro w9 hS9
              obtain ⟨-, hS9⟩ := hS9
              go_simp
              try with_reducible rfl
            try simp only [Act.put, List.setIfInBounds_toArray, List.set_cons_zero, List.set_cons_succ]
            refine wpAnyH_take (i := 12) (oi := { dst := some 43, op := _, type := _, pos := _, after := _, guard := _ }) (v := ?v78) rfl (by kernel_rfl) (by kernel_rfl) (by kernel_rfl) (fun _ _ _ h => h) (Or.inl ⟨by rfl, ?hy78⟩) (by assumption) ?rest78
            case hy78 =>
              intro w9 hS9
              obtain ⟨-, hS9⟩ := hS9
              go_simp
              try with_reducible rfl
            try simp only [Act.put, List.setIfInBounds_toArray, List.set_cons_zero, List.set_cons_succ]
            refine wpAnyH_take (i := 13) (oi := { dst := some 44, op := _, type := _, pos := _, after := _, guard := _ }) (v := ?v79) rfl (by kernel_rfl) (by kernel_rfl) (by kernel_rfl) (fun _ _ _ h => h) (Or.inl ⟨by rfl, ?hy79⟩) (by assumption) ?rest79
            case hy79 =>
              intro w9 hS9
              obtain ⟨-, hS9⟩ := hS9
              go_simp
              try with_reducible rfl
            try simp only [Act.put, List.setIfInBounds_toArray, List.set_cons_zero, List.set_cons_succ]
            refine wpAnyH_take (i := 14) (oi := { dst := some 45, op := _, type := _, pos := _, after := _, guard := _ }) (v := ?v80) rfl (by kernel_rfl) (by kernel_rfl) (by kernel_rfl) (fun _ _ _ h => h) (Or.inl ⟨by rfl, ?hy80⟩) (by assumption) ?rest80
            case hy80 =>
              intro w9 hS9
              obtain ⟨-, hS9⟩ := hS9
              go_simp
              try with_reducible rfl
            try simp only [Act.put, List.setIfInBounds_toArray, List.set_cons_zero, List.set_cons_succ]
            refine wpAnyH_take (i := 15) (oi := { dst := some 46, op := _, type := _, pos := _, after := _, guard := _ }) (v := ?v81) rfl (by kernel_rfl) (by kernel_rfl) (by kernel_rfl) (fun _ _ _ h => h) (Or.inl ⟨by rfl, ?hy81⟩) (by assumption) ?rest81
            case hy81 =>
              intro w9 hS9
              obtain ⟨-, hS9⟩ := hS9
              go_simp
              try with_reducible rfl
            try simp only [Act.put, List.setIfInBounds_toArray, List.set_cons_zero, List.set_cons_succ]
            refine wpAnyH_take (i := 16) (oi := { dst := some 47, op := _, type := _, pos := _, after := _, guard := _ }) (v := ?v82) rfl (by kernel_rfl) (by kernel_rfl) (by kernel_rfl) (fun _ _ _ h => h) (Or.inl ⟨by rfl, ?hy82⟩) (by assumption) ?rest82
            case hy82 =>
              intro w9 hS9
              obtain ⟨-, hS9⟩ := hS9
              go_simp
              try with_reducible rfl
            try simp only [Act.put, List.setIfInBounds_toArray, List.set_cons_zero, List.set_cons_succ]
            refine wpAnyH_take (i := 17) (oi := { dst := some 48, op := _, type := _, pos := _, after := _, guard := _ }) (v := ?v83) rfl (by kernel_rfl) (by kernel_rfl) (by kernel_rfl) (fun _ _ _ h => h) (Or.inl ⟨by rfl, ?hy83⟩) (by assumption) ?rest83
            case hy83 =>
              intro w9 hS9
              obtain ⟨-, hS9⟩ := hS9
              go_simp
              try with_reducible rfl
            try simp only [Act.put, List.setIfInBounds_toArray, List.set_cons_zero, List.set_cons_succ]
            refine wpAnyH_take (i := 18) (oi := { dst := some 49, op := _, type := _, pos := _, after := _, guard := _ }) (v := ?v84) rfl (by kernel_rfl) (by kernel_rfl) (by kernel_rfl) (fun _ _ _ h => h) (Or.inl ⟨by rfl, ?hy84⟩) (by assumption) ?rest84
            case hy84 =>
              intro w9 hS9
              obtain ⟨-, hS9⟩ := hS9
              go_simp
              try with_reducible rfl
            try simp only [Act.put, List.setIfInBounds_toArray, List.set_cons_zero, List.set_cons_succ]
            refine wpAnyH_take (i := 19) (oi := { dst := some 50, op := _, type := _, pos := _, after := _, guard := _ }) (v := ?v85) rfl (by kernel_rfl) (by kernel_rfl) (by kernel_rfl) (fun _ _ _ h => h) (Or.inl ⟨by rfl, ?hy85⟩) (by assumption) ?rest85
            case hy85 =>
              intro w9 hS9
              obtain ⟨-, hS9⟩ := hS9
              go_simp
              try with_reducible rfl
            try simp only [Act.put, List.setIfInBounds_toArray, List.set_cons_zero, List.set_cons_succ]
            refine wpAnyH_take (i := 20) (oi := { dst := some 51, op := _, type := _, pos := _, after := _, guard := _ }) (v := ?v86) rfl (by kernel_rfl) (by kernel_rfl) (by kernel_rfl) (fun _ _ _ h => h) (Or.inl ⟨by rfl, ?hy86⟩) (by assumption) ?rest86
            case hy86 =>
              intro w9 hS9
              obtain ⟨-, hS9⟩ := hS9
              go_simp
              try with_reducible rfl
            try simp only [Act.put, List.setIfInBounds_toArray, List.set_cons_zero, List.set_cons_succ]
            refine wpAnyH_take (i := 21) (oi := { dst := some 52, op := _, type := _, pos := _, after := _, guard := _ }) (v := ?v87) rfl (by kernel_rfl) (by kernel_rfl) (by kernel_rfl) (fun _ _ _ h => h) (Or.inl ⟨by rfl, ?hy87⟩) (by assumption) ?rest87
            case hy87 =>
              intro w9 hS9
              obtain ⟨-, hS9⟩ := hS9
              go_simp
              try with_reducible rfl
            try simp only [Act.put, List.setIfInBounds_toArray, List.set_cons_zero, List.set_cons_succ]
            refine wpAnyH_done (by kernel_rfl) ?_ _
            clear hHeld
            obtain ⟨-, b0, b1, b2, b3, b4, b5, b6, b7⟩ := XN.out.below HB.out
            cases hdel : (eAt ns (j + 1)).del with
            | false =>
              have HT : Hid (okEAt ns (j + 1) = true) := by show _ = _; rw [okEAt_succ, okEf_false hdel, HOK.out]; simp [HLP.out]
              rw [hdel] at b0
              clear hdel
              go_wp2
              go_roundw
              case rel => exact ⟨(j + 1) + 1, by omega, by go_num, (fun t ht => by by_cases e : t = (j + 1); (subst e; exact HT.out); exact HA.out t (by omega)), HBz.out _ HB.out⟩
              case measure => simp [intOf]; omega
            | true =>
              have HEF : Hid (okEf (eAt ns (j + 1)) = (okNd (eAt ns (j + 1)).nd && blank (eAt ns (j + 1)).nd)) := okEf_true hdel
              rw [hdel] at b0
              clear hdel
              have hpp : ((eAt ns (j + 1)).nd.path.toList == (eAt ns (j + 1)).nd.path.toList) = true := by simp
              cases h_dat : ((eAt ns (j + 1)).nd.data.toList == []) with
              | false =>
                have HN : Hid (okEs ns = false) := es_no HLT.out (by rw [okEAt_succ, HEF.out]; unfold blank; rw [h_dat]; simp)
                go_wp2
                go_ret
                exact ⟨ret_b HN.out.symm, HBn.out _ HB.out⟩
              | true =>
                cases h_ver : ((eAt ns (j + 1)).nd.ver == 0) with
                | false =>
                  have HN : Hid (okEs ns = false) := es_no HLT.out (by rw [okEAt_succ, HEF.out]; unfold blank; rw [h_ver]; simp)
                  go_wp2
                  go_ret
                  exact ⟨ret_b HN.out.symm, HBn.out _ HB.out⟩
                | true =>
                  cases h_cver : ((eAt ns (j + 1)).nd.cver == 0) with
                  | false =>
                    have HN : Hid (okEs ns = false) := es_no HLT.out (by rw [okEAt_succ, HEF.out]; unfold blank; rw [h_cver]; simp)
                    go_wp2
                    go_ret
                    exact ⟨ret_b HN.out.symm, HBn.out _ HB.out⟩
                  | true =>
                    cases h_cz : ((eAt ns (j + 1)).nd.cz == 0) with
                    | false =>
                      have HN : Hid (okEs ns = false) := es_no HLT.out (by rw [okEAt_succ, HEF.out]; unfold blank; rw [h_cz]; simp)
                      go_wp2
                      go_ret
                      exact ⟨ret_b HN.out.symm, HBn.out _ HB.out⟩
                    | true =>
                      cases h_mz : ((eAt ns (j + 1)).nd.mz == 0) with
                      | false =>
                        have HN : Hid (okEs ns = false) := es_no HLT.out (by rw [okEAt_succ, HEF.out]; unfold blank; rw [h_mz]; simp)
                        go_wp2
                        go_ret
                        exact ⟨ret_b HN.out.symm, HBn.out _ HB.out⟩
                      | true =>
                        cases h_pz : ((eAt ns (j + 1)).nd.pz == 0) with
                        | false =>
                          have HN : Hid (okEs ns = false) := es_no HLT.out (by rw [okEAt_succ, HEF.out]; unfold blank; rw [h_pz]; simp)
                          go_wp2
                          go_ret
                          exact ⟨ret_b HN.out.symm, HBn.out _ HB.out⟩
                        | true =>
                          have HT : Hid (okEAt ns (j + 1) = true) := by show _ = _; rw [okEAt_succ, HEF.out, HOK.out]; unfold blank; rw [h_dat, h_ver, h_cver, h_cz, h_mz, h_pz]; simp [HLP.out]
                          go_wp2
                          go_roundw
                          case rel => exact ⟨(j + 1) + 1, by omega, by go_num, (fun t ht => by by_cases e : t = (j + 1); (subst e; exact HT.out); exact HA.out t (by omega)), HBz.out _ HB.out⟩
                          case measure => simp [intOf]; omega
          | false =>
            have HN : Hid (okEs ns = false) := es_no HLT.out (by rw [okEAt_succ, hcmp, Bool.and_false])
            rcases ltP_no hcmp with l1 | ⟨l1, l2⟩
            · clear hcmp
              refine wp_region_held_drew (S := fun W => Hid (Below wn.heap.size wn W) ∧ (W.cell? ⟨B, 0, none⟩ = some (.bool (eAt ns (j + 1)).del) ∧ W.cell? ⟨B, 1, none⟩ = some (.string (eAt ns (j + 1)).nd.path) ∧ W.cell? ⟨B, 2, none⟩ = some (.string (eAt ns (j + 1)).nd.data) ∧ W.cell? ⟨B, 3, none⟩ = some (.int .i64 (eAt ns (j + 1)).nd.ver) ∧ W.cell? ⟨B, 4, none⟩ = some (.int .i64 (eAt ns (j + 1)).nd.cver) ∧ W.cell? ⟨B, 5, none⟩ = some (.int .i64 (eAt ns (j + 1)).nd.cz) ∧ W.cell? ⟨B, 6, none⟩ = some (.int .i64 (eAt ns (j + 1)).nd.mz) ∧ W.cell? ⟨B, 7, none⟩ = some (.int .i64 (eAt ns (j + 1)).nd.pz)) ∧ W.cell? ⟨w.heap.size, 1, none⟩ = some (.slice (some ⟨b, o, none⟩) n cap) ∧ W.cell? ⟨b, o + j * 8 + 1, none⟩ = some (.string (eAt ns j).nd.path)) (by kernel_rfl) (⟨HD, (XN.out.below HD.out).all, (CT.out _ HD.out), ((HC.out j (by omega)).below (HBn.out _ HD.out) hb).c1⟩) (fun hHeld => ?_)
              refine wpAnyH_take (i := 0) (oi := { dst := some 31, op := _, type := _, pos := _, after := _, guard := _ }) (v := ?v88) rfl (by kernel_rfl) (by kernel_rfl) (by kernel_rfl) (fun _ _ _ h => h) (Or.inl ⟨by rfl, ?hy88⟩) (by assumption) ?rest88
              case hy88 =>
                intro w9 hS9
                obtain ⟨-, hS9⟩ := hS9
                go_simp
                try with_reducible rfl
              try simp only [Act.put, List.setIfInBounds_toArray, List.set_cons_zero, List.set_cons_succ]
              refine wpAnyH_take (i := 1) (oi := { dst := some 32, op := _, type := _, pos := _, after := _, guard := _ }) (v := ?v89) rfl (by kernel_rfl) (by kernel_rfl) (by kernel_rfl) (fun _ _ _ h => h) (Or.inl ⟨by rfl, ?hy89⟩) (by assumption) ?rest89
              case hy89 =>
                intro w9 hS9
                obtain ⟨-, hS9⟩ := hS9
                go_simp
                try with_reducible rfl
              try simp only [Act.put, List.setIfInBounds_toArray, List.set_cons_zero, List.set_cons_succ]
              refine wpAnyH_ready (rs := [2]) (by kernel_rfl) (by simp) ?_
              refine AllReadyH.cons (o := { dst := some 33, op := _, type := _, pos := _, after := _, guard := _ }) rfl (fun K hK => ?_) AllReadyH.nil
              go_simp
              refine (HE.out 1).mono ?_
              rintro e w' ⟨rfl, HB⟩
              rw [HOK.out]
              refine hK.out _ _ ((show (fun W => Hid (Below wn.heap.size wn W) ∧ (W.cell? ⟨B, 0, none⟩ = some (.bool (eAt ns (j + 1)).del) ∧ W.cell? ⟨B, 1, none⟩ = some (.string (eAt ns (j + 1)).nd.path) ∧ W.cell? ⟨B, 2, none⟩ = some (.string (eAt ns (j + 1)).nd.data) ∧ W.cell? ⟨B, 3, none⟩ = some (.int .i64 (eAt ns (j + 1)).nd.ver) ∧ W.cell? ⟨B, 4, none⟩ = some (.int .i64 (eAt ns (j + 1)).nd.cver) ∧ W.cell? ⟨B, 5, none⟩ = some (.int .i64 (eAt ns (j + 1)).nd.cz) ∧ W.cell? ⟨B, 6, none⟩ = some (.int .i64 (eAt ns (j + 1)).nd.mz) ∧ W.cell? ⟨B, 7, none⟩ = some (.int .i64 (eAt ns (j + 1)).nd.pz)) ∧ W.cell? ⟨w.heap.size, 1, none⟩ = some (.slice (some ⟨b, o, none⟩) n cap) ∧ W.cell? ⟨b, o + j * 8 + 1, none⟩ = some (.string (eAt ns j).nd.path)) w' from ⟨HB, (XN.out.below HB.out).all, (CT.out _ HB.out), ((HC.out j (by omega)).below (HBn.out _ HB.out) hb).c1⟩)) (fun hx9 => ?_)
              clear hK K hHeld hx9
              have hHeld := (show (fun W => Hid (Below wn.heap.size wn W) ∧ (W.cell? ⟨B, 0, none⟩ = some (.bool (eAt ns (j + 1)).del) ∧ W.cell? ⟨B, 1, none⟩ = some (.string (eAt ns (j + 1)).nd.path) ∧ W.cell? ⟨B, 2, none⟩ = some (.string (eAt ns (j + 1)).nd.data) ∧ W.cell? ⟨B, 3, none⟩ = some (.int .i64 (eAt ns (j + 1)).nd.ver) ∧ W.cell? ⟨B, 4, none⟩ = some (.int .i64 (eAt ns (j + 1)).nd.cver) ∧ W.cell? ⟨B, 5, none⟩ = some (.int .i64 (eAt ns (j + 1)).nd.cz) ∧ W.cell? ⟨B, 6, none⟩ = some (.int .i64 (eAt ns (j + 1)).nd.mz) ∧ W.cell? ⟨B, 7, none⟩ = some (.int .i64 (eAt ns (j + 1)).nd.pz)) ∧ W.cell? ⟨w.heap.size, 1, none⟩ = some (.slice (some ⟨b, o, none⟩) n cap) ∧ W.cell? ⟨b, o + j * 8 + 1, none⟩ = some (.string (eAt ns j).nd.path)) w' from ⟨HB, (XN.out.below HB.out).all, (CT.out _ HB.out), ((HC.out j (by omega)).below (HBn.out _ HB.out) hb).c1⟩)
              try simp only [Act.put, List.setIfInBounds_toArray, List.set_cons_zero, List.set_cons_succ]
              refine wpAnyH_take (i := 3) (oi := { dst := some 34, op := _, type := _, pos := _, after := _, guard := _ }) (v := ?v90) rfl (by kernel_rfl) (by kernel_rfl) (by kernel_rfl) (fun _ _ _ h => h) (Or.inl ⟨by rfl, ?hy90⟩) (by assumption) ?rest90
              case hy90 =>
                intro w9 hS9
                obtain ⟨-, hS9⟩ := hS9
                go_simp
                try with_reducible rfl
              try simp only [Act.put, List.setIfInBounds_toArray, List.set_cons_zero, List.set_cons_succ]
              refine wpAnyH_take (i := 4) (oi := { dst := some 35, op := _, type := _, pos := _, after := _, guard := _ }) (v := ?v91) rfl (by kernel_rfl) (by kernel_rfl) (by kernel_rfl) (fun _ _ _ h => h) (Or.inl ⟨by rfl, ?hy91⟩) (by assumption) ?rest91
              case hy91 =>
                intro w9 hS9
                obtain ⟨-, hS9⟩ := hS9
                go_simp
                try with_reducible rfl
              try simp only [Act.put, List.setIfInBounds_toArray, List.set_cons_zero, List.set_cons_succ]
              refine wpAnyH_take (i := 5) (oi := { dst := some 36, op := _, type := _, pos := _, after := _, guard := _ }) (v := ?v92) rfl (by kernel_rfl) (by kernel_rfl) (by kernel_rfl) (fun _ _ _ h => h) (Or.inl ⟨by rfl, ?hy92⟩) (by assumption) ?rest92
              case hy92 =>
                intro w9 hS9
                obtain ⟨-, hS9⟩ := hS9
                go_simp
                try with_reducible rfl
              try simp only [Act.put, List.setIfInBounds_toArray, List.set_cons_zero, List.set_cons_succ]
              refine wpAnyH_take (i := 6) (oi := { dst := some 37, op := _, type := _, pos := _, after := _, guard := _ }) (v := ?v93) rfl (by kernel_rfl) (by kernel_rfl) (by kernel_rfl) (fun _ _ _ h => h) (Or.inl ⟨by rfl, ?hy93⟩) (by assumption) ?rest93
              case hy93 =>
                intro w9 hS9
                obtain ⟨-, hS9⟩ := hS9
                go_simp
                try with_reducible rfl
              try simp only [Act.put, List.setIfInBounds_toArray, List.set_cons_zero, List.set_cons_succ]
              refine wpAnyH_take (i := 7) (oi := { dst := some 38, op := _, type := _, pos := _, after := _, guard := _ }) (v := ?v94) rfl (by kernel_rfl) (by kernel_rfl) (by kernel_rfl) (fun _ _ _ h => h) (Or.inl ⟨by rfl, ?hy94⟩) (by assumption) ?rest94
              case hy94 =>
                intro w9 hS9
                obtain ⟨-, hS9⟩ := hS9
                go_simp
                try with_reducible rfl
              try simp only [Act.put, List.setIfInBounds_toArray, List.set_cons_zero, List.set_cons_succ]
              refine wpAnyH_take (i := 8) (oi := { dst := some 39, op := _, type := _, pos := _, after := _, guard := _ }) (v := ?v95) rfl (by kernel_rfl) (by kernel_rfl) (by kernel_rfl) (fun _ _ _ h => h) (Or.inl ⟨by rfl, ?hy95⟩) (by assumption) ?rest95
              case hy95 =>
                intro w9 hS9
                obtain ⟨-, hS9⟩ := hS9
                go_simp
                try with_reducible rfl
              try simp only [Act.put, List.setIfInBounds_toArray, List.set_cons_zero, List.set_cons_succ]
              refine wpAnyH_take (i := 9) (oi := { dst := some 40, op := _, type := _, pos := _, after := _, guard := _ }) (v := ?v96) rfl (by kernel_rfl) (by kernel_rfl) (by kernel_rfl) (fun _ _ _ h => h) (Or.inl ⟨by rfl, ?hy96⟩) (by assumption) ?rest96
              case hy96 =>
                intro w9 hS9
                obtain ⟨-, hS9⟩ := hS9
                go_simp
                try with_reducible rfl
              try simp only [Act.put, List.setIfInBounds_toArray, List.set_cons_zero, List.set_cons_succ]
              refine wpAnyH_take (i := 10) (oi := { dst := some 41, op := _, type := _, pos := _, after := _, guard := _ }) (v := ?v97) rfl (by kernel_rfl) (by kernel_rfl) (by kernel_rfl) (fun _ _ _ h => h) (Or.inl ⟨by rfl, ?hy97⟩) (by assumption) ?rest97
              case hy97 =>
                intro w9 hS9
                obtain ⟨-, hS9⟩ := hS9
                go_simp
                try with_reducible rfl
              try simp only [Act.put, List.setIfInBounds_toArray, List.set_cons_zero, List.set_cons_succ]
              refine wpAnyH_take (i := 11) (oi := { dst := some 42, op := _, type := _, pos := _, after := _, guard := _ }) (v := ?v98) rfl (by kernel_rfl) (by kernel_rfl) (by kernel_rfl) (fun _ _ _ h => h) (Or.inl ⟨by rfl, ?hy98⟩) (by assumption) ?rest98
              case hy98 =>
                intro w9 hS9
                obtain ⟨-, hS9⟩ := hS9
                go_simp
                try with_reducible rfl
              try simp only [Act.put, List.setIfInBounds_toArray, List.set_cons_zero, List.set_cons_succ]
              refine wpAnyH_take (i := 12) (oi := { dst := some 43, op := _, type := _, pos := _, after := _, guard := _ }) (v := ?v99) rfl (by kernel_rfl) (by kernel_rfl) (by kernel_rfl) (fun _ _ _ h => h) (Or.inl ⟨by rfl, ?hy99⟩) (by assumption) ?rest99
              case hy99 =>
                intro w9 hS9
                obtain ⟨-, hS9⟩ := hS9
                go_simp
                try with_reducible rfl
              try simp only [Act.put, List.setIfInBounds_toArray, List.set_cons_zero, List.set_cons_succ]
              refine wpAnyH_take (i := 13) (oi := { dst := some 44, op := _, type := _, pos := _, after := _, guard := _ }) (v := ?v100) rfl (by kernel_rfl) (by kernel_rfl) (by kernel_rfl) (fun _ _ _ h => h) (Or.inl ⟨by rfl, ?hy100⟩) (by assumption) ?rest100
              case hy100 =>
                intro w9 hS9
                obtain ⟨-, hS9⟩ := hS9
                go_simp
                try with_reducible rfl
              try simp only [Act.put, List.setIfInBounds_toArray, List.set_cons_zero, List.set_cons_succ]
              refine wpAnyH_take (i := 14) (oi := { dst := some 45, op := _, type := _, pos := _, after := _, guard := _ }) (v := ?v101) rfl (by kernel_rfl) (by kernel_rfl) (by kernel_rfl) (fun _ _ _ h => h) (Or.inl ⟨by rfl, ?hy101⟩) (by assumption) ?rest101
              case hy101 =>
                intro w9 hS9
                obtain ⟨-, hS9⟩ := hS9
                go_simp
                try with_reducible rfl
              try simp only [Act.put, List.setIfInBounds_toArray, List.set_cons_zero, List.set_cons_succ]
              refine wpAnyH_take (i := 15) (oi := { dst := some 46, op := _, type := _, pos := _, after := _, guard := _ }) (v := ?v102) rfl (by kernel_rfl) (by kernel_rfl) (by kernel_rfl) (fun _ _ _ h => h) (Or.inl ⟨by rfl, ?hy102⟩) (by assumption) ?rest102
              case hy102 =>
                intro w9 hS9
                obtain ⟨-, hS9⟩ := hS9
                go_simp
                try with_reducible rfl
              try simp only [Act.put, List.setIfInBounds_toArray, List.set_cons_zero, List.set_cons_succ]
              refine wpAnyH_take (i := 16) (oi := { dst := some 47, op := _, type := _, pos := _, after := _, guard := _ }) (v := ?v103) rfl (by kernel_rfl) (by kernel_rfl) (by kernel_rfl) (fun _ _ _ h => h) (Or.inl ⟨by rfl, ?hy103⟩) (by assumption) ?rest103
              case hy103 =>
                intro w9 hS9
                obtain ⟨-, hS9⟩ := hS9
                go_simp
                try with_reducible rfl
              try simp only [Act.put, List.setIfInBounds_toArray, List.set_cons_zero, List.set_cons_succ]
              refine wpAnyH_take (i := 17) (oi := { dst := some 48, op := _, type := _, pos := _, after := _, guard := _ }) (v := ?v104) rfl (by kernel_rfl) (by kernel_rfl) (by kernel_rfl) (fun _ _ _ h => h) (Or.inl ⟨by rfl, ?hy104⟩) (by assumption) ?rest104
              case hy104 =>
                intro w9 hS9
                obtain ⟨-, hS9⟩ := hS9
                go_simp
                try with_reducible rfl
              try simp only [Act.put, List.setIfInBounds_toArray, List.set_cons_zero, List.set_cons_succ]
              refine wpAnyH_take (i := 18) (oi := { dst := some 49, op := _, type := _, pos := _, after := _, guard := _ }) (v := ?v105) rfl (by kernel_rfl) (by kernel_rfl) (by kernel_rfl) (fun _ _ _ h => h) (Or.inl ⟨by rfl, ?hy105⟩) (by assumption) ?rest105
              case hy105 =>
                intro w9 hS9
                obtain ⟨-, hS9⟩ := hS9
                go_simp
                try with_reducible rfl
              try simp only [Act.put, List.setIfInBounds_toArray, List.set_cons_zero, List.set_cons_succ]
              refine wpAnyH_take (i := 19) (oi := { dst := some 50, op := _, type := _, pos := _, after := _, guard := _ }) (v := ?v106) rfl (by kernel_rfl) (by kernel_rfl) (by kernel_rfl) (fun _ _ _ h => h) (Or.inl ⟨by rfl, ?hy106⟩) (by assumption) ?rest106
              case hy106 =>
                intro w9 hS9
                obtain ⟨-, hS9⟩ := hS9
                go_simp
                try with_reducible rfl
              try simp only [Act.put, List.setIfInBounds_toArray, List.set_cons_zero, List.set_cons_succ]
              refine wpAnyH_take (i := 20) (oi := { dst := some 51, op := _, type := _, pos := _, after := _, guard := _ }) (v := ?v107) rfl (by kernel_rfl) (by kernel_rfl) (by kernel_rfl) (fun _ _ _ h => h) (Or.inl ⟨by rfl, ?hy107⟩) (by assumption) ?rest107
              case hy107 =>
                intro w9 hS9
                obtain ⟨-, hS9⟩ := hS9
                go_simp
                try with_reducible rfl
              try simp only [Act.put, List.setIfInBounds_toArray, List.set_cons_zero, List.set_cons_succ]
              refine wpAnyH_take (i := 21) (oi := { dst := some 52, op := _, type := _, pos := _, after := _, guard := _ }) (v := ?v108) rfl (by kernel_rfl) (by kernel_rfl) (by kernel_rfl) (fun _ _ _ h => h) (Or.inl ⟨by rfl, ?hy108⟩) (by assumption) ?rest108
              case hy108 =>
                intro w9 hS9
                obtain ⟨-, hS9⟩ := hS9
                go_simp
                try with_reducible rfl
              try simp only [Act.put, List.setIfInBounds_toArray, List.set_cons_zero, List.set_cons_succ]
              refine wpAnyH_done (by kernel_rfl) ?_ _
              clear hHeld
              go_wp2
              go_ret
              exact ⟨ret_b HN.out.symm, HBn.out _ HB.out⟩
            · clear hcmp
              refine wp_region_held_drew (S := fun W => Hid (Below wn.heap.size wn W) ∧ (W.cell? ⟨B, 0, none⟩ = some (.bool (eAt ns (j + 1)).del) ∧ W.cell? ⟨B, 1, none⟩ = some (.string (eAt ns (j + 1)).nd.path) ∧ W.cell? ⟨B, 2, none⟩ = some (.string (eAt ns (j + 1)).nd.data) ∧ W.cell? ⟨B, 3, none⟩ = some (.int .i64 (eAt ns (j + 1)).nd.ver) ∧ W.cell? ⟨B, 4, none⟩ = some (.int .i64 (eAt ns (j + 1)).nd.cver) ∧ W.cell? ⟨B, 5, none⟩ = some (.int .i64 (eAt ns (j + 1)).nd.cz) ∧ W.cell? ⟨B, 6, none⟩ = some (.int .i64 (eAt ns (j + 1)).nd.mz) ∧ W.cell? ⟨B, 7, none⟩ = some (.int .i64 (eAt ns (j + 1)).nd.pz)) ∧ W.cell? ⟨w.heap.size, 1, none⟩ = some (.slice (some ⟨b, o, none⟩) n cap) ∧ W.cell? ⟨b, o + j * 8 + 1, none⟩ = some (.string (eAt ns j).nd.path)) (by kernel_rfl) (⟨HD, (XN.out.below HD.out).all, (CT.out _ HD.out), ((HC.out j (by omega)).below (HBn.out _ HD.out) hb).c1⟩) (fun hHeld => ?_)
              refine wpAnyH_take (i := 0) (oi := { dst := some 31, op := _, type := _, pos := _, after := _, guard := _ }) (v := ?v109) rfl (by kernel_rfl) (by kernel_rfl) (by kernel_rfl) (fun _ _ _ h => h) (Or.inl ⟨by rfl, ?hy109⟩) (by assumption) ?rest109
              case hy109 =>
                intro w9 hS9
                obtain ⟨-, hS9⟩ := hS9
                go_simp
                try with_reducible rfl
              try simp only [Act.put, List.setIfInBounds_toArray, List.set_cons_zero, List.set_cons_succ]
              refine wpAnyH_take (i := 1) (oi := { dst := some 32, op := _, type := _, pos := _, after := _, guard := _ }) (v := ?v110) rfl (by kernel_rfl) (by kernel_rfl) (by kernel_rfl) (fun _ _ _ h => h) (Or.inl ⟨by rfl, ?hy110⟩) (by assumption) ?rest110
              case hy110 =>
                intro w9 hS9
                obtain ⟨-, hS9⟩ := hS9
                go_simp
                try with_reducible rfl
              try simp only [Act.put, List.setIfInBounds_toArray, List.set_cons_zero, List.set_cons_succ]
              refine wpAnyH_ready (rs := [2]) (by kernel_rfl) (by simp) ?_
              refine AllReadyH.cons (o := { dst := some 33, op := _, type := _, pos := _, after := _, guard := _ }) rfl (fun K hK => ?_) AllReadyH.nil
              go_simp
              refine (HE.out 1).mono ?_
              rintro e w' ⟨rfl, HB⟩
              rw [HOK.out]
              refine hK.out _ _ ((show (fun W => Hid (Below wn.heap.size wn W) ∧ (W.cell? ⟨B, 0, none⟩ = some (.bool (eAt ns (j + 1)).del) ∧ W.cell? ⟨B, 1, none⟩ = some (.string (eAt ns (j + 1)).nd.path) ∧ W.cell? ⟨B, 2, none⟩ = some (.string (eAt ns (j + 1)).nd.data) ∧ W.cell? ⟨B, 3, none⟩ = some (.int .i64 (eAt ns (j + 1)).nd.ver) ∧ W.cell? ⟨B, 4, none⟩ = some (.int .i64 (eAt ns (j + 1)).nd.cver) ∧ W.cell? ⟨B, 5, none⟩ = some (.int .i64 (eAt ns (j + 1)).nd.cz) ∧ W.cell? ⟨B, 6, none⟩ = some (.int .i64 (eAt ns (j + 1)).nd.mz) ∧ W.cell? ⟨B, 7, none⟩ = some (.int .i64 (eAt ns (j + 1)).nd.pz)) ∧ W.cell? ⟨w.heap.size, 1, none⟩ = some (.slice (some ⟨b, o, none⟩) n cap) ∧ W.cell? ⟨b, o + j * 8 + 1, none⟩ = some (.string (eAt ns j).nd.path)) w' from ⟨HB, (XN.out.below HB.out).all, (CT.out _ HB.out), ((HC.out j (by omega)).below (HBn.out _ HB.out) hb).c1⟩)) (fun hx9 => ?_)
              clear hK K hHeld hx9
              have hHeld := (show (fun W => Hid (Below wn.heap.size wn W) ∧ (W.cell? ⟨B, 0, none⟩ = some (.bool (eAt ns (j + 1)).del) ∧ W.cell? ⟨B, 1, none⟩ = some (.string (eAt ns (j + 1)).nd.path) ∧ W.cell? ⟨B, 2, none⟩ = some (.string (eAt ns (j + 1)).nd.data) ∧ W.cell? ⟨B, 3, none⟩ = some (.int .i64 (eAt ns (j + 1)).nd.ver) ∧ W.cell? ⟨B, 4, none⟩ = some (.int .i64 (eAt ns (j + 1)).nd.cver) ∧ W.cell? ⟨B, 5, none⟩ = some (.int .i64 (eAt ns (j + 1)).nd.cz) ∧ W.cell? ⟨B, 6, none⟩ = some (.int .i64 (eAt ns (j + 1)).nd.mz) ∧ W.cell? ⟨B, 7, none⟩ = some (.int .i64 (eAt ns (j + 1)).nd.pz)) ∧ W.cell? ⟨w.heap.size, 1, none⟩ = some (.slice (some ⟨b, o, none⟩) n cap) ∧ W.cell? ⟨b, o + j * 8 + 1, none⟩ = some (.string (eAt ns j).nd.path)) w' from ⟨HB, (XN.out.below HB.out).all, (CT.out _ HB.out), ((HC.out j (by omega)).below (HBn.out _ HB.out) hb).c1⟩)
              try simp only [Act.put, List.setIfInBounds_toArray, List.set_cons_zero, List.set_cons_succ]
              refine wpAnyH_take (i := 3) (oi := { dst := some 34, op := _, type := _, pos := _, after := _, guard := _ }) (v := ?v111) rfl (by kernel_rfl) (by kernel_rfl) (by kernel_rfl) (fun _ _ _ h => h) (Or.inl ⟨by rfl, ?hy111⟩) (by assumption) ?rest111
              case hy111 =>
                intro w9 hS9
                obtain ⟨-, hS9⟩ := hS9
                go_simp
                try with_reducible rfl
              try simp only [Act.put, List.setIfInBounds_toArray, List.set_cons_zero, List.set_cons_succ]
              refine wpAnyH_take (i := 4) (oi := { dst := some 35, op := _, type := _, pos := _, after := _, guard := _ }) (v := ?v112) rfl (by kernel_rfl) (by kernel_rfl) (by kernel_rfl) (fun _ _ _ h => h) (Or.inl ⟨by rfl, ?hy112⟩) (by assumption) ?rest112
              case hy112 =>
                intro w9 hS9
                obtain ⟨-, hS9⟩ := hS9
                go_simp
                try with_reducible rfl
              try simp only [Act.put, List.setIfInBounds_toArray, List.set_cons_zero, List.set_cons_succ]
              refine wpAnyH_take (i := 5) (oi := { dst := some 36, op := _, type := _, pos := _, after := _, guard := _ }) (v := ?v113) rfl (by kernel_rfl) (by kernel_rfl) (by kernel_rfl) (fun _ _ _ h => h) (Or.inl ⟨by rfl, ?hy113⟩) (by assumption) ?rest113
              case hy113 =>
                intro w9 hS9
                obtain ⟨-, hS9⟩ := hS9
                go_simp
                try with_reducible rfl
              try simp only [Act.put, List.setIfInBounds_toArray, List.set_cons_zero, List.set_cons_succ]
              refine wpAnyH_take (i := 6) (oi := { dst := some 37, op := _, type := _, pos := _, after := _, guard := _ }) (v := ?v114) rfl (by kernel_rfl) (by kernel_rfl) (by kernel_rfl) (fun _ _ _ h => h) (Or.inl ⟨by rfl, ?hy114⟩) (by assumption) ?rest114
              case hy114 =>
                intro w9 hS9
                obtain ⟨-, hS9⟩ := hS9
                go_simp
                try with_reducible rfl
              try simp only [Act.put, List.setIfInBounds_toArray, List.set_cons_zero, List.set_cons_succ]
              refine wpAnyH_take (i := 7) (oi := { dst := some 38, op := _, type := _, pos := _, after := _, guard := _ }) (v := ?v115) rfl (by kernel_rfl) (by kernel_rfl) (by kernel_rfl) (fun _ _ _ h => h) (Or.inl ⟨by rfl, ?hy115⟩) (by assumption) ?rest115
              case hy115 =>
                intro w9 hS9
                obtain ⟨-, hS9⟩ := hS9
                go_simp
                try with_reducible rfl
              try simp only [Act.put, List.setIfInBounds_toArray, List.set_cons_zero, List.set_cons_succ]
              refine wpAnyH_take (i := 8) (oi := { dst := some 39, op := _, type := _, pos := _, after := _, guard := _ }) (v := ?v116) rfl (by kernel_rfl) (by kernel_rfl) (by kernel_rfl) (fun _ _ _ h => h) (Or.inl ⟨by rfl, ?hy116⟩) (by assumption) ?rest116
              case hy116 =>
                intro w9 hS9
                obtain ⟨-, hS9⟩ := hS9
                go_simp
                try with_reducible rfl
              try simp only [Act.put, List.setIfInBounds_toArray, List.set_cons_zero, List.set_cons_succ]
              refine wpAnyH_take (i := 9) (oi := { dst := some 40, op := _, type := _, pos := _, after := _, guard := _ }) (v := ?v117) rfl (by kernel_rfl) (by kernel_rfl) (by kernel_rfl) (fun _ _ _ h => h) (Or.inl ⟨by rfl, ?hy117⟩) (by assumption) ?rest117
              case hy117 =>
                intro w9 hS9
                obtain ⟨-, hS9⟩ := hS9
                go_simp
                try with_reducible rfl
              try simp only [Act.put, List.setIfInBounds_toArray, List.set_cons_zero, List.set_cons_succ]
              refine wpAnyH_take (i := 10) (oi := { dst := some 41, op := _, type := _, pos := _, after := _, guard := _ }) (v := ?v118) rfl (by kernel_rfl) (by kernel_rfl) (by kernel_rfl) (fun _ _ _ h => h) (Or.inl ⟨by rfl, ?hy118⟩) (by assumption) ?rest118
              case hy118 =>
                intro w9 hS9
                obtain ⟨-, hS9⟩ := hS9
                go_simp
                try with_reducible rfl
              try simp only [Act.put, List.setIfInBounds_toArray, List.set_cons_zero, List.set_cons_succ]
              refine wpAnyH_take (i := 11) (oi := { dst := some 42, op := _, type := _, pos := _, after := _, guard := _ }) (v := ?v119) rfl (by kernel_rfl) (by kernel_rfl) (by kernel_rfl) (fun _ _ _ h => h) (Or.inl ⟨by rfl, ?hy119⟩) (by assumption) ?rest119
              case hy119 =>
                intro w9 hS9
                obtain ⟨-, hS9⟩ := hS9
                go_simp
                try with_reducible rfl
              try simp only [Act.put, List.setIfInBounds_toArray, List.set_cons_zero, List.set_cons_succ]
              refine wpAnyH_take (i := 12) (oi := { dst := some 43, op := _, type := _, pos := _, after := _, guard := _ }) (v := ?v120) rfl (by kernel_rfl) (by kernel_rfl) (by kernel_rfl) (fun _ _ _ h => h) (Or.inl ⟨by rfl, ?hy120⟩) (by assumption) ?rest120
              case hy120 =>
                intro w9 hS9
                obtain ⟨-, hS9⟩ := hS9
                go_simp
                try with_reducible rfl
              try simp only [Act.put, List.setIfInBounds_toArray, List.set_cons_zero, List.set_cons_succ]
              refine wpAnyH_take (i := 13) (oi := { dst := some 44, op := _, type := _, pos := _, after := _, guard := _ }) (v := ?v121) rfl (by kernel_rfl) (by kernel_rfl) (by kernel_rfl) (fun _ _ _ h => h) (Or.inl ⟨by rfl, ?hy121⟩) (by assumption) ?rest121
              case hy121 =>
                intro w9 hS9
                obtain ⟨-, hS9⟩ := hS9
                go_simp
                try with_reducible rfl
              try simp only [Act.put, List.setIfInBounds_toArray, List.set_cons_zero, List.set_cons_succ]
              refine wpAnyH_take (i := 14) (oi := { dst := some 45, op := _, type := _, pos := _, after := _, guard := _ }) (v := ?v122) rfl (by kernel_rfl) (by kernel_rfl) (by kernel_rfl) (fun _ _ _ h => h) (Or.inl ⟨by rfl, ?hy122⟩) (by assumption) ?rest122
              case hy122 =>
                intro w9 hS9
                obtain ⟨-, hS9⟩ := hS9
                go_simp
                try with_reducible rfl
              try simp only [Act.put, List.setIfInBounds_toArray, List.set_cons_zero, List.set_cons_succ]
              refine wpAnyH_take (i := 15) (oi := { dst := some 46, op := _, type := _, pos := _, after := _, guard := _ }) (v := ?v123) rfl (by kernel_rfl) (by kernel_rfl) (by kernel_rfl) (fun _ _ _ h => h) (Or.inl ⟨by rfl, ?hy123⟩) (by assumption) ?rest123
              case hy123 =>
                intro w9 hS9
                obtain ⟨-, hS9⟩ := hS9
                go_simp
                try with_reducible rfl
              try simp only [Act.put, List.setIfInBounds_toArray, List.set_cons_zero, List.set_cons_succ]
              refine wpAnyH_take (i := 16) (oi := { dst := some 47, op := _, type := _, pos := _, after := _, guard := _ }) (v := ?v124) rfl (by kernel_rfl) (by kernel_rfl) (by kernel_rfl) (fun _ _ _ h => h) (Or.inl ⟨by rfl, ?hy124⟩) (by assumption) ?rest124
              case hy124 =>
                intro w9 hS9
                obtain ⟨-, hS9⟩ := hS9
                go_simp
                try with_reducible rfl
              try simp only [Act.put, List.setIfInBounds_toArray, List.set_cons_zero, List.set_cons_succ]
              refine wpAnyH_take (i := 17) (oi := { dst := some 48, op := _, type := _, pos := _, after := _, guard := _ }) (v := ?v125) rfl (by kernel_rfl) (by kernel_rfl) (by kernel_rfl) (fun _ _ _ h => h) (Or.inl ⟨by rfl, ?hy125⟩) (by assumption) ?rest125
              case hy125 =>
                intro w9 hS9
                obtain ⟨-, hS9⟩ := hS9
                go_simp
                try with_reducible rfl
              try simp only [Act.put, List.setIfInBounds_toArray, List.set_cons_zero, List.set_cons_succ]
              refine wpAnyH_take (i := 18) (oi := { dst := some 49, op := _, type := _, pos := _, after := _, guard := _ }) (v := ?v126) rfl (by kernel_rfl) (by kernel_rfl) (by kernel_rfl) (fun _ _ _ h => h) (Or.inl ⟨by rfl, ?hy126⟩) (by assumption) ?rest126
              case hy126 =>
                intro w9 hS9
                obtain ⟨-, hS9⟩ := hS9
                go_simp
                try with_reducible rfl
              try simp only [Act.put, List.setIfInBounds_toArray, List.set_cons_zero, List.set_cons_succ]
              refine wpAnyH_take (i := 19) (oi := { dst := some 50, op := _, type := _, pos := _, after := _, guard := _ }) (v := ?v127) rfl (by kernel_rfl) (by kernel_rfl) (by kernel_rfl) (fun _ _ _ h => h) (Or.inl ⟨by rfl, ?hy127⟩) (by assumption) ?rest127
              case hy127 =>
                intro w9 hS9
                obtain ⟨-, hS9⟩ := hS9
                go_simp
                try with_reducible rfl
              try simp only [Act.put, List.setIfInBounds_toArray, List.set_cons_zero, List.set_cons_succ]
              refine wpAnyH_take (i := 20) (oi := { dst := some 51, op := _, type := _, pos := _, after := _, guard := _ }) (v := ?v128) rfl (by kernel_rfl) (by kernel_rfl) (by kernel_rfl) (fun _ _ _ h => h) (Or.inl ⟨by rfl, ?hy128⟩) (by assumption) ?rest128
              case hy128 =>
                intro w9 hS9
                obtain ⟨-, hS9⟩ := hS9
                go_simp
                try with_reducible rfl
              try simp only [Act.put, List.setIfInBounds_toArray, List.set_cons_zero, List.set_cons_succ]
              refine wpAnyH_take (i := 21) (oi := { dst := some 52, op := _, type := _, pos := _, after := _, guard := _ }) (v := ?v129) rfl (by kernel_rfl) (by kernel_rfl) (by kernel_rfl) (fun _ _ _ h => h) (Or.inl ⟨by rfl, ?hy129⟩) (by assumption) ?rest129
              case hy129 =>
                intro w9 hS9
                obtain ⟨-, hS9⟩ := hS9
                go_simp
                try with_reducible rfl
              try simp only [Act.put, List.setIfInBounds_toArray, List.set_cons_zero, List.set_cons_succ]
              refine wpAnyH_done (by kernel_rfl) ?_ _
              clear hHeld
              go_wp2
              go_ret
              exact ⟨ret_b HN.out.symm, HBn.out _ HB.out⟩
    · have HY : Hid (okEs ns = true) := es_yes (fun t ht => HA.out t (by rw [HP.out] at ht; omega))
      go_wp2
      go_ret
      exact ⟨ret_b HY.out.symm, HG0.out⟩

set_option maxHeartbeats 1000000 in
theorem specTxn_nil (w : World) (z : Int) (ao : Option Addr) (cap : Nat) (hz1 : ¬ z < 1) (hz2 : ¬ 2147483647 < z) :
    Calls Tryd.prog 108 #[.agg #[.int .i64 z, .slice ao 0 cap]] w fun e w' => e = .returned (.bool true) ∧ Below w.heap.size w w' := by
  go_enter Tryd.func108, Tryd.ntmps108
  go_wp2
  go_rounds 1
  go_ret
  exact ⟨rfl, (Below.refl _ _).alloc (Nat.le_refl _) _⟩

set_option maxHeartbeats 1000000 in
theorem specTxn_no (w : World) (z : Int) (ao : Option Addr) (n cap : Nat) (h : z < 1 ∨ 2147483647 < z ∨ 1000 < n) :
    Calls Tryd.prog 108 #[.agg #[.int .i64 z, .slice ao n cap]] w fun e w' => e = .returned (.bool false) ∧ Below w.heap.size w w' := by
  by_cases h1 : z < 1
  · clear h
    go_enter Tryd.func108, Tryd.ntmps108
    go_wp2
    go_ret
    exact ⟨rfl, (Below.refl _ _).alloc (Nat.le_refl _) _⟩
  · by_cases h2 : 2147483647 < z
    · clear h
      go_enter Tryd.func108, Tryd.ntmps108
      go_wp2
      go_ret
      exact ⟨rfl, (Below.refl _ _).alloc (Nat.le_refl _) _⟩
    · have h3 : (1000 : Int) < (n : Int) := by omega
      clear h
      go_enter Tryd.func108, Tryd.ntmps108
      go_wp2
      go_ret
      exact ⟨rfl, (Below.refl _ _).alloc (Nat.le_refl _) _⟩

theorem specTxn_any (w : World) (z : Int) (v : Value) (ns : List Ef) (h : RdE w v ns) (hsz : ∀ i, (eAt ns i).nd.path.size ≤ 1048576 ∧ (eAt ns i).nd.data.size ≤ 1048576) :
    Calls Tryd.prog 108 #[.agg #[.int .i64 z, v]] w fun e w' => e = .returned (.bool (okTxn z ns)) ∧ Below w.heap.size w w' := by
  obtain ⟨ao, cap, rfl, k1, k2, k3⟩ := h
  by_cases hl : z < 1 ∨ 2147483647 < z ∨ 1000 < ns.length
  · have : okTxn z ns = false := by
      unfold okTxn
      rcases hl with hl | hl | hl
      · rw [decide_eq_false (show ¬ 1 ≤ z by omega)]; rfl
      · rw [decide_eq_false (show ¬ z ≤ 2147483647 by omega)]; simp
      · rw [decide_eq_false (show ¬ ns.length ≤ 1000 by omega)]; simp
    rw [this]
    exact specTxn_no w z ao ns.length cap hl
  · have : okTxn z ns = okEs ns := by unfold okTxn; rw [decide_eq_true (show 1 ≤ z by omega), decide_eq_true (show z ≤ 2147483647 by omega), decide_eq_true (show ns.length ≤ 1000 by omega)]; rfl
    rw [this]
    rcases k3 with rfl | ⟨b, o, rfl, hb, hc⟩
    · exact specTxn_nil w z ao cap (by omega) (by omega)
    · exact specTxn_row w z b o ns.length cap ns (by omega) (by omega) rfl (by omega) hb hsz hc

end Go.Proofs.YtcopcegamadkgaaDoor

namespace Go.Proofs.YtcopcegamadkgaaDoor
open Go.RowKit Go.Shelf

/-- A local transaction, of a type. -/
def BxX (w : World) (B : Nat) (t : TypeId) (z : Int) (v : Value) : Prop := w.heap[B]? = some (.cells #[.int .i64 z, v] t (0, 0))
theorem BxX.lt {w : World} {B : Nat} {t : TypeId} {z : Int} {v : Value} (h : BxX w B t z v) : B < w.heap.size := (Array.getElem?_eq_some_iff.1 h).1
theorem BxX.new (w : World) (t : TypeId) (z : Int) (v : Value) : BxX (w.alloc (.cells #[.int .i64 z, v] t)) w.heap.size t z v := heap_alloc_new w _
theorem BxX.later {w w' : World} {B : Nat} {t : TypeId} {z : Int} {v : Value} (hb : Below w.heap.size w w') (h : BxX w B t z v) : BxX w' B t z v := (hb.block _ h.lt).trans h
theorem BxX.cells {w : World} {B : Nat} {t : TypeId} {z : Int} {v : Value} (h : BxX w B t z v) : w.cell? ⟨B, 0, none⟩ = some (.int .i64 z) ∧ w.cell? ⟨B, 1, none⟩ = some v := ⟨(cell_of h _).trans rfl, (cell_of h _).trans rfl⟩
end Go.Proofs.YtcopcegamadkgaaDoor

namespace Go.Proofs.YtcopcegamadkgaaDoor
open Go.RowKit Go.Shelf

/-- The boxes of a call of ApplyTxn. -/
structure ApB (s : Nat) (v : Value) (z : Int) (vx : Value) (W : World) : Prop where
  t : Boxed W s 36 v
  x : BxX W (s + 1) 106 z vx
  r : Boxed W (s + 2) 36 (.slice none 0 0)
theorem ApB.new (w : World) (v : Value) (z : Int) (vx : Value) : ApB w.heap.size v z vx (((w.alloc (.cells #[v] 36)).alloc (.cells #[.int .i64 z, vx] 106)).alloc (.cells #[.slice none 0 0] 36)) := by
  have s1 : (w.alloc (.cells #[v] 36)).heap.size = w.heap.size + 1 := by simp
  have s2 : ((w.alloc (.cells #[v] 36)).alloc (.cells #[.int .i64 z, vx] 106)).heap.size = w.heap.size + 2 := by simp
  have h2 := BxX.new (w.alloc (.cells #[v] 36)) 106 z vx
  rw [s1] at h2
  have h3 := Boxed.new ((w.alloc (.cells #[v] 36)).alloc (.cells #[.int .i64 z, vx] 106)) 36 (.slice none 0 0)
  rw [s2] at h3
  exact ⟨((Boxed.new w _ _).alloc _).alloc _, h2.later ((Below.refl _ _).alloc (Nat.le_refl _) _), h3⟩
theorem ApB.below {s m : Nat} {v : Value} {z : Int} {vx : Value} {W W' : World} (h : ApB s v z vx W) (hb : Below m W W') (hm : s + 3 ≤ m) : ApB s v z vx W' :=
  ⟨(hb.block _ (by omega)).trans h.t, (hb.block _ (by omega)).trans h.x, (hb.block _ (by omega)).trans h.r⟩
theorem ApB.size {s : Nat} {v : Value} {z : Int} {vx : Value} {W : World} (h : ApB s v z vx W) : s + 3 ≤ W.heap.size := by have := h.r.lt; omega

set_option maxHeartbeats 1000000 in
set_option maxRecDepth 100000 in
theorem specApply_any (w : World) (v : Value) (ns : List Nd) (z : Int) (vx : Value) (es : List Ef) (h : RdN w v ns) (hx : RdE w vx es) (hn : ns.length ≤ 1048576)
    (hsz : ∀ i, (nAt ns i).path.size ≤ 1048576 ∧ (nAt ns i).data.size ≤ 1048576) (hsx : ∀ i, (eAt es i).nd.path.size ≤ 1048576 ∧ (eAt es i).nd.data.size ≤ 1048576) :
    Calls Tryd.prog 69 #[.agg #[v], .agg #[.int .i64 z, vx]] w fun e w' => ∃ v', e = .returned (.agg #[v']) ∧ OwnN 84 w' w.heap.size v' (resA ns z es) ∧ Below w.heap.size w w' := by
  obtain ⟨ao, ca, rfl, _, _⟩ := h.len
  obtain ⟨xo, cx, rfl, _, _⟩ := hx.len
  have HR : Hid (RdN w (.slice ao ns.length ca) ns) := h
  have HX : Hid (RdE w (.slice xo es.length cx) es) := hx
  have HZ : Hid (∀ i, (nAt ns i).path.size ≤ 1048576 ∧ (nAt ns i).data.size ≤ 1048576) := hsz
  have HZX : Hid (∀ i, (eAt es i).nd.path.size ≤ 1048576 ∧ (eAt es i).nd.data.size ≤ 1048576) := hsx
  have B0 : Hid (Below w.heap.size w (((w.alloc (.cells #[.slice ao ns.length ca] 36)).alloc (.cells #[.int .i64 z, .slice xo es.length cx] 106)).alloc (.cells #[.slice none 0 0] 36))) := (((Below.refl _ _).alloc (Nat.le_refl _) _).alloc (by simp) _).alloc (by simp; omega) _
  have X0 : Hid (ApB w.heap.size (.slice ao ns.length ca) z (.slice xo es.length cx) (((w.alloc (.cells #[.slice ao ns.length ca] 36)).alloc (.cells #[.int .i64 z, .slice xo es.length cx] 106)).alloc (.cells #[.slice none 0 0] 36))) := ApB.new _ _ _ _
  clear h hx hsz hsx
  go_enter Tryd.func69, Tryd.ntmps69
  go_wp2_with fail
  generalize ((w.alloc (.cells #[.slice ao ns.length ca] 36)).alloc (.cells #[.int .i64 z, .slice xo es.length cx] 106)).alloc (.cells #[.slice none 0 0] 36) = w0 at *
  refine (specTree_any _ _ ns (HR.out.below B0.out) hn HZ.out).mono ?_
  rintro e w1 ⟨rfl, b1⟩
  have B1 : Hid (Below w.heap.size w w1) := B0.out.trans (b1.mono B0.out.size)
  have X1 : Hid (ApB w.heap.size (.slice ao ns.length ca) z (.slice xo es.length cx) w1) := X0.out.below b1 X0.out.size
  clear b1 X0 B0
  by_cases hok : okTree ns = true
  rotate_left
  · have hok' : okTree ns = false := by simpa using hok
    have HT : Hid (resA ns z es = []) := by show _ = _; unfold resA; rw [hok']; rfl
    rw [hok']
    clear hok hok'
    have c0 := X1.out.r.cell
    have f0 := X1.out.r.frozen
    go_wp2
    refine bodyPost_ret (v := .agg #[.slice none 0 0]) (by simp [results, Tryd.results69, go_sem, c0]) rfl ⟨_, rfl, (by rw [HT.out]; exact World.ownsRow_nil _ _ _ _), ?_⟩
    repeat (first | exact B1.out | refine Below.setCell ?_ (by simp; try omega) _)
  rw [hok]
  have cx0 := X1.out.x.cells
  go_wp2_with fail
  clear cx0
  refine (specTxn_any _ _ _ es (HX.out.below B1.out) HZX.out).mono ?_
  rintro e w2 ⟨rfl, b2⟩
  have B2 : Hid (Below w.heap.size w w2) := B1.out.trans (b2.mono B1.out.size)
  have X2 : Hid (ApB w.heap.size (.slice ao ns.length ca) z (.slice xo es.length cx) w2) := X1.out.below b2 X1.out.size
  clear b2 X1 B1
  by_cases hpp : okTxn z es = true
  rotate_left
  · have hpp' : okTxn z es = false := by simpa using hpp
    have HT : Hid (resA ns z es = []) := by show _ = _; unfold resA; rw [hpp']; simp
    rw [hpp']
    clear hpp hpp' hok
    have c0 := X2.out.r.cell
    have f0 := X2.out.r.frozen
    go_wp2
    refine bodyPost_ret (v := .agg #[.slice none 0 0]) (by simp [results, Tryd.results69, go_sem, c0]) rfl ⟨_, rfl, (by rw [HT.out]; exact World.ownsRow_nil _ _ _ _), ?_⟩
    repeat (first | exact B2.out | refine Below.setCell ?_ (by simp; try omega) _)
  have hn1 : ns.length ≤ 1000 := okTree_len hok
  have he1 : es.length ≤ 1000 := (okTxn_es hpp).2
  have HT : Hid (resA ns z es = apL ns es) := by show _ = _; unfold resA; rw [hok, hpp]; rfl
  have HA : Hid (Asc ns) := okTree_asc hok
  have HE : Hid (AscE es) := okEs_asc (okTxn_es hpp).1
  have HW0 : Hid (woN ns { data := #[] } = ns) := wo_empty (fun k hk => okTree_nd hok k hk) _ (by rw [ByteArray.toList_eq])
  rw [hpp]
  clear hok hpp
  have ct := X2.out.t.cell
  go_wp2_with fail
  clear ct
  refine (without_any _ _ ns _ (HR.out.below B2.out) (by omega)).mono ?_
  rintro e w3 ⟨v3, rfl, o3, b3⟩
  have B3 : Hid (Below w.heap.size w w3) := B2.out.trans (b3.mono B2.out.size)
  have X3 : Hid (ApB w.heap.size (.slice ao ns.length ca) z (.slice xo es.length cx) w3) := X2.out.below b3 X2.out.size
  have O3 : Hid (OwnN 84 w3 (w.heap.size + 3) v3 (apL ns (es.take 0))) := by
    have := o3.mono X2.out.size
    rw [HW0.out] at this
    exact this
  clear o3 b3 X2 B2 HW0
  generalize hen : es.length = n at *
  have HP : Hid (es.length = n) := hen
  clear hen
  go_wp2
  go_loopw [5, 6] (fun vo vk wr => ∃ k : Nat, k ≤ n ∧ vk = .int .i64 k ∧ Hid (OwnN 84 wr (w.heap.size + 3) vo (apL ns (es.take k))) ∧ Hid (Below w.heap.size w wr) ∧ Hid (ApB w.heap.size (.slice ao ns.length ca) z (.slice xo n cx) wr)) (fun _ i _ => n - (intOf i).toNat)
  case atStart => exact ⟨0, Nat.zero_le _, rfl, O3, B3, X3⟩
  case round =>
    obtain ⟨k, hk, rfl, HW, HB, HBX⟩ := hrel
    have sB := HBX.out.size
    obtain ⟨y0, y1⟩ := HBX.out.x.cells
    by_cases hlt : k < n
    · have hltI : (k : Int) < (n : Int) := by omega
      obtain ⟨b, o, hao, hb, hc⟩ : ∃ b o, xo = some ⟨b, o, none⟩ ∧ b < w.heap.size ∧ CellsE w b (o + k * 8) (eAt es k) := by
        obtain ⟨ao', cap', e', -, -, h3⟩ := HX.out
        simp only [Value.slice.injEq] at e'
        obtain ⟨rfl, -, -⟩ := e'
        rcases h3 with h3 | ⟨b, o, rfl, hb, hc⟩
        · have := HP.out; rw [h3] at this; simp at this; omega
        · exact ⟨b, o, rfl, hb, hc k (by rw [HP.out]; exact hlt)⟩
      subst hao
      obtain ⟨c0, c1, c2, c3, c4, c5, c6, c7⟩ := hc.below HB.out hb
      clear hc
      have hll : (apL ns (es.take k)).length ≤ 100000 := by
        have := apL_len HA.out HE.out k
        omega
      have HS : Hid (apL ns (es.take (k + 1)) = apQ (apL ns (es.take k)) (eAt es k)) := apL_succ ns es k (by rw [HP.out]; exact hlt)
      have HQ : Hid (apQ (apL ns (es.take k)) (eAt es k) = if (eAt es k).del then woN (apL ns (es.take k)) (eAt es k).nd.path else wiN (apL ns (es.take k)) (eAt es k).nd) := rfl
      cases hA : (eAt es k).del with
      | true =>
        rw [hA] at c0
        go_wp2_with fail
        refine (without_any _ _ _ _ HW.out.rd (by omega)).mono ?_
        rintro e w4 ⟨v4, rfl, o4, b4⟩
        have B4 : Hid (Below w.heap.size w w4) := HB.out.trans (b4.mono HB.out.size)
        have X4 : Hid (ApB w.heap.size (.slice ao ns.length ca) z (.slice (some ⟨b, o, none⟩) n cx) w4) := HBX.out.below b4 sB
        have O4 : Hid (OwnN 84 w4 (w.heap.size + 3) v4 (apL ns (es.take (k + 1)))) := by
          rw [HS.out, HQ.out, hA]
          exact o4.mono sB
        clear o4 b4 HS HQ hA HW HB HBX c0 c1 c2 c3 c4 c5 c6 c7 y0 y1
        go_wp2
        exact ⟨⟨k + 1, by omega, by go_num, O4, B4, X4⟩, by simp [intOf]; omega⟩
      | false =>
        rw [hA] at c0
        go_wp2_with fail
        refine (with_any _ _ _ _ HW.out.rd hll).mono ?_
        rintro e w4 ⟨v4, rfl, o4, b4⟩
        have B4 : Hid (Below w.heap.size w w4) := HB.out.trans (b4.mono HB.out.size)
        have X4 : Hid (ApB w.heap.size (.slice ao ns.length ca) z (.slice (some ⟨b, o, none⟩) n cx) w4) := HBX.out.below b4 sB
        have O4 : Hid (OwnN 84 w4 (w.heap.size + 3) v4 (apL ns (es.take (k + 1)))) := by
          rw [HS.out, HQ.out, hA]
          exact o4.mono sB
        clear o4 b4 HS HQ hA HW HB HBX c0 c1 c2 c3 c4 c5 c6 c7 y0 y1
        go_wp2
        exact ⟨⟨k + 1, by omega, by go_num, O4, B4, X4⟩, by simp [intOf]; omega⟩
    · have hkn : k = n := by omega
      subst hkn
      have c0 := HBX.out.r.cell
      have f0 := HBX.out.r.frozen
      have HF : Hid (OwnN 84 wr (w.heap.size + 3) u5 (resA ns z es)) := by
        have := HW.out
        rw [List.take_of_length_le (by rw [HP.out]; exact Nat.le_refl _)] at this
        rw [HT.out]
        exact this
      clear HW
      obtain ⟨a5, c5, rfl⟩ := HF.out.slice
      go_wp2
      refine bodyPost_ret (v := .agg #[.slice a5 (resA ns z es).length c5]) (by simp [results, Tryd.results69, go_sem, c0]) rfl ⟨_, rfl, ?_, ?_⟩
      · refine OwnN.mono ?_ (show w.heap.size ≤ w.heap.size + 3 by omega)
        repeat (first | exact HF.out | refine OwnN.setBelow ?_ (by simp; try omega) _)
      · repeat (first | exact HB.out | refine Below.setCell ?_ (by simp; try omega) _)

end Go.Proofs.YtcopcegamadkgaaDoor

namespace Go.Proofs.YtcopcegamadkgaaDoor
open Go.RowKit

/-- One node of the call's own in block B. -/
def Node7 (w : World) (B : Nat) (p d : ByteArray) (a b c e f : Int) : Prop :=
  w.heap[B]? = some (.cells #[.string p, .string d, .int .i64 a, .int .i64 b, .int .i64 c, .int .i64 e, .int .i64 f] 84 (0, 0))

theorem Node7.lt {w : World} {B : Nat} {p d : ByteArray} {a b c e f : Int} (h : Node7 w B p d a b c e f) : B < w.heap.size := (Array.getElem?_eq_some_iff.1 h).1
theorem Node7.below {w w' : World} {B : Nat} {p d : ByteArray} {a b c e f : Int} (h : Node7 w B p d a b c e f) (hb : Below w.heap.size w w') : Node7 w' B p d a b c e f := (hb.block B h.lt).trans h

def slashT : ByteArray := ⟨#[47]⟩
def empty : ByteArray := ⟨#[]⟩

set_option maxHeartbeats 400000 in
theorem implNewTree_any (w : World) : Calls Tryd.prog 20 #[] w fun e w' => e = .returned (.agg #[.slice (some ⟨w.heap.size + 1, 0, none⟩) 1 1]) ∧ Node7 w' (w.heap.size + 1) slashT empty 0 0 0 0 0 ∧ Below w.heap.size w w' := by
  go_enter Tryd.func20, Tryd.ntmps20
  go_wp2
  refine bodyPost_ret (v := .agg #[.slice (some ⟨w.heap.size + 1, 0, none⟩) 1 1]) (by simp [results, Tryd.results20, go_sem]) rfl ⟨rfl, ?_, ((Below.refl _ _).alloc (Nat.le_refl _) _).alloc (by simp) _⟩
  have := heap_alloc_new (w.alloc (.cells #[.slice (some ⟨w.heap.size + 1, 0, none⟩) 1 1] 36)) (.cells #[.string slashT, .string empty, .int .i64 0, .int .i64 0, .int .i64 0, .int .i64 0, .int .i64 0] 84)
  rw [World.size_alloc] at this
  exact this

set_option maxHeartbeats 400000 in
theorem specNewTree_any (w : World) : Calls Tryd.prog 35 #[] w fun e w' => e = .returned (.agg #[.slice (some ⟨w.heap.size + 1, 0, none⟩) 1 1]) ∧ Node7 w' (w.heap.size + 1) slashT empty 0 0 0 0 0 ∧ Below w.heap.size w w' := by
  go_enter Tryd.func35, Tryd.ntmps35
  go_wp2
  refine bodyPost_ret (v := .agg #[.slice (some ⟨w.heap.size + 1, 0, none⟩) 1 1]) (by simp [results, Tryd.results35, go_sem]) rfl ⟨rfl, ?_, ((Below.refl _ _).alloc (Nat.le_refl _) _).alloc (by simp) _⟩
  have := heap_alloc_new (w.alloc (.cells #[.slice (some ⟨w.heap.size + 1, 0, none⟩) 1 1] 36)) (.cells #[.string slashT, .string empty, .int .i64 0, .int .i64 0, .int .i64 0, .int .i64 0, .int .i64 0] 84)
  rw [World.size_alloc] at this
  exact this

theorem Node7.c0 {w : World} {B : Nat} {p d : ByteArray} {a b c e f : Int} (h : Node7 w B p d a b c e f) : w.cell? ⟨B, 0, none⟩ = some (.string p) := by
  rw [cell_of_row w B 0 _ _ _ h]; rfl
theorem Node7.f0 {w : World} {B : Nat} {p d : ByteArray} {a b c e f : Int} (h : Node7 w B p d a b c e f) : w.frozen? ⟨B, 0, none⟩ = false := by
  simp [World.frozen?, show w.heap[B]? = _ from h]
theorem Node7.c1 {w : World} {B : Nat} {p d : ByteArray} {a b c e f : Int} (h : Node7 w B p d a b c e f) : w.cell? ⟨B, 1, none⟩ = some (.string d) := by
  rw [cell_of_row w B 1 _ _ _ h]; rfl
theorem Node7.f1 {w : World} {B : Nat} {p d : ByteArray} {a b c e f : Int} (h : Node7 w B p d a b c e f) : w.frozen? ⟨B, 1, none⟩ = false := by
  simp [World.frozen?, show w.heap[B]? = _ from h]
theorem Node7.c2 {w : World} {B : Nat} {p d : ByteArray} {a b c e f : Int} (h : Node7 w B p d a b c e f) : w.cell? ⟨B, 2, none⟩ = some (.int .i64 a) := by
  rw [cell_of_row w B 2 _ _ _ h]; rfl
theorem Node7.f2 {w : World} {B : Nat} {p d : ByteArray} {a b c e f : Int} (h : Node7 w B p d a b c e f) : w.frozen? ⟨B, 2, none⟩ = false := by
  simp [World.frozen?, show w.heap[B]? = _ from h]
theorem Node7.c3 {w : World} {B : Nat} {p d : ByteArray} {a b c e f : Int} (h : Node7 w B p d a b c e f) : w.cell? ⟨B, 3, none⟩ = some (.int .i64 b) := by
  rw [cell_of_row w B 3 _ _ _ h]; rfl
theorem Node7.f3 {w : World} {B : Nat} {p d : ByteArray} {a b c e f : Int} (h : Node7 w B p d a b c e f) : w.frozen? ⟨B, 3, none⟩ = false := by
  simp [World.frozen?, show w.heap[B]? = _ from h]
theorem Node7.c4 {w : World} {B : Nat} {p d : ByteArray} {a b c e f : Int} (h : Node7 w B p d a b c e f) : w.cell? ⟨B, 4, none⟩ = some (.int .i64 c) := by
  rw [cell_of_row w B 4 _ _ _ h]; rfl
theorem Node7.f4 {w : World} {B : Nat} {p d : ByteArray} {a b c e f : Int} (h : Node7 w B p d a b c e f) : w.frozen? ⟨B, 4, none⟩ = false := by
  simp [World.frozen?, show w.heap[B]? = _ from h]
theorem Node7.c5 {w : World} {B : Nat} {p d : ByteArray} {a b c e f : Int} (h : Node7 w B p d a b c e f) : w.cell? ⟨B, 5, none⟩ = some (.int .i64 e) := by
  rw [cell_of_row w B 5 _ _ _ h]; rfl
theorem Node7.f5 {w : World} {B : Nat} {p d : ByteArray} {a b c e f : Int} (h : Node7 w B p d a b c e f) : w.frozen? ⟨B, 5, none⟩ = false := by
  simp [World.frozen?, show w.heap[B]? = _ from h]
theorem Node7.c6 {w : World} {B : Nat} {p d : ByteArray} {a b c e f : Int} (h : Node7 w B p d a b c e f) : w.cell? ⟨B, 6, none⟩ = some (.int .i64 f) := by
  rw [cell_of_row w B 6 _ _ _ h]; rfl
theorem Node7.f6 {w : World} {B : Nat} {p d : ByteArray} {a b c e f : Int} (h : Node7 w B p d a b c e f) : w.frozen? ⟨B, 6, none⟩ = false := by
  simp [World.frozen?, show w.heap[B]? = _ from h]

def m1 : ByteArray := ⟨#[109, 49]⟩
def m2 : ByteArray := ⟨#[109, 50]⟩

theorem Node7.set {w : World} {B : Nat} {cs : Array Value} {t : TypeId} (h : w.heap[B]? = some (.cells cs t (0, 0))) (j : Nat) (u : Value) : (w.setCell ⟨B, j, none⟩ u).heap[B]? = some (.cells (cs.setIfInBounds j u) t (0, 0)) := by
  rw [setCell_eq_setRow w B j cs t (0, 0) u h]
  exact setRow_heap w B cs _ t _ h

end Go.Proofs.YtcopcegamadkgaaDoor

namespace Go.Proofs.YtcopcegamadkgaaDoor
open Go.RowKit

/-- The root alone. -/
def rootN : Nd := ⟨slashT, empty, 0, 0, 0, 0, 0⟩
theorem rdN_root {w : World} {B : Nat} (h : Node7 w B slashT empty 0 0 0 0 0) : RdN w (.slice (some ⟨B, 0, none⟩) 1 1) [rootN] := by
  refine ⟨_, 1, rfl, Nat.le_refl _, by unfold maxLen; omega, .inr ⟨B, 0, rfl, h.lt, fun i hi => ?_⟩⟩
  obtain rfl : i = 0 := by simp at hi; omega
  have hc := fun j => cell_of h j
  refine ⟨?_, ?_, ?_, ?_, ?_, ?_, ?_⟩ <;> simp [hc, nAt, rootN]
theorem root_sz (i : Nat) : (nAt [rootN] i).path.size ≤ 1048576 ∧ (nAt [rootN] i).data.size ≤ 1048576 := by
  cases i with
  | zero => exact ⟨by decide, by decide⟩
  | succ i => exact ⟨by simp [nAt, nd0], by simp [nAt, nd0]⟩
theorem root_ok : okTree [rootN] = true := by decide +kernel

end Go.Proofs.YtcopcegamadkgaaDoor

namespace Go.Proofs.YtcopcegamadkgaaDoor
open Go.RowKit

theorem OwnN.setO {w : World} {lo b j : Nat} {v : Value} {ns : List Nd} (h : OwnN 84 w lo v ns) (hn : v.ownBlock ≠ some b) (u : Value) : OwnN 84 (w.setCell ⟨b, j, none⟩ u) lo v ns := World.ownsRow.kept h (grownBy_set _ _ _ _ _ (World.grownBy.refl _ _)) (.inr hn)
theorem OwnE.slice9 {e : TypeId} {w : World} {lo : Nat} {v : Value} {es : List Ef} (h : OwnE e w lo v es) : ∃ a c, v = .slice a es.length c := by
  obtain ⟨a, c, h0, _⟩ := (OwnE.rd h).len
  exact ⟨a, c, h0⟩
theorem OwnN.slice9 {e : TypeId} {w : World} {lo : Nat} {v : Value} {ns : List Nd} (h : OwnN e w lo v ns) : ∃ a c, v = .slice a ns.length c := by
  obtain ⟨a, c, h0, _⟩ := h.rd.len
  exact ⟨a, c, h0⟩

end Go.Proofs.YtcopcegamadkgaaDoor

