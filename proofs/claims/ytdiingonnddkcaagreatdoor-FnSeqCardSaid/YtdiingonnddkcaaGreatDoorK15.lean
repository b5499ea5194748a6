import Derived.Test.YtdiingonnddkcaaGreatDoorK14
import Derived.Test.YtdiingonnddkcaaGreatDoorK12
import Derived.Deep.AppendLies
namespace Go.Proofs.YtdiingonnddkcaaGreatDoor
open Go.RowKit Go.Shelf

theorem eqL_bytes {a b : ByteArray} (h : (a.toList == b.toList) = true) : a = b := by
  rw [beq_iff_eq, ByteArray.toList_eq, ByteArray.toList_eq] at h
  cases a; cases b
  simp only [ByteArray.mk.injEq] at *
  exact Array.toList_inj.1 h
theorem eqNd_eq {a b : Nd} (h : eqNd a b = true) : a = b := by
  unfold eqNd at h
  simp only [Bool.and_eq_true] at h
  obtain ⟨h1, h2, h3, h4, h5, h6, h7⟩ := h
  have e1 := eqL_bytes h1
  have e2 := eqL_bytes h2
  rw [beq_iff_eq] at h3 h4 h5 h6 h7
  cases a; cases b
  simp_all
theorem ltP_same {a b : ByteArray} (h1 : ltP a b = false) (h2 : ltP b a = false) : (a.toList == b.toList) = true := by
  cases h : (a.toList == b.toList) with
  | true => rfl
  | false => have := ltP_total h1 h; rw [this] at h2; cases h2
theorem plc_zero {a : Nd} {r : List Nd} {p : ByteArray} (h : ltP a.path p = false) : plc (a :: r) p = 0 := by
  unfold plc; rw [List.takeWhile_cons, if_neg (by simp [h])]; rfl
theorem skp_no {a : Nd} {r : List Nd} {p : ByteArray} (h : ltP p a.path = true) : plc (a :: r) p = 0 ∧ skp (a :: r) p = 0 := by
  have h1 := plc_zero (r := r) (ltP_asymm h)
  refine ⟨h1, ?_⟩
  rw [skp_eq, h1]
  have h2 := ltP_gt_ne h
  simp only [List.drop_zero, nAt, List.getD_cons_zero, h2, Bool.and_false, Bool.false_eq_true, if_false]
theorem skp_yes {a : Nd} {r : List Nd} {p : ByteArray} (h : (a.path.toList == p.toList) = true) : plc (a :: r) p = 0 ∧ skp (a :: r) p = 1 := by
  have e := eqL_bytes h
  have h1 := plc_zero (a := a) (r := r) (p := p) (by rw [e]; exact ltP_irr p)
  refine ⟨h1, ?_⟩
  rw [skp_eq, h1]
  simp only [List.drop_zero, nAt, List.getD_cons_zero, h, Bool.and_true, List.length_cons, Nat.zero_lt_succ, decide_true, if_true]
theorem wi_front {P : List Nd} {a b : Nd} {r : List Nd} (hP : ∀ x ∈ P, ltP x.path b.path = true) (h : Asc (a :: r)) (hl : ltP b.path a.path = true) : wiN (P ++ a :: r) b = P ++ b :: a :: r := by
  obtain ⟨h1, h2⟩ := skp_no (r := r) hl
  rw [wi_all P (a :: r) b hP h, h1, h2]; simp
theorem wi_swap {P : List Nd} {a b : Nd} {r : List Nd} (hP : ∀ x ∈ P, ltP x.path b.path = true) (h : Asc (a :: r)) (he : (a.path.toList == b.path.toList) = true) : wiN (P ++ a :: r) b = P ++ b :: r := by
  obtain ⟨h1, h2⟩ := skp_yes (r := r) he
  rw [wi_all P (a :: r) b hP h, h1, h2]; simp
theorem wi_end {P : List Nd} {b : Nd} (hP : ∀ x ∈ P, ltP x.path b.path = true) : wiN P b = P ++ [b] := by
  have := wi_all P [] b hP List.Pairwise.nil
  simpa using this
theorem wo_front {P : List Nd} {a : Nd} {r : List Nd} (hP : ∀ x ∈ P, ltP x.path a.path = true) (h : Asc (a :: r)) : woN (P ++ a :: r) a.path = P ++ r := by
  obtain ⟨h1, h2⟩ := skp_yes (a := a) (r := r) (p := a.path) (by simp)
  rw [wo_all P (a :: r) a.path hP h, h1, h2]; simp
theorem asc_tail {a : Nd} {r : List Nd} (h : Asc (a :: r)) : Asc r ∧ ∀ x ∈ r, ltP a.path x.path = true := ⟨(List.pairwise_cons.1 h).2, (List.pairwise_cons.1 h).1⟩

/-- The difference takes one list to the other. -/
theorem ap_dif (A B : List Nd) : ∀ P : List Nd, Asc A → Asc B → (∀ x ∈ P, ∀ y, y ∈ A ∨ y ∈ B → ltP x.path y.path = true) → apL (P ++ A) (dif A B) = P ++ B := by
  fun_induction dif A B with
  | case1 now =>
    intro P _ hB hP
    induction now generalizing P with
    | nil => simp [apL]
    | cons b now ih =>
      obtain ⟨h1, h2⟩ := asc_tail hB
      have h3 := ih (P ++ [b]) h1 (fun x hx y hy => by
        rcases List.mem_append.1 hx with hx | hx
        · exact hP x hx y (by rcases hy with hy | hy; (exact .inl hy); (exact .inr (List.mem_cons_of_mem _ hy)))
        · simp at hx; subst hx
          rcases hy with hy | hy
          · simp at hy
          · exact h2 y hy)
      show apL (apQ (P ++ []) (putE b)) (now.map putE) = _
      have e1 : apQ (P ++ []) (putE b) = P ++ [b] := by
        unfold apQ putE
        simp only [Bool.false_eq_true, if_false, List.append_nil]
        exact wi_end (fun x hx => hP x hx b (.inr (List.mem_cons_self ..)))
      rw [e1]
      have : apL (P ++ [b] ++ []) (now.map putE) = P ++ [b] ++ now := h3
      simpa using this
  | case2 a was =>
    intro P hA _ hP
    generalize a :: was = L at hA hP ⊢
    induction L with
    | nil => simp [apL]
    | cons a was ih =>
      obtain ⟨h1, h2⟩ := asc_tail hA
      show apL (apQ (P ++ a :: was) (delE a)) (was.map delE) = _
      have e1 : apQ (P ++ a :: was) (delE a) = P ++ was := by
        unfold apQ delE
        simp only [if_true]
        exact wo_front (fun x hx => hP x hx a (.inl (List.mem_cons_self ..))) hA
      rw [e1]
      exact ih h1 (fun x hx y hy => hP x hx y (by rcases hy with hy | hy; (exact .inl (List.mem_cons_of_mem _ hy)); (exact .inr hy)))
  | case3 a was b now hl ih =>
    intro P hA hB hP
    obtain ⟨h1, h2⟩ := asc_tail hB
    show apL (apQ (P ++ a :: was) (putE b)) _ = _
    unfold apQ
    simp only [putE, Bool.false_eq_true, if_false]
    rw [wi_front (fun x hx => hP x hx b (.inr (List.mem_cons_self ..))) hA hl]
    have := ih (P ++ [b]) hA h1 (fun x hx y hy => by
      rcases List.mem_append.1 hx with hx | hx
      · exact hP x hx y (by rcases hy with hy | hy; (exact .inl hy); (exact .inr (List.mem_cons_of_mem _ hy)))
      · simp at hx; subst hx
        rcases hy with hy | hy
        · rcases List.mem_cons.1 hy with rfl | hy
          · exact hl
          · exact ltP_trans hl ((asc_tail hA).2 y hy)
        · exact h2 y hy)
    simpa using this
  | case4 a was b now hl hg ih =>
    intro P hA hB hP
    obtain ⟨h1, h2⟩ := asc_tail hA
    show apL (apQ (P ++ a :: was) (delE a)) _ = _
    unfold apQ
    simp only [delE, if_true]
    rw [wo_front (fun x hx => hP x hx a (.inl (List.mem_cons_self ..))) hA]
    exact ih P h1 hB (fun x hx y hy => hP x hx y (by rcases hy with hy | hy; (exact .inl (List.mem_cons_of_mem _ hy)); (exact .inr hy)))
  | case5 a was b now hl hg he ih =>
    intro P hA hB hP
    have e := eqNd_eq he
    subst e
    obtain ⟨h1, h2⟩ := asc_tail hA
    obtain ⟨h3, h4⟩ := asc_tail hB
    have := ih (P ++ [a]) h1 h3 (fun x hx y hy => by
      rcases List.mem_append.1 hx with hx | hx
      · exact hP x hx y (by rcases hy with hy | hy; (exact .inl (List.mem_cons_of_mem _ hy)); (exact .inr (List.mem_cons_of_mem _ hy)))
      · simp at hx; subst hx
        rcases hy with hy | hy
        · exact h2 y hy
        · exact h4 y hy)
    simpa using this
  | case6 a was b now hl hg he ih =>
    intro P hA hB hP
    obtain ⟨h1, h2⟩ := asc_tail hA
    obtain ⟨h3, h4⟩ := asc_tail hB
    have hs : (a.path.toList == b.path.toList) = true := ltP_same (by simpa using hg) (by simpa using hl)
    show apL (apQ (P ++ a :: was) (putE b)) _ = _
    unfold apQ
    simp only [putE, Bool.false_eq_true, if_false]
    rw [wi_swap (fun x hx => hP x hx b (.inr (List.mem_cons_self ..))) hA hs]
    have := ih (P ++ [b]) h1 h3 (fun x hx y hy => by
      rcases List.mem_append.1 hx with hx | hx
      · exact hP x hx y (by rcases hy with hy | hy; (exact .inl (List.mem_cons_of_mem _ hy)); (exact .inr (List.mem_cons_of_mem _ hy)))
      · simp at hx; subst hx
        rcases hy with hy | hy
        · have := h2 y hy
          rw [eqL_bytes hs] at this
          exact this
        · exact h4 y hy)
    simpa using this
theorem ap_dif0 {A B : List Nd} (hA : Asc A) (hB : Asc B) : apL A (dif A B) = B := by
  have := ap_dif A B [] hA hB (fun x hx => by simp at hx)
  simpa using this

/-- Effects that lie above a path. -/
theorem dif_above (p : ByteArray) (A B : List Nd) : (∀ x, x ∈ A ∨ x ∈ B → ltP p x.path = true) → ∀ e ∈ dif A B, ltP p e.nd.path = true := by
  fun_induction dif A B with
  | case1 now => intro h e he; obtain ⟨b, hb, rfl⟩ := List.mem_map.1 he; exact h b (.inr hb)
  | case2 a was => intro h e he; obtain ⟨b, hb, rfl⟩ := List.mem_map.1 he; exact h b (.inl hb)
  | case3 a was b now hl ih =>
    intro h e he
    rcases List.mem_cons.1 he with rfl | he
    · exact h b (.inr (List.mem_cons_self ..))
    · exact ih (fun x hx => h x (by rcases hx with hx | hx; (exact .inl hx); (exact .inr (List.mem_cons_of_mem _ hx)))) e he
  | case4 a was b now hl hg ih =>
    intro h e he
    rcases List.mem_cons.1 he with rfl | he
    · exact h a (.inl (List.mem_cons_self ..))
    · exact ih (fun x hx => h x (by rcases hx with hx | hx; (exact .inl (List.mem_cons_of_mem _ hx)); (exact .inr hx))) e he
  | case5 a was b now hl hg he' ih =>
    intro h e he
    exact ih (fun x hx => h x (by rcases hx with hx | hx; (exact .inl (List.mem_cons_of_mem _ hx)); (exact .inr (List.mem_cons_of_mem _ hx)))) e he
  | case6 a was b now hl hg he' ih =>
    intro h e he
    rcases List.mem_cons.1 he with rfl | he
    · exact h b (.inr (List.mem_cons_self ..))
    · exact ih (fun x hx => h x (by rcases hx with hx | hx; (exact .inl (List.mem_cons_of_mem _ hx)); (exact .inr (List.mem_cons_of_mem _ hx)))) e he
theorem dif_asc (A B : List Nd) : Asc A → Asc B → AscE (dif A B) := by
  fun_induction dif A B with
  | case1 now => intro _ hB; exact List.pairwise_map.2 hB
  | case2 a was => intro hA _; exact List.pairwise_map.2 hA
  | case3 a was b now hl ih =>
    intro hA hB
    obtain ⟨h3, h4⟩ := asc_tail hB
    refine List.Pairwise.cons (fun e he => dif_above b.path _ _ (fun x hx => ?_) e he) (ih hA h3)
    rcases hx with hx | hx
    · rcases List.mem_cons.1 hx with rfl | hx
      · exact hl
      · exact ltP_trans hl ((asc_tail hA).2 x hx)
    · exact h4 x hx
  | case4 a was b now hl hg ih =>
    intro hA hB
    obtain ⟨h1, h2⟩ := asc_tail hA
    refine List.Pairwise.cons (fun e he => dif_above a.path _ _ (fun x hx => ?_) e he) (ih h1 hB)
    rcases hx with hx | hx
    · exact h2 x hx
    · rcases List.mem_cons.1 hx with rfl | hx
      · exact hg
      · exact ltP_trans hg ((asc_tail hB).2 x hx)
  | case5 a was b now hl hg he ih => intro hA hB; exact ih (asc_tail hA).1 (asc_tail hB).1
  | case6 a was b now hl hg he ih =>
    intro hA hB
    obtain ⟨h1, h2⟩ := asc_tail hA
    obtain ⟨h3, h4⟩ := asc_tail hB
    have hs : (a.path.toList == b.path.toList) = true := ltP_same (by simpa using hg) (by simpa using hl)
    refine List.Pairwise.cons (fun e he => dif_above b.path _ _ (fun x hx => ?_) e he) (ih h1 h3)
    rcases hx with hx | hx
    · have := h2 x hx
      rw [eqL_bytes hs] at this
      exact this
    · exact h4 x hx
theorem dif_ok (A B : List Nd) : (∀ n ∈ A, okNd n = true) → (∀ n ∈ B, okNd n = true) → ∀ e ∈ dif A B, okEf e = true := by
  have hp : ∀ b : Nd, okNd b = true → okEf (putE b) = true := fun b h => by rw [okEf_false rfl]; exact h
  have hd : ∀ a : Nd, okNd a = true → okEf (delE a) = true := fun a h => by
    rw [okEf_true rfl]
    unfold okNd at h ⊢
    simp only [Bool.and_eq_true] at h ⊢
    simp [delE, nd0, okS, blank, h]
  fun_induction dif A B with
  | case1 now => intro _ hB e he; obtain ⟨b, hb, rfl⟩ := List.mem_map.1 he; exact hp b (hB b hb)
  | case2 a was => intro hA _ e he; obtain ⟨b, hb, rfl⟩ := List.mem_map.1 he; exact hd b (hA b hb)
  | case3 a was b now hl ih =>
    intro hA hB e he
    rcases List.mem_cons.1 he with rfl | he
    · exact hp b (hB b (List.mem_cons_self ..))
    · exact ih hA (fun n hn => hB n (List.mem_cons_of_mem _ hn)) e he
  | case4 a was b now hl hg ih =>
    intro hA hB e he
    rcases List.mem_cons.1 he with rfl | he
    · exact hd a (hA a (List.mem_cons_self ..))
    · exact ih (fun n hn => hA n (List.mem_cons_of_mem _ hn)) hB e he
  | case5 a was b now hl hg he' ih =>
    intro hA hB e he
    exact ih (fun n hn => hA n (List.mem_cons_of_mem _ hn)) (fun n hn => hB n (List.mem_cons_of_mem _ hn)) e he
  | case6 a was b now hl hg he' ih =>
    intro hA hB e he
    rcases List.mem_cons.1 he with rfl | he
    · exact hp b (hB b (List.mem_cons_self ..))
    · exact ih (fun n hn => hA n (List.mem_cons_of_mem _ hn)) (fun n hn => hB n (List.mem_cons_of_mem _ hn)) e he
theorem okEs_of {es : List Ef} (h1 : AscE es) (h2 : ∀ e ∈ es, okEf e = true) : okEs es = true := by
  refine es_yes (fun k hk => ?_)
  have he : ∀ j (hj : j < es.length), eAt es j = es[j] := fun j hj => by unfold eAt; simp [List.getD, hj]
  cases k with
  | zero => rw [okEAt_zero, he 0 hk]; exact h2 _ (List.getElem_mem hk)
  | succ j =>
    rw [okEAt_succ, he _ hk, he j (by omega), h2 _ (List.getElem_mem hk)]
    simpa using List.pairwise_iff_getElem.1 h1 j (j + 1) (by omega) hk (by omega)
/-- The transaction of two sound trees is one, and gives the second. -/
theorem dif_txn {A B : List Nd} {z : Int} (hA : Snd A) (hB : Snd B) (hl : A.length + B.length ≤ 1000) (hz : 1 ≤ z ∧ z ≤ 2147483647) : okTxn z (dif A B) = true := by
  unfold okTxn
  have := dif_len A B
  simp only [Bool.and_eq_true, decide_eq_true_eq]
  exact ⟨⟨⟨hz.1, hz.2⟩, by omega⟩, okEs_of (dif_asc A B hA.1 hB.1) (dif_ok A B hA.2.1 hB.2.1)⟩
theorem resA_dif {A B : List Nd} {z : Int} (hA : Snd A) (hB : Snd B) (hl : A.length + B.length ≤ 1000) (hz : 1 ≤ z ∧ z ≤ 2147483647) : resA A z (dif A B) = B := by
  unfold resA
  rw [okTree_snd.2 hA, dif_txn hA hB hl hz]
  exact ap_dif0 hA.1 hB.1

/-- An operation adds one node at most. -/
theorem wi_len1 {ns : List Nd} (h : Asc ns) (n : Nd) : (wiN ns n).length ≤ ns.length + 1 := by rw [wi_len9 h]; omega
theorem to_len1 {ns : List Nd} (h : Asc ns) (p : ByteArray) (z : Int) : (toN ns p z).length ≤ ns.length := by
  unfold toN
  split
  · rename_i hf
    rw [wi_len9 h, skp_one h ⟨_, (found_mem hf).1, by simp⟩]
    have : 0 < ns.length := by have := (found_mem hf).1; exact List.length_pos_of_mem this
    omega
  · exact Nat.le_refl _
theorem doO_len {ns : List Nd} (h : Asc ns) (o : Op5) (z : Int) : (doO ns o z).2.1.length ≤ ns.length + 1 := by
  unfold doO
  dsimp only
  repeat' split
  all_goals (try (first | exact Nat.le_succ _ | exact Nat.le_refl _))
  · exact Nat.le_trans (to_len1 (asc_wi h _) _ _) (wi_len1 h _)
  · exact Nat.le_trans (to_len1 (asc_wo h _) _ _) (Nat.le_trans (List.length_filter_le _ _) (Nat.le_succ _))
  · exact wi_len1 h _


def op0 : Op5 := ⟨0, ByteArray.empty, ByteArray.empty, 0, false⟩
def oAt (os : List Op5) (i : Nat) : Op5 := os.getD i op0
theorem oAt_get {os : List Op5} {i : Nat} (h : i < os.length) : oAt os i = os[i] := by unfold oAt; simp [List.getD, h]
/-- The cells of an operation. -/
def CellsO (w : World) (b off : Nat) (o : Op5) : Prop :=
  w.cell? ⟨b, off, none⟩ = some (.int .i64 o.kind) ∧ w.cell? ⟨b, off + 1, none⟩ = some (.string o.path) ∧ w.cell? ⟨b, off + 2, none⟩ = some (.string o.data) ∧ w.cell? ⟨b, off + 3, none⟩ = some (.int .i64 o.ver) ∧ w.cell? ⟨b, off + 4, none⟩ = some (.bool o.seq)
theorem CellsO.below {w w' : World} {b off B : Nat} {o : Op5} (h : CellsO w b off o) (hb : Below B w w') (hlt : b < B) : CellsO w' b off o :=
  ⟨(hb.cell (p := ⟨b, off, none⟩) hlt).trans h.1, (hb.cell (p := ⟨b, off + 1, none⟩) hlt).trans h.2.1, (hb.cell (p := ⟨b, off + 2, none⟩) hlt).trans h.2.2.1, (hb.cell (p := ⟨b, off + 3, none⟩) hlt).trans h.2.2.2.1, (hb.cell (p := ⟨b, off + 4, none⟩) hlt).trans h.2.2.2.2⟩
/-- A slice of operations. -/
def RdO (w : World) (v : Value) (os : List Op5) : Prop :=
  ∃ ao cap, v = .slice ao os.length cap ∧ os.length ≤ cap ∧ cap ≤ maxLen ∧
    (os = [] ∨ ∃ b off, ao = some ⟨b, off, none⟩ ∧ b < w.heap.size ∧ ∀ i, i < os.length → CellsO w b (off + i * 5) (oAt os i))
theorem RdO.len {w : World} {v : Value} {os : List Op5} (h : RdO w v os) : ∃ ao cap, v = .slice ao os.length cap ∧ os.length ≤ cap ∧ cap ≤ maxLen := by
  obtain ⟨ao, cap, h0, h1, h2, _⟩ := h
  exact ⟨ao, cap, h0, h1, h2⟩
theorem RdO.below {w w' : World} {v : Value} {os : List Op5} (h : RdO w v os) (hb : Below w.heap.size w w') : RdO w' v os := by
  obtain ⟨ao, cap, rfl, h1, h2, h3⟩ := h
  refine ⟨ao, cap, rfl, h1, h2, ?_⟩
  rcases h3 with h3 | ⟨b, off, rfl, hlt, hc⟩
  · exact .inl h3
  · exact .inr ⟨b, off, rfl, Nat.lt_of_lt_of_le hlt hb.size, fun i hi => (hc i hi).below hb hlt⟩

/-- The operations of a request, one behind another: code, index, nodes, names. -/
def runO (z : Int) : List Op5 → List Nd → Nat → List ByteArray → Int × Nat × List Nd × List ByteArray
  | [], ns, i, nm => (0, i, ns, nm)
  | o :: os, ns, i, nm => if (doO ns o z).1 ≠ 0 then ((doO ns o z).1, i, ns, nm) else runO z os (doO ns o z).2.1 (i + 1) (nm ++ [(doO ns o z).2.2])
theorem runO_bad {z : Int} {os : List Op5} {ns : List Nd} {i : Nat} {nm : List ByteArray} {j : Nat} (hj : j < os.length) (h : (doO ns (oAt os j) z).1 ≠ 0) : runO z (os.drop j) ns i nm = ((doO ns (oAt os j) z).1, i, ns, nm) := by
  rw [List.drop_eq_getElem_cons hj, ← oAt_get hj]
  unfold runO
  rw [if_pos h]
theorem runO_good {z : Int} {os : List Op5} {ns : List Nd} {i : Nat} {nm : List ByteArray} {j : Nat} (hj : j < os.length) (h : (doO ns (oAt os j) z).1 = 0) : runO z (os.drop j) ns i nm = runO z (os.drop (j + 1)) (doO ns (oAt os j) z).2.1 (i + 1) (nm ++ [(doO ns (oAt os j) z).2.2]) := by
  rw [List.drop_eq_getElem_cons hj, ← oAt_get hj]
  conv => lhs; unfold runO
  rw [if_neg (by simpa using h)]
def okPrep (ns : List Nd) (os : List Op5) (z : Int) : Bool := okTree ns && (decide (1 ≤ os.length) && (decide (os.length ≤ 64) && (decide (1 ≤ z) && decide (z ≤ 2147483647))))
/-- What Prepare answers to what it can judge. -/
def PrOk (w : World) (ns : List Nd) (z : Int) (res : Int × Nat × List Nd × List ByteArray) (e : Ending) (w' : World) : Prop :=
  Below w.heap.size w w' ∧
    ((res.1 ≠ 0 ∧ e = .returned (.agg #[.int .i64 res.1, .int .i64 (res.2.1 : Int), .slice none 0 0, .int .i64 0, .slice none 0 0])) ∨
     (res.1 = 0 ∧ ∃ vn ve, e = .returned (.agg #[.int .i64 0, .int .i64 0, vn, .int .i64 z, ve]) ∧ w'.ownsRow w.heap.size 9 1 vn res.2.2.2.length (res.2.2.2.map Value.string) ∧ OwnE 59 w' w.heap.size ve (dif ns res.2.2.1)))

/-- The boxes of Prepare: the tree, the request, the answer. -/
def PrB (w : World) (v vo : Value) (W : World) : Prop :=
  Below w.heap.size w W ∧ w.heap.size + 3 ≤ W.heap.size ∧ W.cell? ⟨w.heap.size, 0, none⟩ = some v ∧ W.cell? ⟨w.heap.size + 1, 0, none⟩ = some vo ∧
  (W.cell? ⟨w.heap.size + 2, 0, none⟩ = some (.int .i64 0) ∧ W.cell? ⟨w.heap.size + 2, 1, none⟩ = some (.int .i64 0) ∧ W.cell? ⟨w.heap.size + 2, 2, none⟩ = some (.slice none 0 0) ∧ W.cell? ⟨w.heap.size + 2, 3, none⟩ = some (.int .i64 0) ∧ W.cell? ⟨w.heap.size + 2, 4, none⟩ = some (.slice none 0 0)) ∧ ∀ j, W.frozen? ⟨w.heap.size + 2, j, none⟩ = false
theorem PrB.belowB {w : World} {v vo : Value} {W W' : World} {B : Nat} (h : PrB w v vo W) (hb : Below B W W') (hB : w.heap.size + 3 ≤ B) : PrB w v vo W' := by
  obtain ⟨h1, h2, h3, h4, ⟨c0, c1, c2, c3, c4⟩, h6⟩ := h
  have q : w.heap.size + 2 < B := by omega
  exact ⟨h1.trans (hb.mono (by omega)), Nat.le_trans h2 hb.size, (hb.cell (p := ⟨w.heap.size, 0, none⟩) (by show w.heap.size < _; omega)).trans h3, (hb.cell (p := ⟨w.heap.size + 1, 0, none⟩) (by show w.heap.size + 1 < _; omega)).trans h4,
    ⟨(hb.cell (p := ⟨w.heap.size + 2, 0, none⟩) q).trans c0, (hb.cell (p := ⟨w.heap.size + 2, 1, none⟩) q).trans c1, (hb.cell (p := ⟨w.heap.size + 2, 2, none⟩) q).trans c2, (hb.cell (p := ⟨w.heap.size + 2, 3, none⟩) q).trans c3, (hb.cell (p := ⟨w.heap.size + 2, 4, none⟩) q).trans c4⟩, fun j => (hb.frozen (p := ⟨w.heap.size + 2, j, none⟩) q).trans (h6 j)⟩
theorem PrB.below {w : World} {v vo : Value} {W W' : World} (h : PrB w v vo W) (hb : Below W.heap.size W W') : PrB w v vo W' := h.belowB hb h.2.1
theorem PrB.new (w : World) (v vo : Value) (t1 t2 t3 : TypeId) : PrB w v vo (((w.alloc (.cells #[v] t1)).alloc (.cells #[vo] t2)).alloc (.cells #[.int .i64 0, .int .i64 0, .slice none 0 0, .int .i64 0, .slice none 0 0] t3)) := by
  refine ⟨(((Below.refl _ _).alloc (Nat.le_refl _) _).alloc (by simp) _).alloc (by simp; omega) _, by simp, by go_simp, by go_simp, ?_, fun j => by go_simp⟩
  have e : ((w.alloc (.cells #[v] t1)).alloc (.cells #[vo] t2)).heap.size = w.heap.size + 2 := by simp
  have h1 : (((w.alloc (.cells #[v] t1)).alloc (.cells #[vo] t2)).alloc (.cells #[.int .i64 0, .int .i64 0, .slice none 0 0, .int .i64 0, .slice none 0 0] t3)).heap[w.heap.size + 2]? = some (.cells #[.int .i64 0, .int .i64 0, .slice none 0 0, .int .i64 0, .slice none 0 0] t3) := by
    rw [← e]; exact heap_alloc_new _ _
  exact ⟨(cell_of h1 _).trans rfl, (cell_of h1 _).trans rfl, (cell_of h1 _).trans rfl, (cell_of h1 _).trans rfl, (cell_of h1 _).trans rfl⟩

set_option maxHeartbeats 4000000 in
set_option maxRecDepth 100000 in
theorem specPrep_bad (w : World) (v vo : Value) (ns : List Nd) (os : List Op5) (z : Int) (h : RdN w v ns) (ho : RdO w vo os) (hn : ns.length ≤ 1048576) (hsz : ∀ i, (nAt ns i).path.size ≤ 1048576 ∧ (nAt ns i).data.size ≤ 1048576) (hb : okPrep ns os z = false) :
    Calls Tryz.prog 9 #[.agg #[v], .agg #[vo], .int .i64 z] w fun e w' => e = .returned (.agg #[.int .i64 9, .int .i64 0, .slice none 0 0, .int .i64 0, .slice none 0 0]) ∧ Below w.heap.size w w' := by
  obtain ⟨ao, ca, rfl, _, _⟩ := h.len
  obtain ⟨bo, cb, rfl, _, _⟩ := ho.len
  have HR : Hid (RdN w (.slice ao ns.length ca) ns) := h
  have HSZ : Hid (∀ i, (nAt ns i).path.size ≤ 1048576 ∧ (nAt ns i).data.size ≤ 1048576) := hsz
  have X0 : Hid (PrB w (.slice ao ns.length ca) (.slice bo os.length cb) (((w.alloc (.cells #[.slice ao ns.length ca] 25)).alloc (.cells #[.slice bo os.length cb] 28)).alloc (.cells #[.int .i64 0, .int .i64 0, .slice none 0 0, .int .i64 0, .slice none 0 0] 37))) := PrB.new _ _ _ _ _ _
  have HBAD : Hid (okPrep ns os z = false) := hb
  clear h ho hsz hb
  go_enter Tryz.func9, Tryz.ntmps9
  go_wp2_with fail
  generalize ((w.alloc (.cells #[.slice ao ns.length ca] 25)).alloc (.cells #[.slice bo os.length cb] 28)).alloc (.cells #[.int .i64 0, .int .i64 0, .slice none 0 0, .int .i64 0, .slice none 0 0] 37) = w0 at *
  obtain ⟨-, -, a0, -⟩ := X0.out
  go_wp2_with fail
  clear a0
  refine (specTree_any _ _ ns (HR.out.below X0.out.1) hn HSZ.out).mono ?_
  rintro e w1 ⟨rfl, b1⟩
  have X1 : Hid (PrB w (.slice ao ns.length ca) (.slice bo os.length cb) w1) := X0.out.below b1
  clear b1 X0
  obtain ⟨-, zz, -, a1, ⟨d0, d1, d2, d3, d4⟩, df⟩ := X1.out
  have f0 := df 0
  have f1 := df 1
  have f2 := df 2
  have f3 := df 3
  have f4 := df 4
  clear df
  have FIN : Hid (∀ W', Below w.heap.size w1 W' → Below w.heap.size w W') := fun W' hW => X1.out.1.trans hW
  have hB := HBAD.out
  unfold okPrep at hB
  clear HBAD X1
  cases ht : okTree ns with
  | false =>
    go_wp2
    refine bodyPost_ret (v := .agg #[.int .i64 9, .int .i64 0, .slice none 0 0, .int .i64 0, .slice none 0 0]) (by simp [results, Tryz.results9, go_sem, d0, d1, d2, d3, d4]) rfl ⟨rfl, FIN.out _ ?_⟩
    repeat (first | exact Below.refl _ _ | refine Below.setCell ?_ (by simp; try omega) _)
  | true =>
    rw [ht, Bool.true_and] at hB
    clear ht
    by_cases h1 : 1 ≤ os.length
    · rw [decide_eq_true h1, Bool.true_and] at hB
      have h1I : ¬ (os.length : Int) < 1 := by omega
      have h1d : decide ((os.length : Int) < 1) = false := by simpa using h1I
      by_cases h2 : os.length ≤ 64
      · rw [decide_eq_true h2, Bool.true_and] at hB
        have h2I : ¬ (64 : Int) < (os.length : Int) := by omega
        have h2d : decide ((64 : Int) < (os.length : Int)) = false := by simpa using h2I
        by_cases h3 : 1 ≤ z
        · rw [decide_eq_true h3, Bool.true_and] at hB
          have h4 : ¬ z ≤ 2147483647 := by simpa using hB
          have h3I : ¬ z < 1 := by omega
          have h3d : decide (z < 1) = false := by simpa using h3I
          have h4I : (2147483647 : Int) < z := by omega
          have h4d : decide ((2147483647 : Int) < z) = true := by simpa using h4I
          clear hB
          go_wp2
          refine bodyPost_ret (v := .agg #[.int .i64 9, .int .i64 0, .slice none 0 0, .int .i64 0, .slice none 0 0]) (by simp [results, Tryz.results9, go_sem, d0, d1, d2, d3, d4]) rfl ⟨rfl, FIN.out _ ?_⟩
          repeat (first | exact Below.refl _ _ | refine Below.setCell ?_ (by simp; try omega) _)
        · have h3I : z < 1 := by omega
          have h3d : decide (z < 1) = true := by simpa using h3I
          clear hB
          go_wp2
          refine bodyPost_ret (v := .agg #[.int .i64 9, .int .i64 0, .slice none 0 0, .int .i64 0, .slice none 0 0]) (by simp [results, Tryz.results9, go_sem, d0, d1, d2, d3, d4]) rfl ⟨rfl, FIN.out _ ?_⟩
          repeat (first | exact Below.refl _ _ | refine Below.setCell ?_ (by simp; try omega) _)
      · have h2I : (64 : Int) < (os.length : Int) := by omega
        have h2d : decide ((64 : Int) < (os.length : Int)) = true := by simpa using h2I
        clear hB
        go_wp2
        refine bodyPost_ret (v := .agg #[.int .i64 9, .int .i64 0, .slice none 0 0, .int .i64 0, .slice none 0 0]) (by simp [results, Tryz.results9, go_sem, d0, d1, d2, d3, d4]) rfl ⟨rfl, FIN.out _ ?_⟩
        repeat (first | exact Below.refl _ _ | refine Below.setCell ?_ (by simp; try omega) _)
    · have h1I : (os.length : Int) < 1 := by omega
      have h1d : decide ((os.length : Int) < 1) = true := by simpa using h1I
      clear hB
      go_wp2
      refine bodyPost_ret (v := .agg #[.int .i64 9, .int .i64 0, .slice none 0 0, .int .i64 0, .slice none 0 0]) (by simp [results, Tryz.results9, go_sem, d0, d1, d2, d3, d4]) rfl ⟨rfl, FIN.out _ ?_⟩
      repeat (first | exact Below.refl _ _ | refine Below.setCell ?_ (by simp; try omega) _)


theorem rowP_below {w w' : World} {lo n m : Nat} {e : TypeId} {v : Value} {us : List Value} (h : w.ownsRow lo e m v n us) (hb : Below w.heap.size w w') : w'.ownsRow lo e m v n us := by
  refine ⟨h.1, ?_⟩
  rcases h.2 with hn | ⟨g, cap, cur, rfl, hbg, hgg, rest⟩
  · exact .inl hn
  · exact .inr ⟨g, cap, cur, rfl, hbg, by rw [hb.block g (Array.getElem?_eq_some_iff.1 hgg).1]; exact hgg, rest⟩
/-- Two values that lie in different blocks. -/
def NotAt (u v : Value) : Prop := ∀ b o n c, u = .slice (some ⟨b, o, none⟩) n c → v.ownBlock ≠ some b
theorem RdN.grown {w w' : World} {v u : Value} {ns : List Nd} (h : RdN w v ns) (hg : w.grownBy w' u.ownBlock) (hne : ns = [] ∨ NotAt v u) : RdN w' v ns := by
  obtain ⟨ao, cap, rfl, h1, h2, h3⟩ := h
  refine ⟨ao, cap, rfl, h1, h2, ?_⟩
  rcases h3 with h3 | ⟨b, off, rfl, hlt, hc⟩
  · exact .inl h3
  · rcases hne with hne | hne
    · exact .inl hne
    refine .inr ⟨b, off, rfl, Nat.lt_of_lt_of_le hlt hg.size, fun i hi => ?_⟩
    have hb := hg.block b hlt (fun e => hne b off _ _ rfl e.symm)
    have q : ∀ j, w'.cell? ⟨b, j, none⟩ = w.cell? ⟨b, j, none⟩ := fun j => World.cell?_of_block (a := ⟨b, j, none⟩) hb
    obtain ⟨c0, c1, c2, c3, c4, c5, c6⟩ := hc i hi
    exact ⟨(q _).trans c0, (q _).trans c1, (q _).trans c2, (q _).trans c3, (q _).trans c4, (q _).trans c5, (q _).trans c6⟩
theorem rowP_mono {w : World} {lo lo' n m : Nat} {e : TypeId} {v : Value} {us : List Value} (h : w.ownsRow lo e m v n us) (hl : lo' ≤ lo) : w.ownsRow lo' e m v n us := by
  refine ⟨h.1, ?_⟩
  rcases h.2 with hn | ⟨g, cap, cur, rfl, hbg, rest⟩
  · exact .inl hn
  · exact .inr ⟨g, cap, cur, rfl, by omega, rest⟩

theorem Tryz.infoStr9 : (Tryz.prog.info? 9).map (fun i => (i.zero, i.size, i.bytes)) = some (some (.string ByteArray.empty), 1, 16) := by kernel_rfl

set_option maxHeartbeats 4000000 in
set_option maxRecDepth 100000 in
theorem specPrep_ok (w : World) (v vo : Value) (ns : List Nd) (os : List Op5) (z : Int) (h : RdN w v ns) (ho : RdO w vo os) (hos : ∀ i, i < os.length → (oAt os i).path.size ≤ 1048576 ∧ (oAt os i).data.size ≤ 1048576) (hb : okPrep ns os z = true) :
    Calls Tryz.prog 9 #[.agg #[v], .agg #[vo], .int .i64 z] w fun e w' => PrOk w ns z (runO z os ns 0 []) e w' := by
  obtain ⟨i0, hi, hz0, hz1, hz2⟩ := info_parts Tryz.infoStr9
  unfold okPrep at hb
  simp only [Bool.and_eq_true, decide_eq_true_eq] at hb
  obtain ⟨hok, h1, h2, h3, h4⟩ := hb
  have HSND : Hid (Snd ns) := okTree_snd.1 hok
  have HOK : Hid (okTree ns = true) := hok
  have hn : ns.length ≤ 1000 := HSND.out.2.2
  obtain ⟨ao, ca, rfl, _, _⟩ := h.len
  obtain ⟨bo, cb, rfl, _, _⟩ := ho.len
  have HR : Hid (RdN w (.slice ao ns.length ca) ns) := h
  have HOR : Hid (RdO w (.slice bo os.length cb) os) := ho
  have HOS : Hid (∀ i, i < os.length → (oAt os i).path.size ≤ 1048576 ∧ (oAt os i).data.size ≤ 1048576) := hos
  have HSZ : Hid (∀ i, (nAt ns i).path.size ≤ 1048576 ∧ (nAt ns i).data.size ≤ 1048576) := by
    intro i
    by_cases hi : i < ns.length
    · have := okNd_all (HSND.out.2.1 _ (List.getElem_mem hi))
      rw [nAt_get hi]; omega
    · have : nAt ns i = nd0 := by unfold nAt; simp [List.getD, List.getElem?_eq_none (show ns.length ≤ i by omega)]
      rw [this]; simp [nd0]
  obtain ⟨res, hres⟩ : ∃ res, res = runO z os ns 0 [] := ⟨_, rfl⟩
  have HRES : Hid (runO z (os.drop 0) ns 0 [] = res) := hres.symm
  rw [← hres]
  have X0 : Hid (PrB w (.slice ao ns.length ca) (.slice bo os.length cb) (((w.alloc (.cells #[.slice ao ns.length ca] 25)).alloc (.cells #[.slice bo os.length cb] 28)).alloc (.cells #[.int .i64 0, .int .i64 0, .slice none 0 0, .int .i64 0, .slice none 0 0] 37))) := PrB.new _ _ _ _ _ _
  obtain ⟨bb, bof, rfl, hbb, HC⟩ : ∃ b off, bo = some ⟨b, off, none⟩ ∧ b < w.heap.size ∧ Hid (∀ i, i < os.length → CellsO w b (off + i * 5) (oAt os i)) := by
    obtain ⟨ao', cap', e', -, -, h3⟩ := ho
    simp only [Value.slice.injEq] at e'
    obtain ⟨rfl, -, -⟩ := e'
    rcases h3 with h3 | ⟨b, o, rfl, hb, hc⟩
    · rw [h3] at h1; simp at h1
    · exact ⟨b, o, rfl, hb, hc⟩
  have h1I : ¬ (os.length : Int) < 1 := by omega
  have h1d : decide ((os.length : Int) < 1) = false := by simpa using h1I
  have h2I : ¬ (64 : Int) < (os.length : Int) := by omega
  have h2d : decide ((64 : Int) < (os.length : Int)) = false := by simpa using h2I
  have h3I : ¬ z < 1 := by omega
  have h3d : decide (z < 1) = false := by simpa using h3I
  have h4I : ¬ (2147483647 : Int) < z := by omega
  have h4d : decide ((2147483647 : Int) < z) = false := by simpa using h4I
  have HZ : Hid (okS z = true) := by show _ = _; unfold okS; simp; omega
  clear h ho hos hok hres
  go_enter Tryz.func9, Tryz.ntmps9
  go_wp2_with fail
  generalize ((w.alloc (.cells #[.slice ao ns.length ca] 25)).alloc (.cells #[.slice (some ⟨bb, bof, none⟩) os.length cb] 28)).alloc (.cells #[.int .i64 0, .int .i64 0, .slice none 0 0, .int .i64 0, .slice none 0 0] 37) = w0 at *
  obtain ⟨-, -, a0, -⟩ := X0.out
  go_wp2_with fail
  clear a0
  refine (specTree_any _ _ ns (HR.out.below X0.out.1) (by omega) HSZ.out).mono ?_
  rintro e w1 ⟨rfl, b1⟩
  rw [HOK.out]
  have X1 : Hid (PrB w (.slice ao ns.length ca) (.slice (some ⟨bb, bof, none⟩) os.length cb) w1) := X0.out.below b1
  clear b1 X0 HOK
  have zz : w.heap.size + 3 ≤ w1.heap.size := X1.out.2.1
  obtain ⟨-, -, a0, a1, -⟩ := X1.out
  go_wp2
  clear a0 a1
  have BL : Hid (Below w1.heap.size w1 (w1.alloc (.cells #[] 9))) := (Below.refl _ _).alloc (Nat.le_refl _) _
  have NA0 : Hid (ns = [] ∨ NotAt (.slice ao ns.length ca) (.slice (some ⟨w1.heap.size, 0, none⟩) 0 0)) := by
    obtain ⟨ao', cap', e', -, -, h3⟩ := HR.out
    simp only [Value.slice.injEq] at e'
    obtain ⟨rfl, -, -⟩ := e'
    rcases h3 with h3 | ⟨b', o', h4, hb, -⟩
    · exact .inl h3
    · refine .inr (fun b o n c e => ?_)
      simp only [Value.slice.injEq] at e
      rw [h4] at e
      simp at e
      simp [Value.ownBlock]
      omega
  go_loopw [7, 8, 9] (fun vk vn i wr => ∃ (j : Nat) (uk un : Value) (nk : List Nd) (nm : List ByteArray), j ≤ os.length ∧ uk = vk ∧ un = vn ∧ i = .int .i64 j ∧ Hid (RdN wr uk nk) ∧ Hid (Snd nk) ∧ Hid (nm.length = j) ∧ Hid (wr.ownsRow w1.heap.size 9 1 un j (nm.map Value.string)) ∧ Hid (runO z (os.drop j) nk j nm = res) ∧ Hid (Below w1.heap.size w1 wr) ∧ Hid (nk = [] ∨ NotAt uk un)) (fun _ _ i _ => os.length - (intOf i).toNat)
  case atStart => exact ⟨0, _, _, ns, [], Nat.zero_le _, rfl, rfl, rfl, HR.out.below (X1.out.1.trans (BL.out.mono (by omega))), HSND, (show _ = _ from rfl), World.ownsRow_lit w1 #[] 0 (Nat.le_refl _) (Nat.zero_le _) rfl, HRES, BL, NA0⟩
  case round =>
    clear BL HRES
    obtain ⟨j, uk, un, nk, nm, hj, rfl, rfl, rfl, RK, SK, NL, ON, HRS, BK, NA⟩ := hrel
    clear NA0
    have XK : Hid (PrB w (.slice ao ns.length ca) (.slice (some ⟨bb, bof, none⟩) os.length cb) wr) := X1.out.belowB BK.out zz
    obtain ⟨ka, kc, rfl, _, _⟩ := RK.out.len
    obtain ⟨-, zk, a0, a1, -⟩ := XK.out
    by_cases hlt : j < os.length
    · have hltI : (j : Int) < (os.length : Int) := by omega
      obtain ⟨q0, q1, q2, q3, q4⟩ := (HC.out j hlt).below (XK.out.1) hbb
      obtain ⟨hp, hd⟩ := HOS.out j hlt
      have HGO : Hid ((doO nk (oAt os j) z).1 ≠ 0 → ((doO nk (oAt os j) z).1, j, nk, nm) = res) := fun hne => (runO_bad hlt hne).symm.trans HRS.out
      have HGN : Hid ((doO nk (oAt os j) z).1 = 0 → runO z (os.drop (j + 1)) (doO nk (oAt os j) z).2.1 (j + 1) (nm ++ [(doO nk (oAt os j) z).2.2]) = res) := fun he => (runO_good hlt he).symm.trans HRS.out
      have SN : Hid (Snd (doO nk (oAt os j) z).2.1) := doO_snd SK.out _ HZ.out
      have CD := l3Do_any wr _ nk (oAt os j) z RK.out SK.out.2.2 (fun i hi => by rw [nAt_get hi]; exact SK.out.2.1 _ (List.getElem_mem hi)) hp hd
      unfold DoPost at CD
      have HNA : Hid (∀ (a : Option Addr) (c : Nat) (l : List Nd), Fresh wr (.slice ka nk.length kc) (.slice a l.length c) → l = [] ∨ NotAt (.slice a l.length c) un) := by
        intro a c l hf
        rcases hf with h9 | ⟨n, c, h9⟩ | ⟨g, n, c, h9, hg⟩
        · rw [h9]
          rcases NA.out with h8 | h8
          · left
            simp only [Value.slice.injEq] at h9
            exact List.eq_nil_of_length_eq_zero (by rw [h9.2.1, h8]; rfl)
          · exact .inr h8
        · rw [h9]
          exact .inr (fun b o n c e => by simp at e)
        · rw [h9]
          refine .inr (fun b o n c e => ?_)
          simp at e
          intro e2
          have := (ON.out.lt b e2).2
          omega
      clear RK SK HRS
      generalize oAt os j = oj at *
      go_wp2_with fail
      refine CD.mono ?_
      rintro e w2 ⟨v2, rfl, r2, f2, b2⟩
      clear CD q0 q1 q2 q3 q4 a0 a1
      have X2 : Hid (PrB w (.slice ao ns.length ca) (.slice (some ⟨bb, bof, none⟩) os.length cb) w2) := XK.out.below b2
      have B2 : Hid (Below w1.heap.size w1 w2) := BK.out.trans (b2.mono BK.out.size)
      have O2 : Hid (w2.ownsRow w1.heap.size 9 1 un j (nm.map Value.string)) := rowP_below ON.out b2
      generalize doO nk oj z = dd at *
      obtain ⟨a2, c2, rfl, _, _⟩ := r2.len
      have R2 : Hid (RdN w2 (.slice a2 dd.2.1.length c2) dd.2.1) := r2
      have N2 : Hid (dd.2.1 = [] ∨ NotAt (.slice a2 dd.2.1.length c2) un) := HNA.out _ _ _ f2
      have s2 := b2.size
      clear r2 b2 f2 XK BK HNA
      by_cases hc : dd.1 = 0
      · have HN2 : Hid (runO z (os.drop (j + 1)) dd.2.1 (j + 1) (nm ++ [dd.2.2]) = res) := HGN.out hc
        rw [hc]
        clear HGO HGN ON
        obtain ⟨-, z2, -⟩ := X2.out
        go_wp2_with (at_builtin; go_must (refine wpList_append_lies _ rfl _ _ 32 rfl w1.heap.size 9 i0 (.string ByteArray.empty) 1 16 Tryz.underlying32 hi hz0 hz1 hz2 rfl (by decide) _ _ _ rfl (O2.out.alloc _) ⟨w2.heap.size, 0, none⟩ 1 1 [.string dd.2.2] rfl rfl (cell_one_new _ _ _) (by intro u hu; simp at hu; subst hu; rfl) (by decide) ?c3 ?c4 ?c5 (w2.heap.size + 1) (by simp) ?_))
        case c3 => unfold maxLen; omega
        case c4 => omega
        case c5 => have := B2.out.size; simp; omega
        intro g3 cap3 w3 ho3 hg3 hat _
        have bg : Below w1.heap.size w2 w3 := ((Below.refl _ w2).alloc B2.out.size _).grown hg3 (by have := B2.out.size; simp; omega) (fun q hq => (O2.out.lt q hq).1)
        have hgb : w2.grownBy w3 un.ownBlock := World.grownBy.trans (World.grownBy_alloc w2 _ _) hg3
        have R3 : Hid (RdN w3 (.slice a2 dd.2.1.length c2) dd.2.1) := R2.out.grown hgb N2.out
        have N3 : Hid (dd.2.1 = [] ∨ NotAt (.slice a2 dd.2.1.length c2) (.slice (some ⟨g3, 0, none⟩) (j + 1) cap3)) := by
          by_cases he : dd.2.1 = []
          · exact .inl he
          refine .inr (fun b o n c e => ?_)
          rcases hat with h9 | h9
          · rcases N2.out with h8 | h8
            · exact absurd h8 he
            · have := h8 b o n c e
              rw [h9] at this
              exact this
          · obtain ⟨ao', cap', e', -, -, h3⟩ := R2.out
            simp only [Value.slice.injEq] at e e'
            obtain ⟨rfl, -, -⟩ := e'
            rcases h3 with h3 | ⟨b', o', h4, hb, -⟩
            · exact absurd h3 he
            · rw [h4] at e
              simp at e
              simp [Value.ownBlock]
              omega
        have B3 : Hid (Below w1.heap.size w1 w3) := B2.out.trans bg
        have NL3 : Hid ((nm ++ [dd.2.2]).length = j + 1) := by show _ = _; rw [List.length_append, NL.out]; rfl
        have O3 : Hid (w3.ownsRow w1.heap.size 9 1 (.slice (some ⟨g3, 0, none⟩) (j + 1) cap3) (j + 1) ((nm ++ [dd.2.2]).map Value.string)) := by
          show World.ownsRow _ _ _ _ _ _ _; rw [List.map_append]; exact ho3
        clear ho3 hg3 hat bg hgb R2 N2 O2 B2 X2
        go_wp2
        go_roundw
        case rel => exact ⟨j + 1, _, _, dd.2.1, nm ++ [dd.2.2], by omega, rfl, rfl, by go_num, R3, SN, NL3, O3, HN2, B3, N3⟩
        case measure => simp [intOf]; omega
      · have HN2 : Hid ((dd.1, j, nk, nm) = res) := HGO.out hc
        have hcb : (dd.1 == 0) = false := by simpa using hc
        clear HGO HGN ON O2 N2 R2
        obtain ⟨-, z2, -, -, ⟨d0, d1, d2, d3, d4⟩, df⟩ := X2.out
        have f0 := df 0
        have f1 := df 1
        have f2 := df 2
        have f3 := df 3
        have f4 := df 4
        clear df
        have FB : Hid (∀ W', Below w.heap.size w2 W' → Below w.heap.size w W') := fun W' hW => X2.out.1.trans hW
        generalize dd.1 = d9 at *
        clear X2 B2
        go_wp2
        refine bodyPost_ret (v := .agg #[.int .i64 d9, .int .i64 (j : Int), .slice none 0 0, .int .i64 0, .slice none 0 0]) (by simp [results, Tryz.results9, go_sem, d0, d1, d2, d3, d4]) rfl ?_
        rw [← HN2.out]
        refine ⟨FB.out _ ?_, .inl ⟨hc, rfl⟩⟩
        repeat (first | exact Below.refl _ _ | refine Below.setCell ?_ (by simp; try omega) _)
    · have hjn : j = os.length := by omega
      have HN2 : Hid ((0, j, nk, nm) = res) := by
        have := HRS.out
        rw [List.drop_of_length_le (by omega)] at this
        exact this
      subst hjn
      go_wp2_with fail
      clear a0 a1
      refine (l3Diff_any wr _ _ ns nk (HR.out.below XK.out.1) RK.out hn SK.out.2.2).mono ?_
      rintro e w2 ⟨v2, rfl, o2, b2⟩
      have X2 : Hid (PrB w (.slice ao ns.length ca) (.slice (some ⟨bb, bof, none⟩) os.length cb) w2) := XK.out.below b2
      have O2 : Hid (w2.ownsRow w1.heap.size 9 1 un os.length (nm.map Value.string)) := rowP_below ON.out b2
      obtain ⟨ea, ec, rfl, _, _⟩ := (OwnE.rd o2).len
      have E2 : Hid (OwnE 59 w2 wr.heap.size (.slice ea (dif ns nk).length ec) (dif ns nk)) := o2
      clear o2 b2 XK ON RK SK HRS
      obtain ⟨-, z2, -, -, ⟨d0, d1, d2, d3, d4⟩, df⟩ := X2.out
      have f0 := df 0
      have f1 := df 1
      have f2 := df 2
      have f3 := df 3
      have f4 := df 4
      clear df
      have FB : Hid (∀ W', Below w.heap.size w2 W' → Below w.heap.size w W') := fun W' hW => X2.out.1.trans hW
      have hzr : w1.heap.size ≤ wr.heap.size := BK.out.size
      have hun : ∃ ua uc, un = .slice ua os.length uc := by
        rcases O2.out.2 with ⟨rfl, h0⟩ | ⟨g, cap, cur, rfl, -⟩
        · exact ⟨_, _, by rw [h0]⟩
        · exact ⟨_, _, rfl⟩
      obtain ⟨ua, uc, rfl⟩ := hun
      have HDL : Hid ((dif ns nk).length = (dif ns nk).length) := rfl
      clear X2 BK NA HC HOS
      go_wp2
      refine bodyPost_ret (v := .agg #[.int .i64 0, .int .i64 0, .slice ua os.length uc, .int .i64 z, .slice ea (dif ns nk).length ec]) (by simp [results, Tryz.results9, go_sem, d0, d1, d2, d3, d4]) rfl ?_
      rw [← HN2.out]
      refine ⟨FB.out _ ?_, .inr ⟨rfl, _, _, rfl, ?_, ?_⟩⟩
      · repeat (first | exact Below.refl _ _ | refine Below.setCell ?_ (by simp; try omega) _)
      · refine rowP_mono (lo := w1.heap.size) ?_ (by omega)
        show World.ownsRow _ _ _ _ _ nm.length (nm.map Value.string)
        rw [NL.out]
        iterate 5 refine ownsRow_setCell_below ?_ (by simp; omega) _
        exact O2.out
      · unfold OwnE
        refine rowP_mono (lo := wr.heap.size) ?_ (by omega)
        iterate 5 refine ownsRow_setCell_below ?_ (by simp; omega) _
        exact E2.out

end Go.Proofs.YtdiingonnddkcaaGreatDoor


