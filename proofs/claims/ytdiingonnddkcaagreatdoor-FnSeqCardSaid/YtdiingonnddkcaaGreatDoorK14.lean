import Derived.Test.YtdiingonnddkcaaGreatDoorK09
import Derived.Test.YtdiingonnddkcaaGreatDoorK13
import Derived.Test.YtdiingonnddkcaaGreatDoorK05
import Derived.Test.YtdiingonnddkcaaGreatDoorK10
import Derived.Test.YtdiingonnddkcaaGreatDoorK12
import Derived.Laws.Cover1
namespace Go.Proofs.YtdiingonnddkcaaGreatDoor
open Go.RowKit

theorem less_trans : ∀ x y z : List UInt8, Op.bytesLess x y = true → Op.bytesLess y z = true → Op.bytesLess x z = true
  | [], [], _ => by simp [Op.bytesLess]
  | _ :: _, [], _ => by simp [Op.bytesLess]
  | _, _ :: _, [] => by simp [Op.bytesLess]
  | [], _ :: _, _ :: _ => by simp [Op.bytesLess]
  | a :: x, b :: y, c :: z => by
    unfold Op.bytesLess
    intro h1 h2
    have ih := less_trans x y z
    simp only [Bool.or_eq_true, Bool.and_eq_true, decide_eq_true_eq, beq_iff_eq] at h1 h2 ⊢
    rcases h1 with h1 | ⟨rfl, h1⟩
    · rcases h2 with h2 | ⟨rfl, h2⟩
      · exact .inl (UInt8.lt_trans h1 h2)
      · exact .inl h1
    · rcases h2 with h2 | ⟨rfl, h2⟩
      · exact .inl h2
      · exact .inr ⟨rfl, ih h1 h2⟩
theorem ltP_trans {a b c : ByteArray} (h1 : ltP a b = true) (h2 : ltP b c = true) : ltP a c = true := less_trans _ _ _ h1 h2
theorem ltP_ne {a b : ByteArray} (h : ltP a b = true) : (a.toList == b.toList) = false := by
  have := (ltP_yes h).2
  rw [Bool.eq_false_iff] at this ⊢
  intro e
  exact this (by rw [beq_iff_eq] at e ⊢; exact e.symm)
theorem ltP_gt_ne {a b : ByteArray} (h : ltP b a = true) : (a.toList == b.toList) = false := (ltP_yes h).2
theorem ltP_asymm {a b : ByteArray} (h : ltP a b = true) : ltP b a = false := (ltP_yes h).1
theorem ltP_total {a b : ByteArray} (h : ltP a b = false) (hne : (a.toList == b.toList) = false) : ltP b a = true := by
  rcases ltP_no h with h1 | ⟨_, h1⟩
  · exact h1
  · rw [beq_iff_eq] at h1
    rw [h1] at hne
    simp at hne
theorem cmpP_lt (a b : ByteArray) : (cmpP a b < 0) ↔ ltP a b = true := by
  unfold cmpP ltP
  rw [cmp_lt, ByteArray.toList_eq, ByteArray.toList_eq]
theorem cmpP_eq (a b : ByteArray) : (cmpP a b == 0) = (a.toList == b.toList) := by
  have h : cmpP a b = 0 ↔ a.toList = b.toList := by
    unfold cmpP
    rw [cmp_eq0, ByteArray.toList_eq, ByteArray.toList_eq]
  rw [Bool.eq_iff_iff, beq_iff_eq, beq_iff_eq]
  exact h

/-- Paths ascend. -/
def Asc (ns : List Nd) : Prop := ns.Pairwise fun a b => ltP a.path b.path = true
def AscE (es : List Ef) : Prop := es.Pairwise fun a b => ltP a.nd.path b.nd.path = true
theorem asc_of {α : Type} (f : α → ByteArray) : ∀ (l : List α), (∀ j (h : j + 1 < l.length), ltP (f l[j]) (f l[j+1]) = true) → l.Pairwise fun a b => ltP (f a) (f b) = true
  | [], _ => List.Pairwise.nil
  | [a], _ => by simp
  | a :: b :: l, h => by
    have ih := asc_of f (b :: l) (fun j hj => h (j + 1) (by simp at hj ⊢; omega))
    refine List.Pairwise.cons (fun c hc => ?_) ih
    have hab : ltP (f a) (f b) = true := h 0 (by simp)
    rcases List.mem_cons.1 hc with rfl | hc
    · exact hab
    · exact ltP_trans hab ((List.pairwise_cons.1 ih).1 c hc)
theorem okTree_asc {ns : List Nd} (h : okTree ns = true) : Asc ns := by
  unfold okTree okSorted at h
  simp only [Bool.and_eq_true, List.all_eq_true, List.mem_range] at h
  refine asc_of (fun n => n.path) ns fun j hj => ?_
  have := h.2 (j + 1) hj
  rw [okAt_succ] at this
  simp only [Bool.and_eq_true] at this
  have h2 := this.2
  rw [nAt_get (show j < ns.length by omega), nAt_get hj] at h2
  exact h2
theorem okEs_asc {es : List Ef} (h : okEs es = true) : AscE es := by
  unfold okEs at h
  simp only [List.all_eq_true, List.mem_range] at h
  refine asc_of (fun n => n.nd.path) es fun j hj => ?_
  have := h (j + 1) hj
  rw [okEAt_succ] at this
  simp only [Bool.and_eq_true] at this
  have h2 := this.2
  rw [eAt_get (show j < es.length by omega), eAt_get hj] at h2
  exact h2
theorem okTxn_es {z : Int} {es : List Ef} (h : okTxn z es = true) : okEs es = true ∧ es.length ≤ 1000 := by
  unfold okTxn at h
  simp only [Bool.and_eq_true, decide_eq_true_eq] at h
  exact ⟨h.2, h.1.2⟩

/-! ### the place of a path -/
def plc (r : List Nd) (p : ByteArray) : Nat := (r.takeWhile fun m => ltP m.path p).length
def skp (r : List Nd) (p : ByteArray) : Nat := if fnd r p (plc r p) then 1 else 0
theorem plc_take (r : List Nd) (p : ByteArray) : r.take (plc r p) = r.takeWhile fun m => ltP m.path p := by
  unfold plc
  induction r with
  | nil => rfl
  | cons a r ih =>
    rw [List.takeWhile_cons]
    split
    · simp [ih]
    · simp
theorem plc_drop (r : List Nd) (p : ByteArray) : r.drop (plc r p) = r.dropWhile fun m => ltP m.path p := by
  unfold plc
  induction r with
  | nil => rfl
  | cons a r ih =>
    rw [List.takeWhile_cons, List.dropWhile_cons]
    split
    · simp [ih]
    · simp
theorem plc_le (r : List Nd) (p : ByteArray) : plc r p ≤ r.length := by
  have := congrArg List.length (plc_take r p)
  rw [List.length_take] at this
  unfold plc at this ⊢
  omega
theorem tw_lt (r : List Nd) (p : ByteArray) : ∀ a ∈ r.take (plc r p), ltP a.path p = true := by
  rw [plc_take]
  induction r with
  | nil => simp
  | cons b r ih =>
    rw [List.takeWhile_cons]
    split
    · rename_i hb
      intro a ha
      rcases List.mem_cons.1 ha with rfl | ha
      · exact hb
      · exact ih a ha
    · simp
theorem dw_not : ∀ (r : List Nd) (p : ByteArray), Asc r → ∀ a ∈ r.drop (plc r p), ltP a.path p = false := by
  intro r p h a ha
  rw [plc_drop] at ha
  induction r with
  | nil => simp at ha
  | cons b r ih =>
    rw [List.dropWhile_cons] at ha
    split at ha
    · exact ih (List.pairwise_cons.1 h).2 ha
    · rename_i hb
      have hb' : ltP b.path p = false := by simpa using hb
      rcases List.mem_cons.1 ha with rfl | ha
      · exact hb'
      · have hba := (List.pairwise_cons.1 h).1 a ha
        cases hc : ltP a.path p with
        | false => rfl
        | true => rw [ltP_trans hba hc] at hb'; exact absurd hb' (by simp)
theorem low_plc (r : List Nd) (p : ByteArray) (h : Asc r) : Low r p (plc r p) := by
  refine ⟨plc_le r p, fun i hi => ?_, fun i hi hl => ?_⟩
  · rw [cmpP_lt]
    have hl := Nat.lt_of_lt_of_le hi (plc_le r p)
    refine tw_lt r p _ ?_
    rw [nAt_get hl]
    exact List.mem_take_iff_getElem.2 ⟨i, by omega, rfl⟩
  · rw [cmpP_lt, dw_not r p h]
    · simp
    · rw [nAt_get hl]
      exact List.mem_drop_iff_getElem.2 ⟨i - plc r p, by omega, by congr 1; omega⟩
theorem asc_drop {r : List Nd} (h : Asc r) (k : Nat) : Asc (r.drop k) := List.Pairwise.sublist (List.drop_sublist k r) h

/-- What stays of a row that begins at or behind a path. -/
theorem wo_high (D : List Nd) (p : ByteArray) (h : Asc D) (hn : ∀ a ∈ D, ltP a.path p = false) : woN D p = D.drop (if (decide (0 < D.length) && ((nAt D 0).path.toList == p.toList)) then 1 else 0) := by
  cases D with
  | nil => rfl
  | cons b D =>
    have hr : ∀ a ∈ D, (a.path.toList == p.toList) = false := by
      intro a ha
      have h1 := (List.pairwise_cons.1 h).1 a ha
      have h2 := hn b (by simp)
      cases hc : a.path.toList == p.toList with
      | false => rfl
      | true =>
        rw [beq_iff_eq] at hc
        unfold ltP at h1 h2
        rw [hc] at h1
        rw [h1] at h2
        exact absurd h2 (by simp)
    have hf : woN D p = D := by
      unfold woN
      rw [List.filter_eq_self]
      intro a ha
      rw [hr a ha]
      rfl
    have e0 : nAt (b :: D) 0 = b := rfl
    rw [e0]
    unfold woN at hf ⊢
    rw [List.filter_cons]
    cases hc : b.path.toList == p.toList with
    | true => simp [hf]
    | false => simp [hf]
theorem skp_eq (r : List Nd) (p : ByteArray) : skp r p = if (decide (0 < (r.drop (plc r p)).length) && ((nAt (r.drop (plc r p)) 0).path.toList == p.toList)) then 1 else 0 := by
  unfold skp fnd
  rw [cmpP_eq, List.length_drop]
  have e : nAt (r.drop (plc r p)) 0 = nAt r (plc r p) := by unfold nAt; simp [List.getD]
  rw [e]
  have e2 : decide (plc r p < r.length) = decide (0 < r.length - plc r p) := by rw [decide_eq_decide]; omega
  rw [e2]
theorem skp_le (r : List Nd) (p : ByteArray) : skp r p ≤ 1 ∧ plc r p + skp r p ≤ r.length := by
  have h := plc_le r p
  rw [skp_eq]
  split
  · rename_i hc
    simp only [Bool.and_eq_true, decide_eq_true_eq, List.length_drop] at hc
    omega
  · omega
theorem wo_drop (r : List Nd) (p : ByteArray) (h : Asc r) : woN (r.drop (plc r p)) p = r.drop (plc r p + skp r p) := by
  rw [wo_high _ p (asc_drop h _) (dw_not r p h), ← skp_eq, List.drop_drop]
theorem wo_low (A : List Nd) (p : ByteArray) (h : ∀ a ∈ A, ltP a.path p = true) : woN A p = A := by
  unfold woN
  rw [List.filter_eq_self]
  intro a ha
  rw [ltP_ne (h a ha)]
  rfl
theorem wo_append (A B : List Nd) (p : ByteArray) : woN (A ++ B) p = woN A p ++ woN B p := by unfold woN; rw [List.filter_append]
theorem wo_all (A r : List Nd) (p : ByteArray) (hA : ∀ a ∈ A, ltP a.path p = true) (h : Asc r) : woN (A ++ r) p = A ++ r.take (plc r p) ++ r.drop (plc r p + skp r p) := by
  conv => lhs; rw [← List.take_append_drop (plc r p) r]
  rw [wo_append, wo_append, wo_low A p hA, wo_low _ p (tw_lt r p), wo_drop r p h, List.append_assoc]

theorem wi_low (n : Nd) : ∀ (A X : List Nd), (∀ a ∈ A, ltP a.path n.path = true) → A.foldl (stW n) (X, false) = (X ++ A, false)
  | [], X, _ => by simp
  | a :: A, X, h => by
    have ha := h a (by simp)
    have e : stW n (X, false) a = (X ++ [a], false) := by
      have h1 : Op.bytesLess a.path.toList n.path.toList = true := ha
      unfold stW
      rw [ltP_ne ha, h1]
      rfl
    rw [List.foldl_cons, e, wi_low n A _ (fun b hb => h b (List.mem_cons_of_mem _ hb))]
    simp
theorem wi_done (n : Nd) : ∀ (A X : List Nd), (A.foldl (stW n) (X, true)) = (X ++ woN A n.path, true)
  | [], X => by simp [woN]
  | a :: A, X => by
    have e : stW n (X, true) a = (X ++ woN [a] n.path, true) := by
      unfold stW woN
      rw [List.filter_cons]
      cases hc : a.path.toList == n.path.toList <;> simp
    rw [List.foldl_cons, e, wi_done n A, show a :: A = [a] ++ A from rfl, wo_append, List.append_assoc]
theorem wi_high (n : Nd) (D X : List Nd) (hn : ∀ a ∈ D, ltP a.path n.path = false) :
    (let f := D.foldl (stW n) (X, false); if f.2 then f.1 else f.1 ++ [n]) = X ++ n :: woN D n.path := by
  cases D with
  | nil => simp [woN]
  | cons b D =>
    have hb : Op.bytesLess b.path.toList n.path.toList = false := hn b (by simp)
    have e : stW n (X, false) b = (X ++ n :: woN [b] n.path, true) := by
      unfold stW woN
      rw [hb, List.filter_cons]
      cases hc : b.path.toList == n.path.toList <;> simp
    have e2 : (b :: D).foldl (stW n) (X, false) = (X ++ n :: woN (b :: D) n.path, true) := by
      rw [List.foldl_cons, e, wi_done, show b :: D = [b] ++ D from rfl, wo_append]
      simp
    simp only [e2, if_true]
theorem wi_all (A r : List Nd) (n : Nd) (hA : ∀ a ∈ A, ltP a.path n.path = true) (h : Asc r) : wiN (A ++ r) n = A ++ r.take (plc r n.path) ++ n :: r.drop (plc r n.path + skp r n.path) := by
  unfold wiN wiF
  conv => lhs; rw [← List.take_append_drop (plc r n.path) r]
  rw [← List.append_assoc, List.foldl_append, wi_low n (A ++ r.take (plc r n.path)) [] (by
    intro a ha
    rcases List.mem_append.1 ha with ha | ha
    · exact hA a ha
    · exact tw_lt r _ a ha)]
  have := wi_high n (r.drop (plc r n.path)) ([] ++ (A ++ r.take (plc r n.path))) (dw_not r _ h)
  simp only at this
  rw [this, wo_drop r _ h]
  simp

/-! ### one effect, all effects -/
def apS (st : List Nd × List Nd) (e : Ef) : List Nd × List Nd :=
  (st.1 ++ st.2.take (plc st.2 e.nd.path) ++ (if e.del then [] else [e.nd]), st.2.drop (plc st.2 e.nd.path + skp st.2 e.nd.path))
def apI (ns : List Nd) (es : List Ef) : List Nd × List Nd := es.foldl apS ([], ns)
def apQ (ns : List Nd) (e : Ef) : List Nd := if e.del then woN ns e.nd.path else wiN ns e.nd
def apL (ns : List Nd) (es : List Ef) : List Nd := es.foldl apQ ns
theorem apS_apQ (st : List Nd × List Nd) (e : Ef) (hA : ∀ a ∈ st.1, ltP a.path e.nd.path = true) (h : Asc st.2) : apQ (st.1 ++ st.2) e = (apS st e).1 ++ (apS st e).2 := by
  unfold apQ apS
  cases e.del with
  | true => simp [wo_all _ _ _ hA h]
  | false => simp [wi_all _ _ _ hA h]
theorem ap_eq : ∀ (es : List Ef) (st : List Nd × List Nd), AscE es → (∀ a ∈ st.1, ∀ e ∈ es, ltP a.path e.nd.path = true) → Asc st.2 →
    (es.foldl apS st).1 ++ (es.foldl apS st).2 = es.foldl apQ (st.1 ++ st.2)
  | [], _, _, _, _ => rfl
  | e :: es, st, h, hA, hr => by
    have h' := List.pairwise_cons.1 h
    rw [List.foldl_cons, List.foldl_cons, apS_apQ st e (fun a ha => hA a ha e (by simp)) hr]
    refine ap_eq es (apS st e) h'.2 (fun a ha f hf => ?_) (asc_drop hr _)
    have hef := h'.1 f hf
    unfold apS at ha
    rcases List.mem_append.1 ha with ha | ha
    · rcases List.mem_append.1 ha with ha | ha
      · exact hA a ha f (List.mem_cons_of_mem _ hf)
      · exact ltP_trans (tw_lt _ _ a ha) hef
    · split at ha
      · simp at ha
      · rw [List.mem_singleton] at ha
        rw [ha]
        exact hef
theorem apI_eq {ns : List Nd} {es : List Ef} (h : Asc ns) (he : AscE es) : (apI ns es).1 ++ (apI ns es).2 = apL ns es := ap_eq es ([], ns) he (fun a ha => by simp at ha) h
theorem apI_succ (ns : List Nd) (es : List Ef) (k : Nat) (h : k < es.length) : apI ns (es.take (k + 1)) = apS (apI ns (es.take k)) (eAt es k) := by
  unfold apI
  rw [List.take_succ_eq_append_getElem h, List.foldl_append, eAt_get h]
  rfl
theorem apL_succ (ns : List Nd) (es : List Ef) (k : Nat) (h : k < es.length) : apL ns (es.take (k + 1)) = apQ (apL ns (es.take k)) (eAt es k) := by
  unfold apL
  rw [List.take_succ_eq_append_getElem h, List.foldl_append, eAt_get h]
  rfl
theorem apS_len (st : List Nd × List Nd) (e : Ef) : (apS st e).1.length + (apS st e).2.length ≤ st.1.length + st.2.length + 1 := by
  unfold apS
  have h := plc_le st.2 e.nd.path
  simp only [List.length_append, List.length_take, List.length_drop]
  split <;> simp <;> omega
theorem apI_len : ∀ (ns : List Nd) (es : List Ef) (k : Nat), (apI ns (es.take k)).1.length + (apI ns (es.take k)).2.length ≤ ns.length + k
  | ns, es, 0 => by simp [apI]
  | ns, es, k + 1 => by
    have ih := apI_len ns es k
    by_cases h : k < es.length
    · rw [apI_succ ns es k h]
      have := apS_len (apI ns (es.take k)) (eAt es k)
      omega
    · rw [List.take_of_length_le (by omega)] at ih ⊢
      omega
theorem apI_asc {ns : List Nd} (h : Asc ns) (es : List Ef) : Asc (apI ns es).2 := by
  unfold apI
  have : ∀ (es : List Ef) (st : List Nd × List Nd), Asc st.2 → Asc (es.foldl apS st).2 := by
    intro es
    induction es with
    | nil => exact fun st h => h
    | cons e es ih => exact fun st h => by rw [List.foldl_cons]; exact ih _ (asc_drop h _)
  exact this es _ h
theorem ascE_take {es : List Ef} (h : AscE es) (k : Nat) : AscE (es.take k) := List.Pairwise.sublist (List.take_sublist k es) h
theorem apL_len {ns : List Nd} {es : List Ef} (h : Asc ns) (he : AscE es) (k : Nat) : (apL ns (es.take k)).length ≤ ns.length + k := by
  rw [← apI_eq h (ascE_take he k), List.length_append]
  exact apI_len ns es k
theorem apI_all {ns : List Nd} {es : List Ef} {k : Nat} (h : Asc ns) (he : AscE es) (hk : es.length = k) : (apI ns (es.take k)).1 ++ (apI ns (es.take k)).2 = apL ns es := by
  rw [List.take_of_length_le (by omega)]
  exact apI_eq h he
/-- The nodes behind a transaction. -/
def resA (ns : List Nd) (z : Int) (es : List Ef) : List Nd := if okTree ns && okTxn z es then apL ns es else []
theorem wo_empty {ns : List Nd} (h : ∀ k, k < ns.length → okNd (nAt ns k) = true) (p : ByteArray) (hp : p.toList = []) : woN ns p = ns := by
  unfold woN
  rw [List.filter_eq_self]
  intro a ha
  obtain ⟨k, hk, e⟩ := List.getElem_of_mem ha
  have hn := h k hk
  rw [nAt_get hk, e] at hn
  have hpath : okPath a.path = true := by
    unfold okNd at hn
    simp only [Bool.and_eq_true] at hn
    exact hn.1.1.1.1.1.1
  have : ¬ a.path.toList = [] := by
    intro hc
    have hd : a.path.data.toList = [] := by rw [← ByteArray.toList_eq]; exact hc
    have hs : a.path.size = 0 := by
      have := congrArg List.length hd
      simpa using this
    by_cases h47 : a.path.data.toList = [47]
    · rw [hd] at h47; simp at h47
    · rw [okPath_not h47] at hpath
      simp only [Bool.and_eq_true, decide_eq_true_eq] at hpath
      omega
  rw [hp]
  cases hc : a.path.toList == [] with
  | false => rfl
  | true => rw [beq_iff_eq] at hc; exact absurd hc this

end Go.Proofs.YtdiingonnddkcaaGreatDoor
namespace Go.Proofs.YtdiingonnddkcaaGreatDoor
open Go.RowKit Go.Shelf

theorem asc_wo {ns : List Nd} (h : Asc ns) (p : ByteArray) : Asc (woN ns p) := List.Pairwise.sublist List.filter_sublist h
theorem ltP_irr (p : ByteArray) : ltP p p = false := by
  cases h : ltP p p with
  | false => rfl
  | true => have := ltP_ne h; simp at this
theorem wi_form {ns : List Nd} (n : Nd) (h : Asc ns) : wiN ns n = ns.take (plc ns n.path) ++ n :: ns.drop (plc ns n.path + skp ns n.path) := by
  have := wi_all [] ns n (fun a ha => by simp at ha) h
  simpa using this
theorem dw_gt {ns : List Nd} (h : Asc ns) (p : ByteArray) : ∀ a ∈ ns.drop (plc ns p + skp ns p), ltP p a.path = true ∧ (a.path.toList == p.toList) = false := by
  intro a ha
  rw [← wo_drop ns p h] at ha
  obtain ⟨h1, h2⟩ := List.mem_filter.1 ha
  have h3 : (a.path.toList == p.toList) = false := by simpa using h2
  exact ⟨ltP_total (dw_not ns p h a h1) h3, h3⟩
theorem asc_wi {ns : List Nd} (h : Asc ns) (n : Nd) : Asc (wiN ns n) := by
  rw [wi_form n h]
  unfold Asc
  rw [List.pairwise_append, List.pairwise_cons]
  refine ⟨List.Pairwise.sublist (List.take_sublist _ _) h, ⟨fun a ha => (dw_gt h n.path a ha).1, List.Pairwise.sublist (List.drop_sublist _ _) h⟩, ?_⟩
  intro a ha b hb
  have h1 := tw_lt ns n.path a ha
  rcases List.mem_cons.1 hb with rfl | hb
  · exact h1
  · exact ltP_trans h1 (dw_gt h n.path b hb).1
theorem wi_len9 {ns : List Nd} (h : Asc ns) (n : Nd) : (wiN ns n).length = ns.length + 1 - skp ns n.path := by
  have := skp_le ns n.path
  rw [wi_form n h]
  simp only [List.length_append, List.length_cons, List.length_take, List.length_drop]
  have := plc_le ns n.path
  omega
theorem skp_one {ns : List Nd} (h : Asc ns) {p : ByteArray} (hf : ∃ a ∈ ns, (a.path.toList == p.toList) = true) : skp ns p = 1 := by
  obtain ⟨a, ha, he⟩ := hf
  have h1 := skp_le ns p
  by_cases h0 : skp ns p = 0
  · exfalso
    rw [← List.take_append_drop (plc ns p) ns] at ha
    rcases List.mem_append.1 ha with ha | ha
    · have := ltP_ne (tw_lt ns p a ha)
      rw [this] at he; cases he
    · have := (dw_gt h p a (by rw [h0]; exact ha)).2
      rw [this] at he; cases he
  · omega
theorem found_mem {ns : List Nd} {p : ByteArray} (h : ns.findIdx (isP p) < ns.length) : nAt ns (ns.findIdx (isP p)) ∈ ns ∧ ((nAt ns (ns.findIdx (isP p))).path.toList == p.toList) = true := by
  rw [nAt_get h]
  exact ⟨List.getElem_mem h, List.findIdx_getElem (w := h)⟩

/-- A tree that is sound. -/
def Snd (ns : List Nd) : Prop := Asc ns ∧ (∀ n ∈ ns, okNd n = true) ∧ ns.length ≤ 1000
theorem okTree_snd {ns : List Nd} : okTree ns = true ↔ Snd ns := by
  constructor
  · intro h
    refine ⟨okTree_asc h, ?_, okTree_len h⟩
    intro n hn
    obtain ⟨i, hi, rfl⟩ := List.mem_iff_getElem.1 hn
    have := okTree_nd h i hi
    rwa [nAt_get hi] at this
  · rintro ⟨h1, h2, h3⟩
    unfold okTree
    rw [decide_eq_true h3, Bool.true_and]
    refine sorted_yes fun k hk => ?_
    cases k with
    | zero => rw [okAt_zero, nAt_get hk]; exact h2 _ (List.getElem_mem hk)
    | succ k =>
      rw [okAt_succ, nAt_get hk, nAt_get (show k < ns.length by omega), h2 _ (List.getElem_mem hk), Bool.true_and]
      exact List.pairwise_iff_getElem.1 h1 k (k + 1) (by omega) hk (by omega)
theorem Snd.wo {ns : List Nd} (h : Snd ns) (p : ByteArray) : Snd (woN ns p) :=
  ⟨asc_wo h.1 p, fun n hn => h.2.1 n (List.mem_filter.1 hn).1, Nat.le_trans (List.length_filter_le ..) h.2.2⟩
theorem Snd.wi {ns : List Nd} (h : Snd ns) {n : Nd} (hn : okNd n = true) (hl : ns.length < 1000 ∨ ∃ a ∈ ns, (a.path.toList == n.path.toList) = true) : Snd (wiN ns n) := by
  refine ⟨asc_wi h.1 n, fun m hm => ?_, ?_⟩
  · rcases wi_mem hm with h1 | rfl
    · exact h.2.1 m h1
    · exact hn
  · rw [wi_len9 h.1 n]
    have := h.2.2
    rcases hl with hl | hl
    · omega
    · rw [skp_one h.1 hl]; omega
theorem okS_mor {v : Int} (h : okS v = true) : okS (mor v) = true := by
  unfold okS mor at *
  simp only [Bool.and_eq_true, decide_eq_true_eq] at *
  split <;> omega
theorem Snd.touch {ns : List Nd} (h : Snd ns) (p : ByteArray) {z : Int} (hz : okS z = true) : Snd (toN ns p z) := by
  unfold toN
  split
  · rename_i hf
    obtain ⟨h1, h2⟩ := found_mem hf
    refine h.wi ?_ (.inr ⟨_, h1, by simp⟩)
    have h3 := h.2.1 _ h1
    unfold okNd at h3 ⊢
    simp only [Bool.and_eq_true] at h3 ⊢
    obtain ⟨⟨⟨⟨⟨⟨a1, a2⟩, a3⟩, a4⟩, a5⟩, a6⟩, a7⟩ := h3
    exact ⟨⟨⟨⟨⟨⟨a1, a2⟩, a3⟩, okS_mor a4⟩, a5⟩, a6⟩, hz⟩
  · exact h
theorem doO_snd {ns : List Nd} (h : Snd ns) (o : Op5) {z : Int} (hz : okS z = true) : Snd (doO ns o z).2.1 := by
  unfold doO
  split
  · exact h
  rename_i hw
  have hw' : wfO o = true := by simpa using hw
  have hd : o.data.size ≤ 64 := by
    unfold wfO at hw'
    simp only [Bool.and_eq_true, decide_eq_true_eq] at hw'
    exact hw'.1.1.2
  split
  · split
    · exact h
    split
    · exact h
    rename_i hp
    split
    · exact h
    split
    · exact h
    rename_i hl
    refine Snd.touch (h.wi ?_ (.inl (by have := h.2.2; omega))) _ hz
    have hp' : okPath (nameO ns o) = true := by simpa using hp
    unfold okNd
    simp only [Bool.and_eq_true, decide_eq_true_eq]
    exact ⟨⟨⟨⟨⟨⟨hp', hd⟩, by decide⟩, by decide⟩, hz⟩, hz⟩, hz⟩
  · split
    · exact h
    rename_i hf
    split
    · exact h
    split
    · split
      · exact h
      · exact (h.wo _).touch _ hz
    split
    · obtain ⟨h1, h2⟩ := found_mem (show ns.findIdx (isP o.path) < ns.length by omega)
      refine h.wi ?_ (.inr ⟨_, h1, by simp⟩)
      have h3 := h.2.1 _ h1
      unfold okNd at h3 ⊢
      simp only [Bool.and_eq_true, decide_eq_true_eq] at h3 ⊢
      obtain ⟨⟨⟨⟨⟨⟨a1, a2⟩, a3⟩, a4⟩, a5⟩, a6⟩, a7⟩ := h3
      exact ⟨⟨⟨⟨⟨⟨a1, hd⟩, okS_mor a3⟩, a4⟩, a5⟩, hz⟩, a7⟩
    · exact h


/-- What takes one list of nodes to the other. -/
def delE (a : Nd) : Ef := ⟨true, { nd0 with path := a.path }⟩
def putE (b : Nd) : Ef := ⟨false, b⟩
/-- The equality of two nodes, as the program asks for it. -/
def eqNd (a b : Nd) : Bool := (a.path.toList == b.path.toList) && ((a.data.toList == b.data.toList) && ((a.ver == b.ver) && ((a.cver == b.cver) && ((a.cz == b.cz) && ((a.mz == b.mz) && (a.pz == b.pz))))))
def dif : List Nd → List Nd → List Ef
  | [], now => now.map putE
  | a :: was, [] => (a :: was).map delE
  | a :: was, b :: now =>
    if ltP b.path a.path then putE b :: dif (a :: was) now
    else if ltP a.path b.path then delE a :: dif was (b :: now)
    else if eqNd a b then dif was now else putE b :: dif was now
theorem dif_len (A B : List Nd) : (dif A B).length ≤ A.length + B.length := by
  fun_induction dif A B <;> simp_all <;> omega
theorem drop_nAt {A : List Nd} {i : Nat} (h : i < A.length) : A.drop i = nAt A i :: A.drop (i + 1) := by rw [nAt_get h]; exact (List.drop_eq_getElem_cons h)
theorem dif_nil (A B : List Nd) (i j : Nat) (hi : A.length ≤ i) (hj : j < B.length) : dif (A.drop i) (B.drop j) = putE (nAt B j) :: dif (A.drop i) (B.drop (j + 1)) := by
  rw [List.drop_of_length_le hi, drop_nAt hj]
  simp [dif]
theorem dif_del (A B : List Nd) (i j : Nat) (hi : i < A.length) (hj : B.length ≤ j) : dif (A.drop i) (B.drop j) = delE (nAt A i) :: dif (A.drop (i + 1)) (B.drop j) := by
  rw [List.drop_of_length_le hj, drop_nAt hi]
  cases h : A.drop (i + 1) with
  | nil => simp [dif]
  | cons a l => simp [dif]
theorem dif_lt (A B : List Nd) (i j : Nat) (hi : i < A.length) (hj : j < B.length) (h : ltP (nAt B j).path (nAt A i).path = true) : dif (A.drop i) (B.drop j) = putE (nAt B j) :: dif (A.drop i) (B.drop (j + 1)) := by
  rw [drop_nAt hi, drop_nAt hj, dif, if_pos h]
theorem dif_gt (A B : List Nd) (i j : Nat) (hi : i < A.length) (hj : j < B.length) (h : ltP (nAt B j).path (nAt A i).path = false) (h2 : ltP (nAt A i).path (nAt B j).path = true) : dif (A.drop i) (B.drop j) = delE (nAt A i) :: dif (A.drop (i + 1)) (B.drop j) := by
  rw [drop_nAt hi, drop_nAt hj, dif, if_neg (by simp [h]), if_pos h2]
theorem dif_eq (A B : List Nd) (i j : Nat) (hi : i < A.length) (hj : j < B.length) (h : ltP (nAt B j).path (nAt A i).path = false) (h2 : ltP (nAt A i).path (nAt B j).path = false) : dif (A.drop i) (B.drop j) = (if eqNd (nAt A i) (nAt B j) then [] else [putE (nAt B j)]) ++ dif (A.drop (i + 1)) (B.drop (j + 1)) := by
  rw [drop_nAt hi, drop_nAt hj, dif, if_neg (by simp [h]), if_neg (by simp [h2])]
  split <;> rfl
theorem erowP_one (ns : List Ef) (n : Ef) : erow (ns ++ [n]) = erow ns ++ efL n := by rw [erow_append]; simp [erow]
theorem efLP_cells (w : World) (n : Ef) (t : TypeId) : ∀ j u, (efL n)[j]? = some u → (w.alloc (.cells #[.bool n.del, .string n.nd.path, .string n.nd.data, .int .i64 n.nd.ver, .int .i64 n.nd.cver, .int .i64 n.nd.cz, .int .i64 n.nd.mz, .int .i64 n.nd.pz] t)).cell? ((⟨w.heap.size, 0, none⟩ : Addr).add j) = some u := by
  intro j u hj
  rw [Addr.add_lit, Nat.zero_add, cell_of (heap_alloc_new w _) j, ← hj]
  simp [efL]
theorem efLP_one (n : Ef) : ∀ u ∈ efL n, u.oneCell' = true := by
  intro u hu
  simp only [efL, List.mem_cons, List.mem_nil_iff, or_false] at hu
  rcases hu with rfl | rfl | rfl | rfl | rfl | rfl | rfl | rfl <;> rfl
theorem Tryz.infoEP : (Tryz.prog.info? 59).map (fun i => (i.zero, i.size, i.bytes)) = some (some (.agg #[.bool false, .string ByteArray.empty, .string ByteArray.empty, .int .i64 0, .int .i64 0, .int .i64 0, .int .i64 0, .int .i64 0]), 8, 80) := by kernel_rfl
/-- One effect more. -/
theorem OwnE.snocP {W w5 w : World} {vo v5 : Value} {acc : List Ef} {f : Ef} {ob : Obj} (ho : OwnE 59 W w.heap.size vo acc) (hb : Below w.heap.size w W) (ho5 : w5.ownsRow w.heap.size 59 8 v5 (acc.length + 1) (erow acc ++ efL f)) (hg5 : (W.alloc ob).grownBy w5 vo.ownBlock) : OwnE 59 w5 w.heap.size v5 (acc ++ [f]) ∧ Below w.heap.size w w5 := by
  refine ⟨?_, (hb.alloc hb.size _).grown hg5 (by have := hb.size; simp; omega) (fun q hq => (World.ownsRow.lt ho q hq).1)⟩
  unfold OwnE
  rw [List.length_append, erowP_one]
  exact ho5

set_option maxHeartbeats 4000000 in
set_option maxRecDepth 100000 in
theorem l3Diff_any (w : World) (va vb : Value) (Al Bl : List Nd) (ha : RdN w va Al) (hb : RdN w vb Bl) (hna : Al.length ≤ 1000) (hnb : Bl.length ≤ 1000) :
    Calls Tryz.prog 33 #[va, vb] w fun e w' => ∃ v', e = .returned v' ∧ OwnE 59 w' w.heap.size v' (dif Al Bl) ∧ Below w.heap.size w w' := by
  obtain ⟨i0, hi0, hz0, hz1, hz2⟩ := info_parts Tryz.infoEP
  obtain ⟨ao, ca, rfl, _, _⟩ := ha.len
  obtain ⟨bo, cb, rfl, _, _⟩ := hb.len
  have HA : Hid (RdN w (.slice ao Al.length ca) Al) := ha
  have HB' : Hid (RdN w (.slice bo Bl.length cb) Bl) := hb
  have hdl := dif_len Al Bl
  clear ha hb
  go_enter Tryz.func33, Tryz.ntmps33
  have O0 : Hid (OwnE 59 (w.alloc (.cells #[] 59)) w.heap.size (.slice (some ⟨w.heap.size, 0, none⟩) 0 0) []) := World.ownsRow_lit w #[] 0 (Nat.le_refl _) (Nat.zero_le _) rfl
  have B0 : Hid (Below w.heap.size w (w.alloc (.cells #[] 59))) := (Below.refl _ _).alloc (Nat.le_refl _) _
  have HCA : Hid (∀ i, i < Al.length → ∃ b o, ao = some ⟨b, o, none⟩ ∧ b < w.heap.size ∧ CellsN w b (o + i * 7) (nAt Al i)) := by
    intro i hia
    obtain ⟨ao', cap', e', -, -, h3⟩ := HA.out
    simp only [Value.slice.injEq] at e'
    obtain ⟨rfl, -, -⟩ := e'
    rcases h3 with h3 | ⟨b, o, rfl, hb, hc⟩
    · rw [h3] at hia; simp at hia
    · exact ⟨b, o, rfl, hb, hc i hia⟩
  have HCB : Hid (∀ i, i < Bl.length → ∃ b o, bo = some ⟨b, o, none⟩ ∧ b < w.heap.size ∧ CellsN w b (o + i * 7) (nAt Bl i)) := by
    intro i hia
    obtain ⟨ao', cap', e', -, -, h3⟩ := HB'.out
    simp only [Value.slice.injEq] at e'
    obtain ⟨rfl, -, -⟩ := e'
    rcases h3 with h3 | ⟨b, o, rfl, hb, hc⟩
    · rw [h3] at hia; simp at hia
    · exact ⟨b, o, rfl, hb, hc i hia⟩
  clear HA HB'
  go_wp2
  go_loopw [5, 6, 7] (fun vo vi vj wr => ∃ (i j : Nat) (acc : List Ef), i ≤ Al.length ∧ j ≤ Bl.length ∧ vi = .int .i64 (i : Int) ∧ vj = .int .i64 (j : Int) ∧ Hid (acc ++ dif (Al.drop i) (Bl.drop j) = dif Al Bl) ∧ Hid (OwnE 59 wr w.heap.size vo acc) ∧ Hid (Below w.heap.size w wr)) (fun _ i j _ => (Al.length - (intOf i).toNat) + (Bl.length - (intOf j).toNat))
  case atStart => exact ⟨0, 0, [], Nat.zero_le _, Nat.zero_le _, rfl, rfl, rfl, O0, B0⟩
  case round =>
    clear O0 B0
    obtain ⟨i, j, acc, hi, hj, rfl, rfl, HD, HO, HB⟩ := hrel
    have sB := HB.out.size
    have hacc : acc.length ≤ 2000 := by
      have := congrArg List.length HD.out
      rw [List.length_append] at this
      omega
    by_cases hia : i < Al.length
    · have hiaI : (i : Int) < (Al.length : Int) := by omega
      have hieq : ((i : Int) == (Al.length : Int)) = false := beq_eq_false_iff_ne.2 (by omega)
      obtain ⟨ab, ai, hao, hab, hac⟩ := HCA.out i hia
      subst hao
      obtain ⟨a0, a1, a2, a3, a4, a5, a6⟩ := hac.below HB.out hab
      have HAC : Hid (CellsN w ab (ai + i * 7) (nAt Al i)) := hac
      clear hac
      by_cases hjb : j < Bl.length
      · have hjbI : (j : Int) < (Bl.length : Int) := by omega
        have hjeq : ((j : Int) == (Bl.length : Int)) = false := beq_eq_false_iff_ne.2 (by omega)
        obtain ⟨bb, bi, hbo, hbb, hbc⟩ := HCB.out j hjb
        subst hbo
        obtain ⟨c0, c1, c2, c3, c4, c5, c6⟩ := hbc.below HB.out hbb
        have HBC : Hid (CellsN w bb (bi + j * 7) (nAt Bl j)) := hbc
        clear hbc
        cases hl1 : ltP (nAt Bl j).path (nAt Al i).path with
        | true =>
          have HD2 : Hid (acc ++ [putE (nAt Bl j)] ++ dif (Al.drop i) (Bl.drop (j + 1)) = dif Al Bl) := by
            show _ = _
            rw [← HD.out, dif_lt Al Bl i j hia hjb hl1, List.append_assoc]
            rfl
          have hless : Op.bytesLess (nAt Bl j).path.toList (nAt Al i).path.toList = true := hl1
          generalize nAt Bl j = nb at *
          generalize nAt Al i = na at *
          clear HD
          go_wp2
          go_quiet (fail)
          have HO9 : Hid (OwnE 59 (wr.drewN nq) w.heap.size u5 acc) := HO.out.below (below_drewN' wr nq)
          have HB9 : Hid (Below w.heap.size w (wr.drewN nq)) := HB.out.trans ((below_drewN' wr nq).mono sB)
          go_wp2_with (at_builtin; go_must (refine wpList_append_own _ rfl _ _ 33 rfl w.heap.size 59 i0 (.agg #[.bool false, .string ByteArray.empty, .string ByteArray.empty, .int .i64 0, .int .i64 0, .int .i64 0, .int .i64 0, .int .i64 0]) 8 80 Tryz.underlying33 hi0 hz0 hz1 hz2 rfl (by decide) _ _ _ rfl (HO9.out.alloc _) ⟨(wr.drewN nq).heap.size, 0, none⟩ 1 1 (efL (putE nb)) rfl rfl (efLP_cells _ _ _) (efLP_one _) ?_ ?_ ?_ ?_))
          · unfold maxLen; omega
          · omega
          · simp; omega
          intro v5 w5 ho5 hg5 _
          obtain ⟨o5, b5⟩ := HO9.out.snocP HB9.out ho5 hg5
          have O5 : Hid (OwnE 59 w5 w.heap.size v5 (acc ++ [putE nb])) := o5
          have B5 : Hid (Below w.heap.size w w5) := b5
          clear o5 b5 ho5 hg5 HO HB HO9 HB9 a0 a1 a2 a3 a4 a5 a6 c0 c1 c2 c3 c4 c5 c6
          go_wp2
          exact ⟨⟨i, j + 1, _, by omega, by omega, by go_num, by go_num, HD2, O5, B5⟩, by simp [intOf]; omega⟩
        | false =>
          have hless : Op.bytesLess (nAt Bl j).path.toList (nAt Al i).path.toList = false := hl1
          cases hl2 : ltP (nAt Al i).path (nAt Bl j).path with
          | true =>
            have HD2 : Hid (acc ++ [delE (nAt Al i)] ++ dif (Al.drop (i + 1)) (Bl.drop j) = dif Al Bl) := by
              show _ = _
              rw [← HD.out, dif_gt Al Bl i j hia hjb hl1 hl2, List.append_assoc]
              rfl
            have hless2 : Op.bytesLess (nAt Al i).path.toList (nAt Bl j).path.toList = true := hl2
            generalize nAt Bl j = nb at *
            generalize nAt Al i = na at *
            clear HD hl1 hl2
            go_wp2
            go_quiet (fail)
            have HO1 : Hid (OwnE 59 (wr.drewN nq) w.heap.size u5 acc) := HO.out.below (below_drewN' wr nq)
            have HB1 : Hid (Below w.heap.size w (wr.drewN nq)) := HB.out.trans ((below_drewN' wr nq).mono sB)
            clear a0 a1 a2 a3 a4 a5 a6 c0 c1 c2 c3 c4 c5 c6 HO HB sB
            generalize wr.drewN nq = w7 at *
            have sB := HB1.out.size
            obtain ⟨a0, a1, a2, a3, a4, a5, a6⟩ := HAC.out.below HB1.out hab
            obtain ⟨c0, c1, c2, c3, c4, c5, c6⟩ := HBC.out.below HB1.out hbb
            go_wp2
            go_quiet (fail)
            have HO9 : Hid (OwnE 59 (w7.drewN nq) w.heap.size u5 acc) := HO1.out.below (below_drewN' w7 nq)
            have HB9 : Hid (Below w.heap.size w (w7.drewN nq)) := HB1.out.trans ((below_drewN' w7 nq).mono sB)
            go_wp2_with (at_builtin; go_must (refine wpList_append_own _ rfl _ _ 33 rfl w.heap.size 59 i0 (.agg #[.bool false, .string ByteArray.empty, .string ByteArray.empty, .int .i64 0, .int .i64 0, .int .i64 0, .int .i64 0, .int .i64 0]) 8 80 Tryz.underlying33 hi0 hz0 hz1 hz2 rfl (by decide) _ _ _ rfl (HO9.out.alloc _) ⟨(w7.drewN nq).heap.size, 0, none⟩ 1 1 (efL (delE na)) rfl rfl (efLP_cells _ _ _) (efLP_one _) ?_ ?_ ?_ ?_))
            · unfold maxLen; omega
            · omega
            · simp; omega
            intro v5 w5 ho5 hg5 _
            obtain ⟨o5, b5⟩ := HO9.out.snocP HB9.out ho5 hg5
            have O5 : Hid (OwnE 59 w5 w.heap.size v5 (acc ++ [delE na])) := o5
            have B5 : Hid (Below w.heap.size w w5) := b5
            clear o5 b5 ho5 hg5 HO1 HB1 HO9 HB9 a0 a1 a2 a3 a4 a5 a6 c0 c1 c2 c3 c4 c5 c6
            go_wp2
            exact ⟨⟨i + 1, j, _, by omega, by omega, by go_num, by go_num, HD2, O5, B5⟩, by simp [intOf]; omega⟩
          | false =>
            have hless2 : Op.bytesLess (nAt Al i).path.toList (nAt Bl j).path.toList = false := hl2
            have HD1 := dif_eq Al Bl i j hia hjb hl1 hl2
            have HD3 : Hid (acc ++ (if eqNd (nAt Al i) (nAt Bl j) then [] else [putE (nAt Bl j)]) ++ dif (Al.drop (i + 1)) (Bl.drop (j + 1)) = dif Al Bl) := by
              show _ = _
              rw [← HD.out, HD1, List.append_assoc]
            generalize nAt Bl j = nb at *
            generalize nAt Al i = na at *
            clear HD hl1 hl2 HD1
            go_wp2
            go_quiet (fail)
            have HO1 : Hid (OwnE 59 (wr.drewN nq) w.heap.size u5 acc) := HO.out.below (below_drewN' wr nq)
            have HB1 : Hid (Below w.heap.size w (wr.drewN nq)) := HB.out.trans ((below_drewN' wr nq).mono sB)
            clear a0 a1 a2 a3 a4 a5 a6 c0 c1 c2 c3 c4 c5 c6 HO HB sB
            generalize wr.drewN nq = w7 at *
            have sB := HB1.out.size
            obtain ⟨a0, a1, a2, a3, a4, a5, a6⟩ := HAC.out.below HB1.out hab
            obtain ⟨c0, c1, c2, c3, c4, c5, c6⟩ := HBC.out.below HB1.out hbb
            go_wp2
            go_quiet (fail)
            have HO2 : Hid (OwnE 59 (w7.drewN nq) w.heap.size u5 acc) := HO1.out.below (below_drewN' w7 nq)
            have HB2 : Hid (Below w.heap.size w (w7.drewN nq)) := HB1.out.trans ((below_drewN' w7 nq).mono sB)
            clear a0 a1 a2 a3 a4 a5 a6 c0 c1 c2 c3 c4 c5 c6 HO1 HB1 sB
            generalize w7.drewN nq = w8 at *
            have sB := HB2.out.size
            obtain ⟨a0, a1, a2, a3, a4, a5, a6⟩ := HAC.out.below HB2.out hab
            obtain ⟨c0, c1, c2, c3, c4, c5, c6⟩ := HBC.out.below HB2.out hbb
            go_wp2
            cases e0 : (na.path.toList == nb.path.toList) with
            | false =>
              have HD2 : Hid (acc ++ [putE nb] ++ dif (Al.drop (i + 1)) (Bl.drop (j + 1)) = dif Al Bl) := by
                have h9 := HD3.out
                rw [if_neg (by unfold eqNd; rw [e0]; simp)] at h9
                exact h9
              clear HD3
              go_quiet (fail)
              have HO9 : Hid (OwnE 59 (w8.drewN nq) w.heap.size u5 acc) := HO2.out.below (below_drewN' w8 nq)
              have HB9 : Hid (Below w.heap.size w (w8.drewN nq)) := HB2.out.trans ((below_drewN' w8 nq).mono sB)
              go_wp2_with (at_builtin; go_must (refine wpList_append_own _ rfl _ _ 33 rfl w.heap.size 59 i0 (.agg #[.bool false, .string ByteArray.empty, .string ByteArray.empty, .int .i64 0, .int .i64 0, .int .i64 0, .int .i64 0, .int .i64 0]) 8 80 Tryz.underlying33 hi0 hz0 hz1 hz2 rfl (by decide) _ _ _ rfl (HO9.out.alloc _) ⟨(w8.drewN nq).heap.size, 0, none⟩ 1 1 (efL (putE nb)) rfl rfl (efLP_cells _ _ _) (efLP_one _) ?_ ?_ ?_ ?_))
              · unfold maxLen; omega
              · omega
              · simp; omega
              intro v5 w5 ho5 hg5 _
              obtain ⟨o5, b5⟩ := HO9.out.snocP HB9.out ho5 hg5
              have O5 : Hid (OwnE 59 w5 w.heap.size v5 (acc ++ [putE nb])) := o5
              have B5 : Hid (Below w.heap.size w w5) := b5
              clear o5 b5 ho5 hg5 HO2 HB2 HO9 HB9 a0 a1 a2 a3 a4 a5 a6 c0 c1 c2 c3 c4 c5 c6
              go_wp2
              exact ⟨⟨i + 1, j + 1, _, by omega, by omega, by go_num, by go_num, HD2, O5, B5⟩, by simp [intOf]; omega⟩
            | true =>
              cases e1 : (na.data.toList == nb.data.toList) with
              | false =>
                have HD2 : Hid (acc ++ [putE nb] ++ dif (Al.drop (i + 1)) (Bl.drop (j + 1)) = dif Al Bl) := by
                  have h9 := HD3.out
                  rw [if_neg (by unfold eqNd; rw [e0, e1]; simp)] at h9
                  exact h9
                clear HD3
                go_quiet (fail)
                have HO9 : Hid (OwnE 59 (w8.drewN nq) w.heap.size u5 acc) := HO2.out.below (below_drewN' w8 nq)
                have HB9 : Hid (Below w.heap.size w (w8.drewN nq)) := HB2.out.trans ((below_drewN' w8 nq).mono sB)
                go_wp2_with (at_builtin; go_must (refine wpList_append_own _ rfl _ _ 33 rfl w.heap.size 59 i0 (.agg #[.bool false, .string ByteArray.empty, .string ByteArray.empty, .int .i64 0, .int .i64 0, .int .i64 0, .int .i64 0, .int .i64 0]) 8 80 Tryz.underlying33 hi0 hz0 hz1 hz2 rfl (by decide) _ _ _ rfl (HO9.out.alloc _) ⟨(w8.drewN nq).heap.size, 0, none⟩ 1 1 (efL (putE nb)) rfl rfl (efLP_cells _ _ _) (efLP_one _) ?_ ?_ ?_ ?_))
                · unfold maxLen; omega
                · omega
                · simp; omega
                intro v5 w5 ho5 hg5 _
                obtain ⟨o5, b5⟩ := HO9.out.snocP HB9.out ho5 hg5
                have O5 : Hid (OwnE 59 w5 w.heap.size v5 (acc ++ [putE nb])) := o5
                have B5 : Hid (Below w.heap.size w w5) := b5
                clear o5 b5 ho5 hg5 HO2 HB2 HO9 HB9 a0 a1 a2 a3 a4 a5 a6 c0 c1 c2 c3 c4 c5 c6
                go_wp2
                exact ⟨⟨i + 1, j + 1, _, by omega, by omega, by go_num, by go_num, HD2, O5, B5⟩, by simp [intOf]; omega⟩
              | true =>
                cases e2 : (na.ver == nb.ver) with
                | false =>
                  have HD2 : Hid (acc ++ [putE nb] ++ dif (Al.drop (i + 1)) (Bl.drop (j + 1)) = dif Al Bl) := by
                    have h9 := HD3.out
                    rw [if_neg (by unfold eqNd; rw [e0, e1, e2]; simp)] at h9
                    exact h9
                  clear HD3
                  go_quiet (fail)
                  have HO9 : Hid (OwnE 59 (w8.drewN nq) w.heap.size u5 acc) := HO2.out.below (below_drewN' w8 nq)
                  have HB9 : Hid (Below w.heap.size w (w8.drewN nq)) := HB2.out.trans ((below_drewN' w8 nq).mono sB)
                  go_wp2_with (at_builtin; go_must (refine wpList_append_own _ rfl _ _ 33 rfl w.heap.size 59 i0 (.agg #[.bool false, .string ByteArray.empty, .string ByteArray.empty, .int .i64 0, .int .i64 0, .int .i64 0, .int .i64 0, .int .i64 0]) 8 80 Tryz.underlying33 hi0 hz0 hz1 hz2 rfl (by decide) _ _ _ rfl (HO9.out.alloc _) ⟨(w8.drewN nq).heap.size, 0, none⟩ 1 1 (efL (putE nb)) rfl rfl (efLP_cells _ _ _) (efLP_one _) ?_ ?_ ?_ ?_))
                  · unfold maxLen; omega
                  · omega
                  · simp; omega
                  intro v5 w5 ho5 hg5 _
                  obtain ⟨o5, b5⟩ := HO9.out.snocP HB9.out ho5 hg5
                  have O5 : Hid (OwnE 59 w5 w.heap.size v5 (acc ++ [putE nb])) := o5
                  have B5 : Hid (Below w.heap.size w w5) := b5
                  clear o5 b5 ho5 hg5 HO2 HB2 HO9 HB9 a0 a1 a2 a3 a4 a5 a6 c0 c1 c2 c3 c4 c5 c6
                  go_wp2
                  exact ⟨⟨i + 1, j + 1, _, by omega, by omega, by go_num, by go_num, HD2, O5, B5⟩, by simp [intOf]; omega⟩
                | true =>
                  cases e3 : (na.cver == nb.cver) with
                  | false =>
                    have HD2 : Hid (acc ++ [putE nb] ++ dif (Al.drop (i + 1)) (Bl.drop (j + 1)) = dif Al Bl) := by
                      have h9 := HD3.out
                      rw [if_neg (by unfold eqNd; rw [e0, e1, e2, e3]; simp)] at h9
                      exact h9
                    clear HD3
                    go_quiet (fail)
                    have HO9 : Hid (OwnE 59 (w8.drewN nq) w.heap.size u5 acc) := HO2.out.below (below_drewN' w8 nq)
                    have HB9 : Hid (Below w.heap.size w (w8.drewN nq)) := HB2.out.trans ((below_drewN' w8 nq).mono sB)
                    go_wp2_with (at_builtin; go_must (refine wpList_append_own _ rfl _ _ 33 rfl w.heap.size 59 i0 (.agg #[.bool false, .string ByteArray.empty, .string ByteArray.empty, .int .i64 0, .int .i64 0, .int .i64 0, .int .i64 0, .int .i64 0]) 8 80 Tryz.underlying33 hi0 hz0 hz1 hz2 rfl (by decide) _ _ _ rfl (HO9.out.alloc _) ⟨(w8.drewN nq).heap.size, 0, none⟩ 1 1 (efL (putE nb)) rfl rfl (efLP_cells _ _ _) (efLP_one _) ?_ ?_ ?_ ?_))
                    · unfold maxLen; omega
                    · omega
                    · simp; omega
                    intro v5 w5 ho5 hg5 _
                    obtain ⟨o5, b5⟩ := HO9.out.snocP HB9.out ho5 hg5
                    have O5 : Hid (OwnE 59 w5 w.heap.size v5 (acc ++ [putE nb])) := o5
                    have B5 : Hid (Below w.heap.size w w5) := b5
                    clear o5 b5 ho5 hg5 HO2 HB2 HO9 HB9 a0 a1 a2 a3 a4 a5 a6 c0 c1 c2 c3 c4 c5 c6
                    go_wp2
                    exact ⟨⟨i + 1, j + 1, _, by omega, by omega, by go_num, by go_num, HD2, O5, B5⟩, by simp [intOf]; omega⟩
                  | true =>
                    cases e4 : (na.cz == nb.cz) with
                    | false =>
                      have HD2 : Hid (acc ++ [putE nb] ++ dif (Al.drop (i + 1)) (Bl.drop (j + 1)) = dif Al Bl) := by
                        have h9 := HD3.out
                        rw [if_neg (by unfold eqNd; rw [e0, e1, e2, e3, e4]; simp)] at h9
                        exact h9
                      clear HD3
                      go_quiet (fail)
                      have HO9 : Hid (OwnE 59 (w8.drewN nq) w.heap.size u5 acc) := HO2.out.below (below_drewN' w8 nq)
                      have HB9 : Hid (Below w.heap.size w (w8.drewN nq)) := HB2.out.trans ((below_drewN' w8 nq).mono sB)
                      go_wp2_with (at_builtin; go_must (refine wpList_append_own _ rfl _ _ 33 rfl w.heap.size 59 i0 (.agg #[.bool false, .string ByteArray.empty, .string ByteArray.empty, .int .i64 0, .int .i64 0, .int .i64 0, .int .i64 0, .int .i64 0]) 8 80 Tryz.underlying33 hi0 hz0 hz1 hz2 rfl (by decide) _ _ _ rfl (HO9.out.alloc _) ⟨(w8.drewN nq).heap.size, 0, none⟩ 1 1 (efL (putE nb)) rfl rfl (efLP_cells _ _ _) (efLP_one _) ?_ ?_ ?_ ?_))
                      · unfold maxLen; omega
                      · omega
                      · simp; omega
                      intro v5 w5 ho5 hg5 _
                      obtain ⟨o5, b5⟩ := HO9.out.snocP HB9.out ho5 hg5
                      have O5 : Hid (OwnE 59 w5 w.heap.size v5 (acc ++ [putE nb])) := o5
                      have B5 : Hid (Below w.heap.size w w5) := b5
                      clear o5 b5 ho5 hg5 HO2 HB2 HO9 HB9 a0 a1 a2 a3 a4 a5 a6 c0 c1 c2 c3 c4 c5 c6
                      go_wp2
                      exact ⟨⟨i + 1, j + 1, _, by omega, by omega, by go_num, by go_num, HD2, O5, B5⟩, by simp [intOf]; omega⟩
                    | true =>
                      cases e5 : (na.mz == nb.mz) with
                      | false =>
                        have HD2 : Hid (acc ++ [putE nb] ++ dif (Al.drop (i + 1)) (Bl.drop (j + 1)) = dif Al Bl) := by
                          have h9 := HD3.out
                          rw [if_neg (by unfold eqNd; rw [e0, e1, e2, e3, e4, e5]; simp)] at h9
                          exact h9
                        clear HD3
                        go_quiet (fail)
                        have HO9 : Hid (OwnE 59 (w8.drewN nq) w.heap.size u5 acc) := HO2.out.below (below_drewN' w8 nq)
                        have HB9 : Hid (Below w.heap.size w (w8.drewN nq)) := HB2.out.trans ((below_drewN' w8 nq).mono sB)
                        go_wp2_with (at_builtin; go_must (refine wpList_append_own _ rfl _ _ 33 rfl w.heap.size 59 i0 (.agg #[.bool false, .string ByteArray.empty, .string ByteArray.empty, .int .i64 0, .int .i64 0, .int .i64 0, .int .i64 0, .int .i64 0]) 8 80 Tryz.underlying33 hi0 hz0 hz1 hz2 rfl (by decide) _ _ _ rfl (HO9.out.alloc _) ⟨(w8.drewN nq).heap.size, 0, none⟩ 1 1 (efL (putE nb)) rfl rfl (efLP_cells _ _ _) (efLP_one _) ?_ ?_ ?_ ?_))
                        · unfold maxLen; omega
                        · omega
                        · simp; omega
                        intro v5 w5 ho5 hg5 _
                        obtain ⟨o5, b5⟩ := HO9.out.snocP HB9.out ho5 hg5
                        have O5 : Hid (OwnE 59 w5 w.heap.size v5 (acc ++ [putE nb])) := o5
                        have B5 : Hid (Below w.heap.size w w5) := b5
                        clear o5 b5 ho5 hg5 HO2 HB2 HO9 HB9 a0 a1 a2 a3 a4 a5 a6 c0 c1 c2 c3 c4 c5 c6
                        go_wp2
                        exact ⟨⟨i + 1, j + 1, _, by omega, by omega, by go_num, by go_num, HD2, O5, B5⟩, by simp [intOf]; omega⟩
                      | true =>
                        cases e6 : (na.pz == nb.pz) with
                        | false =>
                          have HD2 : Hid (acc ++ [putE nb] ++ dif (Al.drop (i + 1)) (Bl.drop (j + 1)) = dif Al Bl) := by
                            have h9 := HD3.out
                            rw [if_neg (by unfold eqNd; rw [e0, e1, e2, e3, e4, e5, e6]; simp)] at h9
                            exact h9
                          clear HD3
                          go_quiet (fail)
                          have HO9 : Hid (OwnE 59 (w8.drewN nq) w.heap.size u5 acc) := HO2.out.below (below_drewN' w8 nq)
                          have HB9 : Hid (Below w.heap.size w (w8.drewN nq)) := HB2.out.trans ((below_drewN' w8 nq).mono sB)
                          go_wp2_with (at_builtin; go_must (refine wpList_append_own _ rfl _ _ 33 rfl w.heap.size 59 i0 (.agg #[.bool false, .string ByteArray.empty, .string ByteArray.empty, .int .i64 0, .int .i64 0, .int .i64 0, .int .i64 0, .int .i64 0]) 8 80 Tryz.underlying33 hi0 hz0 hz1 hz2 rfl (by decide) _ _ _ rfl (HO9.out.alloc _) ⟨(w8.drewN nq).heap.size, 0, none⟩ 1 1 (efL (putE nb)) rfl rfl (efLP_cells _ _ _) (efLP_one _) ?_ ?_ ?_ ?_))
                          · unfold maxLen; omega
                          · omega
                          · simp; omega
                          intro v5 w5 ho5 hg5 _
                          obtain ⟨o5, b5⟩ := HO9.out.snocP HB9.out ho5 hg5
                          have O5 : Hid (OwnE 59 w5 w.heap.size v5 (acc ++ [putE nb])) := o5
                          have B5 : Hid (Below w.heap.size w w5) := b5
                          clear o5 b5 ho5 hg5 HO2 HB2 HO9 HB9 a0 a1 a2 a3 a4 a5 a6 c0 c1 c2 c3 c4 c5 c6
                          go_wp2
                          exact ⟨⟨i + 1, j + 1, _, by omega, by omega, by go_num, by go_num, HD2, O5, B5⟩, by simp [intOf]; omega⟩
                        | true =>
                          have HD2 : Hid (acc ++ dif (Al.drop (i + 1)) (Bl.drop (j + 1)) = dif Al Bl) := by
                            have h9 := HD3.out
                            rw [if_pos (by unfold eqNd; rw [e0, e1, e2, e3, e4, e5, e6]; rfl), List.append_nil] at h9
                            exact h9
                          clear HD3
                          go_quiet (fail)
                          have HO9 : Hid (OwnE 59 (w8.drewN nq) w.heap.size u5 acc) := HO2.out.below (below_drewN' w8 nq)
                          have HB9 : Hid (Below w.heap.size w (w8.drewN nq)) := HB2.out.trans ((below_drewN' w8 nq).mono sB)
                          clear HO2 HB2
                          go_wp2
                          exact ⟨⟨i + 1, j + 1, _, by omega, by omega, by go_num, by go_num, HD2, HO9, HB9⟩, by simp [intOf]; omega⟩
      · have hjeq : ((j : Int) == (Bl.length : Int)) = true := by simp; omega
        have hjbI : ¬ (j : Int) < (Bl.length : Int) := by omega
        have HD2 : Hid (acc ++ [delE (nAt Al i)] ++ dif (Al.drop (i + 1)) (Bl.drop j) = dif Al Bl) := by
          show _ = _
          rw [← HD.out, dif_del Al Bl i j hia (by omega), List.append_assoc]
          rfl
        generalize nAt Al i = na at *
        clear HD
        go_wp2
        go_quiet (fail)
        have HO1 : Hid (OwnE 59 (wr.drewN nq) w.heap.size u5 acc) := HO.out.below (below_drewN' wr nq)
        have HB1 : Hid (Below w.heap.size w (wr.drewN nq)) := HB.out.trans ((below_drewN' wr nq).mono sB)
        clear a0 a1 a2 a3 a4 a5 a6 HO HB sB
        generalize wr.drewN nq = w7 at *
        have sB := HB1.out.size
        obtain ⟨a0, a1, a2, a3, a4, a5, a6⟩ := HAC.out.below HB1.out hab
        go_wp2
        go_quiet (fail)
        have HO9 : Hid (OwnE 59 (w7.drewN nq) w.heap.size u5 acc) := HO1.out.below (below_drewN' w7 nq)
        have HB9 : Hid (Below w.heap.size w (w7.drewN nq)) := HB1.out.trans ((below_drewN' w7 nq).mono sB)
        go_wp2_with (at_builtin; go_must (refine wpList_append_own _ rfl _ _ 33 rfl w.heap.size 59 i0 (.agg #[.bool false, .string ByteArray.empty, .string ByteArray.empty, .int .i64 0, .int .i64 0, .int .i64 0, .int .i64 0, .int .i64 0]) 8 80 Tryz.underlying33 hi0 hz0 hz1 hz2 rfl (by decide) _ _ _ rfl (HO9.out.alloc _) ⟨(w7.drewN nq).heap.size, 0, none⟩ 1 1 (efL (delE na)) rfl rfl (efLP_cells _ _ _) (efLP_one _) ?_ ?_ ?_ ?_))
        · unfold maxLen; omega
        · omega
        · simp; omega
        intro v5 w5 ho5 hg5 _
        obtain ⟨o5, b5⟩ := HO9.out.snocP HB9.out ho5 hg5
        have O5 : Hid (OwnE 59 w5 w.heap.size v5 (acc ++ [delE na])) := o5
        have B5 : Hid (Below w.heap.size w w5) := b5
        clear o5 b5 ho5 hg5 HO1 HB1 HO9 HB9 a0 a1 a2 a3 a4 a5 a6
        go_wp2
        exact ⟨⟨i + 1, j, _, by omega, by omega, by go_num, by go_num, HD2, O5, B5⟩, by simp [intOf]; omega⟩
    · have hieq : ((i : Int) == (Al.length : Int)) = true := by simp; omega
      have hiaI : ¬ (i : Int) < (Al.length : Int) := by omega
      by_cases hjb : j < Bl.length
      · have hjbI : (j : Int) < (Bl.length : Int) := by omega
        obtain ⟨bb, bi, hbo, hbb, hbc⟩ := HCB.out j hjb
        subst hbo
        obtain ⟨c0, c1, c2, c3, c4, c5, c6⟩ := hbc.below HB.out hbb
        clear hbc
        have HD2 : Hid (acc ++ [putE (nAt Bl j)] ++ dif (Al.drop i) (Bl.drop (j + 1)) = dif Al Bl) := by
          show _ = _
          rw [← HD.out, dif_nil Al Bl i j (by omega) hjb, List.append_assoc]
          rfl
        generalize nAt Bl j = nb at *
        clear HD
        go_wp2
        go_quiet (fail)
        have HO9 : Hid (OwnE 59 (wr.drewN nq) w.heap.size u5 acc) := HO.out.below (below_drewN' wr nq)
        have HB9 : Hid (Below w.heap.size w (wr.drewN nq)) := HB.out.trans ((below_drewN' wr nq).mono sB)
        go_wp2_with (at_builtin; go_must (refine wpList_append_own _ rfl _ _ 33 rfl w.heap.size 59 i0 (.agg #[.bool false, .string ByteArray.empty, .string ByteArray.empty, .int .i64 0, .int .i64 0, .int .i64 0, .int .i64 0, .int .i64 0]) 8 80 Tryz.underlying33 hi0 hz0 hz1 hz2 rfl (by decide) _ _ _ rfl (HO9.out.alloc _) ⟨(wr.drewN nq).heap.size, 0, none⟩ 1 1 (efL (putE nb)) rfl rfl (efLP_cells _ _ _) (efLP_one _) ?_ ?_ ?_ ?_))
        · unfold maxLen; omega
        · omega
        · simp; omega
        intro v5 w5 ho5 hg5 _
        obtain ⟨o5, b5⟩ := HO9.out.snocP HB9.out ho5 hg5
        have O5 : Hid (OwnE 59 w5 w.heap.size v5 (acc ++ [putE nb])) := o5
        have B5 : Hid (Below w.heap.size w w5) := b5
        clear o5 b5 ho5 hg5 HO HB HO9 HB9 c0 c1 c2 c3 c4 c5 c6
        go_wp2
        exact ⟨⟨i, j + 1, _, by omega, by omega, by go_num, by go_num, HD2, O5, B5⟩, by simp [intOf]; omega⟩
      · have HF : Hid (acc = dif Al Bl) := by
          have := HD.out
          rw [List.drop_of_length_le (by omega), List.drop_of_length_le (by omega)] at this
          show _ = _
          simpa [dif] using this
        have hjbI : ¬ (j : Int) < (Bl.length : Int) := by omega
        go_wp2
        go_ret
        exact ⟨_, rfl, by rw [← HF.out]; exact HO.out, HB.out⟩

end Go.Proofs.YtdiingonnddkcaaGreatDoor


