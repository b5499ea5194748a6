import Derived.Test.YtdiingonnddkcaaGreatDoorJ07
import Derived.Test.YtdiingonnddkcaaGreatDoorJ09
import Derived.Test.YtdiingonnddkcaaGreatDoorJ04
import Derived.Test.YtdiingonnddkcaaGreatDoorJ08
import Derived.Laws.OwnMore
import Derived.Test.YtdiingonnddkcaaGreatDoorJ01
import Derived.Deep.RegionHeld
import Derived.Test.YtdiingonnddkcaaGreatDoorJ03
import Derived.Deep.RegionHeld3
namespace Go.Proofs.YtdiingonnddkcaaGreatDoor
open Go.RowKit

theorem less_trans : ∀ x y z : List UInt8, Op.bytesLess x y = true → Op.bytesLess y z = true → Op.bytesLess x z = true
  | [], [], _ => by simp [Op.bytesLess]
  | _ :: _, [], _ => by simp [Op.bytesLess]
  | _, _ :: _, [] => by simp [Op.bytesLess]
  | [], _ :: _, _ :: _ => by simp [Op.bytesLess]
  | a :: x, b :: y, c :: z => by
    unfold Op.bytesLess
    intro h1 h2
    have ih := less_trans x y z
    simp only [Bool.or_eq_true, Bool.and_eq_true, decide_eq_true_eq, beq_iff_eq] at h1 h2 ⊢
    rcases h1 with h1 | ⟨rfl, h1⟩
    · rcases h2 with h2 | ⟨rfl, h2⟩
      · exact .inl (UInt8.lt_trans h1 h2)
      · exact .inl h1
    · rcases h2 with h2 | ⟨rfl, h2⟩
      · exact .inl h2
      · exact .inr ⟨rfl, ih h1 h2⟩
theorem ltP_trans {a b c : ByteArray} (h1 : ltP a b = true) (h2 : ltP b c = true) : ltP a c = true := less_trans _ _ _ h1 h2
theorem ltP_ne {a b : ByteArray} (h : ltP a b = true) : (a.toList == b.toList) = false := by
  have := (ltP_yes h).2
  rw [Bool.eq_false_iff] at this ⊢
  intro e
  exact this (by rw [beq_iff_eq] at e ⊢; exact e.symm)
theorem ltP_gt_ne {a b : ByteArray} (h : ltP b a = true) : (a.toList == b.toList) = false := (ltP_yes h).2
theorem ltP_asymm {a b : ByteArray} (h : ltP a b = true) : ltP b a = false := (ltP_yes h).1
theorem ltP_total {a b : ByteArray} (h : ltP a b = false) (hne : (a.toList == b.toList) = false) : ltP b a = true := by
  rcases ltP_no h with h1 | ⟨_, h1⟩
  · exact h1
  · rw [beq_iff_eq] at h1
    rw [h1] at hne
    simp at hne
theorem cmpP_lt (a b : ByteArray) : (cmpP a b < 0) ↔ ltP a b = true := by
  unfold cmpP ltP
  rw [cmp_lt, ByteArray.toList_eq, ByteArray.toList_eq]
theorem cmpP_eq (a b : ByteArray) : (cmpP a b == 0) = (a.toList == b.toList) := by
  have h : cmpP a b = 0 ↔ a.toList = b.toList := by
    unfold cmpP
    rw [cmp_eq0, ByteArray.toList_eq, ByteArray.toList_eq]
  rw [Bool.eq_iff_iff, beq_iff_eq, beq_iff_eq]
  exact h

/-- Paths ascend. -/
def Asc (ns : List Nd) : Prop := ns.Pairwise fun a b => ltP a.path b.path = true
def AscE (es : List Ef) : Prop := es.Pairwise fun a b => ltP a.nd.path b.nd.path = true
theorem asc_of {α : Type} (f : α → ByteArray) : ∀ (l : List α), (∀ j (h : j + 1 < l.length), ltP (f l[j]) (f l[j+1]) = true) → l.Pairwise fun a b => ltP (f a) (f b) = true
  | [], _ => List.Pairwise.nil
  | [a], _ => by simp
  | a :: b :: l, h => by
    have ih := asc_of f (b :: l) (fun j hj => h (j + 1) (by simp at hj ⊢; omega))
    refine List.Pairwise.cons (fun c hc => ?_) ih
    have hab : ltP (f a) (f b) = true := h 0 (by simp)
    rcases List.mem_cons.1 hc with rfl | hc
    · exact hab
    · exact ltP_trans hab ((List.pairwise_cons.1 ih).1 c hc)
theorem okTree_asc {ns : List Nd} (h : okTree ns = true) : Asc ns := by
  unfold okTree okSorted at h
  simp only [Bool.and_eq_true, List.all_eq_true, List.mem_range] at h
  refine asc_of (fun n => n.path) ns fun j hj => ?_
  have := h.2 (j + 1) hj
  rw [okAt_succ] at this
  simp only [Bool.and_eq_true] at this
  have h2 := this.2
  rw [nAt_get (show j < ns.length by omega), nAt_get hj] at h2
  exact h2
theorem okEs_asc {es : List Ef} (h : okEs es = true) : AscE es := by
  unfold okEs at h
  simp only [List.all_eq_true, List.mem_range] at h
  refine asc_of (fun n => n.nd.path) es fun j hj => ?_
  have := h (j + 1) hj
  rw [okEAt_succ] at this
  simp only [Bool.and_eq_true] at this
  have h2 := this.2
  rw [eAt_get (show j < es.length by omega), eAt_get hj] at h2
  exact h2
theorem okTxn_es {z : Int} {es : List Ef} (h : okTxn z es = true) : okEs es = true ∧ es.length ≤ 1000 := by
  unfold okTxn at h
  simp only [Bool.and_eq_true, decide_eq_true_eq] at h
  exact ⟨h.2, h.1.2⟩

/-! ### the place of a path -/
def plc (r : List Nd) (p : ByteArray) : Nat := (r.takeWhile fun m => ltP m.path p).length
def skp (r : List Nd) (p : ByteArray) : Nat := if fnd r p (plc r p) then 1 else 0
theorem plc_take (r : List Nd) (p : ByteArray) : r.take (plc r p) = r.takeWhile fun m => ltP m.path p := by
  unfold plc
  induction r with
  | nil => rfl
  | cons a r ih =>
    rw [List.takeWhile_cons]
    split
    · simp [ih]
    · simp
theorem plc_drop (r : List Nd) (p : ByteArray) : r.drop (plc r p) = r.dropWhile fun m => ltP m.path p := by
  unfold plc
  induction r with
  | nil => rfl
  | cons a r ih =>
    rw [List.takeWhile_cons, List.dropWhile_cons]
    split
    · simp [ih]
    · simp
theorem plc_le (r : List Nd) (p : ByteArray) : plc r p ≤ r.length := by
  have := congrArg List.length (plc_take r p)
  rw [List.length_take] at this
  unfold plc at this ⊢
  omega
theorem tw_lt (r : List Nd) (p : ByteArray) : ∀ a ∈ r.take (plc r p), ltP a.path p = true := by
  rw [plc_take]
  induction r with
  | nil => simp
  | cons b r ih =>
    rw [List.takeWhile_cons]
    split
    · rename_i hb
      intro a ha
      rcases List.mem_cons.1 ha with rfl | ha
      · exact hb
      · exact ih a ha
    · simp
theorem dw_not : ∀ (r : List Nd) (p : ByteArray), Asc r → ∀ a ∈ r.drop (plc r p), ltP a.path p = false := by
  intro r p h a ha
  rw [plc_drop] at ha
  induction r with
  | nil => simp at ha
  | cons b r ih =>
    rw [List.dropWhile_cons] at ha
    split at ha
    · exact ih (List.pairwise_cons.1 h).2 ha
    · rename_i hb
      have hb' : ltP b.path p = false := by simpa using hb
      rcases List.mem_cons.1 ha with rfl | ha
      · exact hb'
      · have hba := (List.pairwise_cons.1 h).1 a ha
        cases hc : ltP a.path p with
        | false => rfl
        | true => rw [ltP_trans hba hc] at hb'; exact absurd hb' (by simp)
theorem low_plc (r : List Nd) (p : ByteArray) (h : Asc r) : Low r p (plc r p) := by
  refine ⟨plc_le r p, fun i hi => ?_, fun i hi hl => ?_⟩
  · rw [cmpP_lt]
    have hl := Nat.lt_of_lt_of_le hi (plc_le r p)
    refine tw_lt r p _ ?_
    rw [nAt_get hl]
    exact List.mem_take_iff_getElem.2 ⟨i, by omega, rfl⟩
  · rw [cmpP_lt, dw_not r p h]
    · simp
    · rw [nAt_get hl]
      exact List.mem_drop_iff_getElem.2 ⟨i - plc r p, by omega, by congr 1; omega⟩
theorem asc_drop {r : List Nd} (h : Asc r) (k : Nat) : Asc (r.drop k) := List.Pairwise.sublist (List.drop_sublist k r) h

/-- What stays of a row that begins at or behind a path. -/
theorem wo_high (D : List Nd) (p : ByteArray) (h : Asc D) (hn : ∀ a ∈ D, ltP a.path p = false) : woN D p = D.drop (if (decide (0 < D.length) && ((nAt D 0).path.toList == p.toList)) then 1 else 0) := by
  cases D with
  | nil => rfl
  | cons b D =>
    have hr : ∀ a ∈ D, (a.path.toList == p.toList) = false := by
      intro a ha
      have h1 := (List.pairwise_cons.1 h).1 a ha
      have h2 := hn b (by simp)
      cases hc : a.path.toList == p.toList with
      | false => rfl
      | true =>
        rw [beq_iff_eq] at hc
        unfold ltP at h1 h2
        rw [hc] at h1
        rw [h1] at h2
        exact absurd h2 (by simp)
    have hf : woN D p = D := by
      unfold woN
      rw [List.filter_eq_self]
      intro a ha
      rw [hr a ha]
      rfl
    have e0 : nAt (b :: D) 0 = b := rfl
    rw [e0]
    unfold woN at hf ⊢
    rw [List.filter_cons]
    cases hc : b.path.toList == p.toList with
    | true => simp [hf]
    | false => simp [hf]
theorem skp_eq (r : List Nd) (p : ByteArray) : skp r p = if (decide (0 < (r.drop (plc r p)).length) && ((nAt (r.drop (plc r p)) 0).path.toList == p.toList)) then 1 else 0 := by
  unfold skp fnd
  rw [cmpP_eq, List.length_drop]
  have e : nAt (r.drop (plc r p)) 0 = nAt r (plc r p) := by unfold nAt; simp [List.getD]
  rw [e]
  have e2 : decide (plc r p < r.length) = decide (0 < r.length - plc r p) := by rw [decide_eq_decide]; omega
  rw [e2]
theorem skp_le (r : List Nd) (p : ByteArray) : skp r p ≤ 1 ∧ plc r p + skp r p ≤ r.length := by
  have h := plc_le r p
  rw [skp_eq]
  split
  · rename_i hc
    simp only [Bool.and_eq_true, decide_eq_true_eq, List.length_drop] at hc
    omega
  · omega
theorem wo_drop (r : List Nd) (p : ByteArray) (h : Asc r) : woN (r.drop (plc r p)) p = r.drop (plc r p + skp r p) := by
  rw [wo_high _ p (asc_drop h _) (dw_not r p h), ← skp_eq, List.drop_drop]
theorem wo_low (A : List Nd) (p : ByteArray) (h : ∀ a ∈ A, ltP a.path p = true) : woN A p = A := by
  unfold woN
  rw [List.filter_eq_self]
  intro a ha
  rw [ltP_ne (h a ha)]
  rfl
theorem wo_append (A B : List Nd) (p : ByteArray) : woN (A ++ B) p = woN A p ++ woN B p := by unfold woN; rw [List.filter_append]
theorem wo_all (A r : List Nd) (p : ByteArray) (hA : ∀ a ∈ A, ltP a.path p = true) (h : Asc r) : woN (A ++ r) p = A ++ r.take (plc r p) ++ r.drop (plc r p + skp r p) := by
  conv => lhs; rw [← List.take_append_drop (plc r p) r]
  rw [wo_append, wo_append, wo_low A p hA, wo_low _ p (tw_lt r p), wo_drop r p h, List.append_assoc]

theorem wi_low (n : Nd) : ∀ (A X : List Nd), (∀ a ∈ A, ltP a.path n.path = true) → A.foldl (stW n) (X, false) = (X ++ A, false)
  | [], X, _ => by simp
  | a :: A, X, h => by
    have ha := h a (by simp)
    have e : stW n (X, false) a = (X ++ [a], false) := by
      have h1 : Op.bytesLess a.path.toList n.path.toList = true := ha
      unfold stW
      rw [ltP_ne ha, h1]
      rfl
    rw [List.foldl_cons, e, wi_low n A _ (fun b hb => h b (List.mem_cons_of_mem _ hb))]
    simp
theorem wi_done (n : Nd) : ∀ (A X : List Nd), (A.foldl (stW n) (X, true)) = (X ++ woN A n.path, true)
  | [], X => by simp [woN]
  | a :: A, X => by
    have e : stW n (X, true) a = (X ++ woN [a] n.path, true) := by
      unfold stW woN
      rw [List.filter_cons]
      cases hc : a.path.toList == n.path.toList <;> simp
    rw [List.foldl_cons, e, wi_done n A, show a :: A = [a] ++ A from rfl, wo_append, List.append_assoc]
theorem wi_high (n : Nd) (D X : List Nd) (hn : ∀ a ∈ D, ltP a.path n.path = false) :
    (let f := D.foldl (stW n) (X, false); if f.2 then f.1 else f.1 ++ [n]) = X ++ n :: woN D n.path := by
  cases D with
  | nil => simp [woN]
  | cons b D =>
    have hb : Op.bytesLess b.path.toList n.path.toList = false := hn b (by simp)
    have e : stW n (X, false) b = (X ++ n :: woN [b] n.path, true) := by
      unfold stW woN
      rw [hb, List.filter_cons]
      cases hc : b.path.toList == n.path.toList <;> simp
    have e2 : (b :: D).foldl (stW n) (X, false) = (X ++ n :: woN (b :: D) n.path, true) := by
      rw [List.foldl_cons, e, wi_done, show b :: D = [b] ++ D from rfl, wo_append]
      simp
    simp only [e2, if_true]
theorem wi_all (A r : List Nd) (n : Nd) (hA : ∀ a ∈ A, ltP a.path n.path = true) (h : Asc r) : wiN (A ++ r) n = A ++ r.take (plc r n.path) ++ n :: r.drop (plc r n.path + skp r n.path) := by
  unfold wiN wiF
  conv => lhs; rw [← List.take_append_drop (plc r n.path) r]
  rw [← List.append_assoc, List.foldl_append, wi_low n (A ++ r.take (plc r n.path)) [] (by
    intro a ha
    rcases List.mem_append.1 ha with ha | ha
    · exact hA a ha
    · exact tw_lt r _ a ha)]
  have := wi_high n (r.drop (plc r n.path)) ([] ++ (A ++ r.take (plc r n.path))) (dw_not r _ h)
  simp only at this
  rw [this, wo_drop r _ h]
  simp

/-! ### one effect, all effects -/
def apS (st : List Nd × List Nd) (e : Ef) : List Nd × List Nd :=
  (st.1 ++ st.2.take (plc st.2 e.nd.path) ++ (if e.del then [] else [e.nd]), st.2.drop (plc st.2 e.nd.path + skp st.2 e.nd.path))
def apI (ns : List Nd) (es : List Ef) : List Nd × List Nd := es.foldl apS ([], ns)
def apQ (ns : List Nd) (e : Ef) : List Nd := if e.del then woN ns e.nd.path else wiN ns e.nd
def apL (ns : List Nd) (es : List Ef) : List Nd := es.foldl apQ ns
theorem apS_apQ (st : List Nd × List Nd) (e : Ef) (hA : ∀ a ∈ st.1, ltP a.path e.nd.path = true) (h : Asc st.2) : apQ (st.1 ++ st.2) e = (apS st e).1 ++ (apS st e).2 := by
  unfold apQ apS
  cases e.del with
  | true => simp [wo_all _ _ _ hA h]
  | false => simp [wi_all _ _ _ hA h]
theorem ap_eq : ∀ (es : List Ef) (st : List Nd × List Nd), AscE es → (∀ a ∈ st.1, ∀ e ∈ es, ltP a.path e.nd.path = true) → Asc st.2 →
    (es.foldl apS st).1 ++ (es.foldl apS st).2 = es.foldl apQ (st.1 ++ st.2)
  | [], _, _, _, _ => rfl
  | e :: es, st, h, hA, hr => by
    have h' := List.pairwise_cons.1 h
    rw [List.foldl_cons, List.foldl_cons, apS_apQ st e (fun a ha => hA a ha e (by simp)) hr]
    refine ap_eq es (apS st e) h'.2 (fun a ha f hf => ?_) (asc_drop hr _)
    have hef := h'.1 f hf
    unfold apS at ha
    rcases List.mem_append.1 ha with ha | ha
    · rcases List.mem_append.1 ha with ha | ha
      · exact hA a ha f (List.mem_cons_of_mem _ hf)
      · exact ltP_trans (tw_lt _ _ a ha) hef
    · split at ha
      · simp at ha
      · rw [List.mem_singleton] at ha
        rw [ha]
        exact hef
theorem apI_eq {ns : List Nd} {es : List Ef} (h : Asc ns) (he : AscE es) : (apI ns es).1 ++ (apI ns es).2 = apL ns es := ap_eq es ([], ns) he (fun a ha => by simp at ha) h
theorem apI_succ (ns : List Nd) (es : List Ef) (k : Nat) (h : k < es.length) : apI ns (es.take (k + 1)) = apS (apI ns (es.take k)) (eAt es k) := by
  unfold apI
  rw [List.take_succ_eq_append_getElem h, List.foldl_append, eAt_get h]
  rfl
theorem apL_succ (ns : List Nd) (es : List Ef) (k : Nat) (h : k < es.length) : apL ns (es.take (k + 1)) = apQ (apL ns (es.take k)) (eAt es k) := by
  unfold apL
  rw [List.take_succ_eq_append_getElem h, List.foldl_append, eAt_get h]
  rfl
theorem apS_len (st : List Nd × List Nd) (e : Ef) : (apS st e).1.length + (apS st e).2.length ≤ st.1.length + st.2.length + 1 := by
  unfold apS
  have h := plc_le st.2 e.nd.path
  simp only [List.length_append, List.length_take, List.length_drop]
  split <;> simp <;> omega
theorem apI_len : ∀ (ns : List Nd) (es : List Ef) (k : Nat), (apI ns (es.take k)).1.length + (apI ns (es.take k)).2.length ≤ ns.length + k
  | ns, es, 0 => by simp [apI]
  | ns, es, k + 1 => by
    have ih := apI_len ns es k
    by_cases h : k < es.length
    · rw [apI_succ ns es k h]
      have := apS_len (apI ns (es.take k)) (eAt es k)
      omega
    · rw [List.take_of_length_le (by omega)] at ih ⊢
      omega
theorem apI_asc {ns : List Nd} (h : Asc ns) (es : List Ef) : Asc (apI ns es).2 := by
  unfold apI
  have : ∀ (es : List Ef) (st : List Nd × List Nd), Asc st.2 → Asc (es.foldl apS st).2 := by
    intro es
    induction es with
    | nil => exact fun st h => h
    | cons e es ih => exact fun st h => by rw [List.foldl_cons]; exact ih _ (asc_drop h _)
  exact this es _ h
theorem ascE_take {es : List Ef} (h : AscE es) (k : Nat) : AscE (es.take k) := List.Pairwise.sublist (List.take_sublist k es) h
theorem apL_len {ns : List Nd} {es : List Ef} (h : Asc ns) (he : AscE es) (k : Nat) : (apL ns (es.take k)).length ≤ ns.length + k := by
  rw [← apI_eq h (ascE_take he k), List.length_append]
  exact apI_len ns es k
theorem apI_all {ns : List Nd} {es : List Ef} {k : Nat} (h : Asc ns) (he : AscE es) (hk : es.length = k) : (apI ns (es.take k)).1 ++ (apI ns (es.take k)).2 = apL ns es := by
  rw [List.take_of_length_le (by omega)]
  exact apI_eq h he
/-- The nodes behind a transaction. -/
def resA (ns : List Nd) (z : Int) (es : List Ef) : List Nd := if okTree ns && okTxn z es then apL ns es else []
theorem wo_empty {ns : List Nd} (h : ∀ k, k < ns.length → okNd (nAt ns k) = true) (p : ByteArray) (hp : p.toList = []) : woN ns p = ns := by
  unfold woN
  rw [List.filter_eq_self]
  intro a ha
  obtain ⟨k, hk, e⟩ := List.getElem_of_mem ha
  have hn := h k hk
  rw [nAt_get hk, e] at hn
  have hpath : okPath a.path = true := by
    unfold okNd at hn
    simp only [Bool.and_eq_true] at hn
    exact hn.1.1.1.1.1.1
  have : ¬ a.path.toList = [] := by
    intro hc
    have hd : a.path.data.toList = [] := by rw [← ByteArray.toList_eq]; exact hc
    have hs : a.path.size = 0 := by
      have := congrArg List.length hd
      simpa using this
    by_cases h47 : a.path.data.toList = [47]
    · rw [hd] at h47; simp at h47
    · rw [okPath_not h47] at hpath
      simp only [Bool.and_eq_true, decide_eq_true_eq] at hpath
      omega
  rw [hp]
  cases hc : a.path.toList == [] with
  | false => rfl
  | true => rw [beq_iff_eq] at hc; exact absurd hc this

end Go.Proofs.YtdiingonnddkcaaGreatDoor
namespace Go.Proofs.YtdiingonnddkcaaGreatDoor
open Go.RowKit Go.Shelf

theorem asc_wo {ns : List Nd} (h : Asc ns) (p : ByteArray) : Asc (woN ns p) := List.Pairwise.sublist List.filter_sublist h
theorem ltP_irr (p : ByteArray) : ltP p p = false := by
  cases h : ltP p p with
  | false => rfl
  | true => have := ltP_ne h; simp at this
theorem wi_form {ns : List Nd} (n : Nd) (h : Asc ns) : wiN ns n = ns.take (plc ns n.path) ++ n :: ns.drop (plc ns n.path + skp ns n.path) := by
  have := wi_all [] ns n (fun a ha => by simp at ha) h
  simpa using this
theorem dw_gt {ns : List Nd} (h : Asc ns) (p : ByteArray) : ∀ a ∈ ns.drop (plc ns p + skp ns p), ltP p a.path = true ∧ (a.path.toList == p.toList) = false := by
  intro a ha
  rw [← wo_drop ns p h] at ha
  obtain ⟨h1, h2⟩ := List.mem_filter.1 ha
  have h3 : (a.path.toList == p.toList) = false := by simpa using h2
  exact ⟨ltP_total (dw_not ns p h a h1) h3, h3⟩
theorem asc_wi {ns : List Nd} (h : Asc ns) (n : Nd) : Asc (wiN ns n) := by
  rw [wi_form n h]
  unfold Asc
  rw [List.pairwise_append, List.pairwise_cons]
  refine ⟨List.Pairwise.sublist (List.take_sublist _ _) h, ⟨fun a ha => (dw_gt h n.path a ha).1, List.Pairwise.sublist (List.drop_sublist _ _) h⟩, ?_⟩
  intro a ha b hb
  have h1 := tw_lt ns n.path a ha
  rcases List.mem_cons.1 hb with rfl | hb
  · exact h1
  · exact ltP_trans h1 (dw_gt h n.path b hb).1
theorem wi_len9 {ns : List Nd} (h : Asc ns) (n : Nd) : (wiN ns n).length = ns.length + 1 - skp ns n.path := by
  have := skp_le ns n.path
  rw [wi_form n h]
  simp only [List.length_append, List.length_cons, List.length_take, List.length_drop]
  have := plc_le ns n.path
  omega
theorem skp_one {ns : List Nd} (h : Asc ns) {p : ByteArray} (hf : ∃ a ∈ ns, (a.path.toList == p.toList) = true) : skp ns p = 1 := by
  obtain ⟨a, ha, he⟩ := hf
  have h1 := skp_le ns p
  by_cases h0 : skp ns p = 0
  · exfalso
    rw [← List.take_append_drop (plc ns p) ns] at ha
    rcases List.mem_append.1 ha with ha | ha
    · have := ltP_ne (tw_lt ns p a ha)
      rw [this] at he; cases he
    · have := (dw_gt h p a (by rw [h0]; exact ha)).2
      rw [this] at he; cases he
  · omega
theorem found_mem {ns : List Nd} {p : ByteArray} (h : ns.findIdx (isP p) < ns.length) : nAt ns (ns.findIdx (isP p)) ∈ ns ∧ ((nAt ns (ns.findIdx (isP p))).path.toList == p.toList) = true := by
  rw [nAt_get h]
  exact ⟨List.getElem_mem h, List.findIdx_getElem (w := h)⟩

/-- A tree that is sound. -/
def Snd (ns : List Nd) : Prop := Asc ns ∧ (∀ n ∈ ns, okNd n = true) ∧ ns.length ≤ 1000
theorem okTree_snd {ns : List Nd} : okTree ns = true ↔ Snd ns := by
  constructor
  · intro h
    refine ⟨okTree_asc h, ?_, okTree_len h⟩
    intro n hn
    obtain ⟨i, hi, rfl⟩ := List.mem_iff_getElem.1 hn
    have := okTree_nd h i hi
    rwa [nAt_get hi] at this
  · rintro ⟨h1, h2, h3⟩
    unfold okTree
    rw [decide_eq_true h3, Bool.true_and]
    refine sorted_yes fun k hk => ?_
    cases k with
    | zero => rw [okAt_zero, nAt_get hk]; exact h2 _ (List.getElem_mem hk)
    | succ k =>
      rw [okAt_succ, nAt_get hk, nAt_get (show k < ns.length by omega), h2 _ (List.getElem_mem hk), Bool.true_and]
      exact List.pairwise_iff_getElem.1 h1 k (k + 1) (by omega) hk (by omega)
theorem Snd.wo {ns : List Nd} (h : Snd ns) (p : ByteArray) : Snd (woN ns p) :=
  ⟨asc_wo h.1 p, fun n hn => h.2.1 n (List.mem_filter.1 hn).1, Nat.le_trans (List.length_filter_le ..) h.2.2⟩
theorem Snd.wi {ns : List Nd} (h : Snd ns) {n : Nd} (hn : okNd n = true) (hl : ns.length < 1000 ∨ ∃ a ∈ ns, (a.path.toList == n.path.toList) = true) : Snd (wiN ns n) := by
  refine ⟨asc_wi h.1 n, fun m hm => ?_, ?_⟩
  · rcases wi_mem hm with h1 | rfl
    · exact h.2.1 m h1
    · exact hn
  · rw [wi_len9 h.1 n]
    have := h.2.2
    rcases hl with hl | hl
    · omega
    · rw [skp_one h.1 hl]; omega
theorem okS_mor {v : Int} (h : okS v = true) : okS (mor v) = true := by
  unfold okS mor at *
  simp only [Bool.and_eq_true, decide_eq_true_eq] at *
  split <;> omega
theorem Snd.touch {ns : List Nd} (h : Snd ns) (p : ByteArray) {z : Int} (hz : okS z = true) : Snd (toN ns p z) := by
  unfold toN
  split
  · rename_i hf
    obtain ⟨h1, h2⟩ := found_mem hf
    refine h.wi ?_ (.inr ⟨_, h1, by simp⟩)
    have h3 := h.2.1 _ h1
    unfold okNd at h3 ⊢
    simp only [Bool.and_eq_true] at h3 ⊢
    obtain ⟨⟨⟨⟨⟨⟨a1, a2⟩, a3⟩, a4⟩, a5⟩, a6⟩, a7⟩ := h3
    exact ⟨⟨⟨⟨⟨⟨a1, a2⟩, a3⟩, okS_mor a4⟩, a5⟩, a6⟩, hz⟩
  · exact h
theorem doO_snd {ns : List Nd} (h : Snd ns) (o : Op5) {z : Int} (hz : okS z = true) : Snd (doO ns o z).2.1 := by
  unfold doO
  split
  · exact h
  rename_i hw
  have hw' : wfO o = true := by simpa using hw
  have hd : o.data.size ≤ 64 := by
    unfold wfO at hw'
    simp only [Bool.and_eq_true, decide_eq_true_eq] at hw'
    exact hw'.1.1.2
  split
  · split
    · exact h
    split
    · exact h
    rename_i hp
    split
    · exact h
    split
    · exact h
    rename_i hl
    refine Snd.touch (h.wi ?_ (.inl (by have := h.2.2; omega))) _ hz
    have hp' : okPath (nameO ns o) = true := by simpa using hp
    unfold okNd
    simp only [Bool.and_eq_true, decide_eq_true_eq]
    exact ⟨⟨⟨⟨⟨⟨hp', hd⟩, by decide⟩, by decide⟩, hz⟩, hz⟩, hz⟩
  · split
    · exact h
    rename_i hf
    split
    · exact h
    split
    · split
      · exact h
      · exact (h.wo _).touch _ hz
    split
    · obtain ⟨h1, h2⟩ := found_mem (show ns.findIdx (isP o.path) < ns.length by omega)
      refine h.wi ?_ (.inr ⟨_, h1, by simp⟩)
      have h3 := h.2.1 _ h1
      unfold okNd at h3 ⊢
      simp only [Bool.and_eq_true, decide_eq_true_eq] at h3 ⊢
      obtain ⟨⟨⟨⟨⟨⟨a1, a2⟩, a3⟩, a4⟩, a5⟩, a6⟩, a7⟩ := h3
      exact ⟨⟨⟨⟨⟨⟨a1, hd⟩, okS_mor a3⟩, a4⟩, a5⟩, hz⟩, a7⟩
    · exact h


set_option maxHeartbeats 400000 in
theorem oneMore_any (w : World) (v : Int) (h : 0 ≤ v ∧ v ≤ 2147483647) :
    Calls Tryz.prog 114 #[.int .i64 v] w fun e w' => e = .returned (.int .i64 (mor v)) ∧ w' = w := by
  have hw : IntKind.i64.wrap (v + 1) = v + 1 := by rw [IntKind.wrap_i64]; omega
  go_enter Tryz.func114, Tryz.ntmps114
  go_wp2
  · obtain rfl : v = 2147483647 := by omega
    go_ret
    exact ⟨rfl, rfl⟩
  · go_ret
    rw [show mor v = v + 1 by unfold mor; rw [if_neg (by omega)]]
    exact ⟨rfl, rfl⟩


theorem idx_plc {ns : List Nd} {p : ByteArray} (hf : fnd ns p (plc ns p) = true) : ns.findIdx (isP p) = plc ns p ∧ plc ns p < ns.length := by
  unfold fnd at hf
  simp only [Bool.and_eq_true, decide_eq_true_eq] at hf
  obtain ⟨hl, he⟩ := hf
  rw [cmpP_eq] at he
  refine ⟨?_, hl⟩
  rw [List.findIdx_eq hl]
  refine ⟨by unfold isP; rw [← nAt_get hl]; exact he, fun j hj => ?_⟩
  have hm : ns[j]'(by omega) ∈ ns.take (plc ns p) := by
    rw [List.mem_take_iff_getElem]
    exact ⟨j, by omega, rfl⟩
  exact ltP_ne (tw_lt ns p _ hm)
theorem idx_none {ns : List Nd} (h : Asc ns) {p : ByteArray} (hf : fnd ns p (plc ns p) = false) : ¬ ns.findIdx (isP p) < ns.length := by
  intro hl
  obtain ⟨h1, h2⟩ := found_mem hl
  have := skp_one h ⟨_, h1, h2⟩
  unfold skp at this
  rw [hf] at this
  simp at this
theorem idx_some {ns : List Nd} (h : Asc ns) {p : ByteArray} (hl : ns.findIdx (isP p) < ns.length) : fnd ns p (plc ns p) = true ∧ plc ns p = ns.findIdx (isP p) := by
  cases hf : fnd ns p (plc ns p) with
  | false => exact absurd hl (idx_none h hf)
  | true => exact ⟨rfl, (idx_plc hf).1.symm⟩
/-- The program's search in a sound tree. -/
theorem find9 (w : World) (v : Value) (ns : List Nd) (p : ByteArray) (h : RdN w v ns) (hs : Snd ns) :
    Calls Tryz.prog 35 #[v, .string p] w fun e w' => e = .returned (.tuple #[.int .i64 (plc ns p : Int), .bool (decide (ns.findIdx (isP p) < ns.length))]) ∧ Below w.heap.size w w' := by
  have h9 := findNode_any w v ns p (plc ns p) h hs.2.2 (low_plc ns p hs.1)
  have e : fnd ns p (plc ns p) = decide (ns.findIdx (isP p) < ns.length) := by
    cases hf : fnd ns p (plc ns p) with
    | false => rw [decide_eq_false (idx_none hs.1 hf)]
    | true => rw [decide_eq_true]; rw [(idx_plc hf).1]; exact (idx_plc hf).2
  rw [e] at h9
  exact h9

end Go.Proofs.YtdiingonnddkcaaGreatDoor
namespace Go.Proofs.YtdiingonnddkcaaGreatDoor
open Go.RowKit

theorem OwnN.setO {w : World} {lo b j : Nat} {v : Value} {ns : List Nd} (h : OwnN 42 w lo v ns) (hn : v.ownBlock ≠ some b) (u : Value) : OwnN 42 (w.setCell ⟨b, j, none⟩ u) lo v ns := World.ownsRow.kept h (grownBy_set _ _ _ _ _ (World.grownBy.refl _ _)) (.inr hn)
theorem OwnE.slice9 {e : TypeId} {w : World} {lo : Nat} {v : Value} {es : List Ef} (h : OwnE e w lo v es) : ∃ a c, v = .slice a es.length c := by
  obtain ⟨a, c, h0, _⟩ := (OwnE.rd h).len
  exact ⟨a, c, h0⟩
theorem OwnN.slice9 {e : TypeId} {w : World} {lo : Nat} {v : Value} {ns : List Nd} (h : OwnN e w lo v ns) : ∃ a c, v = .slice a ns.length c := by
  obtain ⟨a, c, h0, _⟩ := h.rd.len
  exact ⟨a, c, h0⟩

end Go.Proofs.YtdiingonnddkcaaGreatDoor
namespace Go.Proofs.YtdiingonnddkcaaGreatDoor
open Go.RowKit Go.Shelf

/-- A struct of the call's own: its cells, which may be written. -/
structure St (W : World) (b : Nat) (L : List Value) : Prop where
  lt : b < W.heap.size
  fz : ∀ j, W.frozen? ⟨b, j, none⟩ = false
  cl : ∀ (j : Nat) (v : Value), L[j]? = some v → W.cell? ⟨b, j, none⟩ = some v
theorem St.belowB {W W' : World} {b m : Nat} {L : List Value} (h : St W b L) (hb : Below m W W') (hm : b < m) : St W' b L :=
  ⟨Nat.lt_of_lt_of_le h.lt hb.size, fun j => (hb.frozen (p := ⟨b, j, none⟩) hm).trans (h.fz j), fun j v hv => (hb.cell (p := ⟨b, j, none⟩) hm).trans (h.cl j v hv)⟩
theorem St.below {W W' : World} {b : Nat} {L : List Value} (h : St W b L) (hb : Below W.heap.size W W') : St W' b L := h.belowB hb h.lt
theorem St.set {W : World} {b : Nat} {L : List Value} (h : St W b L) (j : Nat) (x : Value) : St (W.setCell ⟨b, j, none⟩ x) b (L.set j x) := by
  refine ⟨by simpa using h.lt, fun i => by rw [World.frozen?_setCell]; exact h.fz i, fun i v hv => ?_⟩
  by_cases e : j = i
  · subst e
    have hj : j < L.length := by
      have := (List.getElem?_eq_some_iff.1 hv).1
      simpa using this
    rw [List.getElem?_set_self hj] at hv
    obtain rfl := Option.some.inj hv
    exact World.cell?_setCell_same _ _ _ (h.cl j _ (List.getElem?_eq_getElem hj))
  · rw [List.getElem?_set_ne e] at hv
    exact (World.cell?_setCell_other _ _ _ _ (by intro e9; injection e9 with e1 e2; first | exact e e2 | exact e e2.symm)).trans (h.cl i v hv)
theorem St.other {W : World} {b c j : Nat} {L : List Value} {x : Value} (h : St W b L) (hne : b ≠ c) : St (W.setCell ⟨c, j, none⟩ x) b L :=
  ⟨by simpa using h.lt, fun i => by rw [World.frozen?_setCell]; exact h.fz i, fun i v hv => (World.cell?_setCell_other _ _ _ _ (by intro e9; injection e9 with e1 e2; first | exact hne e1 | exact hne e1.symm)).trans (h.cl i v hv)⟩
theorem St.new (W : World) (cs : Array Value) (t : TypeId) : St (W.alloc (.cells cs t)) W.heap.size cs.toList := by
  refine ⟨by simp, fun j => by simp, fun j v hv => ?_⟩
  rw [cell_of_row _ _ j cs t (0, 0) (heap_alloc_new W _)]
  simpa using hv
/-- From one world to the next: block b and the row o have turned, nothing else; o' is the row now. -/
structure Tw (w : World) (b : Nat) (o : Option Nat) (w' : World) (o' : Option Nat) : Prop where
  os : w'.os = w.os
  tape : w'.tape = w.tape
  output : w'.output = w.output
  size : w.heap.size ≤ w'.heap.size
  block : ∀ q, q < w.heap.size → q ≠ b → o ≠ some q → w'.heap[q]? = w.heap[q]?
  own : o' = o ∨ o' = none ∨ ∃ g, o' = some g ∧ w.heap.size ≤ g
theorem Tw.ofBelow {w w' : World} (h : Below w.heap.size w w') (b : Nat) (o : Option Nat) : Tw w b o w' o := ⟨h.os, h.tape, h.output, h.size, fun q hq _ _ => h.block q hq, .inl rfl⟩
theorem Tw.refl (w : World) (b : Nat) (o : Option Nat) : Tw w b o w o := Tw.ofBelow (Below.refl _ _) b o
theorem Tw.trans {w w1 w2 : World} {b : Nat} {o o1 o2 : Option Nat} (h : Tw w b o w1 o1) (h' : Tw w1 b o1 w2 o2) : Tw w b o w2 o2 := by
  refine ⟨h'.os.trans h.os, h'.tape.trans h.tape, h'.output.trans h.output, Nat.le_trans h.size h'.size, fun q hq hb ho => ?_, ?_⟩
  · refine (h'.block q (Nat.lt_of_lt_of_le hq h.size) hb ?_).trans (h.block q hq hb ho)
    rcases h.own with e | e | ⟨g, e, hg⟩
    · rw [e]; exact ho
    · rw [e]; simp
    · rw [e]; intro e2; injection e2 with e2; omega
  · rcases h'.own with e | e | ⟨g, e, hg⟩
    · rw [e]; exact h.own
    · exact .inr (.inl e)
    · exact .inr (.inr ⟨g, e, Nat.le_trans h.size hg⟩)
theorem Tw.below {w w' : World} {b B : Nat} {o o' : Option Nat} (h : Tw w b o w' o') (hB : B ≤ w.heap.size) (hb : B ≤ b) (ho : ∀ g, o = some g → B ≤ g) : Below B w w' :=
  ⟨h.os, h.tape, h.output, h.size, fun q hq => h.block q (by omega) (by omega) (fun e => by have := ho q e; omega)⟩
theorem Tw.st {w w' : World} {b c : Nat} {o o' : Option Nat} {L : List Value} (h : Tw w b o w' o') (hs : St w c L) (hne : c ≠ b) (ho : o ≠ some c) : St w' c L := by
  have e := h.block c hs.lt hne ho
  refine ⟨Nat.lt_of_lt_of_le hs.lt h.size, fun j => ?_, fun j v hv => (World.cell?_of_block (w := w) (a := ⟨c, j, none⟩) e).trans (hs.cl j v hv)⟩
  have := hs.fz j
  unfold World.frozen? at this ⊢
  rw [e]; exact this
theorem Tw.set {w w' : World} {b j : Nat} {o o' : Option Nat} {x : Value} (h : Tw w b o w' o') : Tw w b o (w'.setCell ⟨b, j, none⟩ x) o' := by
  refine ⟨h.os, h.tape, h.output, by simpa using h.size, fun q hq hb ho => ?_, h.own⟩
  rw [Below.heap_setCell w' ⟨b, j, none⟩ x q hb]
  exact h.block q hq hb ho

theorem nrow_put : ∀ (ns : List Nd) (k f : Nat) (u : Value) (m : Nd), k < ns.length → f < 7 → ndL m = (ndL (nAt ns k)).set f u → (nrow ns).set (k * 7 + f) u = nrow (ns.set k m)
  | [], k, f, u, m, h, _, _ => by simp at h
  | a :: ns, 0, f, u, m, _, hf, hm => by
    rw [nrow_cons, List.set_cons_zero, nrow_cons, List.set_append_left _ _ (by show 0 * 7 + f < (ndL a).length; rw [show (ndL a).length = 7 from rfl]; omega), hm]
    simp [nAt]
  | a :: ns, k + 1, f, u, m, h, hf, hm => by
    rw [nrow_cons, List.set_cons_succ, nrow_cons, List.set_append_right _ _ (by show (ndL a).length ≤ _; rw [show (ndL a).length = 7 from rfl]; omega), show (k + 1) * 7 + f - (ndL a).length = k * 7 + f by rw [show (ndL a).length = 7 from rfl]; omega, nrow_put ns k f u m (by simpa using h) hf (by rw [hm]; simp [nAt])]
/-- One field of a node of the row is written. -/
theorem OwnN.put {w : World} {lo g c : Nat} {ns : List Nd} (h : OwnN 42 w lo (.slice (some ⟨g, 0, none⟩) ns.length c) ns) {k f : Nat} {u : Value} {m : Nd} (hk : k < ns.length) (hf : f < 7) (hm : ndL m = (ndL (nAt ns k)).set f u) :
    OwnN 42 (w.setCell ⟨g, k * 7 + f, none⟩ u) lo (.slice (some ⟨g, 0, none⟩) (ns.set k m).length c) (ns.set k m) ∧ w.grownBy (w.setCell ⟨g, k * 7 + f, none⟩ u) (some g) := by
  have h9 := World.ownsRow.stored h (k * 7 + f) u
  rw [nrow_put ns k f u m hk hf hm] at h9
  unfold OwnN
  rw [List.length_set]
  exact h9
/-- The draft: its nodes and its number. -/
structure Df (W : World) (D lo : Nat) (z : Int) (v : Value) (ns : List Nd) : Prop where
  s : St W D [v, .int .i64 z]
  o : OwnN 42 W lo v ns
  ne : v.ownBlock ≠ some D
  n : Snd ns
theorem Df.below {W W' : World} {D lo : Nat} {z : Int} {v : Value} {ns : List Nd} (h : Df W D lo z v ns) (hb : Below W.heap.size W W') : Df W' D lo z v ns := ⟨h.s.below hb, h.o.below hb, h.ne, h.n⟩

end Go.Proofs.YtdiingonnddkcaaGreatDoor
namespace Go.Proofs.YtdiingonnddkcaaGreatDoor
open Go.RowKit
section
variable {P : Program} {md : Region.Mode} {ops : Array Oper} {Q : Exit → Act → World → Prop} {S : World → Prop} {fuel : Nat} {listed : Array Bool} {a : Act} {w : World} {d : Option Nat} {op : Op} {ty : TypeId} {ps : String} {af : Array Edge} {gu : Option (Nat × Bool)} {os : List Oper}
theorem tkE9 (i : Nat) (v : Value) (hi : ops[i]? = some ⟨d, op, ty, ps, af, gu⟩) (hb : ((Region.noSelect ops && (Region.free md ops listed i && (Region.ready md ops listed).contains i)) && (Region.wanted ⟨d, op, ty, ps, af, gu⟩ (yielded ops a.tmps) == true)) = true) (hQ : ∀ p : List PanicEntry × Act × World, Q (.panic p.1) (p.2.1.put d v) p.2.2 → Q (.panic p.1) p.2.1 p.2.2) (hS : S w) (hy : ∀ w, S w → (execOp a.eval ⟨d, op, ty, ps, af, gu⟩).run P w = .ok (.value v) w) (h : wpAnyH P md ops Q S fuel (listed.setIfInBounds i true) (a.put d v) w) : wpAnyH P md ops Q S (fuel + 1) listed a w := tkL9 hi (Bool.and_eq_true_iff.1 hb).1 (fun c a w h => hQ (c, a, w) h) (beq_iff_eq.1 (Bool.and_eq_true_iff.1 hb).2) hS hy h
theorem tkI9 (v : Value) (hb : (ops[ops.size - (os.length + 1)]?, ((Region.noSelect ops && (Region.free md ops listed (ops.size - (os.length + 1)) && (Region.ready md ops listed).contains (ops.size - (os.length + 1)))) && (Region.wanted ⟨d, op, ty, ps, af, gu⟩ (yielded ops a.tmps) == true))) = (some ⟨d, op, ty, ps, af, gu⟩, true)) (hQ : ∀ p : List PanicEntry × Act × World, Q (.panic p.1) (p.2.1.put d v) p.2.2 → Q (.panic p.1) p.2.1 p.2.2) (hS : S w) (hy : ∀ w, S w → (execOp a.eval ⟨d, op, ty, ps, af, gu⟩).run P w = .ok (.value v) w) (h : wpAnyH P md ops Q S os.length (listed.setIfInBounds (ops.size - (os.length + 1)) true) (a.put d v) w) : wpAnyH P md ops Q S (⟨d, op, ty, ps, af, gu⟩ :: os).length listed a w := tkE9 _ v (Prod.mk.inj hb).1 (Prod.mk.inj hb).2 hQ hS hy h
theorem tkU9 (i : Nat) (hi : ops[i]? = some ⟨d, op, ty, ps, af, gu⟩) (hb : ((Region.noSelect ops && (Region.free md ops listed i && (Region.ready md ops listed).contains i)) && (Region.wanted ⟨d, op, ty, ps, af, gu⟩ (yielded ops a.tmps) == false)) = true) (hQ : ∀ p : List PanicEntry × Act × World, Q (.panic p.1) (p.2.1.put d undef) p.2.2 → Q (.panic p.1) p.2.1 p.2.2) (hS : S w) (h : wpAnyH P md ops Q S fuel (listed.setIfInBounds i true) (a.put d undef) w) : wpAnyH P md ops Q S (fuel + 1) listed a w := tkR9 hi (Bool.and_eq_true_iff.1 hb).1 (fun c a w h => hQ (c, a, w) h) (beq_iff_eq.1 (Bool.and_eq_true_iff.1 hb).2) hS h
theorem tkN9 (hb : (ops[ops.size - (os.length + 1)]?, ((Region.noSelect ops && (Region.free md ops listed (ops.size - (os.length + 1)) && (Region.ready md ops listed).contains (ops.size - (os.length + 1)))) && (Region.wanted ⟨d, op, ty, ps, af, gu⟩ (yielded ops a.tmps) == false))) = (some ⟨d, op, ty, ps, af, gu⟩, true)) (hQ : ∀ p : List PanicEntry × Act × World, Q (.panic p.1) (p.2.1.put d undef) p.2.2 → Q (.panic p.1) p.2.1 p.2.2) (hS : S w) (h : wpAnyH P md ops Q S os.length (listed.setIfInBounds (ops.size - (os.length + 1)) true) (a.put d undef) w) : wpAnyH P md ops Q S (⟨d, op, ty, ps, af, gu⟩ :: os).length listed a w := tkU9 _ (Prod.mk.inj hb).1 (Prod.mk.inj hb).2 hQ hS h
theorem rdA9 (i : Nat) (ho : ops[i]? = some ⟨d, op, ty, ps, af, gu⟩) (hr : Region.ready md ops listed = [i]) (h : ∀ K' : Act → World → Prop, Shut (∀ a w, S w → (S w → wpAnyH P md ops Q S fuel (listed.setIfInBounds i true) a w) → K' a w) → if Region.wanted ⟨d, op, ty, ps, af, gu⟩ (yielded ops a.tmps) = true then Oper.wp P ⟨d, op, ty, ps, af, gu⟩ a w K' Q else K' (a.put d undef) w) : wpAnyH P md ops Q S (fuel + 1) listed a w := wpAnyH_ready hr (by simp) (AllReadyH.cons ho h AllReadyH.nil)
theorem rdB9 (i j : Nat) {d2 : Option Nat} {op2 : Op} {ty2 : TypeId} {ps2 : String} {af2 : Array Edge} {gu2 : Option (Nat × Bool)} (ho : ops[i]? = some ⟨d, op, ty, ps, af, gu⟩) (ho2 : ops[j]? = some ⟨d2, op2, ty2, ps2, af2, gu2⟩) (hr : Region.ready md ops listed = [i, j]) (h : ∀ K' : Act → World → Prop, Shut (∀ a w, S w → (S w → wpAnyH P md ops Q S fuel (listed.setIfInBounds i true) a w) → K' a w) → if Region.wanted ⟨d, op, ty, ps, af, gu⟩ (yielded ops a.tmps) = true then Oper.wp P ⟨d, op, ty, ps, af, gu⟩ a w K' Q else K' (a.put d undef) w) (h2 : ∀ K' : Act → World → Prop, Shut (∀ a w, S w → (S w → wpAnyH P md ops Q S fuel (listed.setIfInBounds j true) a w) → K' a w) → if Region.wanted ⟨d2, op2, ty2, ps2, af2, gu2⟩ (yielded ops a.tmps) = true then Oper.wp P ⟨d2, op2, ty2, ps2, af2, gu2⟩ a w K' Q else K' (a.put d2 undef) w) : wpAnyH P md ops Q S (fuel + 1) listed a w := wpAnyH_ready hr (by simp) (AllReadyH.cons ho h (AllReadyH.cons ho2 h2 AllReadyH.nil))
end
end Go.Proofs.YtdiingonnddkcaaGreatDoor
namespace Go.Proofs.YtdiingonnddkcaaGreatDoor
open Go.RowKit Go.Shelf

theorem OwnN.at {e : TypeId} {w : World} {lo : Nat} {v : Value} {ns : List Nd} (h : OwnN e w lo v ns) {k : Nat} (hk : k < ns.length) : ∃ g c, v = .slice (some ⟨g, 0, none⟩) ns.length c ∧ lo ≤ g ∧ g < w.heap.size ∧ ∀ i, i < ns.length → CellsN w g (i * 7) (nAt ns i) := by
  have hr := h.rd
  rcases h.2 with ⟨rfl, h0⟩ | ⟨g, cap, cur, rfl, hb, hg, hn, hm, hs, ht⟩
  · omega
  · refine ⟨g, cap, rfl, hb, (Array.getElem?_eq_some_iff.1 hg).1, fun i hi => ?_⟩
    obtain ⟨ao, c9, e9, -, -, h3⟩ := hr
    simp only [Value.slice.injEq] at e9
    rcases h3 with h3 | ⟨b, off, e8, hlt, hc⟩
    · rw [h3] at hk; simp at hk
    · rw [e8] at e9
      simp only [Option.some.injEq, Addr.mk.injEq] at e9
      obtain ⟨⟨rfl, rfl, -⟩, -⟩ := e9
      have := hc i hi
      rwa [Nat.zero_add] at this
/-- A fault. -/
def flt (c : Int) : Value := .iface 71 (.agg #[.int .i64 c])
/-- What wanted answers. -/
def wanV (ns : List Nd) (o : Op5) : Array Value :=
  if ¬ ns.findIdx (isP o.path) < ns.length then #[.int .i64 0, flt 2]
  else if o.ver ≠ -1 ∧ o.ver ≠ (nAt ns (ns.findIdx (isP o.path))).ver then #[.int .i64 0, flt 4]
  else #[.int .i64 (ns.findIdx (isP o.path) : Int), .nilIface]

set_option linter.unusedSimpArgs false in
set_option maxHeartbeats 2000000 in
set_option maxRecDepth 100000 in
theorem wanted_any (w : World) (D lo : Nat) (z : Int) (v : Value) (ns : List Nd) (o : Op5) (h : Df w D lo z v ns) :
    Calls Tryz.prog 110 #[.pointer (some ⟨D, 0, none⟩), .agg #[.int .i64 o.kind, .string o.path, .string o.data, .int .i64 o.ver, .bool o.seq]] w fun e w' => e = .returned (.tuple (wanV ns o)) ∧ Below w.heap.size w w' := by
  obtain ⟨kind, path, data, ver, seq⟩ := o
  simp only at *
  have hlt := h.s.lt
  obtain ⟨FD, hFD⟩ : ∃ b, b = decide (ns.findIdx (isP path) < ns.length) := ⟨_, rfl⟩
  have HF : Hid (∀ W, Below w.heap.size w W → Calls Tryz.prog 35 #[v, .string path] W fun e w' => e = .returned (.tuple #[.int .i64 (plc ns path : Int), .bool FD]) ∧ Below W.heap.size W w') := fun W hW => by
    rw [hFD]; exact find9 W v ns path (h.o.below hW).rd h.n
  have HFD := hd9 hFD
  clear hFD
  have B0 : Hid (Below w.heap.size w (w.alloc (.cells #[.int .i64 kind, .string path, .string data, .int .i64 ver, .bool seq] 40))) := (Below.refl _ _).alloc (Nat.le_refl _) _
  have XO : Hid (St (w.alloc (.cells #[.int .i64 kind, .string path, .string data, .int .i64 ver, .bool seq] 40)) w.heap.size [.int .i64 kind, .string path, .string data, .int .i64 ver, .bool seq]) := St.new _ _ _
  have XD : Hid (Df (w.alloc (.cells #[.int .i64 kind, .string path, .string data, .int .i64 ver, .bool seq] 40)) D lo z v ns) := h.below B0.out
  clear h
  go_enter Tryz.func110, Tryz.ntmps110
  go_wp2_with fail
  generalize w.alloc _ = w0 at *
  refine wp_region_held_drew (S := fun W => W.cell? ⟨D, 0, none⟩ = some v ∧ W.cell? ⟨w.heap.size, 1, none⟩ = some (.string path)) (by kernel_rfl) ⟨(XD.out.below (below_drewN' w0 1)).s.cl 0 _ rfl, (XO.out.below (below_drewN' w0 1)).cl 1 _ rfl⟩ (fun hHeld => ?_)
  have B1 : Hid (Below w.heap.size w w0.drew) := B0.out.trans ((below_drewN' w0 1).mono B0.out.size)
  have X1 : Hid (St w0.drew w.heap.size [.int .i64 kind, .string path, .string data, .int .i64 ver, .bool seq]) := XO.out.below (below_drewN' w0 1)
  have D1 : Hid (Df w0.drew D lo z v ns) := XD.out.below (below_drewN' w0 1)
  clear B0 XO XD
  generalize w0.drew = w1 at *
  iterate 6 (refine tkI9 ?_ (by kernel_rfl) (fun _ => id) hHeld ?_ ?_; rotate_left; · intro w9 hS9; obtain ⟨k0, k1⟩ := hS9; go_simp; try with_reducible rfl)
  refine rdA9 6 rfl (by kernel_rfl) (fun K hK => ?_)
  go_simp
  refine (HF.out _ B1.out).mono ?_
  rintro e w2 ⟨rfl, b2⟩
  have B2 : Hid (Below w.heap.size w w2) := B1.out.trans (b2.mono B1.out.size)
  have X2 : Hid (St w2 w.heap.size [.int .i64 kind, .string path, .string data, .int .i64 ver, .bool seq]) := X1.out.below b2
  have D2 : Hid (Df w2 D lo z v ns) := D1.out.below b2
  clear hHeld b2 B1 X1 D1
  refine hK.out _ _ ⟨D2.out.s.cl 0 _ rfl, X2.out.cl 1 _ rfl⟩ (fun hHeld => ?_)
  clear hK K
  iterate 5 (refine tkI9 ?_ (by kernel_rfl) (fun _ => id) hHeld ?_ ?_; rotate_left; · intro w9 hS9; clear hS9; go_simp; try with_reducible rfl)
  refine wpAnyH_done (by kernel_rfl) ?_ _
  simp only [Act.put, sT9, sZ9, sS9]
  clear hHeld HF
  cases FD with
  | true =>
    have hf : ns.findIdx (isP path) < ns.length := of_decide_eq_true HFD.out.symm
    have hpl := (idx_some D2.out.n.1 hf).2
    rw [hpl]
    clear hpl HFD
    obtain ⟨I, hI⟩ : ∃ I, I = ns.findIdx (isP path) := ⟨_, rfl⟩
    rw [← hI] at hf ⊢
    have hL : (I : Int) < (ns.length : Int) := by omega
    obtain ⟨g, gc, hv, hlo, hgl, hce⟩ := D2.out.o.at hf
    subst hv
    have HI := hd9 hI
    have HCE := hd9 hce
    clear hI hce
    have hg0 : (0 : Int) ≤ (I : Int) := by omega
    have HVR : Hid (wanV ns ⟨kind, path, data, ver, seq⟩ = (if ver ≠ -1 ∧ ver ≠ (nAt ns I).ver then #[.int .i64 0, flt 4] else #[.int .i64 (I : Int), .nilIface])) := by
      show _ = _
      unfold wanV
      simp only
      rw [if_neg (by rw [← HI.out]; omega), ← HI.out]
    clear HI
    go_wp2_with fail
    have X3 : Hid (St w2.drew w.heap.size [.int .i64 kind, .string path, .string data, .int .i64 ver, .bool seq]) := X2.out.below (below_drewN' w2 1)
    have D3 : Hid (Df w2.drew D lo z (.slice (some ⟨g, 0, none⟩) ns.length gc) ns) := D2.out.below (below_drewN' w2 1)
    have B3 : Hid (Below w.heap.size w w2.drew) := B2.out.trans ((below_drewN' w2 1).mono B2.out.size)
    refine wp_region_held_drew (S := fun W => W.cell? ⟨w.heap.size, 3, none⟩ = some (.int .i64 ver) ∧ W.cell? ⟨D, 0, none⟩ = some (.slice (some ⟨g, 0, none⟩) ns.length gc) ∧ W.cell? ⟨g, I * 7 + 2, none⟩ = some (.int .i64 (nAt ns I).ver)) (by kernel_rfl) ⟨X3.out.cl 3 _ rfl, D3.out.s.cl 0 _ rfl, ((HCE.out I hf).below (below_drewN' w2 1) hgl).all.2.2.1⟩ (fun hHeld => ?_)
    generalize w2.drew = w3 at *
    by_cases hv1 : ver = -1
    · subst hv1
      iterate 4 (refine tkI9 ?_ (by kernel_rfl) (fun _ => id) hHeld ?_ ?_; rotate_left; · intro w9 hS9; obtain ⟨k0, k1, k2⟩ := hS9; go_simp; try with_reducible rfl)
      iterate 11 (refine tkN9 (by kernel_rfl) (fun _ => id) hHeld ?_)
      iterate 1 (refine tkI9 ?_ (by kernel_rfl) (fun _ => id) hHeld ?_ ?_; rotate_left; · intro w9 hS9; clear hS9; go_simp; try with_reducible rfl)
      refine wpAnyH_done (by kernel_rfl) ?_ _
      simp only [Act.put, sT9, sZ9, sS9]
      clear hHeld
      have HV : Hid (wanV ns ⟨kind, path, data, -1, seq⟩ = #[.int .i64 (I : Int), .nilIface]) := by show _ = _; rw [HVR.out]; simp
      go_wp2_with fail
      rw [HV.out]
      exact bodyPost_ret (v := .tuple #[.int .i64 (I : Int), .nilIface]) (by simp [results, Tryz.results110, go_sem]) rfl ⟨rfl, B3.out⟩
    · have hne : (ver != -1) = true := by simp [hv1]
      by_cases hv2 : ver = (nAt ns I).ver
      · have hn2 : (ver != (nAt ns I).ver) = false := by simp [hv2]
        have HV : Hid (wanV ns ⟨kind, path, data, ver, seq⟩ = #[.int .i64 (I : Int), .nilIface]) := by show _ = _; rw [HVR.out, if_neg (by simp [hv2])]
        clear HVR
        iterate 2 (refine tkI9 ?_ (by kernel_rfl) (fun _ => id) hHeld ?_ ?_; rotate_left; · intro w9 hS9; obtain ⟨k0, k1, k2⟩ := hS9; go_simp; try with_reducible rfl)
        refine tkI9 (.bool true) (by kernel_rfl) (fun _ => id) hHeld ?_ ?_
        · intro w9 hS9; clear hS9; go_simp; try (first | exact hv1 | simp_all)
        iterate 11 (refine tkI9 ?_ (by kernel_rfl) (fun _ => id) hHeld ?_ ?_; rotate_left; · intro w9 hS9; obtain ⟨k0, k1, k2⟩ := hS9; go_simp; try with_reducible rfl)
        refine tkI9 (.bool false) (by kernel_rfl) (fun _ => id) hHeld ?_ ?_
        · intro w9 hS9; clear hS9; go_simp; try (first | exact hv1 | simp_all)
        iterate 1 (refine tkI9 ?_ (by kernel_rfl) (fun _ => id) hHeld ?_ ?_; rotate_left; · intro w9 hS9; clear hS9; go_simp; try with_reducible rfl)
        refine wpAnyH_done (by kernel_rfl) ?_ _
        simp only [Act.put, sT9, sZ9, sS9]
        clear hHeld hv1 hne hn2
        go_wp2_with fail
        rw [HV.out]
        exact bodyPost_ret (v := .tuple #[.int .i64 (I : Int), .nilIface]) (by simp [results, Tryz.results110, go_sem, flt]) rfl ⟨rfl, B3.out⟩
      · have hn2 : (ver != (nAt ns I).ver) = true := by simp [hv2]
        have HV : Hid (wanV ns ⟨kind, path, data, ver, seq⟩ = #[.int .i64 0, flt 4]) := by show _ = _; rw [HVR.out, if_pos ⟨hv1, hv2⟩]
        clear HVR
        iterate 2 (refine tkI9 ?_ (by kernel_rfl) (fun _ => id) hHeld ?_ ?_; rotate_left; · intro w9 hS9; obtain ⟨k0, k1, k2⟩ := hS9; go_simp; try with_reducible rfl)
        refine tkI9 (.bool true) (by kernel_rfl) (fun _ => id) hHeld ?_ ?_
        · intro w9 hS9; clear hS9; go_simp; try (first | exact hv1 | simp_all)
        iterate 11 (refine tkI9 ?_ (by kernel_rfl) (fun _ => id) hHeld ?_ ?_; rotate_left; · intro w9 hS9; obtain ⟨k0, k1, k2⟩ := hS9; go_simp; try with_reducible rfl)
        refine tkI9 (.bool true) (by kernel_rfl) (fun _ => id) hHeld ?_ ?_
        · intro w9 hS9; clear hS9; go_simp; try (first | exact hv1 | simp_all)
        iterate 1 (refine tkI9 ?_ (by kernel_rfl) (fun _ => id) hHeld ?_ ?_; rotate_left; · intro w9 hS9; clear hS9; go_simp; try with_reducible rfl)
        refine wpAnyH_done (by kernel_rfl) ?_ _
        simp only [Act.put, sT9, sZ9, sS9]
        clear hHeld hv1 hne hn2
        go_wp2_with fail
        rw [HV.out]
        exact bodyPost_ret (v := .tuple #[.int .i64 0, flt 4]) (by simp [results, Tryz.results110, go_sem, flt]) rfl ⟨rfl, B3.out⟩
  | false =>
    have hf : ¬ ns.findIdx (isP path) < ns.length := of_decide_eq_false HFD.out.symm
    have HV : Hid (wanV ns ⟨kind, path, data, ver, seq⟩ = #[.int .i64 0, flt 2]) := by show _ = _; unfold wanV; rw [if_pos hf]
    clear hf HFD
    go_wp2_with fail
    rw [HV.out]
    exact bodyPost_ret (v := .tuple #[.int .i64 0, flt 2]) (by simp [results, Tryz.results110, go_sem, flt]) rfl ⟨rfl, B2.out⟩


/-- What a judge answers: a path and no fault, or a fault. -/
def chkV (ns : List Nd) (o : Op5) : Array Value :=
  if ¬ ns.findIdx (isP o.path) < ns.length then #[.string ByteArray.empty, flt 2]
  else if o.ver ≠ -1 ∧ o.ver ≠ (nAt ns (ns.findIdx (isP o.path))).ver then #[.string ByteArray.empty, flt 4]
  else #[.string o.path, .nilIface]

set_option linter.unusedSimpArgs false in
set_option maxHeartbeats 2000000 in
set_option maxRecDepth 100000 in
theorem check_any (w : World) (D lo : Nat) (z : Int) (v : Value) (ns : List Nd) (o : Op5) (h : Df w D lo z v ns) :
    Calls Tryz.prog 95 #[.pointer (some ⟨D, 0, none⟩), .agg #[.int .i64 o.kind, .string o.path, .string o.data, .int .i64 o.ver, .bool o.seq]] w fun e w' => e = .returned (.tuple (chkV ns o)) ∧ Below w.heap.size w w' := by
  have B0 : Hid (Below w.heap.size w (w.alloc (.cells #[.int .i64 o.kind, .string o.path, .string o.data, .int .i64 o.ver, .bool o.seq] 40))) := (Below.refl _ _).alloc (Nat.le_refl _) _
  have XO : Hid (St (w.alloc (.cells #[.int .i64 o.kind, .string o.path, .string o.data, .int .i64 o.ver, .bool o.seq] 40)) w.heap.size [.int .i64 o.kind, .string o.path, .string o.data, .int .i64 o.ver, .bool o.seq]) := St.new _ _ _
  have HW : Hid (∀ W, Below w.heap.size w W → Calls Tryz.prog 110 #[.pointer (some ⟨D, 0, none⟩), .agg #[.int .i64 o.kind, .string o.path, .string o.data, .int .i64 o.ver, .bool o.seq]] W fun e w' => e = .returned (.tuple (wanV ns o)) ∧ Below W.heap.size W w') := fun W hW => wanted_any W D lo z v ns o (h.below hW)
  have HV : Hid ((wanV ns o = #[.int .i64 0, flt 2] ∧ chkV ns o = #[.string ByteArray.empty, flt 2]) ∨ (wanV ns o = #[.int .i64 0, flt 4] ∧ chkV ns o = #[.string ByteArray.empty, flt 4]) ∨ ∃ I : Nat, wanV ns o = #[.int .i64 (I : Int), .nilIface] ∧ chkV ns o = #[.string o.path, .nilIface]) := by
    unfold wanV chkV
    split
    · exact .inl ⟨rfl, rfl⟩
    · split
      · exact .inr (.inl ⟨rfl, rfl⟩)
      · exact .inr (.inr ⟨_, rfl, rfl⟩)
  clear h
  go_enter Tryz.func95, Tryz.ntmps95
  go_wp2_with fail
  refine (HW.out _ B0.out).mono ?_
  rintro e w1 ⟨rfl, b1⟩
  have B1 := hd9 (B0.out.trans (b1.mono B0.out.size))
  have c1 := (XO.out.below b1).cl 1 _ rfl
  clear b1 B0 XO HW
  rcases HV.out with ⟨e1, e2⟩ | ⟨e1, e2⟩ | ⟨I, e1, e2⟩
  · have HE := hd9 e2
    rw [e1]
    clear e1 e2 HV
    unfold flt
    go_wp2_with fail
    rw [HE.out]
    exact bodyPost_ret (v := .tuple #[.string ByteArray.empty, flt 2]) (by simp [results, Tryz.results95, go_sem, flt]; try rfl) rfl ⟨rfl, B1.out⟩
  · have HE := hd9 e2
    rw [e1]
    clear e1 e2 HV
    unfold flt
    go_wp2_with fail
    rw [HE.out]
    exact bodyPost_ret (v := .tuple #[.string ByteArray.empty, flt 4]) (by simp [results, Tryz.results95, go_sem, flt]; try rfl) rfl ⟨rfl, B1.out⟩
  · have HE := hd9 e2
    rw [e1]
    clear e1 e2 HV
    go_wp2_with fail
    rw [HE.out]
    exact bodyPost_ret (v := .tuple #[.string o.path, .nilIface]) (by simp [results, Tryz.results95, go_sem]) rfl ⟨rfl, B1.out⟩


theorem isP_of {p q : ByteArray} (h : (q.toList == p.toList) = true) : isP q = isP p := by
  funext n
  unfold isP
  rw [eq_of_beq h]
theorem wi_set {ns : List Nd} (h : Asc ns) {n : Nd} (hl : ns.findIdx (isP n.path) < ns.length) : wiN ns n = ns.set (ns.findIdx (isP n.path)) n := by
  obtain ⟨h1, h2⟩ := idx_some h hl
  rw [wi_form n h, List.set_eq_take_append_cons_drop, if_pos hl]
  unfold skp
  rw [h1, if_pos rfl, h2]
/-- The parent is counted in its place. -/
theorem to_set {ns : List Nd} (h : Asc ns) {p : ByteArray} {z : Int} (hl : ns.findIdx (isP p) < ns.length) : toN ns p z = ns.set (ns.findIdx (isP p)) { nAt ns (ns.findIdx (isP p)) with cver := mor (nAt ns (ns.findIdx (isP p))).cver, pz := z } := by
  have hp := isP_of (found_mem hl).2
  unfold toN
  rw [if_pos hl, wi_set h (by show ns.findIdx (isP (nAt ns (ns.findIdx (isP p))).path) < _; rw [hp]; exact hl)]
  show ns.set (ns.findIdx (isP (nAt ns (ns.findIdx (isP p))).path)) _ = _
  rw [hp]
theorem to_none {ns : List Nd} {p : ByteArray} {z : Int} (hl : ¬ ns.findIdx (isP p) < ns.length) : toN ns p z = ns := by unfold toN; rw [if_neg hl]

end Go.Proofs.YtdiingonnddkcaaGreatDoor


