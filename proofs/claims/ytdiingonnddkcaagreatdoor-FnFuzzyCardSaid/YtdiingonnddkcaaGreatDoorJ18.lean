import Derived.Test.YtdiingonnddkcaaGreatDoorJ14
import Derived.Test.YtdiingonnddkcaaGreatDoorJ10
import Derived.Test.YtdiingonnddkcaaGreatDoorJ17
import Derived.Test.YtdiingonnddkcaaGreatDoorJ04
namespace Go.Proofs.YtdiingonnddkcaaGreatDoor
open Go.RowKit Go.Shelf

theorem asc_uniq {ns : List Nd} (h : Asc ns) {a b : Nd} (ha : a ∈ ns) (hb : b ∈ ns) (e : a.path = b.path) : a = b := by
  obtain ⟨i, hi, rfl⟩ := List.getElem_of_mem ha
  obtain ⟨j, hj, rfl⟩ := List.getElem_of_mem hb
  rcases Nat.lt_trichotomy i j with hlt | rfl | hlt
  · have := List.pairwise_iff_getElem.1 h i j hi hj hlt
    rw [e, ltP_irr] at this; cases this
  · rfl
  · have := List.pairwise_iff_getElem.1 h j i hj hi hlt
    rw [e, ltP_irr] at this; cases this
/-- What an effect of two trees is. -/
theorem dif_mem (A B : List Nd) : Asc A → Asc B → ∀ e ∈ dif A B, (∃ b, b ∈ B ∧ b ∉ A ∧ e = putE b) ∨ (∃ a, a ∈ A ∧ (∀ b ∈ B, b.path ≠ a.path) ∧ e = delE a) := by
  have hne : ∀ {p q : ByteArray}, ltP p q = true → p ≠ q := fun h e => by rw [e, ltP_irr] at h; cases h
  fun_induction dif A B with
  | case1 now => intro _ _ e he; obtain ⟨b, hb, rfl⟩ := List.mem_map.1 he; exact .inl ⟨b, hb, by simp, rfl⟩
  | case2 a was => intro _ _ e he; obtain ⟨b, hb, rfl⟩ := List.mem_map.1 he; exact .inr ⟨b, hb, (fun x hx => by cases hx), rfl⟩
  | case3 a was b now hl ih =>
    intro hA hB e he
    obtain ⟨h1, h2⟩ := asc_tail hA
    obtain ⟨h3, h4⟩ := asc_tail hB
    rcases List.mem_cons.1 he with rfl | he
    · refine .inl ⟨b, List.mem_cons_self .., fun hm => ?_, rfl⟩
      rcases List.mem_cons.1 hm with rfl | hm
      · exact hne hl rfl
      · exact hne (ltP_trans hl (h2 b hm)) rfl
    · rcases ih hA h3 e he with ⟨c, hc, hn, rfl⟩ | ⟨c, hc, hn, rfl⟩
      · exact .inl ⟨c, List.mem_cons_of_mem _ hc, hn, rfl⟩
      · refine .inr ⟨c, hc, fun x hx => ?_, rfl⟩
        rcases List.mem_cons.1 hx with rfl | hx
        · rcases List.mem_cons.1 hc with rfl | hc
          · exact hne hl
          · exact hne (ltP_trans hl (h2 c hc))
        · exact hn x hx
  | case4 a was b now hl hg ih =>
    intro hA hB e he
    obtain ⟨h1, h2⟩ := asc_tail hA
    obtain ⟨h3, h4⟩ := asc_tail hB
    rcases List.mem_cons.1 he with rfl | he
    · refine .inr ⟨a, List.mem_cons_self .., fun x hx => ?_, rfl⟩
      rcases List.mem_cons.1 hx with rfl | hx
      · exact fun e => hne hg e.symm
      · exact fun e => hne (ltP_trans hg (h4 x hx)) e.symm
    · rcases ih h1 hB e he with ⟨c, hc, hn, rfl⟩ | ⟨c, hc, hn, rfl⟩
      · refine .inl ⟨c, hc, fun hm => ?_, rfl⟩
        rcases List.mem_cons.1 hm with rfl | hm
        · rcases List.mem_cons.1 hc with rfl | hc
          · exact hne hg rfl
          · exact hne (ltP_trans hg (h4 _ hc)) rfl
        · exact hn hm
      · exact .inr ⟨c, List.mem_cons_of_mem _ hc, hn, rfl⟩
  | case5 a was b now hl hg he' ih =>
    intro hA hB e he
    obtain ⟨h1, h2⟩ := asc_tail hA
    obtain ⟨h3, h4⟩ := asc_tail hB
    have hab : a = b := eqNd_eq he'
    subst hab
    rcases ih h1 h3 e he with ⟨c, hc, hn, rfl⟩ | ⟨c, hc, hn, rfl⟩
    · refine .inl ⟨c, List.mem_cons_of_mem _ hc, fun hm => ?_, rfl⟩
      rcases List.mem_cons.1 hm with rfl | hm
      · exact hne (h4 _ hc) rfl
      · exact hn hm
    · refine .inr ⟨c, List.mem_cons_of_mem _ hc, fun x hx => ?_, rfl⟩
      rcases List.mem_cons.1 hx with rfl | hx
      · exact hne (h2 c hc)
      · exact hn x hx
  | case6 a was b now hl hg he' ih =>
    intro hA hB e he
    obtain ⟨h1, h2⟩ := asc_tail hA
    obtain ⟨h3, h4⟩ := asc_tail hB
    have hs : a.path = b.path := eqL_bytes (ltP_same (by simpa using hg) (by simpa using hl))
    rcases List.mem_cons.1 he with rfl | he
    · refine .inl ⟨b, List.mem_cons_self .., fun hm => ?_, rfl⟩
      rcases List.mem_cons.1 hm with rfl | hm
      · apply he'
        unfold eqNd
        simp
      · exact hne (h2 b hm) hs
    · rcases ih h1 h3 e he with ⟨c, hc, hn, rfl⟩ | ⟨c, hc, hn, rfl⟩
      · refine .inl ⟨c, List.mem_cons_of_mem _ hc, fun hm => ?_, rfl⟩
        rcases List.mem_cons.1 hm with rfl | hm
        · exact hne (h4 _ hc) hs.symm
        · exact hn hm
      · refine .inr ⟨c, List.mem_cons_of_mem _ hc, fun x hx => ?_, rfl⟩
        rcases List.mem_cons.1 hx with rfl | hx
        · rw [← hs]; exact hne (h2 c hc)
        · exact hn x hx

/-- Two trees part at these paths alone. -/
def Off (A C : List Nd) (ps : List ByteArray) : Prop := ∀ n, (n ∈ A ∧ n ∉ C) ∨ (n ∈ C ∧ n ∉ A) → n.path ∈ ps
theorem Off.refl (A : List Nd) : Off A A [] := fun n h => by rcases h with ⟨h1, h2⟩ | ⟨h1, h2⟩ <;> exact absurd h1 h2
theorem wo_mem {ns : List Nd} {p : ByteArray} {m : Nd} : m ∈ woN ns p ↔ m ∈ ns ∧ m.path ≠ p := by
  unfold woN
  rw [List.mem_filter]
  constructor
  · rintro ⟨h1, h2⟩
    exact ⟨h1, fun e => by rw [e] at h2; simp at h2⟩
  · rintro ⟨h1, h2⟩
    refine ⟨h1, ?_⟩
    rw [Bool.not_eq_true']
    cases hb : (m.path.toList == p.toList) with
    | false => rfl
    | true => exact absurd (eqL_bytes hb) h2
theorem wi_mem9 {ns : List Nd} (h : Asc ns) {n m : Nd} (hm : m ∈ ns) (hp : m.path ≠ n.path) : m ∈ wiN ns n := by
  have h1 := wo_mem.2 ⟨hm, hp⟩
  have h2 := wo_all [] ns n.path (fun a ha => by cases ha) h
  simp only [List.nil_append] at h2
  rw [h2] at h1
  rw [wi_form n h]
  rcases List.mem_append.1 h1 with h1 | h1
  · exact List.mem_append_left _ h1
  · exact List.mem_append_right _ (List.mem_cons_of_mem _ h1)
theorem wi_self {ns : List Nd} (h : Asc ns) (n : Nd) : n ∈ wiN ns n := by
  rw [wi_form n h]
  exact List.mem_append_right _ (List.mem_cons_self ..)
theorem Off.wi {A C : List Nd} {ps : List ByteArray} (h : Off A C ps) (hC : Asc C) (n : Nd) : Off A (wiN C n) (n.path :: ps) := by
  intro m hm
  rcases hm with ⟨h1, h2⟩ | ⟨h1, h2⟩
  · by_cases hp : m.path = n.path
    · rw [hp]; exact List.mem_cons_self ..
    · exact List.mem_cons_of_mem _ (h m (.inl ⟨h1, fun hc => h2 (wi_mem9 hC hc hp)⟩))
  · rcases wi_mem h1 with hc | rfl
    · exact List.mem_cons_of_mem _ (h m (.inr ⟨hc, h2⟩))
    · exact List.mem_cons_self ..
theorem Off.wo {A C : List Nd} {ps : List ByteArray} (h : Off A C ps) (p : ByteArray) : Off A (woN C p) (p :: ps) := by
  intro m hm
  rcases hm with ⟨h1, h2⟩ | ⟨h1, h2⟩
  · by_cases hp : m.path = p
    · rw [hp]; exact List.mem_cons_self ..
    · exact List.mem_cons_of_mem _ (h m (.inl ⟨h1, fun hc => h2 (wo_mem.2 ⟨hc, hp⟩)⟩))
  · exact List.mem_cons_of_mem _ (h m (.inr ⟨(wo_mem.1 h1).1, h2⟩))
theorem Off.more {A C : List Nd} {ps qs : List ByteArray} (h : Off A C ps) (hs : ∀ p ∈ ps, p ∈ qs) : Off A C qs := fun n hn => hs _ (h n hn)
theorem Off.to {A C : List Nd} {ps : List ByteArray} (h : Off A C ps) (hC : Asc C) (p : ByteArray) (z : Int) : ∃ q, Off A (toN C p z) (q :: ps) := by
  unfold toN
  split
  · exact ⟨_, h.wi hC _⟩
  · exact ⟨p, h.more fun x hx => List.mem_cons_of_mem _ hx⟩
/-- An operation parts at two paths at most. -/
theorem Off.op {A C : List Nd} {ps : List ByteArray} (h : Off A C ps) (hC : Asc C) (o : Op5) (z : Int) : ∃ q1 q2, Off A (doO C o z).2.1 (q1 :: q2 :: ps) := by
  have h0 : ∃ q1 q2, Off A C (q1 :: q2 :: ps) := ⟨⟨#[]⟩, ⟨#[]⟩, h.more fun x hx => List.mem_cons_of_mem _ (List.mem_cons_of_mem _ hx)⟩
  unfold doO
  split
  · exact h0
  split
  · split
    · exact h0
    split
    · exact h0
    split
    · exact h0
    split
    · exact h0
    · obtain ⟨q, hq⟩ := (h.wi hC ⟨nameO C o, o.data, 0, 0, z, z, z⟩).to (asc_wi hC _) (parB o.path) z
      exact ⟨_, _, hq⟩
  split
  · exact h0
  split
  · exact h0
  split
  · split
    · exact h0
    · obtain ⟨q, hq⟩ := (h.wo o.path).to (asc_wo hC _) (parB o.path) z
      exact ⟨_, _, hq⟩
  split
  · refine ⟨(nAt C (C.findIdx (isP o.path))).path, ⟨#[]⟩, (h.wi hC _).more fun x hx => ?_⟩
    rcases List.mem_cons.1 hx with rfl | hx
    · exact List.mem_cons_self ..
    · exact List.mem_cons_of_mem _ (List.mem_cons_of_mem _ hx)
  · exact h0
theorem off_len {α : Type} {ps : List α} : ∀ {L : List α}, (L.Pairwise fun a b => a ≠ b) → (∀ x ∈ L, x ∈ ps) → L.length ≤ ps.length := by
  classical
  intro L
  induction L generalizing ps with
  | nil => intro _ _; exact Nat.zero_le _
  | cons x L ih =>
    intro hp hs
    obtain ⟨h1, h2⟩ := List.pairwise_cons.1 hp
    have hx := hs x (List.mem_cons_self ..)
    have h3 := ih (ps := ps.erase x) h2 (fun y hy => (List.mem_erase_of_ne (fun e => h1 y hy e.symm)).2 (hs y (List.mem_cons_of_mem _ hy)))
    rw [List.length_erase_of_mem hx] at h3
    have : 0 < ps.length := List.length_pos_of_mem hx
    simp only [List.length_cons]
    omega
/-- So many effects as paths, at most. -/
theorem Off.difl {A C : List Nd} {ps : List ByteArray} (h : Off A C ps) (hA : Asc A) (hC : Asc C) : (dif A C).length ≤ ps.length := by
  have h1 : ((dif A C).map fun e => e.nd.path).Pairwise fun a b => a ≠ b := by
    rw [List.pairwise_map]
    exact (dif_asc A C hA hC).imp fun {a b} hl e => by rw [e, ltP_irr] at hl; cases hl
  have h2 := off_len (ps := ps) h1 (fun x hx => by
    obtain ⟨e, he, rfl⟩ := List.mem_map.1 hx
    rcases dif_mem A C hA hC e he with ⟨b, hb, hn, rfl⟩ | ⟨a, ha, hn, rfl⟩
    · exact h b (.inr ⟨hb, hn⟩)
    · exact h a (.inl ⟨ha, fun hc => hn a hc rfl⟩))
  simpa using h2
theorem ap_again {A B : List Nd} (hA : Asc A) (hB : Asc B) : apL B (dif A B) = B := by
  have key : ∀ es : List Ef, (∀ e ∈ es, apQ B e = B) → apL B es = B := by
    intro es
    induction es with
    | nil => intro _; rfl
    | cons e es ih =>
      intro h
      show apL (apQ B e) es = B
      rw [h e (List.mem_cons_self ..)]
      exact ih fun x hx => h x (List.mem_cons_of_mem _ hx)
  refine key _ fun e he => ?_
  rcases dif_mem A B hA hB e he with ⟨b, hb, hn, rfl⟩ | ⟨a, ha, hn, rfl⟩
  · show wiN B b = B
    have hl : B.findIdx (isP b.path) < B.length := List.findIdx_lt_length_of_exists ⟨b, hb, by unfold isP; simp⟩
    rw [wi_set hB hl]
    have h1 := (found_mem hl)
    have h2 := asc_uniq hB h1.1 hb (eqL_bytes h1.2)
    rw [nAt_get hl] at h2
    exact List.ext_getElem (by simp) fun i hi hi2 => by
      rw [List.getElem_set]
      split
      · rename_i e; subst e; exact h2.symm
      · rfl
  · show woN B a.path = B
    unfold woN
    rw [List.filter_eq_self]
    intro x hx
    rw [Bool.not_eq_true']
    cases hb : (x.path.toList == a.path.toList) with
    | false => rfl
    | true => exact absurd (eqL_bytes hb) (hn x hx)


theorem runO_off {z : Int} (hz : okS z = true) {A : List Nd} : ∀ (os : List Op5) (ns : List Nd) (i : Nat) (nm : List ByteArray) (ps : List ByteArray), Snd ns → Off A ns ps → ∃ qs, qs.length ≤ ps.length + 2 * os.length ∧ Off A (runO z os ns i nm).2.2.1 qs
  | [], ns, i, nm, ps, _, h => ⟨ps, by simp, h⟩
  | o :: os, ns, i, nm, ps, hs, h => by
    unfold runO
    split
    · exact ⟨ps, by omega, h⟩
    · obtain ⟨q1, q2, hq⟩ := h.op hs.1 o z
      obtain ⟨qs, hl, hq⟩ := runO_off hz os (doO ns o z).2.1 (i + 1) (nm ++ [(doO ns o z).2.2]) _ (doO_snd hs o hz) hq
      refine ⟨qs, ?_, hq⟩
      simp only [List.length_cons] at hl ⊢
      omega
/-- An accepted request: its tree, and what its transaction does. -/
structure PrGood (ns : List Nd) (z : Int) (a : Pa) (B : List Nd) : Prop where
  zz : a.z = z
  s : Snd ns
  b : Snd B
  es : a.es = dif ns B
  ok : okTxn z a.es = true
  one : resA ns z a.es = B
  two : resA B z a.es = B
theorem prF_good {ns : List Nd} {os : List Op5} {z : Int} (h : (prF ns os z).c = 0) : PrGood ns z (prF ns os z) (runO z os ns 0 []).2.2.1 := by
  unfold prF at h ⊢
  split at h
  · rename_i hk
    rw [if_pos hk]
    split at h
    · rename_i h0
      rw [if_pos h0]
      unfold okPrep at hk
      simp only [Bool.and_eq_true, decide_eq_true_eq] at hk
      obtain ⟨hok, h1, h2, h3, h4⟩ := hk
      have hs := okTree_snd.1 hok
      have hz : okS z = true := by unfold okS; simp; omega
      have hb := (runO_sl hz os ns 0 [] hs).1
      obtain ⟨qs, hl, hq⟩ := runO_off hz os ns 0 [] [] hs (Off.refl ns)
      have hd := hq.difl hs.1 hb.1
      generalize (runO z os ns 0 []).2.2.1 = B at *
      have ok : okTxn z (dif ns B) = true := by
        unfold okTxn
        simp only [Bool.and_eq_true, decide_eq_true_eq]
        simp only [List.length_nil] at hl
        exact ⟨⟨⟨h3, h4⟩, by omega⟩, okEs_of (dif_asc ns B hs.1 hb.1) (dif_ok ns B hs.2.1 hb.2.1)⟩
      refine ⟨rfl, hs, hb, rfl, ok, ?_, ?_⟩
      · show resA ns z (dif ns B) = B
        unfold resA
        rw [okTree_snd.2 hs, ok]
        exact ap_dif0 hs.1 hb.1
      · show resA B z (dif ns B) = B
        unfold resA
        rw [okTree_snd.2 hb, ok]
        exact ap_again hs.1 hb.1
    · rename_i h0
      exact absurd h h0
  · exact absurd h (by decide)
theorem snd_szs {ns : List Nd} (h : Snd ns) (i : Nat) : (nAt ns i).path.size ≤ 1048576 ∧ (nAt ns i).data.size ≤ 1048576 := by
  by_cases hi : i < ns.length
  · have := okNd_all (h.2.1 _ (List.getElem_mem hi))
    rw [nAt_get hi]; omega
  · have : nAt ns i = nd0 := by unfold nAt; simp [List.getD, List.getElem?_eq_none (show ns.length ≤ i by omega)]
    rw [this]; simp [nd0]
theorem okTxn_szs {z : Int} {es : List Ef} (h : okTxn z es = true) (i : Nat) : (eAt es i).nd.path.size ≤ 1048576 ∧ (eAt es i).nd.data.size ≤ 1048576 := by
  by_cases hi : i < es.length
  · have h1 := okTxn_es h
    have h2 : okEf (eAt es i) = true := by
      have := h1.1
      unfold okEs at this
      have := List.all_eq_true.1 this i (by simpa using hi)
      unfold okEAt at this
      simp only [Bool.and_eq_true] at this
      exact this.1
    have h3 : okNd (eAt es i).nd = true := by
      unfold okEf at h2
      simp only [Bool.and_eq_true] at h2
      exact h2.1
    have := okNd_all h3
    omega
  · have : eAt es i = ef0 := by unfold eAt; rw [List.getD, List.getElem?_eq_none (by omega)]; rfl
    rw [this]; exact ⟨Nat.zero_le _, Nat.zero_le _⟩


theorem asc_ext : ∀ {A B : List Nd}, Asc A → Asc B → (∀ m, m ∈ A ↔ m ∈ B) → A = B
  | [], [], _, _, _ => rfl
  | [], b :: B, _, _, h => absurd ((h b).2 (List.mem_cons_self ..)) (by simp)
  | a :: A, [], _, _, h => absurd ((h a).1 (List.mem_cons_self ..)) (by simp)
  | a :: A, b :: B, hA, hB, h => by
    obtain ⟨h1, h2⟩ := asc_tail hA
    obtain ⟨h3, h4⟩ := asc_tail hB
    have hab : a = b := by
      rcases List.mem_cons.1 ((h a).1 (List.mem_cons_self ..)) with e | ha
      · exact e
      · rcases List.mem_cons.1 ((h b).2 (List.mem_cons_self ..)) with e | hb
        · exact e.symm
        · have q1 := h4 a ha
          have q2 := h2 b hb
          have := ltP_trans q1 q2
          rw [ltP_irr] at this; cases this
    subst hab
    congr 1
    refine asc_ext h1 h3 fun m => ⟨fun hm => ?_, fun hm => ?_⟩
    · rcases List.mem_cons.1 ((h m).1 (List.mem_cons_of_mem _ hm)) with rfl | h9
      · have := h2 m hm; rw [ltP_irr] at this; cases this
      · exact h9
    · rcases List.mem_cons.1 ((h m).2 (List.mem_cons_of_mem _ hm)) with rfl | h9
      · have := h4 m hm; rw [ltP_irr] at this; cases this
      · exact h9
theorem mem_wi {ns : List Nd} (h : Asc ns) {n m : Nd} : m ∈ wiN ns n ↔ m = n ∨ (m ∈ ns ∧ m.path ≠ n.path) := by
  constructor
  · intro hm
    by_cases e : m = n
    · exact .inl e
    · refine .inr ⟨?_, fun hp => e (asc_uniq (asc_wi h n) hm (wi_self h n) hp)⟩
      rcases wi_mem hm with h9 | h9
      · exact h9
      · exact absurd h9 e
  · rintro (rfl | ⟨h1, h2⟩)
    · exact wi_self h _
    · exact wi_mem9 h h1 h2
theorem asc_apQ {S : List Nd} (h : Asc S) (e : Ef) : Asc (apQ S e) := by
  unfold apQ
  split
  · exact asc_wo h _
  · exact asc_wi h _
theorem asc_apL : ∀ (es : List Ef) {S : List Nd}, Asc S → Asc (apL S es)
  | [], _, h => h
  | e :: es, _, h => asc_apL es (asc_apQ h e)
/-- What is in a tree behind a transaction. -/
theorem mem_apL : ∀ (es : List Ef) {S : List Nd}, Asc S → AscE es → ∀ m, m ∈ apL S es ↔ (∃ e ∈ es, e.del = false ∧ e.nd = m) ∨ (m ∈ S ∧ ∀ e ∈ es, e.nd.path ≠ m.path)
  | [], S, h, _, m => by simp [apL]
  | e :: es, S, h, he, m => by
    obtain ⟨h1, h2⟩ := List.pairwise_cons.1 he
    show m ∈ apL (apQ S e) es ↔ _
    rw [mem_apL es (asc_apQ h e) h2 m]
    have hq : m ∈ apQ S e ↔ (e.del = false ∧ e.nd = m) ∨ (m ∈ S ∧ m.path ≠ e.nd.path) := by
      unfold apQ
      cases hd : e.del with
      | true =>
        rw [if_pos rfl, wo_mem]
        simp
      | false =>
        rw [if_neg (by decide), mem_wi h]
        constructor
        · rintro (rfl | h9)
          · exact .inl ⟨rfl, rfl⟩
          · exact .inr h9
        · rintro (⟨-, rfl⟩ | h9)
          · exact .inl rfl
          · exact .inr h9
    constructor
    · rintro (⟨x, hx, h3, h4⟩ | ⟨h3, h4⟩)
      · exact .inl ⟨x, List.mem_cons_of_mem _ hx, h3, h4⟩
      · rcases hq.1 h3 with ⟨h5, h6⟩ | ⟨h5, h6⟩
        · exact .inl ⟨e, List.mem_cons_self .., h5, h6⟩
        · refine .inr ⟨h5, fun x hx => ?_⟩
          rcases List.mem_cons.1 hx with rfl | hx
          · exact fun e9 => h6 e9.symm
          · exact h4 x hx
    · rintro (⟨x, hx, h3, h4⟩ | ⟨h3, h4⟩)
      · rcases List.mem_cons.1 hx with rfl | hx
        · refine .inr ⟨hq.2 (.inl ⟨h3, h4⟩), fun y hy => ?_⟩
          have := h1 y hy
          rw [h4] at this
          exact fun e9 => by rw [e9, ltP_irr] at this; cases this
        · exact .inl ⟨x, hx, h3, h4⟩
      · exact .inr ⟨hq.2 (.inr ⟨h3, fun e9 => h4 e (List.mem_cons_self ..) e9.symm⟩), fun x hx => h4 x (List.mem_cons_of_mem _ hx)⟩

/-- Two trees show the same at a path. -/
def Same (X Y : List Nd) (p : ByteArray) : Prop := ∀ m : Nd, m.path = p → (m ∈ X ↔ m ∈ Y)
theorem Same.refl (X : List Nd) (p : ByteArray) : Same X X p := fun _ _ => Iff.rfl
theorem Same.symm {X Y : List Nd} {p : ByteArray} (h : Same X Y p) : Same Y X p := fun m hm => (h m hm).symm
theorem Same.trans {X Y Z : List Nd} {p : ByteArray} (h : Same X Y p) (k : Same Y Z p) : Same X Z p := fun m hm => (h m hm).trans (k m hm)
/-- A transaction: where the two trees part the second one shows, elsewhere what was there. -/
theorem step_part {S A B : List Nd} (hS : Asc S) (hA : Asc A) (hB : Asc B) (p : ByteArray) (h : ¬ Same A B p) : Same (apL S (dif A B)) B p := by
  have hAB := mem_apL (dif A B) hA (dif_asc A B hA hB)
  rw [ap_dif0 hA hB] at hAB
  obtain ⟨e, he, hep⟩ : ∃ e ∈ dif A B, e.nd.path = p := by
    apply Classical.byContradiction
    intro h9
    apply h
    intro m hm
    rw [hAB m]
    constructor
    · intro h8
      exact .inr ⟨h8, fun e he hp => h9 ⟨e, he, hp.trans hm⟩⟩
    · rintro (⟨e, he, -, rfl⟩ | ⟨h8, -⟩)
      · exact absurd ⟨e, he, hm⟩ h9
      · exact h8
  intro m hm
  rw [mem_apL (dif A B) hS (dif_asc A B hA hB) m]
  constructor
  · rintro (⟨x, hx, h3, rfl⟩ | ⟨-, h4⟩)
    · rcases dif_mem A B hA hB x hx with ⟨b, hb, -, rfl⟩ | ⟨a, -, -, rfl⟩
      · exact hb
      · cases h3
    · exact absurd (hep.trans hm.symm) (h4 e he)
  · intro hmB
    rcases dif_mem A B hA hB e he with ⟨b, hb, -, rfl⟩ | ⟨a, -, hn, rfl⟩
    · have : b = m := asc_uniq hB hb hmB (hep.trans hm.symm)
      subst this
      exact .inl ⟨_, he, rfl, rfl⟩
    · exact absurd (hm.trans hep.symm) (hn m hmB)
theorem step_same {S A B : List Nd} (hS : Asc S) (hA : Asc A) (hB : Asc B) (p : ByteArray) (h : Same A B p) : Same (apL S (dif A B)) S p := by
  have hno : ∀ e ∈ dif A B, e.nd.path ≠ p := by
    intro e he hp
    rcases dif_mem A B hA hB e he with ⟨b, hb, hn, rfl⟩ | ⟨a, ha, hn, rfl⟩
    · exact hn ((h b hp).2 hb)
    · exact hn a ((h a hp).1 ha) rfl
  intro m hm
  rw [mem_apL (dif A B) hS (dif_asc A B hA hB) m]
  constructor
  · rintro (⟨x, hx, -, rfl⟩ | ⟨h3, -⟩)
    · exact absurd hm (hno x hx)
    · exact h3
  · intro h3
    exact .inr ⟨h3, fun x hx e9 => hno x hx (e9.trans hm)⟩
/-- The mixed tree, the transactions applied in order. -/
def fuz (T : Nat → List Nd) (F : List Nd) : Nat → List Nd
  | 0 => F
  | i + 1 => apL (fuz T F i) (dif (T i) (T (i + 1)))
theorem fuz_asc {T : Nat → List Nd} {F : List Nd} (hF : Asc F) : ∀ i, Asc (fuz T F i)
  | 0 => hF
  | i + 1 => asc_apL _ (fuz_asc hF i)
theorem fuz_at {T : Nat → List Nd} {F : List Nd} {n : Nat} (hF : Asc F) (hT : ∀ i, i ≤ n → Asc (T i)) (p : ByteArray) : ∀ i, i ≤ n → Same (fuz T F i) (T i) p ∨ (Same (fuz T F i) F p ∧ ∀ j, j ≤ i → Same (T j) (T 0) p)
  | 0, _ => .inr ⟨Same.refl _ _, fun j hj => by
      have h0 : j = 0 := by omega
      subst h0
      exact Same.refl _ _⟩
  | i + 1, hi => by
    have hS := fuz_asc (T := T) hF i
    have hA := hT i (by omega)
    have hB := hT (i + 1) hi
    by_cases h : Same (T i) (T (i + 1)) p
    · have h1 := step_same hS hA hB p h
      rcases fuz_at hF hT p i (by omega) with h2 | ⟨h2, h3⟩
      · exact .inl (h1.trans (h2.trans h))
      · refine .inr ⟨h1.trans h2, fun j hj => ?_⟩
        by_cases hj2 : j ≤ i
        · exact h3 j hj2
        · obtain rfl : j = i + 1 := by omega
          exact h.symm.trans (h3 i (Nat.le_refl _))
    · exact .inl (step_part hS hA hB p h)
/-- The mixed tree becomes the last one. -/
theorem fuz_last {T : Nat → List Nd} {F : List Nd} {n : Nat} (hF : Asc F) (hT : ∀ i, i ≤ n → Asc (T i)) (hm : ∀ p, ∃ k, k ≤ n ∧ Same F (T k) p) : fuz T F n = T n := by
  refine asc_ext (fuz_asc hF n) (hT n (Nat.le_refl _)) fun m => ?_
  rcases fuz_at hF hT m.path n (Nat.le_refl _) with h | ⟨h1, h2⟩
  · exact h m rfl
  · obtain ⟨k, hk, h3⟩ := hm m.path
    exact (h1.trans (h3.trans ((h2 k hk).trans (h2 n (Nat.le_refl _)).symm))) m rfl
/-- So many nodes as paths, at most. -/
theorem asc_le {S : List Nd} (h : Asc S) {ps : List ByteArray} (hp : ∀ m ∈ S, m.path ∈ ps) : S.length ≤ ps.length := by
  have h1 : (S.map fun m => m.path).Pairwise fun a b => a ≠ b := by
    rw [List.pairwise_map]
    exact List.Pairwise.imp (fun {a b} hl e => by rw [e, ltP_irr] at hl; cases hl) h
  have h2 := off_len (ps := ps) h1 (fun x hx => by
    obtain ⟨m, hm, rfl⟩ := List.mem_map.1 hx
    exact hp m hm)
  simpa using h2
theorem fuz_mem {T : Nat → List Nd} {F : List Nd} (hF : Asc F) (hT : ∀ i, Asc (T i)) : ∀ i m, m ∈ fuz T F i → m ∈ F ∨ ∃ j, j ≤ i ∧ m ∈ T j
  | 0, m, hm => .inl hm
  | i + 1, m, hm => by
    have h9 := (mem_apL (dif (T i) (T (i + 1))) (fuz_asc (T := T) hF i) (dif_asc _ _ (hT i) (hT (i + 1))) m).1 hm
    rcases h9 with ⟨e, he, h3, rfl⟩ | ⟨h3, -⟩
    · rcases dif_mem _ _ (hT i) (hT (i + 1)) e he with ⟨b, hb, -, rfl⟩ | ⟨a, -, -, rfl⟩
      · exact .inr ⟨i + 1, Nat.le_refl _, hb⟩
      · cases h3
    · rcases fuz_mem hF hT i m h3 with h4 | ⟨j, hj, h4⟩
      · exact .inl h4
      · exact .inr ⟨j, by omega, h4⟩


/-- Trees, each next one by an accepted request. -/
structure Chn (Ts : List (List Nd)) (Rs : List (List Op5)) : Prop where
  n : Ts.length = Rs.length + 1
  snd : ∀ i, i < Ts.length → Snd (Ts.getD i [])
  step : ∀ i, i < Rs.length → (prF (Ts.getD i []) (Rs.getD i []) (101 + i)).c = 0 ∧ PrGood (Ts.getD i []) (101 + i) (prF (Ts.getD i []) (Rs.getD i []) (101 + i)) (Ts.getD (i + 1) [])
  off : ∃ ps : List ByteArray, ps.length ≤ 500 + 6 * Rs.length ∧ ∀ i, i < Ts.length → ∀ m ∈ Ts.getD i [], m.path ∈ ps
theorem Chn.one {T : List Nd} (h : Snd T) (hl : T.length ≤ 500) : Chn [T] [] := by
  have h0 : ∀ i, i < [T].length → i = 0 := fun i hi => by simp at hi; omega
  refine ⟨rfl, fun i hi => ?_, fun i hi => by simp at hi, T.map (·.path), by simpa using hl, fun i hi m hm => ?_⟩
  · obtain rfl := h0 i hi
    exact h
  · obtain rfl := h0 i hi
    exact List.mem_map.2 ⟨m, hm, rfl⟩
theorem getD_lf {α : Type} {L : List α} {d x : α} {i : Nat} (h : i < L.length) : (L ++ [x]).getD i d = L.getD i d := by simp [List.getD, List.getElem?_append_left h]
theorem getD_ls {α : Type} {L : List α} {d x : α} {i : Nat} (h : i = L.length) : (L ++ [x]).getD i d = x := by subst h; simp [List.getD]
theorem Chn.more {Ts : List (List Nd)} {Rs : List (List Op5)} (h : Chn Ts Rs) {os : List Op5} (ho : os.length ≤ 3) (hc : (prF (Ts.getD Rs.length []) os (101 + (Rs.length : Int))).c = 0) :
    Chn (Ts ++ [resA (Ts.getD Rs.length []) (101 + (Rs.length : Int)) (prF (Ts.getD Rs.length []) os (101 + (Rs.length : Int))).es]) (Rs ++ [os]) := by
  have hG := prF_good hc
  have hs := h.snd Rs.length (by have := h.n; omega)
  have hoff : ∃ qs, qs.length ≤ 6 ∧ Off (Ts.getD Rs.length []) (runO (101 + (Rs.length : Int)) os (Ts.getD Rs.length []) 0 []).2.2.1 qs := by
    have hz : okS (101 + (Rs.length : Int)) = true := by
      have := hG.ok
      unfold okTxn at this
      simp only [Bool.and_eq_true, decide_eq_true_eq] at this
      unfold okS; simp; omega
    obtain ⟨qs, hl, hq⟩ := runO_off hz os (Ts.getD Rs.length []) 0 [] [] hs (Off.refl _)
    exact ⟨qs, by simp at hl; omega, hq⟩
  rw [hG.one]
  obtain ⟨qs, hql, hq⟩ := hoff
  generalize (runO (101 + (Rs.length : Int)) os (Ts.getD Rs.length []) 0 []).2.2.1 = B at *
  obtain ⟨ps, hpl, hp⟩ := h.off
  have hn := h.n
  refine ⟨by simp [hn], fun i hi => ?_, fun i hi => ?_, ps ++ qs, by simp; omega, fun i hi m hm => ?_⟩
  · by_cases e : i < Ts.length
    · rw [getD_lf e]; exact h.snd i e
    · rw [getD_ls (by simp at hi; omega)]; exact hG.b
  · by_cases e : i < Rs.length
    · rw [getD_lf (by omega), getD_lf e, getD_lf (by omega)]
      exact h.step i e
    · have e2 : i = Rs.length := by simp at hi; omega
      subst e2
      rw [getD_lf (by omega), getD_ls rfl, getD_ls (by omega)]
      exact ⟨hc, hG⟩
  · by_cases e : i < Ts.length
    · rw [getD_lf e] at hm; exact List.mem_append_left _ (hp i e m hm)
    · rw [getD_ls (by simp at hi; omega)] at hm
      by_cases h9 : m ∈ Ts.getD Rs.length []
      · exact List.mem_append_left _ (hp _ (by omega) m h9)
      · exact List.mem_append_right _ (hq m (.inr ⟨hm, h9⟩))
/-- A mixed tree. -/
structure Mxd (Ts : List (List Nd)) (F : List Nd) : Prop where
  asc : Asc F
  fr : ∀ m ∈ F, ∃ k, k < Ts.length ∧ m ∈ Ts.getD k []
theorem Mxd.nil (Ts : List (List Nd)) : Mxd Ts [] := ⟨List.Pairwise.nil, fun m hm => by simp at hm⟩
theorem chn_snd {Ts : List (List Nd)} {Rs : List (List Op5)} (h : Chn Ts Rs) (hR : Rs.length ≤ 8) {F : List Nd} (hA : Asc F) (hm : ∀ m ∈ F, ∃ k, k < Ts.length ∧ m ∈ Ts.getD k []) : Snd F ∧ F.length ≤ 600 := by
  obtain ⟨ps, hpl, hp⟩ := h.off
  have hl := asc_le hA (ps := ps) fun m h9 => by
    obtain ⟨k, hk, hmk⟩ := hm m h9
    exact hp k hk m hmk
  refine ⟨⟨hA, fun m h9 => ?_, by omega⟩, by omega⟩
  obtain ⟨k, hk, hmk⟩ := hm m h9
  exact (h.snd k hk).2.1 m hmk
theorem Mxd.snd {Ts : List (List Nd)} {Rs : List (List Op5)} {F : List Nd} (h : Mxd Ts F) (hC : Chn Ts Rs) (hR : Rs.length ≤ 8) : Snd F ∧ F.length ≤ 600 := chn_snd hC hR h.asc h.fr
theorem Mxd.put {Ts : List (List Nd)} {F : List Nd} (h : Mxd Ts F) {k : Nat} {m : Nd} (hk : k < Ts.length) (hm : m ∈ Ts.getD k []) : Mxd Ts (wiN F m) := by
  refine ⟨asc_wi h.asc m, fun x hx => ?_⟩
  rcases (mem_wi h.asc).1 hx with rfl | ⟨h1, -⟩
  · exact ⟨k, hk, hm⟩
  · exact h.fr x h1
theorem resA_one {F : List Nd} (h : Snd F) {m : Nd} (hm : okNd m = true) : resA F 1 [⟨false, m⟩] = wiN F m ∧ okTxn 1 [⟨false, m⟩] = true := by
  have ok : okTxn 1 [⟨false, m⟩] = true := by
    unfold okTxn
    simp only [Bool.and_eq_true, decide_eq_true_eq]
    exact ⟨⟨⟨by decide, by decide⟩, by simp⟩, okEs_of (List.pairwise_singleton _ _) (fun e he => by
      obtain rfl := List.mem_singleton.1 he
      unfold okEf
      simp [hm])⟩
  refine ⟨?_, ok⟩
  unfold resA
  rw [okTree_snd.2 h, ok]
  rfl
/-- A path that has been looked at. -/
def Dn (Ts : List (List Nd)) (F : List Nd) (p : ByteArray) : Prop := (∃ m ∈ F, m.path = p) ∨ ∃ k, k < Ts.length ∧ ∀ m ∈ Ts.getD k [], m.path ≠ p
theorem Dn.put {Ts : List (List Nd)} {F : List Nd} {p : ByteArray} (h : Dn Ts F p) (hF : Asc F) (m : Nd) : Dn Ts (wiN F m) p := by
  rcases h with ⟨x, hx, hp⟩ | h
  · by_cases e : x.path = m.path
    · exact .inl ⟨m, wi_self hF m, e.symm.trans hp⟩
    · exact .inl ⟨x, (mem_wi hF).2 (.inr ⟨hx, e⟩), hp⟩
  · exact .inr h
theorem Dn.self (Ts : List (List Nd)) {F : List Nd} (hF : Asc F) (m : Nd) : Dn Ts (wiN F m) m.path := .inl ⟨m, wi_self hF m, rfl⟩
def tA (Ts : List (List Nd)) (i : Nat) : List Nd := Ts.getD i []
theorem mixed_last {Ts : List (List Nd)} {Rs : List (List Op5)} {F : List Nd} (hC : Chn Ts Rs) (hF : Mxd Ts F) (hD : ∀ m ∈ Ts.getD 0 [], Dn Ts F m.path) : fuz (tA Ts) F Rs.length = Ts.getD Rs.length [] := by
  have hn := hC.n
  refine fuz_last hF.asc (fun i hi => (hC.snd i (by omega)).1) fun p => ?_
  by_cases hp : ∃ m ∈ F, m.path = p
  · obtain ⟨m, hm, rfl⟩ := hp
    obtain ⟨k, hk, hmk⟩ := hF.fr m hm
    refine ⟨k, by omega, fun x hx => ⟨fun h1 => ?_, fun h1 => ?_⟩⟩
    · rw [asc_uniq hF.asc h1 hm hx]; exact hmk
    · rw [asc_uniq (hC.snd k hk).1 h1 hmk hx]; exact hm
  · have hno : ∃ k, k < Ts.length ∧ ∀ m ∈ Ts.getD k [], m.path ≠ p := by
      by_cases h0 : ∃ m ∈ Ts.getD 0 [], m.path = p
      · obtain ⟨m, hm, rfl⟩ := h0
        rcases hD m hm with h9 | h9
        · exact absurd h9 hp
        · exact h9
      · exact ⟨0, by omega, fun m hm e => h0 ⟨m, hm, e⟩⟩
    obtain ⟨k, hk, h9⟩ := hno
    exact ⟨k, by omega, fun x hx => ⟨fun h1 => absurd ⟨x, h1, hx⟩ hp, fun h1 => absurd hx (h9 x h1)⟩⟩
theorem fuz_snd {Ts : List (List Nd)} {Rs : List (List Op5)} {F : List Nd} (hC : Chn Ts Rs) (hR : Rs.length ≤ 8) (hF : Mxd Ts F) (i : Nat) (hi : i ≤ Rs.length) : Snd (fuz (tA Ts) F i) ∧ (fuz (tA Ts) F i).length ≤ 600 := by
  have hn := hC.n
  have hall : ∀ j, Asc (tA Ts j) := fun j => by
    by_cases e : j < Ts.length
    · exact (hC.snd j e).1
    · show Asc (Ts.getD j [])
      rw [List.getD, List.getElem?_eq_none (by omega)]
      exact List.Pairwise.nil
  refine chn_snd hC hR (fuz_asc hF.asc i) fun m hm => ?_
  rcases fuz_mem hF.asc hall i m hm with h | ⟨j, hj, h⟩
  · exact hF.fr m h
  · exact ⟨j, by omega, h⟩
theorem fuz_next {Ts : List (List Nd)} {Rs : List (List Op5)} {F : List Nd} (hC : Chn Ts Rs) (hR : Rs.length ≤ 8) (hF : Mxd Ts F) (i : Nat) (hi : i < Rs.length) :
    resA (fuz (tA Ts) F i) (101 + i) (prF (Ts.getD i []) (Rs.getD i []) (101 + i)).es = fuz (tA Ts) F (i + 1) := by
  have hG := (hC.step i hi).2
  have hS := (fuz_snd hC hR hF i (by omega)).1
  unfold resA
  rw [okTree_snd.2 hS, hG.ok]
  show apL _ _ = apL _ (dif (Ts.getD i []) (Ts.getD (i + 1) []))
  rw [hG.es]

end Go.Proofs.YtdiingonnddkcaaGreatDoor
namespace Go.Proofs.YtdiingonnddkcaaGreatDoor
open Go.RowKit

/-- A source of drawn numbers: its bytes, how many are used, the mixed number and the size. -/
structure Sr where
  code : List Int
  used : Nat
  mix : Nat
  size : Nat
/-- A drawn number below n, and the source behind it. -/
def Sr.next (s : Sr) (n : Nat) : Nat × Sr :=
  if n ≤ 1 then (0, s)
  else if s.used < s.code.length ∧ n ≤ 256 then ((s.code.getD s.used 0).toNat % n, { s with used := s.used + 1 })
  else ((s.mix * 1103 + 12347) % 1000003 / 3 % n, { s with mix := (s.mix * 1103 + 12347) % 1000003 })
theorem Sr.next_lt (s : Sr) (n : Nat) (h : 1 ≤ n) : (s.next n).1 < n := by
  unfold Sr.next
  split
  · exact h
  · split <;> exact Nat.mod_lt _ (by omega)

/-- Only block k has turned. -/
def Tch (k : Nat) (a b : World) : Prop := Below 0 a b ∧ ∀ j, j ≠ k → j < a.heap.size → b.heap[j]? = a.heap[j]?
theorem Tch.refl (k : Nat) (a : World) : Tch k a a := ⟨Below.refl _ _, fun _ _ _ => rfl⟩
theorem Tch.trans {k : Nat} {a b c : World} (h : Tch k a b) (h' : Tch k b c) : Tch k a c := ⟨h.1.trans h'.1, fun j hj hl => (h'.2 j hj (Nat.lt_of_lt_of_le hl h.1.size)).trans (h.2 j hj hl)⟩
theorem Tch.set (k i : Nat) (a : World) (q : Nat) (v : Value) : Tch k a ((a.drewN q).setCell ⟨k, i, none⟩ v) := ⟨((below_drewN' a q).mono (Nat.zero_le _)).setCell (Nat.zero_le _) _, fun _ hj _ => Below.heap_setCell (a.drewN q) _ _ _ hj⟩
theorem Tch.size {k : Nat} {a b : World} (h : Tch k a b) : a.heap.size ≤ b.heap.size := h.1.size
theorem Tch.below {k B : Nat} {a b : World} (h : Tch k a b) (hk : B ≤ k) (hB : B ≤ a.heap.size) : Below B a b := ⟨h.1.os, h.1.tape, h.1.output, h.1.size, fun j hj => h.2 j (by omega) (by omega)⟩
theorem Tch.of {k : Nat} {a b : World} (h : Below a.heap.size a b) : Tch k a b := ⟨h.mono (Nat.zero_le _), fun j _ hl => h.block j hl⟩
theorem Tch.then {k : Nat} {a b c : World} (h : Tch k a b) (h' : Below a.heap.size b c) : Tch k a c := ⟨h.1.trans (h'.mono (Nat.zero_le _)), fun j hj hl => (h'.block j hl).trans (h.2 j hj hl)⟩

/-- A source in the box k; it and its bytes lie below B. -/
structure SRX (W : World) (k B : Nat) (s : Sr) : Prop where
  kB : k < B
  lt : B ≤ W.heap.size
  fr : ∀ j, W.frozen? ⟨k, j, none⟩ = false
  row : ∃ ca cc, W.cell? ⟨k, 0, none⟩ = some (.slice ca s.code.length cc) ∧ (s.code = [] ∨ ∃ g, ca = some ⟨g, 0, none⟩ ∧ g ≠ k ∧ g < B ∧ ∀ i, i < s.code.length → W.cell? ⟨g, i, none⟩ = some (.int .u8 (s.code.getD i 0)))
  c1 : W.cell? ⟨k, 1, none⟩ = some (.int .i64 (s.used : Int))
  c2 : W.cell? ⟨k, 2, none⟩ = some (.int .i64 (s.mix : Int))
  c3 : W.cell? ⟨k, 3, none⟩ = some (.int .i64 (s.size : Int))
  mx : s.mix < 1000003
  len : s.code.length ≤ 4000
  us : s.used ≤ 4000
  byt : Byt s.code
  sz : 1 ≤ s.size ∧ s.size ≤ 7
theorem SRX.keep {W W' : World} {k B : Nat} {s : Sr} (h : SRX W k B s) (hb : Below B W W') : SRX W' k B s := by
  have hk := h.kB
  have e : ∀ i, W'.cell? ⟨k, i, none⟩ = W.cell? ⟨k, i, none⟩ := fun i => hb.cell (p := ⟨k, i, none⟩) hk
  obtain ⟨ca, cc, c0, hrow⟩ := h.row
  refine ⟨hk, Nat.le_trans h.lt hb.size, fun j => (World.frozen?_of_block (w := W) (hb.block k hk)).trans (h.fr j), ⟨ca, cc, (e 0).trans c0, ?_⟩, (e 1).trans h.c1, (e 2).trans h.c2, (e 3).trans h.c3, h.mx, h.len, h.us, h.byt, h.sz⟩
  rcases hrow with h0 | ⟨g, rfl, hgk, hgB, hx⟩
  · exact .inl h0
  · exact .inr ⟨g, rfl, hgk, hgB, fun i hi => (hb.cell (p := ⟨g, i, none⟩) hgB).trans (hx i hi)⟩
theorem SRX.mono {W : World} {k B B' : Nat} {s : Sr} (h : SRX W k B s) (hB : B ≤ B') (hl : B' ≤ W.heap.size) : SRX W k B' s := by
  obtain ⟨ca, cc, c0, hrow⟩ := h.row
  refine ⟨Nat.lt_of_lt_of_le h.kB hB, hl, h.fr, ⟨ca, cc, c0, ?_⟩, h.c1, h.c2, h.c3, h.mx, h.len, h.us, h.byt, h.sz⟩
  rcases hrow with h0 | ⟨g, rfl, hgk, hgB, hx⟩
  · exact .inl h0
  · exact .inr ⟨g, rfl, hgk, Nat.lt_of_lt_of_le hgB hB, hx⟩
theorem SRX.put1 {W : World} {k B q a : Nat} {s : Sr} (h : SRX W k B s) (ha : a ≤ 4000) : SRX ((W.drewN q).setCell ⟨k, 1, none⟩ (.int .i64 (a : Int))) k B { s with used := a } := by
  have e : ∀ (p : Addr), p ≠ ⟨k, 1, none⟩ → ((W.drewN q).setCell ⟨k, 1, none⟩ (.int .i64 (a : Int))).cell? p = W.cell? p := fun p hp => World.cell?_setCell_other _ _ _ _ (fun h => hp (by first | exact h | exact h.symm))
  obtain ⟨ca, cc, c0, hrow⟩ := h.row
  refine ⟨h.kB, by simpa using h.lt, fun j => by rw [World.frozen?_setCell]; exact h.fr j, ⟨ca, cc, (e _ (by simp)).trans c0, ?_⟩, World.cell?_setCell_same _ _ _ h.c1, (e _ (by simp)).trans h.c2, (e _ (by simp)).trans h.c3, h.mx, h.len, ha, h.byt, h.sz⟩
  rcases hrow with h0 | ⟨g, rfl, hgk, hgB, hx⟩
  · exact .inl h0
  · exact .inr ⟨g, rfl, hgk, hgB, fun i hi => (e _ (by intro h; injection h with h; exact hgk h)).trans (hx i hi)⟩
theorem SRX.put2 {W : World} {k B q m : Nat} {s : Sr} (h : SRX W k B s) (hm : m < 1000003) : SRX ((W.drewN q).setCell ⟨k, 2, none⟩ (.int .i64 (m : Int))) k B { s with mix := m } := by
  have e : ∀ (p : Addr), p ≠ ⟨k, 2, none⟩ → ((W.drewN q).setCell ⟨k, 2, none⟩ (.int .i64 (m : Int))).cell? p = W.cell? p := fun p hp => World.cell?_setCell_other _ _ _ _ (fun h => hp (by first | exact h | exact h.symm))
  obtain ⟨ca, cc, c0, hrow⟩ := h.row
  refine ⟨h.kB, by simpa using h.lt, fun j => by rw [World.frozen?_setCell]; exact h.fr j, ⟨ca, cc, (e _ (by simp)).trans c0, ?_⟩, (e _ (by simp)).trans h.c1, World.cell?_setCell_same _ _ _ h.c2, (e _ (by simp)).trans h.c3, hm, h.len, h.us, h.byt, h.sz⟩
  rcases hrow with h0 | ⟨g, rfl, hgk, hgB, hx⟩
  · exact .inl h0
  · exact .inr ⟨g, rfl, hgk, hgB, fun i hi => (e _ (by intro h; injection h with h; exact hgk h)).trans (hx i hi)⟩

set_option maxHeartbeats 1000000 in
set_option maxRecDepth 100000 in
theorem next_x (W : World) (k B n : Nat) (s : Sr) (h : SRX W k B s) (hn1 : n ≤ 1000000) :
    Calls Tryz.prog 24 #[.pointer (some ⟨k, 0, none⟩), .int .i64 (n : Int)] W fun e w' => e = .returned (.int .i64 ((s.next n).1 : Int)) ∧ SRX w' k B (s.next n).2 ∧ Tch k W w' := by
  by_cases h0 : n ≤ 1
  · have hn0 : (n : Int) ≤ 1 := by omega
    have HN : Hid (s.next n = (0, s)) := by show _ = _; unfold Sr.next; rw [if_pos h0]
    have HS : Hid (SRX W k B s) := h
    clear h
    go_enter Tryz.func24, Tryz.ntmps24
    go_wp2
    go_ret
    rw [HN.out]
    exact ⟨rfl, HS.out, Tch.refl _ _⟩
  have HS : Hid (SRX W k B s) := h
  obtain ⟨ca, cc, c0, hrow⟩ := h.row
  have c1 := h.c1
  have c2 := h.c2
  have hf1 := h.fr 1
  have hf2 := h.fr 2
  have hmx := h.mx
  have hN := h.len
  have hat := h.us
  have hn0 : ¬ (n : Int) ≤ 1 := by omega
  have hz : ((n : Int) == 0) = false := beq_eq_false_iff_ne.2 (by omega)
  by_cases hc : s.used < s.code.length ∧ n ≤ 256
  · have HN : Hid (s.next n = ((s.code.getD s.used 0).toNat % n, { s with used := s.used + 1 })) := by show _ = _; unfold Sr.next; rw [if_neg h0, if_pos hc]
    obtain ⟨hc1, hc2⟩ := hc
    rcases hrow with h00 | ⟨g, rfl, hgk, hgB, hx⟩
    · rw [h00] at hc1; simp at hc1
    obtain ⟨x, hx8, hxe⟩ := byt_at h.byt s.used
    have cx := hx s.used hc1
    rw [hxe] at cx
    have HX : Hid ((s.code.getD s.used 0).toNat = x) := by show _ = _; omega
    generalize hA : s.used = at_ at *
    generalize hL : s.code.length = N at *
    have HA : Hid (s.used = at_) := hA
    clear hA hL h hx hxe
    have hI1 : (at_ : Int) < (N : Int) := by omega
    have hI2 : (n : Int) ≤ 256 := by omega
    go_enter Tryz.func24, Tryz.ntmps24
    go_wp2
    go_quiet (fail)
    go_wp2
    go_quiet (fail)
    go_wp2
    go_ret
    rw [HN.out, HX.out]
    refine ⟨ret_int (by simp), ?_, Tch.set k 1 W _ _⟩
    have e : ((at_ : Int) + 1) = ((at_ + 1 : Nat) : Int) := by omega
    rw [e]
    exact HS.out.put1 (by omega)
  · have HN : Hid (s.next n = ((s.mix * 1103 + 12347) % 1000003 / 3 % n, { s with mix := (s.mix * 1103 + 12347) % 1000003 })) := by show _ = _; unfold Sr.next; rw [if_neg h0, if_neg hc]
    generalize hA : s.used = at_ at *
    generalize hL : s.code.length = N at *
    generalize hM : s.mix = mx at *
    have HA : Hid (s.used = at_) := hA
    clear hA hL hM h hrow
    have hcase : (¬ (at_ : Int) < (N : Int)) ∨ ((at_ : Int) < (N : Int) ∧ ¬ (n : Int) ≤ 256) := by omega
    clear hc
    rcases hcase with h1 | ⟨h1, h2⟩
    · have h1n : N ≤ at_ := by omega
      have h1m : ¬ at_ < N := by omega
      have h1e : (N : Int) ≤ (at_ : Int) := by omega
      go_enter Tryz.func24, Tryz.ntmps24
      go_wp2
      go_quiet (fail)
      go_wp2
      go_ret
      rw [HN.out]
      refine ⟨ret_int (by rw [Int.natCast_emod, show ((mx : Int) * 1103 + 12347) % 1000003 / 3 = (((mx * 1103 + 12347) % 1000003 / 3 : Nat) : Int) by omega]), ?_, Tch.set k 2 W _ _⟩
      have e : ((mx : Int) * 1103 + 12347) % 1000003 = (((mx * 1103 + 12347) % 1000003 : Nat) : Int) := by omega
      rw [e, ← HA.out]
      exact HS.out.put2 (Nat.mod_lt _ (by omega))
    · have h1n : at_ < N := by omega
      have h2n : 256 < n := by omega
      have h2m : ¬ n ≤ 256 := by omega
      go_enter Tryz.func24, Tryz.ntmps24
      go_wp2
      go_quiet (fail)
      go_wp2
      go_ret
      rw [HN.out]
      refine ⟨ret_int (by rw [Int.natCast_emod, show ((mx : Int) * 1103 + 12347) % 1000003 / 3 = (((mx * 1103 + 12347) % 1000003 / 3 : Nat) : Int) by omega]), ?_, Tch.set k 2 W _ _⟩
      have e : ((mx : Int) * 1103 + 12347) % 1000003 = (((mx * 1103 + 12347) % 1000003 : Nat) : Int) := by omega
      rw [e, ← HA.out]
      exact HS.out.put2 (Nat.mod_lt _ (by omega))

end Go.Proofs.YtdiingonnddkcaaGreatDoor


