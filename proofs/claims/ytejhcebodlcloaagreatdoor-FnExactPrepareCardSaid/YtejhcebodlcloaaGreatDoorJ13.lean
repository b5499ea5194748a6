import Derived.Test.YtejhcebodlcloaaGreatDoorJ12
import Derived.Test.YtejhcebodlcloaaGreatDoorJ09
import Derived.Test.YtejhcebodlcloaaGreatDoorJ11
import Derived.Test.YtejhcebodlcloaaGreatDoorJ07
namespace Go.Proofs.YtejhcebodlcloaaGreatDoor
open Go.RowKit

set_option maxHeartbeats 1000000 in
set_option maxRecDepth 100000 in
theorem eqEffect_same (w : World) (n : Ef) :
    Calls Tryz.prog 78 #[.agg #[.bool n.del, .string n.nd.path, .string n.nd.data, .int .i64 n.nd.ver, .int .i64 n.nd.cver, .int .i64 n.nd.cz, .int .i64 n.nd.mz, .int .i64 n.nd.pz], .agg #[.bool n.del, .string n.nd.path, .string n.nd.data, .int .i64 n.nd.ver, .int .i64 n.nd.cver, .int .i64 n.nd.cz, .int .i64 n.nd.mz, .int .i64 n.nd.pz]] w fun e w' => e = .returned (.bool true) ∧ Below w.heap.size w w' := by
  have B0 : Hid (Below w.heap.size w ((w.alloc (.cells #[.bool n.del, .string n.nd.path, .string n.nd.data, .int .i64 n.nd.ver, .int .i64 n.nd.cver, .int .i64 n.nd.cz, .int .i64 n.nd.mz, .int .i64 n.nd.pz] 100)).alloc (.cells #[.bool n.del, .string n.nd.path, .string n.nd.data, .int .i64 n.nd.ver, .int .i64 n.nd.cver, .int .i64 n.nd.cz, .int .i64 n.nd.mz, .int .i64 n.nd.pz] 100))) := ((Below.refl _ _).alloc (Nat.le_refl _) _).alloc (by simp) _
  have hdd : (n.del != n.del) = false := by simp
  go_enter Tryz.func78, Tryz.ntmps78
  go_wp2_with fail
  refine (eqNode_same _ n.nd).mono ?_
  rintro e w1 ⟨rfl, b1⟩
  have B1 : Hid (Below w.heap.size w w1) := B0.out.trans (b1.mono (by simp; omega))
  clear b1
  go_wp2
  go_ret
  exact ⟨rfl, B1.out⟩

set_option maxHeartbeats 1000000 in
set_option maxRecDepth 100000 in
theorem eqEffectS_row (w : World) (b o b2 o2 n ca cb : Nat) (ns : List Ef) (hn : n ≤ 1048576) (hb : b < w.heap.size) (hb2 : b2 < w.heap.size)
    (hc : ∀ i, i < n → CellsE w b (o + i * 8) (eAt ns i)) (hc2 : ∀ i, i < n → CellsE w b2 (o2 + i * 8) (eAt ns i)) :
    Calls Tryz.prog 59 #[.slice (some ⟨b, o, none⟩) n ca, .slice (some ⟨b2, o2, none⟩) n cb] w fun e w' => e = .returned (.bool true) ∧ Below w.heap.size w w' := by
  have HC : Hid (∀ i, i < n → CellsE w b (o + i * 8) (eAt ns i)) := hc
  have HC2 : Hid (∀ i, i < n → CellsE w b2 (o2 + i * 8) (eAt ns i)) := hc2
  clear hc hc2
  have h1 : ((n : Int) != (n : Int)) = false := by simp
  go_enter Tryz.func59, Tryz.ntmps59
  go_wp2
  go_loopw [5] (fun i wr => ∃ k : Nat, k ≤ n ∧ i = .int .i64 k ∧ Hid (Below w.heap.size w wr)) (fun i _ => n - (intOf i).toNat)
  case atStart => exact ⟨0, Nat.zero_le _, rfl, Below.refl _ _⟩
  case round =>
    obtain ⟨k, hk, rfl, HG⟩ := hrel
    by_cases hlt : k < n
    · obtain ⟨c0, c1, c2, c3, c4, c5, c6, c7⟩ := (HC.out k hlt).below HG.out hb
      obtain ⟨d0, d1, d2, d3, d4, d5, d6, d7⟩ := (HC2.out k hlt).below HG.out hb2
      have hltI : (k : Int) < (n : Int) := by omega
      have HE : Hid (∀ q, Calls Tryz.prog 78 #[.agg #[.bool (eAt ns k).del, .string (eAt ns k).nd.path, .string (eAt ns k).nd.data, .int .i64 (eAt ns k).nd.ver, .int .i64 (eAt ns k).nd.cver, .int .i64 (eAt ns k).nd.cz, .int .i64 (eAt ns k).nd.mz, .int .i64 (eAt ns k).nd.pz], .agg #[.bool (eAt ns k).del, .string (eAt ns k).nd.path, .string (eAt ns k).nd.data, .int .i64 (eAt ns k).nd.ver, .int .i64 (eAt ns k).nd.cver, .int .i64 (eAt ns k).nd.cz, .int .i64 (eAt ns k).nd.mz, .int .i64 (eAt ns k).nd.pz]] (wr.drewN q) fun e w' => e = .returned (.bool true) ∧ Below w.heap.size w w') := by
        intro q
        refine (eqEffect_same _ (eAt ns k)).mono ?_
        rintro e w' ⟨rfl, b'⟩
        exact ⟨rfl, (HG.out.trans ((below_drewN' wr q).mono HG.out.size)).trans (b'.mono HG.out.size)⟩
      go_wp2
      go_region_with (go_at_call 78; refine (HE.out 1).mono ?_; rintro e w' ⟨rfl, b'⟩)
      all_goals
        have HB : Hid (Below w.heap.size w w') := b'
        clear b'
        go_wp2
        go_roundw
        case rel => exact ⟨k + 1, by omega, by go_num, HB⟩
        case measure => simp [intOf]; omega
    · go_wp2
      go_ret
      exact ⟨rfl, HG.out⟩

set_option maxHeartbeats 400000 in
theorem eqEffectS_nil (w : World) (ao bo : Option Addr) (ca cb : Nat) :
    Calls Tryz.prog 59 #[.slice ao 0 ca, .slice bo 0 cb] w fun e w' => e = .returned (.bool true) ∧ w' = w := by
  go_enter Tryz.func59, Tryz.ntmps59
  go_wp2
  go_rounds 1
  go_ret
  exact ⟨rfl, rfl⟩

theorem eqEffectS_same (w : World) (va vb : Value) (ns : List Ef) (ha : RdE w va ns) (hb : RdE w vb ns) (hn : ns.length ≤ 1048576) :
    Calls Tryz.prog 59 #[va, vb] w fun e w' => e = .returned (.bool true) ∧ Below w.heap.size w w' := by
  obtain ⟨ao, ca, rfl, h1, h2, h3⟩ := ha
  obtain ⟨bo, cb, rfl, k1, k2, k3⟩ := hb
  rcases h3 with rfl | ⟨b, o, rfl, hb, hc⟩
  · refine (eqEffectS_nil w ao bo ca cb).mono ?_
    rintro e w' ⟨rfl, rfl⟩
    exact ⟨rfl, Below.refl _ _⟩
  · rcases k3 with rfl | ⟨b2, o2, rfl, hb2, hc2⟩
    · refine (eqEffectS_nil w _ bo ca cb).mono ?_
      rintro e w' ⟨rfl, rfl⟩
      exact ⟨rfl, Below.refl _ _⟩
    · exact eqEffectS_row w b o b2 o2 ns.length ca cb ns hn hb hb2 hc hc2

set_option maxHeartbeats 1000000 in
theorem eqTxn_same (w : World) (z : Int) (va vb : Value) (ns : List Ef) (ha : RdE w va ns) (hb : RdE w vb ns) (hn : ns.length ≤ 1048576) :
    Calls Tryz.prog 31 #[.agg #[.int .i64 z, va], .agg #[.int .i64 z, vb]] w fun e w' => e = .returned (.bool true) ∧ Below w.heap.size w w' := by
  have B0 : Hid (Below w.heap.size w ((w.alloc (.cells #[.int .i64 z, va] 33)).alloc (.cells #[.int .i64 z, vb] 33))) := ((Below.refl _ _).alloc (Nat.le_refl _) _).alloc (by simp) _
  have RA : Hid (RdE ((w.alloc (.cells #[.int .i64 z, va] 33)).alloc (.cells #[.int .i64 z, vb] 33)) va ns) := ha.below B0.out
  have RB : Hid (RdE ((w.alloc (.cells #[.int .i64 z, va] 33)).alloc (.cells #[.int .i64 z, vb] 33)) vb ns) := hb.below B0.out
  clear ha hb
  have hzz : (z != z) = false := by simp
  go_enter Tryz.func31, Tryz.ntmps31
  go_wp2_with fail
  refine (eqEffectS_same _ _ _ ns RA.out RB.out hn).mono ?_
  rintro e w1 ⟨rfl, b1⟩
  have B1 : Hid (Below w.heap.size w w1) := B0.out.trans (b1.mono (by simp; omega))
  clear b1
  go_wp2
  go_ret
  exact ⟨rfl, B1.out⟩




theorem less_trans : ∀ x y z : List UInt8, Op.bytesLess x y = true → Op.bytesLess y z = true → Op.bytesLess x z = true
  | [], [], _ => by simp [Op.bytesLess]
  | _ :: _, [], _ => by simp [Op.bytesLess]
  | _, _ :: _, [] => by simp [Op.bytesLess]
  | [], _ :: _, _ :: _ => by simp [Op.bytesLess]
  | a :: x, b :: y, c :: z => by
    unfold Op.bytesLess
    intro h1 h2
    have ih := less_trans x y z
    simp only [Bool.or_eq_true, Bool.and_eq_true, decide_eq_true_eq, beq_iff_eq] at h1 h2 ⊢
    rcases h1 with h1 | ⟨rfl, h1⟩
    · rcases h2 with h2 | ⟨rfl, h2⟩
      · exact .inl (UInt8.lt_trans h1 h2)
      · exact .inl h1
    · rcases h2 with h2 | ⟨rfl, h2⟩
      · exact .inl h2
      · exact .inr ⟨rfl, ih h1 h2⟩
theorem ltP_trans {a b c : ByteArray} (h1 : ltP a b = true) (h2 : ltP b c = true) : ltP a c = true := less_trans _ _ _ h1 h2
theorem ltP_ne {a b : ByteArray} (h : ltP a b = true) : (a.toList == b.toList) = false := by
  have := (ltP_yes h).2
  rw [Bool.eq_false_iff] at this ⊢
  intro e
  exact this (by rw [beq_iff_eq] at e ⊢; exact e.symm)
theorem ltP_asymm {a b : ByteArray} (h : ltP a b = true) : ltP b a = false := (ltP_yes h).1
theorem ltP_total {a b : ByteArray} (h : ltP a b = false) (hne : (a.toList == b.toList) = false) : ltP b a = true := by
  rcases ltP_no h with h1 | ⟨_, h1⟩
  · exact h1
  · rw [beq_iff_eq] at h1
    rw [h1] at hne
    simp at hne
theorem cmpP_lt (a b : ByteArray) : (cmpP a b < 0) ↔ ltP a b = true := by
  unfold cmpP ltP
  rw [cmp_lt, ByteArray.toList_eq, ByteArray.toList_eq]
theorem cmpP_eq (a b : ByteArray) : (cmpP a b == 0) = (a.toList == b.toList) := by
  have h : cmpP a b = 0 ↔ a.toList = b.toList := by
    unfold cmpP
    rw [cmp_eq0, ByteArray.toList_eq, ByteArray.toList_eq]
  rw [Bool.eq_iff_iff, beq_iff_eq, beq_iff_eq]
  exact h

/-- Paths ascend. -/
def Asc (ns : List Nd) : Prop := ns.Pairwise fun a b => ltP a.path b.path = true
theorem asc_of {α : Type} (f : α → ByteArray) : ∀ (l : List α), (∀ j (h : j + 1 < l.length), ltP (f l[j]) (f l[j+1]) = true) → l.Pairwise fun a b => ltP (f a) (f b) = true
  | [], _ => List.Pairwise.nil
  | [a], _ => by simp
  | a :: b :: l, h => by
    have ih := asc_of f (b :: l) (fun j hj => h (j + 1) (by simp at hj ⊢; omega))
    refine List.Pairwise.cons (fun c hc => ?_) ih
    have hab : ltP (f a) (f b) = true := h 0 (by simp)
    rcases List.mem_cons.1 hc with rfl | hc
    · exact hab
    · exact ltP_trans hab ((List.pairwise_cons.1 ih).1 c hc)
theorem okTree_asc {ns : List Nd} (h : okTree ns = true) : Asc ns := by
  unfold okTree okSorted at h
  simp only [Bool.and_eq_true, List.all_eq_true, List.mem_range] at h
  refine asc_of (fun n => n.path) ns fun j hj => ?_
  have := h.2 (j + 1) hj
  rw [okAt_succ] at this
  simp only [Bool.and_eq_true] at this
  have h2 := this.2
  rw [nAt_get (show j < ns.length by omega), nAt_get hj] at h2
  exact h2
/-! ### the place of a path -/
def plc (r : List Nd) (p : ByteArray) : Nat := (r.takeWhile fun m => ltP m.path p).length
def skp (r : List Nd) (p : ByteArray) : Nat := if fnd r p (plc r p) then 1 else 0
theorem plc_take (r : List Nd) (p : ByteArray) : r.take (plc r p) = r.takeWhile fun m => ltP m.path p := by
  unfold plc
  induction r with
  | nil => rfl
  | cons a r ih =>
    rw [List.takeWhile_cons]
    split
    · simp [ih]
    · simp
theorem plc_drop (r : List Nd) (p : ByteArray) : r.drop (plc r p) = r.dropWhile fun m => ltP m.path p := by
  unfold plc
  induction r with
  | nil => rfl
  | cons a r ih =>
    rw [List.takeWhile_cons, List.dropWhile_cons]
    split
    · simp [ih]
    · simp
theorem plc_le (r : List Nd) (p : ByteArray) : plc r p ≤ r.length := by
  have := congrArg List.length (plc_take r p)
  rw [List.length_take] at this
  unfold plc at this ⊢
  omega
theorem tw_lt (r : List Nd) (p : ByteArray) : ∀ a ∈ r.take (plc r p), ltP a.path p = true := by
  rw [plc_take]
  induction r with
  | nil => simp
  | cons b r ih =>
    rw [List.takeWhile_cons]
    split
    · rename_i hb
      intro a ha
      rcases List.mem_cons.1 ha with rfl | ha
      · exact hb
      · exact ih a ha
    · simp
theorem dw_not : ∀ (r : List Nd) (p : ByteArray), Asc r → ∀ a ∈ r.drop (plc r p), ltP a.path p = false := by
  intro r p h a ha
  rw [plc_drop] at ha
  induction r with
  | nil => simp at ha
  | cons b r ih =>
    rw [List.dropWhile_cons] at ha
    split at ha
    · exact ih (List.pairwise_cons.1 h).2 ha
    · rename_i hb
      have hb' : ltP b.path p = false := by simpa using hb
      rcases List.mem_cons.1 ha with rfl | ha
      · exact hb'
      · have hba := (List.pairwise_cons.1 h).1 a ha
        cases hc : ltP a.path p with
        | false => rfl
        | true => rw [ltP_trans hba hc] at hb'; exact absurd hb' (by simp)
theorem low_plc (r : List Nd) (p : ByteArray) (h : Asc r) : Low r p (plc r p) := by
  refine ⟨plc_le r p, fun i hi => ?_, fun i hi hl => ?_⟩
  · rw [cmpP_lt]
    have hl := Nat.lt_of_lt_of_le hi (plc_le r p)
    refine tw_lt r p _ ?_
    rw [nAt_get hl]
    exact List.mem_take_iff_getElem.2 ⟨i, by omega, rfl⟩
  · rw [cmpP_lt, dw_not r p h]
    · simp
    · rw [nAt_get hl]
      exact List.mem_drop_iff_getElem.2 ⟨i - plc r p, by omega, by congr 1; omega⟩
theorem asc_drop {r : List Nd} (h : Asc r) (k : Nat) : Asc (r.drop k) := List.Pairwise.sublist (List.drop_sublist k r) h

/-- What stays of a row that begins at or behind a path. -/
theorem wo_high (D : List Nd) (p : ByteArray) (h : Asc D) (hn : ∀ a ∈ D, ltP a.path p = false) : woN D p = D.drop (if (decide (0 < D.length) && ((nAt D 0).path.toList == p.toList)) then 1 else 0) := by
  cases D with
  | nil => rfl
  | cons b D =>
    have hr : ∀ a ∈ D, (a.path.toList == p.toList) = false := by
      intro a ha
      have h1 := (List.pairwise_cons.1 h).1 a ha
      have h2 := hn b (by simp)
      cases hc : a.path.toList == p.toList with
      | false => rfl
      | true =>
        rw [beq_iff_eq] at hc
        unfold ltP at h1 h2
        rw [hc] at h1
        rw [h1] at h2
        exact absurd h2 (by simp)
    have hf : woN D p = D := by
      unfold woN
      rw [List.filter_eq_self]
      intro a ha
      rw [hr a ha]
      rfl
    have e0 : nAt (b :: D) 0 = b := rfl
    rw [e0]
    unfold woN at hf ⊢
    rw [List.filter_cons]
    cases hc : b.path.toList == p.toList with
    | true => simp [hf]
    | false => simp [hf]
theorem skp_eq (r : List Nd) (p : ByteArray) : skp r p = if (decide (0 < (r.drop (plc r p)).length) && ((nAt (r.drop (plc r p)) 0).path.toList == p.toList)) then 1 else 0 := by
  unfold skp fnd
  rw [cmpP_eq, List.length_drop]
  have e : nAt (r.drop (plc r p)) 0 = nAt r (plc r p) := by unfold nAt; simp [List.getD]
  rw [e]
  have e2 : decide (plc r p < r.length) = decide (0 < r.length - plc r p) := by rw [decide_eq_decide]; omega
  rw [e2]
theorem skp_le (r : List Nd) (p : ByteArray) : skp r p ≤ 1 ∧ plc r p + skp r p ≤ r.length := by
  have h := plc_le r p
  rw [skp_eq]
  split
  · rename_i hc
    simp only [Bool.and_eq_true, decide_eq_true_eq, List.length_drop] at hc
    omega
  · omega
theorem wo_drop (r : List Nd) (p : ByteArray) (h : Asc r) : woN (r.drop (plc r p)) p = r.drop (plc r p + skp r p) := by
  rw [wo_high _ p (asc_drop h _) (dw_not r p h), ← skp_eq, List.drop_drop]
theorem wo_low (A : List Nd) (p : ByteArray) (h : ∀ a ∈ A, ltP a.path p = true) : woN A p = A := by
  unfold woN
  rw [List.filter_eq_self]
  intro a ha
  rw [ltP_ne (h a ha)]
  rfl
theorem wo_append (A B : List Nd) (p : ByteArray) : woN (A ++ B) p = woN A p ++ woN B p := by unfold woN; rw [List.filter_append]
theorem wo_all (A r : List Nd) (p : ByteArray) (hA : ∀ a ∈ A, ltP a.path p = true) (h : Asc r) : woN (A ++ r) p = A ++ r.take (plc r p) ++ r.drop (plc r p + skp r p) := by
  conv => lhs; rw [← List.take_append_drop (plc r p) r]
  rw [wo_append, wo_append, wo_low A p hA, wo_low _ p (tw_lt r p), wo_drop r p h, List.append_assoc]

theorem wi_low (n : Nd) : ∀ (A X : List Nd), (∀ a ∈ A, ltP a.path n.path = true) → A.foldl (stW n) (X, false) = (X ++ A, false)
  | [], X, _ => by simp
  | a :: A, X, h => by
    have ha := h a (by simp)
    have e : stW n (X, false) a = (X ++ [a], false) := by
      have h1 : Op.bytesLess a.path.toList n.path.toList = true := ha
      unfold stW
      rw [ltP_ne ha, h1]
      rfl
    rw [List.foldl_cons, e, wi_low n A _ (fun b hb => h b (List.mem_cons_of_mem _ hb))]
    simp
theorem wi_done (n : Nd) : ∀ (A X : List Nd), (A.foldl (stW n) (X, true)) = (X ++ woN A n.path, true)
  | [], X => by simp [woN]
  | a :: A, X => by
    have e : stW n (X, true) a = (X ++ woN [a] n.path, true) := by
      unfold stW woN
      rw [List.filter_cons]
      cases hc : a.path.toList == n.path.toList <;> simp
    rw [List.foldl_cons, e, wi_done n A, show a :: A = [a] ++ A from rfl, wo_append, List.append_assoc]
theorem wi_high (n : Nd) (D X : List Nd) (hn : ∀ a ∈ D, ltP a.path n.path = false) :
    (let f := D.foldl (stW n) (X, false); if f.2 then f.1 else f.1 ++ [n]) = X ++ n :: woN D n.path := by
  cases D with
  | nil => simp [woN]
  | cons b D =>
    have hb : Op.bytesLess b.path.toList n.path.toList = false := hn b (by simp)
    have e : stW n (X, false) b = (X ++ n :: woN [b] n.path, true) := by
      unfold stW woN
      rw [hb, List.filter_cons]
      cases hc : b.path.toList == n.path.toList <;> simp
    have e2 : (b :: D).foldl (stW n) (X, false) = (X ++ n :: woN (b :: D) n.path, true) := by
      rw [List.foldl_cons, e, wi_done, show b :: D = [b] ++ D from rfl, wo_append]
      simp
    simp only [e2, if_true]
theorem wi_all (A r : List Nd) (n : Nd) (hA : ∀ a ∈ A, ltP a.path n.path = true) (h : Asc r) : wiN (A ++ r) n = A ++ r.take (plc r n.path) ++ n :: r.drop (plc r n.path + skp r n.path) := by
  unfold wiN wiF
  conv => lhs; rw [← List.take_append_drop (plc r n.path) r]
  rw [← List.append_assoc, List.foldl_append, wi_low n (A ++ r.take (plc r n.path)) [] (by
    intro a ha
    rcases List.mem_append.1 ha with ha | ha
    · exact hA a ha
    · exact tw_lt r _ a ha)]
  have := wi_high n (r.drop (plc r n.path)) ([] ++ (A ++ r.take (plc r n.path))) (dw_not r _ h)
  simp only at this
  rw [this, wo_drop r _ h]
  simp

/-! ### one effect, all effects -/
end Go.Proofs.YtejhcebodlcloaaGreatDoor
namespace Go.Proofs.YtejhcebodlcloaaGreatDoor
open Go.RowKit Go.Shelf

theorem asc_wo {ns : List Nd} (h : Asc ns) (p : ByteArray) : Asc (woN ns p) := List.Pairwise.sublist List.filter_sublist h
theorem wi_form {ns : List Nd} (n : Nd) (h : Asc ns) : wiN ns n = ns.take (plc ns n.path) ++ n :: ns.drop (plc ns n.path + skp ns n.path) := by
  have := wi_all [] ns n (fun a ha => by simp at ha) h
  simpa using this
theorem dw_gt {ns : List Nd} (h : Asc ns) (p : ByteArray) : ∀ a ∈ ns.drop (plc ns p + skp ns p), ltP p a.path = true ∧ (a.path.toList == p.toList) = false := by
  intro a ha
  rw [← wo_drop ns p h] at ha
  obtain ⟨h1, h2⟩ := List.mem_filter.1 ha
  have h3 : (a.path.toList == p.toList) = false := by simpa using h2
  exact ⟨ltP_total (dw_not ns p h a h1) h3, h3⟩
theorem asc_wi {ns : List Nd} (h : Asc ns) (n : Nd) : Asc (wiN ns n) := by
  rw [wi_form n h]
  unfold Asc
  rw [List.pairwise_append, List.pairwise_cons]
  refine ⟨List.Pairwise.sublist (List.take_sublist _ _) h, ⟨fun a ha => (dw_gt h n.path a ha).1, List.Pairwise.sublist (List.drop_sublist _ _) h⟩, ?_⟩
  intro a ha b hb
  have h1 := tw_lt ns n.path a ha
  rcases List.mem_cons.1 hb with rfl | hb
  · exact h1
  · exact ltP_trans h1 (dw_gt h n.path b hb).1
theorem wi_len9 {ns : List Nd} (h : Asc ns) (n : Nd) : (wiN ns n).length = ns.length + 1 - skp ns n.path := by
  have := skp_le ns n.path
  rw [wi_form n h]
  simp only [List.length_append, List.length_cons, List.length_take, List.length_drop]
  have := plc_le ns n.path
  omega
theorem skp_one {ns : List Nd} (h : Asc ns) {p : ByteArray} (hf : ∃ a ∈ ns, (a.path.toList == p.toList) = true) : skp ns p = 1 := by
  obtain ⟨a, ha, he⟩ := hf
  have h1 := skp_le ns p
  by_cases h0 : skp ns p = 0
  · exfalso
    rw [← List.take_append_drop (plc ns p) ns] at ha
    rcases List.mem_append.1 ha with ha | ha
    · have := ltP_ne (tw_lt ns p a ha)
      rw [this] at he; cases he
    · have := (dw_gt h p a (by rw [h0]; exact ha)).2
      rw [this] at he; cases he
  · omega
theorem found_mem {ns : List Nd} {p : ByteArray} (h : ns.findIdx (isP p) < ns.length) : nAt ns (ns.findIdx (isP p)) ∈ ns ∧ ((nAt ns (ns.findIdx (isP p))).path.toList == p.toList) = true := by
  rw [nAt_get h]
  exact ⟨List.getElem_mem h, List.findIdx_getElem (w := h)⟩

/-- A tree that is sound. -/
def Snd (ns : List Nd) : Prop := Asc ns ∧ (∀ n ∈ ns, okNd n = true) ∧ ns.length ≤ 1000
theorem okTree_snd {ns : List Nd} : okTree ns = true ↔ Snd ns := by
  constructor
  · intro h
    refine ⟨okTree_asc h, ?_, okTree_len h⟩
    intro n hn
    obtain ⟨i, hi, rfl⟩ := List.mem_iff_getElem.1 hn
    have := okTree_nd h i hi
    rwa [nAt_get hi] at this
  · rintro ⟨h1, h2, h3⟩
    unfold okTree
    rw [decide_eq_true h3, Bool.true_and]
    refine sorted_yes fun k hk => ?_
    cases k with
    | zero => rw [okAt_zero, nAt_get hk]; exact h2 _ (List.getElem_mem hk)
    | succ k =>
      rw [okAt_succ, nAt_get hk, nAt_get (show k < ns.length by omega), h2 _ (List.getElem_mem hk), Bool.true_and]
      exact List.pairwise_iff_getElem.1 h1 k (k + 1) (by omega) hk (by omega)
theorem Snd.wo {ns : List Nd} (h : Snd ns) (p : ByteArray) : Snd (woN ns p) :=
  ⟨asc_wo h.1 p, fun n hn => h.2.1 n (List.mem_filter.1 hn).1, Nat.le_trans (List.length_filter_le ..) h.2.2⟩
theorem Snd.wi {ns : List Nd} (h : Snd ns) {n : Nd} (hn : okNd n = true) (hl : ns.length < 1000 ∨ ∃ a ∈ ns, (a.path.toList == n.path.toList) = true) : Snd (wiN ns n) := by
  refine ⟨asc_wi h.1 n, fun m hm => ?_, ?_⟩
  · rcases wi_mem hm with h1 | rfl
    · exact h.2.1 m h1
    · exact hn
  · rw [wi_len9 h.1 n]
    have := h.2.2
    rcases hl with hl | hl
    · omega
    · rw [skp_one h.1 hl]; omega
theorem okS_mor {v : Int} (h : okS v = true) : okS (mor v) = true := by
  unfold okS mor at *
  simp only [Bool.and_eq_true, decide_eq_true_eq] at *
  split <;> omega
theorem Snd.touch {ns : List Nd} (h : Snd ns) (p : ByteArray) {z : Int} (hz : okS z = true) : Snd (toN ns p z) := by
  unfold toN
  split
  · rename_i hf
    obtain ⟨h1, h2⟩ := found_mem hf
    refine h.wi ?_ (.inr ⟨_, h1, by simp⟩)
    have h3 := h.2.1 _ h1
    unfold okNd at h3 ⊢
    simp only [Bool.and_eq_true] at h3 ⊢
    obtain ⟨⟨⟨⟨⟨⟨a1, a2⟩, a3⟩, a4⟩, a5⟩, a6⟩, a7⟩ := h3
    exact ⟨⟨⟨⟨⟨⟨a1, a2⟩, a3⟩, okS_mor a4⟩, a5⟩, a6⟩, hz⟩
  · exact h
theorem doO_snd {ns : List Nd} (h : Snd ns) (o : Op5) {z : Int} (hz : okS z = true) : Snd (doO ns o z).2.1 := by
  unfold doO
  split
  · exact h
  rename_i hw
  have hw' : wfO o = true := by simpa using hw
  have hd : o.data.size ≤ 64 := by
    unfold wfO at hw'
    simp only [Bool.and_eq_true, decide_eq_true_eq] at hw'
    exact hw'.1.1.2
  split
  · split
    · exact h
    split
    · exact h
    rename_i hp
    split
    · exact h
    split
    · exact h
    rename_i hl
    refine Snd.touch (h.wi ?_ (.inl (by have := h.2.2; omega))) _ hz
    have hp' : okPath (nameO ns o) = true := by simpa using hp
    unfold okNd
    simp only [Bool.and_eq_true, decide_eq_true_eq]
    exact ⟨⟨⟨⟨⟨⟨hp', hd⟩, by decide⟩, by decide⟩, hz⟩, hz⟩, hz⟩
  · split
    · exact h
    rename_i hf
    split
    · exact h
    split
    · split
      · exact h
      · exact (h.wo _).touch _ hz
    split
    · obtain ⟨h1, h2⟩ := found_mem (show ns.findIdx (isP o.path) < ns.length by omega)
      refine h.wi ?_ (.inr ⟨_, h1, by simp⟩)
      have h3 := h.2.1 _ h1
      unfold okNd at h3 ⊢
      simp only [Bool.and_eq_true, decide_eq_true_eq] at h3 ⊢
      obtain ⟨⟨⟨⟨⟨⟨a1, a2⟩, a3⟩, a4⟩, a5⟩, a6⟩, a7⟩ := h3
      exact ⟨⟨⟨⟨⟨⟨a1, hd⟩, okS_mor a3⟩, a4⟩, a5⟩, hz⟩, a7⟩
    · exact h


set_option maxHeartbeats 400000 in
theorem oneMore_any (w : World) (v : Int) (h : 0 ≤ v ∧ v ≤ 2147483647) :
    Calls Tryz.prog 96 #[.int .i64 v] w fun e w' => e = .returned (.int .i64 (mor v)) ∧ w' = w := by
  have hw : IntKind.i64.wrap (v + 1) = v + 1 := by rw [IntKind.wrap_i64]; omega
  go_enter Tryz.func96, Tryz.ntmps96
  go_wp2
  · obtain rfl : v = 2147483647 := by omega
    go_ret
    exact ⟨rfl, rfl⟩
  · go_ret
    rw [show mor v = v + 1 by unfold mor; rw [if_neg (by omega)]]
    exact ⟨rfl, rfl⟩


theorem idx_plc {ns : List Nd} {p : ByteArray} (hf : fnd ns p (plc ns p) = true) : ns.findIdx (isP p) = plc ns p ∧ plc ns p < ns.length := by
  unfold fnd at hf
  simp only [Bool.and_eq_true, decide_eq_true_eq] at hf
  obtain ⟨hl, he⟩ := hf
  rw [cmpP_eq] at he
  refine ⟨?_, hl⟩
  rw [List.findIdx_eq hl]
  refine ⟨by unfold isP; rw [← nAt_get hl]; exact he, fun j hj => ?_⟩
  have hm : ns[j]'(by omega) ∈ ns.take (plc ns p) := by
    rw [List.mem_take_iff_getElem]
    exact ⟨j, by omega, rfl⟩
  exact ltP_ne (tw_lt ns p _ hm)
theorem idx_none {ns : List Nd} (h : Asc ns) {p : ByteArray} (hf : fnd ns p (plc ns p) = false) : ¬ ns.findIdx (isP p) < ns.length := by
  intro hl
  obtain ⟨h1, h2⟩ := found_mem hl
  have := skp_one h ⟨_, h1, h2⟩
  unfold skp at this
  rw [hf] at this
  simp at this
theorem idx_some {ns : List Nd} (h : Asc ns) {p : ByteArray} (hl : ns.findIdx (isP p) < ns.length) : fnd ns p (plc ns p) = true ∧ plc ns p = ns.findIdx (isP p) := by
  cases hf : fnd ns p (plc ns p) with
  | false => exact absurd hl (idx_none h hf)
  | true => exact ⟨rfl, (idx_plc hf).1.symm⟩
/-- The program's search in a sound tree. -/
theorem find9 (w : World) (v : Value) (ns : List Nd) (p : ByteArray) (h : RdN w v ns) (hs : Snd ns) :
    Calls Tryz.prog 86 #[v, .string p] w fun e w' => e = .returned (.tuple #[.int .i64 (plc ns p : Int), .bool (decide (ns.findIdx (isP p) < ns.length))]) ∧ Below w.heap.size w w' := by
  have h9 := findNode_any w v ns p (plc ns p) h hs.2.2 (low_plc ns p hs.1)
  have e : fnd ns p (plc ns p) = decide (ns.findIdx (isP p) < ns.length) := by
    cases hf : fnd ns p (plc ns p) with
    | false => rw [decide_eq_false (idx_none hs.1 hf)]
    | true => rw [decide_eq_true]; rw [(idx_plc hf).1]; exact (idx_plc hf).2
  rw [e] at h9
  exact h9

end Go.Proofs.YtejhcebodlcloaaGreatDoor
namespace Go.Proofs.YtejhcebodlcloaaGreatDoor
open Go.RowKit

theorem OwnN.setO {w : World} {lo b j : Nat} {v : Value} {ns : List Nd} (h : OwnN 70 w lo v ns) (hn : v.ownBlock ≠ some b) (u : Value) : OwnN 70 (w.setCell ⟨b, j, none⟩ u) lo v ns := World.ownsRow.kept h (grownBy_set _ _ _ _ _ (World.grownBy.refl _ _)) (.inr hn)
theorem OwnE.slice9 {e : TypeId} {w : World} {lo : Nat} {v : Value} {es : List Ef} (h : OwnE e w lo v es) : ∃ a c, v = .slice a es.length c := by
  obtain ⟨a, c, h0, _⟩ := (OwnE.rd h).len
  exact ⟨a, c, h0⟩
theorem OwnN.slice9 {e : TypeId} {w : World} {lo : Nat} {v : Value} {ns : List Nd} (h : OwnN e w lo v ns) : ∃ a c, v = .slice a ns.length c := by
  obtain ⟨a, c, h0, _⟩ := h.rd.len
  exact ⟨a, c, h0⟩

end Go.Proofs.YtejhcebodlcloaaGreatDoor


