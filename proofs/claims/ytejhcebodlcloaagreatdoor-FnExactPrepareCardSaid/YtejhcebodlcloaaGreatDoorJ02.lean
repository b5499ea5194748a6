import Derived.Test.YtejhcebodlcloaaGreatDoorJ01
import Derived.Test.YtejhcebodlcloaaGreatDoorChecked
import Derived.RangeFuncNested
import Derived.RangeFuncLeaves
import Derived.Shelf.Abstract
import Derived.WalkKit
import Derived.OwnWalkIn
import Derived.TacticsInMore
import Derived.LoopNIn
import Derived.LoopIn
import Derived.RangeFuncBox
namespace Go.Proofs.YtejhcebodlcloaaGreatDoor
open Go.RowKit

theorem pre_eq (s : ByteArray) (h : 1 ≤ s.size) : ((s.extract 0 1).toList == [47]) = decide (bN s 0 = 47) := by
  have h0 : 0 < s.data.toList.length := h
  rw [ByteArray.toList_eq, ByteArray.data_extract, Array.toList_extract, List.extract_eq_take_drop]
  unfold bN
  cases e : s.data.toList with
  | nil => rw [e] at h0; simp at h0
  | cons x l =>
    simp only [List.drop_zero, Nat.sub_zero, List.take_succ_cons, List.take_zero, List.getD_cons_zero]
    by_cases hx : x = 47
    · subst hx; rfl
    · have h1 : ¬ x.toNat = 47 := fun hh => hx (UInt8.toNat_inj.1 hh)
      rw [decide_eq_false h1, beq_eq_false_iff_ne]
      simpa using hx

set_option maxHeartbeats 1000000 in
set_option maxRecDepth 100000 in
theorem preLite_any (w : World) (s : ByteArray) (hs : 1 ≤ s.size) :
    Calls Tryz.prog 97 #[.string s, .string ⟨#[47]⟩] w fun e w' => e = .returned (.bool (decide (bN s 0 = 47))) ∧ w' = w := by
  have HE := hd9 (pre_eq s hs)
  have h1 : (1 : Int) ≤ (s.size : Int) := by omega
  go_enter Tryz.func97, Tryz.ntmps97
  go_wp2
  go_ret
  exact ⟨by rw [← HE.out]; rfl, rfl⟩

set_option maxHeartbeats 1000000 in
set_option maxRecDepth 100000 in
theorem pre_any (w : World) (s : ByteArray) (hs : 1 ≤ s.size) :
    Calls Tryz.prog 80 #[.string s, .string ⟨#[47]⟩] w fun e w' => e = .returned (.bool (decide (bN s 0 = 47))) ∧ w' = w := by
  go_enter Tryz.func80, Tryz.ntmps80
  go_wp2_with fail
  refine (preLite_any w s hs).mono ?_
  rintro e w2 ⟨rfl, rfl⟩
  go_wp2
  go_ret
  exact ⟨rfl, rfl⟩

set_option maxHeartbeats 1000000 in
set_option maxRecDepth 100000 in
theorem pre_none (w : World) (s : ByteArray) (hs : s.size = 0) :
    Calls Tryz.prog 80 #[.string s, .string ⟨#[47]⟩] w fun e w' => e = .returned (.bool false) ∧ w' = w := by
  have h1 : ¬ (1 : Int) ≤ (s.size : Int) := by omega
  clear hs
  go_enter Tryz.func80, Tryz.ntmps80
  go_wp2_with fail
  refine (show Calls Tryz.prog 97 #[.string s, .string ⟨#[47]⟩] w (fun e w' => e = .returned (.bool false) ∧ w' = w) from ?_).mono ?_
  · go_enter Tryz.func97, Tryz.ntmps97
    go_wp2
    go_ret
    exact ⟨rfl, rfl⟩
  rintro e w2 ⟨rfl, rfl⟩
  go_wp2
  go_ret
  exact ⟨rfl, rfl⟩

set_option maxHeartbeats 1000000 in
set_option maxRecDepth 100000 in
theorem validName_any (w : World) (p : ByteArray) :
    Calls Tryz.prog 82 #[.string p] w fun e w' => e = .returned (.bool (okN p)) ∧ ∃ q, w' = w.drewN q := by
  by_cases hp1 : p.size < 1
  · have hpI : (p.size : Int) < 1 := by omega
    have HF : Hid (okN p = false) := by show _ = _; unfold okN; rw [decide_eq_false (by omega)]; rfl
    go_enter Tryz.func82, Tryz.ntmps82
    go_wp2
    go_ret
    exact ⟨ret_b HF.out.symm, 0, rfl⟩
  · have hpI : ¬ (p.size : Int) < 1 := by omega
    by_cases hp2 : 16 < p.size
    · have hpI2 : (16 : Int) < (p.size : Int) := by omega
      have HF : Hid (okN p = false) := by show _ = _; unfold okN; rw [decide_eq_false (show ¬ p.size ≤ 16 by omega)]; simp
      go_enter Tryz.func82, Tryz.ntmps82
      go_wp2
      go_ret
      exact ⟨ret_b HF.out.symm, 0, rfl⟩
    · have hpI2 : ¬ (16 : Int) < (p.size : Int) := by omega
      go_enter Tryz.func82, Tryz.ntmps82
      go_wp2
      go_loopw [16] (fun vj wr => ∃ j : Nat, j ≤ p.size ∧ vj = .int .i64 j ∧ Hid (∀ t, t < j → okB (bN p t) = true) ∧ ∃ q, wr = w.drewN q) (fun j _ => p.size - (intOf j).toNat)
      case atStart => exact ⟨0, Nat.zero_le _, rfl, (fun t ht => by omega), 0, rfl⟩
      case round =>
        obtain ⟨j, hj, rfl, HJ, q, rfl⟩ := hrel
        by_cases hjl : j < p.size
        · have hjI : (j : Int) < (p.size : Int) := by omega
          have hbn := bN_get p j hjl
          have hx8 : p[j].toNat < 256 := p[j].toNat_lt
          obtain ⟨x, hx⟩ : ∃ x, x = p[j].toNat := ⟨_, rfl⟩
          have HX := hd9 hx
          have HBN : Hid (bN p j = x) := by show _ = _; rw [hbn, hx]
          clear hx hbn
          by_cases c1 : x < 48
          · have k1 : ¬ (97 : Int) ≤ (p[j].toNat : Int) := by have := HX.out; omega
            have k2 : ¬ (48 : Int) ≤ (p[j].toNat : Int) := by have := HX.out; omega
            have HF := hd9 (okN_no hjl (by rw [HBN.out]; unfold okB; rw [decide_eq_false (show ¬ 97 ≤ x by omega), decide_eq_false (show ¬ 48 ≤ x by omega)]; rfl))
            go_wp2
            go_ret
            exact ⟨ret_b HF.out.symm, _, rfl⟩
          · by_cases c2 : x ≤ 57
            · have k1 : ¬ (97 : Int) ≤ (p[j].toNat : Int) := by have := HX.out; omega
              have k2 : (48 : Int) ≤ (p[j].toNat : Int) := by have := HX.out; omega
              have k3 : (p[j].toNat : Int) ≤ 57 := by have := HX.out; omega
              have HOK : Hid (okB (bN p j) = true) := by show _ = _; rw [HBN.out]; unfold okB; rw [decide_eq_true (show 48 ≤ x by omega), decide_eq_true (show x ≤ 57 by omega)]; simp
              go_wp2
              exact ⟨⟨j + 1, by omega, by go_num, (fun t ht => by by_cases e : t = j; (subst e; exact HOK.out); exact HJ.out t (by omega)), q, rfl⟩, by simp [intOf]; omega⟩
            · by_cases c3 : x < 97
              · have k1 : ¬ (97 : Int) ≤ (p[j].toNat : Int) := by have := HX.out; omega
                have k2 : (48 : Int) ≤ (p[j].toNat : Int) := by have := HX.out; omega
                have k3 : ¬ (p[j].toNat : Int) ≤ 57 := by have := HX.out; omega
                have HF := hd9 (okN_no hjl (by rw [HBN.out]; unfold okB; rw [decide_eq_false (show ¬ 97 ≤ x by omega), decide_eq_false (show ¬ x ≤ 57 by omega)]; simp))
                go_wp2
                go_ret
                exact ⟨ret_b HF.out.symm, _, rfl⟩
              · by_cases c4 : x ≤ 122
                · have k1 : (97 : Int) ≤ (p[j].toNat : Int) := by have := HX.out; omega
                  have k2 : (p[j].toNat : Int) ≤ 122 := by have := HX.out; omega
                  have k3 : (48 : Int) ≤ (p[j].toNat : Int) := by omega
                  have k4 : ¬ (p[j].toNat : Int) ≤ 57 := by omega
                  have HOK : Hid (okB (bN p j) = true) := by show _ = _; rw [HBN.out]; unfold okB; rw [decide_eq_true (show 97 ≤ x by omega), decide_eq_true (show x ≤ 122 by omega)]; simp
                  go_wp2
                  exact ⟨⟨j + 1, by omega, by go_num, (fun t ht => by by_cases e : t = j; (subst e; exact HOK.out); exact HJ.out t (by omega)), q, rfl⟩, by simp [intOf]; omega⟩
                · have k1 : (97 : Int) ≤ (p[j].toNat : Int) := by have := HX.out; omega
                  have k2 : ¬ (p[j].toNat : Int) ≤ 122 := by have := HX.out; omega
                  have k3 : (48 : Int) ≤ (p[j].toNat : Int) := by omega
                  have k4 : ¬ (p[j].toNat : Int) ≤ 57 := by omega
                  have HF := hd9 (okN_no hjl (by rw [HBN.out]; unfold okB; rw [decide_eq_false (show ¬ x ≤ 122 by omega), decide_eq_false (show ¬ x ≤ 57 by omega)]; simp))
                  go_wp2
                  go_ret
                  exact ⟨ret_b HF.out.symm, _, rfl⟩
        · have hjI : ¬ (j : Int) < (p.size : Int) := by omega
          have HOK := hd9 (okN_yes (by omega) (by omega) (fun t ht => HJ.out t (by omega)))
          go_wp2
          go_ret
          exact ⟨ret_b HOK.out.symm, _, rfl⟩

end Go.Proofs.YtejhcebodlcloaaGreatDoor
namespace Go.Proofs.YtejhcebodlcloaaGreatDoor
open Go.RowKit Go.Shelf

/-- The two blocks that a loop over a function keeps its books in. -/
def Book (r : Loop) (M : Nat) (W : World) : Prop := W.heap[M + 1]? = some (.loop r) ∧ W.heap[M]? = some (.deferred (some []))

theorem Book.keep {r : Loop} {M : Nat} {X Y : World} (h : Book r M X) (hk : KeepsFrom M X Y) : Book r M Y := ⟨hk.same _ _ (by omega) h.1 rfl, hk.same _ _ (Nat.le_refl _) h.2 rfl⟩


/-- The same, where the body may leave by a return (StX: what it has left then). -/
theorem range_leaves {F : Fence} {n : Nat} {P : Program} {β : Type} {g : Operand} {ps : Array Tmp} {assign body : Code} {Q : Exit → Act → World → Prop} {a : Act} {w : World}
    (hro : F.round = none) (h1 : 1 ≤ n) {gf : Nat} {lb : Array Value} (hg : a.eval g = .func (.func gf) #[] lb) (hFg : F.fn gf) (eg : ∀ args w, (callFunc gf args).run P w = .ok (.enter gf args) w)
    (St : β → World → Prop) (Pre : β → Array Value → World → Prop) (step : β → Array Value → β) (Kp : World → World → Prop) (Fin : β → Prop) (StX : World → Prop) (hStX : OwnFrom w.heap.size (fun (_ : Unit) W => StX W)) (s0 : β)
    (hSt : OwnFrom w.heap.size St) (hKt : ∀ {A B C : World}, Kp A B → Kp B C → Kp A C)
    (hKb : ∀ (W : World) (l : Nat) (o o' : Obj), w.heap.size ≤ l → W.heap[l]? = some o → o.isCells = false → o.isWalk = false → Kp W (W.putObj l o'))
    (hps : ∀ s vs W, Pre s vs W → vs.size = ps.size) (h0 : St s0 w)
    (Ax : β → Array Value → Act → World → Prop) (hAx : ∀ s vs a', OwnFrom w.heap.size (fun (_ : Unit) W => Ax s vs a' W))
    (hassign : ∀ (l : Nat) (s : β) (vs : Array Value) (W : World) (K : Act → World → Prop), St s W → Pre s vs W → (∀ a' W', KeepsFrom w.heap.size W W' → Kp W W' → Ax s vs a' W' → K a' W') →
      assign.wpIn (F.inRound l) (n - 1 - 1) P (Exit.then K (fun _ _ _ => False)) { tmps := (ps.zip vs).foldl (fun t (p, v) => t.setIfInBounds p v) a.tmps, defers := [] } W)
    (hbody : ∀ (l : Nat) (s : β) (vs : Array Value) (a' : Act) (W : World), Ax s vs a' W → body.wpIn (F.inRound l) (n - 1 - 1) P (fun e _ W' => (e = .normal ∧ KeepsFrom w.heap.size W W' ∧ Kp W W' ∧ St (step s vs) W') ∨ (e = .ret ∧ KeepsFrom w.heap.size W W' ∧ StX W')) a' W)
    (hcall : ∀ (Bk BkX : World → Prop) (W1 : World), (∀ X Y, KeepsFrom w.heap.size X Y → Bk X → Bk Y) → (∀ X Y, KeepsFrom w.heap.size X Y → BkX X → BkX Y) →
      (∀ s vs W, St s W → Bk W → Pre s vs W → YieldAt F (n - 1 - 1) P (w.heap.size + 1) vs W fun e W' => (e = .returned (.bool true) ∧ St (step s vs) W' ∧ Bk W' ∧ Kp W W') ∨ (e = .returned (.bool false) ∧ StX W' ∧ BkX W')) →
      Below w.heap.size w W1 → w.heap.size + 2 ≤ W1.heap.size → St s0 W1 → Bk W1 →
      CallsIn F (n - 1) P gf (#[.func (.yield (w.heap.size + 1)) #[] #[]] ++ lb) W1 fun e W' => (∃ v, e = .returned v) ∧ ((∃ s, Fin s ∧ St s W' ∧ Bk W') ∨ (StX W' ∧ BkX W')))
    (hdone : ∀ (D : Nat) (s : β) (W : World), w.heap.size ≤ D → Fin s → St s W → W.heap[D]? = some (.deferred (some [])) → Q .normal { a with defers := { target := .collected D, args := #[] } :: a.defers } W)
    (hstop : ∀ (D : Nat) (W : World), w.heap.size ≤ D → StX W → W.heap[D]? = some (.deferred (some [])) → Code.ret.wpIn F n P Q { a with defers := { target := .collected D, args := #[] } :: a.defers } W) :
    (Code.rangeFunc g ps assign body).wpIn F n P Q a w := by
  refine wpIn_rangeFunc ?_
  intro fn hfn
  rw [hro]
  obtain ⟨r0, hr0⟩ : ∃ r : Loop, r = { state := .ready, pending := none, fn, tmps := a.tmps, params := ps, assign, body, defers := w.heap.size } := ⟨_, rfl⟩
  have hst : r0.state = .ready := by rw [hr0]
  have hpe : r0.pending = none := by rw [hr0]
  have hgrow : Below w.heap.size w ((w.alloc (.deferred (some []))).alloc (.loop r0)) := ((Below.refl _ w).alloc (Nat.le_refl _) _).alloc (by simp) _
  have hbook : Book r0 w.heap.size ((w.alloc (.deferred (some []))).alloc (.loop r0)) := by
    constructor
    · have := heap_alloc_new (w.alloc (.deferred (some []))) (.loop r0)
      rwa [World.size_alloc] at this
    · exact (Below.heap_alloc _ _ _ (by simp)).trans (heap_alloc_new w _)
  have hst1 : St s0 ((w.alloc (.deferred (some []))).alloc (.loop r0)) := hSt.alloc _ (hSt.alloc _ h0)
  have hsz : w.heap.size + 2 ≤ ((w.alloc (.deferred (some []))).alloc (.loop r0)).heap.size := by simp
  have henter : (Instr.enterLoop fn a.tmps ps assign body none).run P w = .ok (w.heap.size + 1, [{ target := .collected w.heap.size, args := #[] }]) ((w.alloc (.deferred (some []))).alloc (.loop r0)) := by
    rw [hr0]; exact run_enterLoop_outer _ _ _ _ _
  generalize (w.alloc (.deferred (some []))).alloc (.loop r0) = W1 at *
  refine ⟨_, _, W1, { target := .fn (.func gf) lb, args := #[.func (.yield (w.heap.size + 1)) #[] #[]] }, W1, gf, #[.func (.yield (w.heap.size + 1)) #[] #[]] ++ lb, W1, henter, ?_, ?_, ?_, fun _ => h1, ?_⟩
  · simp only [resolve, hg]
    simp [go_sem]
  · intro f' hf'
    simp [Target.leads] at hf'
    subst hf'
    exact hFg
  · simp [invoke, go_sem, eg]
  refine (hcall (Book r0 w.heap.size) (Book { r0 with state := .done, pending := some .ret } w.heap.size) W1 (fun X Y hk hb => hb.keep hk) (fun X Y hk hb => hb.keep hk) ?_ hgrow hsz hst1 hbook).mono ?_
  · intro s vs W hs hb hp
    have hy := run_yield (P := P) (args := vs) hb.1 (by rw [hr0]; exact hps s vs W hp)
    rw [hr0] at hy
    refine ⟨fn, _, assign, body, hy, roundIn_of_wpIn hfn (hassign _ s vs W _ hs hp ?_)⟩
    clear hy
    intro a' Wa hka hkp hax
    have hba := hb.keep hka
    have hlt := (Array.getElem?_eq_some_iff.1 hba.1).1
    refine ⟨_, run_beginRound hba.1 hst, ?_⟩
    have hl2 : (Wa.putObj (w.heap.size + 1) (.loop { r0 with state := .busy })).heap[w.heap.size + 1]? = some (.loop { r0 with state := .busy }) := World.putObj_heap_same hlt
    have hk2 : (Wa.putObj (w.heap.size + 1) (.loop { r0 with state := .busy })).heap[w.heap.size]? = some (.deferred (some [])) := (World.putObj_heap_other (by omega)).trans hba.2
    have hkb : Kp Wa (Wa.putObj (w.heap.size + 1) (.loop { r0 with state := .busy })) := hKb _ _ _ _ (by omega) hba.1 rfl rfl
    refine wpIn_mono (hbody _ s vs a' _ ((hAx s vs a').putObj (s := ()) _ hax (by omega) hba.1 rfl)) ?_
    rintro e a3 W3 (⟨rfl, hk3, hp3, hs3⟩ | ⟨rfl, hk3, hs3⟩)
    · have hl3 := hk3.same _ _ (by omega) hl2 rfl
      have hd3 := hk3.same _ _ (Nat.le_refl _) hk2 rfl
      have hend := run_endRound (P := P) none hl3
      have hr1 : ({ { r0 with state := .busy } with state := if (none : Option Code).isNone then .ready else .done, pending := none } : Loop) = r0 := by rw [hr0]; rfl
      rw [hr1] at hend
      exact ⟨_, _, hend, .inl ⟨rfl, hSt.putObj _ hs3 (by omega) hl3 rfl, ⟨World.putObj_heap_same (Array.getElem?_eq_some_iff.1 hl3).1, (World.putObj_heap_other (by omega)).trans hd3⟩, hKt hkp (hKt (hKt hkb hp3) (hKb _ _ _ _ (by omega) hl3 rfl rfl))⟩⟩
    · have hl3 := hk3.same _ _ (by omega) hl2 rfl
      have hd3 := hk3.same _ _ (Nat.le_refl _) hk2 rfl
      have hend := run_endRound (P := P) (some .ret) hl3
      have hr1 : ({ { r0 with state := .busy } with state := if (some Code.ret : Option Code).isNone then .ready else .done, pending := some .ret } : Loop) = { r0 with state := .done, pending := some .ret } := by rw [hr0]; rfl
      rw [hr1] at hend
      exact ⟨_, _, hend, .inr ⟨rfl, hStX.putObj (s := ()) _ hs3 (by omega) hl3 rfl, ⟨World.putObj_heap_same (Array.getElem?_eq_some_iff.1 hl3).1, (World.putObj_heap_other (by omega)).trans hd3⟩⟩⟩
  · rintro e W2 ⟨⟨v, rfl⟩, (⟨s, hF, hs, hb⟩ | ⟨hs, hb⟩)⟩
    · have hend := run_endLoop (P := P) hb.1 (by rw [hst]; simp)
      rw [hpe] at hend
      exact ⟨none, _, hend, hdone _ s _ (Nat.le_refl _) hF (hSt.putObj _ hs (by omega) hb.1 rfl) ((World.putObj_heap_other (by omega)).trans hb.2)⟩
    · have hend := run_endLoop (P := P) hb.1 (by simp)
      exact ⟨some .ret, _, hend, hstop _ _ (Nat.le_refl _) (hStX.putObj (s := ()) _ hs (by omega) hb.1 rfl) ((World.putObj_heap_other (by omega)).trans hb.2)⟩


attribute [local go_sem] Oper.semAt_some

theorem splA_none : ∀ (l cur : List UInt8), Lib.indexByte l 47 = -1 → splA cur l = [cur ++ l]
  | [], cur, _ => by simp [splA]
  | x :: l, cur, h => by
    unfold Lib.indexByte at h
    by_cases hx : x = 47
    · rw [hx] at h; simp at h
    · have hb := beq_eq_false_iff_ne.2 hx
      rw [hb] at h
      simp only [Bool.false_eq_true, if_false] at h
      have hge := Lib.indexByte_ge l 47
      have h1 : Lib.indexByte l 47 = -1 := by
        by_cases e : Lib.indexByte l 47 = -1
        · exact e
        · rw [if_neg (by simpa using e)] at h; omega
      rw [splA_ch hx, splA_none l _ h1]; simp
theorem splA_some : ∀ (l cur : List UInt8) (k : Nat), Lib.indexByte l 47 = (k : Int) → k < l.length ∧ splA cur l = (cur ++ l.take k) :: splA [] (l.drop (k + 1))
  | [], cur, k, h => by simp [Lib.indexByte] at h
  | x :: l, cur, k, h => by
    unfold Lib.indexByte at h
    by_cases hx : x = 47
    · rw [hx] at h
      have hk : k = 0 := by simp at h; omega
      subst hk
      rw [hx, splA_sl]; simp
    · have hb := beq_eq_false_iff_ne.2 hx
      rw [hb] at h
      simp only [Bool.false_eq_true, if_false] at h
      by_cases e : Lib.indexByte l 47 = -1
      · rw [if_pos (by simpa using e)] at h; omega
      · rw [if_neg (by simpa using e)] at h
        have hge := Lib.indexByte_ge l 47
        obtain ⟨j, rfl⟩ : ∃ j, k = j + 1 := ⟨k - 1, by omega⟩
        obtain ⟨h1, h2⟩ := splA_some l (cur ++ [x]) j (by omega)
        refine ⟨by simp; omega, ?_⟩
        rw [splA_ch hx, h2]; simp

/-- The length of the text in a box. -/
def lenIn (B : Nat) (W : World) : Nat := match W.cell? ⟨B, 0, none⟩ with
  | some (.string x) => x.size
  | _ => 0


def YPost (Bs : Nat) (St : Nat → World → Prop) (StX Bk BkX : World → Prop) (k : Nat) (W : World) (e : Ending) (W' : World) : Prop :=
  (e = .returned (.bool true) ∧ St (k + 1) W' ∧ Bk W' ∧ ∀ v, Boxed W Bs 9 v → Boxed W' Bs 9 v) ∨ (e = .returned (.bool false) ∧ StX W' ∧ BkX W')

set_option maxHeartbeats 2000000 in
set_option maxRecDepth 100000 in
theorem split1_any (nn : Nat) (hn1 : 1 ≤ nn) (l Bs Be Bv : Nat) (R : List (List UInt8)) (s0 : ByteArray)
    (St : Nat → World → Prop) (StX Bk BkX : World → Prop)
    (hSB : ∀ k X Y, Below X.heap.size X Y → St k X → St k Y) (hBB : ∀ X Y, Below X.heap.size X Y → Bk X → Bk Y)
    (hSW : ∀ k X v, St k X → St k (X.setCell ⟨Bs, 0, none⟩ v)) (hBW : ∀ X v, Bk X → Bk (X.setCell ⟨Bs, 0, none⟩ v))
    (hSR : ∀ k W, St k W → W.cell? ⟨Be, 0, none⟩ = some (.string ⟨#[47]⟩) ∧ W.cell? ⟨Bv, 0, none⟩ = some (.int .i64 0))
    (hY : ∀ k vs W, St k W → Bk W → (k < R.length ∧ vs = #[sV (R.getD k [])]) → YieldAt Fence.wide (nn - 1) Tryz.prog l vs W (YPost Bs St StX Bk BkX k W))
    (W : World) (h0 : St 0 W) (h1 : Bk W) (hs : Boxed W Bs 9 (.string s0)) (hz : s0.size ≤ 1048576) (hR : R = splA [] s0.data.toList) :
    CallsIn Fence.wide nn Tryz.prog 108 #[.func (.yield l) #[] #[], .pointer (some ⟨Be, 0, none⟩), .pointer (some ⟨Bs, 0, none⟩), .pointer (some ⟨Bv, 0, none⟩)] W fun e W' => (∃ v, e = .returned v) ∧ ((∃ s, s = R.length ∧ St s W' ∧ Bk W') ∨ (StX W' ∧ BkX W')) := by
  have HY := hd9 hY
  have HSB := hd9 hSB
  have HBB := hd9 hBB
  have HSW := hd9 hSW
  have HBW := hd9 hBW
  have HSR := hd9 hSR
  have H0 := hd9 h0
  have H1 := hd9 h1
  have HS0 := hd9 hs
  have HR : Hid (R.drop 0 = splA [] s0.data.toList) := hR
  obtain ⟨cE, cV⟩ := hSR 0 W h0
  have cS := hs.cell
  clear hY hSB hBB hSW hBW hSR h0 h1 hs hR
  refine callsIn_of_wp Tryz.func108 rfl trivial ?_ rfl
  simp only [Tryz.ntmps108, List.size_toArray, List.length_cons, List.length_nil, Nat.reduceAdd, Nat.reduceSub, Array.replicate_succ, Array.replicate_zero, List.push_toArray, List.append_toArray, List.nil_append, List.cons_append]
  gi_wp2
  gi_loopw [] (fun wr => ∃ (k : Nat) (r : ByteArray), Hid (St k wr) ∧ Hid (Bk wr) ∧ r.size ≤ 1048576 ∧ Hid (Boxed wr Bs 9 (.string r)) ∧ Hid (R.drop k = splA [] r.data.toList)) (fun wr => lenIn Bs wr)
  case atStart => exact ⟨0, s0, H0, H1, hz, HS0, HR⟩
  case round =>
    obtain ⟨k, r, HS, HB, hrz, HX, HD⟩ := hrel
    obtain ⟨cE, cV⟩ := HSR.out k wr HS.out
    have cS := HX.out.cell
    gi_wp2_with fail
    refine ⟨trivial, ?_⟩
    refine (callsIn_wide.2 (idx_any _ r)).mono ?_
    rintro e w2 ⟨rfl, rfl⟩
    by_cases hneg : Lib.indexByte r.data.toList 47 = -1
    · have hd := HD.out
      rw [splA_none _ _ hneg, List.nil_append] at hd
      have hlt : k < R.length := by
        by_cases h : k < R.length
        · exact h
        · rw [List.drop_eq_nil_of_le (by omega)] at hd; cases hd
      have hend : Hid (k + 1 = R.length) := by
        have := congrArg List.length hd
        rw [List.length_drop] at this
        simp at this
        show _ = _; omega
      have hget : R.getD k [] = r.data.toList := by
        have := congrArg (fun x => x.getD 0 []) hd
        simpa [List.getD, List.getElem?_drop] using this
      have hYx := HY.out k #[.string r] w2 HS.out HB.out ⟨hlt, by rw [hget]; rfl⟩
      rw [hneg]
      clear hneg hd hlt hget
      obtain ⟨fn, tmps, assign, body, hy, hR⟩ := hYx
      gi_wp2
      refine hR.mono ?_
      rintro e W3 (⟨rfl, hS3, hB3, -⟩ | ⟨rfl, hS3, hB3⟩)
      · have HS3 : Hid (St (k + 1) W3) := hS3
        have HB3 := hd9 hB3
        clear hS3 hB3 hy hR
        gi_wp2
        refine bodyPost_end (results_none rfl _ _ _) rfl ?_
        exact ⟨⟨_, rfl⟩, .inl ⟨k + 1, hend.out, HS3.out, HB3.out⟩⟩
      · have HS3 : Hid (StX W3) := hS3
        have HB3 := hd9 hB3
        clear hS3 hB3 hy hR
        gi_wp2
        refine bodyPost_end (results_none rfl _ _ _) rfl ?_
        exact ⟨⟨_, rfl⟩, .inr ⟨HS3.out, HB3.out⟩⟩
    · have hge := Lib.indexByte_ge r.data.toList 47
      obtain ⟨j, hj⟩ : ∃ j : Nat, Lib.indexByte r.data.toList 47 = (j : Int) := ⟨(Lib.indexByte r.data.toList 47).toNat, by omega⟩
      have hd := HD.out
      obtain ⟨hjl, hsp⟩ := splA_some _ [] j hj
      have hjr : j < r.size := hjl
      rw [hsp, List.nil_append] at hd
      have hlt : k < R.length := by
        by_cases h : k < R.length
        · exact h
        · rw [List.drop_eq_nil_of_le (by omega)] at hd; cases hd
      have hget : R.getD k [] = r.data.toList.take j := by
        have := congrArg (fun x => x.getD 0 []) hd
        simpa [List.getD, List.getElem?_drop] using this
      have hD2 : Hid (R.drop (k + 1) = splA [] (r.extract (j + 1) r.size).data.toList) := by
        have h1 := congrArg (List.drop 1) hd
        rw [List.drop_drop, List.drop_succ_cons, List.drop_zero] at h1
        show _ = _
        rw [extract_seg, h1]
        unfold seg
        congr 1
        rw [List.take_of_length_le (by rw [List.length_drop]; show r.size - _ ≤ _; omega)]
      have hYx := HY.out k #[.string (r.extract 0 j)] w2 HS.out HB.out ⟨hlt, by rw [hget, extract_seg]; unfold seg; simp [sV]⟩
      rw [hj]
      have hsz : (r.extract (j + 1) r.size).size = r.size - (j + 1) := by simp
      have HSZ := hd9 hsz
      clear hneg hd hlt hget hj hsp hjl hge hsz
      have hjI : ¬ (j : Int) < 0 := by omega
      have hjI2 : (j : Int) ≤ (r.size : Int) := by omega
      have hjI3 : (j : Int) + 1 ≤ (r.size : Int) := by omega
      obtain ⟨fn, tmps, assign, body, hy, hR⟩ := hYx
      gi_wp2
      refine hR.mono ?_
      rintro e W3 (⟨rfl, hS3, hB3, hK3⟩ | ⟨rfl, hS3, hB3⟩)
      · have HS3 : Hid (St (k + 1) W3) := hS3
        have HB3 := hd9 hB3
        have HX3 := hd9 (hK3 _ HX.out)
        clear hS3 hB3 hy hR hK3 cE cV cS
        obtain ⟨cE, cV⟩ := HSR.out (k + 1) W3 HS3.out
        have cS := HX3.out.cell
        have fS := HX3.out.frozen
        gi_wp2
        go_roundw
        case rel => exact ⟨k + 1, _, HSW.out _ _ _ HS3.out, HBW.out _ _ HB3.out, by rw [HSZ.out]; omega, HX3.out.set _, hD2⟩
        case measure =>
          have e1 := (HX3.out.set (.string (r.extract (j + 1) r.size))).cell
          have e2 := HX.out.cell
          unfold lenIn
          rw [e1, e2]
          show (r.extract (j + 1) r.size).size < r.size
          rw [HSZ.out]; omega
      · have HS3 : Hid (StX W3) := hS3
        have HB3 := hd9 hB3
        clear hS3 hB3 hy hR
        gi_wp2
        refine bodyPost_ret (results_none rfl _ _ _) rfl ?_
        exact ⟨⟨_, rfl⟩, .inr ⟨HS3.out, HB3.out⟩⟩


attribute [local go_sem] Oper.semAt_some

def SeqPost (s : ByteArray) (w : World) (e : Ending) (w' : World) : Prop :=
  e = .returned (.func (.func 108) #[] #[.pointer (some ⟨w.heap.size + 1, 0, none⟩), .pointer (some ⟨w.heap.size, 0, none⟩), .pointer (some ⟨w.heap.size + 2, 0, none⟩)]) ∧
  w' = ((w.alloc (.cells #[.string s] 9)).alloc (.cells #[.string ⟨#[47]⟩] 9)).alloc (.cells #[.int .i64 0] 3)

set_option maxHeartbeats 400000 in
theorem splitSeq_in (F : Fence) (n : Nat) (h87 : F.fn 98) (hro : F.round = none) (s : ByteArray) (w : World) :
    CallsIn F n Tryz.prog 98 #[.string s, .string ⟨#[47]⟩, .int .i64 0] w (SeqPost s w) := by
  refine callsIn_of_wp Tryz.func98 rfl h87 ?_ hro
  simp only [Tryz.ntmps98, List.size_toArray, List.length_cons, List.length_nil, Nat.reduceAdd, Nat.reduceSub, Array.replicate_succ, Array.replicate_zero, List.push_toArray, List.append_toArray, List.nil_append, List.cons_append]
  gi_wp2
  go_ret
  exact ⟨rfl, rfl⟩

set_option maxHeartbeats 400000 in
theorem SplitSeq_in (n : Nat) (hn : 1 ≤ n) (s : ByteArray) (w : World) :
    CallsIn Fence.wide n Tryz.prog 81 #[.string s, .string ⟨#[47]⟩] w (SeqPost s w) := by
  refine callsIn_of_wp Tryz.func81 rfl trivial ?_ rfl
  simp only [Tryz.ntmps81, List.size_toArray, List.length_cons, List.length_nil, Nat.reduceAdd, Nat.reduceSub, Array.replicate_succ, Array.replicate_zero, List.push_toArray, List.append_toArray, List.nil_append, List.cons_append]
  gi_wp2_with fail
  refine ⟨trivial, ?_⟩
  refine (splitSeq_in Fence.wide _ trivial rfl s w).mono ?_
  rintro e w5 ⟨rfl, hw5⟩
  have HW := hd9 hw5
  clear hw5
  gi_wp2
  go_ret
  exact ⟨rfl, HW.out⟩

theorem splA_sum : ∀ (l cur : List UInt8), ((splA cur l).map (fun p => p.length + 1)).sum = cur.length + l.length + 1
  | [], cur => by simp [splA]
  | x :: l, cur => by
    by_cases h : x = 47
    · subst h; rw [splA_sl]; have := splA_sum l []; simp only [List.map_cons, List.sum_cons, this, List.length_cons, List.length_nil]; omega
    · rw [splA_ch h, splA_sum l (cur ++ [x])]; simp only [List.length_append, List.length_cons, List.length_nil]; omega

theorem sum_ok : ∀ (rs : List (List UInt8)), rs.all okL = true → (rs.map (fun p => p.length + 1)).sum ≤ 17 * rs.length
  | [], _ => by simp
  | p :: rs, h => by
    rw [List.all_cons, Bool.and_eq_true] at h
    have h1 := sum_ok rs h.2
    have h2 : p.length ≤ 16 := by
      have := h.1
      unfold okL okN at this
      simp only [Bool.and_eq_true, decide_eq_true_eq] at this
      exact this.1.2
    simp only [List.map_cons, List.sum_cons, List.length_cons]; omega

theorem okPath_long {s : ByteArray} (h : 102 < s.size) : okPath s = false := by
  have h1 : ¬ s.data.toList = [47] := fun e => by
    have : s.data.toList.length = 1 := by rw [e]; rfl
    have h2 : s.data.toList.length = s.size := rfl
    omega
  rw [okPath_not h1]
  cases hn : (decide ((nm s).length ≤ 6)) with
  | false => simp
  | true =>
    cases ha : (nm s).all okL with
    | false => simp
    | true =>
      exfalso
      have h3 := sum_ok _ ha
      have h4 := splA_sum (s.data.toList.drop 1) []
      have h5 : (s.data.toList.drop 1).length = s.size - 1 := by rw [List.length_drop]; rfl
      rw [h5] at h4
      unfold nm at h3 hn
      rw [h4] at h3
      simp at h3 hn
      omega

end Go.Proofs.YtejhcebodlcloaaGreatDoor


