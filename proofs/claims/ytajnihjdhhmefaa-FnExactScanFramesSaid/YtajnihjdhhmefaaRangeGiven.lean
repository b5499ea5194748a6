import Derived.Test.YtajnihjdhhmefaaChecked
import Derived.RangeFuncNested
import Derived.RangeFuncLeaves
import Derived.Shelf.Abstract
import Derived.WalkKit
import Derived.OwnWalkIn
import Derived.TacticsInMore
import Derived.LoopNIn
import Derived.LoopIn
namespace Go.Proofs.Ytajnihjdhhmefaa
open Go.RowKit Go.Shelf

/-- The two blocks that a loop over a function keeps its books in. -/
def Book (r : Loop) (M : Nat) (W : World) : Prop := W.heap[M + 1]? = some (.loop r) ∧ W.heap[M]? = some (.deferred (some []))

theorem Book.keep {r : Loop} {M : Nat} {X Y : World} (h : Book r M X) (hk : KeepsFrom M X Y) : Book r M Y := ⟨hk.same _ _ (by omega) h.1 rfl, hk.same _ _ (Nat.le_refl _) h.2 rfl⟩

/-- A loop over a function whose body runs to its end in every round: the iterator says what it hands on (Pre: memory, too), the body what it leaves (St). -/
theorem range_given {F : Fence} {n : Nat} {P : Program} {β : Type} {g : Operand} {ps : Array Tmp} {assign body : Code} {Q : Exit → Act → World → Prop} {a : Act} {w : World}
    (hro : F.round = none) (h1 : 1 ≤ n) {gf : Nat} {lb : Array Value} (hg : a.eval g = .func (.func gf) #[] lb) (hFg : F.fn gf) (eg : ∀ args w, (callFunc gf args).run P w = .ok (.enter gf args) w)
    (St : β → World → Prop) (Pre : β → Array Value → World → Prop) (step : β → Array Value → β) (Kp : World → World → Prop) (Fin : β → Prop) (s0 : β)
    (hSt : OwnFrom w.heap.size St) (hKt : ∀ {A B C : World}, Kp A B → Kp B C → Kp A C)
    (hKb : ∀ (W : World) (l : Nat) (o o' : Obj), w.heap.size ≤ l → W.heap[l]? = some o → o.isCells = false → o.isWalk = false → Kp W (W.putObj l o'))
    (hps : ∀ s vs W, Pre s vs W → vs.size = ps.size) (h0 : St s0 w)
    (Ax : β → Array Value → Act → World → Prop) (hAx : ∀ s vs a', OwnFrom w.heap.size (fun (_ : Unit) W => Ax s vs a' W))
    (hassign : ∀ (l : Nat) (s : β) (vs : Array Value) (W : World) (K : Act → World → Prop), St s W → Pre s vs W → (∀ a' W', KeepsFrom w.heap.size W W' → Kp W W' → Ax s vs a' W' → K a' W') →
      assign.wpIn (F.inRound l) (n - 1 - 1) P (Exit.then K (fun _ _ _ => False)) { tmps := (ps.zip vs).foldl (fun t (p, v) => t.setIfInBounds p v) a.tmps, defers := [] } W)
    (hbody : ∀ (l : Nat) (s : β) (vs : Array Value) (a' : Act) (W : World), Ax s vs a' W → body.wpIn (F.inRound l) (n - 1 - 1) P (fun e _ W' => e = .normal ∧ KeepsFrom w.heap.size W W' ∧ Kp W W' ∧ St (step s vs) W') a' W)
    (hcall : ∀ (Bk : World → Prop) (W1 : World), (∀ X Y, KeepsFrom w.heap.size X Y → Bk X → Bk Y) →
      (∀ s vs W, St s W → Bk W → Pre s vs W → YieldAt F (n - 1 - 1) P (w.heap.size + 1) vs W fun e W' => e = .returned (.bool true) ∧ St (step s vs) W' ∧ Bk W' ∧ Kp W W') →
      Below w.heap.size w W1 → w.heap.size + 2 ≤ W1.heap.size → St s0 W1 → Bk W1 →
      CallsIn F (n - 1) P gf (#[.func (.yield (w.heap.size + 1)) #[] #[]] ++ lb) W1 fun e W' => (∃ v, e = .returned v) ∧ ∃ s, Fin s ∧ St s W' ∧ Bk W')
    (hdone : ∀ (D : Nat) (s : β) (W : World), w.heap.size ≤ D → Fin s → St s W → W.heap[D]? = some (.deferred (some [])) → Q .normal { a with defers := { target := .collected D, args := #[] } :: a.defers } W) :
    (Code.rangeFunc g ps assign body).wpIn F n P Q a w := by
  refine wpIn_rangeFunc ?_
  intro fn hfn
  rw [hro]
  obtain ⟨r0, hr0⟩ : ∃ r : Loop, r = { state := .ready, pending := none, fn, tmps := a.tmps, params := ps, assign, body, defers := w.heap.size } := ⟨_, rfl⟩
  have hst : r0.state = .ready := by rw [hr0]
  have hpe : r0.pending = none := by rw [hr0]
  have hgrow : Below w.heap.size w ((w.alloc (.deferred (some []))).alloc (.loop r0)) := ((Below.refl _ w).alloc (Nat.le_refl _) _).alloc (by simp) _
  have hbook : Book r0 w.heap.size ((w.alloc (.deferred (some []))).alloc (.loop r0)) := by
    constructor
    · have := heap_alloc_new (w.alloc (.deferred (some []))) (.loop r0)
      rwa [World.size_alloc] at this
    · exact (Below.heap_alloc _ _ _ (by simp)).trans (heap_alloc_new w _)
  have hst1 : St s0 ((w.alloc (.deferred (some []))).alloc (.loop r0)) := hSt.alloc _ (hSt.alloc _ h0)
  have hsz : w.heap.size + 2 ≤ ((w.alloc (.deferred (some []))).alloc (.loop r0)).heap.size := by simp
  have henter : (Instr.enterLoop fn a.tmps ps assign body none).run P w = .ok (w.heap.size + 1, [{ target := .collected w.heap.size, args := #[] }]) ((w.alloc (.deferred (some []))).alloc (.loop r0)) := by
    rw [hr0]; exact run_enterLoop_outer _ _ _ _ _
  generalize (w.alloc (.deferred (some []))).alloc (.loop r0) = W1 at *
  refine ⟨_, _, W1, { target := .fn (.func gf) lb, args := #[.func (.yield (w.heap.size + 1)) #[] #[]] }, W1, gf, #[.func (.yield (w.heap.size + 1)) #[] #[]] ++ lb, W1, henter, ?_, ?_, ?_, fun _ => h1, ?_⟩
  · simp only [resolve, hg]
    simp [go_sem]
  · intro f' hf'
    simp [Target.leads] at hf'
    subst hf'
    exact hFg
  · simp [invoke, go_sem, eg]
  refine (hcall (Book r0 w.heap.size) W1 (fun X Y hk hb => hb.keep hk) ?_ hgrow hsz hst1 hbook).mono ?_
  · intro s vs W hs hb hp
    have hy := run_yield (P := P) (args := vs) hb.1 (by rw [hr0]; exact hps s vs W hp)
    rw [hr0] at hy
    refine ⟨fn, _, assign, body, hy, roundIn_of_wpIn hfn (hassign _ s vs W _ hs hp ?_)⟩
    clear hy
    intro a' Wa hka hkp hax
    have hba := hb.keep hka
    have hlt : w.heap.size + 1 < Wa.heap.size := (Array.getElem?_eq_some_iff.1 hba.1).1
    refine ⟨_, run_beginRound hba.1 hst, ?_⟩
    have hl2 : (Wa.putObj (w.heap.size + 1) (.loop { r0 with state := .busy })).heap[w.heap.size + 1]? = some (.loop { r0 with state := .busy }) := World.putObj_heap_same hlt
    have hk2 : (Wa.putObj (w.heap.size + 1) (.loop { r0 with state := .busy })).heap[w.heap.size]? = some (.deferred (some [])) := (World.putObj_heap_other (by omega)).trans hba.2
    have hkb : Kp Wa (Wa.putObj (w.heap.size + 1) (.loop { r0 with state := .busy })) := hKb _ _ _ _ (by omega) hba.1 rfl rfl
    refine wpIn_mono (hbody _ s vs a' _ ((hAx s vs a').putObj (s := ()) _ hax (by omega) hba.1 rfl)) ?_
    rintro e a3 W3 ⟨rfl, hk3, hp3, hs3⟩
    have hl3 := hk3.same _ _ (by omega) hl2 rfl
    have hd3 := hk3.same _ _ (Nat.le_refl _) hk2 rfl
    have hend := run_endRound (P := P) none hl3
    have hr1 : ({ { r0 with state := .busy } with state := if (none : Option Code).isNone then .ready else .done, pending := none } : Loop) = r0 := by rw [hr0]; rfl
    rw [hr1] at hend
    refine ⟨_, _, hend, rfl, hSt.putObj _ hs3 (by omega) hl3 rfl, ⟨World.putObj_heap_same (Array.getElem?_eq_some_iff.1 hl3).1, (World.putObj_heap_other (by omega)).trans hd3⟩, hKt hkp (hKt (hKt hkb hp3) (hKb _ _ _ _ (by omega) hl3 rfl rfl))⟩
  · rintro e W2 ⟨⟨v, rfl⟩, s, hF, hs, hb⟩
    have hend := run_endLoop (P := P) hb.1 (by rw [hst]; simp)
    rw [hpe] at hend
    exact ⟨none, _, hend, hdone _ s _ (Nat.le_refl _) hF (hSt.putObj _ hs (by omega) hb.1 rfl) ((World.putObj_heap_other (by omega)).trans hb.2)⟩

end Go.Proofs.Ytajnihjdhhmefaa
