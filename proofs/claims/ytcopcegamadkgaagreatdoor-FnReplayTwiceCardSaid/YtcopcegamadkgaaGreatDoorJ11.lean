import Derived.Test.YtcopcegamadkgaaGreatDoorJ01
import Derived.Test.YtcopcegamadkgaaGreatDoorJ10
import Derived.Test.YtcopcegamadkgaaGreatDoorJ09
import Derived.Test.YtcopcegamadkgaaGreatDoorJ08
import Derived.Test.YtcopcegamadkgaaGreatDoorJ05
import Derived.Deep.QuietTactic
import Derived.Deep.RegionHeld3
import Derived.Deep.DeepHandedRow
import Derived.ShutString
import Derived.ChangeOld
import Derived.ChangeMaps5
import Derived.Test.YtcopcegamadkgaaGreatDoorCards
import Derived.Test.YtcopcegamadkgaaGreatDoorTie
import Derived.Lib.LaidIn
set_option maxRecDepth 100000
set_option maxHeartbeats 16000000
namespace Go.Proofs.YtcopcegamadkgaaGreatDoor
open Go.RowKit Go.Shelf
theorem range_breaks {L : Nat} {F : Fence} {n : Nat} {P : Program} {β : Type} {g : Operand} {ps : Array Tmp} {assign body : Code} {Q : Exit → Act → World → Prop} {a : Act} {w : World}
    (hro : F.round = none) (h1 : 1 ≤ n) {gf : Nat} {lb : Array Value} (hg : a.eval g = .func (.func gf) #[] lb) (hFg : F.fn gf) (eg : ∀ args w, (callFunc gf args).run P w = .ok (.enter gf args) w)
    (St : β → World → Prop) (Pre : β → Array Value → World → Prop) (step : β → Array Value → β) (Kp : World → World → Prop) (Fin : β → Prop) (StX : World → Prop) (hStX : OwnFrom w.heap.size (fun (_ : Unit) W => StX W)) (s0 : β)
    (hSt : OwnFrom w.heap.size St) (hKt : ∀ {A B C : World}, Kp A B → Kp B C → Kp A C)
    (hKb : ∀ (W : World) (l : Nat) (o o' : Obj), w.heap.size ≤ l → W.heap[l]? = some o → o.isCells = false → o.isWalk = false → Kp W (W.putObj l o'))
    (hps : ∀ s vs W, Pre s vs W → vs.size = ps.size) (h0 : St s0 w)
    (Ax : β → Array Value → Act → World → Prop) (hAx : ∀ s vs a', OwnFrom w.heap.size (fun (_ : Unit) W => Ax s vs a' W))
    (hassign : ∀ (l : Nat) (s : β) (vs : Array Value) (W : World) (K : Act → World → Prop), St s W → Pre s vs W → (∀ a' W', KeepsFrom w.heap.size W W' → Kp W W' → Ax s vs a' W' → K a' W') →
     assign.wpIn (F.inRound l) (n - 1 - 1) P (Exit.then K (fun _ _ _ => False)) { tmps := (ps.zip vs).foldl (fun t (p, v) => t.setIfInBounds p v) a.tmps, defers := [] } W)
    (hbody : ∀ (l : Nat) (s : β) (vs : Array Value) (a' : Act) (W : World), Ax s vs a' W → body.wpIn (F.inRound l) (n - 1 - 1) P (fun e _ W' => (e = .normal ∧ KeepsFrom w.heap.size W W' ∧ Kp W W' ∧ St (step s vs) W') ∨ (e = .exit L ∧ KeepsFrom w.heap.size W W' ∧ StX W')) a' W)
    (hcall : ∀ (Bk BkX : World → Prop) (W1 : World), (∀ X Y, KeepsFrom w.heap.size X Y → Bk X → Bk Y) → (∀ X Y, KeepsFrom w.heap.size X Y → BkX X → BkX Y) →
     (∀ s vs W, St s W → Bk W → Pre s vs W → YieldAt F (n - 1 - 1) P (w.heap.size + 1) vs W fun e W' => (e = .returned (.bool true) ∧ St (step s vs) W' ∧ Bk W' ∧ Kp W W') ∨ (e = .returned (.bool false) ∧ StX W' ∧ BkX W')) →
     Below w.heap.size w W1 → w.heap.size + 2 ≤ W1.heap.size → St s0 W1 → Bk W1 →
     CallsIn F (n - 1) P gf (#[.func (.yield (w.heap.size + 1)) #[] #[]] ++ lb) W1 fun e W' => (∃ v, e = .returned v) ∧ ((∃ s, Fin s ∧ St s W' ∧ Bk W') ∨ (StX W' ∧ BkX W')))
    (hdone : ∀ (D : Nat) (s : β) (W : World), w.heap.size ≤ D → Fin s → St s W → W.heap[D]? = some (.deferred (some [])) → Q .normal { a with defers := { target := .collected D, args := #[] } :: a.defers } W)
    (hstop : ∀ (D : Nat) (W : World), w.heap.size ≤ D → StX W → W.heap[D]? = some (.deferred (some [])) → (Code.exit L).wpIn F n P Q { a with defers := { target := .collected D, args := #[] } :: a.defers } W) :
    (Code.rangeFunc g ps assign body).wpIn F n P Q a w := by
 refine wpIn_rangeFunc ?_
 intro fn hfn
 rw [hro]
 obtain ⟨r0, hr0⟩ : ∃ r : Loop, r = { state := .ready, pending := none, fn, tmps := a.tmps, params := ps, assign, body, defers := w.heap.size } := ⟨_, rfl⟩
 have hst : r0.state = .ready := by rw [hr0]
 have hpe : r0.pending = none := by rw [hr0]
 have hgrow : Below w.heap.size w ((w.alloc (.deferred (some []))).alloc (.loop r0)) := ((Below.refl _ w).alloc (Nat.le_refl _) _).alloc (by simp) _
 have hbook : Book r0 w.heap.size ((w.alloc (.deferred (some []))).alloc (.loop r0)) := by
  constructor
  · have := heap_alloc_new (w.alloc (.deferred (some []))) (.loop r0)
    rwa [World.size_alloc] at this
  · exact (Below.heap_alloc _ _ _ (by simp)).trans (heap_alloc_new w _)
 have hst1 : St s0 ((w.alloc (.deferred (some []))).alloc (.loop r0)) := hSt.alloc _ (hSt.alloc _ h0)
 have hsz : w.heap.size + 2 ≤ ((w.alloc (.deferred (some []))).alloc (.loop r0)).heap.size := by simp
 have henter : (Instr.enterLoop fn a.tmps ps assign body none).run P w = .ok (w.heap.size + 1, [{ target := .collected w.heap.size, args := #[] }]) ((w.alloc (.deferred (some []))).alloc (.loop r0)) := by
  rw [hr0]; exact run_enterLoop_outer _ _ _ _ _
 generalize (w.alloc (.deferred (some []))).alloc (.loop r0) = W1 at *
 refine ⟨_, _, W1, { target := .fn (.func gf) lb, args := #[.func (.yield (w.heap.size + 1)) #[] #[]] }, W1, gf, #[.func (.yield (w.heap.size + 1)) #[] #[]] ++ lb, W1, henter, ?_, ?_, ?_, fun _ => h1, ?_⟩
 · simp only [resolve, hg]
   simp [go_sem]
 · intro f' hf'
   simp [Target.leads] at hf'
   subst hf'
   exact hFg
 · simp [invoke, go_sem, eg]
 refine (hcall (Book r0 w.heap.size) (Book { r0 with state := .done, pending := some (.exit L) } w.heap.size) W1 (fun X Y hk hb => hb.keep hk) (fun X Y hk hb => hb.keep hk) ?_ hgrow hsz hst1 hbook).mono ?_
 · intro s vs W hs hb hp
   have hy := run_yield (P := P) (args := vs) hb.1 (by rw [hr0]; exact hps s vs W hp)
   rw [hr0] at hy
   refine ⟨fn, _, assign, body, hy, roundIn_of_wpIn hfn (hassign _ s vs W _ hs hp ?_)⟩
   clear hy
   intro a' Wa hka hkp hax
   have hba := hb.keep hka
   have hlt : w.heap.size + 1 < Wa.heap.size := (Array.getElem?_eq_some_iff.1 hba.1).1
   refine ⟨_, run_beginRound hba.1 hst, ?_⟩
   have hl2 : (Wa.putObj (w.heap.size + 1) (.loop { r0 with state := .busy })).heap[w.heap.size + 1]? = some (.loop { r0 with state := .busy }) := World.putObj_heap_same hlt
   have hk2 : (Wa.putObj (w.heap.size + 1) (.loop { r0 with state := .busy })).heap[w.heap.size]? = some (.deferred (some [])) := (World.putObj_heap_other (by omega)).trans hba.2
   have hkb : Kp Wa (Wa.putObj (w.heap.size + 1) (.loop { r0 with state := .busy })) := hKb _ _ _ _ (by omega) hba.1 rfl rfl
   refine wpIn_mono (hbody _ s vs a' _ ((hAx s vs a').putObj (s := ()) _ hax (by omega) hba.1 rfl)) ?_
   rintro e a3 W3 (⟨rfl, hk3, hp3, hs3⟩ | ⟨rfl, hk3, hs3⟩)
   · have hl3 := hk3.same _ _ (by omega) hl2 rfl
     have hd3 := hk3.same _ _ (Nat.le_refl _) hk2 rfl
     have hend := run_endRound (P := P) none hl3
     have hr1 : ({ { r0 with state := .busy } with state := if (none : Option Code).isNone then .ready else .done, pending := none } : Loop) = r0 := by rw [hr0]; rfl
     rw [hr1] at hend
     exact ⟨_, _, hend, .inl ⟨rfl, hSt.putObj _ hs3 (by omega) hl3 rfl, ⟨World.putObj_heap_same (Array.getElem?_eq_some_iff.1 hl3).1, (World.putObj_heap_other (by omega)).trans hd3⟩, hKt hkp (hKt (hKt hkb hp3) (hKb _ _ _ _ (by omega) hl3 rfl rfl))⟩⟩
   · have hl3 := hk3.same _ _ (by omega) hl2 rfl
     have hd3 := hk3.same _ _ (Nat.le_refl _) hk2 rfl
     have hend := run_endRound (P := P) (some (.exit L)) hl3
     have hr1 : ({ { r0 with state := .busy } with state := if (some (Code.exit L) : Option Code).isNone then .ready else .done, pending := some (.exit L) } : Loop) = { r0 with state := .done, pending := some (.exit L) } := by rw [hr0]; rfl
     rw [hr1] at hend
     exact ⟨_, _, hend, .inr ⟨rfl, hStX.putObj (s := ()) _ hs3 (by omega) hl3 rfl, ⟨World.putObj_heap_same (Array.getElem?_eq_some_iff.1 hl3).1, (World.putObj_heap_other (by omega)).trans hd3⟩⟩⟩
 · rintro e W2 ⟨⟨v, rfl⟩, (⟨s, hF, hs, hb⟩ | ⟨hs, hb⟩)⟩
   · have hend := run_endLoop (P := P) hb.1 (by rw [hst]; simp)
     rw [hpe] at hend
     exact ⟨none, _, hend, hdone _ s _ (Nat.le_refl _) hF (hSt.putObj _ hs (by omega) hb.1 rfl) ((World.putObj_heap_other (by omega)).trans hb.2)⟩
   · have hend := run_endLoop (P := P) hb.1 (by simp)
     exact ⟨some (.exit L), _, hend, hstop _ _ (Nat.le_refl _) (hStX.putObj (s := ()) _ hs (by omega) hb.1 rfl) ((World.putObj_heap_other (by omega)).trans hb.2)⟩
attribute [local go_sem] Oper.semAt_some
theorem B4F.other {W W' : World} {b : Nat} {x0 x1 x2 x3 : Value} {row : Option Nat} (h : B4F W b x0 x1 x2 x3) (hg : W.grownBy W' row) (hne : some b ≠ row) : B4F W' b x0 x1 x2 x3 := by
 have hbl := hg.block b h.1 hne
 exact ⟨Nat.lt_of_lt_of_le h.1 hg.size, ⟨(World.cell?_of_block (a := ⟨b, 0, none⟩) hbl).trans h.2.1.1, (World.cell?_of_block (a := ⟨b, 1, none⟩) hbl).trans h.2.1.2.1, (World.cell?_of_block (a := ⟨b, 2, none⟩) hbl).trans h.2.1.2.2.1, (World.cell?_of_block (a := ⟨b, 3, none⟩) hbl).trans h.2.1.2.2.2⟩,
  (World.frozen?_of_block (a := ⟨b, 0, none⟩) hbl).trans h.2.2.1, (World.frozen?_of_block (a := ⟨b, 1, none⟩) hbl).trans h.2.2.2.1, (World.frozen?_of_block (a := ⟨b, 2, none⟩) hbl).trans h.2.2.2.2.1, (World.frozen?_of_block (a := ⟨b, 3, none⟩) hbl).trans h.2.2.2.2.2⟩
theorem RpS.other {w : World} {vt : Value} {W W' : World} {row : Option Nat} (h : RpS w vt W) (hg : W.grownBy W' row) (hr : ∀ r, row = some r → w.heap.size + 2 ≤ r) : RpS w vt W' :=
 ⟨h.1.grown hg (by have := h.2.1; omega) (fun q e => by have := hr q e; omega), Nat.le_trans h.2.1 hg.size, (World.cell?_of_block (a := ⟨w.heap.size, 0, none⟩) (hg.block w.heap.size (by have := h.2.1; omega) (fun e => by have := hr _ e.symm; omega))).trans h.2.2.1, h.2.2.2.other hg (fun e => by have := hr _ e.symm; omega)⟩
def B1F (W : World) (b : Nat) (x : Value) : Prop := b < W.heap.size ∧ W.cell? ⟨b, 0, none⟩ = some x ∧ W.frozen? ⟨b, 0, none⟩ = false
theorem B1F.below {W W' : World} {b : Nat} {x : Value} (h : B1F W b x) (hb : Below W.heap.size W W') : B1F W' b x := ⟨Nat.lt_of_lt_of_le h.1 hb.size, (hb.cell (p := ⟨b, 0, none⟩) h.1).trans h.2.1, (hb.frozen (p := ⟨b, 0, none⟩) h.1).trans h.2.2⟩
theorem B1F.other {W W' : World} {b : Nat} {x : Value} {row : Option Nat} (h : B1F W b x) (hg : W.grownBy W' row) (hne : some b ≠ row) : B1F W' b x := by
 have hbl := hg.block b h.1 hne
 exact ⟨Nat.lt_of_lt_of_le h.1 hg.size, (World.cell?_of_block (a := ⟨b, 0, none⟩) hbl).trans h.2.1, (World.frozen?_of_block (a := ⟨b, 0, none⟩) hbl).trans h.2.2⟩
structure RpI (w : World) (vt : Value) (Bo : Nat) (ao : Option Addr) (n cap : Nat) (R : List (List Int × Nat)) (start : Int) (res : List Nd × Int × Nat) (k : Nat) (v : Value) (ns : List Nd) (zx last : Int) (W : World) : Prop where
 head : RpS w vt W
 out : B4F W Bo v (.int .i64 zx) (.int .i64 (k : Int)) (.int .i64 ((pos R k : Nat) : Int))
 own : OwnN 85 W (w.heap.size + 2) v ns
 ne : v.ownBlock ≠ some Bo ∧ v.ownBlock ≠ some (Bo + 1)
 lastb : B1F W (Bo + 1) (.int .i64 last)
 area : Boxed W (Bo + 2) 22 (.slice ao n cap)
 size : Bo + 3 ≤ W.heap.size
 low : w.heap.size + 2 ≤ Bo
 good : Good ns
 len : ns.length ≤ 1000
 zx0 : -1 ≤ zx ∧ zx ≤ 2147483647
 last0 : 0 < k → 1 ≤ last ∧ last ≤ 2147483647
 first : k = 0 → zx = start
 kle : k ≤ R.length
 goes : rpl start k ((R.drop k).map (·.1)) ns zx last = res
theorem RpI.later {w : World} {vt : Value} {Bo : Nat} {ao : Option Addr} {n cap : Nat} {R : List (List Int × Nat)} {start : Int} {res : List Nd × Int × Nat} {k : Nat} {v : Value} {ns : List Nd} {zx last : Int} {W W' : World} (h : RpI w vt Bo ao n cap R start res k v ns zx last W) (hb : Below W.heap.size W W') : RpI w vt Bo ao n cap R start res k v ns zx last W' :=
 ⟨h.head.below hb, h.out.below hb, h.own.below hb, h.ne, h.lastb.below hb, (hb.block _ (by have := h.size; omega)).trans h.area, Nat.le_trans h.size hb.size, h.low, h.good, h.len, h.zx0, h.last0, h.first, h.kle, h.goes⟩
theorem OwnN.notCells {W W' : World} {row : Option Nat} {lo : Nat} {v : Value} {ns : List Nd} (h : OwnN 85 W lo v ns) (hg : W.grownBy W' row) (hr : ∀ r, row = some r → ∃ o : Obj, W.heap[r]? = some o ∧ o.isCells = false) : OwnN 85 W' lo v ns := ownsRow_notCells h hg hr
theorem RpI.notCells {w : World} {vt : Value} {Bo : Nat} {ao : Option Addr} {n cap : Nat} {R : List (List Int × Nat)} {start : Int} {res : List Nd × Int × Nat} {k : Nat} {v : Value} {ns : List Nd} {zx last : Int} {W W' : World} {row : Option Nat} (h : RpI w vt Bo ao n cap R start res k v ns zx last W) (hg : W.grownBy W' row) (hr : ∀ r, row = some r → Bo + 3 ≤ r ∧ ∃ o : Obj, W.heap[r]? = some o ∧ o.isCells = false) : RpI w vt Bo ao n cap R start res k v ns zx last W' :=
 ⟨h.head.other hg (fun r e => by have := (hr r e).1; have := h.low; omega), h.out.other hg (fun e => by have := (hr _ e.symm).1; omega), h.own.notCells hg (fun r e => (hr r e).2), h.ne, h.lastb.other hg (fun e => by have := (hr _ e.symm).1; omega),
  (hg.block _ (by have := h.size; omega) (fun e => by have := (hr _ e.symm).1; omega)).trans h.area, Nat.le_trans h.size hg.size, h.low, h.good, h.len, h.zx0, h.last0, h.first, h.kle, h.goes⟩
def RpX (w : World) (vt : Value) (Bo : Nat) (R : List (List Int × Nat)) (res : List Nd × Int × Nat) (W : World) : Prop :=
 ∃ v ns zx k, RpS w vt W ∧ B4F W Bo v (.int .i64 zx) (.int .i64 ((k : Nat) : Int)) (.int .i64 ((pos R k : Nat) : Int)) ∧ OwnN 85 W (w.heap.size + 2) v ns ∧ res = (ns, zx, k) ∧ w.heap.size + 2 ≤ Bo ∧ Bo + 3 ≤ W.heap.size
theorem RpX.notCells {w : World} {vt : Value} {Bo : Nat} {R : List (List Int × Nat)} {res : List Nd × Int × Nat} {W W' : World} {row : Option Nat} (h : RpX w vt Bo R res W) (hg : W.grownBy W' row) (hr : ∀ r, row = some r → Bo + 3 ≤ r ∧ ∃ o : Obj, W.heap[r]? = some o ∧ o.isCells = false) : RpX w vt Bo R res W' := by
 obtain ⟨v, ns, zx, k, h1, h2, h3, h4, h5, h6⟩ := h
 exact ⟨v, ns, zx, k, h1.other hg (fun r e => by have := (hr r e).1; omega), h2.other hg (fun e => by have := (hr _ e.symm).1; omega), h3.notCells hg (fun r e => (hr r e).2), h4, h5, Nat.le_trans h6 hg.size⟩
theorem RpI.stop {w : World} {vt : Value} {Bo : Nat} {ao : Option Addr} {n cap : Nat} {R : List (List Int × Nat)} {start : Int} {res : List Nd × Int × Nat} {k : Nat} {v : Value} {ns : List Nd} {zx last : Int} {W : World} (h : RpI w vt Bo ao n cap R start res k v ns zx last W) (hr : res = (ns, zx, k)) : RpX w vt Bo R res W :=
 ⟨v, ns, zx, k, h.head, h.out, h.own, hr, h.low, h.size⟩
theorem rpI_next {w : World} {vt : Value} {Bo : Nat} {ao : Option Addr} {n cap : Nat} {R : List (List Int × Nat)} {start : Int} {res : List Nd × Int × Nat} {k : Nat} {v x : Value} {ns : List Nd} {zx z : Int} {W : World} (h1 : RpS w vt W) (h2 : B4F W Bo v (.int .i64 zx) (.int .i64 (k : Int)) (.int .i64 ((pos R k : Nat) : Int))) (h3 : OwnN 85 W (w.heap.size + 2) v ns) (h4 : v.ownBlock ≠ some Bo ∧ v.ownBlock ≠ some (Bo + 1)) (h5 : B1F W (Bo + 1) x) (h6 : Boxed W (Bo + 2) 22 (.slice ao n cap)) (h7 : Bo + 3 ≤ W.heap.size) (h8 : w.heap.size + 2 ≤ Bo) (h9 : Good ns) (h10 : ns.length ≤ 1000) (h11 : -1 ≤ zx ∧ zx ≤ 2147483647) (h12 : 1 ≤ z ∧ z ≤ 2147483647) (h13 : k + 1 ≤ R.length) (h14 : rpl start (k + 1) ((R.drop (k + 1)).map (·.1)) ns zx z = res) :
    RpI w vt Bo ao n cap R start res (k + 1) v ns zx z (((W.setCell ⟨Bo + 1, 0, none⟩ (.int .i64 z)).setCell ⟨Bo, 2, none⟩ (.int .i64 ((k : Int) + 1))).setCell ⟨Bo, 3, none⟩ (.int .i64 ((pos R (k + 1) : Nat) : Int))) := by
 refine ⟨((h1.setO (by omega) _).setO h8 _).setO h8 _, ?_, ((h3.setO h4.2 _).setO h4.1 _).setO h4.1 _, h4, ?_, ?_, by simpa using h7, h8, h9, h10, h11, fun _ => h12, fun h => by omega, h13, h14⟩
 · have hb : Below (Bo + 1) W (W.setCell ⟨Bo + 1, 0, none⟩ (.int .i64 z)) := by refine Below.setCell (Below.refl _ _) ?_ _; exact Nat.le_refl _
   have := ((h2.belowB hb (by omega)).set2 (.int .i64 ((k : Int) + 1))).set3 (.int .i64 ((pos R (k + 1) : Nat) : Int))
   rw [show ((k + 1 : Nat) : Int) = (k : Int) + 1 by omega]
   exact this
 · have h : B1F (W.setCell ⟨Bo + 1, 0, none⟩ (.int .i64 z)) (Bo + 1) (.int .i64 z) := ⟨by simpa using h5.1, World.cell?_setCell_same _ _ _ h5.2.1, by simpa using h5.2.2⟩
   exact (h.other (gset _ Bo 2 _) (by simp)).other (gset _ Bo 3 _) (by simp)
 · show _ = _
   rw [Below.heap_setCell _ _ _ _ (by simp), Below.heap_setCell _ _ _ _ (by simp), Below.heap_setCell _ _ _ _ (by simp)]
   exact h6
theorem keeps_other {B Br : Nat} {X Y : World} (hg : X.grownBy Y (some Br)) (h : Br < B) : KeepsFrom B X Y := ⟨hg.size, fun k _ hB hk _ => (hg.block k (Array.getElem?_eq_some_iff.1 hk).1 (fun e => by simp at e; omega)).trans hk⟩
def AxR (w : World) (vt : Value) (Bo : Nat) (ao : Option Addr) (n cap : Nat) (R : List (List Int × Nat)) (start : Int) (res : List Nd × Int × Nat) (tm : Value → Value → Value → Array Value) (s : List Value) (vs : Array Value) (a' : Act) (W : World) : Prop :=
 ∃ ua uc v ns' zx last Bx, uOf vs = .slice ua (pR (R.map (·.1)) s.length).length uc ∧ s.length < R.length ∧ RpI w vt Bo ao n cap R start res s.length v ns' zx last W ∧ Own .u8 5 W (Bo + 3) (.slice ua (pR (R.map (·.1)) s.length).length uc) (pR (R.map (·.1)) s.length) ∧
  Boxed W Bx 40 (.slice ua (pR (R.map (·.1)) s.length).length uc) ∧ a' = { tmps := tm (.int .i64 ((pos R (s.length + 1) : Nat) : Int)) (.pointer (some ⟨Bx, 0, none⟩)) (.agg #[.slice ua (pR (R.map (·.1)) s.length).length uc]), defers := [] }
theorem implReplay_yes (w : World) (ta : Option Addr) (tc : Nat) (ns : List Nd) (start : Int) (ao : Option Addr) (n cap : Nat) (a : List Int) (ht : RdN w (.slice ta ns.length tc) ns) (hok : okTree ns = true) (hs : okS start = true) (hr : Rd .u8 w (.slice ao n cap) a) (hl : a.length = n) (hby : Byt a) (hn : n ≤ 8192) (hform : (ao = none ∧ n = 0 ∧ cap = 0) ∨ ∃ blk o, ao = some ⟨blk, o, none⟩) :
    Calls Tryz.prog 7 #[.agg #[.slice ta ns.length tc], .int .i64 start, .slice ao n cap] w (RpPost w (scn n a) (rpl start 0 ((scn n a).map (·.1)) ns start 0)) := by
 have HN : Hid (RdN w (.slice ta ns.length tc) ns) := ht
 have HOK : Hid (okTree ns = true) := hok
 have HR : Hid (Rd .u8 w (.slice ao n cap) a) := hr
 have HL : Hid (a.length = n) := hl
 have HBY : Hid (Byt a) := hby
 have HF : Hid ((ao = none ∧ n = 0 ∧ cap = 0) ∨ ∃ blk o, ao = some ⟨blk, o, none⟩) := hform
 have hnl : ns.length ≤ 1000 := by unfold okTree at hok; simp only [Bool.and_eq_true, decide_eq_true_eq] at hok; exact hok.1
 have hst : 0 ≤ start ∧ start ≤ 2147483647 := by unfold okS at hs; simpa using hs
 have HST : Hid (decide (0 ≤ start ∧ start ≤ 2147483647) = true) := by show _ = _; rw [decide_eq_true_eq]; exact hst
 have HG : Hid (Good ns) := good_tree hok
 obtain ⟨res, hres⟩ : ∃ res, res = rpl start 0 ((scn n a).map (·.1)) ns start 0 := ⟨_, rfl⟩
 have HRES : Hid (rpl start 0 ((scn n a).map (·.1)) ns start 0 = res) := hres.symm
 rw [← hres]
 have hn2 : ¬ (8192 : Int) < (n : Int) := by omega
 have hn2d : decide ((8192 : Int) < (n : Int)) = false := by simpa using hn2
 clear ht hok hs hr hl hby hres hform
 refine (callsIn_wide (n := 6)).1 ?_
 refine callsIn_of_wp_marks Tryz.func7 rfl trivial ?_ rfl
 simp only [Tryz.ntmps7, List.size_toArray, List.length_cons, List.length_nil, Nat.reduceAdd, Nat.reduceSub, Array.replicate_succ, Array.replicate_zero, List.push_toArray, List.append_toArray, List.nil_append, List.cons_append]
 gi_wp2_with fail
 have F0 : Hid (RpS w (.slice ta ns.length tc) ((w.alloc (.cells #[.slice ta ns.length tc] 25)).alloc (.cells #[.slice none 0 0, .int .i64 0, .int .i64 0, .int .i64 0] 29))) := RpS.new _ _ _ _
 generalize (w.alloc (.cells #[.slice ta ns.length tc] 25)).alloc (.cells #[.slice none 0 0, .int .i64 0, .int .i64 0, .int .i64 0] 29) = w0 at *
 refine ⟨trivial, ?_⟩
 refine (callsIn_wide.2 (implTree_any _ _ ns (HN.out.below F0.out.1) (good_sz HG.out))).mono ?_
 rintro e w1 ⟨rfl, b1⟩
 rw [HOK.out]
 have F1 := hd9 (F0.out.below b1)
 clear b1 F0
 gi_wp2_with fail
 refine ⟨trivial, ?_⟩
 refine (callsIn_wide.2 (implStat_any _ start)).mono ?_
 rintro e wq ⟨rfl, hwq⟩
 rw [HST.out, hwq]
 clear hwq
 obtain ⟨-, -, x0, -⟩ := F1.out
 gi_wp2_with fail
 clear x0
 refine ⟨trivial, ?_⟩
 refine (callsIn_wide.2 (cloneN_any _ ta tc ns (HN.out.below F1.out.1) hnl)).mono ?_
 rintro e w2 ⟨v2, rfl, o2, b2⟩
 obtain ⟨na, nc, rfl⟩ := OwnN.slice9 o2
 have F2 := hd9 (F1.out.below b2)
 have O2 : Hid (OwnN 85 w2 w1.heap.size (.slice na ns.length nc) ns) := o2
 have s1 := F1.out.2.1
 clear o2 b2 F1
 gi_wp2_with fail
 refine ⟨trivial, ?_⟩
 refine (frames_in Fence.wide _ trivial rfl _ _ _ _).mono ?_
 rintro e w5 ⟨rfl, hw5⟩
 gi_wp2_with fail
 have s2 : w.heap.size + 2 ≤ w2.heap.size := F2.out.2.1
 have HST0 : Hid (RpI w (.slice ta ns.length tc) w2.heap.size ao n cap (scn n a) start res 0 (.slice na ns.length nc) ns start 0 w5) := by
  rw [hw5]
  have bA : Below w2.heap.size w2 (w2.alloc (.cells #[.slice na ns.length nc, .int .i64 start, .int .i64 0, .int .i64 0] 29)) := (Below.refl _ _).alloc (Nat.le_refl _) _
  have hO := O2.out.below bA
  have hF := F2.out.below bA
  have hX := B4F.new w2 (.slice na ns.length nc) (.int .i64 start) (.int .i64 0) (.int .i64 0) 29
  have sA : (w2.alloc (.cells #[.slice na ns.length nc, .int .i64 start, .int .i64 0, .int .i64 0] 29)).heap.size = w2.heap.size + 1 := by simp
  have hlt := fun q hq => World.ownsRow.lt O2.out q hq
  generalize w2.alloc (.cells #[.slice na ns.length nc, .int .i64 start, .int .i64 0, .int .i64 0] 29) = wA at *
  have bB : Below wA.heap.size wA (wA.alloc (.cells #[.int .i64 0] 2)) := (Below.refl _ _).alloc (Nat.le_refl _) _
  have hL : B1F (wA.alloc (.cells #[.int .i64 0] 2)) (w2.heap.size + 1) (.int .i64 0) := by rw [← sA]; exact ⟨by simp, by simp, by simp⟩
  have sB : (wA.alloc (.cells #[.int .i64 0] 2)).heap.size = w2.heap.size + 2 := by simp [sA]
  generalize wA.alloc (.cells #[.int .i64 0] 2) = wB at *
  have bC : Below wB.heap.size wB (wB.alloc (.cells #[.slice ao n cap] 22)) := (Below.refl _ _).alloc (Nat.le_refl _) _
  refine ⟨(hF.below bB).below bC, by rw [pos_zero]; exact (hX.below bB).below bC, ((hO.below bB).below bC).mono (by omega), ⟨fun e => by have := hlt _ e; omega, fun e => by have := hlt _ e; omega⟩, hL.below bC, ?_, by simp [sB], s2, HG.out, hnl, ⟨by omega, by omega⟩, fun h => by omega, fun _ => rfl, Nat.zero_le _, by rw [List.drop_zero]; exact HRES.out⟩
  have := Boxed.new wB 22 (.slice ao n cap)
  rw [sB] at this
  exact this
 have s5 : w5.heap.size = w2.heap.size + 3 := by rw [hw5]; simp
 rw [← hw5]
 clear hw5 O2 F2
 refine range_breaks (L := 0) (F := Fence.wide) (n := 6) rfl (by omega) (gf := 89) (lb := #[.pointer (some ⟨w2.heap.size + 2, 0, none⟩)]) rfl trivial (enters_of Tryz.func89 (by kernel_rfl) rfl)
  (fun s W => ∃ v ns' zx last, RpI w (.slice ta ns.length tc) w2.heap.size ao n cap (scn n a) start res s.length v ns' zx last W) (PreS (scn n a) (fun s W => ∃ v ns' zx last, RpI w (.slice ta ns.length tc) w2.heap.size ao n cap (scn n a) start res s.length v ns' zx last W)) (fun s vs => s ++ [uOf vs]) (fun _ _ => True) (fun s => s.length = (scn n a).length) (RpX w (.slice ta ns.length tc) w2.heap.size (scn n a) res)
  (fun s X Y row hs hg hr => hs.notCells hg (fun r e => by have := hr r e; rw [s5] at this; exact this)) []
  (fun s X Y row hs hg hr => by obtain ⟨v, ns', zx, last, hs⟩ := hs; exact ⟨v, ns', zx, last, hs.notCells hg (fun r e => by have := hr r e; rw [s5] at this; exact this)⟩) (fun _ _ => trivial) (fun _ _ _ _ _ _ _ _ => trivial)
  (fun s vs W hp => by obtain ⟨u, W0, rfl, -⟩ := hp; rfl) ⟨_, _, _, _, HST0.out⟩ (AxR w (.slice ta ns.length tc) w2.heap.size ao n cap (scn n a) start res (fun e b p => #[.agg #[.slice ta ns.length tc], .int .i64 start, .slice ao n cap, .pointer (some ⟨w.heap.size, 0, none⟩), undef, undef, .pointer (some ⟨w.heap.size + 1, 0, none⟩), .pointer (some ⟨w2.heap.size, 0, none⟩), .pointer (some ⟨w2.heap.size + 1, 0, none⟩), e, b, undef, .agg #[.slice ta ns.length tc], .bool true, .bool false, .bool false, .int .i64 start, .bool true, .bool false, .bool false, .bool false, .slice ao n cap, .int .i64 n, .bool false, .bool false, undef, .pointer (some ⟨w.heap.size, 0, none⟩), .slice ta ns.length tc, .slice na ns.length nc, .agg #[.slice na ns.length nc], .int .i64 start, .agg #[.slice na ns.length nc, .int .i64 start, .int .i64 0, .int .i64 0], .slice ao n cap, .func (.func 89) #[] #[.pointer (some ⟨w2.heap.size + 2, 0, none⟩)], e, p, undef, undef, undef, undef, undef, undef, undef, undef, undef, undef, undef, undef, undef, undef, undef, undef, undef, undef, undef, undef, undef, undef, undef, undef, undef, undef, undef, undef, undef]))
  ?ax ?assign ?body ?call ?done ?stop
 case ax =>
  rintro s vs a' _ X Y row ⟨ua, uc, v, ns', zx, last, Bx, h1, h2, h3, h6, h7, h8⟩ hg hr
  refine ⟨ua, uc, v, ns', zx, last, Bx, h1, h2, h3.notCells hg (fun r e => by have := hr r e; rw [s5] at this; exact this), ownsRow_notCells h6 hg (fun r e => (hr r e).2), ?_, h8⟩
  exact (hg.block Bx (Array.getElem?_eq_some_iff.1 h7).1 (fun e => by obtain ⟨-, o, ho, hc⟩ := hr Bx e.symm; rw [h7] at ho; injection ho with ho; rw [← ho] at hc; cases hc)).trans h7
 case assign =>
  rintro l s vs W K - ⟨u, W0, rfl, hlt, ⟨v, ns', zx, last, hs⟩, hb, ho⟩ hK
  have hpr : ((scn n a).getD s.length ([], 0)).1 = pR ((scn n a).map (·.1)) s.length := (pR_map _ _ hlt).symm
  rw [hpr] at ho
  obtain ⟨ua, uc, rfl⟩ := Own.slice ho
  have HO : Hid (Own .u8 5 W W0.heap.size (.slice ua (pR ((scn n a).map (·.1)) s.length).length uc) (pR ((scn n a).map (·.1)) s.length)) := ho
  have HS : Hid (RpI w (.slice ta ns.length tc) w2.heap.size ao n cap (scn n a) start res s.length v ns' zx last W0) := hs
  have HB : Hid (Below W0.heap.size W0 W) := hb
  have HK : Hid (∀ a' W', KeepsFrom w5.heap.size W W' → True → (AxR w (.slice ta ns.length tc) w2.heap.size ao n cap (scn n a) start res (fun e b p => #[.agg #[.slice ta ns.length tc], .int .i64 start, .slice ao n cap, .pointer (some ⟨w.heap.size, 0, none⟩), undef, undef, .pointer (some ⟨w.heap.size + 1, 0, none⟩), .pointer (some ⟨w2.heap.size, 0, none⟩), .pointer (some ⟨w2.heap.size + 1, 0, none⟩), e, b, undef, .agg #[.slice ta ns.length tc], .bool true, .bool false, .bool false, .int .i64 start, .bool true, .bool false, .bool false, .bool false, .slice ao n cap, .int .i64 n, .bool false, .bool false, undef, .pointer (some ⟨w.heap.size, 0, none⟩), .slice ta ns.length tc, .slice na ns.length nc, .agg #[.slice na ns.length nc], .int .i64 start, .agg #[.slice na ns.length nc, .int .i64 start, .int .i64 0, .int .i64 0], .slice ao n cap, .func (.func 89) #[] #[.pointer (some ⟨w2.heap.size + 2, 0, none⟩)], e, p, undef, undef, undef, undef, undef, undef, undef, undef, undef, undef, undef, undef, undef, undef, undef, undef, undef, undef, undef, undef, undef, undef, undef, undef, undef, undef, undef, undef, undef])) s _ a' W' → K a' W') := hK
  clear ho hs hb hK hpr
  generalize hq : pR ((scn n a).map (·.1)) s.length = q at *
  have HLT0 : Hid (s.length < (scn n a).length) := hlt
  clear hlt
  gi_wp2
  refine HK.out _ _ (below_keeps ((Below.refl _ _).alloc (Nat.le_refl _) _)) trivial ⟨ua, uc, v, ns', zx, last, W.heap.size, by rw [hq]; rfl, HLT0.out, (HS.out.later HB.out).later ((Below.refl _ _).alloc (Nat.le_refl _) _), by rw [hq]; exact (HO.out.below ((Below.refl _ _).alloc (Nat.le_refl _) _)).mono HS.out.size, by rw [hq]; exact Boxed.new _ _ _, by rw [hq]⟩
 case body =>
  rintro l s vs a' W ⟨ua, uc, v, ns', zx, last, Bx, hu, hlt, hS, ho, hx, rfl⟩
  obtain ⟨va, vc, rfl⟩ := OwnN.slice9 hS.own
  have HS : Hid (RpI w (.slice ta ns.length tc) w2.heap.size ao n cap (scn n a) start res s.length (.slice va ns'.length vc) ns' zx last W) := hS
  have HO : Hid (Own .u8 5 W (w2.heap.size + 3) (.slice ua (pR ((scn n a).map (·.1)) s.length).length uc) (pR ((scn n a).map (·.1)) s.length)) := ho
  have HU : Hid (uOf vs = .slice ua (pR ((scn n a).map (·.1)) s.length).length uc) := hu
  have hbt := rec_byt HL.out s.length hlt
  have HBT : Hid (Byt (pR ((scn n a).map (·.1)) s.length)) := hbt.1
  have hpl := hbt.2.1
  have cx := hx.cell
  have zx9 : Bx < W.heap.size := (Array.getElem?_eq_some_iff.1 hx).1
  have hdrop := rec_drop (scn n a) s.length hlt
  have HDR : Hid (((scn n a).drop s.length).map (·.1) = pR ((scn n a).map (·.1)) s.length :: ((scn n a).drop (s.length + 1)).map (·.1)) := hdrop
  have hk1 : Hid (s.length + 1 ≤ (scn n a).length) := hlt
  have hps := (scn_all n a (by rw [HL.out]; exact Nat.le_refl _)).2.2 (s.length + 1) hlt
  rw [HL.out] at hps
  have hsl : s.length ≤ 8192 := by have := scn_len n a; omega
  clear hS ho hu hbt hx hdrop hlt
  generalize pR ((scn n a).map (·.1)) s.length = p9 at *
  generalize scn n a = R at *
  generalize hk : s.length = k at *
  have HKE : Hid (s.length = k) := hk
  clear hk
  have sW := HS.out.size
  have slo := HS.out.low
  gi_wp2_with fail
  refine ⟨trivial, ?_⟩
  refine (callsIn_wide.2 (implDecX_any _ _ p9 HO.out.rd HBT.out (by omega))).mono ?_
  rintro e W1 ⟨b1, hd⟩
  rename_i K10 hK10 K9 hK9
  have HK10 : Hid _ := hK10
  clear hK10
  have HS1 := hd9 (HS.out.later b1)
  have KP1 : Hid (KeepsFrom (w2.heap.size + 3) W W1) := below_keeps b1
  clear b1 HS cx
  rcases hd with ⟨hd, rfl⟩ | ⟨z, es, vx, hd, rfl, ox⟩
  · have HRES9 : Hid (res = (ns', zx, k)) := by
     have := HS1.out.goes
     rw [HDR.out, rpl_none hd] at this
     exact this.symm
    clear hd
    have bA : Below W1.heap.size W1 (W1.alloc (.cells #[.bool false, .int .i64 0, .slice none 0 0] 80)) := (Below.refl _ _).alloc (Nat.le_refl _) _
    have HX2 := hd9 (HS1.out.later bA)
    have KP2 := hd9 (KP1.out.trans (below_keeps bA))
    have t0 : (W1.alloc (.cells #[.bool false, .int .i64 0, .slice none 0 0] 80)).cell? ⟨W1.heap.size, 0, none⟩ = some (.bool false) := by simp
    clear bA HS1 KP1
    unfold zeroX
    gi_wp2_with fail
    generalize W1.alloc (.cells #[.bool false, .int .i64 0, .slice none 0 0] 80) = W2 at *
    refine HK10.out _ _ ?_
    clear HK10
    gi_wp2
    refine ⟨trivial, ?_⟩
    gi_wp2
    refine ⟨trivial, ?_⟩
    gi_wp2
    exact ⟨KP2.out, HX2.out.stop HRES9.out⟩
  · have hzz := okTxn_z (decX_ok hd)
    have HD : Hid (decX p9 = some (z, es)) := hd
    obtain ⟨xa, xc, rfl⟩ := OwnE.slice9 ox
    have bA : Below W1.heap.size W1 (W1.alloc (.cells #[.bool true, .int .i64 z, .slice xa es.length xc] 80)) := (Below.refl _ _).alloc (Nat.le_refl _) _
    have HX2 := hd9 (HS1.out.later bA)
    have KP2 := hd9 (KP1.out.trans (below_keeps bA))
    have OX2 : Hid (RdE (W1.alloc (.cells #[.bool true, .int .i64 z, .slice xa es.length xc] 80)) (.slice xa es.length xc) es) := (OwnE.rd ox).below bA
    have t0 : (W1.alloc (.cells #[.bool true, .int .i64 z, .slice xa es.length xc] 80)).cell? ⟨W1.heap.size, 0, none⟩ = some (.bool true) := by simp
    have t1 : (W1.alloc (.cells #[.bool true, .int .i64 z, .slice xa es.length xc] 80)).cell? ⟨W1.heap.size, 1, none⟩ = some (.int .i64 z) := by simp
    have t2 : (W1.alloc (.cells #[.bool true, .int .i64 z, .slice xa es.length xc] 80)).cell? ⟨W1.heap.size, 2, none⟩ = some (.slice xa es.length xc) := by simp
    have T2 : Hid (W1.heap.size < (W1.alloc (.cells #[.bool true, .int .i64 z, .slice xa es.length xc] 80)).heap.size ∧ (W1.alloc (.cells #[.bool true, .int .i64 z, .slice xa es.length xc] 80)).cell? ⟨W1.heap.size, 1, none⟩ = some (.int .i64 z) ∧ (W1.alloc (.cells #[.bool true, .int .i64 z, .slice xa es.length xc] 80)).cell? ⟨W1.heap.size, 2, none⟩ = some (.slice xa es.length xc)) := ⟨by simp, t1, t2⟩
    have S1 : Hid (w2.heap.size + 3 ≤ W1.heap.size) := HS1.out.size
    clear bA HS1 KP1 ox hd
    gi_wp2_with fail
    generalize W1.alloc (.cells #[.bool true, .int .i64 z, .slice xa es.length xc] 80) = W2 at *
    generalize hBt : W1.heap.size = Bt at *
    clear hBt
    refine HK10.out _ _ ?_
    clear HK10
    obtain ⟨zl, l0, lf⟩ := HX2.out.lastb
    gi_wp2_with fail
    clear l0 lf zl t0 t1 t2
    have hzx := HX2.out.zx0
    refine ⟨trivial, ?_⟩
    refine (callsIn_wide.2 (follows_any W2 w2.heap.size (.slice va ns'.length vc) zx _ last z k xa es.length xc HX2.out.out hzx HX2.out.last0)).mono ?_
    rintro e W3 ⟨rfl, b3⟩
    have HX3 := hd9 (HX2.out.later b3)
    have KP3 := hd9 (KP2.out.trans (below_keeps b3))
    have OX3 := hd9 (OX2.out.below b3)
    have T3 : Hid (Bt < W3.heap.size ∧ W3.cell? ⟨Bt, 1, none⟩ = some (.int .i64 z) ∧ W3.cell? ⟨Bt, 2, none⟩ = some (.slice xa es.length xc)) := ⟨Nat.lt_of_lt_of_le T2.out.1 b3.size, (b3.cell (p := ⟨Bt, 1, none⟩) T2.out.1).trans T2.out.2.1, (b3.cell (p := ⟨Bt, 2, none⟩) T2.out.1).trans T2.out.2.2⟩
    clear b3 HX2 KP2 OX2 T2
    obtain ⟨fl, hfl⟩ : ∃ fl, fl = (if k = 0 then decide (z ≤ zx + 1) else decide (z = last + 1)) := ⟨_, rfl⟩
    have HBAD : Hid ((if k = 0 then decide (start + 1 < z) else decide (z ≠ last + 1)) = !fl) := by
     rw [hfl]
     show _ = _
     by_cases hk0 : k = 0
     · rw [if_pos hk0, if_pos hk0, HX3.out.first hk0]
       by_cases h : z ≤ start + 1
       · rw [decide_eq_false (by omega), decide_eq_true h]; rfl
       · rw [decide_eq_true (by omega), decide_eq_false h]; rfl
     · rw [if_neg hk0, if_neg hk0]
       by_cases h : z = last + 1
       · rw [decide_eq_false (by omega), decide_eq_true h]; rfl
       · rw [decide_eq_true h, decide_eq_false h]; rfl
    rw [← hfl]
    clear hfl
    cases fl with
    | false =>
     have HRES9 : Hid (res = (ns', zx, k)) := by
      have := HX3.out.goes
      rw [HDR.out, rpl_bad HD.out HBAD.out] at this
      exact this.symm
     gi_wp2
     refine ⟨trivial, ?_⟩
     gi_wp2
     exact ⟨KP3.out, HX3.out.stop HRES9.out⟩
    | true =>
     obtain ⟨-, t1, t2⟩ := T3.out
     gi_wp2_with fail
     clear t1 t2
     refine ⟨trivial, ?_⟩
     refine (callsIn_wide.2 (reach_any W3 w2.heap.size va vc ns' zx _ z k xa xc es HX3.out.out HX3.out.own.rd HX3.out.own.nilOk HX3.out.good OX3.out (decX_ok HD.out))).mono ?_
     rintro e W4 hrp
     rcases hrp with ⟨hz, rfl, b4⟩ | ⟨hz, hbig, rfl, b4⟩ | ⟨hz, hbig, rfl, v4, x4, o4, g4⟩
     · have GOES : Hid (rpl start (k + 1) ((R.drop (k + 1)).map (·.1)) ns' zx z = res) := by
        have := HX3.out.goes
        rw [HDR.out, rpl_pass HD.out HBAD.out (by omega)] at this
        exact this
       have HX4 := hd9 (HX3.out.later b4)
       have KP4 := hd9 (KP3.out.trans (below_keeps b4))
       have t1 := (b4.cell (p := ⟨Bt, 1, none⟩) T3.out.1).trans T3.out.2.1
       have FIN : Hid (RpI w (.slice ta ns.length tc) w2.heap.size ao n cap R start res (k + 1) (.slice va ns'.length vc) ns' zx z (((W4.setCell ⟨w2.heap.size + 1, 0, none⟩ (.int .i64 z)).setCell ⟨w2.heap.size, 2, none⟩ (.int .i64 ((k : Int) + 1))).setCell ⟨w2.heap.size, 3, none⟩ (.int .i64 ((pos R (k + 1) : Nat) : Int)))) := rpI_next HX4.out.head HX4.out.out HX4.out.own HX4.out.ne HX4.out.lastb HX4.out.area HX4.out.size HX4.out.low HX4.out.good HX4.out.len HX4.out.zx0 hzz hk1.out GOES.out
       have KP5 : Hid (KeepsFrom (w2.heap.size + 3) W (((W4.setCell ⟨w2.heap.size + 1, 0, none⟩ (.int .i64 z)).setCell ⟨w2.heap.size, 2, none⟩ (.int .i64 ((k : Int) + 1))).setCell ⟨w2.heap.size, 3, none⟩ (.int .i64 ((pos R (k + 1) : Nat) : Int)))) := KP4.out.trans ((((KeepsOthers.setCell _ _ _).from _).trans ((KeepsOthers.setCell _ _ _).from _)).trans ((KeepsOthers.setCell _ _ _).from _))
       obtain ⟨zo, ⟨e0, e1, e2, e3⟩, f0, f1, f2, f3⟩ := HX4.out.out
       obtain ⟨zl, l0, lf⟩ := HX4.out.lastb
       have hbt1 : Bt ≠ w2.heap.size + 1 := by have := S1.out; omega
       have hbt2 : Bt ≠ w2.heap.size := by have := S1.out; omega
       clear b4 HX3 KP3 OX3 T3 HX4 KP4
       gi_wp2
       refine ⟨KP5.out, .slice va ns'.length vc, ns', zx, z, ?_⟩
       rw [HKE.out]
       exact FIN.out
     · have HRES9 : Hid (res = (ns', zx, k)) := by
        have := HX3.out.goes
        rw [HDR.out, rpl_big HD.out HBAD.out hz hbig] at this
        exact this.symm
       have HX4 := hd9 (HX3.out.later b4)
       have KP4 := hd9 (KP3.out.trans (below_keeps b4))
       clear b4
       gi_wp2
       exact ⟨KP4.out, HX4.out.stop HRES9.out⟩
     · have GOES : Hid (rpl start (k + 1) ((R.drop (k + 1)).map (·.1)) (resA ns' z es) z z = res) := by
        have := HX3.out.goes
        rw [HDR.out, rpl_app HD.out HBAD.out hz hbig] at this
        exact this
       have KP4 := hd9 (KP3.out.trans (keeps_other g4 (by omega)))
       have s3W := HX3.out.size
       have t1 := (World.cell?_of_block (a := ⟨Bt, 1, none⟩) (g4.block Bt T3.out.1 (fun e => by simp at e; have := S1.out; omega))).trans T3.out.2.1
       have LB4 : Hid (B1F W4 (w2.heap.size + 1) (.int .i64 last)) := HX3.out.lastb.other g4 (by simp)
       have X4 : Hid (B4F W4 w2.heap.size v4 (.int .i64 z) (.int .i64 (k : Int)) (.int .i64 ((pos R k : Nat) : Int))) := x4
       have AR4 : Hid (Boxed W4 (w2.heap.size + 2) 22 (.slice ao n cap)) := (g4.block (w2.heap.size + 2) (by omega) (by simp)).trans HX3.out.area
       have HD4 : Hid (RpS w (.slice ta ns.length tc) W4) := HX3.out.head.other g4 (fun r e => by simp at e; omega)
       have NE4 : Hid (v4.ownBlock ≠ some w2.heap.size ∧ v4.ownBlock ≠ some (w2.heap.size + 1)) := ⟨fun e => by have := (World.ownsRow.lt o4 _ e).1; omega, fun e => by have := (World.ownsRow.lt o4 _ e).1; omega⟩
       have O4 : Hid (OwnN 85 W4 (w.heap.size + 2) v4 (resA ns' z es)) := o4.mono (by omega)
       have FIN : Hid (RpI w (.slice ta ns.length tc) w2.heap.size ao n cap R start res (k + 1) v4 (resA ns' z es) z z (((W4.setCell ⟨w2.heap.size + 1, 0, none⟩ (.int .i64 z)).setCell ⟨w2.heap.size, 2, none⟩ (.int .i64 ((k : Int) + 1))).setCell ⟨w2.heap.size, 3, none⟩ (.int .i64 ((pos R (k + 1) : Nat) : Int)))) := rpI_next HD4.out X4.out O4.out NE4.out LB4.out AR4.out (Nat.le_trans s3W g4.size) HX3.out.low (good_resA HX3.out.good (decX_ok HD.out)) (by omega) ⟨by omega, by omega⟩ hzz hk1.out GOES.out
       have KP5 : Hid (KeepsFrom (w2.heap.size + 3) W (((W4.setCell ⟨w2.heap.size + 1, 0, none⟩ (.int .i64 z)).setCell ⟨w2.heap.size, 2, none⟩ (.int .i64 ((k : Int) + 1))).setCell ⟨w2.heap.size, 3, none⟩ (.int .i64 ((pos R (k + 1) : Nat) : Int)))) := KP4.out.trans ((((KeepsOthers.setCell _ _ _).from _).trans ((KeepsOthers.setCell _ _ _).from _)).trans ((KeepsOthers.setCell _ _ _).from _))
       obtain ⟨zo, ⟨e0, e1, e2, e3⟩, f0, f1, f2, f3⟩ := X4.out
       obtain ⟨zl, l0, lf⟩ := LB4.out
       have hbt1 : Bt ≠ w2.heap.size + 1 := by have := S1.out; omega
       have hbt2 : Bt ≠ w2.heap.size := by have := S1.out; omega
       clear g4 x4 o4 HX3 KP3 OX3 T3 X4 LB4 AR4 HD4 NE4 O4 KP4
       gi_wp2
       refine ⟨KP5.out, v4, resA ns' z es, z, z, ?_⟩
       rw [HKE.out]
       exact FIN.out
 case call =>
  intro Bk BkX W1 hBk hBkX hY _ _ hs0 hb0
  have hY' : ∀ s vs W, (fun s W => ∃ v ns' zx last, RpI w (.slice ta ns.length tc) w2.heap.size ao n cap (scn n a) start res s.length v ns' zx last W) s W → Bk W → PreS (scn n a) (fun s W => ∃ v ns' zx last, RpI w (.slice ta ns.length tc) w2.heap.size ao n cap (scn n a) start res s.length v ns' zx last W) s vs W → YieldAt Fence.wide (5 - 1) Tryz.prog (w5.heap.size + 1) vs W fun e W' => (e = .returned (.bool true) ∧ (fun s W => ∃ v ns' zx last, RpI w (.slice ta ns.length tc) w2.heap.size ao n cap (scn n a) start res s.length v ns' zx last W) (s ++ [uOf vs]) W' ∧ Bk W') ∨ (e = .returned (.bool false) ∧ (RpX w (.slice ta ns.length tc) w2.heap.size (scn n a) res) W' ∧ BkX W') := by
   intro s vs W hs hb hp
   obtain ⟨fn, tm, asg, bd, hy, hR⟩ := hY s vs W hs hb hp
   exact ⟨fn, tm, asg, bd, hy, hR.mono (fun e W' h => by rcases h with h | h; exact .inl ⟨h.1, h.2.1, h.2.2.1⟩; exact .inr h)⟩
  rcases HF.out with ⟨ho, hn0, hc0⟩ | ⟨blk, o, ho⟩
  · have ha : a = [] := List.eq_nil_of_length_eq_zero (by rw [HL.out]; exact hn0)
    have hr := frames1_brnil 5 (by omega) (w5.heap.size + 1) (w2.heap.size + 2) (fun s W => ∃ v ns' zx last, RpI w (.slice ta ns.length tc) w2.heap.size ao n cap (scn n a) start res s.length v ns' zx last W) Bk (RpX w (.slice ta ns.length tc) w2.heap.size (scn n a) res) BkX (fun s X Y hb ⟨v, ns', zx, last, h⟩ => ⟨v, ns', zx, last, h.later hb⟩) (fun X Y hb h => hBk X Y (below_keeps hb) h) (fun s W ⟨v, ns', zx, last, h⟩ => by have := h.area.cell; rw [ho, hn0, hc0] at this; exact this) W1 hs0 hb0
    refine hr.mono ?_
    rintro e W' ⟨h1, (⟨s, h2, h3⟩ | h3)⟩
    · exact ⟨h1, .inl ⟨s, by rw [h2, hn0, ha], h3⟩⟩
    · exact ⟨h1, .inr h3⟩
  · exact frames1_br 5 (by omega) (w5.heap.size + 1) (w2.heap.size + 2) blk o n cap a HL.out HBY.out hn (fun s W => ∃ v ns' zx last, RpI w (.slice ta ns.length tc) w2.heap.size ao n cap (scn n a) start res s.length v ns' zx last W) Bk (RpX w (.slice ta ns.length tc) w2.heap.size (scn n a) res) BkX (fun s X Y hb ⟨v, ns', zx, last, h⟩ => ⟨v, ns', zx, last, h.later hb⟩) (fun X Y hb h => hBk X Y (below_keeps hb) h) (fun s W ⟨v, ns', zx, last, h⟩ => by rw [← ho]; exact ⟨h.area.cell, HR.out.below h.head.1⟩) hY' W1 hs0 hb0
 case done =>
  rintro D s W hD hfin ⟨v, ns', zx, last, hS⟩ hK
  obtain ⟨hH, hX, hO, hlow, hsz⟩ := (⟨hS.head, hS.out, hS.own, hS.low, hS.size⟩ : _ ∧ _ ∧ _ ∧ _ ∧ _)
  have hres : res = (ns', zx, s.length) := by
   have := hS.goes
   rw [hfin, List.drop_length, List.map_nil, rpl] at this
   rw [← this, hfin]
  clear hS hfin
  generalize s.length = k at *
  obtain ⟨va, vc, rfl⟩ := OwnN.slice9 hO
  have HO : Hid (OwnN 85 W (w.heap.size + 2) (.slice va ns'.length vc) ns') := hO
  have HH : Hid (RpS w (.slice ta ns.length tc) W) := hH
  have HRES9 : Hid (res = (ns', zx, k)) := hres
  have HKD : Hid (W.heap[D]? = some (.deferred (some []))) := hK
  have hB : Below w.heap.size w W := hH.1
  obtain ⟨zo, ⟨e0, e1, e2, e3⟩, -⟩ := hX
  obtain ⟨zr, ⟨d0, d1, d2, d3⟩, f0, f1, f2, f3⟩ := hH.2.2.2
  clear hO hH hres hK
  obtain ⟨ps, hps⟩ : ∃ ps, ps = pos (scn n a) k := ⟨_, rfl⟩
  rw [← hps] at e3
  have HPS : Hid (ps = pos (scn n a) k) := hps
  clear hps
  gi_wp2
  have hK2 : ((((W.setCell ⟨w.heap.size + 1, 0, none⟩ (.slice va ns'.length vc)).setCell ⟨w.heap.size + 1, 1, none⟩ (.int .i64 zx)).setCell ⟨w.heap.size + 1, 2, none⟩ (.int .i64 (k : Int))).setCell ⟨w.heap.size + 1, 3, none⟩ (.int .i64 (ps : Int))).heap[D]? = some (.deferred (some [])) := (KeepsOthers.setCell _ _ _).same D _ ((KeepsOthers.setCell _ _ _).same D _ ((KeepsOthers.setCell _ _ _).same D _ ((KeepsOthers.setCell _ _ _).same D _ HKD.out rfl) rfl) rfl) rfl
  refine ⟨by simp, .inl ⟨_, _, rfl, run_takeDeferred hK2, ?_⟩⟩
  have XB : B4F ((((W.setCell ⟨w.heap.size + 1, 0, none⟩ (.slice va ns'.length vc)).setCell ⟨w.heap.size + 1, 1, none⟩ (.int .i64 zx)).setCell ⟨w.heap.size + 1, 2, none⟩ (.int .i64 (k : Int))).setCell ⟨w.heap.size + 1, 3, none⟩ (.int .i64 (ps : Int))) (w.heap.size + 1) (.slice va ns'.length vc) (.int .i64 zx) (.int .i64 (k : Int)) (.int .i64 (ps : Int)) := (((HH.out.2.2.2.set0 _).set1 _).set2 _).set3 _
  have OX : OwnN 85 ((((W.setCell ⟨w.heap.size + 1, 0, none⟩ (.slice va ns'.length vc)).setCell ⟨w.heap.size + 1, 1, none⟩ (.int .i64 zx)).setCell ⟨w.heap.size + 1, 2, none⟩ (.int .i64 (k : Int))).setCell ⟨w.heap.size + 1, 3, none⟩ (.int .i64 (ps : Int))) (w.heap.size + 2) (.slice va ns'.length vc) ns' := (((HO.out.setBelow (show w.heap.size + 1 < w.heap.size + 2 by omega) _).setBelow (show w.heap.size + 1 < w.heap.size + 2 by omega) _).setBelow (show w.heap.size + 1 < w.heap.size + 2 by omega) _).setBelow (show w.heap.size + 1 < w.heap.size + 2 by omega) _
  have BX : Below w.heap.size w ((((W.setCell ⟨w.heap.size + 1, 0, none⟩ (.slice va ns'.length vc)).setCell ⟨w.heap.size + 1, 1, none⟩ (.int .i64 zx)).setCell ⟨w.heap.size + 1, 2, none⟩ (.int .i64 (k : Int))).setCell ⟨w.heap.size + 1, 3, none⟩ (.int .i64 (ps : Int))) := (((hB.setCell (by simp) _).setCell (by simp) _).setCell (by simp) _).setCell (by simp) _
  have SX : ((((W.setCell ⟨w.heap.size + 1, 0, none⟩ (.slice va ns'.length vc)).setCell ⟨w.heap.size + 1, 1, none⟩ (.int .i64 zx)).setCell ⟨w.heap.size + 1, 2, none⟩ (.int .i64 (k : Int))).setCell ⟨w.heap.size + 1, 3, none⟩ (.int .i64 (ps : Int))).heap.size = W.heap.size := by simp
  generalize ((((W.setCell ⟨w.heap.size + 1, 0, none⟩ (.slice va ns'.length vc)).setCell ⟨w.heap.size + 1, 1, none⟩ (.int .i64 zx)).setCell ⟨w.heap.size + 1, 2, none⟩ (.int .i64 (k : Int))).setCell ⟨w.heap.size + 1, 3, none⟩ (.int .i64 (ps : Int))) = X at *
  have GX := grownBy_putObj' X D (.deferred none)
  have hDw : w.heap.size + 1 < D := by omega
  have YB := XB.other GX (by simp; omega)
  have OF : OwnN 85 (X.putObj D (.deferred none)) (w.heap.size + 2) (.slice va ns'.length vc) ns' := OX.notCells GX (fun r e => by injection e with e; subst e; exact ⟨_, hK2, rfl⟩)
  have BF : Below w.heap.size w (X.putObj D (.deferred none)) := BX.grown GX (by omega) (fun q e => by injection e with e; omega)
  generalize X.putObj D (.deferred none) = Z at *
  obtain ⟨-, ⟨y0, y1, y2, y3⟩, -⟩ := YB
  refine ⟨.agg #[.slice va ns'.length vc, .int .i64 zx, .int .i64 (k : Int), .int .i64 (ps : Int)], ?_, ?_⟩
  · simp [results, Tryz.results7, go_sem, y0, y1, y2, y3]
  · rw [HRES9.out, HPS.out]
    exact ⟨_, rfl, OF.mono (by omega), BF⟩
 case stop =>
  rintro D W hD ⟨v, ns', zx, k, hH, hX, hO, hres, hlow, hsz⟩ hK
  obtain ⟨va, vc, rfl⟩ := OwnN.slice9 hO
  have HO : Hid (OwnN 85 W (w.heap.size + 2) (.slice va ns'.length vc) ns') := hO
  have HH : Hid (RpS w (.slice ta ns.length tc) W) := hH
  have HRES9 : Hid (res = (ns', zx, k)) := hres
  have HKD : Hid (W.heap[D]? = some (.deferred (some []))) := hK
  have hB : Below w.heap.size w W := hH.1
  obtain ⟨zo, ⟨e0, e1, e2, e3⟩, -⟩ := hX
  obtain ⟨zr, ⟨d0, d1, d2, d3⟩, f0, f1, f2, f3⟩ := hH.2.2.2
  clear hO hH hres hK
  obtain ⟨ps, hps⟩ : ∃ ps, ps = pos (scn n a) k := ⟨_, rfl⟩
  rw [← hps] at e3
  have HPS : Hid (ps = pos (scn n a) k) := hps
  clear hps
  gi_wp2
  have hK2 : ((((W.setCell ⟨w.heap.size + 1, 0, none⟩ (.slice va ns'.length vc)).setCell ⟨w.heap.size + 1, 1, none⟩ (.int .i64 zx)).setCell ⟨w.heap.size + 1, 2, none⟩ (.int .i64 (k : Int))).setCell ⟨w.heap.size + 1, 3, none⟩ (.int .i64 (ps : Int))).heap[D]? = some (.deferred (some [])) := (KeepsOthers.setCell _ _ _).same D _ ((KeepsOthers.setCell _ _ _).same D _ ((KeepsOthers.setCell _ _ _).same D _ ((KeepsOthers.setCell _ _ _).same D _ HKD.out rfl) rfl) rfl) rfl
  refine ⟨by simp, .inl ⟨_, _, rfl, run_takeDeferred hK2, ?_⟩⟩
  have XB : B4F ((((W.setCell ⟨w.heap.size + 1, 0, none⟩ (.slice va ns'.length vc)).setCell ⟨w.heap.size + 1, 1, none⟩ (.int .i64 zx)).setCell ⟨w.heap.size + 1, 2, none⟩ (.int .i64 (k : Int))).setCell ⟨w.heap.size + 1, 3, none⟩ (.int .i64 (ps : Int))) (w.heap.size + 1) (.slice va ns'.length vc) (.int .i64 zx) (.int .i64 (k : Int)) (.int .i64 (ps : Int)) := (((HH.out.2.2.2.set0 _).set1 _).set2 _).set3 _
  have OX : OwnN 85 ((((W.setCell ⟨w.heap.size + 1, 0, none⟩ (.slice va ns'.length vc)).setCell ⟨w.heap.size + 1, 1, none⟩ (.int .i64 zx)).setCell ⟨w.heap.size + 1, 2, none⟩ (.int .i64 (k : Int))).setCell ⟨w.heap.size + 1, 3, none⟩ (.int .i64 (ps : Int))) (w.heap.size + 2) (.slice va ns'.length vc) ns' := (((HO.out.setBelow (show w.heap.size + 1 < w.heap.size + 2 by omega) _).setBelow (show w.heap.size + 1 < w.heap.size + 2 by omega) _).setBelow (show w.heap.size + 1 < w.heap.size + 2 by omega) _).setBelow (show w.heap.size + 1 < w.heap.size + 2 by omega) _
  have BX : Below w.heap.size w ((((W.setCell ⟨w.heap.size + 1, 0, none⟩ (.slice va ns'.length vc)).setCell ⟨w.heap.size + 1, 1, none⟩ (.int .i64 zx)).setCell ⟨w.heap.size + 1, 2, none⟩ (.int .i64 (k : Int))).setCell ⟨w.heap.size + 1, 3, none⟩ (.int .i64 (ps : Int))) := (((hB.setCell (by simp) _).setCell (by simp) _).setCell (by simp) _).setCell (by simp) _
  have SX : ((((W.setCell ⟨w.heap.size + 1, 0, none⟩ (.slice va ns'.length vc)).setCell ⟨w.heap.size + 1, 1, none⟩ (.int .i64 zx)).setCell ⟨w.heap.size + 1, 2, none⟩ (.int .i64 (k : Int))).setCell ⟨w.heap.size + 1, 3, none⟩ (.int .i64 (ps : Int))).heap.size = W.heap.size := by simp
  generalize ((((W.setCell ⟨w.heap.size + 1, 0, none⟩ (.slice va ns'.length vc)).setCell ⟨w.heap.size + 1, 1, none⟩ (.int .i64 zx)).setCell ⟨w.heap.size + 1, 2, none⟩ (.int .i64 (k : Int))).setCell ⟨w.heap.size + 1, 3, none⟩ (.int .i64 (ps : Int))) = X at *
  have GX := grownBy_putObj' X D (.deferred none)
  have hDw : w.heap.size + 1 < D := by omega
  have YB := XB.other GX (by simp; omega)
  have OF : OwnN 85 (X.putObj D (.deferred none)) (w.heap.size + 2) (.slice va ns'.length vc) ns' := OX.notCells GX (fun r e => by injection e with e; subst e; exact ⟨_, hK2, rfl⟩)
  have BF : Below w.heap.size w (X.putObj D (.deferred none)) := BX.grown GX (by omega) (fun q e => by injection e with e; omega)
  generalize X.putObj D (.deferred none) = Z at *
  obtain ⟨-, ⟨y0, y1, y2, y3⟩, -⟩ := YB
  refine ⟨.agg #[.slice va ns'.length vc, .int .i64 zx, .int .i64 (k : Int), .int .i64 (ps : Int)], ?_, ?_⟩
  · simp [results, Tryz.results7, go_sem, y0, y1, y2, y3]
  · rw [HRES9.out, HPS.out]
    exact ⟨_, rfl, OF.mono (by omega), BF⟩
def rpOk (ns : List Nd) (start : Int) (n : Nat) : Bool := okTree ns && okS start && decide (n ≤ 8192)
def rpR (ns : List Nd) (start : Int) (a : List Int) : List Nd × Int × Nat := if rpOk ns start a.length then rpl start 0 ((scn a.length a).map (·.1)) ns start 0 else ([], 0, 0)
def rpE (ns : List Nd) (start : Int) (a : List Int) : Int := if rpOk ns start a.length then ((pos (scn a.length a) (rpR ns start a).2.2 : Nat) : Int) else 0
def RqPost (w : World) (ns : List Nd) (start : Int) (a : List Int) (e : Ending) (w' : World) : Prop :=
 ∃ va vc, e = .returned (.agg #[.slice va (rpR ns start a).1.length vc, .int .i64 (rpR ns start a).2.1, .int .i64 (((rpR ns start a).2.2 : Nat) : Int), .int .i64 (rpE ns start a)]) ∧ OwnN 85 w' w.heap.size (.slice va (rpR ns start a).1.length vc) (rpR ns start a).1 ∧ Below w.heap.size w w'
theorem rq_yes {w w' : World} {ns : List Nd} {start : Int} {a : List Int} {e : Ending} (hok : rpOk ns start a.length = true) (h : RpPost w (scn a.length a) (rpl start 0 ((scn a.length a).map (·.1)) ns start 0) e w') : RqPost w ns start a e w' := by
 have e1 : rpR ns start a = rpl start 0 ((scn a.length a).map (·.1)) ns start 0 := if_pos hok
 have e2 : rpE ns start a = ((pos (scn a.length a) (rpR ns start a).2.2 : Nat) : Int) := if_pos hok
 obtain ⟨v, rfl, o, b⟩ := h
 rw [← e1] at o ⊢
 obtain ⟨va, vc, rfl⟩ := OwnN.slice9 o
 exact ⟨va, vc, by rw [e2], o, b⟩
theorem rq_no {w w' : World} {ns : List Nd} {start : Int} {a : List Int} {e : Ending} (hok : rpOk ns start a.length = false) (h : e = .returned (.agg #[.slice none 0 0, .int .i64 0, .int .i64 0, .int .i64 0]) ∧ Below w.heap.size w w') : RqPost w ns start a e w' := by
 have e1 : rpR ns start a = ([], 0, 0) := if_neg (by rw [hok]; simp)
 have e2 : rpE ns start a = 0 := if_neg (by rw [hok]; simp)
 unfold RqPost
 rw [e1, e2]
 exact ⟨none, 0, h.1, World.ownsRow_nil _ _ _ _, h.2⟩
theorem rpR_sz {ns : List Nd} {start : Int} {a : List Int} : (rpR ns start a).1.length ≤ 2000 ∧ Good (rpR ns start a).1 := by
 have key : ∀ (R : List (List Int)) (k : Nat) (ns : List Nd) (zx last : Int), ns.length ≤ 1000 → Good ns → (rpl start k R ns zx last).1.length ≤ 2000 ∧ Good (rpl start k R ns zx last).1 := by
  intro R
  induction R with
  | nil => intro k ns zx last h1 h2; exact ⟨by simp only [rpl]; omega, by simp only [rpl]; exact h2⟩
  | cons p R ih =>
   intro k ns zx last h1 h2
   rw [rpl]
   split
   · exact ⟨by simp only; omega, h2⟩
   · rename_i z es hd
     generalize (if k = 0 then decide (start + 1 < z) else decide (z ≠ last + 1)) = c
     split
     · exact ⟨by simp only; omega, h2⟩
     · split
       · split
         · exact ⟨by simp only; omega, h2⟩
         · exact ih _ _ _ _ (by omega) (good_resA h2 (decX_ok hd))
       · exact ih _ _ _ _ h1 h2
 unfold rpR
 split
 · rename_i h
   unfold rpOk at h
   simp only [Bool.and_eq_true] at h
   refine key _ _ _ _ _ ?_ (good_tree h.1.1)
   have h3 := h.1.1
   unfold okTree at h3
   simp only [Bool.and_eq_true, decide_eq_true_eq] at h3
   exact h3.1
 · exact ⟨by simp, fun n hn => by simp at hn⟩
theorem specReplay_no (w : World) (ta : Option Addr) (tc : Nat) (ns : List Nd) (start : Int) (ao : Option Addr) (n cap : Nat) (ht : RdN w (.slice ta ns.length tc) ns) (hn : ns.length ≤ 1048576) (hsz : ∀ i, (nAt ns i).path.size ≤ 1048576 ∧ (nAt ns i).data.size ≤ 1048576) (hm : n ≤ 1048576) (hno : rpOk ns start n = false) :
    Calls Tryz.prog 6 #[.agg #[.slice ta ns.length tc], .int .i64 start, .slice ao n cap] w fun e w' => e = .returned (.agg #[.slice none 0 0, .int .i64 0, .int .i64 0, .int .i64 0]) ∧ Below w.heap.size w w' := by
 have HN : Hid (RdN w (.slice ta ns.length tc) ns) := ht
 have HSZ : Hid (∀ i, (nAt ns i).path.size ≤ 1048576 ∧ (nAt ns i).data.size ≤ 1048576) := hsz
 have HNO : Hid (rpOk ns start n = false) := hno
 clear ht hsz hno
 go_enter Tryz.func6, Tryz.ntmps6
 go_wp2_with fail
 have F0 : Hid (RpS w (.slice ta ns.length tc) ((w.alloc (.cells #[.slice ta ns.length tc] 25)).alloc (.cells #[.slice none 0 0, .int .i64 0, .int .i64 0, .int .i64 0] 29))) := RpS.new _ _ _ _
 generalize (w.alloc (.cells #[.slice ta ns.length tc] 25)).alloc (.cells #[.slice none 0 0, .int .i64 0, .int .i64 0, .int .i64 0] 29) = w0 at *
 refine (specTree_any _ _ ns (HN.out.below F0.out.1) hn HSZ.out).mono ?_
 rintro e w1 ⟨rfl, b1⟩
 have F1 := hd9 (F0.out.below b1)
 clear b1 F0
 obtain ⟨zr, ⟨d0, d1, d2, d3⟩, f0, f1, f2, f3⟩ := F1.out.2.2.2
 cases hT : okTree ns with
 | false =>
  clear hT
  go_wp2
  refine bodyPost_ret (v := .agg #[.slice none 0 0, .int .i64 0, .int .i64 0, .int .i64 0]) (by simp [results, Tryz.results6, go_sem, d0, d1, d2, d3]) rfl ⟨rfl, ?_⟩
  repeat (first | exact F1.out.1 | refine Below.setCell ?_ (by simp) _)
 | true =>
  have HT : Hid (okTree ns = true) := hT
  clear hT
  go_wp2_with fail
  refine (stat_any _ start).mono ?_
  rintro e wq ⟨rfl, hwq⟩
  rw [hwq]
  clear hwq
  obtain ⟨b, hb⟩ : ∃ b, b = okS start := ⟨_, rfl⟩
  rw [← hb]
  have HB : Hid (okS start = b) := hb.symm
  clear hb
  cases b with
  | false =>
   go_wp2
   refine bodyPost_ret (v := .agg #[.slice none 0 0, .int .i64 0, .int .i64 0, .int .i64 0]) (by simp [results, Tryz.results6, go_sem, d0, d1, d2, d3]) rfl ⟨rfl, ?_⟩
   repeat (first | exact F1.out.1 | refine Below.setCell ?_ (by simp) _)
  | true =>
   have hbig : ¬ n ≤ 8192 := fun h => by
    have h2 := HNO.out
    unfold rpOk at h2
    rw [HT.out, HB.out, decide_eq_true h] at h2
    cases h2
   have hbI : (8192 : Int) < (n : Int) := by omega
   have hbD : decide ((8192 : Int) < (n : Int)) = true := by simpa using hbI
   clear hbig
   go_wp2
   refine bodyPost_ret (v := .agg #[.slice none 0 0, .int .i64 0, .int .i64 0, .int .i64 0]) (by simp [results, Tryz.results6, go_sem, d0, d1, d2, d3]) rfl ⟨rfl, ?_⟩
   repeat (first | exact F1.out.1 | refine Below.setCell ?_ (by simp) _)
theorem implReplay_no (w : World) (ta : Option Addr) (tc : Nat) (ns : List Nd) (start : Int) (ao : Option Addr) (n cap : Nat) (ht : RdN w (.slice ta ns.length tc) ns) (_hn : ns.length ≤ 1048576) (hsz : ∀ i, (nAt ns i).path.size ≤ 1048576 ∧ (nAt ns i).data.size ≤ 1048576) (hm : n ≤ 1048576) (hno : rpOk ns start n = false) :
    Calls Tryz.prog 7 #[.agg #[.slice ta ns.length tc], .int .i64 start, .slice ao n cap] w fun e w' => e = .returned (.agg #[.slice none 0 0, .int .i64 0, .int .i64 0, .int .i64 0]) ∧ Below w.heap.size w w' := by
 have HN : Hid (RdN w (.slice ta ns.length tc) ns) := ht
 have HSZ : Hid (∀ i, (nAt ns i).path.size ≤ 1048576 ∧ (nAt ns i).data.size ≤ 1048576) := hsz
 have HNO : Hid (rpOk ns start n = false) := hno
 clear ht hsz hno
 go_enter Tryz.func7, Tryz.ntmps7
 go_wp2_with fail
 have F0 : Hid (RpS w (.slice ta ns.length tc) ((w.alloc (.cells #[.slice ta ns.length tc] 25)).alloc (.cells #[.slice none 0 0, .int .i64 0, .int .i64 0, .int .i64 0] 29))) := RpS.new _ _ _ _
 generalize (w.alloc (.cells #[.slice ta ns.length tc] 25)).alloc (.cells #[.slice none 0 0, .int .i64 0, .int .i64 0, .int .i64 0] 29) = w0 at *
 refine (implTree_any _ _ ns (HN.out.below F0.out.1) HSZ.out).mono ?_
 rintro e w1 ⟨rfl, b1⟩
 have F1 := hd9 (F0.out.below b1)
 clear b1 F0
 obtain ⟨zr, ⟨d0, d1, d2, d3⟩, f0, f1, f2, f3⟩ := F1.out.2.2.2
 cases hT : okTree ns with
 | false =>
  clear hT
  go_wp2
  refine bodyPost_ret (v := .agg #[.slice none 0 0, .int .i64 0, .int .i64 0, .int .i64 0]) (by simp [results, Tryz.results7, go_sem, d0, d1, d2, d3]) rfl ⟨rfl, ?_⟩
  repeat (first | exact F1.out.1 | refine Below.setCell ?_ (by simp) _)
 | true =>
  have HT : Hid (okTree ns = true) := hT
  clear hT
  go_wp2_with fail
  refine (implStat_any _ start).mono ?_
  rintro e wq ⟨rfl, hwq⟩
  rw [hwq]
  clear hwq
  obtain ⟨b, hb⟩ : ∃ b, b = okS start := ⟨_, rfl⟩
  rw [show decide (0 ≤ start ∧ start ≤ 2147483647) = b by rw [hb]; unfold okS; rw [Bool.decide_and]]
  have HB : Hid (okS start = b) := hb.symm
  clear hb
  cases b with
  | false =>
   go_wp2
   refine bodyPost_ret (v := .agg #[.slice none 0 0, .int .i64 0, .int .i64 0, .int .i64 0]) (by simp [results, Tryz.results7, go_sem, d0, d1, d2, d3]) rfl ⟨rfl, ?_⟩
   repeat (first | exact F1.out.1 | refine Below.setCell ?_ (by simp) _)
  | true =>
   have hbig : ¬ n ≤ 8192 := fun h => by
    have h2 := HNO.out
    unfold rpOk at h2
    rw [HT.out, HB.out, decide_eq_true h] at h2
    cases h2
   have hbI : (8192 : Int) < (n : Int) := by omega
   have hbD : decide ((8192 : Int) < (n : Int)) = true := by simpa using hbI
   clear hbig
   go_wp2
   refine bodyPost_ret (v := .agg #[.slice none 0 0, .int .i64 0, .int .i64 0, .int .i64 0]) (by simp [results, Tryz.results7, go_sem, d0, d1, d2, d3]) rfl ⟨rfl, ?_⟩
   repeat (first | exact F1.out.1 | refine Below.setCell ?_ (by simp) _)
theorem specReplay_any (w : World) (ta : Option Addr) (tc : Nat) (ns : List Nd) (start : Int) (ao : Option Addr) (cap : Nat) (a : List Int) (ht : RdN w (.slice ta ns.length tc) ns) (hn : ns.length ≤ 1048576) (hsz : ∀ i, (nAt ns i).path.size ≤ 1048576 ∧ (nAt ns i).data.size ≤ 1048576) (hr : Rd .u8 w (.slice ao a.length cap) a) (hby : Byt a) (hm : a.length ≤ 1048576) :
    Calls Tryz.prog 6 #[.agg #[.slice ta ns.length tc], .int .i64 start, .slice ao a.length cap] w (RqPost w ns start a) := by
 cases h : rpOk ns start a.length with
 | true =>
  have h2 := h
  unfold rpOk at h2
  simp only [Bool.and_eq_true, decide_eq_true_eq] at h2
  exact (specReplay_yes w ta tc ns start ao a.length cap a ht h2.1.1 h2.1.2 hr rfl hby h2.2).mono (fun e w' hp => rq_yes h hp)
 | false => exact (specReplay_no w ta tc ns start ao a.length cap ht hn hsz hm h).mono (fun e w' hp => rq_no h hp)
theorem implReplay_any (w : World) (ta : Option Addr) (tc : Nat) (ns : List Nd) (start : Int) (ao : Option Addr) (cap : Nat) (a : List Int) (ht : RdN w (.slice ta ns.length tc) ns) (hn : ns.length ≤ 1048576) (hsz : ∀ i, (nAt ns i).path.size ≤ 1048576 ∧ (nAt ns i).data.size ≤ 1048576) (hr : Rd .u8 w (.slice ao a.length cap) a) (hby : Byt a) (hm : a.length ≤ 1048576) (hform : (ao = none ∧ a.length = 0 ∧ cap = 0) ∨ ∃ blk o, ao = some ⟨blk, o, none⟩) :
    Calls Tryz.prog 7 #[.agg #[.slice ta ns.length tc], .int .i64 start, .slice ao a.length cap] w (RqPost w ns start a) := by
 cases h : rpOk ns start a.length with
 | true =>
  have h2 := h
  unfold rpOk at h2
  simp only [Bool.and_eq_true, decide_eq_true_eq] at h2
  exact (implReplay_yes w ta tc ns start ao a.length cap a ht h2.1.1 h2.1.2 hr rfl hby h2.2 hform).mono (fun e w' hp => rq_yes h hp)
 | false => exact (implReplay_no w ta tc ns start ao a.length cap ht hn hsz hm h).mono (fun e w' hp => rq_no h hp)
theorem getD_take2 {a : List Int} {m : Nat} (h : 2 ≤ m) (j : Nat) (hj : j < 2) : (a.take m).getD j 0 = a.getD j 0 := by
 simp [List.getD, show j < m by omega]
theorem frm_take {a : List Int} {m : Nat} (h : frmB a = true) (hm : 2 + frm_m a ≤ m) : frmB (a.take m) = true ∧ frm_m (a.take m) = frm_m a ∧ frm_p (a.take m) = frm_p a := by
 have e0 := getD_take2 (a := a) (m := m) (by omega) 0 (by omega)
 have e1 := getD_take2 (a := a) (m := m) (by omega) 1 (by omega)
 have em : frm_m (a.take m) = frm_m a := by unfold frm_m; rw [e0, e1]
 have ep : frm_p (a.take m) = frm_p a := by
  unfold frm_p
  rw [em, List.drop_take, List.take_take, Nat.min_eq_left (by omega)]
 obtain ⟨h1, h2, h3, h4, h5, h6⟩ := (frmB_iff a).1 h
 exact ⟨(frmB_iff _).2 ⟨by rw [List.length_take]; omega, by rw [e0]; exact h2, by rw [e1]; exact h3, by rw [em, List.length_take]; omega, by rw [ep]; exact h5, by rw [ep]; exact h6⟩, em, ep⟩
theorem scn_take : ∀ (f : Nat) (a : List Int) (k : Nat), k ≤ (scn f a).length → ∀ f', pos (scn f a) k ≤ f' → scn f' (a.take (pos (scn f a) k)) = (scn f a).take k
 | f, a, 0, _, f', _ => by
  rw [pos_zero, List.take_zero, List.take_zero]
  exact scn_no (by rfl) f'
 | 0, a, k + 1, h, _, _ => by simp [scn] at h
 | f + 1, a, k + 1, h, f', hf => by
  cases e : frmB a with
  | false => rw [scn_no e] at h; simp at h
  | true =>
   rw [scn_yes e] at h hf ⊢
   rw [pos_cons] at hf ⊢
   have h' : k ≤ (scn f (a.drop (2 + frm_m a))).length := by simpa using h
   have hf2 : 2 + frm_m a + pos (scn f (a.drop (2 + frm_m a))) k ≤ f' := hf
   obtain ⟨t1, t2, t3⟩ := frm_take (m := 2 + frm_m a + pos (scn f (a.drop (2 + frm_m a))) k) e (by omega)
   obtain ⟨g, rfl⟩ : ∃ g, f' = g + 1 := ⟨f' - 1, by omega⟩
   show scn (g + 1) (a.take (2 + frm_m a + pos _ k)) = _
   rw [scn_yes t1, t2, t3, List.drop_take, Nat.add_sub_cancel_left, scn_take f (a.drop (2 + frm_m a)) k h' g (by omega)]
   rfl
theorem rpl_start (s1 s2 : Int) : ∀ (R : List (List Int)) (j : Nat) (ns : List Nd) (zx last : Int), rpl s1 (j + 1) R ns zx last = rpl s2 (j + 1) R ns zx last
 | [], _, _, _, _ => rfl
 | p :: R, j, ns, zx, last => by
  cases hd : decX p with
  | none => rw [rpl_none hd, rpl_none hd]
  | some q =>
   obtain ⟨z, es⟩ := q
   have c1 : ∀ s : Int, (if j + 1 = 0 then decide (s + 1 < z) else decide (z ≠ last + 1)) = decide (z ≠ last + 1) := fun s => if_neg (by omega)
   by_cases hz : z ≠ last + 1
   · rw [rpl_bad hd (by rw [c1]; exact decide_eq_true hz), rpl_bad hd (by rw [c1]; exact decide_eq_true hz)]
   · have cc : ∀ s : Int, (if j + 1 = 0 then decide (s + 1 < z) else decide (z ≠ last + 1)) = false := fun s => by rw [c1]; exact decide_eq_false hz
     by_cases hx : zx < z
     · by_cases hl : 1000 < (resA ns z es).length
       · rw [rpl_big hd (cc _) hx hl, rpl_big hd (cc _) hx hl]
       · rw [rpl_app hd (cc _) hx hl, rpl_app hd (cc _) hx hl]
         exact rpl_start s1 s2 R (j + 1) _ _ _
     · rw [rpl_pass hd (cc _) hx, rpl_pass hd (cc _) hx]
       exact rpl_start s1 s2 R (j + 1) _ _ _
theorem rpl_part (start : Int) : ∀ (k : Nat) (R : List (List Int)) (k0 : Nat) (ns : List Nd) (zx last : Int), k0 + k ≤ (rpl start k0 R ns zx last).2.2 →
    ∃ ns' zx' last', rpl start k0 (R.take k) ns zx last = (ns', zx', k0 + k) ∧ rpl start k0 R ns zx last = rpl start (k0 + k) (R.drop k) ns' zx' last' ∧ zx ≤ zx' ∧
     ∀ (start2 : Int) (ns2 : List Nd) (zx2 : Int), zx' ≤ start2 → zx' ≤ zx2 → rpl start2 k0 R ns2 zx2 last = rpl start2 (k0 + k) (R.drop k) ns2 zx2 last'
 | 0, R, k0, ns, zx, last, _ => ⟨ns, zx, last, rfl, rfl, Int.le_refl _, fun _ _ _ _ _ => rfl⟩
 | k + 1, [], k0, ns, zx, last, h => by
  have h2 : k0 + (k + 1) ≤ k0 := h
  omega
 | k + 1, p :: R, k0, ns, zx, last, h => by
  have e : k0 + 1 + k = k0 + (k + 1) := by omega
  cases hd : decX p with
  | none =>
   rw [rpl_none hd] at h
   have h2 : k0 + (k + 1) ≤ k0 := h
   omega
  | some q =>
   obtain ⟨z, es⟩ := q
   cases hb : (if k0 = 0 then decide (start + 1 < z) else decide (z ≠ last + 1)) with
   | true =>
    rw [rpl_bad hd hb] at h
    have h2 : k0 + (k + 1) ≤ k0 := h
    omega
   | false =>
    have hpass : ∀ (start2 : Int) (ns2 : List Nd) (zx2 : Int), z ≤ start2 → z ≤ zx2 → rpl start2 k0 (p :: R) ns2 zx2 last = rpl start2 (k0 + 1) R ns2 zx2 z := by
     intro start2 ns2 zx2 h1 h2
     refine rpl_pass hd ?_ (by omega)
     by_cases h0 : k0 = 0
     · rw [if_pos h0]; exact decide_eq_false (by omega)
     · rw [if_neg h0] at hb ⊢; exact hb
    by_cases hx : zx < z
    · by_cases hl : 1000 < (resA ns z es).length
      · rw [rpl_big hd hb hx hl] at h
        have h2 : k0 + (k + 1) ≤ k0 := h
        omega
      · rw [rpl_app hd hb hx hl] at h
        obtain ⟨ns', zx', last', i1, i2, i3, i4⟩ := rpl_part start k R (k0 + 1) (resA ns z es) z z (by omega)
        rw [e] at i1 i2 i4
        refine ⟨ns', zx', last', ?_, ?_, by omega, ?_⟩
        · rw [List.take_succ_cons, rpl_app hd hb hx hl, i1]
        · rw [rpl_app hd hb hx hl, i2]; rfl
        · intro s2 n2 z2 h1 h2
          rw [hpass s2 n2 z2 (by omega) (by omega), i4 s2 n2 z2 h1 h2]; rfl
    · rw [rpl_pass hd hb hx] at h
      obtain ⟨ns', zx', last', i1, i2, i3, i4⟩ := rpl_part start k R (k0 + 1) ns zx z (by omega)
      rw [e] at i1 i2 i4
      refine ⟨ns', zx', last', ?_, ?_, by omega, ?_⟩
      · rw [List.take_succ_cons, rpl_pass hd hb hx, i1]
      · rw [rpl_pass hd hb hx, i2]; rfl
      · intro s2 n2 z2 h1 h2
        rw [hpass s2 n2 z2 (by omega) (by omega), i4 s2 n2 z2 h1 h2]; rfl
theorem asc_apL : ∀ (es : List Ef) (ns : List Nd), Asc ns → Asc (apL ns es)
 | [], _, h => h
 | e :: es, ns, h => by
  show Asc (apL (apQ ns e) es)
  refine asc_apL es _ ?_
  unfold apQ
  split
  · exact asc_wo h _
  · exact asc_wi h _
theorem snd_resA {ns : List Nd} {z : Int} {es : List Ef} (h : Snd ns) (hx : okTxn z es = true) (hl : ¬ 1000 < (resA ns z es).length) : Snd (resA ns z es) := by
 refine ⟨?_, good_resA h.2.1 hx, by omega⟩
 unfold resA
 split
 · exact asc_apL _ _ h.1
 · exact List.Pairwise.nil
theorem rpl_snd (start : Int) : ∀ (R : List (List Int)) (k : Nat) (ns : List Nd) (zx last : Int), Snd ns → okS zx = true → Snd (rpl start k R ns zx last).1 ∧ okS (rpl start k R ns zx last).2.1 = true
 | [], _, _, _, _, h1, h2 => ⟨h1, h2⟩
 | p :: R, k, ns, zx, last, h1, h2 => by
  cases hd : decX p with
  | none => rw [rpl_none hd]; exact ⟨h1, h2⟩
  | some q =>
   obtain ⟨z, es⟩ := q
   cases hb : (if k = 0 then decide (start + 1 < z) else decide (z ≠ last + 1)) with
   | true => rw [rpl_bad hd hb]; exact ⟨h1, h2⟩
   | false =>
    by_cases hx : zx < z
    · by_cases hl : 1000 < (resA ns z es).length
      · rw [rpl_big hd hb hx hl]; exact ⟨h1, h2⟩
      · rw [rpl_app hd hb hx hl]
        refine rpl_snd start R (k + 1) _ z z (snd_resA h1 (decX_ok hd) hl) ?_
        have := okTxn_z (decX_ok hd)
        unfold okS
        simp; omega
    · rw [rpl_pass hd hb hx]
      exact rpl_snd start R (k + 1) ns zx z h1 h2
theorem replay_twice {ns : List Nd} {start : Int} {a : List Int} {k : Nat} (h : Snd ns) (hs : okS start = true) (hk : k ≤ (rpR ns start a).2.2) :
    (rpR ns start (a.take (pos (scn a.length a) k))).2.2 = k ∧
    rpR (rpR ns start (a.take (pos (scn a.length a) k))).1 (rpR ns start (a.take (pos (scn a.length a) k))).2.1 a = rpR ns start a ∧
    rpE (rpR ns start (a.take (pos (scn a.length a) k))).1 (rpR ns start (a.take (pos (scn a.length a) k))).2.1 a = rpE ns start a := by
 have ok0 : ∀ {m : Nat} {n0 : List Nd} {s0 : Int}, Snd n0 → okS s0 = true → m ≤ 8192 → rpOk n0 s0 m = true := by
  intro m n0 s0 h1 h2 h3
  unfold rpOk
  rw [okTree_snd.2 h1, h2, decide_eq_true h3]; rfl
 by_cases hn : a.length ≤ 8192
 · have e1 : rpR ns start a = rpl start 0 ((scn a.length a).map (·.1)) ns start 0 := if_pos (ok0 h hs hn)
   rw [e1] at hk
   have hkl : k ≤ (scn a.length a).length := by
    have := rpl_le start ((scn a.length a).map (·.1)) 0 ns start 0
    simp at this; omega
   have hpl : pos (scn a.length a) k ≤ a.length := (scn_all a.length a (Nat.le_refl _)).2.2 k hkl
   have hlen : (a.take (pos (scn a.length a) k)).length = pos (scn a.length a) k := by rw [List.length_take]; omega
   have e2 : rpR ns start (a.take (pos (scn a.length a) k)) = rpl start 0 (((scn a.length a).map (·.1)).take k) ns start 0 := by
    unfold rpR
    rw [if_pos (ok0 h hs (by rw [hlen]; omega)), hlen, scn_take a.length a k hkl _ (Nat.le_refl _), List.map_take]
   obtain ⟨ns', zx', last', i1, i2, i3, i4⟩ := rpl_part start k ((scn a.length a).map (·.1)) 0 ns start 0 (by omega)
   have hsn := rpl_snd start (((scn a.length a).map (·.1)).take k) 0 ns start 0 h hs
   rw [i1] at e2 hsn
   have e3 : rpR ns' zx' a = rpR ns start a := by
    rw [e1]
    unfold rpR
    rw [if_pos (ok0 hsn.1 hsn.2 hn)]
    cases k with
    | zero =>
     have i5 : rpl start 0 (((scn a.length a).map (·.1)).take 0) ns start 0 = (ns, start, 0) := rfl
     rw [i5] at i1
     simp only [Prod.mk.injEq] at i1
     rw [← i1.1, ← i1.2.1]
    | succ k =>
     rw [i4 zx' ns' zx' (Int.le_refl _) (Int.le_refl _), i2, Nat.zero_add]
     exact rpl_start _ _ _ _ _ _ _
   rw [e2]
   refine ⟨by simp, e3, ?_⟩
   unfold rpE
   rw [if_pos (ok0 hsn.1 hsn.2 hn), if_pos (ok0 h hs hn)]
   show ((pos _ (rpR ns' zx' a).2.2 : Nat) : Int) = _
   rw [e3]
 · have hno : ∀ (n0 : List Nd) (s0 : Int), rpOk n0 s0 a.length = false := by
    intro n0 s0
    unfold rpOk
    rw [decide_eq_false hn, Bool.and_false]
   have e1 : ∀ (n0 : List Nd) (s0 : Int), rpR n0 s0 a = ([], 0, 0) := fun n0 s0 => if_neg (by rw [hno]; simp)
   have e2 : ∀ (n0 : List Nd) (s0 : Int), rpE n0 s0 a = 0 := fun n0 s0 => if_neg (by rw [hno]; simp)
   rw [e1] at hk
   obtain rfl : k = 0 := by simpa using hk
   rw [pos_zero, List.take_zero, e1, e1, e2, e2]
   refine ⟨?_, rfl, rfl⟩
   unfold rpR
   rw [if_pos (ok0 h hs (by simp))]
   rfl
theorem sameTree_yes (w : World) (va vb : Value) (ns : List Nd) (ha : RdN w va ns) (hb : RdN w vb ns) (hn : ns.length ≤ 1048576) :
    Calls Tryz.prog 8 #[.agg #[va], .agg #[vb]] w fun e w' => e = .returned (.bool true) ∧ Below w.heap.size w w' := by
 obtain ⟨ao, ca, rfl, _, _⟩ := ha.len
 obtain ⟨bo, cb, rfl, _, _⟩ := hb.len
 have HA : Hid (RdN w (.slice ao ns.length ca) ns) := ha
 have HB : Hid (RdN w (.slice bo ns.length cb) ns) := hb
 have B0 : Hid (Below w.heap.size w ((w.alloc (.cells #[.slice ao ns.length ca] 25)).alloc (.cells #[.slice bo ns.length cb] 25))) := ((Below.refl _ _).alloc (Nat.le_refl _) _).alloc (by simp) _
 have c0 : Hid (((w.alloc (.cells #[.slice ao ns.length ca] 25)).alloc (.cells #[.slice bo ns.length cb] 25)).cell? ⟨w.heap.size, 0, none⟩ = some (.slice ao ns.length ca)) := by show _ = _; go_simp
 have c1 : Hid (((w.alloc (.cells #[.slice ao ns.length ca] 25)).alloc (.cells #[.slice bo ns.length cb] 25)).cell? ⟨w.heap.size + 1, 0, none⟩ = some (.slice bo ns.length cb)) := by show _ = _; go_simp
 have hs : Hid (((w.alloc (.cells #[.slice ao ns.length ca] 25)).alloc (.cells #[.slice bo ns.length cb] 25)).heap.size = w.heap.size + 2) := by show _ = _; simp
 clear ha hb
 have HAT : Hid (∀ W, Below w.heap.size w W → ∀ (ao : Option Addr) (c : Nat), RdN w (.slice ao ns.length c) ns → ∀ i, i < ns.length → ∃ b o, ao = some ⟨b, o, none⟩ ∧ CellsN W b (o + i * 7) (nAt ns i)) := by
  intro W hW ao c hr i hi
  obtain ⟨ao', c', e', -, -, h3⟩ := hr.below hW
  simp only [Value.slice.injEq] at e'
  obtain ⟨rfl, -, -⟩ := e'
  rcases h3 with h3 | ⟨b, o, rfl, -, hc⟩
  · rw [h3] at hi; simp at hi
  · exact ⟨b, o, rfl, hc i hi⟩
 have d0 := c0.out
 have d1 := c1.out
 go_enter Tryz.func8, Tryz.ntmps8
 go_wp2
 clear d0 d1
 generalize (w.alloc (.cells #[.slice ao ns.length ca] 25)).alloc (.cells #[.slice bo ns.length cb] 25) = w0 at *
 go_loopw [5] (fun i wr => ∃ j : Nat, j ≤ ns.length ∧ i = .int .i64 j ∧ Hid (Below w0.heap.size w0 wr)) (fun i _ => ns.length - (intOf i).toNat)
 case atStart => exact ⟨0, Nat.zero_le _, rfl, Below.refl _ _⟩
 case round =>
  obtain ⟨j, hj, rfl, BK⟩ := hrel
  have d0 := (BK.out.cell (p := ⟨w.heap.size, 0, none⟩) (by rw [hs.out]; show w.heap.size < _; omega)).trans c0.out
  have d1 := (BK.out.cell (p := ⟨w.heap.size + 1, 0, none⟩) (by rw [hs.out]; show w.heap.size + 1 < _; omega)).trans c1.out
  have bW : Below w.heap.size w wr := B0.out.trans (BK.out.mono (by rw [hs.out]; omega))
  by_cases hlt : j < ns.length
  · have hltI : (j : Int) < (ns.length : Int) := by omega
    obtain ⟨b, o, rfl, hc⟩ := HAT.out wr bW ao ca HA.out j hlt
    obtain ⟨b', o', rfl, hc'⟩ := HAT.out wr bW bo cb HB.out j hlt
    obtain ⟨a0, a1, a2, a3, a4, a5, a6⟩ := hc
    obtain ⟨e0, e1, e2, e3, e4, e5, e6⟩ := hc'
    generalize nAt ns j = m at *
    have BD : Hid (∀ q, Below w0.heap.size w0 (wr.drewN q)) := fun q => BK.out.trans ((below_drewN' wr q).mono BK.out.size)
    clear bW
    go_wp2
    go_quiet (fail)
    go_wp2
    go_roundw
    case rel => exact ⟨j + 1, by omega, by go_num, BD.out _⟩
    case measure => simp [intOf]; omega
  · go_wp2
    go_ret
    exact ⟨rfl, bW⟩
end Go.Proofs.YtcopcegamadkgaaGreatDoor
namespace Go.Proofs.YtcopcegamadkgaaGreatDoor
open Go.RowKit
def lw (xs : List Int) (i n : Nat) : Nat := if n ≤ 1 then 0 else if xs.length = 0 then i * 7 % n else ((xs.getD (i % xs.length) 0).toNat + i / xs.length) % n
theorem lw_lt (xs : List Int) (i n : Nat) (h : 1 ≤ n) : lw xs i n < n := by
 unfold lw
 by_cases h1 : n ≤ 1
 · rw [if_pos h1]; omega
 · rw [if_neg h1]
   split
   · exact Nat.mod_lt _ (by omega)
   · exact Nat.mod_lt _ (by omega)
theorem lwAt_row (w : World) (b o m cap : Nat) (i n x : Nat) (hm : 0 < m) (hm1 : m ≤ 1099511627776) (hx : x < 256) (hc : w.cell? ⟨b, o + i % m, none⟩ = some (.int .u8 (x : Int))) (hi : i ≤ 1099511627776) (hn : 1 < n) (hn1 : n ≤ 1099511627776) :
    Calls Tryz.prog 10 #[.slice (some ⟨b, o, none⟩) m cap, .int .i64 i, .int .i64 n] w fun e w' => e = .returned (.int .i64 (((x + i / m) % n : Nat) : Int)) ∧ ∃ q, w' = w.drewN q := by
 have h1 : ¬ (n : Int) ≤ 1 := by omega
 have h2 : ((m : Int) == 0) = false := beq_eq_false_iff_ne.2 (by omega)
 have h3 : i % m < m := Nat.mod_lt _ hm
 have h4 : (i : Int) % (m : Int) = ((i % m : Nat) : Int) := by omega
 have h5 : (i : Int) / (m : Int) = ((i / m : Nat) : Int) := by omega
 have h6 : i / m ≤ i := Nat.div_le_self _ _
 generalize i % m = a at *
 generalize i / m = d at *
 have h7 : ((m : Int) == 0) = false := h2
 have h8 : ((n : Int) == 0) = false := beq_eq_false_iff_ne.2 (by omega)
 go_enter Tryz.func10, Tryz.ntmps10
 go_wp2
 go_quiet (fail)
 go_wp2
 go_ret
 exact ⟨ret_int (by rw [Int.natCast_emod, Int.natCast_add]), _, rfl⟩
theorem lwAt_one (w : World) (v : Value) (i n : Nat) (hn : n ≤ 1) :
    Calls Tryz.prog 10 #[v, .int .i64 i, .int .i64 n] w fun e w' => e = .returned (.int .i64 0) ∧ w' = w := by
 have h1 : (n : Int) ≤ 1 := by omega
 go_enter Tryz.func10, Tryz.ntmps10
 go_wp2
 go_ret
 exact ⟨rfl, rfl⟩
theorem lwAt_nil (w : World) (ao : Option Addr) (cap i n : Nat) (hn : 1 < n) (hn1 : n ≤ 1099511627776) (hi : i ≤ 1099511627776) :
    Calls Tryz.prog 10 #[.slice ao 0 cap, .int .i64 i, .int .i64 n] w fun e w' => e = .returned (.int .i64 ((i * 7 % n : Nat) : Int)) ∧ w' = w := by
 have h1 : ¬ (n : Int) ≤ 1 := by omega
 have h8 : ((n : Int) == 0) = false := beq_eq_false_iff_ne.2 (by omega)
 go_enter Tryz.func10, Tryz.ntmps10
 go_wp2
 go_ret
 exact ⟨rfl, rfl⟩
theorem lwAt_any (w : World) (v : Value) (xs : List Int) (i n : Nat) (h : Rd .u8 w v xs) (hby : ∀ x ∈ xs, 0 ≤ x ∧ x < 256) (hl : xs.length ≤ 1099511627776) (hi : i ≤ 1099511627776) (hn1 : n ≤ 1099511627776) :
    Calls Tryz.prog 10 #[v, .int .i64 i, .int .i64 n] w fun e w' => e = .returned (.int .i64 ((lw xs i n : Nat) : Int)) ∧ ∃ q, w' = w.drewN q := by
 unfold lw
 by_cases h1 : n ≤ 1
 · rw [if_pos h1]
   refine (lwAt_one w v i n h1).mono ?_
   rintro e w' ⟨rfl, rfl⟩
   exact ⟨rfl, 0, rfl⟩
 · rw [if_neg h1]
   obtain ⟨ao, cap, rfl, k1, k2, k3⟩ := h
   rcases k3 with rfl | ⟨b, o, rfl, hb, hc⟩
   · rw [if_pos (show ([] : List Int).length = 0 from rfl)]
     refine (lwAt_nil w ao cap i n (by omega) hn1 hi).mono ?_
     rintro e w' ⟨rfl, rfl⟩
     exact ⟨rfl, 0, rfl⟩
   · by_cases h0 : xs.length = 0
     · rw [if_pos h0, h0]
       refine (lwAt_nil w _ cap i n (by omega) hn1 hi).mono ?_
       rintro e w' ⟨rfl, rfl⟩
       exact ⟨rfl, 0, rfl⟩
     · rw [if_neg h0]
       have hlt : i % xs.length < xs.length := Nat.mod_lt _ (by omega)
       have hx := hby _ (List.getElem_mem hlt)
       have e : xs.getD (i % xs.length) 0 = (((xs.getD (i % xs.length) 0).toNat : Nat) : Int) := by
        simp only [List.getD, List.getElem?_eq_getElem hlt, Option.getD_some]; omega
       have hc' := hc _ hlt
       rw [e] at hc'
       exact lwAt_row w b o xs.length cap i n _ (by omega) hl (by simp only [List.getD, List.getElem?_eq_getElem hlt, Option.getD_some]; omega) hc' hi (by omega) hn1
end Go.Proofs.YtcopcegamadkgaaGreatDoor
namespace Go.Proofs.YtcopcegamadkgaaGreatDoor
open Go.RowKit Go.Shelf
def B1G (W : World) (b : Nat) (x : Value) : Prop := b < W.heap.size ∧ W.cell? ⟨b, 0, none⟩ = some x ∧ W.frozen? ⟨b, 0, none⟩ = false
theorem B1G.turn {w w' : World} {b k : Nat} {x : Value} (h : B1G w b x) (t : Tch k w w') (hne : b ≠ k) : B1G w' b x := by
 have e := t.2 b hne h.1
 exact ⟨Nat.lt_of_lt_of_le h.1 t.size, (World.cell?_of_block (w := w) (a := ⟨b, 0, none⟩) e).trans h.2.1, (World.frozen?_of_block (w := w) e).trans h.2.2⟩
theorem B1G.below {w w' : World} {b : Nat} {x : Value} (h : B1G w b x) (hb : Below w.heap.size w w') : B1G w' b x := h.turn (k := b + 1) (Tch.of hb) (by omega)
theorem B1G.new (w : World) (x : Value) (t : TypeId) : B1G (w.alloc (.cells #[x] t)) w.heap.size x := ⟨by simp, by simp, by simp⟩
theorem B1G.set {w : World} {b : Nat} {x : Value} (h : B1G w b x) (y : Value) : B1G (w.setCell ⟨b, 0, none⟩ y) b y := ⟨by simpa using h.1, World.cell?_setCell_same _ _ _ h.2.1, by rw [World.frozen?_setCell]; exact h.2.2⟩
theorem B4F.turn {w w' : World} {b k : Nat} {x0 x1 x2 x3 : Value} (h : B4F w b x0 x1 x2 x3) (t : Tch k w w') (hne : b ≠ k) : B4F w' b x0 x1 x2 x3 := by
 have e := t.2 b hne h.1
 have q : ∀ j, w'.cell? ⟨b, j, none⟩ = w.cell? ⟨b, j, none⟩ := fun j => World.cell?_of_block (a := ⟨b, j, none⟩) e
 have r : ∀ j, w'.frozen? ⟨b, j, none⟩ = w.frozen? ⟨b, j, none⟩ := fun j => World.frozen?_of_block e
 obtain ⟨h1, ⟨h2, h3, h4, h5⟩, h6, h7, h8, h9⟩ := h
 exact ⟨Nat.lt_of_lt_of_le h1 t.size, ⟨(q _).trans h2, (q _).trans h3, (q _).trans h4, (q _).trans h5⟩, (r _).trans h6, (r _).trans h7, (r _).trans h8, (r _).trans h9⟩
theorem rd_preT {W : World} {g o n c : Nat} {xs : List Int} (h : Rd .u8 W (.slice (some ⟨g, o, none⟩) n c) xs) (m : Nat) (hm : m ≤ n) : Rd .u8 W (.slice (some ⟨g, o, none⟩) m c) (xs.take m) := by
 obtain ⟨ao, cap, e, h1, h2, h3⟩ := h
 simp only [Value.slice.injEq] at e
 obtain ⟨rfl, rfl, rfl⟩ := e
 refine ⟨_, _, by rw [List.length_take, Nat.min_eq_left hm], by rw [List.length_take]; omega, h2, ?_⟩
 rcases h3 with rfl | ⟨b, o', e, hb, hc⟩
 · exact .inl (by simp)
 · refine .inr ⟨b, o', e, hb, fun i hi => ?_⟩
   rw [List.length_take] at hi
   rw [hc i (by omega)]
   simp [List.getD, show i < m by omega]
structure TW (w : World) (TB WB OB : Nat) (v va wv ov : Value) (ns : List Nd) (a : List Int) (rs : List Nd) (zx C E : Int) (W : World) : Prop where
 bel : Below w.heap.size w W
 bt : B1G W TB v
 rt : RdN W v ns
 oa : Own .u8 5 W w.heap.size va a
 bw : B4F W WB wv (.int .i64 zx) (.int .i64 C) (.int .i64 E)
 bo : B4F W OB ov (.int .i64 zx) (.int .i64 C) (.int .i64 E)
 rw : RdN W wv rs
 ro : RdN W ov rs
theorem TW.below {w : World} {TB WB OB : Nat} {v va wv ov : Value} {ns : List Nd} {a : List Int} {rs : List Nd} {zx C E : Int} {W W' : World} (h : TW w TB WB OB v va wv ov ns a rs zx C E W) (hb : Below W.heap.size W W') : TW w TB WB OB v va wv ov ns a rs zx C E W' :=
 ⟨h.bel.trans (hb.mono h.bel.size), h.bt.below hb, h.rt.below hb, h.oa.below hb, h.bw.below hb, h.bo.below hb, h.rw.below hb, h.ro.below hb⟩
theorem share4 {F G : World → Nat → Option Addr → Nat → Prop} {q : Prop} (m : (∀ a b c d, F a b c d → G a b c d) → q) (r : ∀ a b c d, F a b c d → G a b c d) : q := m r
theorem scR_small {a : List Int} (h : a.length ≤ 8192) : scR a = (scn a.length a).map (·.1) := if_pos h
theorem rpR_count {ns : List Nd} {start : Int} {a : List Int} : (rpR ns start a).2.2 ≤ (scR a).length := by
 unfold rpR
 split
 · rename_i h
   unfold rpOk at h
   simp only [Bool.and_eq_true, decide_eq_true_eq] at h
   rw [scR_small h.2]
   have := rpl_le start ((scn a.length a).map (·.1)) 0 ns start 0
   omega
 · exact Nat.zero_le _
theorem fr_rec {a : List Int} (k : Nat) (hk : k < (scR a).length) : (fr (pR (scR a) k)).length = ((scn a.length a).getD k ([], 0)).2 ∧ Byt (pR (scR a) k) ∧ (pR (scR a) k).length ≤ 2000 ∧ pos (scn a.length a) (k + 1) = pos (scn a.length a) k + (fr (pR (scR a) k)).length ∧ pos (scn a.length a) (k + 1) ≤ a.length := by
 by_cases h : a.length ≤ 8192
 · rw [scR_small h] at hk ⊢
   rw [List.length_map] at hk
   obtain ⟨h1, h2, h3⟩ := rec_byt (n := a.length) rfl k hk
   refine ⟨h3, h1, h2, ?_, ?_⟩
   · rw [pos_succ _ _ hk, h3]
   · exact (scn_all a.length a (Nat.le_refl _)).2.2 (k + 1) (by omega)
 · exfalso
   unfold scR at hk
   rw [if_neg h] at hk
   simp at hk
theorem lawTwice_big (w : World) (ca am : Option Addr) (N cc m cm : Nat) (h : 1048576 < N ∨ 1048576 < m) :
    Calls Tryz.prog 3 #[.slice ca N cc, .slice am m cm] w fun e w' => e = .returned (.bool true) ∧ Below w.heap.size w w' := by
 by_cases h1 : 1048576 < N
 · have hI : (1048576 : Int) < (N : Int) := by omega
   go_enter Tryz.func3, Tryz.ntmps3
   go_wp2
   go_ret
   exact ⟨rfl, Below.refl _ _⟩
 · have hI : ¬ (1048576 : Int) < (N : Int) := by omega
   have hI2 : (1048576 : Int) < (m : Int) := by omega
   go_enter Tryz.func3, Tryz.ntmps3
   go_wp2
   go_ret
   exact ⟨rfl, Below.refl _ _⟩
theorem lawTwice_core (w : World) (ca ma : Option Addr) (cc mc : Nat) (cs ms : List Int) (h : Rd .u8 w (.slice ca cs.length cc) cs) (hby : Byt cs) (hm : Rd .u8 w (.slice ma ms.length mc) ms) (hmy : Byt ms) (hc1 : cs.length ≤ 1048576) (hm1 : ms.length ≤ 1048576) :
    Calls Tryz.prog 3 #[.slice ca cs.length cc, .slice ma ms.length mc] w fun e w' => e = .returned (.bool true) ∧ Below w.heap.size w w' := by
 have hI1 : ¬ (1048576 : Int) < (cs.length : Int) := by omega
 have hI2 : ¬ (1048576 : Int) < (ms.length : Int) := by omega
 have HC : Hid (Rd .u8 w (.slice ca cs.length cc) cs) := h
 have HM : Hid (Rd .u8 w (.slice ma ms.length mc) ms) := hm
 have HMY : Hid (Byt ms) := hmy
 obtain ⟨hz9, hnl, hal, hab⟩ := rpD_ok (srcOf cs) (srcOf_size cs)
 have HDR : Hid (∀ W, Rd .u8 W (.slice ca cs.length cc) cs → Calls Tryz.prog 5 #[.slice ca cs.length cc] W fun e w' => ∃ v va, e = .returned (.tuple #[.agg #[v], .int .i64 (rpD (srcOf cs)).2.1, va]) ∧ RdN w' v (rpD (srcOf cs)).1 ∧ Own .u8 5 w' W.heap.size va (rpD (srcOf cs)).2.2 ∧ Below W.heap.size W w' ∧ ∀ b o n c, v = .slice (some ⟨b, o, none⟩) n c → W.heap.size + 1 ≤ b) := fun W hW => drawRep_x W _ cs hW hby hc1
 clear h hm hby hmy hc1
 generalize rpD (srcOf cs) = D at *
 obtain ⟨ns, start, a⟩ := D
 dsimp only at hz9 hnl hal hab HDR
 have HSZ : Hid (∀ i, (nAt ns i).path.size ≤ 1048576 ∧ (nAt ns i).data.size ≤ 1048576) := fun i => hz9.at i
 have HAB : Hid (Byt a) := hab
 have HS : Hid (∀ (W : World) (ta : Option Addr) (tc : Nat) (ya : Option Addr) (yc lo : Nat), RdN W (.slice ta ns.length tc) ns → Own .u8 5 W lo (.slice ya a.length yc) a → Calls Tryz.prog 6 #[.agg #[.slice ta ns.length tc], .int .i64 start, .slice ya a.length yc] W (RqPost W ns start a)) := fun W ta tc ya yc lo h1 h2 => specReplay_any W ta tc ns start ya yc a h1 hnl HSZ.out h2.rd HAB.out (by omega)
 have HI : Hid (∀ (W : World) (ms : List Nd) (st : Int) (ta : Option Addr) (tc : Nat) (b : List Int) (ya : Option Addr) (yc : Nat), RdN W (.slice ta ms.length tc) ms → ms.length ≤ 1048576 → (∀ i, (nAt ms i).path.size ≤ 1048576 ∧ (nAt ms i).data.size ≤ 1048576) → Rd .u8 W (.slice ya b.length yc) b → Byt b → b.length ≤ 1048576 → ((ya = none ∧ b.length = 0 ∧ yc = 0) ∨ ∃ blk o, ya = some ⟨blk, o, none⟩) → Calls Tryz.prog 7 #[.agg #[.slice ta ms.length tc], .int .i64 st, .slice ya b.length yc] W (RqPost W ms st b)) := fun W ms st ta tc b ya yc h1 h2 h3 h4 h5 h6 h7 => implReplay_any W ta tc ms st ya yc b h1 h2 h3 h4 h5 h6 h7
 have HFM : Hid (∀ (W : World) (lo : Nat) (ya : Option Addr) (n yc : Nat) (b : List Int), Own .u8 5 W lo (.slice ya n yc) b → (ya = none ∧ n = 0 ∧ yc = 0) ∨ ∃ blk o, ya = some ⟨blk, o, none⟩) := by
  intro W lo ya n yc b h2
  rcases h2.2 with ⟨h, h0⟩ | ⟨g, cap, cur, h, -⟩
  · simp only [Value.slice.injEq] at h
    exact .inl ⟨h.1, h.2.1, h.2.2⟩
  · simp only [Value.slice.injEq] at h
    exact .inr ⟨g, 0, h.1⟩
 have HRL : Hid ((rpR ns start a).1.length ≤ 2000 ∧ Good (rpR ns start a).1) := rpR_sz
 have HCT : Hid ((rpR ns start a).2.2 ≤ (scR a).length) := rpR_count
 have HTW : Hid (∀ k, Snd ns → okS start = true → k ≤ (rpR ns start a).2.2 → (rpR ns start (a.take (pos (scn a.length a) k))).2.2 = k ∧ rpR (rpR ns start (a.take (pos (scn a.length a) k))).1 (rpR ns start (a.take (pos (scn a.length a) k))).2.1 a = rpR ns start a ∧ rpE (rpR ns start (a.take (pos (scn a.length a) k))).1 (rpR ns start (a.take (pos (scn a.length a) k))).2.1 a = rpE ns start a) := fun k h1 h2 h3 => replay_twice h1 h2 h3
 obtain ⟨R, hR⟩ : ∃ R, R = rpR ns start a := ⟨_, rfl⟩
 obtain ⟨E, hE⟩ : ∃ E, E = rpE ns start a := ⟨_, rfl⟩
 have HRQ : Hid (∀ W e W', RqPost W ns start a e W' → ∃ va vc, e = .returned (.agg #[.slice va R.1.length vc, .int .i64 R.2.1, .int .i64 ((R.2.2 : Nat) : Int), .int .i64 E]) ∧ OwnN 85 W' W.heap.size (.slice va R.1.length vc) R.1 ∧ Below W.heap.size W W') := by
  intro W e W' h9
  rw [hR, hE]
  exact h9
 rw [← hR] at HRL HCT
 have HRE : Hid (rpR ns start a = R ∧ rpE ns start a = E) := ⟨hR.symm, hE.symm⟩
 clear hR hE hz9 hab
 have hrl := HRL.out.1
 go_enter Tryz.func3, Tryz.ntmps3
 go_wp2_with fail
 refine (HDR.out _ HC.out).mono ?_
 rintro e w1 ⟨v1, va1, rfl, r1, o1, b1, -⟩
 obtain ⟨ta, tc, rfl, -⟩ := r1.len
 obtain ⟨ya, yc, rfl⟩ := ownB_slice o1
 have z1 := b1.size
 have bA : Below w1.heap.size w1 (w1.alloc (.cells #[.slice ta ns.length tc] 25)) := (Below.refl _ _).alloc (Nat.le_refl _) _
 have B2 : Hid (Below w.heap.size w (w1.alloc (.cells #[.slice ta ns.length tc] 25))) := b1.trans (bA.mono z1)
 have T2 : Hid (B1G (w1.alloc (.cells #[.slice ta ns.length tc] 25)) w1.heap.size (.slice ta ns.length tc)) := B1G.new _ _ _
 have R2 : Hid (RdN (w1.alloc (.cells #[.slice ta ns.length tc] 25)) (.slice ta ns.length tc) ns) := r1.below bA
 have O2 : Hid (Own .u8 5 (w1.alloc (.cells #[.slice ta ns.length tc] 25)) w.heap.size (.slice ya a.length yc) a) := o1.below bA
 have z2 : (w1.alloc (.cells #[.slice ta ns.length tc] 25)).heap.size = w1.heap.size + 1 := by simp
 clear bA r1 o1 b1
 have ct := T2.out.2.1
 go_wp2_with fail
 clear ct
 generalize w1.alloc (.cells #[.slice ta ns.length tc] 25) = w2 at *
 generalize w1.heap.size = TB at *
 refine (HS.out w2 _ _ _ _ _ R2.out O2.out).mono ?_
 intro e w3 h9
 obtain ⟨wa, wc, rfl, o3, b3⟩ := HRQ.out _ _ _ h9
 clear h9 HS
 have z3 := b3.size
 have bA : Below w3.heap.size w3 (w3.alloc (.cells #[.slice wa R.1.length wc, .int .i64 R.2.1, .int .i64 ((R.2.2 : Nat) : Int), .int .i64 E] 29)) := (Below.refl _ _).alloc (Nat.le_refl _) _
 have b24 := b3.trans (bA.mono z3)
 have B4 := hd9 (B2.out.trans (b24.mono B2.out.size))
 have T4 := hd9 (T2.out.below b24)
 have R4 := hd9 (R2.out.below b24)
 have O4 := hd9 (O2.out.below b24)
 have W4 : Hid (B4F (w3.alloc (.cells #[.slice wa R.1.length wc, .int .i64 R.2.1, .int .i64 ((R.2.2 : Nat) : Int), .int .i64 E] 29)) w3.heap.size (.slice wa R.1.length wc) (.int .i64 R.2.1) (.int .i64 ((R.2.2 : Nat) : Int)) (.int .i64 E)) := B4F.new _ _ _ _ _ _
 have N4 : Hid (OwnN 85 (w3.alloc (.cells #[.slice wa R.1.length wc, .int .i64 R.2.1, .int .i64 ((R.2.2 : Nat) : Int), .int .i64 E] 29)) (TB + 1) (.slice wa R.1.length wc) R.1) := (o3.below bA).mono (by omega)
 have z4 : (w3.alloc (.cells #[.slice wa R.1.length wc, .int .i64 R.2.1, .int .i64 ((R.2.2 : Nat) : Int), .int .i64 E] 29)).heap.size = w3.heap.size + 1 := by simp
 clear bA b24 b3 o3 B2 T2 R2 O2
 have ct := T4.out.2.1
 go_wp2_with fail
 clear ct
 generalize w3.alloc (.cells #[.slice wa R.1.length wc, .int .i64 R.2.1, .int .i64 ((R.2.2 : Nat) : Int), .int .i64 E] 29) = w4 at *
 generalize w3.heap.size = WB at *
 refine (HI.out w4 ns start _ _ a _ _ R4.out hnl HSZ.out O4.out.rd HAB.out (by omega) (HFM.out _ _ _ _ _ _ O4.out)).mono ?_
 intro e w5 h9
 obtain ⟨ga, gc, rfl, o5, b5⟩ := HRQ.out _ _ _ h9
 clear h9
 have z5 := b5.size
 have bA : Below w5.heap.size w5 (w5.alloc (.cells #[.slice ga R.1.length gc, .int .i64 R.2.1, .int .i64 ((R.2.2 : Nat) : Int), .int .i64 E] 29)) := (Below.refl _ _).alloc (Nat.le_refl _) _
 have b46 := b5.trans (bA.mono z5)
 have B6 := hd9 (B4.out.trans (b46.mono B4.out.size))
 have T6 := hd9 (T4.out.below b46)
 have W6 := hd9 (W4.out.below b46)
 have N6 := hd9 (N4.out.below b46)
 have V6 : Hid (B4F (w5.alloc (.cells #[.slice ga R.1.length gc, .int .i64 R.2.1, .int .i64 ((R.2.2 : Nat) : Int), .int .i64 E] 29)) w5.heap.size (.slice ga R.1.length gc) (.int .i64 R.2.1) (.int .i64 ((R.2.2 : Nat) : Int)) (.int .i64 E)) := B4F.new _ _ _ _ _ _
 have M6 : Hid (OwnN 85 (w5.alloc (.cells #[.slice ga R.1.length gc, .int .i64 R.2.1, .int .i64 ((R.2.2 : Nat) : Int), .int .i64 E] 29)) (TB + 1) (.slice ga R.1.length gc) R.1) := (o5.below bA).mono (by omega)
 have z6 : (w5.alloc (.cells #[.slice ga R.1.length gc, .int .i64 R.2.1, .int .i64 ((R.2.2 : Nat) : Int), .int .i64 E] 29)).heap.size = w5.heap.size + 1 := by simp
 clear bA b46 b5 o5 B4 T4 R4 O4 W4 N4
 go_wp2_with fail
 generalize w5.alloc (.cells #[.slice ga R.1.length gc, .int .i64 R.2.1, .int .i64 ((R.2.2 : Nat) : Int), .int .i64 E] 29) = w6 at *
 generalize w5.heap.size = OB at *
 refine (HDR.out _ (HC.out.below B6.out)).mono ?_
 rintro e w7 ⟨v7, va7, rfl, r7, o7, b7, f7⟩
 obtain ⟨ta2, tc2, rfl, -⟩ := r7.len
 obtain ⟨ya2, yc2, rfl⟩ := ownB_slice o7
 have z7 := b7.size
 have T7 := T6.out.below b7
 have hts := tch_set w7 TB 0 (.slice ta2 ns.length tc2)
 have hw6 := B6.out.size
 have TW8 : Hid (TW w TB WB OB (.slice ta2 ns.length tc2) (.slice ya2 a.length yc2) (.slice wa R.1.length wc) (.slice ga R.1.length gc) ns a R.1 R.2.1 ((R.2.2 : Nat) : Int) E (w7.setCell ⟨TB, 0, none⟩ (.slice ta2 ns.length tc2))) := by
  have hTBw : w.heap.size ≤ TB := by omega
  refine ⟨(B6.out.trans (b7.mono hw6)).setCell hTBw _, T7.set _, r7.tchK (fun b o n c e e2 => by have := f7 b o n c e; omega) hts, ?_, (W6.out.below b7).turn hts (by omega), (V6.out.below b7).turn hts (by omega), (N6.out.below b7).rd.tchK (OwnN.offK (N6.out.below b7) (by omega)) hts, (M6.out.below b7).rd.tchK (OwnN.offK (M6.out.below b7) (by omega)) hts⟩
  have G : w7.grownBy (w7.setCell ⟨TB, 0, none⟩ (.slice ta2 ns.length tc2)) (some TB) := grownBy_set _ _ _ _ _ (World.grownBy.refl _ _)
  exact Own.mono (World.ownsRow.kept o7 G (.inr (fun e => by have := (o7.lt _ e).1; omega))) (by omega)
 have ct := T7.2.1
 have ft := T7.2.2
 clear T7 hts r7 o7 b7 f7 B6 T6 W6 N6 V6 M6 HDR
 obtain ⟨-, ⟨d0, d1, d2, d3⟩, -⟩ := TW8.out.bw
 obtain ⟨-, ⟨g0, g1, g2, g3⟩, -⟩ := TW8.out.bo
 go_wp2_with fail
 clear ct ft d0 d1 d2 d3 g0 g1 g2 g3
 generalize w7.setCell ⟨TB, 0, none⟩ (.slice ta2 ns.length tc2) = w8 at *
 refine (sameTree_yes w8 _ _ R.1 TW8.out.ro TW8.out.rw (by omega)).mono ?_
 rintro e w9 ⟨rfl, b9⟩
 have TW9 := hd9 (TW8.out.below b9)
 clear b9 TW8
 obtain ⟨-, ⟨d0, d1, d2, d3⟩, -⟩ := TW9.out.bw
 obtain ⟨-, ⟨g0, g1, g2, g3⟩, -⟩ := TW9.out.bo
 have ct := TW9.out.bt.2.1
 go_wp2_with fail
 clear ct d0 d1 d2 d3 g0 g1 g2 g3
 refine (specTree_any w9 _ ns TW9.out.rt hnl HSZ.out).mono ?_
 rintro e w10 ⟨rfl, b10⟩
 have TW10 := hd9 (TW9.out.below b10)
 clear b10 TW9
 cases hok : okTree ns with
 | false =>
  have F := TW10.out.bel
  have HF : Hid (Below w.heap.size w w10) := F
  clear F TW10
  go_wp2
  go_ret
  exact ⟨rfl, HF.out⟩
 | true =>
  have HF : Hid (Below w.heap.size w w10) := TW10.out.bel
  by_cases hs1 : start < 0
  · clear TW10
    go_wp2
    go_ret
    exact ⟨rfl, HF.out⟩
  by_cases hs2 : 2147483647 < start
  · clear TW10
    go_wp2
    go_ret
    exact ⟨rfl, HF.out⟩
  have hoks : okS start = true := by unfold okS; simp; omega
  have hsnd := okTree_snd.1 hok
  have hsc := scR_len a
  have hct := HCT.out
  have CW := lwAt_any w10 (.slice ma ms.length mc) ms 0 (R.2.2 + 1) (HM.out.below HF.out) HMY.out (by omega) (by omega) (by omega)
  rw [show ((R.2.2 + 1 : Nat) : Int) = (R.2.2 : Int) + 1 by omega, show ((0 : Nat) : Int) = 0 from rfl] at CW
  obtain ⟨-, ⟨d0, d1, d2, d3⟩, -⟩ := TW10.out.bw
  go_wp2_with fail
  clear d0 d1 d2 d3
  refine CW.mono ?_
  clear CW
  rintro e w11' ⟨rfl, qq, rfl⟩
  have hkl := lw_lt ms 0 (R.2.2 + 1) (by omega)
  generalize lw ms 0 (R.2.2 + 1) = k at *
  have TW11 : Hid (TW w TB WB OB (.slice ta2 ns.length tc2) (.slice ya2 a.length yc2) (.slice wa R.1.length wc) (.slice ga R.1.length gc) ns a R.1 R.2.1 ((R.2.2 : Nat) : Int) E (w10.drewN qq)) := TW10.out.below (below_drewN' w10 qq)
  clear TW10 HF
  generalize w10.drewN qq = w11 at *
  have HT := HTW.out k hsnd hoks (by rw [HRE.out.1]; omega)
  rw [HRE.out.1, HRE.out.2] at HT
  have HPL : pos (scn a.length a) k ≤ a.length := by
   cases k with
   | zero => rw [pos_zero]; exact Nat.zero_le _
   | succ k => exact (fr_rec k (by omega)).2.2.2.2
  have HH : Hid _ := HT
  have HHL : Hid ((rpR ns start (a.take (pos (scn a.length a) k))).1.length ≤ 2000 ∧ Good (rpR ns start (a.take (pos (scn a.length a) k))).1) := rpR_sz
  clear HT HTW
  go_wp2_with fail
  refine (specScan_all w11 _ _ a TW11.out.oa HAB.out (by omega)).mono ?_
  rintro e w12 ⟨sa, sc, us, rfl, op12, b12⟩
  have OP : Hid (OwnP w12 w11.heap.size (.slice sa (scR a).length sc) (scR a) us) := op12
  have hf9 := field_scan (.slice sa (scR a).length sc) (.int .i64 (scE a)) w12
  clear op12
  have TW12 := hd9 (TW11.out.below b12)
  clear b12 TW11
  go_wp2
  clear hf9
  go_loopw [11, 13] (fun vp vi wr => ∃ j : Nat, j ≤ k ∧ vi = .int .i64 j ∧ vp = .int .i64 ((pos (scn a.length a) j : Nat) : Int) ∧ Hid (Below w12.heap.size w12 wr)) (fun _ i _ => k - (intOf i).toNat)
  case atStart => exact ⟨0, Nat.zero_le _, rfl, by rw [pos_zero]; rfl, Below.refl _ _⟩
  case round =>
   obtain ⟨j, hj, rfl, rfl, HB⟩ := hrel
   by_cases hlt : j < k
   · have hltI : (j : Int) < (k : Int) := by omega
     obtain ⟨-, q1, q2, q3, q4⟩ := fr_rec (a := a) j (by omega)
     have hjs : j < (scR a).length := by omega
     have hjsI : (j : Int) < ((scR a).length : Int) := by omega
     obtain ⟨g, hsa⟩ : ∃ g, sa = some ⟨g, 0, none⟩ := by
      rcases OP.out.1.2 with ⟨h9, h8⟩ | ⟨g, cap, cur, h9, -⟩
      · omega
      · simp only [Value.slice.injEq] at h9; exact ⟨g, h9.1⟩
     subst hsa
     have OPr : OwnP wr w11.heap.size (.slice (some ⟨g, 0, none⟩) (scR a).length sc) (scR a) us := OwnP.below OP.out HB.out
     have hcell : wr.cell? ⟨g, j, none⟩ = some (uV us j) := by
      have hul := OwnP.len OPr
      rw [World.ownsRow.cellAt OPr.1 j (by omega)]
      unfold uV
      simp [List.getD, List.getElem?_eq_getElem (show j < us.length by omega)]
     have hrow := OPr.2.1 j hjs
     obtain ⟨ra, rc, hrv⟩ := ownB_slice hrow
     rw [hrv] at hcell hrow
     have HROW : Hid (Own .u8 5 wr w11.heap.size (.slice ra (pR (scR a) j).length rc) (pR (scR a) j)) := hrow
     have HQ1 : Hid (Byt (pR (scR a) j)) := q1
     have HQ4 : Hid (pos (scn a.length a) (j + 1) = pos (scn a.length a) j + (fr (pR (scR a) j)).length) := q3
     have hp1 : pos (scn a.length a) j + (fr (pR (scR a) j)).length ≤ 92200 := by omega
     clear hrow hrv OPr q1 q3 q4
     generalize pR (scR a) j = pj at *
     go_wp2_with fail
     clear hcell
     refine (specFrame_any wr _ pj HROW.out.rd HQ1.out (by omega)).mono ?_
     rintro e wf ⟨vf, rfl, of, bf⟩
     obtain ⟨fa, fc, rfl⟩ := ownB_slice of
     have HB2 := hd9 (HB.out.trans (bf.mono HB.out.size))
     clear of bf HB HROW HQ1
     go_wp2
     go_roundw
     case rel => exact ⟨j + 1, by omega, by go_num, by rw [HQ4.out]; go_num, HB2⟩
     case measure => simp [intOf]; omega
   · have hjk : j = k := by omega
     subst hjk
     have hltI : ¬ (j : Int) < (j : Int) := by omega
     have TW13 := hd9 (TW12.out.below HB.out)
     clear HB TW12 OP
     obtain ⟨PP, hPP⟩ : ∃ PP, PP = pos (scn a.length a) j := ⟨_, rfl⟩
     rw [← hPP] at HH HHL HPL ⊢
     clear hPP
     have htl : (a.take PP).length = PP := by rw [List.length_take]; omega
     have HHB : Hid (Byt (a.take PP)) := fun x hx => HAB.out x (List.mem_of_mem_take hx)
     have CI := fun (W : World) (ya : Option Addr) (yc : Nat) (h1 : RdN W (.slice ta2 ns.length tc2) ns) (h2 : Rd .u8 W (.slice ya PP yc) (a.take PP)) (h3 : (ya = none ∧ PP = 0 ∧ yc = 0) ∨ ∃ blk o, ya = some ⟨blk, o, none⟩) => HI.out W ns start ta2 tc2 (a.take PP) ya yc h1 hnl HSZ.out (by rw [htl]; exact h2) HHB.out (by omega) (by rw [htl]; exact h3)
     rw [htl] at CI
     have HCI : Hid (∀ (W : World) (ya : Option Addr) (yc : Nat), RdN W (.slice ta2 ns.length tc2) ns → Rd .u8 W (.slice ya PP yc) (a.take PP) → ((ya = none ∧ PP = 0 ∧ yc = 0) ∨ ∃ blk o, ya = some ⟨blk, o, none⟩) → Calls Tryz.prog 7 #[.agg #[.slice ta2 ns.length tc2], .int .i64 start, .slice ya PP yc] W (RqPost W ns start (a.take PP))) := CI
     clear CI htl HHB
     have HRP : Hid (∀ W e W', RqPost W ns start (a.take PP) e W' → ∃ va vc, e = .returned (.agg #[.slice va (rpR ns start (a.take PP)).1.length vc, .int .i64 (rpR ns start (a.take PP)).2.1, .int .i64 (((rpR ns start (a.take PP)).2.2 : Nat) : Int), .int .i64 (rpE ns start (a.take PP))]) ∧ OwnN 85 W' W.heap.size (.slice va (rpR ns start (a.take PP)).1.length vc) (rpR ns start (a.take PP)).1 ∧ Below W.heap.size W W') := fun W e W' h9 => h9
     generalize rpR ns start (a.take PP) = H at *
     generalize rpE ns start (a.take PP) = HE at *
     go_wp2_with fail
     have HFG : Hid ((ya2 = none ∧ PP = 0 ∧ yc2 = 0) ∨ ∃ g, ya2 = some ⟨g, 0, none⟩) := by
      rcases TW13.out.oa.2 with ⟨h9, h0⟩ | ⟨gy, capy, cury, h9, -⟩
      · simp only [Value.slice.injEq] at h9
        exact .inl ⟨h9.1, by omega, h9.2.2⟩
      · simp only [Value.slice.injEq] at h9
        exact .inr ⟨gy, h9.1⟩
     have hyc : a.length ≤ yc2 ∧ yc2 ≤ 9223372036854775807 := by
      obtain ⟨a8, c8, h8, h7, h6⟩ := (TW13.out.oa.rd).len
      simp only [Value.slice.injEq] at h8
      obtain ⟨-, -, rfl⟩ := h8
      unfold maxLen at h6
      omega
     have TWd : Hid (TW w TB WB OB (.slice ta2 ns.length tc2) (.slice ya2 a.length yc2) (.slice wa R.1.length wc) (.slice ga R.1.length gc) ns a R.1 R.2.1 ((R.2.2 : Nat) : Int) E (wr.drewN 1)) := TW13.out.below (below_drewN' wr 1)
     have HRDA : Hid (Rd .u8 (wr.drewN 1) (.slice ya2 PP yc2) (a.take PP)) := by
      rcases HFG.out with ⟨rfl, rfl, rfl⟩ | ⟨gy, rfl⟩
      · exact ⟨none, 0, rfl, Nat.le_refl _, Nat.zero_le _, .inl rfl⟩
      · exact rd_preT TWd.out.oa.rd PP HPL
     have HFA : Hid ((ya2 = none ∧ PP = 0 ∧ yc2 = 0) ∨ ∃ blk o, ya2 = some ⟨blk, o, none⟩) := by
      rcases HFG.out with h9 | ⟨gy, h9⟩
      · exact .inl h9
      · exact .inr ⟨gy, 0, h9⟩
     have hPPI : (PP : Int) ≤ (yc2 : Int) := by omega
     clear TW13
     apply share4 (F := fun w16 HB ha hc => Hid (TW w TB WB OB (.slice ta2 ns.length tc2) (.slice ya2 a.length yc2) (.slice wa R.1.length wc) (.slice ga R.1.length gc) ns a R.1 R.2.1 ((R.2.2 : Nat) : Int) E w16) ∧ Hid (RdN w16 (.slice ha H.1.length hc) H.1) ∧ Hid (B4F w16 HB (.slice ha H.1.length hc) (.int .i64 H.2.1) (.int .i64 ((H.2.2 : Nat) : Int)) (.int .i64 HE)))
     · intro REST
       refine wp_region_held_drew (S := fun w9 => (TW w TB WB OB (.slice ta2 ns.length tc2) (.slice ya2 a.length yc2) (.slice wa R.1.length wc) (.slice ga R.1.length gc) ns a R.1 R.2.1 ((R.2.2 : Nat) : Int) E w9)) (by kernel_rfl) (TWd.out) (fun hHeld => ?_)
       refine tkL9 (i := 0) (oi := ⟨some 104, _, _, _, _, _⟩) (v := (.agg #[.slice ta2 ns.length tc2])) rfl (by kernel_rfl) (fun _ _ _ h => h) (by rfl) (by assumption) ?hy1 ?_
       case hy1 => intro w9 hS9; have h9 := hS9.bt.2.1; go_simp; try with_reducible rfl
       try simp only [Act.put, sT9, sZ9, sS9]
       refine tkL9 (i := 1) (oi := ⟨some 105, _, _, _, _, _⟩) (v := (.int .i64 start)) rfl (by kernel_rfl) (fun _ _ _ h => h) (by rfl) (by assumption) ?hy2 ?_
       case hy2 => intro w9 hS9; have h9 := hS9.bt.2.1; go_simp; try with_reducible rfl
       try simp only [Act.put, sT9, sZ9, sS9]
       refine tkL9 (i := 2) (oi := ⟨some 106, _, _, _, _, _⟩) (v := (.slice ya2 a.length yc2)) rfl (by kernel_rfl) (fun _ _ _ h => h) (by rfl) (by assumption) ?hy3 ?_
       case hy3 => intro w9 hS9; have h9 := hS9.bt.2.1; go_simp; try with_reducible rfl
       try simp only [Act.put, sT9, sZ9, sS9]
       refine tkL9 (i := 3) (oi := ⟨some 107, _, _, _, _, _⟩) (v := (.int .i64 (PP : Int))) rfl (by kernel_rfl) (fun _ _ _ h => h) (by rfl) (by assumption) ?hy4 ?_
       case hy4 => intro w9 hS9; have h9 := hS9.bt.2.1; go_simp; try with_reducible rfl
       try simp only [Act.put, sT9, sZ9, sS9]
       refine tkL9 (i := 4) (oi := ⟨some 108, _, _, _, _, _⟩) (v := (.slice ya2 PP yc2)) rfl (by kernel_rfl) (fun _ _ _ h => h) (by rfl) (by assumption) ?hy5 ?_
       case hy5 =>
        intro w9 hS9
        clear hS9 REST
        rcases HFG.out with ⟨rfl, rfl, rfl⟩ | ⟨gy, rfl⟩
        · go_simp
          try with_reducible rfl
        · go_simp
          try with_reducible rfl
       try simp only [Act.put, sT9, sZ9, sS9]
       refine wpAnyH_ready (rs := [5, 6]) (by kernel_rfl) (by simp) ?_
       refine (AllReadyH.cons (o := ⟨some 109, _, _, _, _, _⟩) rfl (fun K hK => ?_) (AllReadyH.cons (o := ⟨some 14, _, _, _, _, _⟩) rfl (fun K hK => ?_) AllReadyH.nil))
       · go_simp
         refine (HCI.out _ _ _ TWd.out.rt HRDA.out HFA.out).mono ?_
         intro e w14 h9
         obtain ⟨ha, hc, rfl, o14, b14⟩ := HRP.out _ _ _ h9
         clear h9
         have TW14 := hd9 (TWd.out.below b14)
         have O14 : Hid (OwnN 85 w14 (wr.drewN 1).heap.size (.slice ha H.1.length hc) H.1) := o14
         clear o14 b14
         refine hK.out _ _ (TW14.out) (fun hx9 => ?_)
         clear hK K hHeld
         have hHeld := hx9
         clear hx9
         try simp only [Act.put, sT9, sZ9, sS9]
         refine wpAnyH_ready (rs := [6]) (by kernel_rfl) (by simp) ?_
         refine AllReadyH.cons (o := ⟨some 14, _, _, _, _, _⟩) rfl (fun K hK => ?_) AllReadyH.nil
         have bA : Below w14.heap.size w14 (w14.alloc (.cells #[.slice none 0 0, .int .i64 0, .int .i64 0, .int .i64 0] 29)) := (Below.refl _ _).alloc (Nat.le_refl _) _
         have TW15 := hd9 (TW14.out.below bA)
         have X15 : Hid (B4F (w14.alloc (.cells #[.slice none 0 0, .int .i64 0, .int .i64 0, .int .i64 0] 29)) w14.heap.size (.slice none 0 0) (.int .i64 0) (.int .i64 0) (.int .i64 0)) := B4F.new _ _ _ _ _ _
         have BA : Hid (Below w14.heap.size w14 (w14.alloc (.cells #[.slice none 0 0, .int .i64 0, .int .i64 0, .int .i64 0] 29))) := bA
         clear bA
         go_simp
         generalize w14.alloc (.cells #[.slice none 0 0, .int .i64 0, .int .i64 0, .int .i64 0] 29) = w15 at *
         refine hK.out _ _ (TW15.out) (fun hx9 => ?_)
         clear hK K hHeld
         have hHeld := hx9
         clear hx9
         try simp only [Act.put, sT9, sZ9, sS9]
         have b16 : Below w14.heap.size w14 ((((w15.setCell ⟨w14.heap.size, 0, none⟩ (.slice ha H.1.length hc)).setCell ⟨w14.heap.size, 1, none⟩ (.int .i64 H.2.1)).setCell ⟨w14.heap.size, 2, none⟩ (.int .i64 ((H.2.2 : Nat) : Int))).setCell ⟨w14.heap.size, 3, none⟩ (.int .i64 HE)) := by
          refine Below.setCell (Below.setCell (Below.setCell (Below.setCell BA.out ?_ _) ?_ _) ?_ _) ?_ _ <;> exact Nat.le_refl _
         have TW16 := hd9 (TW14.out.below b16)
         have N16 : Hid (RdN ((((w15.setCell ⟨w14.heap.size, 0, none⟩ (.slice ha H.1.length hc)).setCell ⟨w14.heap.size, 1, none⟩ (.int .i64 H.2.1)).setCell ⟨w14.heap.size, 2, none⟩ (.int .i64 ((H.2.2 : Nat) : Int))).setCell ⟨w14.heap.size, 3, none⟩ (.int .i64 HE)) (.slice ha H.1.length hc) H.1) := O14.out.rd.below b16
         have X16 : Hid (B4F ((((w15.setCell ⟨w14.heap.size, 0, none⟩ (.slice ha H.1.length hc)).setCell ⟨w14.heap.size, 1, none⟩ (.int .i64 H.2.1)).setCell ⟨w14.heap.size, 2, none⟩ (.int .i64 ((H.2.2 : Nat) : Int))).setCell ⟨w14.heap.size, 3, none⟩ (.int .i64 HE)) w14.heap.size (.slice ha H.1.length hc) (.int .i64 H.2.1) (.int .i64 ((H.2.2 : Nat) : Int)) (.int .i64 HE)) := (((X15.out.set0 _).set1 _).set2 _).set3 _
         clear b16 O14 TW14 BA
         refine wpAnyH_ready (rs := [7]) (by kernel_rfl) (by simp) ?_
         refine AllReadyH.cons (o := ⟨none, _, _, _, _, _⟩) rfl (fun K hK => ?_) AllReadyH.nil
         obtain ⟨xl, ⟨d0, d1, d2, d3⟩, f0, f1, f2, f3⟩ := X15.out
         go_simp
         refine hK.out _ _ (TW16.out) (fun hx9 => ?_)
         clear hK K hHeld hx9
         try simp only [Act.put, sT9, sZ9, sS9]
         refine wpAnyH_done (by kernel_rfl) ?_ _
         clear xl d0 d1 d2 d3 f0 f1 f2 f3 X15 TW15
         generalize ((((w15.setCell ⟨w14.heap.size, 0, none⟩ (.slice ha H.1.length hc)).setCell ⟨w14.heap.size, 1, none⟩ (.int .i64 H.2.1)).setCell ⟨w14.heap.size, 2, none⟩ (.int .i64 ((H.2.2 : Nat) : Int))).setCell ⟨w14.heap.size, 3, none⟩ (.int .i64 HE)) = w16 at *
         generalize w14.heap.size = HB at *
         exact REST w16 HB ha hc ⟨TW16, N16, X16⟩
       · have bA : Below (wr.drewN 1).heap.size (wr.drewN 1) ((wr.drewN 1).alloc (.cells #[.slice none 0 0, .int .i64 0, .int .i64 0, .int .i64 0] 29)) := (Below.refl _ _).alloc (Nat.le_refl _) _
         have TW14 : Hid (TW w TB WB OB (.slice ta2 ns.length tc2) (.slice ya2 a.length yc2) (.slice wa R.1.length wc) (.slice ga R.1.length gc) ns a R.1 R.2.1 ((R.2.2 : Nat) : Int) E ((wr.drewN 1).alloc (.cells #[.slice none 0 0, .int .i64 0, .int .i64 0, .int .i64 0] 29))) := TWd.out.below bA
         have RD14 : Hid (Rd .u8 ((wr.drewN 1).alloc (.cells #[.slice none 0 0, .int .i64 0, .int .i64 0, .int .i64 0] 29)) (.slice ya2 PP yc2) (a.take PP)) := HRDA.out.below bA
         have X14 : Hid (B4F ((wr.drewN 1).alloc (.cells #[.slice none 0 0, .int .i64 0, .int .i64 0, .int .i64 0] 29)) wr.heap.size (.slice none 0 0) (.int .i64 0) (.int .i64 0) (.int .i64 0)) := B4F.new (wr.drewN 1) _ _ _ _ _
         have BA : Hid (Below wr.heap.size (wr.drewN 1) ((wr.drewN 1).alloc (.cells #[.slice none 0 0, .int .i64 0, .int .i64 0, .int .i64 0] 29))) := bA
         have z14 : ((wr.drewN 1).alloc (.cells #[.slice none 0 0, .int .i64 0, .int .i64 0, .int .i64 0] 29)).heap.size = wr.heap.size + 1 := by simp
         clear bA
         go_simp
         rw [show (wr.alloc (.cells #[.slice none 0 0, .int .i64 0, .int .i64 0, .int .i64 0] 29)).drew = (wr.drewN 1).alloc (.cells #[.slice none 0 0, .int .i64 0, .int .i64 0, .int .i64 0] 29) from rfl]
         generalize (wr.drewN 1).alloc (.cells #[.slice none 0 0, .int .i64 0, .int .i64 0, .int .i64 0] 29) = w14 at *
         refine hK.out _ _ (TW14.out) (fun hx9 => ?_)
         clear hK K hHeld
         have hHeld := hx9
         clear hx9
         try simp only [Act.put, sT9, sZ9, sS9]
         refine wpAnyH_ready (rs := [5]) (by kernel_rfl) (by simp) ?_
         refine AllReadyH.cons (o := ⟨some 109, _, _, _, _, _⟩) rfl (fun K hK => ?_) AllReadyH.nil
         go_simp
         refine (HCI.out _ _ _ TW14.out.rt RD14.out HFA.out).mono ?_
         intro e w15 h9
         obtain ⟨ha, hc, rfl, o15, b15⟩ := HRP.out _ _ _ h9
         clear h9
         have TW15 := hd9 (TW14.out.below b15)
         have X15 := hd9 (X14.out.below b15)
         have b16 : Below wr.heap.size (wr.drewN 1) ((((w15.setCell ⟨wr.heap.size, 0, none⟩ (.slice ha H.1.length hc)).setCell ⟨wr.heap.size, 1, none⟩ (.int .i64 H.2.1)).setCell ⟨wr.heap.size, 2, none⟩ (.int .i64 ((H.2.2 : Nat) : Int))).setCell ⟨wr.heap.size, 3, none⟩ (.int .i64 HE)) := by
          refine Below.setCell (Below.setCell (Below.setCell (Below.setCell (BA.out.trans (b15.mono (by omega))) ?_ _) ?_ _) ?_ _) ?_ _ <;> exact Nat.le_refl _
         have TW16 := hd9 (TWd.out.below b16)
         have N16 : Hid (RdN ((((w15.setCell ⟨wr.heap.size, 0, none⟩ (.slice ha H.1.length hc)).setCell ⟨wr.heap.size, 1, none⟩ (.int .i64 H.2.1)).setCell ⟨wr.heap.size, 2, none⟩ (.int .i64 ((H.2.2 : Nat) : Int))).setCell ⟨wr.heap.size, 3, none⟩ (.int .i64 HE)) (.slice ha H.1.length hc) H.1) := o15.rd.tchK (OwnN.offK o15 (show wr.heap.size < w14.heap.size by omega)) ((((tch_set w15 wr.heap.size 0 _).trans (tch_set _ wr.heap.size 1 _)).trans (tch_set _ wr.heap.size 2 _)).trans (tch_set _ wr.heap.size 3 _))
         have X16 : Hid (B4F ((((w15.setCell ⟨wr.heap.size, 0, none⟩ (.slice ha H.1.length hc)).setCell ⟨wr.heap.size, 1, none⟩ (.int .i64 H.2.1)).setCell ⟨wr.heap.size, 2, none⟩ (.int .i64 ((H.2.2 : Nat) : Int))).setCell ⟨wr.heap.size, 3, none⟩ (.int .i64 HE)) wr.heap.size (.slice ha H.1.length hc) (.int .i64 H.2.1) (.int .i64 ((H.2.2 : Nat) : Int)) (.int .i64 HE)) := (((X15.out.set0 _).set1 _).set2 _).set3 _
         clear b16 b15 o15 TW14 BA X14 RD14
         refine hK.out _ _ (TW15.out) (fun hx9 => ?_)
         clear hK K hHeld
         have hHeld := hx9
         clear hx9
         try simp only [Act.put, sT9, sZ9, sS9]
         refine wpAnyH_ready (rs := [7]) (by kernel_rfl) (by simp) ?_
         refine AllReadyH.cons (o := ⟨none, _, _, _, _, _⟩) rfl (fun K hK => ?_) AllReadyH.nil
         obtain ⟨xl, ⟨d0, d1, d2, d3⟩, f0, f1, f2, f3⟩ := X15.out
         go_simp
         refine hK.out _ _ (TW16.out) (fun hx9 => ?_)
         clear hK K hHeld hx9
         try simp only [Act.put, sT9, sZ9, sS9]
         refine wpAnyH_done (by kernel_rfl) ?_ _
         clear xl d0 d1 d2 d3 f0 f1 f2 f3 X15 TW15
         generalize ((((w15.setCell ⟨wr.heap.size, 0, none⟩ (.slice ha H.1.length hc)).setCell ⟨wr.heap.size, 1, none⟩ (.int .i64 H.2.1)).setCell ⟨wr.heap.size, 2, none⟩ (.int .i64 ((H.2.2 : Nat) : Int))).setCell ⟨wr.heap.size, 3, none⟩ (.int .i64 HE)) = w16 at *
         generalize wr.heap.size = HB at *
         exact REST w16 HB ha hc ⟨TW16, N16, X16⟩
     · intro w16 HB ha hc
       rintro ⟨TW16, N16, X16⟩
       clear TWd HRDA HFA HCI HRP HFG
       obtain ⟨-, ⟨d0, d1, d2, d3⟩, -⟩ := X16.out
       go_wp2_with fail
       clear d0 d1 d2 d3
       refine (HI.out w16 H.1 H.2.1 ha hc a ya2 yc2 N16.out (by have := HHL.out.1; omega) (good_sz HHL.out.2) TW16.out.oa.rd HAB.out (by omega) (HFM.out _ _ _ _ _ _ TW16.out.oa)).mono ?_
       intro e w17 h9
       obtain ⟨ua, uc, rfl, o17, b17⟩ : ∃ va vc, e = .returned (.agg #[.slice va R.1.length vc, .int .i64 R.2.1, .int .i64 ((R.2.2 : Nat) : Int), .int .i64 E]) ∧ OwnN 85 w17 w16.heap.size (.slice va R.1.length vc) R.1 ∧ Below w16.heap.size w16 w17 := by
        have h8 := h9
        unfold RqPost at h8
        rw [HH.out.2.1, HH.out.2.2] at h8
        exact h8
       clear h9
       have bA : Below w17.heap.size w17 (w17.alloc (.cells #[.slice ua R.1.length uc, .int .i64 R.2.1, .int .i64 ((R.2.2 : Nat) : Int), .int .i64 E] 29)) := (Below.refl _ _).alloc (Nat.le_refl _) _
       have b68 := b17.trans (bA.mono b17.size)
       have TW18 := hd9 (TW16.out.below b68)
       have X18 := hd9 (X16.out.below b68)
       have U18 : Hid (B4F (w17.alloc (.cells #[.slice ua R.1.length uc, .int .i64 R.2.1, .int .i64 ((R.2.2 : Nat) : Int), .int .i64 E] 29)) w17.heap.size (.slice ua R.1.length uc) (.int .i64 R.2.1) (.int .i64 ((R.2.2 : Nat) : Int)) (.int .i64 E)) := B4F.new _ _ _ _ _ _
       have M18 : Hid (RdN (w17.alloc (.cells #[.slice ua R.1.length uc, .int .i64 R.2.1, .int .i64 ((R.2.2 : Nat) : Int), .int .i64 E] 29)) (.slice ua R.1.length uc) R.1) := (o17.below bA).rd
       clear bA b68 b17 o17 TW16 X16 N16
       obtain ⟨-, ⟨d0, d1, d2, d3⟩, -⟩ := X18.out
       obtain ⟨-, ⟨e0, e1, e2, e3⟩, -⟩ := U18.out
       obtain ⟨-, ⟨g0, g1, g2, g3⟩, -⟩ := TW18.out.bo
       have hjI : ((H.2.2 : Nat) : Int) = (j : Int) := by rw [HH.out.1]
       rw [hjI] at d2
       go_wp2_with fail
       clear d0 d1 d2 d3 e0 e1 e2 e3 g0 g1 g2 g3
       generalize w17.alloc (.cells #[.slice ua R.1.length uc, .int .i64 R.2.1, .int .i64 ((R.2.2 : Nat) : Int), .int .i64 E] 29) = w18 at *
       generalize w17.heap.size = UB at *
       refine (sameTree_yes w18 _ _ R.1 M18.out TW18.out.ro (by omega)).mono ?_
       rintro e w19 ⟨rfl, b19⟩
       have HF : Hid (Below w.heap.size w w19) := TW18.out.bel.trans (b19.mono TW18.out.bel.size)
       obtain ⟨-, ⟨e0, e1, e2, e3⟩, -⟩ := U18.out.below b19
       obtain ⟨-, ⟨g0, g1, g2, g3⟩, -⟩ := TW18.out.bo.below b19
       clear b19 TW18 X18 U18 M18
       go_wp2
       go_ret
       exact ⟨rfl, HF.out⟩
end Go.Proofs.YtcopcegamadkgaaGreatDoor
namespace Go.Proofs.YtcopcegamadkgaaGreatDoor
open Go.RowKit
theorem lawTwice_walk (w : World) (v : Value) (xs : List Int) (h : Rd .u8 w v xs) (hby : Byt xs) (u : Value) (ms : List Int) (hm : Rd .u8 w u ms) (hmy : Byt ms) :
    Calls Tryz.prog 3 #[v, u] w fun e w' => e = .returned (.bool true) ∧ Below w.heap.size w w' := by
 obtain ⟨am, cm, rfl, -, -⟩ := hm.len
 obtain ⟨ca, cc, rfl, -, -⟩ := h.len
 by_cases hb : 1048576 < xs.length ∨ 1048576 < ms.length
 · exact lawTwice_big w ca am _ cc _ cm hb
 · exact lawTwice_core w ca am cc cm xs ms h hby hm hmy (by omega) (by omega)
end Go.Proofs.YtcopcegamadkgaaGreatDoor
namespace Go.Proofs.YtcopcegamadkgaaGreatDoor
open Go.ChangeShapes Go.WideShapes Go.ChangeAt Go.RowKit
theorem addr_add_none (b o i : Nat) : (⟨b, o, none⟩ : Addr).add i = ⟨b, o + i, none⟩ := Addr.add_lit ..
theorem rd_of {k : IntKind} {w : World} {x : Addr} {len cap : Nat} {zs : List Int} (hl : len ≤ cap) (hm : cap ≤ maxLen) (hz : zs.length = cap)
    (hcell : ∀ i, i < zs.length → w.cell? (x.add i) = some (.int k (zs.getD i 0))) : Rd k w (.slice (some x) len cap) (zs.take len) := by
 have hlen : (zs.take len).length = len := by simp; omega
 refine ⟨some x, cap, by rw [hlen], by rw [hlen]; exact hl, hm, ?_⟩
 by_cases h0 : len = 0
 · subst h0; exact .inl rfl
 · right
   obtain ⟨b, off, spot⟩ := x
   have hc := hcell 0 (by omega)
   have hspot : spot = none := by simpa [Addr.add] using World.cell?_spot hc
   subst hspot
   refine ⟨b, off, rfl, ?_, fun i hi => ?_⟩
   · have := World.block_lt_of_cell? w _ hc
     simpa [Addr.add] using this
   · rw [hlen] at hi
     have := hcell i (by omega)
     rw [addr_add_none] at this
     rw [this]
     simp [List.getD, List.getElem?_take_of_lt hi]
theorem byt_of {zs : List Int} {len : Nat} (h : ∀ n ∈ zs, (Lit.int .u8 n).wf = true) : Byt (zs.take len) := by
 intro x hx
 have := h x (List.mem_of_mem_take hx)
 have b := bounds_u8 this
 omega
theorem open_bytes {H : Type} {enc : TypeId × Value → H} {W : World} {a0 : Option Addr} {len0 cap0 : Nat} {d0 : DataW H} {p0 : List MemPlace} {base : Nat} {b : Bool}
    (h0 : DataW.Trod enc Tryz.prog W base (fun _ => true) b 22 (.slice a0 len0 cap0) d0 p0) : ∃ xs, Rd .u8 W (.slice a0 len0 cap0) xs ∧ Byt xs := by
 obtain ⟨fuel, hf⟩ := h0
 rcases open_ints Tryz.underlying22 Tryz.underlying5 (by kernel_rfl) hf with ⟨hcs, _⟩ | ⟨x, l, c, zs, hcs, _, hl, hm, hz, _, hcell, hwz⟩
 · simp [Value.cells] at hcs
   obtain ⟨rfl, rfl, rfl⟩ := hcs
   exact ⟨[], ⟨none, 0, rfl, Nat.le_refl _, Nat.zero_le _, .inl rfl⟩, fun x hx => by cases hx⟩
 · simp [Value.cells] at hcs
   obtain ⟨rfl, rfl, rfl⟩ := hcs
   exact ⟨zs.take len0, rd_of hl hm (by simpa using hz) hcell, byt_of hwz⟩
theorem knob : ownKnob Tryz.prog.godebug = none := by kernel_rfl
theorem laidOut : laidOutB Tryz.prog = true := by kernel_rfl
def gFirst (P : Program) : Nat := (P.globalNamed "unicode/utf8.first").getD 0
def gAccept (P : Program) : Nat := (P.globalNamed "unicode/utf8.acceptRanges").getD 0
def laidWorld (P : Program) (os : Os) : World :=
 let w0 := World.holding P os ⟨#[], #[], []⟩
 let put (h : Array Obj) (g : Nat) (cs : Array Value) : Array Obj := h.modify g fun
  | .cells _ t frozen => .cells cs t frozen
  | o => o
 let h1 := put w0.heap (gFirst P) (Go.Pinned.utf8FirstZ.map fun (z : Nat) => Value.int .u8 (z : Int)).toArray
 let h2 := put h1 (gAccept P) ((([128, 191, 160, 191, 128, 159, 144, 191, 128, 143] : List Int) ++ List.replicate 22 0).map fun (z : Int) => Value.int .u8 z).toArray
 { w0 with heap := h2 }
theorem laid_met (os : Os) (args : Array Value) : laidMet Tryz.prog [("unicode/utf8.acceptRanges", Rows.laid_unicode_utf8_acceptRanges), ("unicode/utf8.first", Rows.laid_unicode_utf8_first)] ((laidWorld Tryz.prog os).forCall (fun _ _ => 0) ⟨#[], args, []⟩).memory :=
 (LaidIn.of_run (l := [("unicode/utf8.acceptRanges", Rows.laid_unicode_utf8_acceptRanges), ("unicode/utf8.first", Rows.laid_unicode_utf8_first)]) [gAccept Tryz.prog, gFirst Tryz.prog] 8 (by kernel_rfl) (by kernel_rfl) (by kernel_rfl) (by kernel_rfl)).met
end Go.Proofs.YtcopcegamadkgaaGreatDoor


