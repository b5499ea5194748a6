import Derived.Test.YtejhcebodlcloaaGreatDoorJ13
import Derived.Laws.OwnMore
import Derived.Test.YtejhcebodlcloaaGreatDoorJ01
import Derived.Deep.RegionHeld
import Derived.Test.YtejhcebodlcloaaGreatDoorJ12
import Derived.Test.YtejhcebodlcloaaGreatDoorJ06
import Derived.Deep.RegionHeld3
namespace Go.Proofs.YtejhcebodlcloaaGreatDoor
open Go.RowKit Go.Shelf

/-- A struct of the call's own: its cells, which may be written. -/
structure St (W : World) (b : Nat) (L : List Value) : Prop where
  lt : b < W.heap.size
  fz : ∀ j, W.frozen? ⟨b, j, none⟩ = false
  cl : ∀ (j : Nat) (v : Value), L[j]? = some v → W.cell? ⟨b, j, none⟩ = some v
theorem St.belowB {W W' : World} {b m : Nat} {L : List Value} (h : St W b L) (hb : Below m W W') (hm : b < m) : St W' b L :=
  ⟨Nat.lt_of_lt_of_le h.lt hb.size, fun j => (hb.frozen (p := ⟨b, j, none⟩) hm).trans (h.fz j), fun j v hv => (hb.cell (p := ⟨b, j, none⟩) hm).trans (h.cl j v hv)⟩
theorem St.below {W W' : World} {b : Nat} {L : List Value} (h : St W b L) (hb : Below W.heap.size W W') : St W' b L := h.belowB hb h.lt
theorem St.set {W : World} {b : Nat} {L : List Value} (h : St W b L) (j : Nat) (x : Value) : St (W.setCell ⟨b, j, none⟩ x) b (L.set j x) := by
  refine ⟨by simpa using h.lt, fun i => by rw [World.frozen?_setCell]; exact h.fz i, fun i v hv => ?_⟩
  by_cases e : j = i
  · subst e
    have hj : j < L.length := by
      have := (List.getElem?_eq_some_iff.1 hv).1
      simpa using this
    rw [List.getElem?_set_self hj] at hv
    obtain rfl := Option.some.inj hv
    exact World.cell?_setCell_same _ _ _ (h.cl j _ (List.getElem?_eq_getElem hj))
  · rw [List.getElem?_set_ne e] at hv
    exact (World.cell?_setCell_other _ _ _ _ (by intro e9; injection e9 with e1 e2; first | exact e e2 | exact e e2.symm)).trans (h.cl i v hv)
theorem St.other {W : World} {b c j : Nat} {L : List Value} {x : Value} (h : St W b L) (hne : b ≠ c) : St (W.setCell ⟨c, j, none⟩ x) b L :=
  ⟨by simpa using h.lt, fun i => by rw [World.frozen?_setCell]; exact h.fz i, fun i v hv => (World.cell?_setCell_other _ _ _ _ (by intro e9; injection e9 with e1 e2; first | exact hne e1 | exact hne e1.symm)).trans (h.cl i v hv)⟩
theorem St.new (W : World) (cs : Array Value) (t : TypeId) : St (W.alloc (.cells cs t)) W.heap.size cs.toList := by
  refine ⟨by simp, fun j => by simp, fun j v hv => ?_⟩
  rw [cell_of_row _ _ j cs t (0, 0) (heap_alloc_new W _)]
  simpa using hv
/-- From one world to the next: block b and the row o have turned, nothing else; o' is the row now. -/
structure Tw (w : World) (b : Nat) (o : Option Nat) (w' : World) (o' : Option Nat) : Prop where
  os : w'.os = w.os
  tape : w'.tape = w.tape
  output : w'.output = w.output
  size : w.heap.size ≤ w'.heap.size
  block : ∀ q, q < w.heap.size → q ≠ b → o ≠ some q → w'.heap[q]? = w.heap[q]?
  own : o' = o ∨ o' = none ∨ ∃ g, o' = some g ∧ w.heap.size ≤ g
theorem Tw.ofBelow {w w' : World} (h : Below w.heap.size w w') (b : Nat) (o : Option Nat) : Tw w b o w' o := ⟨h.os, h.tape, h.output, h.size, fun q hq _ _ => h.block q hq, .inl rfl⟩
theorem Tw.refl (w : World) (b : Nat) (o : Option Nat) : Tw w b o w o := Tw.ofBelow (Below.refl _ _) b o
theorem Tw.trans {w w1 w2 : World} {b : Nat} {o o1 o2 : Option Nat} (h : Tw w b o w1 o1) (h' : Tw w1 b o1 w2 o2) : Tw w b o w2 o2 := by
  refine ⟨h'.os.trans h.os, h'.tape.trans h.tape, h'.output.trans h.output, Nat.le_trans h.size h'.size, fun q hq hb ho => ?_, ?_⟩
  · refine (h'.block q (Nat.lt_of_lt_of_le hq h.size) hb ?_).trans (h.block q hq hb ho)
    rcases h.own with e | e | ⟨g, e, hg⟩
    · rw [e]; exact ho
    · rw [e]; simp
    · rw [e]; intro e2; injection e2 with e2; omega
  · rcases h'.own with e | e | ⟨g, e, hg⟩
    · rw [e]; exact h.own
    · exact .inr (.inl e)
    · exact .inr (.inr ⟨g, e, Nat.le_trans h.size hg⟩)
theorem Tw.below {w w' : World} {b B : Nat} {o o' : Option Nat} (h : Tw w b o w' o') (hB : B ≤ w.heap.size) (hb : B ≤ b) (ho : ∀ g, o = some g → B ≤ g) : Below B w w' :=
  ⟨h.os, h.tape, h.output, h.size, fun q hq => h.block q (by omega) (by omega) (fun e => by have := ho q e; omega)⟩
theorem Tw.st {w w' : World} {b c : Nat} {o o' : Option Nat} {L : List Value} (h : Tw w b o w' o') (hs : St w c L) (hne : c ≠ b) (ho : o ≠ some c) : St w' c L := by
  have e := h.block c hs.lt hne ho
  refine ⟨Nat.lt_of_lt_of_le hs.lt h.size, fun j => ?_, fun j v hv => (World.cell?_of_block (w := w) (a := ⟨c, j, none⟩) e).trans (hs.cl j v hv)⟩
  have := hs.fz j
  unfold World.frozen? at this ⊢
  rw [e]; exact this
theorem Tw.set {w w' : World} {b j : Nat} {o o' : Option Nat} {x : Value} (h : Tw w b o w' o') : Tw w b o (w'.setCell ⟨b, j, none⟩ x) o' := by
  refine ⟨h.os, h.tape, h.output, by simpa using h.size, fun q hq hb ho => ?_, h.own⟩
  rw [Below.heap_setCell w' ⟨b, j, none⟩ x q hb]
  exact h.block q hq hb ho

theorem nrow_put : ∀ (ns : List Nd) (k f : Nat) (u : Value) (m : Nd), k < ns.length → f < 7 → ndL m = (ndL (nAt ns k)).set f u → (nrow ns).set (k * 7 + f) u = nrow (ns.set k m)
  | [], k, f, u, m, h, _, _ => by simp at h
  | a :: ns, 0, f, u, m, _, hf, hm => by
    rw [nrow_cons, List.set_cons_zero, nrow_cons, List.set_append_left _ _ (by show 0 * 7 + f < (ndL a).length; rw [show (ndL a).length = 7 from rfl]; omega), hm]
    simp [nAt]
  | a :: ns, k + 1, f, u, m, h, hf, hm => by
    rw [nrow_cons, List.set_cons_succ, nrow_cons, List.set_append_right _ _ (by show (ndL a).length ≤ _; rw [show (ndL a).length = 7 from rfl]; omega), show (k + 1) * 7 + f - (ndL a).length = k * 7 + f by rw [show (ndL a).length = 7 from rfl]; omega, nrow_put ns k f u m (by simpa using h) hf (by rw [hm]; simp [nAt])]
/-- One field of a node of the row is written. -/
theorem OwnN.put {w : World} {lo g c : Nat} {ns : List Nd} (h : OwnN 70 w lo (.slice (some ⟨g, 0, none⟩) ns.length c) ns) {k f : Nat} {u : Value} {m : Nd} (hk : k < ns.length) (hf : f < 7) (hm : ndL m = (ndL (nAt ns k)).set f u) :
    OwnN 70 (w.setCell ⟨g, k * 7 + f, none⟩ u) lo (.slice (some ⟨g, 0, none⟩) (ns.set k m).length c) (ns.set k m) ∧ w.grownBy (w.setCell ⟨g, k * 7 + f, none⟩ u) (some g) := by
  have h9 := World.ownsRow.stored h (k * 7 + f) u
  rw [nrow_put ns k f u m hk hf hm] at h9
  unfold OwnN
  rw [List.length_set]
  exact h9
/-- The draft: its nodes and its number. -/
structure Df (W : World) (D lo : Nat) (z : Int) (v : Value) (ns : List Nd) : Prop where
  s : St W D [v, .int .i64 z]
  o : OwnN 70 W lo v ns
  ne : v.ownBlock ≠ some D
  n : Snd ns
theorem Df.below {W W' : World} {D lo : Nat} {z : Int} {v : Value} {ns : List Nd} (h : Df W D lo z v ns) (hb : Below W.heap.size W W') : Df W' D lo z v ns := ⟨h.s.below hb, h.o.below hb, h.ne, h.n⟩

end Go.Proofs.YtejhcebodlcloaaGreatDoor
namespace Go.Proofs.YtejhcebodlcloaaGreatDoor
open Go.RowKit
section
variable {P : Program} {md : Region.Mode} {ops : Array Oper} {Q : Exit → Act → World → Prop} {S : World → Prop} {fuel : Nat} {listed : Array Bool} {a : Act} {w : World} {d : Option Nat} {op : Op} {ty : TypeId} {ps : String} {af : Array Edge} {gu : Option (Nat × Bool)} {os : List Oper}
theorem tkE9 (i : Nat) (v : Value) (hi : ops[i]? = some ⟨d, op, ty, ps, af, gu⟩) (hb : ((Region.noSelect ops && (Region.free md ops listed i && (Region.ready md ops listed).contains i)) && (Region.wanted ⟨d, op, ty, ps, af, gu⟩ (yielded ops a.tmps) == true)) = true) (hQ : ∀ p : List PanicEntry × Act × World, Q (.panic p.1) (p.2.1.put d v) p.2.2 → Q (.panic p.1) p.2.1 p.2.2) (hS : S w) (hy : ∀ w, S w → (execOp a.eval ⟨d, op, ty, ps, af, gu⟩).run P w = .ok (.value v) w) (h : wpAnyH P md ops Q S fuel (listed.setIfInBounds i true) (a.put d v) w) : wpAnyH P md ops Q S (fuel + 1) listed a w := tkL9 hi (Bool.and_eq_true_iff.1 hb).1 (fun c a w h => hQ (c, a, w) h) (beq_iff_eq.1 (Bool.and_eq_true_iff.1 hb).2) hS hy h
theorem tkI9 (v : Value) (hb : (ops[ops.size - (os.length + 1)]?, ((Region.noSelect ops && (Region.free md ops listed (ops.size - (os.length + 1)) && (Region.ready md ops listed).contains (ops.size - (os.length + 1)))) && (Region.wanted ⟨d, op, ty, ps, af, gu⟩ (yielded ops a.tmps) == true))) = (some ⟨d, op, ty, ps, af, gu⟩, true)) (hQ : ∀ p : List PanicEntry × Act × World, Q (.panic p.1) (p.2.1.put d v) p.2.2 → Q (.panic p.1) p.2.1 p.2.2) (hS : S w) (hy : ∀ w, S w → (execOp a.eval ⟨d, op, ty, ps, af, gu⟩).run P w = .ok (.value v) w) (h : wpAnyH P md ops Q S os.length (listed.setIfInBounds (ops.size - (os.length + 1)) true) (a.put d v) w) : wpAnyH P md ops Q S (⟨d, op, ty, ps, af, gu⟩ :: os).length listed a w := tkE9 _ v (Prod.mk.inj hb).1 (Prod.mk.inj hb).2 hQ hS hy h
theorem tkU9 (i : Nat) (hi : ops[i]? = some ⟨d, op, ty, ps, af, gu⟩) (hb : ((Region.noSelect ops && (Region.free md ops listed i && (Region.ready md ops listed).contains i)) && (Region.wanted ⟨d, op, ty, ps, af, gu⟩ (yielded ops a.tmps) == false)) = true) (hQ : ∀ p : List PanicEntry × Act × World, Q (.panic p.1) (p.2.1.put d undef) p.2.2 → Q (.panic p.1) p.2.1 p.2.2) (hS : S w) (h : wpAnyH P md ops Q S fuel (listed.setIfInBounds i true) (a.put d undef) w) : wpAnyH P md ops Q S (fuel + 1) listed a w := tkR9 hi (Bool.and_eq_true_iff.1 hb).1 (fun c a w h => hQ (c, a, w) h) (beq_iff_eq.1 (Bool.and_eq_true_iff.1 hb).2) hS h
theorem tkN9 (hb : (ops[ops.size - (os.length + 1)]?, ((Region.noSelect ops && (Region.free md ops listed (ops.size - (os.length + 1)) && (Region.ready md ops listed).contains (ops.size - (os.length + 1)))) && (Region.wanted ⟨d, op, ty, ps, af, gu⟩ (yielded ops a.tmps) == false))) = (some ⟨d, op, ty, ps, af, gu⟩, true)) (hQ : ∀ p : List PanicEntry × Act × World, Q (.panic p.1) (p.2.1.put d undef) p.2.2 → Q (.panic p.1) p.2.1 p.2.2) (hS : S w) (h : wpAnyH P md ops Q S os.length (listed.setIfInBounds (ops.size - (os.length + 1)) true) (a.put d undef) w) : wpAnyH P md ops Q S (⟨d, op, ty, ps, af, gu⟩ :: os).length listed a w := tkU9 _ (Prod.mk.inj hb).1 (Prod.mk.inj hb).2 hQ hS h
theorem rdA9 (i : Nat) (ho : ops[i]? = some ⟨d, op, ty, ps, af, gu⟩) (hr : Region.ready md ops listed = [i]) (h : ∀ K' : Act → World → Prop, Shut (∀ a w, S w → (S w → wpAnyH P md ops Q S fuel (listed.setIfInBounds i true) a w) → K' a w) → if Region.wanted ⟨d, op, ty, ps, af, gu⟩ (yielded ops a.tmps) = true then Oper.wp P ⟨d, op, ty, ps, af, gu⟩ a w K' Q else K' (a.put d undef) w) : wpAnyH P md ops Q S (fuel + 1) listed a w := wpAnyH_ready hr (by simp) (AllReadyH.cons ho h AllReadyH.nil)
theorem rdB9 (i j : Nat) {d2 : Option Nat} {op2 : Op} {ty2 : TypeId} {ps2 : String} {af2 : Array Edge} {gu2 : Option (Nat × Bool)} (ho : ops[i]? = some ⟨d, op, ty, ps, af, gu⟩) (ho2 : ops[j]? = some ⟨d2, op2, ty2, ps2, af2, gu2⟩) (hr : Region.ready md ops listed = [i, j]) (h : ∀ K' : Act → World → Prop, Shut (∀ a w, S w → (S w → wpAnyH P md ops Q S fuel (listed.setIfInBounds i true) a w) → K' a w) → if Region.wanted ⟨d, op, ty, ps, af, gu⟩ (yielded ops a.tmps) = true then Oper.wp P ⟨d, op, ty, ps, af, gu⟩ a w K' Q else K' (a.put d undef) w) (h2 : ∀ K' : Act → World → Prop, Shut (∀ a w, S w → (S w → wpAnyH P md ops Q S fuel (listed.setIfInBounds j true) a w) → K' a w) → if Region.wanted ⟨d2, op2, ty2, ps2, af2, gu2⟩ (yielded ops a.tmps) = true then Oper.wp P ⟨d2, op2, ty2, ps2, af2, gu2⟩ a w K' Q else K' (a.put d2 undef) w) : wpAnyH P md ops Q S (fuel + 1) listed a w := wpAnyH_ready hr (by simp) (AllReadyH.cons ho h (AllReadyH.cons ho2 h2 AllReadyH.nil))
end
end Go.Proofs.YtejhcebodlcloaaGreatDoor
namespace Go.Proofs.YtejhcebodlcloaaGreatDoor
open Go.RowKit Go.Shelf

theorem OwnN.at {e : TypeId} {w : World} {lo : Nat} {v : Value} {ns : List Nd} (h : OwnN e w lo v ns) {k : Nat} (hk : k < ns.length) : ∃ g c, v = .slice (some ⟨g, 0, none⟩) ns.length c ∧ lo ≤ g ∧ g < w.heap.size ∧ ∀ i, i < ns.length → CellsN w g (i * 7) (nAt ns i) := by
  have hr := h.rd
  rcases h.2 with ⟨rfl, h0⟩ | ⟨g, cap, cur, rfl, hb, hg, hn, hm, hs, ht⟩
  · omega
  · refine ⟨g, cap, rfl, hb, (Array.getElem?_eq_some_iff.1 hg).1, fun i hi => ?_⟩
    obtain ⟨ao, c9, e9, -, -, h3⟩ := hr
    simp only [Value.slice.injEq] at e9
    rcases h3 with h3 | ⟨b, off, e8, hlt, hc⟩
    · rw [h3] at hk; simp at hk
    · rw [e8] at e9
      simp only [Option.some.injEq, Addr.mk.injEq] at e9
      obtain ⟨⟨rfl, rfl, -⟩, -⟩ := e9
      have := hc i hi
      rwa [Nat.zero_add] at this
/-- A fault. -/
def flt (c : Int) : Value := .iface 66 (.agg #[.int .i64 c])
/-- What wanted answers. -/
def wanV (ns : List Nd) (o : Op5) : Array Value :=
  if ¬ ns.findIdx (isP o.path) < ns.length then #[.int .i64 0, flt 2]
  else if o.ver ≠ -1 ∧ o.ver ≠ (nAt ns (ns.findIdx (isP o.path))).ver then #[.int .i64 0, flt 4]
  else #[.int .i64 (ns.findIdx (isP o.path) : Int), .nilIface]

set_option linter.unusedSimpArgs false in
set_option maxHeartbeats 2000000 in
set_option maxRecDepth 100000 in
theorem wanted_any (w : World) (D lo : Nat) (z : Int) (v : Value) (ns : List Nd) (o : Op5) (h : Df w D lo z v ns) :
    Calls Tryz.prog 91 #[.pointer (some ⟨D, 0, none⟩), .agg #[.int .i64 o.kind, .string o.path, .string o.data, .int .i64 o.ver, .bool o.seq]] w fun e w' => e = .returned (.tuple (wanV ns o)) ∧ Below w.heap.size w w' := by
  obtain ⟨kind, path, data, ver, seq⟩ := o
  simp only at *
  have hlt := h.s.lt
  obtain ⟨FD, hFD⟩ : ∃ b, b = decide (ns.findIdx (isP path) < ns.length) := ⟨_, rfl⟩
  have HF : Hid (∀ W, Below w.heap.size w W → Calls Tryz.prog 86 #[v, .string path] W fun e w' => e = .returned (.tuple #[.int .i64 (plc ns path : Int), .bool FD]) ∧ Below W.heap.size W w') := fun W hW => by
    rw [hFD]; exact find9 W v ns path (h.o.below hW).rd h.n
  have HFD := hd9 hFD
  clear hFD
  have B0 : Hid (Below w.heap.size w (w.alloc (.cells #[.int .i64 kind, .string path, .string data, .int .i64 ver, .bool seq] 58))) := (Below.refl _ _).alloc (Nat.le_refl _) _
  have XO : Hid (St (w.alloc (.cells #[.int .i64 kind, .string path, .string data, .int .i64 ver, .bool seq] 58)) w.heap.size [.int .i64 kind, .string path, .string data, .int .i64 ver, .bool seq]) := St.new _ _ _
  have XD : Hid (Df (w.alloc (.cells #[.int .i64 kind, .string path, .string data, .int .i64 ver, .bool seq] 58)) D lo z v ns) := h.below B0.out
  clear h
  go_enter Tryz.func91, Tryz.ntmps91
  go_wp2_with fail
  generalize w.alloc _ = w0 at *
  refine wp_region_held_drew (S := fun W => W.cell? ⟨D, 0, none⟩ = some v ∧ W.cell? ⟨w.heap.size, 1, none⟩ = some (.string path)) (by kernel_rfl) ⟨(XD.out.below (below_drewN' w0 1)).s.cl 0 _ rfl, (XO.out.below (below_drewN' w0 1)).cl 1 _ rfl⟩ (fun hHeld => ?_)
  have B1 : Hid (Below w.heap.size w w0.drew) := B0.out.trans ((below_drewN' w0 1).mono B0.out.size)
  have X1 : Hid (St w0.drew w.heap.size [.int .i64 kind, .string path, .string data, .int .i64 ver, .bool seq]) := XO.out.below (below_drewN' w0 1)
  have D1 : Hid (Df w0.drew D lo z v ns) := XD.out.below (below_drewN' w0 1)
  clear B0 XO XD
  generalize w0.drew = w1 at *
  iterate 6 (refine tkI9 ?_ (by kernel_rfl) (fun _ => id) hHeld ?_ ?_; rotate_left; · intro w9 hS9; obtain ⟨k0, k1⟩ := hS9; go_simp; try with_reducible rfl)
  refine rdA9 6 rfl (by kernel_rfl) (fun K hK => ?_)
  go_simp
  refine (HF.out _ B1.out).mono ?_
  rintro e w2 ⟨rfl, b2⟩
  have B2 : Hid (Below w.heap.size w w2) := B1.out.trans (b2.mono B1.out.size)
  have X2 : Hid (St w2 w.heap.size [.int .i64 kind, .string path, .string data, .int .i64 ver, .bool seq]) := X1.out.below b2
  have D2 : Hid (Df w2 D lo z v ns) := D1.out.below b2
  clear hHeld b2 B1 X1 D1
  refine hK.out _ _ ⟨D2.out.s.cl 0 _ rfl, X2.out.cl 1 _ rfl⟩ (fun hHeld => ?_)
  clear hK K
  iterate 5 (refine tkI9 ?_ (by kernel_rfl) (fun _ => id) hHeld ?_ ?_; rotate_left; · intro w9 hS9; clear hS9; go_simp; try with_reducible rfl)
  refine wpAnyH_done (by kernel_rfl) ?_ _
  simp only [Act.put, sT9, sZ9, sS9]
  clear hHeld HF
  cases FD with
  | true =>
    have hf : ns.findIdx (isP path) < ns.length := of_decide_eq_true HFD.out.symm
    have hpl := (idx_some D2.out.n.1 hf).2
    rw [hpl]
    clear hpl HFD
    obtain ⟨I, hI⟩ : ∃ I, I = ns.findIdx (isP path) := ⟨_, rfl⟩
    rw [← hI] at hf ⊢
    have hL : (I : Int) < (ns.length : Int) := by omega
    obtain ⟨g, gc, hv, hlo, hgl, hce⟩ := D2.out.o.at hf
    subst hv
    have HI := hd9 hI
    have HCE := hd9 hce
    clear hI hce
    have hg0 : (0 : Int) ≤ (I : Int) := by omega
    have HVR : Hid (wanV ns ⟨kind, path, data, ver, seq⟩ = (if ver ≠ -1 ∧ ver ≠ (nAt ns I).ver then #[.int .i64 0, flt 4] else #[.int .i64 (I : Int), .nilIface])) := by
      show _ = _
      unfold wanV
      simp only
      rw [if_neg (by rw [← HI.out]; omega), ← HI.out]
    clear HI
    go_wp2_with fail
    have X3 : Hid (St w2.drew w.heap.size [.int .i64 kind, .string path, .string data, .int .i64 ver, .bool seq]) := X2.out.below (below_drewN' w2 1)
    have D3 : Hid (Df w2.drew D lo z (.slice (some ⟨g, 0, none⟩) ns.length gc) ns) := D2.out.below (below_drewN' w2 1)
    have B3 : Hid (Below w.heap.size w w2.drew) := B2.out.trans ((below_drewN' w2 1).mono B2.out.size)
    refine wp_region_held_drew (S := fun W => W.cell? ⟨w.heap.size, 3, none⟩ = some (.int .i64 ver) ∧ W.cell? ⟨D, 0, none⟩ = some (.slice (some ⟨g, 0, none⟩) ns.length gc) ∧ W.cell? ⟨g, I * 7 + 2, none⟩ = some (.int .i64 (nAt ns I).ver)) (by kernel_rfl) ⟨X3.out.cl 3 _ rfl, D3.out.s.cl 0 _ rfl, ((HCE.out I hf).below (below_drewN' w2 1) hgl).all.2.2.1⟩ (fun hHeld => ?_)
    generalize w2.drew = w3 at *
    by_cases hv1 : ver = -1
    · subst hv1
      iterate 4 (refine tkI9 ?_ (by kernel_rfl) (fun _ => id) hHeld ?_ ?_; rotate_left; · intro w9 hS9; obtain ⟨k0, k1, k2⟩ := hS9; go_simp; try with_reducible rfl)
      iterate 11 (refine tkN9 (by kernel_rfl) (fun _ => id) hHeld ?_)
      iterate 1 (refine tkI9 ?_ (by kernel_rfl) (fun _ => id) hHeld ?_ ?_; rotate_left; · intro w9 hS9; clear hS9; go_simp; try with_reducible rfl)
      refine wpAnyH_done (by kernel_rfl) ?_ _
      simp only [Act.put, sT9, sZ9, sS9]
      clear hHeld
      have HV : Hid (wanV ns ⟨kind, path, data, -1, seq⟩ = #[.int .i64 (I : Int), .nilIface]) := by show _ = _; rw [HVR.out]; simp
      go_wp2_with fail
      rw [HV.out]
      exact bodyPost_ret (v := .tuple #[.int .i64 (I : Int), .nilIface]) (by simp [results, Tryz.results91, go_sem]) rfl ⟨rfl, B3.out⟩
    · have hne : (ver != -1) = true := by simp [hv1]
      by_cases hv2 : ver = (nAt ns I).ver
      · have hn2 : (ver != (nAt ns I).ver) = false := by simp [hv2]
        have HV : Hid (wanV ns ⟨kind, path, data, ver, seq⟩ = #[.int .i64 (I : Int), .nilIface]) := by show _ = _; rw [HVR.out, if_neg (by simp [hv2])]
        clear HVR
        iterate 2 (refine tkI9 ?_ (by kernel_rfl) (fun _ => id) hHeld ?_ ?_; rotate_left; · intro w9 hS9; obtain ⟨k0, k1, k2⟩ := hS9; go_simp; try with_reducible rfl)
        refine tkI9 (.bool true) (by kernel_rfl) (fun _ => id) hHeld ?_ ?_
        · intro w9 hS9; clear hS9; go_simp; try (first | exact hv1 | simp_all)
        iterate 11 (refine tkI9 ?_ (by kernel_rfl) (fun _ => id) hHeld ?_ ?_; rotate_left; · intro w9 hS9; obtain ⟨k0, k1, k2⟩ := hS9; go_simp; try with_reducible rfl)
        refine tkI9 (.bool false) (by kernel_rfl) (fun _ => id) hHeld ?_ ?_
        · intro w9 hS9; clear hS9; go_simp; try (first | exact hv1 | simp_all)
        iterate 1 (refine tkI9 ?_ (by kernel_rfl) (fun _ => id) hHeld ?_ ?_; rotate_left; · intro w9 hS9; clear hS9; go_simp; try with_reducible rfl)
        refine wpAnyH_done (by kernel_rfl) ?_ _
        simp only [Act.put, sT9, sZ9, sS9]
        clear hHeld hv1 hne hn2
        go_wp2_with fail
        rw [HV.out]
        exact bodyPost_ret (v := .tuple #[.int .i64 (I : Int), .nilIface]) (by simp [results, Tryz.results91, go_sem, flt]) rfl ⟨rfl, B3.out⟩
      · have hn2 : (ver != (nAt ns I).ver) = true := by simp [hv2]
        have HV : Hid (wanV ns ⟨kind, path, data, ver, seq⟩ = #[.int .i64 0, flt 4]) := by show _ = _; rw [HVR.out, if_pos ⟨hv1, hv2⟩]
        clear HVR
        iterate 2 (refine tkI9 ?_ (by kernel_rfl) (fun _ => id) hHeld ?_ ?_; rotate_left; · intro w9 hS9; obtain ⟨k0, k1, k2⟩ := hS9; go_simp; try with_reducible rfl)
        refine tkI9 (.bool true) (by kernel_rfl) (fun _ => id) hHeld ?_ ?_
        · intro w9 hS9; clear hS9; go_simp; try (first | exact hv1 | simp_all)
        iterate 11 (refine tkI9 ?_ (by kernel_rfl) (fun _ => id) hHeld ?_ ?_; rotate_left; · intro w9 hS9; obtain ⟨k0, k1, k2⟩ := hS9; go_simp; try with_reducible rfl)
        refine tkI9 (.bool true) (by kernel_rfl) (fun _ => id) hHeld ?_ ?_
        · intro w9 hS9; clear hS9; go_simp; try (first | exact hv1 | simp_all)
        iterate 1 (refine tkI9 ?_ (by kernel_rfl) (fun _ => id) hHeld ?_ ?_; rotate_left; · intro w9 hS9; clear hS9; go_simp; try with_reducible rfl)
        refine wpAnyH_done (by kernel_rfl) ?_ _
        simp only [Act.put, sT9, sZ9, sS9]
        clear hHeld hv1 hne hn2
        go_wp2_with fail
        rw [HV.out]
        exact bodyPost_ret (v := .tuple #[.int .i64 0, flt 4]) (by simp [results, Tryz.results91, go_sem, flt]) rfl ⟨rfl, B3.out⟩
  | false =>
    have hf : ¬ ns.findIdx (isP path) < ns.length := of_decide_eq_false HFD.out.symm
    have HV : Hid (wanV ns ⟨kind, path, data, ver, seq⟩ = #[.int .i64 0, flt 2]) := by show _ = _; unfold wanV; rw [if_pos hf]
    clear hf HFD
    go_wp2_with fail
    rw [HV.out]
    exact bodyPost_ret (v := .tuple #[.int .i64 0, flt 2]) (by simp [results, Tryz.results91, go_sem, flt]) rfl ⟨rfl, B2.out⟩


/-- What a judge answers: a path and no fault, or a fault. -/
def chkV (ns : List Nd) (o : Op5) : Array Value :=
  if ¬ ns.findIdx (isP o.path) < ns.length then #[.string ByteArray.empty, flt 2]
  else if o.ver ≠ -1 ∧ o.ver ≠ (nAt ns (ns.findIdx (isP o.path))).ver then #[.string ByteArray.empty, flt 4]
  else #[.string o.path, .nilIface]

set_option linter.unusedSimpArgs false in
set_option maxHeartbeats 2000000 in
set_option maxRecDepth 100000 in
theorem check_any (w : World) (D lo : Nat) (z : Int) (v : Value) (ns : List Nd) (o : Op5) (h : Df w D lo z v ns) :
    Calls Tryz.prog 77 #[.pointer (some ⟨D, 0, none⟩), .agg #[.int .i64 o.kind, .string o.path, .string o.data, .int .i64 o.ver, .bool o.seq]] w fun e w' => e = .returned (.tuple (chkV ns o)) ∧ Below w.heap.size w w' := by
  have B0 : Hid (Below w.heap.size w (w.alloc (.cells #[.int .i64 o.kind, .string o.path, .string o.data, .int .i64 o.ver, .bool o.seq] 58))) := (Below.refl _ _).alloc (Nat.le_refl _) _
  have XO : Hid (St (w.alloc (.cells #[.int .i64 o.kind, .string o.path, .string o.data, .int .i64 o.ver, .bool o.seq] 58)) w.heap.size [.int .i64 o.kind, .string o.path, .string o.data, .int .i64 o.ver, .bool o.seq]) := St.new _ _ _
  have HW : Hid (∀ W, Below w.heap.size w W → Calls Tryz.prog 91 #[.pointer (some ⟨D, 0, none⟩), .agg #[.int .i64 o.kind, .string o.path, .string o.data, .int .i64 o.ver, .bool o.seq]] W fun e w' => e = .returned (.tuple (wanV ns o)) ∧ Below W.heap.size W w') := fun W hW => wanted_any W D lo z v ns o (h.below hW)
  have HV : Hid ((wanV ns o = #[.int .i64 0, flt 2] ∧ chkV ns o = #[.string ByteArray.empty, flt 2]) ∨ (wanV ns o = #[.int .i64 0, flt 4] ∧ chkV ns o = #[.string ByteArray.empty, flt 4]) ∨ ∃ I : Nat, wanV ns o = #[.int .i64 (I : Int), .nilIface] ∧ chkV ns o = #[.string o.path, .nilIface]) := by
    unfold wanV chkV
    split
    · exact .inl ⟨rfl, rfl⟩
    · split
      · exact .inr (.inl ⟨rfl, rfl⟩)
      · exact .inr (.inr ⟨_, rfl, rfl⟩)
  clear h
  go_enter Tryz.func77, Tryz.ntmps77
  go_wp2_with fail
  refine (HW.out _ B0.out).mono ?_
  rintro e w1 ⟨rfl, b1⟩
  have B1 := hd9 (B0.out.trans (b1.mono B0.out.size))
  have c1 := (XO.out.below b1).cl 1 _ rfl
  clear b1 B0 XO HW
  rcases HV.out with ⟨e1, e2⟩ | ⟨e1, e2⟩ | ⟨I, e1, e2⟩
  · have HE := hd9 e2
    rw [e1]
    clear e1 e2 HV
    unfold flt
    go_wp2_with fail
    rw [HE.out]
    exact bodyPost_ret (v := .tuple #[.string ByteArray.empty, flt 2]) (by simp [results, Tryz.results77, go_sem, flt]; try rfl) rfl ⟨rfl, B1.out⟩
  · have HE := hd9 e2
    rw [e1]
    clear e1 e2 HV
    unfold flt
    go_wp2_with fail
    rw [HE.out]
    exact bodyPost_ret (v := .tuple #[.string ByteArray.empty, flt 4]) (by simp [results, Tryz.results77, go_sem, flt]; try rfl) rfl ⟨rfl, B1.out⟩
  · have HE := hd9 e2
    rw [e1]
    clear e1 e2 HV
    go_wp2_with fail
    rw [HE.out]
    exact bodyPost_ret (v := .tuple #[.string o.path, .nilIface]) (by simp [results, Tryz.results77, go_sem]) rfl ⟨rfl, B1.out⟩


theorem isP_of {p q : ByteArray} (h : (q.toList == p.toList) = true) : isP q = isP p := by
  funext n
  unfold isP
  rw [eq_of_beq h]
theorem wi_set {ns : List Nd} (h : Asc ns) {n : Nd} (hl : ns.findIdx (isP n.path) < ns.length) : wiN ns n = ns.set (ns.findIdx (isP n.path)) n := by
  obtain ⟨h1, h2⟩ := idx_some h hl
  rw [wi_form n h, List.set_eq_take_append_cons_drop, if_pos hl]
  unfold skp
  rw [h1, if_pos rfl, h2]
/-- The parent is counted in its place. -/
theorem to_set {ns : List Nd} (h : Asc ns) {p : ByteArray} {z : Int} (hl : ns.findIdx (isP p) < ns.length) : toN ns p z = ns.set (ns.findIdx (isP p)) { nAt ns (ns.findIdx (isP p)) with cver := mor (nAt ns (ns.findIdx (isP p))).cver, pz := z } := by
  have hp := isP_of (found_mem hl).2
  unfold toN
  rw [if_pos hl, wi_set h (by show ns.findIdx (isP (nAt ns (ns.findIdx (isP p))).path) < _; rw [hp]; exact hl)]
  show ns.set (ns.findIdx (isP (nAt ns (ns.findIdx (isP p))).path)) _ = _
  rw [hp]
theorem to_none {ns : List Nd} {p : ByteArray} {z : Int} (hl : ¬ ns.findIdx (isP p) < ns.length) : toN ns p z = ns := by unfold toN; rw [if_neg hl]

end Go.Proofs.YtejhcebodlcloaaGreatDoor


