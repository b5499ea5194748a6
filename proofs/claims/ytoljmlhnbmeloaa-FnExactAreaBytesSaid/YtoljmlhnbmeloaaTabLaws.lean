import Derived.Test.YtoljmlhnbmeloaaTab
import Derived.Test.YtoljmlhnbmeloaaSpecSettle
import Derived.Deep.AppendLies
namespace Go.Proofs.Ytoljmlhnbmeloaa
open Go.RowKit

theorem wf_small (x : Int) (h0 : 0 ≤ x) (h : x ≤ 1048576) : (Lit.int .i64 x).wf = true := by
  have := wrap64_wf x
  rw [show wrap64 x = x by unfold wrap64; omega] at this
  exact this

theorem Rd.span {k : IntKind} {w : World} {b o n cap : Nat} {xs : List Int} (h : Rd k w (.slice (some ⟨b, o, none⟩) n cap) xs) (hl : xs.length = n) (h0 : 0 < n) : b < w.heap.size ∧ w.rangeAt b o (xs.map (Value.int k)) := by
  obtain ⟨b', o', e, hb, -⟩ := h.cellAt hl h0
  injection e with e
  injection e with e1 e2 _
  subst e1; subst e2
  refine ⟨hb, fun j v hv => ?_⟩
  have hj : j < xs.length := by have := (List.getElem?_eq_some_iff.1 hv).1; simpa using this
  obtain ⟨b', o', e, -, hc⟩ := h.cellAt hl (show j < n by omega)
  injection e with e
  injection e with e1 e2 _
  subst e1; subst e2
  rw [hc]
  simp [List.getElem?_eq_getElem hj] at hv
  simp [List.getD, hj, hv]

theorem rangeAt_blk {w w' : World} {b o : Nat} {cs : List Value} (h : w.rangeAt b o cs) (hc : w'.heap[b]? = w.heap[b]?) : w'.rangeAt b o cs := fun j v hv => (World.cell?_of_block (w := w) (a := ⟨b, o + j, none⟩) hc).trans (h j v hv)

theorem fill_step {place : Nat → Option (Nat × Nat)} {cells : Array Value} {i off : Nat} {v : Value} {rest : List (Nat × Value)} (hp : place i = some (off, v.cells.size)) (hs : off + v.cells.size ≤ cells.size) :
    Instr.fill place cells ((i, v) :: rest) = Instr.fill place ((v.cells.toList.zipIdx 0).foldl (fun cs (x : Value × Nat) => cs.setIfInBounds (off + x.2) x.1) cells) rest := by
  conv => lhs; unfold Instr.fill
  simp only [hp]
  rw [if_neg (by simp; omega)]
  congr 1
  rw [← Array.foldl_toList, Array.toList_zipIdx]

theorem fill_row (x : Int) (V : List Value) (hV : V.length = 64) (z : Array Value) (hz : z.size = 65) :
    Instr.fill (#[(0, 1), (1, 64)][·]?) z [(0, .int .i64 x), (1, .agg V.toArray)] = some (Value.int .i64 x :: V).toArray := by
  have s1 : (Value.int .i64 x).cells.size = 1 := rfl
  have s2 : (Value.agg V.toArray).cells.size = 64 := by show V.toArray.size = 64; simpa using hV
  obtain ⟨g1, g2⟩ := Great.foldl_set 0 (Value.int .i64 x).cells.toList 0 z
  rw [fill_step (by rw [s1]; rfl) (by rw [s1]; omega), fill_step (by rw [s2]; rfl) (by rw [s2, g1]; omega)]
  obtain ⟨k1, k2⟩ := Great.foldl_set 1 (Value.agg V.toArray).cells.toList 0 ((Value.int .i64 x).cells.toList.zipIdx 0 |>.foldl (fun cs (y : Value × Nat) => cs.setIfInBounds (0 + y.2) y.1) z)
  unfold Instr.fill
  congr 1
  apply Array.ext_getElem?
  intro k
  have hl : (Value.agg V.toArray).cells.toList.length = 64 := by rw [Array.length_toList]; exact s2
  have hl1 : (Value.int .i64 x).cells.toList.length = 1 := rfl
  rw [k2 k, g1, hz, hl, g2 k, hl1, hz]
  have e : (Value.agg V.toArray).cells.toList = V := by show V.toArray.toList = V; simp
  have eA : (Value.int .i64 x :: V).toArray[k]? = (Value.int .i64 x :: V)[k]? := by simp
  rw [e, eA]
  by_cases h0 : k = 0
  · subst h0; rfl
  · by_cases h1 : k < 65
    · rw [if_pos (by omega)]
      obtain ⟨j, rfl⟩ : ∃ j, k = j + 1 := ⟨k - 1, by omega⟩
      rw [List.getElem?_cons_succ, show j + 1 - (1 + 0) = j by omega]
    · rw [if_neg (by omega), if_neg (by omega), List.getElem?_eq_none (by rw [List.length_cons, hV]; omega), Array.getElem?_eq_none (by omega)]

theorem built_of {P : Program} {t : TypeId} {z : Value} {places : List (Nat × Nat)} {parts : List (Nat × Value)} {cells : Array Value}
    (h : (match P.info? t, P.underlying t with
      | some it, some (.struct fields) => (it.zero, fields.toList.mapM (fun f => (P.info? f.type).map fun i => (f.offset, i.size)))
      | _, _ => (none, none)) = (some z, some places)) (hf : Instr.fill (places.toArray[·]?) z.cells parts = some cells) : P.built t parts = some cells := by
  unfold Program.built
  cases h1 : P.info? t with
  | none => simp [h1] at h
  | some it =>
    cases h2 : P.underlying t with
    | none => simp [h1, h2] at h
    | some d =>
      cases d <;> try (simp [h1, h2] at h; done)
      case struct fields =>
        simp only [h1, h2, Prod.mk.injEq] at h
        simp only [h.1, h.2]
        exact hf

def zT : Value := .agg (Value.int .i64 0 :: List.replicate 64 (.int .u8 0)).toArray
theorem zT_size : zT.cells.size = 65 := by decide +kernel
theorem infoT2 : (Try.prog.info? 111).map (fun i => (i.zero, i.size, i.bytes)) = some (some zT, 65, 72) := by kernel_rfl
theorem built_row (x : Int) (V : List Value) (hV : V.length = 64) : Try.prog.built 111 [(0, .int .i64 x), (1, .agg V.toArray)] = some (Value.int .i64 x :: V).toArray :=
  built_of (z := zT) (places := [(0, 1), (1, 64)]) (by kernel_rfl) (fill_row x V hV _ zT_size)

theorem runBuild_row (w : World) (x : Int) (V : List Value) (hV : V.length = 64) : (Instr.build 111 #[(0, .int .i64 x), (1, .agg V.toArray)]).run Try.prog w = .ok (.agg (Value.int .i64 x :: V).toArray) w :=
  run_build w _ _ _ (built_row x V hV)

theorem runSlice_row (w : World) (x : Int) (V : List Value) (hV : V.length = 64) : (Instr.buildSlice 106 1 #[(0, .agg (Value.int .i64 x :: V).toArray)]).run Try.prog w = .ok (.slice (some ⟨w.heap.size, 0, none⟩) 1 1) (w.alloc (.cells (Value.int .i64 x :: V).toArray 111)) := by
  obtain ⟨i0, hi, hz0, hz1, hz2⟩ := info_parts infoT2
  have hs : (Value.agg (Value.int .i64 x :: V).toArray).cells.size = 65 := by show (Value.int .i64 x :: V).toArray.size = 65; simp [hV]
  refine run_buildSlice w _ _ 1 _ _ i0 zT Try.underlying106 hi hz0 (by rw [hz1]; omega) (by rw [hz1]; omega) ?_
  have := Great.fill_whole (s := 65) (by omega) [.agg (Value.int .i64 x :: V).toArray] ((Array.range (1 * 65)).map (zT.cells[· % zT.cells.size]!)) (by intro v hv; simp at hv; subst hv; exact hs) (by simp)
  rw [hz1]
  simp at this
  simp
  exact this

theorem step_store_mid {P : Program} {ops : Array Oper} {o : Oper} {a : Act} {w : World} {K : Act → World → Prop} {Q : Exit → Act → World → Prop} {E : Prop} (hgd : o.guard = none) (ty : TypeId) (x y : Operand) (ho : o.op = .store ty x y)
    (b off : Nat) (cells : Array Value) (hx : a.eval x = .pointer (some ⟨b, off, none⟩)) (hy : a.eval y = .agg cells) (ht : w.there b off cells.size) (hi : (P.info? ty).map (·.size) = some cells.size) (h1 : cells.all (·.oneCell') = true)
    (h : K (a.put o.dst undef) (w.setCells b off cells.toList)) : if Region.wanted o (yielded ops a.tmps) = true then Oper.wp P o a w K Q else E := by
  rw [if_pos (by simp [Region.wanted, hgd])]
  exact wp_store_mid ty x y ho b off cells hx hy ht hi h1 h

theorem step_mapUpdate_own {H : Type} {P : Program} {w : World} {ops : Array Oper} {o : Oper} {a : Act} {K' : Act → World → Prop} {Q : Exit → Act → World → Prop} {E : Prop}
    (hg : o.guard = none) (m x v : Operand) (t : TypeId) (hop : o.op = Op.mapUpdate t m x v)
    (k e : TypeId) (K : Maps.Keyed P k) (ht : P.underlying t = some (.map k e)) (R : Value → Option (DataW H × List MemPlace)) (b n : Nat) (D : DataW H)
    (hm : a.eval m = .map (some b)) (hown : w.ownsMap P k R b n D) (hn : n < maxLen) (key val : Value) (kl : Lit) (hx : a.eval x = key) (hv : a.eval v = val) (hkey : keyOf P k key = some kl)
    (d : DataW H) (ps : List MemPlace) (hval : R val = some (d, ps))
    (hK : ∀ w', w'.ownsMap P k R b (n + 1) (D.put kl d) → w.grownBy w' (some b) → K' (a.put o.dst undef) w') :
    if Region.wanted o (yielded ops a.tmps) = true then Oper.wp P o a w K' Q else E := by
  rw [if_pos (by simp [Region.wanted, hg])]
  obtain ⟨w', hrun, r1, r2⟩ := hown.update K ht hn hkey hval
  unfold Oper.wp
  simp [execOp, hop, hm, hx, hv, hrun, Result.andThen]
  exact hK w' r1 r2

theorem splice_cons {α : Type} (L : List α) (o : Nat) (v : α) (vs : List α) (h : o + (vs.length + 1) ≤ L.length) : splice (L.set o v) (o + 1) vs = splice L o (v :: vs) := by
  apply List.ext_getElem?
  intro j
  rw [splice_get _ _ _ (by simp; omega), splice_get _ _ _ (by simp; omega)]
  simp only [List.length_cons, List.getElem?_set]
  by_cases h1 : j < o
  · rw [if_pos (by omega), if_pos h1, if_neg (by omega)]
  · rw [if_neg h1]
    by_cases h2 : j = o
    · subst h2; rw [if_pos (by omega), if_pos rfl, if_pos (by omega), if_pos (by omega)]; simp
    · rw [if_neg (by omega)]
      by_cases h3 : j < o + 1 + vs.length
      · rw [if_pos h3, if_pos (by omega)]
        obtain ⟨i, rfl⟩ : ∃ i, j = o + 1 + i := ⟨j - (o + 1), by omega⟩
        rw [show o + 1 + i - (o + 1) = i by omega, show o + 1 + i - o = i + 1 by omega, List.getElem?_cons_succ]
      · rw [if_neg h3, if_neg (by omega), if_neg (by omega)]

theorem ownsRow_setCells {base g n cap size : Nat} {e : TypeId} : ∀ (vs : List Value) (o : Nat) (w : World) (xs : List Value), w.ownsRow base e size (.slice (some ⟨g, 0, none⟩) n cap) n xs → o + vs.length ≤ xs.length →
    (w.setCells g o vs).ownsRow base e size (.slice (some ⟨g, 0, none⟩) n cap) n (splice xs o vs) ∧ w.grownBy (w.setCells g o vs) (some g)
  | [], o, w, xs, h, _ => by rw [splice_nil]; exact ⟨h, World.grownBy.refl _ _⟩
  | v :: vs, o, w, xs, h, hl => by
    have h1 := (World.ownsRow.stored h o v).1
    obtain ⟨r1, r2⟩ := ownsRow_setCells vs (o + 1) (w.setCell ⟨g, o, none⟩ v) (xs.set o v) h1 (by simp at hl ⊢; omega)
    rw [World.setCells, ← splice_cons xs o v vs (by simpa using hl)]
    exact ⟨r1, World.grownBy.trans (grownBy_set w w g o v (World.grownBy.refl _ _)) r2⟩

/-- A row's value is written. -/
theorem Tab.set {w : World} {lo tb mb g cap i : Nat} {rs : List (Int × List Int)} (h : Tab w lo tb mb (.slice (some ⟨g, 0, none⟩) rs.length cap) rs) (hi : i < rs.length) (V : List Int) (hV : V.length = 64) :
    Tab (w.setCells g (i * 65 + 1) (V.map (Value.int .u8))) lo tb mb (.slice (some ⟨g, 0, none⟩) rs.length cap) (rs.set i (pB rs i, V)) ∧ w.grownBy (w.setCells g (i * 65 + 1) (V.map (Value.int .u8))) (some g) := by
  have hlen := rowT_len rs h.full
  have hl : (rs.set i (pB rs i, V)).length = rs.length := List.length_set ..
  obtain ⟨r1, r2⟩ := ownsRow_setCells (V.map (Value.int .u8)) (i * 65 + 1) w (rowT rs) h.rows (by rw [hlen, List.length_map, hV]; omega)
  obtain ⟨D, hD, hM⟩ := h.map
  refine ⟨⟨h.box.other r2 (fun e => h.vt e.symm), by rw [hl, rowT_set rs i hi h.full V hV]; exact r1, ⟨D, by rw [hl]; exact hD.kept r2 (fun e => h.vm e.symm), hM.set i hi V⟩, fun j hj => ?_, fun j k hj hk e => ?_, h.lot, h.lom, h.ne, h.vt, h.vm⟩, r2⟩
  · rw [hl] at hj
    rw [pD_set rs i j hi]
    split
    · exact hV
    · exact h.full j hj
  · rw [hl] at hj hk
    rw [pB_set rs i j hi, pB_set rs i k hi] at e
    exact h.apart j k hj hk e

theorem step_buildSlice_row {ops : Array Oper} {o : Oper} {a : Act} {w : World} {K : Act → World → Prop} {Q : Exit → Act → World → Prop} {E : Prop} (hgd : o.guard = none) (y : Operand) (ho : o.op = .buildSlice 106 1 #[(0, y)])
    (x : Int) (V : List Value) (hV : V.length = 64) (hy : a.eval y = .agg (Value.int .i64 x :: V).toArray) (h : K (a.put o.dst (.slice (some ⟨w.heap.size, 0, none⟩) 1 1)) (w.alloc (.cells (Value.int .i64 x :: V).toArray 111))) :
    if Region.wanted o (yielded ops a.tmps) = true then Oper.wp Try.prog o a w K Q else E := by
  rw [if_pos (by simp [Region.wanted, hgd])]
  have hrun := runSlice_row w x V hV
  unfold Oper.wp execOp
  simp only [ho, List.map_toArray, List.map_cons, List.map_nil, hy, Sem.run_bind, hrun, Result.andThen_ok]
  exact h

/-- A row more. -/
theorem Tab.snoc {W0 W1 w4 : World} {lo tb mb g cap vcap : Nat} {va : Option Addr} {rs : List (Int × List Int)} {x : Int} {Vb : List Int} {D : DataW Unit} {ob : Obj} (hT : Tab W0 lo tb mb (.slice va rs.length vcap) rs) (G1 : W0.grownBy W1 (some mb))
    (M1 : W1.ownsMap Try.prog 2 (plainElem Try.prog 3) mb (rs.length + 1) D) (hM : MF D (rs ++ [(x, Vb)])) (ho : w4.ownsRow lo 111 65 (.slice (some ⟨g, 0, none⟩) (rs.length + 1) cap) (rs.length + 1) (rowT rs ++ (.int .i64 x :: Vb.map (Value.int .u8))))
    (hg : (W1.alloc ob).grownBy w4 (Value.ownBlock (.slice va rs.length vcap))) (hat : Value.ownBlock (.slice va rs.length vcap) = some g ∨ g = W1.heap.size + 1) (hno : ∀ i, i < rs.length → pB rs i ≠ x) (hVb : Vb.length = 64) (hlo : lo ≤ W0.heap.size) :
    Tab (w4.setCell ⟨tb, 0, none⟩ (.slice (some ⟨g, 0, none⟩) (rs.length + 1) cap)) lo tb mb (.slice (some ⟨g, 0, none⟩) (rs.length + 1) cap) (rs ++ [(x, Vb)]) ∧ Below lo W0 (w4.setCell ⟨tb, 0, none⟩ (.slice (some ⟨g, 0, none⟩) (rs.length + 1) cap)) ∧ (∀ q, q < W0.heap.size → q ≠ tb → q ≠ mb → Value.ownBlock (.slice va rs.length vcap) ≠ some q → (w4.setCell ⟨tb, 0, none⟩ (.slice (some ⟨g, 0, none⟩) (rs.length + 1) cap)).heap[q]? = W0.heap[q]?) := by
  have G : W1.grownBy w4 (Value.ownBlock (.slice va rs.length vcap)) := World.grownBy.trans (World.grownBy_alloc W1 ob _) hg
  have ztb : tb < W0.heap.size := hT.box.1.1
  have s1 := G1.size
  have s4 := G.size
  have hmt : mb < W1.heap.size := M1.lt
  have hgt : g ≠ tb := by
    rcases hat with e | e
    · intro h; exact hT.vt (by rw [e, h])
    · omega
  have hgm : g ≠ mb := by
    rcases hat with e | e
    · intro h; exact hT.vm (by rw [e, h])
    · omega
  have hl : (rs ++ [(x, Vb)]).length = rs.length + 1 := by simp
  have b1 := hT.box.other G1 (by simpa using hT.ne)
  have b4 := b1.other G (fun e => hT.vt e.symm)
  obtain ⟨⟨z4, q0, q1⟩, f0, f1⟩ := b4
  refine ⟨⟨⟨⟨by simpa using z4, World.cell?_setCell_same _ _ _ q0, ?_⟩, by rw [World.frozen?_setCell]; exact f0, by rw [World.frozen?_setCell]; exact f1⟩, ?_, ⟨D, ?_, hM⟩, fun i hi => ?_, fun i j hi hj e => ?_, hT.lot, hT.lom, hT.ne, by simpa [Value.ownBlock] using hgt, by simpa [Value.ownBlock] using hgm⟩, ?_, fun q hq n1 n2 n3 => ?_⟩
  · rw [World.cell?_setCell_other _ _ _ _ (by simp)]; exact q1
  · rw [hl, rowT_app, rowT_one]
    exact World.ownsRow.kept ho (grownBy_set w4 w4 tb 0 _ (World.grownBy.refl _ _)) (.inr (by simpa [Value.ownBlock] using hgt))
  · rw [hl]
    exact (M1.kept G (fun e => hT.vm e.symm)).setCell (a := ⟨tb, 0, none⟩) (fun e => hT.ne e.symm) _
  · rw [hl] at hi
    by_cases e : i = rs.length
    · subst e; rw [pD_last]; exact hVb
    · rw [pD_app _ _ _ (by omega)]; exact hT.full i (by omega)
  · rw [hl] at hi hj
    by_cases ei : i = rs.length
    · by_cases ej : j = rs.length
      · omega
      · subst ei; rw [pB_last, pB_app _ _ _ (by omega)] at e; exact absurd e.symm (hno j (by omega))
    · by_cases ej : j = rs.length
      · subst ej; rw [pB_last, pB_app _ _ _ (by omega)] at e; exact absurd e (hno i (by omega))
      · rw [pB_app _ _ _ (by omega), pB_app _ _ _ (by omega)] at e; exact hT.apart i j (by omega) (by omega) e
  · have h1 : Below lo W0 W1 := (Below.refl _ _).grown G1 hlo (by intro q hq; simp at hq; subst hq; exact hT.lom)
    have h2 : Below lo W0 w4 := h1.grown G (by omega) (fun q hq => (World.ownsRow.lt hT.rows q hq).1)
    exact h2.setCell (p := ⟨tb, 0, none⟩) hT.lot _
  · rw [Below.heap_setCell _ _ _ _ (show q ≠ (⟨tb, 0, none⟩ : Addr).block from n1), G.block q (by omega) (fun e => n3 e.symm)]
    exact G1.block q hq (by simpa using n2)

end Go.Proofs.Ytoljmlhnbmeloaa
