import Derived.Test.YtmjliomhhgahkaaGreatDoorJ02
import Derived.Deep.RegionWith
import Derived.Laws.RangeAny
import Derived.Deep.QuietTactic
import Derived.Deep.RegionHeld3
import Derived.Test.YtmjliomhhgahkaaGreatDoorJ01
import Derived.Laws.Cover1
namespace Go.Proofs.YtmjliomhhgahkaaGreatDoor
open Go.RowKit Go.Shelf

def isSemi (b : ByteArray) : Bool := b.toList == [59]
def datB (b : ByteArray) : ByteArray := if (b.toList == [45]) = true then ⟨#[]⟩ else b
/-- The operation that fields are. -/
def opO3 (f0 f1 f2 : ByteArray) : Option Op5 :=
  if (f0.toList == [99, 114, 101, 97, 116, 101]) = true then some ⟨1, f1, datB f2, 0, false⟩
  else if (f0.toList == [115, 101, 113]) = true then some ⟨1, f1, datB f2, 0, true⟩
  else if (f0.toList == [100, 101, 108, 101, 116, 101]) = true then (numO f2.data.toList).map fun v => ⟨2, f1, ⟨#[]⟩, v, false⟩
  else if (f0.toList == [99, 104, 101, 99, 107]) = true then (numO f2.data.toList).map fun v => ⟨4, f1, ⟨#[]⟩, v, false⟩
  else none
def opO4 (f0 f1 f2 f3 : ByteArray) : Option Op5 :=
  if (f0.toList == [115, 101, 116]) = true then (numO f3.data.toList).map fun v => ⟨3, f1, datB f2, v, false⟩ else none
def opO (L : List ByteArray) : Option Op5 :=
  if L.any isSemi = true then none
  else if L.length = 3 then opO3 (bAt L 0) (bAt L 1) (bAt L 2)
  else if L.length = 4 then opO4 (bAt L 0) (bAt L 1) (bAt L 2) (bAt L 3)
  else none
/-- A slice of texts that reads as L. -/
def RdB (w : World) (v : Value) (L : List ByteArray) : Prop :=
  ∃ ao cap, v = .slice ao L.length cap ∧ L.length ≤ cap ∧ cap ≤ maxLen ∧
    (L = [] ∨ ∃ b off, ao = some ⟨b, off, none⟩ ∧ b < w.heap.size ∧ ∀ i, i < L.length → w.cell? ⟨b, off + i, none⟩ = some (.string (bAt L i)))
theorem RdB.below {w w' : World} {v : Value} {L : List ByteArray} (h : RdB w v L) (hb : Below w.heap.size w w') : RdB w' v L := by
  obtain ⟨ao, cap, rfl, h1, h2, h3⟩ := h
  refine ⟨ao, cap, rfl, h1, h2, h3.imp id ?_⟩
  rintro ⟨b, off, rfl, hl, hc⟩
  exact ⟨b, off, rfl, Nat.lt_of_lt_of_le hl hb.size, fun i hi => (hb.cell (p := ⟨b, off + i, none⟩) hl).trans (hc i hi)⟩
theorem OwnB.rd {w : World} {lo : Nat} {v : Value} {L : List ByteArray} (h : OwnB w lo v L) : RdB w v L := by
  by_cases h0 : 0 < L.length
  · obtain ⟨g, c, rfl, -, h2, h3, h4, h5⟩ := h.cells h0
    exact ⟨_, c, rfl, h3, h4, .inr ⟨g, 0, rfl, h2, fun i hi => by rw [Nat.zero_add]; exact h5 i hi⟩⟩
  · have hn : L = [] := List.eq_nil_of_length_eq_zero (by omega)
    subst hn
    rcases h.2 with ⟨rfl, -⟩ | ⟨g, cap, cur, rfl, h1, h2, h3, h4, h5, h6⟩
    · exact ⟨none, 0, rfl, Nat.zero_le _, Nat.zero_le _, .inl rfl⟩
    · exact ⟨_, cap, rfl, Nat.zero_le _, h4, .inl rfl⟩
def OpP (w : World) (L : List ByteArray) (e : Ending) (w' : World) : Prop := ∃ (o : Op5) (ok : Bool), e = .returned (.tuple #[opV o, .bool ok]) ∧ Below w.heap.size w w' ∧ ok = (opO L).isSome ∧ ∀ x, opO L = some x → o = x
theorem OpP.no {w w' : World} {L : List ByteArray} {o : Op5} (h : opO L = none) (hb : Below w.heap.size w w') : OpP w L (.returned (.tuple #[opV o, .bool false])) w' := ⟨o, false, rfl, hb, by rw [h]; rfl, fun x hx => by rw [h] at hx; cases hx⟩
theorem OpP.yes {w w' : World} {L : List ByteArray} {o : Op5} (h : opO L = some o) (hb : Below w.heap.size w w') : OpP w L (.returned (.tuple #[opV o, .bool true])) w' := ⟨o, true, rfl, hb, by rw [h]; rfl, fun x hx => by rw [h] at hx; injection hx⟩

set_option maxRecDepth 100000 in
theorem l6Data_any (w : World) (b : ByteArray) : Calls Tryz.prog 28 #[.string b] w fun e w' => e = .returned (.string (datB b)) ∧ w' = w := by
  go_enter Tryz.func28, Tryz.ntmps28
  go_wp2
  · go_ret
    refine ⟨?_, rfl⟩
    unfold datB
    rw [if_pos (by assumption)]
    rfl
  · go_ret
    refine ⟨?_, rfl⟩
    unfold datB
    rw [if_neg (by simp_all)]
    rfl

/-- An operation written into its box. -/
theorem op_box {w w1 : World} (hb : Below w.heap.size w w1) {a b c d e : Value} (X : St w1 w.heap.size [a, b, c, d, e]) (o : Op5) :
    Below w.heap.size w (((((w1.setCell ⟨w.heap.size, 0, none⟩ (.int .i64 o.kind)).setCell ⟨w.heap.size, 1, none⟩ (.string o.path)).setCell ⟨w.heap.size, 2, none⟩ (.string o.data)).setCell ⟨w.heap.size, 3, none⟩ (.int .i64 o.ver)).setCell ⟨w.heap.size, 4, none⟩ (.bool o.seq)) ∧
    St (((((w1.setCell ⟨w.heap.size, 0, none⟩ (.int .i64 o.kind)).setCell ⟨w.heap.size, 1, none⟩ (.string o.path)).setCell ⟨w.heap.size, 2, none⟩ (.string o.data)).setCell ⟨w.heap.size, 3, none⟩ (.int .i64 o.ver)).setCell ⟨w.heap.size, 4, none⟩ (.bool o.seq)) w.heap.size [.int .i64 o.kind, .string o.path, .string o.data, .int .i64 o.ver, .bool o.seq] :=
  ⟨((((hb.setCell (Nat.le_refl _) _).setCell (Nat.le_refl _) _).setCell (Nat.le_refl _) _).setCell (Nat.le_refl _) _).setCell (Nat.le_refl _) _, ((((X.set 0 _).set 1 _).set 2 _).set 3 _).set 4 _⟩
set_option linter.unusedSimpArgs false in
set_option maxRecDepth 100000 in
set_option maxHeartbeats 8000000 in
theorem l6Op_row (w : World) (b o cap : Nat) (L : List ByteArray) (hL : 0 < L.length) (hLc : L.length ≤ cap) (hc : cap ≤ maxLen) (hsz : ∀ i, (bAt L i).size ≤ 1048576) (hcl : ∀ i, i < L.length → w.cell? ⟨b, o + i, none⟩ = some (.string (bAt L i))) (hb : b < w.heap.size) :
    Calls Tryz.prog 14 #[.slice (some ⟨b, o, none⟩) L.length cap] w fun e w' => OpP w L e w' := by
  unfold maxLen at hc
  have bA : Below w.heap.size w (w.alloc (.cells #[.int .i64 0, .string ⟨#[]⟩, .string ⟨#[]⟩, .int .i64 0, .bool false] 41)) := (Below.refl _ _).alloc (Nat.le_refl _) _
  have BA := hd9 bA
  have HCL : Hid (∀ i, i < L.length → (w.alloc (.cells #[.int .i64 0, .string ⟨#[]⟩, .string ⟨#[]⟩, .int .i64 0, .bool false] 41)).cell? ⟨b, o + i, none⟩ = some (.string (bAt L i))) := fun i hi => (bA.cell (p := ⟨b, o + i, none⟩) hb).trans (hcl i hi)
  have X := hd9 (St.new w #[.int .i64 0, .string ⟨#[]⟩, .string ⟨#[]⟩, .int .i64 0, .bool false] 41)
  have HSZ := hd9 hsz
  have sB := bA.size
  clear bA hcl hsz
  go_enter Tryz.func14, Tryz.ntmps14
  go_wp2_with fail
  generalize w.alloc (.cells #[.int .i64 0, .string ⟨#[]⟩, .string ⟨#[]⟩, .int .i64 0, .bool false] 41) = w1 at *
  have hbB : b ≠ w.heap.size := by omega
  go_loopw [4] (fun v4 wr => ∃ i : Nat, v4 = .int .i64 (i : Int) ∧ i ≤ L.length ∧ wr = w1 ∧ Hid (∀ j, j < i → isSemi (bAt L j) = false)) (fun i _ => L.length - (intOf i).toNat)
  case atStart => exact ⟨0, rfl, Nat.zero_le _, rfl, fun j hj => absurd hj (Nat.not_lt_zero _)⟩
  case round =>
    obtain ⟨i, rfl, hi, rfl, HA⟩ := hrel
    by_cases hlt : i < L.length
    · have hltI : (i : Int) < (L.length : Int) := by omega
      have c0 := HCL.out i hlt
      cases hse : isSemi (bAt L i) with
      | true =>
        have hno : opO L = none := by
          unfold opO
          rw [if_pos]
          rw [List.any_eq_true]
          exact ⟨_, List.getElem_mem hlt, by rw [← bAt_get hlt]; exact hse⟩
        have HNO := hd9 hno
        have hsq : ((bAt L i).toList == [59]) = true := hse
        have x0 := X.out.fz
        have y0 := X.out.cl 0 _ rfl
        have y1 := X.out.cl 1 _ rfl
        have y2 := X.out.cl 2 _ rfl
        have y3 := X.out.cl 3 _ rfl
        have y4 := X.out.cl 4 _ rfl
        clear hno hse HA
        generalize bAt L i = f at *
        go_wp2_with fail
        obtain ⟨b9, x9⟩ := op_box BA.out X.out ⟨0, ⟨#[]⟩, ⟨#[]⟩, 0, false⟩
        have d0 := x9.cl 0 _ rfl
        have d1 := x9.cl 1 _ rfl
        have d2 := x9.cl 2 _ rfl
        have d3 := x9.cl 3 _ rfl
        have d4 := x9.cl 4 _ rfl
        exact bodyPost_ret (v := .tuple #[opV ⟨0, ⟨#[]⟩, ⟨#[]⟩, 0, false⟩, .bool false]) (by simp [results, Tryz.results14, go_sem, opV, d0, d1, d2, d3, d4]) rfl (OpP.no HNO.out b9)
      | false =>
        have hsq : ((bAt L i).toList == [59]) = false := hse
        have HA2 : Hid (∀ j, j < i + 1 → isSemi (bAt L j) = false) := fun j hj => by
          by_cases e : j < i
          · exact HA.out j e
          · rw [show j = i by omega]; exact hse
        clear hse HA
        generalize hf : bAt L i = f at *
        go_wp2_with fail
        exact ⟨⟨i + 1, by go_num, hlt, trivial, HA2⟩, by simp [intOf]; omega⟩
    · have hltI : ¬ (i : Int) < (L.length : Int) := by omega
      have hany : L.any isSemi = false := by
        rw [List.any_eq_false]
        intro x hx
        obtain ⟨j, hj, e⟩ := List.getElem_of_mem hx
        have := HA.out j (by omega)
        rw [bAt_get hj, e] at this
        simp [this]
      have hop : opO L = if L.length = 3 then opO3 (bAt L 0) (bAt L 1) (bAt L 2) else if L.length = 4 then opO4 (bAt L 0) (bAt L 1) (bAt L 2) (bAt L 3) else none := by
        unfold opO
        rw [if_neg (by rw [hany]; decide)]
      have HOP := hd9 hop
      clear hany hop HA
      have hbw : b < wr.heap.size := by omega
      by_cases h3 : L.length = 3
      case pos =>
        have hn3 : (((L.length : Nat) : Int) == 3) = true := beq_iff_eq.2 (by omega)
        have hn4 : (((L.length : Nat) : Int) == 4) = false := beq_false_of_ne (by omega)
        have hg2 : (2 : Int) < ((L.length : Nat) : Int) := by omega
        have hg1 : (1 : Int) < ((L.length : Nat) : Int) := by omega
        have c0 := HCL.out 0 (by omega)
        rw [Nat.add_zero] at c0
        have c1 := HCL.out 1 (by omega)
        have c2 := HCL.out 2 (by omega)
        have z2 := HSZ.out 2
        rw [if_pos h3] at HOP
        clear h3 HCL HSZ
        generalize bAt L 0 = f0 at *
        generalize bAt L 1 = f1 at *
        generalize bAt L 2 = f2 at *
        by_cases q1 : (f0.toList == [99, 114, 101, 97, 116, 101]) = true
        case pos =>
          have HNO : Hid (opO L = some ⟨1, f1, datB f2, 0, false⟩) := by
            show _ = _
            rw [HOP.out]; unfold opO3; rw [if_pos q1]
          clear HOP
          go_wp2_with fail
          have bD : Below wr.heap.size wr wr.drew := below_drewN' wr 1
          refine wp_region_held_drew (S := fun W => W.cell? ⟨b, o + 1, none⟩ = some (.string f1) ∧ W.cell? ⟨b, o + 2, none⟩ = some (.string f2)) (by kernel_rfl) ⟨(bD.cell (p := ⟨b, o + 1, none⟩) hbw).trans c1, (bD.cell (p := ⟨b, o + 2, none⟩) hbw).trans c2⟩ (fun hHeld => ?_)
          replace BA := hd9 (BA.out.trans (bD.mono BA.out.size))
          replace X := hd9 (X.out.below bD)
          clear bD c0 c1 c2
          generalize wr.drew = m0 at *
          refine wpAnyH_take (i := 0) (oi := { dst := some 31, op := _, type := _, pos := _, after := _, guard := _ }) (v := (.slice (some ⟨b, o, none⟩) L.length cap)) rfl (by kernel_rfl) (by kernel_rfl) (by kernel_rfl) (fun _ _ _ h => h) (Or.inl ⟨by rfl, fun w9 hS9 => by (clear hS9; go_simp; try with_reducible rfl)⟩) (by assumption) ?_
          try simp only [Act.put, List.setIfInBounds_toArray, List.set_cons_zero, List.set_cons_succ]
          refine wpAnyH_take (i := 1) (oi := { dst := some 32, op := _, type := _, pos := _, after := _, guard := _ }) (v := (.pointer (some ⟨b, o + 1, none⟩))) rfl (by kernel_rfl) (by kernel_rfl) (by kernel_rfl) (fun _ _ _ h => h) (Or.inl ⟨by rfl, fun w9 hS9 => by (clear hS9; go_simp; try with_reducible rfl)⟩) (by assumption) ?_
          try simp only [Act.put, List.setIfInBounds_toArray, List.set_cons_zero, List.set_cons_succ]
          refine wpAnyH_take (i := 2) (oi := { dst := some 33, op := _, type := _, pos := _, after := _, guard := _ }) (v := (.string f1)) rfl (by kernel_rfl) (by kernel_rfl) (by kernel_rfl) (fun _ _ _ h => h) (Or.inl ⟨by rfl, fun w9 hS9 => by (have h9 := hS9.1; clear hS9; go_simp; try with_reducible rfl)⟩) (by assumption) ?_
          try simp only [Act.put, List.setIfInBounds_toArray, List.set_cons_zero, List.set_cons_succ]
          refine wpAnyH_take (i := 3) (oi := { dst := some 34, op := _, type := _, pos := _, after := _, guard := _ }) (v := (.slice (some ⟨b, o, none⟩) L.length cap)) rfl (by kernel_rfl) (by kernel_rfl) (by kernel_rfl) (fun _ _ _ h => h) (Or.inl ⟨by rfl, fun w9 hS9 => by (clear hS9; go_simp; try with_reducible rfl)⟩) (by assumption) ?_
          try simp only [Act.put, List.setIfInBounds_toArray, List.set_cons_zero, List.set_cons_succ]
          refine wpAnyH_take (i := 4) (oi := { dst := some 35, op := _, type := _, pos := _, after := _, guard := _ }) (v := (.pointer (some ⟨b, o + 2, none⟩))) rfl (by kernel_rfl) (by kernel_rfl) (by kernel_rfl) (fun _ _ _ h => h) (Or.inl ⟨by rfl, fun w9 hS9 => by (clear hS9; go_simp; try with_reducible rfl)⟩) (by assumption) ?_
          try simp only [Act.put, List.setIfInBounds_toArray, List.set_cons_zero, List.set_cons_succ]
          refine wpAnyH_take (i := 5) (oi := { dst := some 36, op := _, type := _, pos := _, after := _, guard := _ }) (v := (.string f2)) rfl (by kernel_rfl) (by kernel_rfl) (by kernel_rfl) (fun _ _ _ h => h) (Or.inl ⟨by rfl, fun w9 hS9 => by (have h9 := hS9.2; clear hS9; go_simp; try with_reducible rfl)⟩) (by assumption) ?_
          try simp only [Act.put, List.setIfInBounds_toArray, List.set_cons_zero, List.set_cons_succ]
          refine wpAnyH_ready (rs := [6]) (by kernel_rfl) (by simp) ?_
          refine AllReadyH.cons (o := { dst := some 37, op := _, type := _, pos := _, after := _, guard := _ }) rfl (fun K hK => ?_) AllReadyH.nil
          go_simp
          refine (l6Data_any m0 f2).mono ?_
          rintro e m1 ⟨rfl, hm1⟩
          subst hm1
          refine hK.out _ _ (hHeld) (fun hx9 => ?_)
          clear hK K hHeld
          have hHeld := hx9
          clear hx9 
          try simp only [Act.put, List.setIfInBounds_toArray, List.set_cons_zero, List.set_cons_succ]
          generalize datB f2 = dd at *
          refine wpAnyH_take (i := 7) (oi := { dst := some 38, op := _, type := _, pos := _, after := _, guard := _ }) (v := (.agg #[.int .i64 1, .string f1, .string dd, .int .i64 0, .bool false])) rfl (by kernel_rfl) (by kernel_rfl) (by kernel_rfl) (fun _ _ _ h => h) (Or.inl ⟨by rfl, fun w9 hS9 => by (clear hS9; go_simp; try with_reducible rfl)⟩) (by assumption) ?_
          try simp only [Act.put, List.setIfInBounds_toArray, List.set_cons_zero, List.set_cons_succ]
          refine wpAnyH_ready (rs := [8]) (by kernel_rfl) (by simp) ?_
          refine AllReadyH.cons (o := { dst := none, op := _, type := _, pos := _, after := _, guard := _ }) rfl (fun K hK => ?_) AllReadyH.nil
          have x0 := X.out.fz
          have y0 := X.out.cl 0 _ rfl
          have y1 := X.out.cl 1 _ rfl
          have y2 := X.out.cl 2 _ rfl
          have y3 := X.out.cl 3 _ rfl
          have y4 := X.out.cl 4 _ rfl
          go_simp
          refine hK.out _ _ (⟨(World.cell?_setCell_other _ _ _ _ (by intro e9; injection e9 with e1 e2; omega)).trans ((World.cell?_setCell_other _ _ _ _ (by intro e9; injection e9 with e1 e2; omega)).trans ((World.cell?_setCell_other _ _ _ _ (by intro e9; injection e9 with e1 e2; omega)).trans ((World.cell?_setCell_other _ _ _ _ (by intro e9; injection e9 with e1 e2; omega)).trans ((World.cell?_setCell_other _ _ _ _ (by intro e9; injection e9 with e1 e2; omega)).trans hHeld.1)))), (World.cell?_setCell_other _ _ _ _ (by intro e9; injection e9 with e1 e2; omega)).trans ((World.cell?_setCell_other _ _ _ _ (by intro e9; injection e9 with e1 e2; omega)).trans ((World.cell?_setCell_other _ _ _ _ (by intro e9; injection e9 with e1 e2; omega)).trans ((World.cell?_setCell_other _ _ _ _ (by intro e9; injection e9 with e1 e2; omega)).trans ((World.cell?_setCell_other _ _ _ _ (by intro e9; injection e9 with e1 e2; omega)).trans hHeld.2))))⟩) (fun hx9 => ?_)
          clear hK K hHeld
          have hHeld := hx9
          clear hx9 x0 y0 y1 y2 y3 y4
          try simp only [Act.put, List.setIfInBounds_toArray, List.set_cons_zero, List.set_cons_succ]
          refine wpAnyH_take (i := 9) (oi := { dst := some 3, op := _, type := _, pos := _, after := _, guard := _ }) (v := (.bool true)) rfl (by kernel_rfl) (by kernel_rfl) (by kernel_rfl) (fun _ _ _ h => h) (Or.inl ⟨by rfl, fun w9 hS9 => by (clear hS9; go_simp; try with_reducible rfl)⟩) (by assumption) ?_
          try simp only [Act.put, List.setIfInBounds_toArray, List.set_cons_zero, List.set_cons_succ]
          refine wpAnyH_done (by kernel_rfl) ?_ _
          clear hHeld
          go_wp2_with fail
          obtain ⟨b9, x9⟩ := op_box BA.out X.out ⟨1, f1, dd, 0, false⟩
          have d0 := x9.cl 0 _ rfl
          have d1 := x9.cl 1 _ rfl
          have d2 := x9.cl 2 _ rfl
          have d3 := x9.cl 3 _ rfl
          have d4 := x9.cl 4 _ rfl
          exact bodyPost_ret (v := .tuple #[opV ⟨1, f1, dd, 0, false⟩, .bool true]) (by simp [results, Tryz.results14, go_sem, opV, d0, d1, d2, d3, d4]) rfl (OpP.yes HNO.out b9)
        replace q1 : (f0.toList == [99, 114, 101, 97, 116, 101]) = false := by simpa using q1
        by_cases q2 : (f0.toList == [115, 101, 113]) = true
        case pos =>
          have HNO : Hid (opO L = some ⟨1, f1, datB f2, 0, true⟩) := by
            show _ = _
            rw [HOP.out]; unfold opO3; rw [if_neg (by rw [q1]; decide), if_pos q2]
          clear HOP
          go_wp2_with fail
          have bD : Below wr.heap.size wr wr.drew := below_drewN' wr 1
          refine wp_region_held_drew (S := fun W => W.cell? ⟨b, o + 1, none⟩ = some (.string f1) ∧ W.cell? ⟨b, o + 2, none⟩ = some (.string f2)) (by kernel_rfl) ⟨(bD.cell (p := ⟨b, o + 1, none⟩) hbw).trans c1, (bD.cell (p := ⟨b, o + 2, none⟩) hbw).trans c2⟩ (fun hHeld => ?_)
          replace BA := hd9 (BA.out.trans (bD.mono BA.out.size))
          replace X := hd9 (X.out.below bD)
          clear bD c0 c1 c2
          generalize wr.drew = m0 at *
          refine wpAnyH_take (i := 0) (oi := { dst := some 48, op := _, type := _, pos := _, after := _, guard := _ }) (v := (.slice (some ⟨b, o, none⟩) L.length cap)) rfl (by kernel_rfl) (by kernel_rfl) (by kernel_rfl) (fun _ _ _ h => h) (Or.inl ⟨by rfl, fun w9 hS9 => by (clear hS9; go_simp; try with_reducible rfl)⟩) (by assumption) ?_
          try simp only [Act.put, List.setIfInBounds_toArray, List.set_cons_zero, List.set_cons_succ]
          refine wpAnyH_take (i := 1) (oi := { dst := some 49, op := _, type := _, pos := _, after := _, guard := _ }) (v := (.pointer (some ⟨b, o + 1, none⟩))) rfl (by kernel_rfl) (by kernel_rfl) (by kernel_rfl) (fun _ _ _ h => h) (Or.inl ⟨by rfl, fun w9 hS9 => by (clear hS9; go_simp; try with_reducible rfl)⟩) (by assumption) ?_
          try simp only [Act.put, List.setIfInBounds_toArray, List.set_cons_zero, List.set_cons_succ]
          refine wpAnyH_take (i := 2) (oi := { dst := some 50, op := _, type := _, pos := _, after := _, guard := _ }) (v := (.string f1)) rfl (by kernel_rfl) (by kernel_rfl) (by kernel_rfl) (fun _ _ _ h => h) (Or.inl ⟨by rfl, fun w9 hS9 => by (have h9 := hS9.1; clear hS9; go_simp; try with_reducible rfl)⟩) (by assumption) ?_
          try simp only [Act.put, List.setIfInBounds_toArray, List.set_cons_zero, List.set_cons_succ]
          refine wpAnyH_take (i := 3) (oi := { dst := some 51, op := _, type := _, pos := _, after := _, guard := _ }) (v := (.slice (some ⟨b, o, none⟩) L.length cap)) rfl (by kernel_rfl) (by kernel_rfl) (by kernel_rfl) (fun _ _ _ h => h) (Or.inl ⟨by rfl, fun w9 hS9 => by (clear hS9; go_simp; try with_reducible rfl)⟩) (by assumption) ?_
          try simp only [Act.put, List.setIfInBounds_toArray, List.set_cons_zero, List.set_cons_succ]
          refine wpAnyH_take (i := 4) (oi := { dst := some 52, op := _, type := _, pos := _, after := _, guard := _ }) (v := (.pointer (some ⟨b, o + 2, none⟩))) rfl (by kernel_rfl) (by kernel_rfl) (by kernel_rfl) (fun _ _ _ h => h) (Or.inl ⟨by rfl, fun w9 hS9 => by (clear hS9; go_simp; try with_reducible rfl)⟩) (by assumption) ?_
          try simp only [Act.put, List.setIfInBounds_toArray, List.set_cons_zero, List.set_cons_succ]
          refine wpAnyH_take (i := 5) (oi := { dst := some 53, op := _, type := _, pos := _, after := _, guard := _ }) (v := (.string f2)) rfl (by kernel_rfl) (by kernel_rfl) (by kernel_rfl) (fun _ _ _ h => h) (Or.inl ⟨by rfl, fun w9 hS9 => by (have h9 := hS9.2; clear hS9; go_simp; try with_reducible rfl)⟩) (by assumption) ?_
          try simp only [Act.put, List.setIfInBounds_toArray, List.set_cons_zero, List.set_cons_succ]
          refine wpAnyH_ready (rs := [6]) (by kernel_rfl) (by simp) ?_
          refine AllReadyH.cons (o := { dst := some 54, op := _, type := _, pos := _, after := _, guard := _ }) rfl (fun K hK => ?_) AllReadyH.nil
          go_simp
          refine (l6Data_any m0 f2).mono ?_
          rintro e m1 ⟨rfl, hm1⟩
          subst hm1
          refine hK.out _ _ (hHeld) (fun hx9 => ?_)
          clear hK K hHeld
          have hHeld := hx9
          clear hx9 
          try simp only [Act.put, List.setIfInBounds_toArray, List.set_cons_zero, List.set_cons_succ]
          generalize datB f2 = dd at *
          refine wpAnyH_take (i := 7) (oi := { dst := some 55, op := _, type := _, pos := _, after := _, guard := _ }) (v := (.agg #[.int .i64 1, .string f1, .string dd, .int .i64 0, .bool true])) rfl (by kernel_rfl) (by kernel_rfl) (by kernel_rfl) (fun _ _ _ h => h) (Or.inl ⟨by rfl, fun w9 hS9 => by (clear hS9; go_simp; try with_reducible rfl)⟩) (by assumption) ?_
          try simp only [Act.put, List.setIfInBounds_toArray, List.set_cons_zero, List.set_cons_succ]
          refine wpAnyH_ready (rs := [8]) (by kernel_rfl) (by simp) ?_
          refine AllReadyH.cons (o := { dst := none, op := _, type := _, pos := _, after := _, guard := _ }) rfl (fun K hK => ?_) AllReadyH.nil
          have x0 := X.out.fz
          have y0 := X.out.cl 0 _ rfl
          have y1 := X.out.cl 1 _ rfl
          have y2 := X.out.cl 2 _ rfl
          have y3 := X.out.cl 3 _ rfl
          have y4 := X.out.cl 4 _ rfl
          go_simp
          refine hK.out _ _ (⟨(World.cell?_setCell_other _ _ _ _ (by intro e9; injection e9 with e1 e2; omega)).trans ((World.cell?_setCell_other _ _ _ _ (by intro e9; injection e9 with e1 e2; omega)).trans ((World.cell?_setCell_other _ _ _ _ (by intro e9; injection e9 with e1 e2; omega)).trans ((World.cell?_setCell_other _ _ _ _ (by intro e9; injection e9 with e1 e2; omega)).trans ((World.cell?_setCell_other _ _ _ _ (by intro e9; injection e9 with e1 e2; omega)).trans hHeld.1)))), (World.cell?_setCell_other _ _ _ _ (by intro e9; injection e9 with e1 e2; omega)).trans ((World.cell?_setCell_other _ _ _ _ (by intro e9; injection e9 with e1 e2; omega)).trans ((World.cell?_setCell_other _ _ _ _ (by intro e9; injection e9 with e1 e2; omega)).trans ((World.cell?_setCell_other _ _ _ _ (by intro e9; injection e9 with e1 e2; omega)).trans ((World.cell?_setCell_other _ _ _ _ (by intro e9; injection e9 with e1 e2; omega)).trans hHeld.2))))⟩) (fun hx9 => ?_)
          clear hK K hHeld
          have hHeld := hx9
          clear hx9 x0 y0 y1 y2 y3 y4
          try simp only [Act.put, List.setIfInBounds_toArray, List.set_cons_zero, List.set_cons_succ]
          refine wpAnyH_take (i := 9) (oi := { dst := some 3, op := _, type := _, pos := _, after := _, guard := _ }) (v := (.bool true)) rfl (by kernel_rfl) (by kernel_rfl) (by kernel_rfl) (fun _ _ _ h => h) (Or.inl ⟨by rfl, fun w9 hS9 => by (clear hS9; go_simp; try with_reducible rfl)⟩) (by assumption) ?_
          try simp only [Act.put, List.setIfInBounds_toArray, List.set_cons_zero, List.set_cons_succ]
          refine wpAnyH_done (by kernel_rfl) ?_ _
          clear hHeld
          go_wp2_with fail
          obtain ⟨b9, x9⟩ := op_box BA.out X.out ⟨1, f1, dd, 0, true⟩
          have d0 := x9.cl 0 _ rfl
          have d1 := x9.cl 1 _ rfl
          have d2 := x9.cl 2 _ rfl
          have d3 := x9.cl 3 _ rfl
          have d4 := x9.cl 4 _ rfl
          exact bodyPost_ret (v := .tuple #[opV ⟨1, f1, dd, 0, true⟩, .bool true]) (by simp [results, Tryz.results14, go_sem, opV, d0, d1, d2, d3, d4]) rfl (OpP.yes HNO.out b9)
        replace q2 : (f0.toList == [115, 101, 113]) = false := by simpa using q2
        by_cases q3 : (f0.toList == [100, 101, 108, 101, 116, 101]) = true
        case pos =>
          have q4 : (f0.toList == [99, 104, 101, 99, 107]) = false := by rw [beq_iff_eq.1 q3]; rfl
          have HNO : Hid (opO L = (numO f2.data.toList).map fun v => ⟨2, f1, ⟨#[]⟩, v, false⟩) := by
            show _ = _
            rw [HOP.out]; unfold opO3; rw [if_neg (by rw [q1]; decide), if_neg (by rw [q2]; decide), if_pos q3]
          clear HOP
          go_wp2_with fail
          refine (l6Number_any 1048576 f2 wr z2 (Nat.le_refl _)).mono ?_
          rintro e w2 ⟨vv, ok, rfl, b2, hok, hvv⟩
          replace c0 := (b2.cell (p := ⟨b, o, none⟩) hbw).trans c0
          replace c1 := (b2.cell (p := ⟨b, o + 1, none⟩) hbw).trans c1
          replace BA := hd9 (BA.out.trans (b2.mono BA.out.size))
          replace X := hd9 (X.out.below b2)
          have HQ := hd9 (And.intro hok hvv)
          replace hbw := Nat.lt_of_lt_of_le hbw b2.size
          clear b2 hok hvv c2
          have x0 := X.out.fz
          have y0 := X.out.cl 0 _ rfl
          have y1 := X.out.cl 1 _ rfl
          have y2 := X.out.cl 2 _ rfl
          have y3 := X.out.cl 3 _ rfl
          have y4 := X.out.cl 4 _ rfl
          go_wp2_with fail
          have HP : Hid (∀ W, Below w.heap.size w W → OpP w L (.returned (.tuple #[opV ⟨2, f1, ⟨#[]⟩, vv, false⟩, .bool ok])) W) := fun W hb => by
            obtain ⟨hok, hvv⟩ := HQ.out
            cases hx : numO f2.data.toList with
            | none =>
              rw [hx] at hok
              have ho : opO L = none := by rw [HNO.out, hx]; rfl
              subst hok
              exact OpP.no ho hb
            | some x =>
              rw [hx] at hok
              have ho : opO L = some ⟨2, f1, ⟨#[]⟩, vv, false⟩ := by rw [HNO.out, hx, hvv x hx]; rfl
              subst hok
              exact OpP.yes ho hb
          obtain ⟨b9, x9⟩ := op_box BA.out X.out ⟨2, f1, ⟨#[]⟩, vv, false⟩
          have d0 := x9.cl 0 _ rfl
          have d1 := x9.cl 1 _ rfl
          have d2 := x9.cl 2 _ rfl
          have d3 := x9.cl 3 _ rfl
          have d4 := x9.cl 4 _ rfl
          exact bodyPost_ret (v := .tuple #[opV ⟨2, f1, ⟨#[]⟩, vv, false⟩, .bool ok]) (by simp [results, Tryz.results14, go_sem, opV, d0, d1, d2, d3, d4]) rfl (HP.out _ b9)
        replace q3 : (f0.toList == [100, 101, 108, 101, 116, 101]) = false := by simpa using q3
        by_cases q4 : (f0.toList == [99, 104, 101, 99, 107]) = true
        case pos =>
          have HNO : Hid (opO L = (numO f2.data.toList).map fun v => ⟨4, f1, ⟨#[]⟩, v, false⟩) := by
            show _ = _
            rw [HOP.out]; unfold opO3; rw [if_neg (by rw [q1]; decide), if_neg (by rw [q2]; decide), if_neg (by rw [q3]; decide), if_pos q4]
          clear HOP
          go_wp2_with fail
          refine (l6Number_any 1048576 f2 wr z2 (Nat.le_refl _)).mono ?_
          rintro e w2 ⟨vv, ok, rfl, b2, hok, hvv⟩
          replace c0 := (b2.cell (p := ⟨b, o, none⟩) hbw).trans c0
          replace c1 := (b2.cell (p := ⟨b, o + 1, none⟩) hbw).trans c1
          replace BA := hd9 (BA.out.trans (b2.mono BA.out.size))
          replace X := hd9 (X.out.below b2)
          have HQ := hd9 (And.intro hok hvv)
          replace hbw := Nat.lt_of_lt_of_le hbw b2.size
          clear b2 hok hvv c2
          have x0 := X.out.fz
          have y0 := X.out.cl 0 _ rfl
          have y1 := X.out.cl 1 _ rfl
          have y2 := X.out.cl 2 _ rfl
          have y3 := X.out.cl 3 _ rfl
          have y4 := X.out.cl 4 _ rfl
          go_wp2_with fail
          have HP : Hid (∀ W, Below w.heap.size w W → OpP w L (.returned (.tuple #[opV ⟨4, f1, ⟨#[]⟩, vv, false⟩, .bool ok])) W) := fun W hb => by
            obtain ⟨hok, hvv⟩ := HQ.out
            cases hx : numO f2.data.toList with
            | none =>
              rw [hx] at hok
              have ho : opO L = none := by rw [HNO.out, hx]; rfl
              subst hok
              exact OpP.no ho hb
            | some x =>
              rw [hx] at hok
              have ho : opO L = some ⟨4, f1, ⟨#[]⟩, vv, false⟩ := by rw [HNO.out, hx, hvv x hx]; rfl
              subst hok
              exact OpP.yes ho hb
          obtain ⟨b9, x9⟩ := op_box BA.out X.out ⟨4, f1, ⟨#[]⟩, vv, false⟩
          have d0 := x9.cl 0 _ rfl
          have d1 := x9.cl 1 _ rfl
          have d2 := x9.cl 2 _ rfl
          have d3 := x9.cl 3 _ rfl
          have d4 := x9.cl 4 _ rfl
          exact bodyPost_ret (v := .tuple #[opV ⟨4, f1, ⟨#[]⟩, vv, false⟩, .bool ok]) (by simp [results, Tryz.results14, go_sem, opV, d0, d1, d2, d3, d4]) rfl (HP.out _ b9)
        replace q4 : (f0.toList == [99, 104, 101, 99, 107]) = false := by simpa using q4
        have HNO : Hid (opO L = none) := by
          show _ = _
          rw [HOP.out]; unfold opO3; rw [if_neg (by rw [q1]; decide), if_neg (by rw [q2]; decide), if_neg (by rw [q3]; decide), if_neg (by rw [q4]; decide)]
        clear HOP
        have x0 := X.out.fz
        have y0 := X.out.cl 0 _ rfl
        have y1 := X.out.cl 1 _ rfl
        have y2 := X.out.cl 2 _ rfl
        have y3 := X.out.cl 3 _ rfl
        have y4 := X.out.cl 4 _ rfl
        go_wp2_with fail
        obtain ⟨b9, x9⟩ := op_box BA.out X.out ⟨0, ⟨#[]⟩, ⟨#[]⟩, 0, false⟩
        have d0 := x9.cl 0 _ rfl
        have d1 := x9.cl 1 _ rfl
        have d2 := x9.cl 2 _ rfl
        have d3 := x9.cl 3 _ rfl
        have d4 := x9.cl 4 _ rfl
        exact bodyPost_ret (v := .tuple #[opV ⟨0, ⟨#[]⟩, ⟨#[]⟩, 0, false⟩, .bool false]) (by simp [results, Tryz.results14, go_sem, opV, d0, d1, d2, d3, d4]) rfl (OpP.no HNO.out b9)
      have hn3 : (((L.length : Nat) : Int) == 3) = false := beq_false_of_ne (by omega)
      rw [if_neg h3] at HOP
      by_cases h4 : L.length = 4
      case pos =>
        have hn4 : (((L.length : Nat) : Int) == 4) = true := beq_iff_eq.2 (by omega)
        have hg3 : (3 : Int) < ((L.length : Nat) : Int) := by omega
        have hg2 : (2 : Int) < ((L.length : Nat) : Int) := by omega
        have hg1 : (1 : Int) < ((L.length : Nat) : Int) := by omega
        have c0 := HCL.out 0 (by omega)
        rw [Nat.add_zero] at c0
        have c1 := HCL.out 1 (by omega)
        have c2 := HCL.out 2 (by omega)
        have c3 := HCL.out 3 (by omega)
        have z3 := HSZ.out 3
        rw [if_pos h4] at HOP
        clear h3 h4 HCL HSZ
        generalize bAt L 0 = f0 at *
        generalize bAt L 1 = f1 at *
        generalize bAt L 2 = f2 at *
        generalize bAt L 3 = f3 at *
        by_cases q1 : (f0.toList == [115, 101, 116]) = true
        case pos =>
          have HNO : Hid (opO L = (numO f3.data.toList).map fun v => ⟨3, f1, datB f2, v, false⟩) := by
            show _ = _
            rw [HOP.out]; unfold opO4; rw [if_pos q1]
          clear HOP
          go_wp2_with fail
          refine (l6Number_any 1048576 f3 wr z3 (Nat.le_refl _)).mono ?_
          rintro e w2 ⟨vv, ok, rfl, b2, hok, hvv⟩
          replace c1 := (b2.cell (p := ⟨b, o + 1, none⟩) hbw).trans c1
          replace c2 := (b2.cell (p := ⟨b, o + 2, none⟩) hbw).trans c2
          replace BA := hd9 (BA.out.trans (b2.mono BA.out.size))
          replace X := hd9 (X.out.below b2)
          replace sB := BA.out.size
          have HQ := hd9 (And.intro hok hvv)
          replace hbw := Nat.lt_of_lt_of_le hbw b2.size
          clear b2 hok hvv c0 c3
          have c0 := c1
          go_wp2_with fail
          have bD : Below w2.heap.size w2 w2.drew := below_drewN' w2 1
          refine wp_region_held_drew (S := fun W => W.cell? ⟨b, o + 1, none⟩ = some (.string f1) ∧ W.cell? ⟨b, o + 2, none⟩ = some (.string f2)) (by kernel_rfl) ⟨(bD.cell (p := ⟨b, o + 1, none⟩) hbw).trans c1, (bD.cell (p := ⟨b, o + 2, none⟩) hbw).trans c2⟩ (fun hHeld => ?_)
          replace BA := hd9 (BA.out.trans (bD.mono BA.out.size))
          replace X := hd9 (X.out.below bD)
          clear bD c0 c1 c2
          generalize w2.drew = m0 at *
          refine wpAnyH_take (i := 0) (oi := { dst := some 72, op := _, type := _, pos := _, after := _, guard := _ }) (v := (.slice (some ⟨b, o, none⟩) L.length cap)) rfl (by kernel_rfl) (by kernel_rfl) (by kernel_rfl) (fun _ _ _ h => h) (Or.inl ⟨by rfl, fun w9 hS9 => by (clear hS9; go_simp; try with_reducible rfl)⟩) (by assumption) ?_
          try simp only [Act.put, List.setIfInBounds_toArray, List.set_cons_zero, List.set_cons_succ]
          refine wpAnyH_take (i := 1) (oi := { dst := some 73, op := _, type := _, pos := _, after := _, guard := _ }) (v := (.pointer (some ⟨b, o + 1, none⟩))) rfl (by kernel_rfl) (by kernel_rfl) (by kernel_rfl) (fun _ _ _ h => h) (Or.inl ⟨by rfl, fun w9 hS9 => by (clear hS9; go_simp; try with_reducible rfl)⟩) (by assumption) ?_
          try simp only [Act.put, List.setIfInBounds_toArray, List.set_cons_zero, List.set_cons_succ]
          refine wpAnyH_take (i := 2) (oi := { dst := some 74, op := _, type := _, pos := _, after := _, guard := _ }) (v := (.string f1)) rfl (by kernel_rfl) (by kernel_rfl) (by kernel_rfl) (fun _ _ _ h => h) (Or.inl ⟨by rfl, fun w9 hS9 => by (have h9 := hS9.1; clear hS9; go_simp; try with_reducible rfl)⟩) (by assumption) ?_
          try simp only [Act.put, List.setIfInBounds_toArray, List.set_cons_zero, List.set_cons_succ]
          refine wpAnyH_take (i := 3) (oi := { dst := some 75, op := _, type := _, pos := _, after := _, guard := _ }) (v := (.slice (some ⟨b, o, none⟩) L.length cap)) rfl (by kernel_rfl) (by kernel_rfl) (by kernel_rfl) (fun _ _ _ h => h) (Or.inl ⟨by rfl, fun w9 hS9 => by (clear hS9; go_simp; try with_reducible rfl)⟩) (by assumption) ?_
          try simp only [Act.put, List.setIfInBounds_toArray, List.set_cons_zero, List.set_cons_succ]
          refine wpAnyH_take (i := 4) (oi := { dst := some 76, op := _, type := _, pos := _, after := _, guard := _ }) (v := (.pointer (some ⟨b, o + 2, none⟩))) rfl (by kernel_rfl) (by kernel_rfl) (by kernel_rfl) (fun _ _ _ h => h) (Or.inl ⟨by rfl, fun w9 hS9 => by (clear hS9; go_simp; try with_reducible rfl)⟩) (by assumption) ?_
          try simp only [Act.put, List.setIfInBounds_toArray, List.set_cons_zero, List.set_cons_succ]
          refine wpAnyH_take (i := 5) (oi := { dst := some 77, op := _, type := _, pos := _, after := _, guard := _ }) (v := (.string f2)) rfl (by kernel_rfl) (by kernel_rfl) (by kernel_rfl) (fun _ _ _ h => h) (Or.inl ⟨by rfl, fun w9 hS9 => by (have h9 := hS9.2; clear hS9; go_simp; try with_reducible rfl)⟩) (by assumption) ?_
          try simp only [Act.put, List.setIfInBounds_toArray, List.set_cons_zero, List.set_cons_succ]
          refine wpAnyH_take (i := 7) (oi := { dst := some 79, op := _, type := _, pos := _, after := _, guard := _ }) (v := (.int .i64 vv)) rfl (by kernel_rfl) (by kernel_rfl) (by kernel_rfl) (fun _ _ _ h => h) (Or.inl ⟨by rfl, fun w9 hS9 => by (clear hS9; go_simp; try with_reducible rfl)⟩) (by assumption) ?_
          try simp only [Act.put, List.setIfInBounds_toArray, List.set_cons_zero, List.set_cons_succ]
          refine wpAnyH_take (i := 9) (oi := { dst := some 81, op := _, type := _, pos := _, after := _, guard := _ }) (v := (.bool ok)) rfl (by kernel_rfl) (by kernel_rfl) (by kernel_rfl) (fun _ _ _ h => h) (Or.inl ⟨by rfl, fun w9 hS9 => by (clear hS9; go_simp; try with_reducible rfl)⟩) (by assumption) ?_
          try simp only [Act.put, List.setIfInBounds_toArray, List.set_cons_zero, List.set_cons_succ]
          refine wpAnyH_ready (rs := [6]) (by kernel_rfl) (by simp) ?_
          refine AllReadyH.cons (o := { dst := some 78, op := _, type := _, pos := _, after := _, guard := _ }) rfl (fun K hK => ?_) AllReadyH.nil
          go_simp
          refine (l6Data_any m0 f2).mono ?_
          rintro e m1 ⟨rfl, hm1⟩
          subst hm1
          refine hK.out _ _ (hHeld) (fun hx9 => ?_)
          clear hK K hHeld
          have hHeld := hx9
          clear hx9 
          try simp only [Act.put, List.setIfInBounds_toArray, List.set_cons_zero, List.set_cons_succ]
          generalize datB f2 = dd at *
          refine wpAnyH_take (i := 8) (oi := { dst := some 80, op := _, type := _, pos := _, after := _, guard := _ }) (v := (.agg #[.int .i64 3, .string f1, .string dd, .int .i64 vv, .bool false])) rfl (by kernel_rfl) (by kernel_rfl) (by kernel_rfl) (fun _ _ _ h => h) (Or.inl ⟨by rfl, fun w9 hS9 => by (clear hS9; go_simp; try with_reducible rfl)⟩) (by assumption) ?_
          try simp only [Act.put, List.setIfInBounds_toArray, List.set_cons_zero, List.set_cons_succ]
          refine wpAnyH_ready (rs := [10]) (by kernel_rfl) (by simp) ?_
          refine AllReadyH.cons (o := { dst := none, op := _, type := _, pos := _, after := _, guard := _ }) rfl (fun K hK => ?_) AllReadyH.nil
          have x0 := X.out.fz
          have y0 := X.out.cl 0 _ rfl
          have y1 := X.out.cl 1 _ rfl
          have y2 := X.out.cl 2 _ rfl
          have y3 := X.out.cl 3 _ rfl
          have y4 := X.out.cl 4 _ rfl
          go_simp
          refine hK.out _ _ (⟨(World.cell?_setCell_other _ _ _ _ (by intro e9; injection e9 with e1 e2; omega)).trans ((World.cell?_setCell_other _ _ _ _ (by intro e9; injection e9 with e1 e2; omega)).trans ((World.cell?_setCell_other _ _ _ _ (by intro e9; injection e9 with e1 e2; omega)).trans ((World.cell?_setCell_other _ _ _ _ (by intro e9; injection e9 with e1 e2; omega)).trans ((World.cell?_setCell_other _ _ _ _ (by intro e9; injection e9 with e1 e2; omega)).trans hHeld.1)))), (World.cell?_setCell_other _ _ _ _ (by intro e9; injection e9 with e1 e2; omega)).trans ((World.cell?_setCell_other _ _ _ _ (by intro e9; injection e9 with e1 e2; omega)).trans ((World.cell?_setCell_other _ _ _ _ (by intro e9; injection e9 with e1 e2; omega)).trans ((World.cell?_setCell_other _ _ _ _ (by intro e9; injection e9 with e1 e2; omega)).trans ((World.cell?_setCell_other _ _ _ _ (by intro e9; injection e9 with e1 e2; omega)).trans hHeld.2))))⟩) (fun hx9 => ?_)
          clear hK K hHeld
          have hHeld := hx9
          clear hx9 x0 y0 y1 y2 y3 y4
          try simp only [Act.put, List.setIfInBounds_toArray, List.set_cons_zero, List.set_cons_succ]
          refine wpAnyH_take (i := 11) (oi := { dst := some 3, op := _, type := _, pos := _, after := _, guard := _ }) (v := (.bool ok)) rfl (by kernel_rfl) (by kernel_rfl) (by kernel_rfl) (fun _ _ _ h => h) (Or.inl ⟨by rfl, fun w9 hS9 => by (clear hS9; go_simp; try with_reducible rfl)⟩) (by assumption) ?_
          try simp only [Act.put, List.setIfInBounds_toArray, List.set_cons_zero, List.set_cons_succ]
          refine wpAnyH_done (by kernel_rfl) ?_ _
          clear hHeld
          go_wp2_with fail
          have HP : Hid (∀ W, Below w.heap.size w W → OpP w L (.returned (.tuple #[opV ⟨3, f1, dd, vv, false⟩, .bool ok])) W) := fun W hb => by
            obtain ⟨hok, hvv⟩ := HQ.out
            cases hx : numO f3.data.toList with
            | none =>
              rw [hx] at hok
              have ho : opO L = none := by rw [HNO.out, hx]; rfl
              subst hok
              exact OpP.no ho hb
            | some x =>
              rw [hx] at hok
              have ho : opO L = some ⟨3, f1, dd, vv, false⟩ := by rw [HNO.out, hx, hvv x hx]; rfl
              subst hok
              exact OpP.yes ho hb
          obtain ⟨b9, x9⟩ := op_box BA.out X.out ⟨3, f1, dd, vv, false⟩
          have d0 := x9.cl 0 _ rfl
          have d1 := x9.cl 1 _ rfl
          have d2 := x9.cl 2 _ rfl
          have d3 := x9.cl 3 _ rfl
          have d4 := x9.cl 4 _ rfl
          exact bodyPost_ret (v := .tuple #[opV ⟨3, f1, dd, vv, false⟩, .bool ok]) (by simp [results, Tryz.results14, go_sem, opV, d0, d1, d2, d3, d4]) rfl (HP.out _ b9)
        replace q1 : (f0.toList == [115, 101, 116]) = false := by simpa using q1
        have HNO : Hid (opO L = none) := by
          show _ = _
          rw [HOP.out]; unfold opO4; rw [if_neg (by rw [q1]; decide)]
        clear HOP
        have x0 := X.out.fz
        have y0 := X.out.cl 0 _ rfl
        have y1 := X.out.cl 1 _ rfl
        have y2 := X.out.cl 2 _ rfl
        have y3 := X.out.cl 3 _ rfl
        have y4 := X.out.cl 4 _ rfl
        go_wp2_with fail
        obtain ⟨b9, x9⟩ := op_box BA.out X.out ⟨0, ⟨#[]⟩, ⟨#[]⟩, 0, false⟩
        have d0 := x9.cl 0 _ rfl
        have d1 := x9.cl 1 _ rfl
        have d2 := x9.cl 2 _ rfl
        have d3 := x9.cl 3 _ rfl
        have d4 := x9.cl 4 _ rfl
        exact bodyPost_ret (v := .tuple #[opV ⟨0, ⟨#[]⟩, ⟨#[]⟩, 0, false⟩, .bool false]) (by simp [results, Tryz.results14, go_sem, opV, d0, d1, d2, d3, d4]) rfl (OpP.no HNO.out b9)
      have hn4 : (((L.length : Nat) : Int) == 4) = false := beq_false_of_ne (by omega)
      rw [if_neg h4] at HOP
      clear h3 h4 HCL HSZ
      have x0 := X.out.fz
      have y0 := X.out.cl 0 _ rfl
      have y1 := X.out.cl 1 _ rfl
      have y2 := X.out.cl 2 _ rfl
      have y3 := X.out.cl 3 _ rfl
      have y4 := X.out.cl 4 _ rfl
      go_wp2_with fail
      obtain ⟨b9, x9⟩ := op_box BA.out X.out ⟨0, ⟨#[]⟩, ⟨#[]⟩, 0, false⟩
      have d0 := x9.cl 0 _ rfl
      have d1 := x9.cl 1 _ rfl
      have d2 := x9.cl 2 _ rfl
      have d3 := x9.cl 3 _ rfl
      have d4 := x9.cl 4 _ rfl
      exact bodyPost_ret (v := .tuple #[opV ⟨0, ⟨#[]⟩, ⟨#[]⟩, 0, false⟩, .bool false]) (by simp [results, Tryz.results14, go_sem, opV, d0, d1, d2, d3, d4]) rfl (OpP.no HOP.out b9)


def badR (r : Nat) : Bool := decide (r < 33) || decide (126 < r)
set_option maxRecDepth 100000 in
theorem isNoFieldRune_any (W : World) (x : Nat) (hx : x ≤ 1114111) : Calls Tryz.prog 33 #[.int .i32 (x : Int)] W fun e w' => e = .returned (.bool (badR x)) ∧ w' = W := by
  by_cases h1 : x < 33
  · have h1I : (x : Int) < 33 := by omega
    have HB : Hid (badR x = true) := by show _ = _; unfold badR; rw [decide_eq_true h1]; rfl
    go_enter Tryz.func33, Tryz.ntmps33
    go_wp2
    go_ret
    exact ⟨by rw [HB.out]; rfl, rfl⟩
  · have h1I : ¬ (x : Int) < 33 := by omega
    by_cases h2 : 126 < x
    · have h2I : (126 : Int) < (x : Int) := by omega
      have HB : Hid (badR x = true) := by show _ = _; unfold badR; rw [decide_eq_true h2, Bool.or_true]
      go_enter Tryz.func33, Tryz.ntmps33
      go_wp2
      go_ret
      exact ⟨by rw [HB.out]; rfl, rfl⟩
    · have h2I : ¬ (126 : Int) < (x : Int) := by omega
      have HB : Hid (badR x = false) := by show _ = _; unfold badR; rw [decide_eq_false h1, decide_eq_false h2]; rfl
      go_enter Tryz.func33, Tryz.ntmps33
      go_wp2
      go_ret
      exact ⟨by rw [HB.out]; rfl, rfl⟩
theorem badR_pred (w : World) : PredAtRunes Tryz.prog 33 #[] badR w := fun W x hx _ => by
  refine (isNoFieldRune_any W x hx).mono ?_
  rintro e w' ⟨rfl, rfl⟩
  exact ⟨rfl, 0, rfl⟩
theorem enters_rune : ∀ args w, (callFunc 33 args).run Tryz.prog w = .ok (.enter 33 args) w := enters_of Tryz.func33 (by kernel_rfl) rfl
/-- A sign that no field has, as ContainsFunc finds it. -/
theorem idx_bad (s : ByteArray) : ∀ (f pos : Nat), s.size ≤ pos + f → (0 ≤ Lib.idxFuncFrom badR true s f pos ↔ (s.data.toList.drop pos).all okCh = false)
  | 0, pos, h => by
    have hd : s.data.toList.drop pos = [] := List.drop_of_length_le (by rw [dl_len]; omega)
    rw [hd]
    simp [Lib.idxFuncFrom]
  | f + 1, pos, h => by
    by_cases hp : pos < s.size
    · rw [drop_at s pos hp, List.all_cons]
      unfold Lib.idxFuncFrom
      rw [if_pos hp]
      by_cases ha : s[pos].toNat < 128
      · rw [decode_ascii s pos hp ha]
        simp only []
        cases hb : badR s[pos].toNat with
        | true =>
          rw [if_pos rfl]
          have hno : okCh s[pos] = false := by
            unfold badR at hb
            unfold okCh
            simp at hb ⊢
            omega
          rw [hno]
          simp
        | false =>
          rw [if_neg (by decide)]
          have hyes : okCh s[pos] = true := by
            unfold badR at hb
            rw [okCh_iff]
            simp at hb
            omega
          rw [hyes, Bool.true_and]
          exact idx_bad s f (pos + 1) (by omega)
      · have hh := decode_high s pos hp (by omega)
        have hb : badR (Utf8.decode s pos).1 = true := by unfold badR; simp; omega
        rw [if_pos hb]
        have hno : okCh s[pos] = false := by unfold okCh; simp; omega
        rw [hno]
        simp
    · rw [Lib.idxFuncFrom_end _ _ _ _ _ hp]
      have hd : s.data.toList.drop pos = [] := List.drop_of_length_le (by rw [dl_len]; omega)
      rw [hd]
      simp
set_option linter.unusedSimpArgs false in
set_option maxRecDepth 100000 in
theorem isNoField_any (w : World) (b : ByteArray) : Calls Tryz.prog 19 #[.string b] w fun e w' => e = .returned (.bool (!goodB b)) ∧ Below w.heap.size w w' := by
  by_cases h0 : b.size = 0
  · have hn : b.data.toList = [] := List.eq_nil_of_length_eq_zero (by rw [dl_len]; exact h0)
    have hz : (b.toList == []) = true := by rw [ba_dl, hn]; rfl
    have HG : Hid (goodB b = false) := by show _ = _; unfold goodB; rw [decide_eq_false (by omega)]; rfl
    clear h0 hn
    go_enter Tryz.func19, Tryz.ntmps19
    go_wp2_with fail
    go_ret
    exact ⟨by rw [HG.out]; rfl, Below.refl _ _⟩
  · have hz : (b.toList == []) = false := by
      rw [ba_dl]
      cases hx : b.data.toList with
      | nil => have := dl_len b; rw [hx] at this; simp at this; omega
      | cons c r => rfl
    have hi : 0 ≤ Lib.idxFunc badR true b ↔ (b.data.toList.drop 0).all okCh = false := idx_bad b b.size 0 (by omega)
    rw [List.drop_zero] at hi
    have HG : Hid (decide (0 ≤ Lib.idxFunc badR true b) = !goodB b) := by
      show _ = _
      unfold goodB
      rw [decide_eq_true (show 0 < b.size by omega), Bool.true_and]
      cases hx : b.data.toList.all okCh with
      | true => rw [decide_eq_false (fun h9 => by rw [hi.1 h9] at hx; cases hx)]; rfl
      | false => rw [decide_eq_true (hi.2 hx)]; rfl
    have HC := hd9 (Tryz.strings_ContainsFunc_runes 33 #[] enters_rune badR b w (badR_pred w))
    rw [HG.out] at HC
    clear h0 hi HG
    go_enter Tryz.func19, Tryz.ntmps19
    go_wp2_with fail
    refine HC.out.mono ?_
    rintro e w1 ⟨rfl, b1⟩
    have B1 := hd9 b1
    clear b1 HC
    go_wp2_with fail
    go_ret
    exact ⟨rfl, B1.out⟩












def op0 : Op5 := ⟨0, ByteArray.empty, ByteArray.empty, 0, false⟩
def oAt (os : List Op5) (i : Nat) : Op5 := os.getD i op0
/-- The cells of an operation. -/
def CellsO (w : World) (b off : Nat) (o : Op5) : Prop :=
  w.cell? ⟨b, off, none⟩ = some (.int .i64 o.kind) ∧ w.cell? ⟨b, off + 1, none⟩ = some (.string o.path) ∧ w.cell? ⟨b, off + 2, none⟩ = some (.string o.data) ∧ w.cell? ⟨b, off + 3, none⟩ = some (.int .i64 o.ver) ∧ w.cell? ⟨b, off + 4, none⟩ = some (.bool o.seq)
theorem CellsO.below {w w' : World} {b off B : Nat} {o : Op5} (h : CellsO w b off o) (hb : Below B w w') (hlt : b < B) : CellsO w' b off o :=
  ⟨(hb.cell (p := ⟨b, off, none⟩) hlt).trans h.1, (hb.cell (p := ⟨b, off + 1, none⟩) hlt).trans h.2.1, (hb.cell (p := ⟨b, off + 2, none⟩) hlt).trans h.2.2.1, (hb.cell (p := ⟨b, off + 3, none⟩) hlt).trans h.2.2.2.1, (hb.cell (p := ⟨b, off + 4, none⟩) hlt).trans h.2.2.2.2⟩
/-- A slice of operations. -/
def RdO (w : World) (v : Value) (os : List Op5) : Prop :=
  ∃ ao cap, v = .slice ao os.length cap ∧ os.length ≤ cap ∧ cap ≤ maxLen ∧
    (os = [] ∨ ∃ b off, ao = some ⟨b, off, none⟩ ∧ b < w.heap.size ∧ ∀ i, i < os.length → CellsO w b (off + i * 5) (oAt os i))
theorem RdO.len {w : World} {v : Value} {os : List Op5} (h : RdO w v os) : ∃ ao cap, v = .slice ao os.length cap ∧ os.length ≤ cap ∧ cap ≤ maxLen := by
  obtain ⟨ao, cap, h0, h1, h2, _⟩ := h
  exact ⟨ao, cap, h0, h1, h2⟩
theorem RdO.below {w w' : World} {v : Value} {os : List Op5} (h : RdO w v os) (hb : Below w.heap.size w w') : RdO w' v os := by
  obtain ⟨ao, cap, rfl, h1, h2, h3⟩ := h
  refine ⟨ao, cap, rfl, h1, h2, ?_⟩
  rcases h3 with h3 | ⟨b, off, rfl, hlt, hc⟩
  · exact .inl h3
  · exact .inr ⟨b, off, rfl, Nat.lt_of_lt_of_le hlt hb.size, fun i hi => (hc i hi).below hb hlt⟩

end Go.Proofs.YtmjliomhhgahkaaGreatDoor
namespace Go.Proofs.YtmjliomhhgahkaaGreatDoor
open Go.RowKit

def opL (n : Op5) : List Value := [.int .i64 n.kind, .string n.path, .string n.data, .int .i64 n.ver, .bool n.seq]
def orow (ns : List Op5) : List Value := ns.flatMap opL
theorem orow_cons (n : Op5) (ns : List Op5) : orow (n :: ns) = opL n ++ orow ns := by simp [orow]
theorem orow_append (ns ms : List Op5) : orow (ns ++ ms) = orow ns ++ orow ms := by simp [orow]
theorem orow_length : ∀ ns : List Op5, (orow ns).length = ns.length * 5
  | [] => rfl
  | n :: ns => by rw [orow_cons, List.length_append, orow_length ns, List.length_cons]; show 5 + _ = _; omega
theorem orow_get : ∀ (ns : List Op5) (i j : Nat), i < ns.length → j < 5 → (orow ns)[i * 5 + j]? = (opL (oAt ns i))[j]?
  | [], i, j, h, _ => by simp at h
  | n :: ns, 0, j, _, hj => by
    rw [orow_cons, Nat.zero_mul, Nat.zero_add, List.getElem?_append_left (by show j < 5; exact hj)]; rfl
  | n :: ns, i + 1, j, h, hj => by
    rw [orow_cons, List.getElem?_append_right (by show 5 ≤ _; omega), show (i + 1) * 5 + j - (opL n).length = i * 5 + j by show (i + 1) * 5 + j - 5 = _; omega, orow_get ns i j (by simpa using h) hj]
    rfl
def set5 (L : List Value) (p : Nat) (n : Op5) : List Value :=
  ((((L.set p (.int .i64 n.kind)).set (p + 1) (.string n.path)).set (p + 2) (.string n.data)).set (p + 3) (.int .i64 n.ver)).set (p + 4) (.bool n.seq)
theorem set5_app (a L : List Value) (p : Nat) (n : Op5) (h : a.length = 5) : set5 (a ++ L) (5 + p) n = a ++ set5 L p n := by
  unfold set5
  have e : ∀ (M : List Value) (q : Nat) (v : Value), (a ++ M).set (5 + q) v = a ++ M.set q v := fun M q v => by
    rw [List.set_append_right _ _ (by omega)]; congr 2; omega
  rw [e, show 5 + p + 1 = 5 + (p + 1) by omega, e, show 5 + p + 2 = 5 + (p + 2) by omega, e, show 5 + p + 3 = 5 + (p + 3) by omega, e, show 5 + p + 4 = 5 + (p + 4) by omega, e]
theorem orow_set : ∀ (ns : List Op5) (k : Nat) (n : Op5), k < ns.length → set5 (orow ns) (k * 5) n = orow (ns.set k n)
  | [], k, n, h => by simp at h
  | m :: ns, 0, n, _ => by
    rw [orow_cons, List.set_cons_zero, orow_cons]
    rfl
  | m :: ns, k + 1, n, h => by
    rw [orow_cons, List.set_cons_succ, orow_cons, show (k + 1) * 5 = 5 + k * 5 by omega, set5_app _ _ _ _ rfl, orow_set ns k n (by simpa using h)]
/-- A slice of nodes of the call's own. -/
def OwnO (e : TypeId) (w : World) (lo : Nat) (v : Value) (ns : List Op5) : Prop := w.ownsRow lo e 5 v ns.length (orow ns)
theorem OwnO.rd {e : TypeId} {w : World} {lo : Nat} {v : Value} {ns : List Op5} (h : OwnO e w lo v ns) : RdO w v ns := by
  rcases h.2 with ⟨rfl, h0⟩ | ⟨g, cap, cur, rfl, hb, hg, hn, hm, hs, ht⟩
  · have : ns = [] := List.eq_nil_of_length_eq_zero h0
    subst this
    exact ⟨none, 0, rfl, Nat.le_refl _, Nat.zero_le _, .inl rfl⟩
  · refine ⟨_, cap, rfl, hn, hm, .inr ⟨g, 0, rfl, (Array.getElem?_eq_some_iff.1 hg).1, fun i hi => ?_⟩⟩
    have c : ∀ j, j < 5 → w.cell? ⟨g, 0 + (i * 5 + j), none⟩ = (opL (oAt ns i))[j]? := fun j hj => by
      have hh := orow_get ns i j hi hj
      have h9 : (opL (oAt ns i))[j]? = some ((opL (oAt ns i)).getD j undef) := by
        match j, hj with
        | 0, _ => rfl
        | 1, _ => rfl
        | 2, _ => rfl
        | 3, _ => rfl
        | 4, _ => rfl
      rw [h9] at hh
      have := World.ownsRow.cells h (g := g) rfl (i * 5 + j) _ hh
      rw [Addr.add_lit] at this
      rw [this, h9]
    exact ⟨c 0 (by omega), c 1 (by omega), c 2 (by omega), c 3 (by omega), c 4 (by omega)⟩
theorem OwnO.below {e : TypeId} {w w' : World} {lo : Nat} {v : Value} {ns : List Op5} (h : OwnO e w lo v ns) (hb : Below w.heap.size w w') : OwnO e w' lo v ns := by
  refine ⟨h.1, ?_⟩
  rcases h.2 with hn | ⟨g, cap, cur, rfl, hbg, hgg, rest⟩
  · exact .inl hn
  · exact .inr ⟨g, cap, cur, rfl, hbg, by rw [hb.block g (Array.getElem?_eq_some_iff.1 hgg).1]; exact hgg, rest⟩
theorem OwnO.mono {e : TypeId} {w : World} {lo lo' : Nat} {v : Value} {ns : List Op5} (h : OwnO e w lo v ns) (hl : lo' ≤ lo) : OwnO e w lo' v ns := by
  refine ⟨h.1, ?_⟩
  rcases h.2 with hn | ⟨g, cap, cur, rfl, hbg, rest⟩
  · exact .inl hn
  · exact .inr ⟨g, cap, cur, rfl, Nat.le_trans hl hbg, rest⟩
theorem OwnO.slice {e : TypeId} {w : World} {lo : Nat} {v : Value} {ns : List Op5} (h : OwnO e w lo v ns) : ∃ a c, v = .slice a ns.length c := by
  obtain ⟨a, c, h0, _⟩ := h.rd.len
  exact ⟨a, c, h0⟩

end Go.Proofs.YtmjliomhhgahkaaGreatDoor


