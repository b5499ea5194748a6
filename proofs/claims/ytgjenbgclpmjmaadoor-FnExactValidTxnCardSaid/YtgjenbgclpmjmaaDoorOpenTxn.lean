import Derived.Test.YtgjenbgclpmjmaaDoorOpenTree
import Derived.Test.YtgjenbgclpmjmaaDoorLValidTxn
namespace Go.Proofs.YtgjenbgclpmjmaaDoor
open Go.ChangeShapes Go.WideShapes Go.ChangeAt Go.RowKit

theorem cells_X : Tryd.prog.cellsOf 36 = 2 := by kernel_rfl
theorem cells_E : Tryd.prog.cellsOf 130 = 8 := by kernel_rfl
theorem cells_B : Tryd.prog.cellsOf 4 = 1 := by kernel_rfl

section
variable {H : Type} {enc : TypeId × Value → H} {W : World} {base : Nat} {held : Bool}

set_option maxRecDepth 100000 in
theorem open_effect_cells {m : Nat} {cs : List Value} {y : DataW H × List MemPlace} (h : DataW.trod enc Tryd.prog W base (fun _ => true) held m 130 cs = some y) :
    ∃ n : Ef, cs = efL n ∧ n.nd.path.size ≤ maxLen ∧ n.nd.data.size ≤ maxLen := by
  obtain ⟨xs, k, -, -, hl, hlen, hfs⟩ := DataW.trod_struct Tryd.underlying130 h
  rw [cells_E] at hl
  match xs, hlen with
  | [y0, y1], _ =>
    match cs, hl with
    | [c0, c1, c2, c3, c4, c5, c6, c7], _ =>
      have h0 : DataW.trod enc Tryd.prog W base (fun _ => true) held k 4 [c0] = some y0 := by
        have := hfs 0 _ rfl
        simpa [cells_B, cells_N] using this
      have h1 : DataW.trod enc Tryd.prog W base (fun _ => true) held k 125 [c1, c2, c3, c4, c5, c6, c7] = some y1 := by
        have := hfs 1 _ rfl
        simpa [cells_B, cells_N] using this
      obtain ⟨d, e0, -⟩ := DataW.trod_bool Tryd.underlying4 h0
      obtain ⟨n, e1, l0, l1⟩ := open_node_cells h1
      simp only [List.cons.injEq, and_true] at e0
      subst e0
      refine ⟨⟨d, n⟩, ?_, l0, l1⟩
      rw [e1]
      rfl

theorem eAt_mk {n : Nat} (Z : Nat → Ef) (i : Nat) (h : i < n) : eAt ((List.range n).map Z) i = Z i := by unfold eAt; simp [List.getD, h]
theorem eAt_out {ns : List Ef} {i : Nat} (h : ns.length ≤ i) : eAt ns i = ef0 := by unfold eAt; rw [List.getD, List.getElem?_eq_none h]; rfl

set_option maxRecDepth 100000 in
theorem open_effects_cell {m : Nat} {c : Value} {y : DataW H × List MemPlace} (h : DataW.trod enc Tryd.prog W base (fun _ => true) held m 34 [c] = some y) : ∃ ns, InX W c ns := by
  rcases Deep.open_slice Tryd.underlying34 h with ⟨hcs, _⟩ | ⟨a, len, cap, m, q, D, Pl, hcs, hb, hl, hm, hme, _, hall⟩
  · simp at hcs
    subst hcs
    exact ⟨[], ⟨none, 0, rfl, Nat.le_refl _, Nat.zero_le _, .inl rfl⟩, fun i => ⟨Nat.zero_le _, Nat.zero_le _⟩⟩
  · simp at hcs
    subst hcs
    rw [cells_E] at hall
    simp only [if_true] at hme
    subst hme
    by_cases h0 : len = 0
    · subst h0
      exact ⟨[], ⟨some a, m, rfl, Nat.zero_le _, hm, .inl rfl⟩, fun i => ⟨Nat.zero_le _, Nat.zero_le _⟩⟩
    have hex : ∀ i, i < len → ∃ n   : Ef, (∀ j, j < 8 → W.cell? ((a.add (i * 8)).add j) = (efL n)[j]?) ∧ n.nd.path.size ≤ maxLen ∧ n.nd.data.size ≤ maxLen := by
      intro i hi
      obtain ⟨cs', hc, ht⟩ := hall i (by omega)
      obtain ⟨n, rfl, l0, l1⟩ := open_effect_cells ht
      have hs := (World.cells?_some hc).2
      refine ⟨n, fun j hj => ?_, l0, l1⟩
      rw [hs.2 j (by omega)]
    haveI : Inhabited Ef := ⟨ef0⟩
    obtain ⟨Z, hZ⟩ := Deep.choose_lt (α := Ef) hex
    obtain ⟨b, off, spot⟩ := a
    have hspot : spot = none := by
      have := World.cell?_spot ((hZ 0 (by omega)).1 0 (by omega))
      simpa [Addr.add] using this
    subst hspot
    have hblt : b < W.heap.size := by
      have := World.block_lt_of_cell? W _ ((hZ 0 (by omega)).1 0 (by omega))
      simpa [Addr.add] using this
    refine ⟨(List.range len).map Z, ⟨some ⟨b, off, none⟩, m, by simp, by simpa using hl, hm, .inr ⟨b, off, rfl, hblt, fun i hi => ?_⟩⟩, fun i => ?_⟩
    · have hi' : i < len := by simpa using hi
      rw [eAt_mk Z i hi']
      have c := (hZ i hi').1
      have c' : ∀ j, j < 8 → W.cell? ⟨b, off + i * 8 + j, none⟩ = (efL (Z i))[j]? := fun j hj => by have := c j hj; rwa [addr_none, addr_none] at this
      exact ⟨c' 0 (by omega), c' 1 (by omega), c' 2 (by omega), c' 3 (by omega), c' 4 (by omega), c' 5 (by omega), c' 6 (by omega), c' 7 (by omega)⟩
    · by_cases hi : i < len
      · rw [eAt_mk Z i hi]; exact (hZ i hi).2
      · rw [eAt_out (by simp; omega)]; exact ⟨Nat.zero_le _, Nat.zero_le _⟩

set_option maxRecDepth 100000 in
/-- A transaction that came in. -/
theorem open_txn {b0 : Nat} {v : Value} {d : DataW H} {p : List MemPlace} (hv : Value.okWide Tryd.prog W .any b0 36 v) (h : DataW.Trod enc Tryd.prog W base (fun _ => true) held 36 v d p) :
    ∃ z c ns, v = .agg #[.int .i64 z, c] ∧ InX W c ns := by
  obtain ⟨c0, c1, y0, y1, m, rfl, _, _, h0, h1⟩ := Go.Joins.open_agg2 Tryd.underlying36 (by kernel_rfl) cells_X hv h
  obtain ⟨z, e0, -, -⟩ := DataW.trod_int Tryd.underlying2 h0
  simp only [List.cons.injEq, and_true] at e0
  subst e0
  obtain ⟨ns, hn⟩ := open_effects_cell h1
  exact ⟨z, c1, ns, rfl, hn⟩
end

end Go.Proofs.YtgjenbgclpmjmaaDoor
