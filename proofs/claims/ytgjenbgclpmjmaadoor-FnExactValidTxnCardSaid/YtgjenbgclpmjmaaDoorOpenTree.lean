import Derived.Test.YtgjenbgclpmjmaaDoorLValidTree
import Derived.Lib.SmallJoins
import Derived.Deep.Slices
import Derived.Deep.DeepHandedRow
import Derived.ShutString
import Derived.ChangeOld
import Derived.ChangeMaps5
namespace Go.Proofs.YtgjenbgclpmjmaaDoor
open Go.ChangeShapes Go.WideShapes Go.ChangeAt Go.RowKit

theorem cells_T : Tryd.prog.cellsOf 25 = 1 := by kernel_rfl
theorem cells_N : Tryd.prog.cellsOf 125 = 7 := by kernel_rfl
theorem cells_I : Tryd.prog.cellsOf 2 = 1 := by kernel_rfl
theorem cells_St : Tryd.prog.cellsOf 9 = 1 := by kernel_rfl
theorem cells_Ns : Tryd.prog.cellsOf 23 = 1 := by kernel_rfl
theorem addr_none (b o i : Nat) : (⟨b, o, none⟩ : Addr).add i = ⟨b, o + i, none⟩ := Addr.add_lit ..

section
variable {H : Type} {enc : TypeId × Value → H} {W : World} {base : Nat} {held : Bool}

set_option maxRecDepth 100000 in
theorem open_node_cells {m : Nat} {cs : List Value} {y : DataW H × List MemPlace} (h : DataW.trod enc Tryd.prog W base (fun _ => true) held m 125 cs = some y) :
    ∃ n : Nd, cs = ndL n ∧ n.path.size ≤ maxLen ∧ n.data.size ≤ maxLen := by
  obtain ⟨xs, k, -, -, hl, hlen, hfs⟩ := DataW.trod_struct Tryd.underlying125 h
  rw [cells_N] at hl
  match xs, hlen with
  | [y0, y1, y2, y3, y4, y5, y6], _ =>
    match cs, hl with
    | [c0, c1, c2, c3, c4, c5, c6], _ =>
      have h0 : DataW.trod enc Tryd.prog W base (fun _ => true) held k 9 [c0] = some y0 := by
        have := hfs 0 _ rfl
        simpa [cells_I, cells_St] using this
      have h1 : DataW.trod enc Tryd.prog W base (fun _ => true) held k 9 [c1] = some y1 := by
        have := hfs 1 _ rfl
        simpa [cells_I, cells_St] using this
      have h2 : DataW.trod enc Tryd.prog W base (fun _ => true) held k 2 [c2] = some y2 := by
        have := hfs 2 _ rfl
        simpa [cells_I, cells_St] using this
      have h3 : DataW.trod enc Tryd.prog W base (fun _ => true) held k 2 [c3] = some y3 := by
        have := hfs 3 _ rfl
        simpa [cells_I, cells_St] using this
      have h4 : DataW.trod enc Tryd.prog W base (fun _ => true) held k 2 [c4] = some y4 := by
        have := hfs 4 _ rfl
        simpa [cells_I, cells_St] using this
      have h5 : DataW.trod enc Tryd.prog W base (fun _ => true) held k 2 [c5] = some y5 := by
        have := hfs 5 _ rfl
        simpa [cells_I, cells_St] using this
      have h6 : DataW.trod enc Tryd.prog W base (fun _ => true) held k 2 [c6] = some y6 := by
        have := hfs 6 _ rfl
        simpa [cells_I, cells_St] using this
      obtain ⟨p, e0, -, l0⟩ := DataW.trod_string Tryd.underlying9 h0
      obtain ⟨q, e1, -, l1⟩ := DataW.trod_string Tryd.underlying9 h1
      obtain ⟨a2, e2, -, -⟩ := DataW.trod_int Tryd.underlying2 h2
      obtain ⟨a3, e3, -, -⟩ := DataW.trod_int Tryd.underlying2 h3
      obtain ⟨a4, e4, -, -⟩ := DataW.trod_int Tryd.underlying2 h4
      obtain ⟨a5, e5, -, -⟩ := DataW.trod_int Tryd.underlying2 h5
      obtain ⟨a6, e6, -, -⟩ := DataW.trod_int Tryd.underlying2 h6
      simp only [List.cons.injEq, and_true] at e0 e1 e2 e3 e4 e5 e6
      subst e0 e1 e2 e3 e4 e5 e6
      exact ⟨⟨p, q, a2, a3, a4, a5, a6⟩, rfl, l0, l1⟩

theorem nAt_mk {n : Nat} (Z : Nat → Nd) (i : Nat) (h : i < n) : nAt ((List.range n).map Z) i = Z i := by unfold nAt; simp [List.getD, h]
theorem nAt_out {ns : List Nd} {i : Nat} (h : ns.length ≤ i) : nAt ns i = nd0 := by unfold nAt; rw [List.getD, List.getElem?_eq_none h]; rfl

set_option maxRecDepth 100000 in
theorem open_nodes_cell {m : Nat} {c : Value} {y : DataW H × List MemPlace} (h : DataW.trod enc Tryd.prog W base (fun _ => true) held m 23 [c] = some y) : ∃ ns, InT W c ns := by
  rcases Deep.open_slice Tryd.underlying23 h with ⟨hcs, _⟩ | ⟨a, len, cap, m, q, D, Pl, hcs, hb, hl, hm, hme, _, hall⟩
  · simp at hcs
    subst hcs
    exact ⟨[], ⟨none, 0, rfl, Nat.le_refl _, Nat.zero_le _, .inl rfl⟩, fun i => ⟨Nat.zero_le _, Nat.zero_le _⟩⟩
  · simp at hcs
    subst hcs
    rw [cells_N] at hall
    simp only [if_true] at hme
    subst hme
    by_cases h0 : len = 0
    · subst h0
      exact ⟨[], ⟨some a, m, rfl, Nat.zero_le _, hm, .inl rfl⟩, fun i => ⟨Nat.zero_le _, Nat.zero_le _⟩⟩
    have hex : ∀ i, i < len → ∃ n : Nd, (∀ j, j < 7 → W.cell? ((a.add (i * 7)).add j) = (ndL n)[j]?) ∧ n.path.size ≤ maxLen ∧ n.data.size ≤ maxLen := by
      intro i hi
      obtain ⟨cs', hc, ht⟩ := hall i (by omega)
      obtain ⟨n, rfl, l0, l1⟩ := open_node_cells ht
      have hs := (World.cells?_some hc).2
      refine ⟨n, fun j hj => ?_, l0, l1⟩
      rw [hs.2 j (by omega)]
    haveI : Inhabited Nd := ⟨nd0⟩
    obtain ⟨Z, hZ⟩ := Deep.choose_lt (α := Nd) hex
    obtain ⟨b, off, spot⟩ := a
    have hspot : spot = none := by
      have := World.cell?_spot ((hZ 0 (by omega)).1 0 (by omega))
      simpa [Addr.add] using this
    subst hspot
    have hblt : b < W.heap.size := by
      have := World.block_lt_of_cell? W _ ((hZ 0 (by omega)).1 0 (by omega))
      simpa [Addr.add] using this
    refine ⟨(List.range len).map Z, ⟨some ⟨b, off, none⟩, m, by simp, by simpa using hl, hm, .inr ⟨b, off, rfl, hblt, fun i hi => ?_⟩⟩, fun i => ?_⟩
    · have hi' : i < len := by simpa using hi
      rw [nAt_mk Z i hi']
      have c := (hZ i hi').1
      have c' : ∀ j, j < 7 → W.cell? ⟨b, off + i * 7 + j, none⟩ = (ndL (Z i))[j]? := fun j hj => by have := c j hj; rwa [addr_none, addr_none] at this
      exact ⟨c' 0 (by omega), c' 1 (by omega), c' 2 (by omega), c' 3 (by omega), c' 4 (by omega), c' 5 (by omega), c' 6 (by omega)⟩
    · by_cases hi : i < len
      · rw [nAt_mk Z i hi]; exact (hZ i hi).2
      · rw [nAt_out (by simp; omega)]; exact ⟨Nat.zero_le _, Nat.zero_le _⟩

theorem array1 {α : Type} {cs : Array α} (h : cs.size = 1) : ∃ c0, cs = #[c0] := by
  obtain ⟨l⟩ := cs
  match l, h with
  | [c0], _ => exact ⟨c0, rfl⟩

set_option maxRecDepth 100000 in
/-- A tree that came in. -/
theorem open_tree {b0 : Nat} {v : Value} {d : DataW H} {p : List MemPlace} (hv : Value.okWide Tryd.prog W .any b0 25 v) (h : DataW.Trod enc Tryd.prog W base (fun _ => true) held 25 v d p) :
    ∃ c ns, v = .agg #[c] ∧ InT W c ns := by
  obtain ⟨cs, rfl, hsz⟩ := okWide_struct Tryd.underlying25 hv
  obtain ⟨c0, rfl⟩ := array1 (hsz.trans cells_T)
  obtain ⟨fuel, hf⟩ := h
  obtain ⟨xs, n, -, -, hl, hlen, hfs⟩ := DataW.trod_struct Tryd.underlying25 hf
  match xs, hlen with
  | [y0], _ =>
    have h0 : DataW.trod enc Tryd.prog W base (fun _ => true) held n 23 [c0] = some y0 := by
      have := hfs 0 _ rfl
      simpa [cells_Ns, Value.cells] using this
    obtain ⟨ns, hn⟩ := open_nodes_cell h0
    exact ⟨c0, ns, rfl, hn⟩
end

end Go.Proofs.YtgjenbgclpmjmaaDoor
