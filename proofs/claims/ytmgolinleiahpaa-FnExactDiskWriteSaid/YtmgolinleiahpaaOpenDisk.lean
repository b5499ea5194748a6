import Derived.Test.YtmgolinleiahpaaOpen
import Derived.Test.YtmgolinleiahpaaLValid
import Derived.Lib.SmallJoins
import Derived.Deep.Slices
namespace Go.Proofs.Ytmgolinleiahpaa
open Go.ChangeShapes Go.WideShapes Go.ChangeAt Go.RowKit

theorem cells_D : Try.prog.cellsOf 46 = 2 := by kernel_rfl
theorem cells_W : Try.prog.cellsOf 116 = 2 := by kernel_rfl

section
variable {H : Type} {enc : TypeId × Value → H} {W : World} {base : Nat} {held : Bool}

/-- A []byte in a cell. -/
theorem open_bytes_cell {n : Nat} {c : Value} {y : DataW H × List MemPlace} (h : DataW.trod enc Try.prog W base (fun _ => true) held n 29 [c] = some y) : ∃ xs, Rd .u8 W c xs ∧ Byt xs := by
  rcases open_ints Try.underlying29 Try.underlying5 (by kernel_rfl) h with ⟨hcs, _⟩ | ⟨x, l, cp, zs, hcs, _, hl, hm, hz, _, hcell, hwz⟩
  · simp at hcs
    subst hcs
    exact ⟨[], ⟨none, 0, rfl, Nat.le_refl _, Nat.zero_le _, .inl rfl⟩, fun x hx => by cases hx⟩
  · simp at hcs
    subst hcs
    exact ⟨zs.take l, rd_of hl hm (by simpa using hz) hcell, byt_of hwz⟩

set_option maxRecDepth 100000 in
theorem open_write_cells {n : Nat} {cs : List Value} {y : DataW H × List MemPlace} (h : DataW.trod enc Try.prog W base (fun _ => true) held n 116 cs = some y) :
    ∃ (x : Int) (c : Value) (xs : List Int), cs = [.int .i64 x, c] ∧ Rd .u8 W c xs ∧ Byt xs ∧ -9223372036854775808 ≤ x ∧ x ≤ 9223372036854775807 := by
  obtain ⟨y0, y1, m, _, hlen, h0, h1⟩ := trod_struct2 Try.underlying116 h
  rw [cells_W] at hlen
  match cs, hlen with
  | [c0, c1], _ =>
    obtain ⟨x, hx, _, hw⟩ := DataW.trod_int Try.underlying2 h0
    have e0 : c0 = .int .i64 x := by
      have e : Try.prog.cellsOf 2 = 1 := by kernel_rfl
      rw [e] at hx
      simpa using hx
    have e1 : Try.prog.cellsOf 29 = 1 := by kernel_rfl
    rw [e1] at h1
    obtain ⟨xs, r, by'⟩ := open_bytes_cell (c := c1) (by simpa using h1)
    have bd := bounds_i64 hw
    exact ⟨x, c1, xs, by rw [e0], r, by', bd.1, bd.2⟩

theorem pB_mk {n : Nat} (X : Nat → Int) (D : Nat → List Int) (i : Nat) (h : i < n) : pB ((List.range n).map fun i => (X i, D i)) i = X i := by unfold pB; simp [List.getD, h]
theorem pD_mk {n : Nat} (X : Nat → Int) (D : Nat → List Int) (i : Nat) (h : i < n) : pD ((List.range n).map fun i => (X i, D i)) i = D i := by unfold pD; simp [List.getD, h]

set_option maxRecDepth 100000 in
theorem open_writes_cell {n : Nat} {c : Value} {y : DataW H × List MemPlace} (h : DataW.trod enc Try.prog W base (fun _ => true) held n 44 [c] = some y) :
    ∃ ps, RdW W c ps ∧ ∀ i, i < ps.length → Byt (pD ps i) ∧ -9223372036854775808 ≤ pB ps i ∧ pB ps i ≤ 9223372036854775807 := by
  rcases Deep.open_slice Try.underlying44 h with ⟨hcs, _⟩ | ⟨a, len, cap, m, q, D, Pl, hcs, hb, hl, hm, hme, _, hall⟩
  · simp at hcs
    subst hcs
    exact ⟨[], ⟨none, 0, rfl, Nat.le_refl _, Nat.zero_le _, .inl rfl⟩, fun i hi => absurd hi (Nat.not_lt_zero _)⟩
  · simp at hcs
    subst hcs
    rw [cells_W] at hall
    simp only [if_true] at hme
    subst hme
    by_cases h0 : len = 0
    · subst h0
      exact ⟨[], ⟨some a, m, rfl, Nat.zero_le _, hm, .inl rfl⟩, fun i hi => absurd hi (Nat.not_lt_zero _)⟩
    have hex : ∀ i, i < len → ∃ z : Int × Value × List Int, W.cell? (a.add (i * 2)) = some (.int .i64 z.1) ∧ W.cell? ((a.add (i * 2)).add 1) = some z.2.1 ∧ Rd .u8 W z.2.1 z.2.2 ∧ Byt z.2.2 ∧ -9223372036854775808 ≤ z.1 ∧ z.1 ≤ 9223372036854775807 := by
      intro i hi
      obtain ⟨cs', hc, ht⟩ := hall i (by omega)
      obtain ⟨x, c, xs, rfl, r, by', b1, b2⟩ := open_write_cells ht
      have hs := (World.cells?_some hc).2
      have c0 : W.cell? ((a.add (i * 2)).add 0) = some (.int .i64 x) := hs.2 0 (by omega)
      have c1 : W.cell? ((a.add (i * 2)).add 1) = some c := hs.2 1 (by omega)
      have e : (a.add (i * 2)).add 0 = a.add (i * 2) := by unfold Addr.add; simp
      rw [e] at c0
      exact ⟨(x, c, xs), c0, c1, r, by', b1, b2⟩
    obtain ⟨Z, hZ⟩ := Deep.choose_lt (α := Int × Value × List Int) hex
    obtain ⟨b, off, spot⟩ := a
    have hspot : spot = none := by
      have := World.cell?_spot (hZ 0 (by omega)).1
      simpa [Addr.add] using this
    subst hspot
    have hblt : b < W.heap.size := by
      have := World.block_lt_of_cell? W _ (hZ 0 (by omega)).1
      simpa [Addr.add] using this
    refine ⟨(List.range len).map fun i => ((Z i).1, (Z i).2.2), ⟨some ⟨b, off, none⟩, m, by simp, by simpa using hl, hm, .inr ⟨b, off, rfl, hblt, fun i hi => ?_⟩⟩, fun i hi => ?_⟩
    · have hi' : i < len := by simpa using hi
      obtain ⟨c0, c1, r, _⟩ := hZ i hi'
      rw [pB_mk _ _ i hi', pD_mk _ _ i hi']
      rw [addr_add_none] at c0 c1
      rw [addr_add_none] at c1
      obtain ⟨a', c', e', _⟩ := r.len
      refine ⟨c0, a', c', ?_, ?_⟩
      · rw [← e']; exact c1
      · rw [← e']; exact r
    · have hi' : i < len := by simpa using hi
      rw [pB_mk _ _ i hi', pD_mk _ _ i hi']
      obtain ⟨_, _, _, by', b1, b2⟩ := hZ i hi'
      exact ⟨by', b1, b2⟩

set_option maxRecDepth 100000 in
/-- A disk that came in. -/
theorem open_disk {b0 : Nat} {v : Value} {d : DataW H} {p : List MemPlace} (hv : Value.okWide Try.prog W .any b0 46 v) (h : DataW.Trod enc Try.prog W base (fun _ => true) held 46 v d p) :
    ∃ vd vp dur ps, v = .agg #[vd, vp] ∧ InD W vd vp dur ps := by
  obtain ⟨c0, c1, y0, y1, m, rfl, _, _, h0, h1⟩ := Go.Joins.open_agg2 Try.underlying46 (by kernel_rfl) cells_D hv h
  obtain ⟨dur, r, by'⟩ := open_bytes_cell h0
  obtain ⟨ps, rp, hps⟩ := open_writes_cell h1
  exact ⟨c0, c1, dur, ps, rfl, r, rp, by', hps⟩
end

end Go.Proofs.Ytmgolinleiahpaa
