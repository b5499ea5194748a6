import Derived.Test.YtejhcebodlcloaaGreatDoorCards
import Derived.Test.YtejhcebodlcloaaGreatDoorTie
import Derived.Deep.DeepHandedRow
import Derived.Lib.LaidIn
import Derived.Lib.LaidTab
import Derived.Lib.ItoaNum
import Derived.LaidHandle
import Derived.LaidSub
import Derived.Stop.LaidErr
import Derived.ShutString
import Derived.ChangeOld
import Derived.ChangeMaps5
import Derived.Test.YtejhcebodlcloaaGreatDoorJ31
import Derived.Lib.SmallJoins
import Derived.Deep.Slices
import Derived.Test.YtejhcebodlcloaaGreatDoorJ30
namespace Go.Proofs.YtejhcebodlcloaaGreatDoor
open Go.ChangeShapes Go.WideShapes Go.ChangeAt Go.RowKit

theorem knob : ownKnob Tryz.prog.godebug = none := by kernel_rfl
theorem laidOut : laidOutB Tryz.prog = true := by kernel_rfl

/-- The variables that are laid, the handle aside. -/
def lP5 : List (String × DataW Unit) := [("math/bits.deBruijn32tab", Rows.laid_math_bits_deBruijn32tab), ("math/bits.deBruijn64tab", Rows.laid_math_bits_deBruijn64tab), ("internal/strconv.uint64pow10", Rows.laid_internal_strconv_uint64pow10), ("unicode/utf8.acceptRanges", Rows.laid_unicode_utf8_acceptRanges), ("unicode/utf8.first", Rows.laid_unicode_utf8_first)]
def lP6 : List (String × DataW Unit) := [("math/bits.deBruijn32tab", Rows.laid_math_bits_deBruijn32tab), ("math/bits.deBruijn64tab", Rows.laid_math_bits_deBruijn64tab), ("internal/strconv.uint64pow10", Rows.laid_internal_strconv_uint64pow10), ("unicode/utf8.acceptRanges", Rows.laid_unicode_utf8_acceptRanges), ("errors.errorType", Rows.laid_errors_errorType), ("unicode/utf8.first", Rows.laid_unicode_utf8_first)]
theorem lP_none : (lP6.filter fun x => x.2.handleName?.isNone) = lP5 := by kernel_rfl
theorem lP_some : (lP6.filter fun x => x.2.handleName?.isSome) = [("errors.errorType", Rows.laid_errors_errorType)] := by kernel_rfl

def gP (P : Program) (n : String) : Nat := (P.globalNamed n).getD 0
/-- The witness: the variables as they are laid. -/
def laidWorldP (P : Program) (os : Os) : World :=
  let w0 := World.holding P os ⟨#[], #[], []⟩
  let put (h : Array Obj) (g : Nat) (cs : Array Value) : Array Obj := h.modify g fun
    | .cells _ t frozen => .cells cs t frozen
    | o => o
  let h1 := put w0.heap (gP P "unicode/utf8.first") (Go.Pinned.utf8FirstZ.map fun (z : Nat) => Value.int .u8 (z : Int)).toArray
  let h2 := put h1 (gP P "unicode/utf8.acceptRanges") ((([128, 191, 160, 191, 128, 159, 144, 191, 128, 143] : List Int) ++ List.replicate 22 0).map fun (z : Int) => Value.int .u8 z).toArray
  let h3 := put h2 (gP P "math/bits.deBruijn32tab") (([0, 1, 28, 2, 29, 14, 24, 3, 30, 22, 20, 15, 25, 17, 4, 8, 31, 27, 13, 23, 21, 19, 16, 7, 26, 12, 18, 6, 11, 5, 10, 9] : List Int).map fun (z : Int) => Value.int .u8 z).toArray
  let h4 := put h3 (gP P "math/bits.deBruijn64tab") (([0, 1, 56, 2, 57, 49, 28, 3, 61, 58, 42, 50, 38, 29, 17, 4, 62, 47, 59, 36, 45, 43, 51, 22, 53, 39, 33, 30, 24, 18, 12, 5, 63, 55, 48, 27, 60, 41, 37, 16, 46, 35, 44, 21, 52, 32, 23, 11, 54, 26, 40, 15, 34, 20, 31, 10, 25, 14, 19, 9, 13, 8, 7, 6] : List Int).map fun (z : Int) => Value.int .u8 z).toArray
  let h5 := put h4 (gP P "internal/strconv.uint64pow10") (Lib.pow10Tab.map fun (z : Int) => Value.int .u64 z).toArray
  let h6 := put h5 (gP P "errors.errorType") #[.iface 142 (.agg #[.pointer (some ⟨7, 74, none⟩)])]
  { w0 with heap := h6 }
theorem laid_met5 (os : Os) (args : Array Value) : laidMet Tryz.prog lP5 ((laidWorldP Tryz.prog os).forCall (fun _ _ => 0) ⟨#[], args, []⟩).memory :=
  (LaidIn.of_run (l := lP5) [gP Tryz.prog "unicode/utf8.first", gP Tryz.prog "unicode/utf8.acceptRanges", gP Tryz.prog "math/bits.deBruijn32tab", gP Tryz.prog "math/bits.deBruijn64tab", gP Tryz.prog "internal/strconv.uint64pow10"] 8 (by kernel_rfl) (by kernel_rfl) (by kernel_rfl) (by kernel_rfl)).met
theorem laid_metP (os : Os) (args : Array Value) : laidMetH Tryz.prog lP6 ((laidWorldP Tryz.prog os).forCall (fun _ _ => 0) ⟨#[], args, []⟩).memory :=
  laidMetH_of_parts (by rw [lP_none]; exact laid_met5 os args) (by rw [lP_some]; kernel_rfl)

theorem et9 : Tryz.prog.globalNamed "errors.errorType" = some 0 := by kernel_rfl
theorem rt9 : (Tryz.prog.cutTypes.find? (·.1 == "internal/reflectlite.rtype")).map (·.2) = some 142 := by kernel_rfl
theorem oneRow9 : ((List.range Tryz.prog.types.size).filter fun t => Tryz.prog.rowNamed t [101, 114, 114, 111, 114]) = [74] := by kernel_rfl
theorem hand9 : typeHandle Tryz.prog 74 = .pointer (some ⟨7, 74, none⟩) := by kernel_rfl
theorem p10 : Rows.laid_internal_strconv_uint64pow10 = Lib.tabData (H := Unit) .u64 Lib.pow10Tab := by kernel_rfl

/-- What the condition gives the walk: the handle's cell. -/
theorem handle_of_laidP {W : World} (h : laidMetH Tryz.prog lP6 W) : W.cell? ⟨0, 0, none⟩ = some (.iface 142 (.agg #[.pointer (some ⟨7, 74, none⟩)])) := by
  have h' := (laidMetH_iff.1 h).2
  rw [lP_some] at h'
  obtain ⟨name, u, ty, e1, e2, e3, e4, e5⟩ := h' _ (List.mem_singleton.2 rfl)
  have en : name = [101, 114, 114, 111, 114] := (Option.some.inj e1).symm
  subst en
  obtain rfl := Option.some.inj (rt9.symm.trans e2)
  have hm : ty ∈ (List.range Tryz.prog.types.size).filter fun t => Tryz.prog.rowNamed t [101, 114, 114, 111, 114] := List.mem_filter.2 ⟨List.mem_range.2 e3, e4⟩
  rw [oneRow9] at hm
  obtain rfl := List.mem_singleton.1 hm
  rw [hand9] at e5
  simpa using World.var?_cell et9 e5 0
/-- .. and the table of the powers of ten. -/
theorem pow_of_laidP {W : World} (h : laidMetH Tryz.prog lP6 W) : Lib.TabIs Tryz.prog W "internal/strconv.uint64pow10" .u64 Lib.pow10Tab := by
  have h' := (laidMetH_iff.1 h).1
  rw [lP_none] at h'
  have h2 : laidMet Tryz.prog (("internal/strconv.uint64pow10", Rows.laid_internal_strconv_uint64pow10) :: [("unicode/utf8.acceptRanges", Rows.laid_unicode_utf8_acceptRanges), ("unicode/utf8.first", Rows.laid_unicode_utf8_first)]) W := laidMet.tail (laidMet.tail h')
  rw [p10] at h2
  exact Lib.tabIs_of_head (g := gP Tryz.prog "internal/strconv.uint64pow10") (t := 204) (e := 186) (n := 20) (by kernel_rfl) (by kernel_rfl) Tryz.underlying204 Tryz.underlying186 (by kernel_rfl) (by kernel_rfl) h2


theorem cells_T : Tryz.prog.cellsOf 24 = 1 := by kernel_rfl
theorem cells_N : Tryz.prog.cellsOf 86 = 7 := by kernel_rfl
theorem cells_I : Tryz.prog.cellsOf 2 = 1 := by kernel_rfl
theorem cells_St : Tryz.prog.cellsOf 9 = 1 := by kernel_rfl
theorem cells_Ns : Tryz.prog.cellsOf 22 = 1 := by kernel_rfl
theorem addr_none (b o i : Nat) : (⟨b, o, none⟩ : Addr).add i = ⟨b, o + i, none⟩ := Addr.add_lit ..

section
variable {H : Type} {enc : TypeId × Value → H} {W : World} {base : Nat} {held : Bool}

set_option maxRecDepth 100000 in
theorem open_node_cells {m : Nat} {cs : List Value} {y : DataW H × List MemPlace} (h : DataW.trod enc Tryz.prog W base (fun _ => true) held m 86 cs = some y) :
    ∃ n : Nd, cs = ndL n ∧ n.path.size ≤ maxLen ∧ n.data.size ≤ maxLen := by
  obtain ⟨xs, k, -, -, hl, hlen, hfs⟩ := DataW.trod_struct Tryz.underlying86 h
  rw [cells_N] at hl
  match xs, hlen with
  | [y0, y1, y2, y3, y4, y5, y6], _ =>
    match cs, hl with
    | [c0, c1, c2, c3, c4, c5, c6], _ =>
      have h0 : DataW.trod enc Tryz.prog W base (fun _ => true) held k 9 [c0] = some y0 := by
        have := hfs 0 _ rfl
        simpa [cells_I, cells_St] using this
      have h1 : DataW.trod enc Tryz.prog W base (fun _ => true) held k 9 [c1] = some y1 := by
        have := hfs 1 _ rfl
        simpa [cells_I, cells_St] using this
      have h2 : DataW.trod enc Tryz.prog W base (fun _ => true) held k 2 [c2] = some y2 := by
        have := hfs 2 _ rfl
        simpa [cells_I, cells_St] using this
      have h3 : DataW.trod enc Tryz.prog W base (fun _ => true) held k 2 [c3] = some y3 := by
        have := hfs 3 _ rfl
        simpa [cells_I, cells_St] using this
      have h4 : DataW.trod enc Tryz.prog W base (fun _ => true) held k 2 [c4] = some y4 := by
        have := hfs 4 _ rfl
        simpa [cells_I, cells_St] using this
      have h5 : DataW.trod enc Tryz.prog W base (fun _ => true) held k 2 [c5] = some y5 := by
        have := hfs 5 _ rfl
        simpa [cells_I, cells_St] using this
      have h6 : DataW.trod enc Tryz.prog W base (fun _ => true) held k 2 [c6] = some y6 := by
        have := hfs 6 _ rfl
        simpa [cells_I, cells_St] using this
      obtain ⟨p, e0, -, l0⟩ := DataW.trod_string Tryz.underlying9 h0
      obtain ⟨q, e1, -, l1⟩ := DataW.trod_string Tryz.underlying9 h1
      obtain ⟨a2, e2, -, -⟩ := DataW.trod_int Tryz.underlying2 h2
      obtain ⟨a3, e3, -, -⟩ := DataW.trod_int Tryz.underlying2 h3
      obtain ⟨a4, e4, -, -⟩ := DataW.trod_int Tryz.underlying2 h4
      obtain ⟨a5, e5, -, -⟩ := DataW.trod_int Tryz.underlying2 h5
      obtain ⟨a6, e6, -, -⟩ := DataW.trod_int Tryz.underlying2 h6
      simp only [List.cons.injEq, and_true] at e0 e1 e2 e3 e4 e5 e6
      subst e0 e1 e2 e3 e4 e5 e6
      exact ⟨⟨p, q, a2, a3, a4, a5, a6⟩, rfl, l0, l1⟩

theorem nAt_mk {n : Nat} (Z : Nat → Nd) (i : Nat) (h : i < n) : nAt ((List.range n).map Z) i = Z i := by unfold nAt; simp [List.getD, h]
theorem nAt_out {ns : List Nd} {i : Nat} (h : ns.length ≤ i) : nAt ns i = nd0 := by unfold nAt; rw [List.getD, List.getElem?_eq_none h]; rfl

set_option maxRecDepth 100000 in
theorem open_nodes_cell {m : Nat} {c : Value} {y : DataW H × List MemPlace} (h : DataW.trod enc Tryz.prog W base (fun _ => true) held m 22 [c] = some y) : ∃ ns, InT W c ns := by
  rcases Deep.open_slice Tryz.underlying22 h with ⟨hcs, _⟩ | ⟨a, len, cap, m, q, D, Pl, hcs, hb, hl, hm, hme, _, hall⟩
  · simp at hcs
    subst hcs
    exact ⟨[], ⟨none, 0, rfl, Nat.le_refl _, Nat.zero_le _, .inl rfl⟩, fun i => ⟨Nat.zero_le _, Nat.zero_le _⟩⟩
  · simp at hcs
    subst hcs
    rw [cells_N] at hall
    simp only [if_true] at hme
    subst hme
    by_cases h0 : len = 0
    · subst h0
      exact ⟨[], ⟨some a, m, rfl, Nat.zero_le _, hm, .inl rfl⟩, fun i => ⟨Nat.zero_le _, Nat.zero_le _⟩⟩
    have hex : ∀ i, i < len → ∃ n : Nd, (∀ j, j < 7 → W.cell? ((a.add (i * 7)).add j) = (ndL n)[j]?) ∧ n.path.size ≤ maxLen ∧ n.data.size ≤ maxLen := by
      intro i hi
      obtain ⟨cs', hc, ht⟩ := hall i (by omega)
      obtain ⟨n, rfl, l0, l1⟩ := open_node_cells ht
      have hs := (World.cells?_some hc).2
      refine ⟨n, fun j hj => ?_, l0, l1⟩
      rw [hs.2 j (by omega)]
    haveI : Inhabited Nd := ⟨nd0⟩
    obtain ⟨Z, hZ⟩ := Deep.choose_lt (α := Nd) hex
    obtain ⟨b, off, spot⟩ := a
    have hspot : spot = none := by
      have := World.cell?_spot ((hZ 0 (by omega)).1 0 (by omega))
      simpa [Addr.add] using this
    subst hspot
    have hblt : b < W.heap.size := by
      have := World.block_lt_of_cell? W _ ((hZ 0 (by omega)).1 0 (by omega))
      simpa [Addr.add] using this
    refine ⟨(List.range len).map Z, ⟨some ⟨b, off, none⟩, m, by simp, by simpa using hl, hm, .inr ⟨b, off, rfl, hblt, fun i hi => ?_⟩⟩, fun i => ?_⟩
    · have hi' : i < len := by simpa using hi
      rw [nAt_mk Z i hi']
      have c := (hZ i hi').1
      have c' : ∀ j, j < 7 → W.cell? ⟨b, off + i * 7 + j, none⟩ = (ndL (Z i))[j]? := fun j hj => by have := c j hj; rwa [addr_none, addr_none] at this
      exact ⟨c' 0 (by omega), c' 1 (by omega), c' 2 (by omega), c' 3 (by omega), c' 4 (by omega), c' 5 (by omega), c' 6 (by omega)⟩
    · by_cases hi : i < len
      · rw [nAt_mk Z i hi]; exact (hZ i hi).2
      · rw [nAt_out (by simp; omega)]; exact ⟨Nat.zero_le _, Nat.zero_le _⟩

theorem array1 {α : Type} {cs : Array α} (h : cs.size = 1) : ∃ c0, cs = #[c0] := by
  obtain ⟨l⟩ := cs
  match l, h with
  | [c0], _ => exact ⟨c0, rfl⟩

set_option maxRecDepth 100000 in
/-- A tree that came in. -/
theorem open_tree {b0 : Nat} {v : Value} {d : DataW H} {p : List MemPlace} (hv : Value.okWide Tryz.prog W .any b0 24 v) (h : DataW.Trod enc Tryz.prog W base (fun _ => true) held 24 v d p) :
    ∃ c ns, v = .agg #[c] ∧ InT W c ns := by
  obtain ⟨cs, rfl, hsz⟩ := okWide_struct Tryz.underlying24 hv
  obtain ⟨c0, rfl⟩ := array1 (hsz.trans cells_T)
  obtain ⟨fuel, hf⟩ := h
  obtain ⟨xs, n, -, -, hl, hlen, hfs⟩ := DataW.trod_struct Tryz.underlying24 hf
  match xs, hlen with
  | [y0], _ =>
    have h0 : DataW.trod enc Tryz.prog W base (fun _ => true) held n 22 [c0] = some y0 := by
      have := hfs 0 _ rfl
      simpa [cells_Ns, Value.cells] using this
    obtain ⟨ns, hn⟩ := open_nodes_cell h0
    exact ⟨c0, ns, rfl, hn⟩
end


theorem cells_R : Tryz.prog.cellsOf 27 = 1 := by kernel_rfl
theorem cells_Op : Tryz.prog.cellsOf 88 = 5 := by kernel_rfl
theorem cells_Ops : Tryz.prog.cellsOf 25 = 1 := by kernel_rfl
theorem cells_Bo : Tryz.prog.cellsOf 4 = 1 := by kernel_rfl

section
variable {H : Type} {enc : TypeId × Value → H} {W : World} {base : Nat} {held : Bool}

set_option maxRecDepth 100000 in
theorem open_op_cells {m : Nat} {cs : List Value} {y : DataW H × List MemPlace} (h : DataW.trod enc Tryz.prog W base (fun _ => true) held m 88 cs = some y) :
    ∃ n : Op5, cs = opL n ∧ n.path.size ≤ maxLen ∧ n.data.size ≤ maxLen := by
  obtain ⟨xs, k, -, -, hl, hlen, hfs⟩ := DataW.trod_struct Tryz.underlying88 h
  rw [cells_Op] at hl
  match xs, hlen with
  | [y0, y1, y2, y3, y4], _ =>
    match cs, hl with
    | [c0, c1, c2, c3, c4], _ =>
      have h0 : DataW.trod enc Tryz.prog W base (fun _ => true) held k 2 [c0] = some y0 := by
        have := hfs 0 _ rfl
        simpa [cells_I, cells_St, cells_Bo] using this
      have h1 : DataW.trod enc Tryz.prog W base (fun _ => true) held k 9 [c1] = some y1 := by
        have := hfs 1 _ rfl
        simpa [cells_I, cells_St, cells_Bo] using this
      have h2 : DataW.trod enc Tryz.prog W base (fun _ => true) held k 9 [c2] = some y2 := by
        have := hfs 2 _ rfl
        simpa [cells_I, cells_St, cells_Bo] using this
      have h3 : DataW.trod enc Tryz.prog W base (fun _ => true) held k 2 [c3] = some y3 := by
        have := hfs 3 _ rfl
        simpa [cells_I, cells_St, cells_Bo] using this
      have h4 : DataW.trod enc Tryz.prog W base (fun _ => true) held k 4 [c4] = some y4 := by
        have := hfs 4 _ rfl
        simpa [cells_I, cells_St, cells_Bo] using this
      obtain ⟨a0, e0, -, -⟩ := DataW.trod_int Tryz.underlying2 h0
      obtain ⟨p, e1, -, l0⟩ := DataW.trod_string Tryz.underlying9 h1
      obtain ⟨q, e2, -, l1⟩ := DataW.trod_string Tryz.underlying9 h2
      obtain ⟨a3, e3, -, -⟩ := DataW.trod_int Tryz.underlying2 h3
      obtain ⟨a4, e4, -⟩ := DataW.trod_bool Tryz.underlying4 h4
      simp only [List.cons.injEq, and_true] at e0 e1 e2 e3 e4
      subst e0 e1 e2 e3 e4
      exact ⟨⟨a0, p, q, a3, a4⟩, rfl, l0, l1⟩

theorem oAt_mk {n : Nat} (Z : Nat → Op5) (i : Nat) (h : i < n) : oAt ((List.range n).map Z) i = Z i := by unfold oAt; simp [List.getD, h]
theorem oAt_out {ns : List Op5} {i : Nat} (h : ns.length ≤ i) : oAt ns i = op0 := by unfold oAt; rw [List.getD, List.getElem?_eq_none h]; rfl

set_option maxRecDepth 100000 in
theorem open_ops_cell {m : Nat} {c : Value} {y : DataW H × List MemPlace} (h : DataW.trod enc Tryz.prog W base (fun _ => true) held m 25 [c] = some y) : ∃ ns, InR W c ns := by
  rcases Deep.open_slice Tryz.underlying25 h with ⟨hcs, _⟩ | ⟨a, len, cap, m, q, D, Pl, hcs, hb, hl, hm, hme, _, hall⟩
  · simp at hcs
    subst hcs
    exact ⟨[], ⟨none, 0, rfl, Nat.le_refl _, Nat.zero_le _, .inl rfl⟩, fun i => ⟨Nat.zero_le _, Nat.zero_le _⟩⟩
  · simp at hcs
    subst hcs
    rw [cells_Op] at hall
    simp only [if_true] at hme
    subst hme
    by_cases h0 : len = 0
    · subst h0
      exact ⟨[], ⟨some a, m, rfl, Nat.zero_le _, hm, .inl rfl⟩, fun i => ⟨Nat.zero_le _, Nat.zero_le _⟩⟩
    have hex : ∀ i, i < len → ∃ n     : Op5, (∀ j, j < 5 → W.cell? ((a.add (i * 5)).add j) = (opL n)[j]?) ∧ n.path.size ≤ maxLen ∧ n.data.size ≤ maxLen := by
      intro i hi
      obtain ⟨cs', hc, ht⟩ := hall i (by omega)
      obtain ⟨n, rfl, l0, l1⟩ := open_op_cells ht
      have hs := (World.cells?_some hc).2
      refine ⟨n, fun j hj => ?_, l0, l1⟩
      rw [hs.2 j (by omega)]
    haveI : Inhabited Op5 := ⟨op0⟩
    obtain ⟨Z, hZ⟩ := Deep.choose_lt (α := Op5) hex
    obtain ⟨b, off, spot⟩ := a
    have hspot : spot = none := by
      have := World.cell?_spot ((hZ 0 (by omega)).1 0 (by omega))
      simpa [Addr.add] using this
    subst hspot
    have hblt : b < W.heap.size := by
      have := World.block_lt_of_cell? W _ ((hZ 0 (by omega)).1 0 (by omega))
      simpa [Addr.add] using this
    refine ⟨(List.range len).map Z, ⟨some ⟨b, off, none⟩, m, by simp, by simpa using hl, hm, .inr ⟨b, off, rfl, hblt, fun i hi => ?_⟩⟩, fun i => ?_⟩
    · have hi' : i < len := by simpa using hi
      rw [oAt_mk Z i hi']
      have c := (hZ i hi').1
      have c' : ∀ j, j < 5 → W.cell? ⟨b, off + i * 5 + j, none⟩ = (opL (Z i))[j]? := fun j hj => by have := c j hj; rwa [addr_none, addr_none] at this
      exact ⟨c' 0 (by omega), c' 1 (by omega), c' 2 (by omega), c' 3 (by omega), c' 4 (by omega)⟩
    · by_cases hi : i < len
      · rw [oAt_mk Z i hi]; exact (hZ i hi).2
      · rw [oAt_out (by simp; omega)]; exact ⟨Nat.zero_le _, Nat.zero_le _⟩

set_option maxRecDepth 100000 in
/-- A request that came in. -/
theorem open_request {b0 : Nat} {v : Value} {d : DataW H} {p : List MemPlace} (hv : Value.okWide Tryz.prog W .any b0 27 v) (h : DataW.Trod enc Tryz.prog W base (fun _ => true) held 27 v d p) :
    ∃ c ns, v = .agg #[c] ∧ InR W c ns := by
  obtain ⟨cs, rfl, hsz⟩ := okWide_struct Tryz.underlying27 hv
  obtain ⟨c0, rfl⟩ := array1 (hsz.trans cells_R)
  obtain ⟨fuel, hf⟩ := h
  obtain ⟨xs, n, -, -, hl, hlen, hfs⟩ := DataW.trod_struct Tryz.underlying27 hf
  match xs, hlen with
  | [y0], _ =>
    have h0 : DataW.trod enc Tryz.prog W base (fun _ => true) held n 25 [c0] = some y0 := by
      have := hfs 0 _ rfl
      simpa [cells_Ops, Value.cells] using this
    obtain ⟨ns, hn⟩ := open_ops_cell h0
    exact ⟨c0, ns, rfl, hn⟩
end

end Go.Proofs.YtejhcebodlcloaaGreatDoor


