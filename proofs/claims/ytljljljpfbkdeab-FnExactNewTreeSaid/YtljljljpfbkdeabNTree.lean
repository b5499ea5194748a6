import Derived.Test.YtljljljpfbkdeabChecked
import Derived.Test.YtljljljpfbkdeabBase
import Derived.Deep.QuietTactic
import Derived.BigQuiet
import Derived.Deep.RegionWith
namespace Go.Proofs.Ytljljljpfbkdeab
open Go.RowKit

/-- One node of the call's own in block B. -/
def Node7 (w : World) (B : Nat) (p d : ByteArray) (a b c e f : Int) : Prop :=
  w.heap[B]? = some (.cells #[.string p, .string d, .int .i64 a, .int .i64 b, .int .i64 c, .int .i64 e, .int .i64 f] 30 (0, 0))

theorem Node7.lt {w : World} {B : Nat} {p d : ByteArray} {a b c e f : Int} (h : Node7 w B p d a b c e f) : B < w.heap.size := (Array.getElem?_eq_some_iff.1 h).1
theorem Node7.below {w w' : World} {B : Nat} {p d : ByteArray} {a b c e f : Int} (h : Node7 w B p d a b c e f) (hb : Below w.heap.size w w') : Node7 w' B p d a b c e f := (hb.block B h.lt).trans h

def slash : ByteArray := ⟨#[47]⟩
def empty : ByteArray := ⟨#[]⟩

set_option maxHeartbeats 400000 in
theorem implNewTree_any (w : World) : Calls Try.prog 5 #[] w fun e w' => e = .returned (.agg #[.slice (some ⟨w.heap.size + 1, 0, none⟩) 1 1]) ∧ Node7 w' (w.heap.size + 1) slash empty 0 0 0 0 0 ∧ Below w.heap.size w w' := by
  go_enter Try.func5, Try.ntmps5
  go_wp2
  refine bodyPost_ret (v := .agg #[.slice (some ⟨w.heap.size + 1, 0, none⟩) 1 1]) (by simp [results, Try.results5, go_sem]) rfl ⟨rfl, ?_, ((Below.refl _ _).alloc (Nat.le_refl _) _).alloc (by simp) _⟩
  have := heap_alloc_new (w.alloc (.cells #[.slice (some ⟨w.heap.size + 1, 0, none⟩) 1 1] 24)) (.cells #[.string slash, .string empty, .int .i64 0, .int .i64 0, .int .i64 0, .int .i64 0, .int .i64 0] 30)
  rw [World.size_alloc] at this
  exact this

set_option maxHeartbeats 400000 in
theorem specNewTree_any (w : World) : Calls Try.prog 4 #[] w fun e w' => e = .returned (.agg #[.slice (some ⟨w.heap.size + 1, 0, none⟩) 1 1]) ∧ Node7 w' (w.heap.size + 1) slash empty 0 0 0 0 0 ∧ Below w.heap.size w w' := by
  go_enter Try.func4, Try.ntmps4
  go_wp2
  refine bodyPost_ret (v := .agg #[.slice (some ⟨w.heap.size + 1, 0, none⟩) 1 1]) (by simp [results, Try.results4, go_sem]) rfl ⟨rfl, ?_, ((Below.refl _ _).alloc (Nat.le_refl _) _).alloc (by simp) _⟩
  have := heap_alloc_new (w.alloc (.cells #[.slice (some ⟨w.heap.size + 1, 0, none⟩) 1 1] 24)) (.cells #[.string slash, .string empty, .int .i64 0, .int .i64 0, .int .i64 0, .int .i64 0, .int .i64 0] 30)
  rw [World.size_alloc] at this
  exact this

set_option maxHeartbeats 400000 in
theorem markText_1 (w : World) : Calls Try.prog 13 #[.int .i64 1] w fun e w' => e = .returned (.string ⟨#[109, 49]⟩) ∧ Below w.heap.size w w' := by
  have hcv : (convert 35 9 (.slice (some ⟨w.heap.size, 0, none⟩) 1 1)).run Try.prog (w.alloc (.cells #[.int .u8 49] 5)) = .ok (.string ⟨#[49]⟩) (w.alloc (.cells #[.int .u8 49] 5)) :=
    run_convert_bytes_back _ 35 9 5 _ 1 [49] Try.underlying35 Try.underlying5 Try.underlying9 (by
      intro j hj
      obtain rfl : j = 0 := by simpa using hj
      rw [Addr.add_lit]; simp)
  go_enter Try.func13, Try.ntmps13
  go_wp2
  go_rounds 2
  go_ret
  exact ⟨by rfl, (Below.refl _ _).alloc (Nat.le_refl _) _⟩

set_option maxHeartbeats 400000 in
theorem markText_2 (w : World) : Calls Try.prog 13 #[.int .i64 2] w fun e w' => e = .returned (.string ⟨#[109, 50]⟩) ∧ Below w.heap.size w w' := by
  have hcv : (convert 35 9 (.slice (some ⟨w.heap.size, 0, none⟩) 1 1)).run Try.prog (w.alloc (.cells #[.int .u8 50] 5)) = .ok (.string ⟨#[50]⟩) (w.alloc (.cells #[.int .u8 50] 5)) :=
    run_convert_bytes_back _ 35 9 5 _ 1 [50] Try.underlying35 Try.underlying5 Try.underlying9 (by
      intro j hj
      obtain rfl : j = 0 := by simpa using hj
      rw [Addr.add_lit]; simp)
  go_enter Try.func13, Try.ntmps13
  go_wp2
  go_rounds 2
  go_ret
  exact ⟨by rfl, (Below.refl _ _).alloc (Nat.le_refl _) _⟩

theorem Node7.c0 {w : World} {B : Nat} {p d : ByteArray} {a b c e f : Int} (h : Node7 w B p d a b c e f) : w.cell? ⟨B, 0, none⟩ = some (.string p) := by
  rw [cell_of_row w B 0 _ _ _ h]; rfl
theorem Node7.f0 {w : World} {B : Nat} {p d : ByteArray} {a b c e f : Int} (h : Node7 w B p d a b c e f) : w.frozen? ⟨B, 0, none⟩ = false := by
  simp [World.frozen?, show w.heap[B]? = _ from h]
theorem Node7.c1 {w : World} {B : Nat} {p d : ByteArray} {a b c e f : Int} (h : Node7 w B p d a b c e f) : w.cell? ⟨B, 1, none⟩ = some (.string d) := by
  rw [cell_of_row w B 1 _ _ _ h]; rfl
theorem Node7.f1 {w : World} {B : Nat} {p d : ByteArray} {a b c e f : Int} (h : Node7 w B p d a b c e f) : w.frozen? ⟨B, 1, none⟩ = false := by
  simp [World.frozen?, show w.heap[B]? = _ from h]
theorem Node7.c2 {w : World} {B : Nat} {p d : ByteArray} {a b c e f : Int} (h : Node7 w B p d a b c e f) : w.cell? ⟨B, 2, none⟩ = some (.int .i64 a) := by
  rw [cell_of_row w B 2 _ _ _ h]; rfl
theorem Node7.f2 {w : World} {B : Nat} {p d : ByteArray} {a b c e f : Int} (h : Node7 w B p d a b c e f) : w.frozen? ⟨B, 2, none⟩ = false := by
  simp [World.frozen?, show w.heap[B]? = _ from h]
theorem Node7.c3 {w : World} {B : Nat} {p d : ByteArray} {a b c e f : Int} (h : Node7 w B p d a b c e f) : w.cell? ⟨B, 3, none⟩ = some (.int .i64 b) := by
  rw [cell_of_row w B 3 _ _ _ h]; rfl
theorem Node7.f3 {w : World} {B : Nat} {p d : ByteArray} {a b c e f : Int} (h : Node7 w B p d a b c e f) : w.frozen? ⟨B, 3, none⟩ = false := by
  simp [World.frozen?, show w.heap[B]? = _ from h]
theorem Node7.c4 {w : World} {B : Nat} {p d : ByteArray} {a b c e f : Int} (h : Node7 w B p d a b c e f) : w.cell? ⟨B, 4, none⟩ = some (.int .i64 c) := by
  rw [cell_of_row w B 4 _ _ _ h]; rfl
theorem Node7.f4 {w : World} {B : Nat} {p d : ByteArray} {a b c e f : Int} (h : Node7 w B p d a b c e f) : w.frozen? ⟨B, 4, none⟩ = false := by
  simp [World.frozen?, show w.heap[B]? = _ from h]
theorem Node7.c5 {w : World} {B : Nat} {p d : ByteArray} {a b c e f : Int} (h : Node7 w B p d a b c e f) : w.cell? ⟨B, 5, none⟩ = some (.int .i64 e) := by
  rw [cell_of_row w B 5 _ _ _ h]; rfl
theorem Node7.f5 {w : World} {B : Nat} {p d : ByteArray} {a b c e f : Int} (h : Node7 w B p d a b c e f) : w.frozen? ⟨B, 5, none⟩ = false := by
  simp [World.frozen?, show w.heap[B]? = _ from h]
theorem Node7.c6 {w : World} {B : Nat} {p d : ByteArray} {a b c e f : Int} (h : Node7 w B p d a b c e f) : w.cell? ⟨B, 6, none⟩ = some (.int .i64 f) := by
  rw [cell_of_row w B 6 _ _ _ h]; rfl
theorem Node7.f6 {w : World} {B : Nat} {p d : ByteArray} {a b c e f : Int} (h : Node7 w B p d a b c e f) : w.frozen? ⟨B, 6, none⟩ = false := by
  simp [World.frozen?, show w.heap[B]? = _ from h]

set_option maxHeartbeats 1000000 in
theorem eqNode_same (w : World) : Calls Try.prog 12 #[.agg #[.string slash, .string empty, .int .i64 0, .int .i64 0, .int .i64 0, .int .i64 0, .int .i64 0], .agg #[.string slash, .string empty, .int .i64 0, .int .i64 0, .int .i64 0, .int .i64 0, .int .i64 0]] w fun e w' => e = .returned (.bool true) ∧ Below w.heap.size w w' := by
  have HB : Hid (Below w.heap.size w ((w.alloc (.cells #[.string slash, .string empty, .int .i64 0, .int .i64 0, .int .i64 0, .int .i64 0, .int .i64 0] 30)).alloc (.cells #[.string slash, .string empty, .int .i64 0, .int .i64 0, .int .i64 0, .int .i64 0, .int .i64 0] 30))) := ((Below.refl _ _).alloc (Nat.le_refl _) _).alloc (by simp) _
  unfold slash empty at *
  go_enter Try.func12, Try.ntmps12
  go_wp2
  go_ret
  exact ⟨rfl, HB.out⟩

set_option maxHeartbeats 1000000 in
set_option maxRecDepth 100000 in
theorem eqNodeS_same (w : World) (B1 B2 : Nat) (h1 : Node7 w B1 slash empty 0 0 0 0 0) (h2 : Node7 w B2 slash empty 0 0 0 0 0) :
    Calls Try.prog 9 #[.slice (some ⟨B1, 0, none⟩) 1 1, .slice (some ⟨B2, 0, none⟩) 1 1] w fun e w' => e = .returned (.bool true) ∧ Below w.heap.size w w' := by
  have H1 : Hid (Node7 w B1 slash empty 0 0 0 0 0) := h1
  have H2 : Hid (Node7 w B2 slash empty 0 0 0 0 0) := h2
  clear h1 h2
  have h1c0 := H1.out.c0
  have h1c1 := H1.out.c1
  have h1c2 := H1.out.c2
  have h1c3 := H1.out.c3
  have h1c4 := H1.out.c4
  have h1c5 := H1.out.c5
  have h1c6 := H1.out.c6
  have h2c0 := H2.out.c0
  have h2c1 := H2.out.c1
  have h2c2 := H2.out.c2
  have h2c3 := H2.out.c3
  have h2c4 := H2.out.c4
  have h2c5 := H2.out.c5
  have h2c6 := H2.out.c6
  go_enter Try.func9, Try.ntmps9
  go_wp2
  go_rounds 2
  have HEQ : Hid (∀ q, Calls Try.prog 12 #[.agg #[.string slash, .string empty, .int .i64 0, .int .i64 0, .int .i64 0, .int .i64 0, .int .i64 0], .agg #[.string slash, .string empty, .int .i64 0, .int .i64 0, .int .i64 0, .int .i64 0, .int .i64 0]] (w.drewN q) fun e w' => e = .returned (.bool true) ∧ Hid (Below w.heap.size w w')) := by
    intro q
    refine (eqNode_same (w.drewN q)).mono ?_
    rintro e w' ⟨rfl, b⟩
    exact ⟨rfl, (below_drewN' w q).trans b⟩
  go_region_with (go_at_call 12; refine (HEQ.out 1).mono ?_; rintro e w' ⟨rfl, hbw⟩)
  all_goals
    go_wp2
    rw [rounds_succ]
    go_wp2
    go_ret
    exact ⟨rfl, hbw.out⟩


set_option maxHeartbeats 1000000 in
theorem eqTree_same (w : World) (B1 B2 : Nat) (h1 : Node7 w B1 slash empty 0 0 0 0 0) (h2 : Node7 w B2 slash empty 0 0 0 0 0) :
    Calls Try.prog 6 #[.agg #[.slice (some ⟨B1, 0, none⟩) 1 1], .agg #[.slice (some ⟨B2, 0, none⟩) 1 1]] w fun e w' => e = .returned (.bool true) ∧ Below w.heap.size w w' := by
  have HB : Hid (Below w.heap.size w ((w.alloc (.cells #[.slice (some ⟨B1, 0, none⟩) 1 1] 24)).alloc (.cells #[.slice (some ⟨B2, 0, none⟩) 1 1] 24))) := ((Below.refl _ _).alloc (Nat.le_refl _) _).alloc (by simp) _
  have H1 : Hid (Node7 w B1 slash empty 0 0 0 0 0) := h1
  have H2 : Hid (Node7 w B2 slash empty 0 0 0 0 0) := h2
  clear h1 h2
  go_enter Try.func6, Try.ntmps6
  go_wp2_with fail
  refine (eqNodeS_same _ B1 B2 (H1.out.below HB.out) (H2.out.below HB.out)).mono ?_
  rintro e w' ⟨rfl, b⟩
  have HB2 : Hid (Below w.heap.size w w') := HB.out.trans (b.mono HB.out.size)
  clear b
  go_wp2
  go_ret
  exact ⟨rfl, HB2.out⟩

def m1 : ByteArray := ⟨#[109, 49]⟩
def m2 : ByteArray := ⟨#[109, 50]⟩

theorem gset (w : World) (B j : Nat) (u : Value) : w.grownBy (w.setCell ⟨B, j, none⟩ u) (some B) := ⟨rfl, rfl, rfl, by simp, fun k _ hne => Below.heap_setCell _ _ _ _ (fun e => hne (by rw [e]))⟩

theorem Node7.set {w : World} {B : Nat} {cs : Array Value} {t : TypeId} (h : w.heap[B]? = some (.cells cs t (0, 0))) (j : Nat) (u : Value) : (w.setCell ⟨B, j, none⟩ u).heap[B]? = some (.cells (cs.setIfInBounds j u) t (0, 0)) := by
  rw [setCell_eq_setRow w B j cs t (0, 0) u h]
  exact setRow_heap w B cs _ t _ h

set_option maxHeartbeats 2000000 in
set_option maxRecDepth 100000 in
theorem markNodeS_one (w : World) (B : Nat) (h : Node7 w B slash empty 0 0 0 0 0) :
    Calls Try.prog 10 #[.slice (some ⟨B, 0, none⟩) 1 1, .int .i64 1] w fun e w' => e = .returned (.int .i64 8) ∧ Node7 w' B m1 m2 3 4 5 6 7 ∧ w.grownBy w' (some B) := by
  have H : Hid (Node7 w B slash empty 0 0 0 0 0) := h
  clear h
  go_enter Try.func10, Try.ntmps10
  go_wp2_with fail
  refine wp_loop_rounds 2 ?_
  rw [rounds_succ]
  go_wp2_with fail
  refine (markText_1 w).mono ?_
  rintro e w1 ⟨rfl, b1⟩
  have N1 : Hid (Node7 w1 B slash empty 0 0 0 0 0) := H.out.below b1
  have G1 : Hid (w.grownBy w1 (some B)) := ⟨b1.os, b1.tape, b1.output, b1.size, fun q hq _ => b1.block q hq⟩
  have x0 := N1.out.c0
  have y0 := N1.out.f0
  clear b1 H
  go_wp2_with fail
  have N2 : Hid ((w1.setCell ⟨B, 0, none⟩ (.string ⟨#[109, 49]⟩)).heap[B]? = some (.cells #[.string m1, .string empty, .int .i64 0, .int .i64 0, .int .i64 0, .int .i64 0, .int .i64 0] 30 (0, 0))) := Node7.set N1.out 0 _
  have G2 : Hid (w.grownBy (w1.setCell ⟨B, 0, none⟩ (.string ⟨#[109, 49]⟩)) (some B)) := G1.out.trans (gset _ B 0 _)
  clear x0 y0 N1 G1
  generalize w1.setCell ⟨B, 0, none⟩ (.string ⟨#[109, 49]⟩) = w2 at *
  refine (markText_2 w2).mono ?_
  rintro e w3 ⟨rfl, b3⟩
  have N3 : Hid (Node7 w3 B m1 empty 0 0 0 0 0) := Node7.below (w := w2) N2.out b3
  have G3 : Hid (w.grownBy w3 (some B)) := G2.out.trans ⟨b3.os, b3.tape, b3.output, b3.size, fun q hq _ => b3.block q hq⟩
  clear b3 N2 G2
  have x1 := N3.out.c1
  have y1 := N3.out.f1
  have x2 := N3.out.c2
  have y2 := N3.out.f2
  have x3 := N3.out.c3
  have y3 := N3.out.f3
  have x4 := N3.out.c4
  have y4 := N3.out.f4
  have x5 := N3.out.c5
  have y5 := N3.out.f5
  have x6 := N3.out.c6
  have y6 := N3.out.f6
  go_wp2
  rw [rounds_succ]
  go_wp2
  go_ret
  refine ⟨rfl, ?_, ?_⟩
  · exact Node7.set (Node7.set (Node7.set (Node7.set (Node7.set (Node7.set N3.out 1 _) 2 _) 3 _) 4 _) 5 _) 6 _
  · exact (((((G3.out.trans (gset _ B 1 _)).trans (gset _ B 2 _)).trans (gset _ B 3 _)).trans (gset _ B 4 _)).trans (gset _ B 5 _)).trans (gset _ B 6 _)

set_option maxHeartbeats 1000000 in
theorem markTree_one (w : World) (B : Nat) (h : Node7 w B slash empty 0 0 0 0 0) :
    Calls Try.prog 7 #[.agg #[.slice (some ⟨B, 0, none⟩) 1 1], .int .i64 1] w fun e w' => e = .returned (.int .i64 8) ∧ Node7 w' B m1 m2 3 4 5 6 7 ∧ w.grownBy w' (some B) := by
  have HB : Hid (Below w.heap.size w (w.alloc (.cells #[.slice (some ⟨B, 0, none⟩) 1 1] 24))) := (Below.refl _ _).alloc (Nat.le_refl _) _
  have H : Hid (Node7 w B slash empty 0 0 0 0 0) := h
  have G0 : Hid (w.grownBy (w.alloc (.cells #[.slice (some ⟨B, 0, none⟩) 1 1] 24)) (some B)) := World.grownBy_alloc _ _ _
  clear h
  go_enter Try.func7, Try.ntmps7
  go_wp2_with fail
  refine (markNodeS_one _ B (H.out.below HB.out)).mono ?_
  rintro e w' ⟨rfl, n1, g1⟩
  have N1 : Hid (Node7 w' B m1 m2 3 4 5 6 7) := n1
  have G1 : Hid (w.grownBy w' (some B)) := G0.out.trans g1
  clear n1 g1
  go_wp2
  go_ret
  exact ⟨rfl, N1.out, G1.out⟩

set_option maxHeartbeats 2000000 in
set_option maxRecDepth 100000 in
theorem heldNodeS_one (w : World) (B : Nat) (h : Node7 w B m1 m2 3 4 5 6 7) :
    Calls Try.prog 11 #[.slice (some ⟨B, 0, none⟩) 1 1, .int .i64 1] w fun e w' => e = .returned (.int .i64 8) ∧ Below w.heap.size w w' := by
  have H : Hid (Node7 w B m1 m2 3 4 5 6 7) := h
  have x0 := h.c0
  have x1 := h.c1
  clear h
  unfold m1 at x0
  unfold m2 at x1
  have HM1 : Hid (Calls Try.prog 13 #[.int .i64 1] w.drew fun e w' => e = .returned (.string ⟨#[109, 49]⟩) ∧ w'.cell? ⟨B, 0, none⟩ = some (.string ⟨#[109, 49]⟩) ∧ Hid (Below w.heap.size w w')) := by
    refine (markText_1 w.drew).mono ?_
    rintro e w' ⟨rfl, b⟩
    have b2 : Below w.heap.size w w' := (below_drewN' w 1).trans b
    exact ⟨rfl, (b2.cell (p := ⟨B, 0, none⟩) H.out.lt).trans x0, b2⟩
  go_enter Try.func11, Try.ntmps11
  go_wp2_with fail
  refine wp_loop_rounds 2 ?_
  rw [rounds_succ]
  go_wp2_with fail
  go_region_with (go_at_call 13; refine HM1.out.mono ?_; rintro e w' ⟨rfl, k0, hbw⟩)
  all_goals
    have N1 : Hid (Node7 w' B m1 m2 3 4 5 6 7) := H.out.below hbw.out
    have z1 := N1.out.c1
    unfold m2 at z1
    clear k0
    have HM2 : Hid (Calls Try.prog 13 #[.int .i64 2] w'.drew fun e w2 => e = .returned (.string ⟨#[109, 50]⟩) ∧ w2.cell? ⟨B, 1, none⟩ = some (.string ⟨#[109, 50]⟩) ∧ Hid (Below w'.heap.size w' w2)) := by
      refine (markText_2 w'.drew).mono ?_
      rintro e w2 ⟨rfl, b⟩
      have b2 : Below w'.heap.size w' w2 := (below_drewN' w' 1).trans b
      exact ⟨rfl, (b2.cell (p := ⟨B, 1, none⟩) N1.out.lt).trans z1, b2⟩
    go_wp2_with fail
    go_region_with (go_at_call 13; refine HM2.out.mono ?_; rintro e w2 ⟨rfl, k1, hbw2⟩)
    all_goals
      have N2 : Hid (Node7 w2 B m1 m2 3 4 5 6 7) := N1.out.below hbw2.out
      have BW : Hid (Below w.heap.size w w2) := hbw.out.trans (hbw2.out.mono hbw.out.size)
      have x2 := N2.out.c2
      have x3 := N2.out.c3
      have x4 := N2.out.c4
      have x5 := N2.out.c5
      have x6 := N2.out.c6
      clear k1 hbw2 HM2 HM1
      go_wp2
      rw [rounds_succ]
      go_wp2
      go_ret
      exact ⟨rfl, BW.out⟩


set_option maxHeartbeats 1000000 in
theorem heldTree_one (w : World) (B : Nat) (h : Node7 w B m1 m2 3 4 5 6 7) :
    Calls Try.prog 8 #[.agg #[.slice (some ⟨B, 0, none⟩) 1 1], .int .i64 1] w fun e w' => e = .returned (.int .i64 8) ∧ Below w.heap.size w w' := by
  have HB : Hid (Below w.heap.size w (w.alloc (.cells #[.slice (some ⟨B, 0, none⟩) 1 1] 24))) := (Below.refl _ _).alloc (Nat.le_refl _) _
  have H : Hid (Node7 w B m1 m2 3 4 5 6 7) := h
  clear h
  go_enter Try.func8, Try.ntmps8
  go_wp2_with fail
  refine (heldNodeS_one _ B (H.out.below HB.out)).mono ?_
  rintro e w' ⟨rfl, b⟩
  have B1 : Hid (Below w.heap.size w w') := HB.out.trans (b.mono HB.out.size)
  clear b
  go_wp2
  go_ret
  exact ⟨rfl, B1.out⟩

end Go.Proofs.Ytljljljpfbkdeab
