import Derived.Test.YtdiingonnddkcaaGreatDoorJ08
import Derived.Test.YtdiingonnddkcaaGreatDoorJ03
import Derived.Defers
import Derived.Recover
import Derived.Test.YtdiingonnddkcaaGreatDoorJ07
import Derived.Test.YtdiingonnddkcaaGreatDoorJ01
namespace Go.Proofs.YtdiingonnddkcaaGreatDoor
open Go.RowKit

theorem grown_of {w w' : World} (h : Below w.heap.size w w') (row : Option Nat) : w.grownBy w' row := ⟨h.os, h.tape, h.output, h.size, fun k hk _ => h.block k hk⟩
theorem grown_alloc (w : World) (o : Obj) (row : Option Nat) : w.grownBy (w.alloc o) row := grown_of ((Below.refl _ _).alloc (Nat.le_refl _) o) row
theorem grown_new {w W : World} {row : Option Nat} {B : Nat} (h : w.grownBy W row) (hB : w.heap.size ≤ B) (i : Nat) (u : Value) : w.grownBy (W.setCell ⟨B, i, none⟩ u) row :=
  ⟨h.os, h.tape, h.output, by simpa using h.size, fun k hk hne => by
    rw [← h.block k hk hne]
    exact Below.heap_setCell _ _ _ _ (by show k ≠ B; omega)⟩
/-- A local node that may be written. -/
def NB (W : World) (B : Nat) (n : Nd) : Prop := BoxN W B n ∧ ∀ j, W.frozen? ⟨B, j, none⟩ = false
theorem NB.turn {W W' : World} {B : Nat} {n : Nd} {row : Option Nat} (h : NB W B n) (hg : W.grownBy W' row) (hne : some B ≠ row) : NB W' B n := by
  have hb := hg.block B h.1.lt hne
  have e : ∀ q, W'.cell? ⟨B, q, none⟩ = W.cell? ⟨B, q, none⟩ := fun q => World.cell?_of_block (a := ⟨B, q, none⟩) hb
  refine ⟨⟨Nat.lt_of_lt_of_le h.1.lt hg.size, (e _).trans h.1.c0, (e _).trans h.1.c1, (e _).trans h.1.c2, (e _).trans h.1.c3, (e _).trans h.1.c4, (e _).trans h.1.c5, (e _).trans h.1.c6⟩, fun j => ?_⟩
  rw [World.frozen?_of_block (a := ⟨B, j, none⟩) hb]; exact h.2 j
theorem NB.other {W : World} {B B' : Nat} {n : Nd} (h : NB W B n) (hne : B ≠ B') (i : Nat) (u : Value) : NB (W.setCell ⟨B', i, none⟩ u) B n := by
  have e : ∀ q, (W.setCell ⟨B', i, none⟩ u).cell? ⟨B, q, none⟩ = W.cell? ⟨B, q, none⟩ := fun q => World.cell?_setCell_other _ _ _ _ (by intro e; injection e with e; omega)
  refine ⟨⟨by simpa using h.1.lt, (e _).trans h.1.c0, (e _).trans h.1.c1, (e _).trans h.1.c2, (e _).trans h.1.c3, (e _).trans h.1.c4, (e _).trans h.1.c5, (e _).trans h.1.c6⟩, fun j => ?_⟩
  rw [World.frozen?_setCell]; exact h.2 j
theorem NB.put0 {W : World} {B : Nat} {n : Nd} (h : NB W B n) (s : ByteArray) : NB (W.setCell ⟨B, 0, none⟩ (Value.string s)) B { n with path := s } := by
  have e : ∀ q, q ≠ 0 → (W.setCell ⟨B, 0, none⟩ (Value.string s)).cell? ⟨B, q, none⟩ = W.cell? ⟨B, q, none⟩ := fun q hq => World.cell?_setCell_other _ _ _ _ (by intro e; injection e with _ e; omega)
  refine ⟨⟨by simpa using h.1.lt, World.cell?_setCell_same _ _ _ h.1.c0, (e 1 (by omega)).trans h.1.c1, (e 2 (by omega)).trans h.1.c2, (e 3 (by omega)).trans h.1.c3, (e 4 (by omega)).trans h.1.c4, (e 5 (by omega)).trans h.1.c5, (e 6 (by omega)).trans h.1.c6⟩, fun j => ?_⟩
  rw [World.frozen?_setCell]; exact h.2 j
theorem NB.put1 {W : World} {B : Nat} {n : Nd} (h : NB W B n) (s : ByteArray) : NB (W.setCell ⟨B, 1, none⟩ (Value.string s)) B { n with data := s } := by
  have e : ∀ q, q ≠ 1 → (W.setCell ⟨B, 1, none⟩ (Value.string s)).cell? ⟨B, q, none⟩ = W.cell? ⟨B, q, none⟩ := fun q hq => World.cell?_setCell_other _ _ _ _ (by intro e; injection e with _ e; omega)
  refine ⟨⟨by simpa using h.1.lt, (e 0 (by omega)).trans h.1.c0, World.cell?_setCell_same _ _ _ h.1.c1, (e 2 (by omega)).trans h.1.c2, (e 3 (by omega)).trans h.1.c3, (e 4 (by omega)).trans h.1.c4, (e 5 (by omega)).trans h.1.c5, (e 6 (by omega)).trans h.1.c6⟩, fun j => ?_⟩
  rw [World.frozen?_setCell]; exact h.2 j
theorem NB.put2 {W : World} {B : Nat} {n : Nd} (h : NB W B n) (s : Int) : NB (W.setCell ⟨B, 2, none⟩ (Value.int .i64 s)) B { n with ver := s } := by
  have e : ∀ q, q ≠ 2 → (W.setCell ⟨B, 2, none⟩ (Value.int .i64 s)).cell? ⟨B, q, none⟩ = W.cell? ⟨B, q, none⟩ := fun q hq => World.cell?_setCell_other _ _ _ _ (by intro e; injection e with _ e; omega)
  refine ⟨⟨by simpa using h.1.lt, (e 0 (by omega)).trans h.1.c0, (e 1 (by omega)).trans h.1.c1, World.cell?_setCell_same _ _ _ h.1.c2, (e 3 (by omega)).trans h.1.c3, (e 4 (by omega)).trans h.1.c4, (e 5 (by omega)).trans h.1.c5, (e 6 (by omega)).trans h.1.c6⟩, fun j => ?_⟩
  rw [World.frozen?_setCell]; exact h.2 j
theorem NB.put3 {W : World} {B : Nat} {n : Nd} (h : NB W B n) (s : Int) : NB (W.setCell ⟨B, 3, none⟩ (Value.int .i64 s)) B { n with cver := s } := by
  have e : ∀ q, q ≠ 3 → (W.setCell ⟨B, 3, none⟩ (Value.int .i64 s)).cell? ⟨B, q, none⟩ = W.cell? ⟨B, q, none⟩ := fun q hq => World.cell?_setCell_other _ _ _ _ (by intro e; injection e with _ e; omega)
  refine ⟨⟨by simpa using h.1.lt, (e 0 (by omega)).trans h.1.c0, (e 1 (by omega)).trans h.1.c1, (e 2 (by omega)).trans h.1.c2, World.cell?_setCell_same _ _ _ h.1.c3, (e 4 (by omega)).trans h.1.c4, (e 5 (by omega)).trans h.1.c5, (e 6 (by omega)).trans h.1.c6⟩, fun j => ?_⟩
  rw [World.frozen?_setCell]; exact h.2 j
theorem NB.put4 {W : World} {B : Nat} {n : Nd} (h : NB W B n) (s : Int) : NB (W.setCell ⟨B, 4, none⟩ (Value.int .i64 s)) B { n with cz := s } := by
  have e : ∀ q, q ≠ 4 → (W.setCell ⟨B, 4, none⟩ (Value.int .i64 s)).cell? ⟨B, q, none⟩ = W.cell? ⟨B, q, none⟩ := fun q hq => World.cell?_setCell_other _ _ _ _ (by intro e; injection e with _ e; omega)
  refine ⟨⟨by simpa using h.1.lt, (e 0 (by omega)).trans h.1.c0, (e 1 (by omega)).trans h.1.c1, (e 2 (by omega)).trans h.1.c2, (e 3 (by omega)).trans h.1.c3, World.cell?_setCell_same _ _ _ h.1.c4, (e 5 (by omega)).trans h.1.c5, (e 6 (by omega)).trans h.1.c6⟩, fun j => ?_⟩
  rw [World.frozen?_setCell]; exact h.2 j
theorem NB.put5 {W : World} {B : Nat} {n : Nd} (h : NB W B n) (s : Int) : NB (W.setCell ⟨B, 5, none⟩ (Value.int .i64 s)) B { n with mz := s } := by
  have e : ∀ q, q ≠ 5 → (W.setCell ⟨B, 5, none⟩ (Value.int .i64 s)).cell? ⟨B, q, none⟩ = W.cell? ⟨B, q, none⟩ := fun q hq => World.cell?_setCell_other _ _ _ _ (by intro e; injection e with _ e; omega)
  refine ⟨⟨by simpa using h.1.lt, (e 0 (by omega)).trans h.1.c0, (e 1 (by omega)).trans h.1.c1, (e 2 (by omega)).trans h.1.c2, (e 3 (by omega)).trans h.1.c3, (e 4 (by omega)).trans h.1.c4, World.cell?_setCell_same _ _ _ h.1.c5, (e 6 (by omega)).trans h.1.c6⟩, fun j => ?_⟩
  rw [World.frozen?_setCell]; exact h.2 j
theorem NB.put6 {W : World} {B : Nat} {n : Nd} (h : NB W B n) (s : Int) : NB (W.setCell ⟨B, 6, none⟩ (Value.int .i64 s)) B { n with pz := s } := by
  have e : ∀ q, q ≠ 6 → (W.setCell ⟨B, 6, none⟩ (Value.int .i64 s)).cell? ⟨B, q, none⟩ = W.cell? ⟨B, q, none⟩ := fun q hq => World.cell?_setCell_other _ _ _ _ (by intro e; injection e with _ e; omega)
  refine ⟨⟨by simpa using h.1.lt, (e 0 (by omega)).trans h.1.c0, (e 1 (by omega)).trans h.1.c1, (e 2 (by omega)).trans h.1.c2, (e 3 (by omega)).trans h.1.c3, (e 4 (by omega)).trans h.1.c4, (e 5 (by omega)).trans h.1.c5, World.cell?_setCell_same _ _ _ h.1.c6⟩, fun j => ?_⟩
  rw [World.frozen?_setCell]; exact h.2 j
theorem NB.new (w : World) (n : Nd) (t : TypeId) : NB (w.alloc (.cells #[.string n.path, .string n.data, .int .i64 n.ver, .int .i64 n.cver, .int .i64 n.cz, .int .i64 n.mz, .int .i64 n.pz] t)) w.heap.size n := ⟨BoxN.new w n t, fun j => (by go_simp)⟩
theorem RS.new {w0 w w' : World} {k : Nat} {ys : List Int} (h : RS w0 w k ys) (hb : Below w.heap.size w w') : RS w0 w' k ys := h.keep hb h.2.1
theorem RS.setOther {w0 w : World} {k B : Nat} {ys : List Int} (h : RS w0 w k ys) (hB : k ≠ B) (h0 : w0.heap.size ≤ B) (i : Nat) (u : Value) : RS w0 (w.setCell ⟨B, i, none⟩ u) k ys := by
  obtain ⟨h1, h2, h3, h4, v, h5, h6⟩ := h
  refine ⟨h1, by simpa using h2, by rw [World.frozen?_setCell]; exact h3, h4.setCell h0 _, v, ?_, h6⟩
  rw [World.cell?_setCell_other _ _ _ _ (by intro e; injection e with e; omega)]; exact h5
theorem wrap4 {ys : List Int} (h : Byt ys) : wrap64 ((numB (ys.take 4) : Nat) : Int) = ((numB (ys.take 4) : Nat) : Int) := by
  have hb := (bigR_numB (ys.take 4).length (ys.take 4) rfl (fun x hx => h x (List.mem_of_mem_take hx))).2
  have h1 : 256 ^ (ys.take 4).length ≤ 256 ^ 4 := Nat.pow_le_pow_right (by omega) (by rw [List.length_take]; omega)
  have h2 : numB (ys.take 4) < 4294967296 := Nat.lt_of_lt_of_le hb h1
  unfold wrap64
  omega
def ndV (n : Nd) : Value := .agg #[.string n.path, .string n.data, .int .i64 n.ver, .int .i64 n.cver, .int .i64 n.cz, .int .i64 n.mz, .int .i64 n.pz]
def ndK (p d : ByteArray) (a : Nat → Int) (k : Nat) : Nd := ⟨p, d, if 0 < k then a 0 else 0, if 1 < k then a 1 else 0, if 2 < k then a 2 else 0, if 3 < k then a 3 else 0, if 4 < k then a 4 else 0⟩
def NdPost (w0 w : World) (k : Nat) (ys : List Int) (e : Ending) (w' : World) : Prop :=
  w.grownBy w' (some k) ∧ ((rdNd ys = none ∧ e = .panicked badChain) ∨ ∃ n r, rdNd ys = some (n, r) ∧ e = .returned (ndV n) ∧ RS w0 w' k r)

set_option maxHeartbeats 2000000 in
set_option maxRecDepth 100000 in
theorem nodeImage_any (w0 w : World) (k : Nat) (ys : List Int) (h : RS w0 w k ys) (hby : Byt ys) :
    Calls Tryz.prog 79 #[.pointer (some ⟨k, 0, none⟩)] w fun e w' => NdPost w0 w k ys e w' := by
  have hk := h.2.1
  have hk0 := h.1
  have HBY := hd9 hby
  have HS := hd9 h
  clear h hby
  have A1 : Hid (RS w0 ((w.alloc (.cells #[.string ⟨#[]⟩, .string ⟨#[]⟩, .int .i64 0, .int .i64 0, .int .i64 0, .int .i64 0, .int .i64 0] 97)).alloc (.cells #[.string ⟨#[]⟩, .string ⟨#[]⟩, .int .i64 0, .int .i64 0, .int .i64 0, .int .i64 0, .int .i64 0] 97)) k ys) := (HS.out.new ((Below.refl _ _).alloc (Nat.le_refl _) _)).new ((Below.refl _ _).alloc (Nat.le_refl _) _)
  have N2 : Hid (NB ((w.alloc (.cells #[.string ⟨#[]⟩, .string ⟨#[]⟩, .int .i64 0, .int .i64 0, .int .i64 0, .int .i64 0, .int .i64 0] 97)).alloc (.cells #[.string ⟨#[]⟩, .string ⟨#[]⟩, .int .i64 0, .int .i64 0, .int .i64 0, .int .i64 0, .int .i64 0] 97)) w.heap.size nd0) := (NB.new w nd0 _).turn (grown_alloc _ _ none) (by simp)
  have N3 : Hid (NB ((w.alloc (.cells #[.string ⟨#[]⟩, .string ⟨#[]⟩, .int .i64 0, .int .i64 0, .int .i64 0, .int .i64 0, .int .i64 0] 97)).alloc (.cells #[.string ⟨#[]⟩, .string ⟨#[]⟩, .int .i64 0, .int .i64 0, .int .i64 0, .int .i64 0, .int .i64 0] 97)) (w.heap.size + 1) nd0) := by
    have := NB.new (w.alloc (.cells #[.string ⟨#[]⟩, .string ⟨#[]⟩, .int .i64 0, .int .i64 0, .int .i64 0, .int .i64 0, .int .i64 0] 97)) nd0 97
    rw [show (w.alloc (.cells #[.string ⟨#[]⟩, .string ⟨#[]⟩, .int .i64 0, .int .i64 0, .int .i64 0, .int .i64 0, .int .i64 0] 97)).heap.size = w.heap.size + 1 by simp] at this
    exact this
  have G1 : Hid (w.grownBy ((w.alloc (.cells #[.string ⟨#[]⟩, .string ⟨#[]⟩, .int .i64 0, .int .i64 0, .int .i64 0, .int .i64 0, .int .i64 0] 97)).alloc (.cells #[.string ⟨#[]⟩, .string ⟨#[]⟩, .int .i64 0, .int .i64 0, .int .i64 0, .int .i64 0, .int .i64 0] 97)) (some k)) := (grown_alloc _ _ _).trans (grown_alloc _ _ _)
  go_enter Tryz.func79, Tryz.ntmps79
  go_wp2_with fail
  generalize ((w.alloc (.cells #[.string ⟨#[]⟩, .string ⟨#[]⟩, .int .i64 0, .int .i64 0, .int .i64 0, .int .i64 0, .int .i64 0] 97)).alloc (.cells #[.string ⟨#[]⟩, .string ⟨#[]⟩, .int .i64 0, .int .i64 0, .int .i64 0, .int .i64 0, .int .i64 0] 97)) = w1 at *
  refine (text_any w0 w1 k ys A1.out HBY.out).mono ?_
  rintro e w2 ⟨g2, hp⟩
  rcases hp with ⟨hp, rfl⟩ | ⟨p, r1, hp, rfl, hr2⟩
  · exact ⟨rfl, G1.out.trans g2, .inl ⟨by unfold rdNd; rw [hp], rfl⟩⟩
  have HP1 := hd9 hp
  have HB1 := hd9 ((rdT_byt hp HBY.out).1)
  have G2 := hd9 (G1.out.trans g2)
  have N22 := hd9 (N2.out.turn g2 (by simp; omega))
  have N32 := hd9 (N3.out.turn g2 (by simp; omega))
  have R2 := hd9 hr2
  clear hp g2 hr2 N2 N3 A1 G1
  have d0 := N32.out.1.c0
  have f0 := N32.out.2 0
  have N33 : Hid (NB (w2.setCell ⟨w.heap.size + 1, 0, none⟩ (.string p)) (w.heap.size + 1) { nd0 with path := p }) := N32.out.put0 p
  have N23 : Hid (NB (w2.setCell ⟨w.heap.size + 1, 0, none⟩ (.string p)) w.heap.size nd0) := N22.out.other (by omega) _ _
  have R3 : Hid (RS w0 (w2.setCell ⟨w.heap.size + 1, 0, none⟩ (.string p)) k r1) := R2.out.setOther (by omega) (by omega) _ _
  have G3 : Hid (w.grownBy (w2.setCell ⟨w.heap.size + 1, 0, none⟩ (.string p)) (some k)) := grown_new G2.out (by omega) _ _
  go_wp2_with fail
  clear d0 f0 N32 N22 R2 G2
  generalize w2.setCell ⟨w.heap.size + 1, 0, none⟩ (.string p) = w3 at *
  refine (text_any w0 w3 k r1 R3.out HB1.out).mono ?_
  rintro e w4 ⟨g4, hp⟩
  rcases hp with ⟨hp, rfl⟩ | ⟨d, r2, hp, rfl, hr4⟩
  · refine ⟨rfl, G3.out.trans g4, .inl ⟨?_, rfl⟩⟩
    unfold rdNd; rw [HP1.out]; simp only; rw [hp]
  have HP2 := hd9 hp
  have HB2 := hd9 ((rdT_byt hp HB1.out).1)
  have G4 := hd9 (G3.out.trans g4)
  have N24 := hd9 (N23.out.turn g4 (by simp; omega))
  have N34 : Hid (NB w4 (w.heap.size + 1) { nd0 with path := p }) := N33.out.turn g4 (by simp; omega)
  have R4 := hd9 hr4
  clear hp g4 hr4 N23 N33 R3 G3
  have d1 := N34.out.1.c1
  have f1 := N34.out.2 1
  have N35 : Hid (NB (w4.setCell ⟨w.heap.size + 1, 1, none⟩ (.string d)) (w.heap.size + 1) (ndK p d (num4 r2) 0)) := N34.out.put1 d
  have N25 : Hid (NB (w4.setCell ⟨w.heap.size + 1, 1, none⟩ (.string d)) w.heap.size nd0) := N24.out.other (by omega) _ _
  have R5 : Hid (RS w0 (w4.setCell ⟨w.heap.size + 1, 1, none⟩ (.string d)) k r2) := R4.out.setOther (by omega) (by omega) _ _
  have G5 : Hid (w.grownBy (w4.setCell ⟨w.heap.size + 1, 1, none⟩ (.string d)) (some k)) := grown_new G4.out (by omega) _ _
  go_wp2_with fail
  clear d1 f1 N34 N24 R4 G4
  generalize w4.setCell ⟨w.heap.size + 1, 1, none⟩ (.string d) = w5 at *
  refine (stats_any w5 (w.heap.size + 1) 0).mono ?_
  rintro e w6 ⟨rfl, b6⟩
  have G6 := hd9 (G5.out.trans (grown_of b6 _))
  have N26 := hd9 (N25.out.turn (grown_of b6 none) (by simp))
  have N36 := hd9 (N35.out.turn (grown_of b6 none) (by simp))
  have R6 : Hid (RS w0 w6 k (r2.drop (4 * 0))) := by show RS _ _ _ _; rw [Nat.mul_zero, List.drop_zero]; exact R5.out.new b6
  clear b6 N25 N35 R5 G5
  unfold stP
  go_wp2
  go_loopw [15] (fun vi wr => ∃ i : Nat, i ≤ 5 ∧ vi = .int .i64 i ∧ Hid (4 * i ≤ r2.length) ∧ Hid (w.grownBy wr (some k)) ∧ Hid (NB wr w.heap.size nd0) ∧ Hid (NB wr (w.heap.size + 1) (ndK p d (num4 r2) i)) ∧ Hid (RS w0 wr k (r2.drop (4 * i)))) (fun i _ => 5 - (intOf i).toNat)
  case atStart => exact ⟨0, by omega, rfl, Nat.zero_le _, G6, N26, N36, R6⟩
  case round =>
    obtain ⟨i, hi, rfl, HL, HG, HN2, HN3, HR⟩ := hrel
    have hl := HL.out
    rcases (show i = 0 ∨ i = 1 ∨ i = 2 ∨ i = 3 ∨ i = 4 ∨ i = 5 by omega) with rfl | rfl | rfl | rfl | rfl | rfl
    · have hix := fun W => ix_0 W (w.heap.size + 1)
      go_wp2_with fail
      clear hix
      by_cases hlt : 4 ≤ r2.length
      rotate_left
      · refine (number_none w0 wr k 4 _ HR.out (by rw [List.length_drop]; omega)).mono ?_
        rintro e w7 ⟨rfl, rfl⟩
        refine ⟨rfl, HG.out, .inl ⟨?_, rfl⟩⟩
        unfold rdNd; rw [HP1.out]; simp only; rw [HP2.out]; simp only; rw [if_neg (by omega)]
      refine (number_any w0 wr k 4 _ HR.out (by rw [List.length_drop]; omega) (by omega) (by omega) (byt_drop HB2.out _)).mono ?_
      rintro e w7 ⟨rfl, r7, v7, q7, rfl⟩
      rw [wrap4 (byt_drop HB2.out _)]
      have g7 : wr.grownBy ((wr.setCell ⟨k, 0, none⟩ v7).drewN q7) (some k) := (grownBy_set _ _ _ _ _ (World.grownBy.refl _ _)).trans (grown_of (below_drewN' _ q7) _)
      have HG7 := hd9 (HG.out.trans g7)
      have N27 := hd9 (HN2.out.turn g7 (by simp; omega))
      have N37 := hd9 (HN3.out.turn g7 (by simp; omega))
      have R7 : Hid (RS w0 ((wr.setCell ⟨k, 0, none⟩ v7).drewN q7) k (r2.drop (4 * 1))) := by rw [List.drop_drop] at r7; exact r7
      clear r7 g7 HG HN2 HN3 HR HL
      generalize (wr.setCell ⟨k, 0, none⟩ v7).drewN q7 = w7 at *
      have d0 := N37.out.1.c2
      have f0 := N37.out.2 2
      have N38 : Hid (NB (w7.setCell ⟨w.heap.size + 1, 2, none⟩ (.int .i64 (num4 r2 0))) (w.heap.size + 1) (ndK p d (num4 r2) 1)) := N37.out.put2 (num4 r2 0)
      have N28 : Hid (NB (w7.setCell ⟨w.heap.size + 1, 2, none⟩ (.int .i64 (num4 r2 0))) w.heap.size nd0) := N27.out.other (by omega) _ _
      have R8 : Hid (RS w0 (w7.setCell ⟨w.heap.size + 1, 2, none⟩ (.int .i64 (num4 r2 0))) k (r2.drop (4 * 1))) := R7.out.setOther (by omega) (by omega) _ _
      have G8 : Hid (w.grownBy (w7.setCell ⟨w.heap.size + 1, 2, none⟩ (.int .i64 (num4 r2 0))) (some k)) := grown_new HG7.out (by omega) _ _
      go_wp2
      exact ⟨⟨1, by omega, rfl, by show 4 * 1 ≤ _; omega, G8, N28, N38, R8⟩, by simp [intOf]⟩
    · have hix := fun W => ix_1 W (w.heap.size + 1)
      go_wp2_with fail
      clear hix
      by_cases hlt : 8 ≤ r2.length
      rotate_left
      · refine (number_none w0 wr k 4 _ HR.out (by rw [List.length_drop]; omega)).mono ?_
        rintro e w7 ⟨rfl, rfl⟩
        refine ⟨rfl, HG.out, .inl ⟨?_, rfl⟩⟩
        unfold rdNd; rw [HP1.out]; simp only; rw [HP2.out]; simp only; rw [if_neg (by omega)]
      refine (number_any w0 wr k 4 _ HR.out (by rw [List.length_drop]; omega) (by omega) (by omega) (byt_drop HB2.out _)).mono ?_
      rintro e w7 ⟨rfl, r7, v7, q7, rfl⟩
      rw [wrap4 (byt_drop HB2.out _)]
      have g7 : wr.grownBy ((wr.setCell ⟨k, 0, none⟩ v7).drewN q7) (some k) := (grownBy_set _ _ _ _ _ (World.grownBy.refl _ _)).trans (grown_of (below_drewN' _ q7) _)
      have HG7 := hd9 (HG.out.trans g7)
      have N27 := hd9 (HN2.out.turn g7 (by simp; omega))
      have N37 := hd9 (HN3.out.turn g7 (by simp; omega))
      have R7 : Hid (RS w0 ((wr.setCell ⟨k, 0, none⟩ v7).drewN q7) k (r2.drop (4 * 2))) := by rw [List.drop_drop] at r7; exact r7
      clear r7 g7 HG HN2 HN3 HR HL
      generalize (wr.setCell ⟨k, 0, none⟩ v7).drewN q7 = w7 at *
      have d0 := N37.out.1.c3
      have f0 := N37.out.2 3
      have N38 : Hid (NB (w7.setCell ⟨w.heap.size + 1, 3, none⟩ (.int .i64 (num4 r2 1))) (w.heap.size + 1) (ndK p d (num4 r2) 2)) := N37.out.put3 (num4 r2 1)
      have N28 : Hid (NB (w7.setCell ⟨w.heap.size + 1, 3, none⟩ (.int .i64 (num4 r2 1))) w.heap.size nd0) := N27.out.other (by omega) _ _
      have R8 : Hid (RS w0 (w7.setCell ⟨w.heap.size + 1, 3, none⟩ (.int .i64 (num4 r2 1))) k (r2.drop (4 * 2))) := R7.out.setOther (by omega) (by omega) _ _
      have G8 : Hid (w.grownBy (w7.setCell ⟨w.heap.size + 1, 3, none⟩ (.int .i64 (num4 r2 1))) (some k)) := grown_new HG7.out (by omega) _ _
      go_wp2
      exact ⟨⟨2, by omega, rfl, by show 4 * 2 ≤ _; omega, G8, N28, N38, R8⟩, by simp [intOf]⟩
    · have hix := fun W => ix_2 W (w.heap.size + 1)
      go_wp2_with fail
      clear hix
      by_cases hlt : 12 ≤ r2.length
      rotate_left
      · refine (number_none w0 wr k 4 _ HR.out (by rw [List.length_drop]; omega)).mono ?_
        rintro e w7 ⟨rfl, rfl⟩
        refine ⟨rfl, HG.out, .inl ⟨?_, rfl⟩⟩
        unfold rdNd; rw [HP1.out]; simp only; rw [HP2.out]; simp only; rw [if_neg (by omega)]
      refine (number_any w0 wr k 4 _ HR.out (by rw [List.length_drop]; omega) (by omega) (by omega) (byt_drop HB2.out _)).mono ?_
      rintro e w7 ⟨rfl, r7, v7, q7, rfl⟩
      rw [wrap4 (byt_drop HB2.out _)]
      have g7 : wr.grownBy ((wr.setCell ⟨k, 0, none⟩ v7).drewN q7) (some k) := (grownBy_set _ _ _ _ _ (World.grownBy.refl _ _)).trans (grown_of (below_drewN' _ q7) _)
      have HG7 := hd9 (HG.out.trans g7)
      have N27 := hd9 (HN2.out.turn g7 (by simp; omega))
      have N37 := hd9 (HN3.out.turn g7 (by simp; omega))
      have R7 : Hid (RS w0 ((wr.setCell ⟨k, 0, none⟩ v7).drewN q7) k (r2.drop (4 * 3))) := by rw [List.drop_drop] at r7; exact r7
      clear r7 g7 HG HN2 HN3 HR HL
      generalize (wr.setCell ⟨k, 0, none⟩ v7).drewN q7 = w7 at *
      have d0 := N37.out.1.c4
      have f0 := N37.out.2 4
      have N38 : Hid (NB (w7.setCell ⟨w.heap.size + 1, 4, none⟩ (.int .i64 (num4 r2 2))) (w.heap.size + 1) (ndK p d (num4 r2) 3)) := N37.out.put4 (num4 r2 2)
      have N28 : Hid (NB (w7.setCell ⟨w.heap.size + 1, 4, none⟩ (.int .i64 (num4 r2 2))) w.heap.size nd0) := N27.out.other (by omega) _ _
      have R8 : Hid (RS w0 (w7.setCell ⟨w.heap.size + 1, 4, none⟩ (.int .i64 (num4 r2 2))) k (r2.drop (4 * 3))) := R7.out.setOther (by omega) (by omega) _ _
      have G8 : Hid (w.grownBy (w7.setCell ⟨w.heap.size + 1, 4, none⟩ (.int .i64 (num4 r2 2))) (some k)) := grown_new HG7.out (by omega) _ _
      go_wp2
      exact ⟨⟨3, by omega, rfl, by show 4 * 3 ≤ _; omega, G8, N28, N38, R8⟩, by simp [intOf]⟩
    · have hix := fun W => ix_3 W (w.heap.size + 1)
      go_wp2_with fail
      clear hix
      by_cases hlt : 16 ≤ r2.length
      rotate_left
      · refine (number_none w0 wr k 4 _ HR.out (by rw [List.length_drop]; omega)).mono ?_
        rintro e w7 ⟨rfl, rfl⟩
        refine ⟨rfl, HG.out, .inl ⟨?_, rfl⟩⟩
        unfold rdNd; rw [HP1.out]; simp only; rw [HP2.out]; simp only; rw [if_neg (by omega)]
      refine (number_any w0 wr k 4 _ HR.out (by rw [List.length_drop]; omega) (by omega) (by omega) (byt_drop HB2.out _)).mono ?_
      rintro e w7 ⟨rfl, r7, v7, q7, rfl⟩
      rw [wrap4 (byt_drop HB2.out _)]
      have g7 : wr.grownBy ((wr.setCell ⟨k, 0, none⟩ v7).drewN q7) (some k) := (grownBy_set _ _ _ _ _ (World.grownBy.refl _ _)).trans (grown_of (below_drewN' _ q7) _)
      have HG7 := hd9 (HG.out.trans g7)
      have N27 := hd9 (HN2.out.turn g7 (by simp; omega))
      have N37 := hd9 (HN3.out.turn g7 (by simp; omega))
      have R7 : Hid (RS w0 ((wr.setCell ⟨k, 0, none⟩ v7).drewN q7) k (r2.drop (4 * 4))) := by rw [List.drop_drop] at r7; exact r7
      clear r7 g7 HG HN2 HN3 HR HL
      generalize (wr.setCell ⟨k, 0, none⟩ v7).drewN q7 = w7 at *
      have d0 := N37.out.1.c5
      have f0 := N37.out.2 5
      have N38 : Hid (NB (w7.setCell ⟨w.heap.size + 1, 5, none⟩ (.int .i64 (num4 r2 3))) (w.heap.size + 1) (ndK p d (num4 r2) 4)) := N37.out.put5 (num4 r2 3)
      have N28 : Hid (NB (w7.setCell ⟨w.heap.size + 1, 5, none⟩ (.int .i64 (num4 r2 3))) w.heap.size nd0) := N27.out.other (by omega) _ _
      have R8 : Hid (RS w0 (w7.setCell ⟨w.heap.size + 1, 5, none⟩ (.int .i64 (num4 r2 3))) k (r2.drop (4 * 4))) := R7.out.setOther (by omega) (by omega) _ _
      have G8 : Hid (w.grownBy (w7.setCell ⟨w.heap.size + 1, 5, none⟩ (.int .i64 (num4 r2 3))) (some k)) := grown_new HG7.out (by omega) _ _
      go_wp2
      exact ⟨⟨4, by omega, rfl, by show 4 * 4 ≤ _; omega, G8, N28, N38, R8⟩, by simp [intOf]⟩
    · have hix := fun W => ix_4 W (w.heap.size + 1)
      go_wp2_with fail
      clear hix
      by_cases hlt : 20 ≤ r2.length
      rotate_left
      · refine (number_none w0 wr k 4 _ HR.out (by rw [List.length_drop]; omega)).mono ?_
        rintro e w7 ⟨rfl, rfl⟩
        refine ⟨rfl, HG.out, .inl ⟨?_, rfl⟩⟩
        unfold rdNd; rw [HP1.out]; simp only; rw [HP2.out]; simp only; rw [if_neg (by omega)]
      refine (number_any w0 wr k 4 _ HR.out (by rw [List.length_drop]; omega) (by omega) (by omega) (byt_drop HB2.out _)).mono ?_
      rintro e w7 ⟨rfl, r7, v7, q7, rfl⟩
      rw [wrap4 (byt_drop HB2.out _)]
      have g7 : wr.grownBy ((wr.setCell ⟨k, 0, none⟩ v7).drewN q7) (some k) := (grownBy_set _ _ _ _ _ (World.grownBy.refl _ _)).trans (grown_of (below_drewN' _ q7) _)
      have HG7 := hd9 (HG.out.trans g7)
      have N27 := hd9 (HN2.out.turn g7 (by simp; omega))
      have N37 := hd9 (HN3.out.turn g7 (by simp; omega))
      have R7 : Hid (RS w0 ((wr.setCell ⟨k, 0, none⟩ v7).drewN q7) k (r2.drop (4 * 5))) := by rw [List.drop_drop] at r7; exact r7
      clear r7 g7 HG HN2 HN3 HR HL
      generalize (wr.setCell ⟨k, 0, none⟩ v7).drewN q7 = w7 at *
      have d0 := N37.out.1.c6
      have f0 := N37.out.2 6
      have N38 : Hid (NB (w7.setCell ⟨w.heap.size + 1, 6, none⟩ (.int .i64 (num4 r2 4))) (w.heap.size + 1) (ndK p d (num4 r2) 5)) := N37.out.put6 (num4 r2 4)
      have N28 : Hid (NB (w7.setCell ⟨w.heap.size + 1, 6, none⟩ (.int .i64 (num4 r2 4))) w.heap.size nd0) := N27.out.other (by omega) _ _
      have R8 : Hid (RS w0 (w7.setCell ⟨w.heap.size + 1, 6, none⟩ (.int .i64 (num4 r2 4))) k (r2.drop (4 * 5))) := R7.out.setOther (by omega) (by omega) _ _
      have G8 : Hid (w.grownBy (w7.setCell ⟨w.heap.size + 1, 6, none⟩ (.int .i64 (num4 r2 4))) (some k)) := grown_new HG7.out (by omega) _ _
      go_wp2
      exact ⟨⟨5, by omega, rfl, by show 4 * 5 ≤ _; omega, G8, N28, N38, R8⟩, by simp [intOf]⟩
    · obtain ⟨⟨-, y0, y1, y2, y3, y4, y5, y6⟩, -⟩ := HN3.out
      obtain ⟨⟨-, x0, x1, x2, x3, x4, x5, x6⟩, xf⟩ := HN2.out
      have hl20 : 20 ≤ r2.length := by omega
      have HRD : Hid (rdNd ys = some (ndK p d (num4 r2) 5, r2.drop 20)) := by
        show _ = _
        unfold rdNd; rw [HP1.out]; simp only; rw [HP2.out]; simp only; rw [if_pos hl20]
        rfl
      obtain ⟨nn, hnn⟩ : ∃ nn, nn = ndK p d (num4 r2) 5 := ⟨_, rfl⟩
      rw [← hnn] at y0 y1 y2 y3 y4 y5 y6 HRD
      clear hnn
      go_wp2
      refine bodyPost_ret (v := ndV nn) (by simp [results, Tryz.results79, go_sem, ndV, x0, x1, x2, x3, x4, x5, x6]) rfl ⟨?_, .inr ⟨nn, r2.drop 20, HRD.out, rfl, ?_⟩⟩
      · iterate 7 refine grown_new ?_ (Nat.le_refl _) _ _
        exact HG.out
      · iterate 7 refine RS.setOther ?_ (by omega) (by omega) _ _
        exact HR.out


theorem assert_bad (W : World) (v : Value) : (Instr.typeAssert (.iface 138 v) 20 138 true).run Tryz.prog W = .ok (.tuple #[v, .bool true]) W := by kernel_rfl

set_option maxHeartbeats 400000 in
theorem end_nil (w : World) : Calls Tryz.prog 43 #[.nilIface] w fun e w' => e = .returned (.tuple #[]) ∧ w' = w := by
  go_enter Tryz.func43, Tryz.ntmps43
  go_wp2
  exact bodyPost_ret (results_none rfl _ _ _) rfl ⟨rfl, rfl⟩

set_option maxHeartbeats 400000 in
theorem end_bad (w : World) : Calls Tryz.prog 43 #[.iface 138 (.agg #[])] w fun e w' => e = .returned (.tuple #[]) ∧ Below w.heap.size w w' := by
  have ha : ∀ (W : World) (v : Value), (Instr.typeAssert (.iface 138 v) 20 138 true).run Tryz.prog W = .ok (.tuple #[v, .bool true]) W := fun W v => assert_bad W v
  go_enter Tryz.func43, Tryz.ntmps43
  go_wp2
  go_end0
  exact ⟨rfl, (Below.refl _ _).alloc (Nat.le_refl _) _⟩


theorem catchX_bad (older : List PanicEntry) (w : World) :
    CallsD Tryz.prog 42 #[] (.panicking ({ v := .iface 138 (.agg #[]), recovered := false } :: older)) w fun e u' w' =>
      e = .returned (.tuple #[]) ∧ u' = .panicking ({ v := .iface 138 (.agg #[]), recovered := true } :: older) ∧ Below w.heap.size w w' := by
  refine callsD_of_wpS Tryz.func42 rfl fun c₀ cs hu => ?_
  apply wpS_region
  simp [wpOpsS, go_sem, recoverD, hu, Tryz.ntmps42]
  refine (end_bad w).mono ?_
  rintro e w' ⟨rfl, bw⟩
  simp_all [bodyPostS, results, Tryz.results42]
theorem catchX_idle (w : World) :
    CallsD Tryz.prog 42 #[] .returning w fun e u' w' => e = .returned (.tuple #[]) ∧ u' = .returning ∧ w' = w := by
  refine callsD_of_wpS Tryz.func42 rfl fun c₀ cs hu => ?_
  apply wpS_region
  simp [wpOpsS, go_sem, recoverD, hu, Tryz.ntmps42]
  refine (end_nil w).mono ?_
  rintro e w' ⟨rfl, rfl⟩
  cases c₀
  simp_all [bodyPostS, results, Tryz.results42]


/-- A box of one cell that may be written. -/
def B1 (W : World) (k : Nat) (v : Value) : Prop := k < W.heap.size ∧ W.cell? ⟨k, 0, none⟩ = some v ∧ W.frozen? ⟨k, 0, none⟩ = false
theorem nrow_one (ns : List Nd) (n : Nd) : nrow (ns ++ [n]) = nrow ns ++ ndL n := by rw [nrow_append]; simp [nrow]
theorem ndL_cells (w : World) (n : Nd) (t : TypeId) : ∀ j u, (ndL n)[j]? = some u → (w.alloc (.cells #[.string n.path, .string n.data, .int .i64 n.ver, .int .i64 n.cver, .int .i64 n.cz, .int .i64 n.mz, .int .i64 n.pz] t)).cell? ((⟨w.heap.size, 0, none⟩ : Addr).add j) = some u := by
  intro j u hj
  rw [Addr.add_lit, Nat.zero_add, cell_of (heap_alloc_new w _) j, ← hj]
  simp [ndL]
theorem ndL_one (n : Nd) : ∀ u ∈ ndL n, u.oneCell' = true := by
  intro u hu
  simp only [ndL, List.mem_cons, List.mem_nil_iff, or_false] at hu
  rcases hu with rfl | rfl | rfl | rfl | rfl | rfl | rfl <;> rfl
set_option maxHeartbeats 400000 in
theorem done_any (w0 w : World) (k : Nat) (ys : List Int) (h : RS w0 w k ys) :
    Calls Tryz.prog 47 #[.pointer (some ⟨k, 0, none⟩)] w fun e w' => e = .returned (.bool (decide (ys = []))) ∧ w' = w := by
  obtain ⟨-, -, -, -, v, h5, h6⟩ := h
  obtain ⟨ao, c, rfl, -⟩ := h6
  by_cases hy : ys = []
  · subst hy
    have h0 : ((List.length ([] : List Int) : Int) == 0) = true := rfl
    go_enter Tryz.func47, Tryz.ntmps47
    go_wp2
    go_ret
    exact ⟨rfl, rfl⟩
  · have hl := List.length_pos_iff.2 hy
    have h0 : ((ys.length : Int) == 0) = false := beq_eq_false_iff_ne.2 (by omega)
    rw [decide_eq_false hy]
    go_enter Tryz.func47, Tryz.ntmps47
    go_wp2
    go_ret
    exact ⟨rfl, rfl⟩

theorem hmf (fn : Fn) (first cap : Array Value) (w : World) : (Instr.makeFunc fn first cap).run Tryz.prog w = .ok (.func fn first cap) w := rfl

theorem RS.turn {w0 W W' : World} {k : Nat} {r : List Int} {row : Option Nat} (h : RS w0 W k r) (hg : W.grownBy W' row) (hne : some k ≠ row) (hlo : ∀ g, row = some g → w0.heap.size ≤ g) : RS w0 W' k r := by
  obtain ⟨h1, h2, h3, h4, v, h5, h6⟩ := h
  have hb := hg.block k h2 hne
  exact ⟨h1, Nat.lt_of_lt_of_le h2 hg.size, (World.frozen?_of_block (a := ⟨k, 0, none⟩) hb).trans h3, h4.grown hg h4.size hlo, v, (World.cell?_of_block (a := ⟨k, 0, none⟩) hb).trans h5, h6⟩
end Go.Proofs.YtdiingonnddkcaaGreatDoor
namespace Go.Proofs.YtdiingonnddkcaaGreatDoor
open Go.RowKit Go.Shelf

/-- The nodes without a path. -/
def woN (ns : List Nd) (p : ByteArray) : List Nd := ns.filter fun n => !(n.path.toList == p.toList)
theorem woN_yes (ns : List Nd) (p : ByteArray) (k : Nat) (h : k < ns.length) (hc : ((nAt ns k).path.toList == p.toList) = true) : woN (ns.take (k + 1)) p = woN (ns.take k) p := by
  unfold woN
  rw [List.take_succ_eq_append_getElem h, List.filter_append, ← nAt_get h]
  simp [hc]
theorem woN_no (ns : List Nd) (p : ByteArray) (k : Nat) (h : k < ns.length) (hc : ((nAt ns k).path.toList == p.toList) = false) : woN (ns.take (k + 1)) p = woN (ns.take k) p ++ [nAt ns k] := by
  unfold woN
  rw [List.take_succ_eq_append_getElem h, List.filter_append, ← nAt_get h]
  simp [hc]
theorem woN_len (ns : List Nd) (p : ByteArray) : (woN ns p).length ≤ ns.length := List.length_filter_le _ _

set_option maxHeartbeats 1000000 in
set_option maxRecDepth 100000 in
theorem without_any (w : World) (v : Value) (ns : List Nd) (p : ByteArray) (h : RdN w v ns) (hn : ns.length ≤ 1000000) :
    Calls Tryz.prog 37 #[v, .string p] w fun e w' => ∃ v', e = .returned v' ∧ OwnN 42 w' w.heap.size v' (woN ns p) ∧ Below w.heap.size w w' := by
  obtain ⟨i0, hi, hz0, hz1, hz2⟩ := info_parts Tryz.infoN
  obtain ⟨ao, ca, rfl, _, _⟩ := h.len
  have HR := hd9 h
  have O0 : Hid (OwnN 42 (w.alloc (.cells #[] 42)) w.heap.size (.slice (some ⟨w.heap.size, 0, none⟩) 0 0) (woN (ns.take 0) p)) := World.ownsRow_lit w #[] 0 (Nat.le_refl _) (Nat.zero_le _) rfl
  have B0 : Hid (Below w.heap.size w (w.alloc (.cells #[] 42))) := (Below.refl _ _).alloc (Nat.le_refl _) _
  generalize hnn : ns.length = n at *
  have HP := hd9 hnn
  clear h hnn
  go_enter Tryz.func37, Tryz.ntmps37
  go_wp2
  go_loopw [5, 6] (fun vo vk wr => ∃ k : Nat, k ≤ n ∧ vk = .int .i64 k ∧ Hid (OwnN 42 wr w.heap.size vo (woN (ns.take k) p)) ∧ Hid (Below w.heap.size w wr)) (fun _ i _ => n - (intOf i).toNat)
  case atStart => exact ⟨0, Nat.zero_le _, rfl, O0, B0⟩
  case round =>
    obtain ⟨k, hk, rfl, HW, HB⟩ := hrel
    have sB := HB.out.size
    by_cases hlt : k < n
    · have hltI : (k : Int) < (n : Int) := by omega
      obtain ⟨b, o, hao, hb, hc⟩ : ∃ b o, ao = some ⟨b, o, none⟩ ∧ b < w.heap.size ∧ CellsN w b (o + k * 7) (nAt ns k) := by
        obtain ⟨ao', cap', e', -, -, h3⟩ := HR.out
        simp only [Value.slice.injEq] at e'
        obtain ⟨rfl, -, -⟩ := e'
        rcases h3 with h3 | ⟨b, o, rfl, hb, hc⟩
        · have := HP.out; rw [h3] at this; simp at this; omega
        · exact ⟨b, o, rfl, hb, hc k (by rw [HP.out]; exact hlt)⟩
      subst hao
      obtain ⟨c0, c1, c2, c3, c4, c5, c6⟩ := hc.below HB.out hb
      clear hc
      have hll : (woN (ns.take k) p).length ≤ 1000000 := by
        have := woN_len (ns.take k) p
        rw [List.length_take] at this
        omega
      cases hA : ((nAt ns k).path.toList == p.toList) with
      | true =>
        have HS := hd9 (woN_yes ns p k (by rw [HP.out]; exact hlt) hA)
        go_wp2
        exact ⟨⟨k + 1, by omega, by go_num, (by rw [HS.out]; exact HW), HB⟩, by simp [intOf]; omega⟩
      | false =>
        have HS := hd9 (woN_no ns p k (by rw [HP.out]; exact hlt) hA)
        generalize woN (ns.take k) p = Lk at *
        generalize nAt ns k = m at *
        have OR : Hid (wr.ownsRow w.heap.size 42 7 u5 Lk.length (nrow Lk)) := HW.out
        go_wp2_with (at_builtin; go_must (refine wpList_append_own _ rfl _ _ 23 rfl w.heap.size 42 i0 (.agg #[.string ByteArray.empty, .string ByteArray.empty, .int .i64 0, .int .i64 0, .int .i64 0, .int .i64 0, .int .i64 0]) 7 72 Tryz.underlying23 hi hz0 hz1 hz2 rfl (by decide) _ _ _ rfl (OR.out.alloc _) ⟨wr.heap.size, 0, none⟩ 1 1 (ndL m) rfl rfl (ndL_cells wr m _) (ndL_one m) ?_ ?_ ?_ ?_))
        · unfold maxLen; omega
        · omega
        · simp; omega
        intro v5 w5 ho5 hg5 _
        have O5 : Hid (OwnN 42 w5 w.heap.size v5 (woN (ns.take (k + 1)) p)) := by
          rw [HS.out]
          unfold OwnN
          rw [List.length_append, nrow_one]
          exact ho5
        have B5 := hd9 ((HB.out.alloc sB _).grown hg5 (by simp; omega) (fun q hq => (World.ownsRow.lt OR.out q hq).1))
        clear ho5 hg5 OR HW HB HS c0 c1 c2 c3 c4 c5 c6
        go_wp2
        exact ⟨⟨k + 1, by omega, by go_num, O5, B5⟩, by simp [intOf]; omega⟩
    · have hkn : k = n := by omega
      subst hkn
      go_wp2
      go_ret
      refine ⟨_, rfl, ?_, HB.out⟩
      have := HW.out
      rw [List.take_of_length_le (by rw [HP.out]; exact Nat.le_refl _)] at this
      exact this

end Go.Proofs.YtdiingonnddkcaaGreatDoor


