import Derived.OrdersHeld
import Derived.WalkKit
import Derived.ProofKit
import Derived.OpenShut
import Derived.Handy
import Derived.Carry
import Derived.WalkSpells
import Derived.WalkSmall
import Derived.Test.YtdiingonnddkcaaGreatDoorChecked
import Derived.Deep.QuietTactic
import Derived.BigQuiet
import Derived.Deep.RegionHeld3
import Derived.Deep.RegionLaw
import Derived.Laws.BytesArg
namespace Go.Proofs.YtdiingonnddkcaaGreatDoor
open Go.RowKit

/-- A slice of one-cell integers that reads as xs. -/
def Rd (k : IntKind) (w : World) (v : Value) (xs : List Int) : Prop :=
  ∃ ao cap, v = .slice ao xs.length cap ∧ xs.length ≤ cap ∧ cap ≤ maxLen ∧
    (xs = [] ∨ ∃ b off, ao = some ⟨b, off, none⟩ ∧ b < w.heap.size ∧ ∀ i, i < xs.length → w.cell? ⟨b, off + i, none⟩ = some (.int k (xs.getD i 0)))

/-- A slice of one-cell integers that is the call's own, from block 'base' on. -/
def Own (k : IntKind) (e : TypeId) (w : World) (base : Nat) (v : Value) (xs : List Int) : Prop :=
  w.ownsRow base e 1 v xs.length (xs.map (Value.int k))

theorem Own.rd {k : IntKind} {e : TypeId} {w : World} {base : Nat} {v : Value} {xs : List Int} (h : Own k e w base v xs) : Rd k w v xs := by
  rcases h.2 with ⟨rfl, h0⟩ | ⟨g, cap, cur, rfl, hb, hg, hn, hm, hs, ht⟩
  · have : xs = [] := List.eq_nil_of_length_eq_zero h0
    subst this
    exact ⟨none, 0, rfl, Nat.le_refl _, Nat.zero_le _, .inl rfl⟩
  · refine ⟨_, cap, rfl, hn, hm, .inr ⟨g, 0, rfl, (Array.getElem?_eq_some_iff.1 hg).1, fun i hi => ?_⟩⟩
    have h1 := World.ownsRow.cells h (g := g) rfl i (.int k (xs.getD i 0)) (by simp [List.getD, hi])
    rw [Addr.add_lit] at h1
    exact h1

theorem Rd.below {k : IntKind} {w w' : World} {v : Value} {xs : List Int} (h : Rd k w v xs) (hb : Below w.heap.size w w') : Rd k w' v xs := by
  obtain ⟨ao, cap, rfl, h1, h2, h3⟩ := h
  refine ⟨ao, cap, rfl, h1, h2, ?_⟩
  rcases h3 with h3 | ⟨b, off, rfl, hlt, hc⟩
  · exact .inl h3
  · exact .inr ⟨b, off, rfl, Nat.lt_of_lt_of_le hlt hb.size, fun i hi => by rw [hb.cell (p := ⟨b, off + i, none⟩) hlt]; exact hc i hi⟩

theorem below_drewN' (w : World) (n : Nat) : Below w.heap.size w (w.drewN n) := ⟨rfl, rfl, rfl, Nat.le_refl _, fun _ _ => rfl⟩

theorem Rd.len {k : IntKind} {w : World} {v : Value} {xs : List Int} (h : Rd k w v xs) : ∃ ao cap, v = .slice ao xs.length cap ∧ xs.length ≤ cap ∧ cap ≤ maxLen := by
  obtain ⟨ao, cap, h0, h1, h2, _⟩ := h
  exact ⟨ao, cap, h0, h1, h2⟩

theorem hd9 {p : Prop} (h : p) : Hid p := h
theorem sT9 {α : Type} (l : List α) (i : Nat) (a : α) : l.toArray.setIfInBounds i a = (l.set i a).toArray := List.setIfInBounds_toArray ..
theorem sZ9 {α : Type} (a b : α) (l : List α) : (a :: l).set 0 b = b :: l := rfl
theorem sS9 {α : Type} (a b : α) (l : List α) (n : Nat) : (a :: l).set (n + 1) b = a :: l.set n b := rfl
theorem tk9 {P : Program} {md : Region.Mode} {ops : Array Oper} {Q : Exit → Act → World → Prop} {S : World → Prop} {i : Nat} {oi : Oper} {v : Value} {fuel : Nat} {listed : Array Bool} {a : Act} {w : World} (hi : ops[i]? = some oi)
    (hb : (Region.noSelect ops && (Region.free md ops listed i && (Region.ready md ops listed).contains i)) = true)
    (hQ : ∀ c a w, Q (.panic c) (a.put oi.dst v) w → Q (.panic c) a w) (hy : YieldsIf P ops S oi v a) (hS : S w)
    (h : wpAnyH P md ops Q S fuel (listed.setIfInBounds i true) (a.put oi.dst v) w) : wpAnyH P md ops Q S (fuel + 1) listed a w := by
  simp only [Bool.and_eq_true] at hb
  exact wpAnyH_take hi hb.1 hb.2.1 hb.2.2 hQ hy hS h

theorem tkL9 {P : Program} {md : Region.Mode} {ops : Array Oper} {Q : Exit → Act → World → Prop} {S : World → Prop} {i : Nat} {oi : Oper} {v : Value} {fuel : Nat} {listed : Array Bool} {a : Act} {w : World} (hi : ops[i]? = some oi)
    (hb : (Region.noSelect ops && (Region.free md ops listed i && (Region.ready md ops listed).contains i)) = true)
    (hQ : ∀ c a w, Q (.panic c) (a.put oi.dst v) w → Q (.panic c) a w) (hw : Region.wanted oi (yielded ops a.tmps) = true) (hS : S w) (hy : ∀ w, S w → (execOp a.eval oi).run P w = .ok (.value v) w)
    (h : wpAnyH P md ops Q S fuel (listed.setIfInBounds i true) (a.put oi.dst v) w) : wpAnyH P md ops Q S (fuel + 1) listed a w := tk9 hi hb hQ (Or.inl ⟨hw, hy⟩) hS h
theorem tkR9 {P : Program} {md : Region.Mode} {ops : Array Oper} {Q : Exit → Act → World → Prop} {S : World → Prop} {i : Nat} {oi : Oper} {fuel : Nat} {listed : Array Bool} {a : Act} {w : World} (hi : ops[i]? = some oi)
    (hb : (Region.noSelect ops && (Region.free md ops listed i && (Region.ready md ops listed).contains i)) = true)
    (hQ : ∀ c a w, Q (.panic c) (a.put oi.dst undef) w → Q (.panic c) a w) (hw : Region.wanted oi (yielded ops a.tmps) = false) (hS : S w)
    (h : wpAnyH P md ops Q S fuel (listed.setIfInBounds i true) (a.put oi.dst undef) w) : wpAnyH P md ops Q S (fuel + 1) listed a w := tk9 hi hb hQ (Or.inr ⟨hw, rfl⟩) hS h


theorem Tryz.infoB : (Tryz.prog.info? 5).map (fun i => (i.zero, i.size, i.bytes)) = some (some (.int .u8 0), 1, 1) := by kernel_rfl

theorem ret_int {k : IntKind} {a b : Int} (h : a = b) : Ending.returned (.int k a) = .returned (.int k b) := by rw [h]

/-! ### a row that is written from its head on -/
def mix (ys xs : List Int) (i : Nat) : List Int := ys.take i ++ xs.drop i

theorem grownBy_set (w w' : World) (g i : Nat) (u : Value) (h : w.grownBy w' (some g)) : w.grownBy (w'.setCell ⟨g, i, none⟩ u) (some g) :=
  ⟨h.os, h.tape, h.output, by simpa using h.size, fun k hk hne => by
    have hs := h.size
    rw [← h.block k hk hne]
    exact Below.heap_setCell _ _ _ _ (fun e => hne (by rw [e]))⟩

end Go.Proofs.YtdiingonnddkcaaGreatDoor
namespace Go.Proofs.YtdiingonnddkcaaGreatDoor

/-- The number whose digits, of w bits each, are the low bits of xs, the highest first. -/
def numW (w : Nat) (xs : List Int) : Nat := xs.foldl (fun a x => a * 2 ^ w + x.toNat % 2 ^ w) 0

/-- Digit q, of v bits, of the bits of xs (w bits each). -/
def dig (w v : Nat) (xs : List Int) (q : Nat) : Nat := numW w xs / 2 ^ (w * xs.length - v * (q + 1)) % 2 ^ v

/-- joinGroups' answer. -/
def up (ps : List Int) : List Int := (List.range (7 * ps.length / 8)).map (fun q => ((dig 7 8 ps q : Nat) : Int))

end Go.Proofs.YtdiingonnddkcaaGreatDoor
namespace Go.Proofs.YtdiingonnddkcaaGreatDoor
open Go.RowKit

def Byt (xs : List Int) : Prop := ∀ x ∈ xs, 0 ≤ x ∧ x < 256
theorem byt_at {xs : List Int} (h : Byt xs) (k : Nat) : ∃ x : Nat, x < 256 ∧ xs.getD k 0 = (x : Int) := by
  by_cases hk : k < xs.length
  · have := h xs[k] (List.getElem_mem hk)
    exact ⟨xs[k].toNat, by omega, by simp only [List.getD, List.getElem?_eq_getElem hk, Option.getD_some]; omega⟩
  · exact ⟨0, by omega, by simp [List.getD, show xs.length ≤ k by omega]⟩


/-- A source of drawn numbers: its bytes, how many are used, the mixed number and the size. -/
structure Sr where
  code : List Int
  used : Nat
  mix : Nat
  size : Nat
/-- A drawn number below n, and the source behind it. -/
def Sr.next (s : Sr) (n : Nat) : Nat × Sr :=
  if n ≤ 1 then (0, s)
  else if s.used < s.code.length ∧ n ≤ 256 then ((s.code.getD s.used 0).toNat % n, { s with used := s.used + 1 })
  else ((s.mix * 1103 + 12347) % 1000003 / 3 % n, { s with mix := (s.mix * 1103 + 12347) % 1000003 })
theorem Sr.next_lt (s : Sr) (n : Nat) (h : 1 ≤ n) : (s.next n).1 < n := by
  unfold Sr.next
  split
  · exact h
  · split <;> exact Nat.mod_lt _ (by omega)

/-- Only block k has turned. -/
def Tch (k : Nat) (a b : World) : Prop := Below 0 a b ∧ ∀ j, j ≠ k → j < a.heap.size → b.heap[j]? = a.heap[j]?
theorem Tch.refl (k : Nat) (a : World) : Tch k a a := ⟨Below.refl _ _, fun _ _ _ => rfl⟩
theorem Tch.trans {k : Nat} {a b c : World} (h : Tch k a b) (h' : Tch k b c) : Tch k a c := ⟨h.1.trans h'.1, fun j hj hl => (h'.2 j hj (Nat.lt_of_lt_of_le hl h.1.size)).trans (h.2 j hj hl)⟩
theorem Tch.set (k i : Nat) (a : World) (q : Nat) (v : Value) : Tch k a ((a.drewN q).setCell ⟨k, i, none⟩ v) := ⟨((below_drewN' a q).mono (Nat.zero_le _)).setCell (Nat.zero_le _) _, fun _ hj _ => Below.heap_setCell (a.drewN q) _ _ _ hj⟩
theorem Tch.size {k : Nat} {a b : World} (h : Tch k a b) : a.heap.size ≤ b.heap.size := h.1.size
theorem Tch.below {k B : Nat} {a b : World} (h : Tch k a b) (hk : B ≤ k) (hB : B ≤ a.heap.size) : Below B a b := ⟨h.1.os, h.1.tape, h.1.output, h.1.size, fun j hj => h.2 j (by omega) (by omega)⟩
theorem Tch.of {k : Nat} {a b : World} (h : Below a.heap.size a b) : Tch k a b := ⟨h.mono (Nat.zero_le _), fun j _ hl => h.block j hl⟩
theorem Tch.then {k : Nat} {a b c : World} (h : Tch k a b) (h' : Below a.heap.size b c) : Tch k a c := ⟨h.1.trans (h'.mono (Nat.zero_le _)), fun j hj hl => (h'.block j hl).trans (h.2 j hj hl)⟩

/-- A source in the box k; it and its bytes lie below B. -/
structure SRX (W : World) (k B : Nat) (s : Sr) : Prop where
  kB : k < B
  lt : B ≤ W.heap.size
  fr : ∀ j, W.frozen? ⟨k, j, none⟩ = false
  row : ∃ ca cc, W.cell? ⟨k, 0, none⟩ = some (.slice ca s.code.length cc) ∧ (s.code = [] ∨ ∃ g, ca = some ⟨g, 0, none⟩ ∧ g ≠ k ∧ g < B ∧ ∀ i, i < s.code.length → W.cell? ⟨g, i, none⟩ = some (.int .u8 (s.code.getD i 0)))
  c1 : W.cell? ⟨k, 1, none⟩ = some (.int .i64 (s.used : Int))
  c2 : W.cell? ⟨k, 2, none⟩ = some (.int .i64 (s.mix : Int))
  c3 : W.cell? ⟨k, 3, none⟩ = some (.int .i64 (s.size : Int))
  mx : s.mix < 1000003
  len : s.code.length ≤ 4000
  us : s.used ≤ 4000
  byt : Byt s.code
  sz : 1 ≤ s.size ∧ s.size ≤ 7
theorem SRX.keep {W W' : World} {k B : Nat} {s : Sr} (h : SRX W k B s) (hb : Below B W W') : SRX W' k B s := by
  have hk := h.kB
  have e : ∀ i, W'.cell? ⟨k, i, none⟩ = W.cell? ⟨k, i, none⟩ := fun i => hb.cell (p := ⟨k, i, none⟩) hk
  obtain ⟨ca, cc, c0, hrow⟩ := h.row
  refine ⟨hk, Nat.le_trans h.lt hb.size, fun j => (World.frozen?_of_block (w := W) (hb.block k hk)).trans (h.fr j), ⟨ca, cc, (e 0).trans c0, ?_⟩, (e 1).trans h.c1, (e 2).trans h.c2, (e 3).trans h.c3, h.mx, h.len, h.us, h.byt, h.sz⟩
  rcases hrow with h0 | ⟨g, rfl, hgk, hgB, hx⟩
  · exact .inl h0
  · exact .inr ⟨g, rfl, hgk, hgB, fun i hi => (hb.cell (p := ⟨g, i, none⟩) hgB).trans (hx i hi)⟩
theorem SRX.mono {W : World} {k B B' : Nat} {s : Sr} (h : SRX W k B s) (hB : B ≤ B') (hl : B' ≤ W.heap.size) : SRX W k B' s := by
  obtain ⟨ca, cc, c0, hrow⟩ := h.row
  refine ⟨Nat.lt_of_lt_of_le h.kB hB, hl, h.fr, ⟨ca, cc, c0, ?_⟩, h.c1, h.c2, h.c3, h.mx, h.len, h.us, h.byt, h.sz⟩
  rcases hrow with h0 | ⟨g, rfl, hgk, hgB, hx⟩
  · exact .inl h0
  · exact .inr ⟨g, rfl, hgk, Nat.lt_of_lt_of_le hgB hB, hx⟩
theorem SRX.put1 {W : World} {k B q a : Nat} {s : Sr} (h : SRX W k B s) (ha : a ≤ 4000) : SRX ((W.drewN q).setCell ⟨k, 1, none⟩ (.int .i64 (a : Int))) k B { s with used := a } := by
  have e : ∀ (p : Addr), p ≠ ⟨k, 1, none⟩ → ((W.drewN q).setCell ⟨k, 1, none⟩ (.int .i64 (a : Int))).cell? p = W.cell? p := fun p hp => World.cell?_setCell_other _ _ _ _ (fun h => hp (by first | exact h | exact h.symm))
  obtain ⟨ca, cc, c0, hrow⟩ := h.row
  refine ⟨h.kB, by simpa using h.lt, fun j => by rw [World.frozen?_setCell]; exact h.fr j, ⟨ca, cc, (e _ (by simp)).trans c0, ?_⟩, World.cell?_setCell_same _ _ _ h.c1, (e _ (by simp)).trans h.c2, (e _ (by simp)).trans h.c3, h.mx, h.len, ha, h.byt, h.sz⟩
  rcases hrow with h0 | ⟨g, rfl, hgk, hgB, hx⟩
  · exact .inl h0
  · exact .inr ⟨g, rfl, hgk, hgB, fun i hi => (e _ (by intro h; injection h with h; exact hgk h)).trans (hx i hi)⟩
theorem SRX.put2 {W : World} {k B q m : Nat} {s : Sr} (h : SRX W k B s) (hm : m < 1000003) : SRX ((W.drewN q).setCell ⟨k, 2, none⟩ (.int .i64 (m : Int))) k B { s with mix := m } := by
  have e : ∀ (p : Addr), p ≠ ⟨k, 2, none⟩ → ((W.drewN q).setCell ⟨k, 2, none⟩ (.int .i64 (m : Int))).cell? p = W.cell? p := fun p hp => World.cell?_setCell_other _ _ _ _ (fun h => hp (by first | exact h | exact h.symm))
  obtain ⟨ca, cc, c0, hrow⟩ := h.row
  refine ⟨h.kB, by simpa using h.lt, fun j => by rw [World.frozen?_setCell]; exact h.fr j, ⟨ca, cc, (e _ (by simp)).trans c0, ?_⟩, (e _ (by simp)).trans h.c1, World.cell?_setCell_same _ _ _ h.c2, (e _ (by simp)).trans h.c3, hm, h.len, h.us, h.byt, h.sz⟩
  rcases hrow with h0 | ⟨g, rfl, hgk, hgB, hx⟩
  · exact .inl h0
  · exact .inr ⟨g, rfl, hgk, hgB, fun i hi => (e _ (by intro h; injection h with h; exact hgk h)).trans (hx i hi)⟩

set_option maxHeartbeats 1000000 in
set_option maxRecDepth 100000 in
theorem next_x (W : World) (k B n : Nat) (s : Sr) (h : SRX W k B s) (hn1 : n ≤ 1000000) :
    Calls Tryz.prog 24 #[.pointer (some ⟨k, 0, none⟩), .int .i64 (n : Int)] W fun e w' => e = .returned (.int .i64 ((s.next n).1 : Int)) ∧ SRX w' k B (s.next n).2 ∧ Tch k W w' := by
  by_cases h0 : n ≤ 1
  · have hn0 : (n : Int) ≤ 1 := by omega
    have HN : Hid (s.next n = (0, s)) := by show _ = _; unfold Sr.next; rw [if_pos h0]
    have HS : Hid (SRX W k B s) := h
    clear h
    go_enter Tryz.func24, Tryz.ntmps24
    go_wp2
    go_ret
    rw [HN.out]
    exact ⟨rfl, HS.out, Tch.refl _ _⟩
  have HS : Hid (SRX W k B s) := h
  obtain ⟨ca, cc, c0, hrow⟩ := h.row
  have c1 := h.c1
  have c2 := h.c2
  have hf1 := h.fr 1
  have hf2 := h.fr 2
  have hmx := h.mx
  have hN := h.len
  have hat := h.us
  have hn0 : ¬ (n : Int) ≤ 1 := by omega
  have hz : ((n : Int) == 0) = false := beq_eq_false_iff_ne.2 (by omega)
  by_cases hc : s.used < s.code.length ∧ n ≤ 256
  · have HN : Hid (s.next n = ((s.code.getD s.used 0).toNat % n, { s with used := s.used + 1 })) := by show _ = _; unfold Sr.next; rw [if_neg h0, if_pos hc]
    obtain ⟨hc1, hc2⟩ := hc
    rcases hrow with h00 | ⟨g, rfl, hgk, hgB, hx⟩
    · rw [h00] at hc1; simp at hc1
    obtain ⟨x, hx8, hxe⟩ := byt_at h.byt s.used
    have cx := hx s.used hc1
    rw [hxe] at cx
    have HX : Hid ((s.code.getD s.used 0).toNat = x) := by show _ = _; omega
    generalize hA : s.used = at_ at *
    generalize hL : s.code.length = N at *
    have HA : Hid (s.used = at_) := hA
    clear hA hL h hx hxe
    have hI1 : (at_ : Int) < (N : Int) := by omega
    have hI2 : (n : Int) ≤ 256 := by omega
    go_enter Tryz.func24, Tryz.ntmps24
    go_wp2
    go_quiet (fail)
    go_wp2
    go_quiet (fail)
    go_wp2
    go_ret
    rw [HN.out, HX.out]
    refine ⟨ret_int (by simp), ?_, Tch.set k 1 W _ _⟩
    have e : ((at_ : Int) + 1) = ((at_ + 1 : Nat) : Int) := by omega
    rw [e]
    exact HS.out.put1 (by omega)
  · have HN : Hid (s.next n = ((s.mix * 1103 + 12347) % 1000003 / 3 % n, { s with mix := (s.mix * 1103 + 12347) % 1000003 })) := by show _ = _; unfold Sr.next; rw [if_neg h0, if_neg hc]
    generalize hA : s.used = at_ at *
    generalize hL : s.code.length = N at *
    generalize hM : s.mix = mx at *
    have HA : Hid (s.used = at_) := hA
    clear hA hL hM h hrow
    have hcase : (¬ (at_ : Int) < (N : Int)) ∨ ((at_ : Int) < (N : Int) ∧ ¬ (n : Int) ≤ 256) := by omega
    clear hc
    rcases hcase with h1 | ⟨h1, h2⟩
    · have h1n : N ≤ at_ := by omega
      have h1m : ¬ at_ < N := by omega
      have h1e : (N : Int) ≤ (at_ : Int) := by omega
      go_enter Tryz.func24, Tryz.ntmps24
      go_wp2
      go_quiet (fail)
      go_wp2
      go_ret
      rw [HN.out]
      refine ⟨ret_int (by rw [Int.natCast_emod, show ((mx : Int) * 1103 + 12347) % 1000003 / 3 = (((mx * 1103 + 12347) % 1000003 / 3 : Nat) : Int) by omega]), ?_, Tch.set k 2 W _ _⟩
      have e : ((mx : Int) * 1103 + 12347) % 1000003 = (((mx * 1103 + 12347) % 1000003 : Nat) : Int) := by omega
      rw [e, ← HA.out]
      exact HS.out.put2 (Nat.mod_lt _ (by omega))
    · have h1n : at_ < N := by omega
      have h2n : 256 < n := by omega
      have h2m : ¬ n ≤ 256 := by omega
      go_enter Tryz.func24, Tryz.ntmps24
      go_wp2
      go_quiet (fail)
      go_wp2
      go_ret
      rw [HN.out]
      refine ⟨ret_int (by rw [Int.natCast_emod, show ((mx : Int) * 1103 + 12347) % 1000003 / 3 = (((mx * 1103 + 12347) % 1000003 / 3 : Nat) : Int) by omega]), ?_, Tch.set k 2 W _ _⟩
      have e : ((mx : Int) * 1103 + 12347) % 1000003 = (((mx * 1103 + 12347) % 1000003 : Nat) : Int) := by omega
      rw [e, ← HA.out]
      exact HS.out.put2 (Nat.mod_lt _ (by omega))


theorem step_append {P : Program} {ops : Array Oper} {o : Oper} {a : Act} {w : World} {K : Act → World → Prop} {Q : Exit → Act → World → Prop} {E : Prop}
    (hg : o.guard = none) (s x : Operand) (t : TypeId) (hop : o.op = Op.call { callee := Callee.builtin Builtin.append, args := #[s, x], argTypes := #[t, t] })
    (base : Nat) (e : TypeId) (i : TypeInfo) (z : Value) (size bytes : Nat) (h1 : P.underlying t = some (.slice e)) (h2 : P.info? e = some i) (h3 : i.zero = some z) (h4 : i.size = size) (h5 : i.bytes = bytes) (h6 : z.cells.size = size) (h7 : 0 < size)
    (v : Value) (n : Nat) (xs : List Value) (hs : a.eval s = v) (hown : w.ownsRow base e size v n xs) (ad : Addr) (m c : Nat) (news : List Value) (hx : a.eval x = .slice (some ad) m c) (hn : news.length = m * size)
    (hc : ∀ j u, news[j]? = some u → w.cell? (ad.add j) = some u) (h1c : ∀ u ∈ news, u.oneCell' = true) (b1 : n + m ≤ maxLen) (b2 : (n + m) * bytes ≤ 140737488355328) (hb : base ≤ w.heap.size)
    (hK : ∀ v' w', w'.ownsRow base e size v' (n + m) (xs ++ news) → w.grownBy w' v.ownBlock → K (a.put o.dst v') w') :
    if Region.wanted o (yielded ops a.tmps) = true then Oper.wp P o a w K Q else E := by
  have hw : Region.wanted o (yielded ops a.tmps) = true := by simp [Region.wanted, hg]
  rw [if_pos hw]
  obtain ⟨v', w', hrun, r1, r2, _⟩ := run_append_own (P := P) w base t o.type e i z size bytes h1 h2 h3 h4 h5 h6 h7 v n xs hown ad m c news hn hc h1c b1 b2 hb
  unfold Oper.wp
  simp [execOp, hop, resolve, invoke, builtin, hs, hx, hrun, Result.andThen]
  exact hK v' w' r1 r2


theorem Tch_grown (w : World) (k i : Nat) (v : Value) : w.grownBy (w.setCell ⟨k, i, none⟩ v) (some k) := grownBy_set w w k i v (World.grownBy.refl _ _)

theorem rowX3 {w : World} {lo n : Nat} {e : TypeId} {v : Value} {us : List Value} (h : w.ownsRow lo e 1 v n us) : ∃ a c, v = .slice a n c ∧ n ≤ c ∧ c ≤ maxLen := by
  rcases h.2 with ⟨rfl, rfl⟩ | ⟨g, cap, cur, rfl, -, -, h1, h2, -⟩
  · exact ⟨none, 0, rfl, Nat.le_refl _, Nat.zero_le _⟩
  · exact ⟨_, _, rfl, h1, h2⟩

theorem rowXs {w : World} {lo n : Nat} {e : TypeId} {v : Value} {us : List Value} (h : w.ownsRow lo e 1 v n us) (h0 : 0 < n) : ∃ g c, v = .slice (some ⟨g, 0, none⟩) n c := by
  rcases h.2 with ⟨rfl, h1⟩ | ⟨g, cap, cur, rfl, -⟩
  · omega
  · exact ⟨g, cap, rfl⟩
theorem rowXc {w : World} {lo i g c j x : Nat} {v : Value} {ys : List Int} (h : w.ownsRow lo 5 1 v ys.length (ys.map (Value.int .u8))) (hv : v = .slice (some ⟨g, 0, none⟩) i c) (hl : ys.length = i) (hj : j < i) (hx : ys.getD j 0 = (x : Int)) : w.cell? ⟨g, j, none⟩ = some (.int .u8 (x : Int)) := by
  subst hv
  rw [hl] at h
  rw [World.ownsRow.cellAt h j (by omega), ← hx]
  simp [List.getD, hl, hj]

/-- The source's box while it is made. -/
def SBX (w wr : World) (v : Value) (xs : List Int) (mx : Int) : Prop :=
  w.heap.size < wr.heap.size ∧ (∀ j, wr.frozen? ⟨w.heap.size, j, none⟩ = false) ∧ wr.cell? ⟨w.heap.size, 0, none⟩ = some v ∧ wr.cell? ⟨w.heap.size, 1, none⟩ = some (.int .i64 0) ∧ wr.cell? ⟨w.heap.size, 2, none⟩ = some (.int .i64 mx) ∧ wr.cell? ⟨w.heap.size, 3, none⟩ = some (.int .i64 0) ∧
    wr.ownsRow (w.heap.size + 1) 5 1 v xs.length (xs.map (Value.int .u8)) ∧ Below w.heap.size w wr

theorem SBX.push {w wr w3 : World} {v v3 : Value} {ys : List Int} {x : Int} {mx : Int} (h : SBX w wr v ys mx) (hb : Below (w.heap.size + 1) wr w3) (ho : w3.ownsRow (w.heap.size + 1) 5 1 v3 (ys.length + 1) (ys.map (Value.int .u8) ++ [.int .u8 x])) : SBX w (w3.setCell ⟨w.heap.size, 0, none⟩ v3) v3 (ys ++ [x]) mx := by
  obtain ⟨sz, fr, c0, c1, c2, c3, ow, bl⟩ := h
  have e : ∀ i, i ≠ 0 → (w3.setCell ⟨w.heap.size, 0, none⟩ v3).cell? ⟨w.heap.size, i, none⟩ = wr.cell? ⟨w.heap.size, i, none⟩ := fun i hi => by
    rw [World.cell?_setCell_other _ _ _ _ (by intro e; injection e with _ e; omega)]
    exact hb.cell (p := ⟨w.heap.size, i, none⟩) (Nat.lt_succ_self _)
  have k0 : w3.cell? ⟨w.heap.size, 0, none⟩ = some v := (hb.cell (p := ⟨w.heap.size, 0, none⟩) (Nat.lt_succ_self _)).trans c0
  refine ⟨by have := hb.size; simp; omega, fun j => ?_, World.cell?_setCell_same _ _ _ k0, (e 1 (by omega)).trans c1, (e 2 (by omega)).trans c2, (e 3 (by omega)).trans c3, ?_, (bl.trans (hb.mono (by omega))).setCell (Nat.le_refl _) _⟩
  · rw [World.frozen?_setCell]; exact (hb.frozen (p := ⟨w.heap.size, j, none⟩) (Nat.lt_succ_self _)).trans (fr j)
  · rw [List.length_append, List.map_append]
    refine World.ownsRow.kept ho (row := some w.heap.size) (Tch_grown _ _ _ _) ?_
    cases hv : v3.ownBlock with
    | none => exact .inl rfl
    | some g => exact .inr (fun e => by have := (World.ownsRow.lt ho g hv).1; injection e with e; omega)

theorem SBX.mix {w wr : World} {v : Value} {ys : List Int} {mx : Int} (h : SBX w wr v ys mx) (q : Nat) (mx' : Int) : SBX w ((wr.drewN q).setCell ⟨w.heap.size, 2, none⟩ (.int .i64 mx')) v ys mx' := by
  obtain ⟨sz, fr, c0, c1, c2, c3, ow, bl⟩ := h
  have e : ∀ i, i ≠ 2 → ((wr.drewN q).setCell ⟨w.heap.size, 2, none⟩ (.int .i64 mx')).cell? ⟨w.heap.size, i, none⟩ = wr.cell? ⟨w.heap.size, i, none⟩ := fun i hi => World.cell?_setCell_other _ _ _ _ (by intro e; injection e with _ e; omega)
  refine ⟨by show _ < (World.setCell _ _ _).heap.size; simpa using sz, fun j => ?_, (e 0 (by omega)).trans c0, (e 1 (by omega)).trans c1, World.cell?_setCell_same _ _ _ c2, (e 3 (by omega)).trans c3, ?_, (bl.trans ((below_drewN' wr q).mono (by omega))).setCell (Nat.le_refl _) _⟩
  · rw [World.frozen?_setCell]; exact fr j
  · refine World.ownsRow.kept (w := wr.drewN q) ow (row := some w.heap.size) (Tch_grown _ _ _ _) ?_
    cases hv : v.ownBlock with
    | none => exact .inl rfl
    | some g => exact .inr (fun e => by have := (World.ownsRow.lt ow g hv).1; injection e with e; omega)

theorem SBX.drew {w wr : World} {v : Value} {ys : List Int} {mx : Int} (h : SBX w wr v ys mx) : SBX w wr.drew v ys mx := ⟨h.1, h.2.1, h.2.2.1, h.2.2.2.1, h.2.2.2.2.1, h.2.2.2.2.2.1, h.2.2.2.2.2.2.1, h.2.2.2.2.2.2.2.drew⟩

/-- The mixed number behind some bytes. -/
def mixR (m : Nat) (ys : List Int) : Nat := ys.foldl (fun m x => (m * 257 + x.toNat + 1) % 1000003) m
theorem mixR_succ (m : Nat) (ys : List Int) (j x : Nat) (h : j < ys.length) (hx : ys.getD j 0 = (x : Int)) : mixR m (ys.take (j + 1)) = (mixR m (ys.take j) * 257 + x + 1) % 1000003 := by
  unfold mixR
  rw [List.take_succ_eq_append_getElem h, List.foldl_append]
  simp only [List.getD, List.getElem?_eq_getElem h, Option.getD_some] at hx
  simp [hx]
/-- The source of some bytes. -/
def srcOf (xs : List Int) : Sr := ⟨xs.take 4000, 0, mixR (xs.length % 1000 + 53) (xs.take 4000), min 7 (1 + (xs.take 4000).length / 50)⟩
theorem SBX.src {w wr : World} {v : Value} {ys : List Int} {m z : Nat} (h : SBX w wr v ys (m : Int)) (h1 : m < 1000003) (hl : ys.length ≤ 4000) (hby : Byt ys) (hz : 1 ≤ z ∧ z ≤ 7) : ∀ w2, (w2 = wr.setCell ⟨w.heap.size, 3, none⟩ (.int .i64 (z : Int)) ∨ ∃ u, w2 = (wr.setCell ⟨w.heap.size, 3, none⟩ u).setCell ⟨w.heap.size, 3, none⟩ (.int .i64 (z : Int))) → SRX w2 w.heap.size wr.heap.size ⟨ys, 0, m, z⟩ ∧ Below w.heap.size w w2 := by
  obtain ⟨sz, fr, c0, c1, c2, c3, ow, bl⟩ := h
  intro w2 hw2
  have e : ∀ (p : Addr), p ≠ ⟨w.heap.size, 3, none⟩ → w2.cell? p = wr.cell? p := by
    intro p hp
    rcases hw2 with rfl | ⟨u, rfl⟩
    · exact World.cell?_setCell_other _ _ _ _ (fun h => hp (by first | exact h | exact h.symm))
    · rw [World.cell?_setCell_other _ _ _ _ (fun h => hp (by first | exact h | exact h.symm))]
      exact World.cell?_setCell_other _ _ _ _ (fun h => hp (by first | exact h | exact h.symm))
  have e3 : w2.cell? ⟨w.heap.size, 3, none⟩ = some (.int .i64 (z : Int)) := by
    rcases hw2 with rfl | ⟨u, rfl⟩
    · exact World.cell?_setCell_same _ _ _ c3
    · exact World.cell?_setCell_same _ _ _ (World.cell?_setCell_same _ _ _ c3)
  have ef : ∀ j, w2.frozen? ⟨w.heap.size, j, none⟩ = false := by
    intro j
    rcases hw2 with rfl | ⟨u, rfl⟩
    · rw [World.frozen?_setCell]; exact fr j
    · rw [World.frozen?_setCell, World.frozen?_setCell]; exact fr j
  have es : w2.heap.size = wr.heap.size := by
    rcases hw2 with rfl | ⟨u, rfl⟩ <;> simp
  have eb : Below w.heap.size w w2 := by
    rcases hw2 with rfl | ⟨u, rfl⟩
    · exact bl.setCell (Nat.le_refl _) _
    · exact (bl.setCell (Nat.le_refl _) _).setCell (Nat.le_refl _) _
  obtain ⟨va, vc, hv, -, -⟩ := rowX3 ow
  refine ⟨⟨sz, by rw [es]; exact Nat.le_refl _, ef, ⟨va, vc, by rw [e _ (by simp), c0, hv], ?_⟩, (e _ (by simp)).trans c1, (e _ (by simp)).trans c2, e3, h1, hl, Nat.zero_le _, hby, hz⟩, eb⟩
  by_cases hz : ys = []
  · exact .inl hz
  · have hp : 0 < ys.length := List.length_pos_iff.2 hz
    obtain ⟨g, c, hv2⟩ := rowXs ow hp
    have hva : va = some ⟨g, 0, none⟩ := by rw [hv] at hv2; simp only [Value.slice.injEq] at hv2; exact hv2.1
    have hg : w.heap.size + 1 ≤ g := (World.ownsRow.lt ow g (by rw [hv2]; rfl)).1
    refine .inr ⟨g, hva, by omega, (World.ownsRow.lt ow g (by rw [hv2]; rfl)).2, fun i hi => ?_⟩
    obtain ⟨x, hx, hxe⟩ := byt_at hby i
    show w2.cell? _ = some (.int .u8 (ys.getD i 0))
    rw [hxe]
    exact (e _ (by intro h; injection h with h; omega)).trans (rowXc ow hv2 rfl hi hxe)

theorem mixX_ok (mx x : Nat) (h1 : mx < 1000003) (hx : x < 256) : (IntKind.i64.wrap (IntKind.i64.wrap (IntKind.i64.wrap ((mx : Int) * 257) + IntKind.i64.wrap (x : Int)) + 1)).tmod 1000003 = (((mx * 257 + x + 1) % 1000003 : Nat) : Int) := by
  have e1 : IntKind.i64.wrap ((mx : Int) * 257) = (mx : Int) * 257 := by rw [IntKind.wrap_i64]; omega
  have e2 : IntKind.i64.wrap (x : Int) = (x : Int) := by rw [IntKind.wrap_i64]; omega
  have e3 : IntKind.i64.wrap ((mx : Int) * 257 + (x : Int)) = (mx : Int) * 257 + (x : Int) := by rw [IntKind.wrap_i64]; omega
  have e4 : IntKind.i64.wrap ((mx : Int) * 257 + (x : Int) + 1) = (mx : Int) * 257 + (x : Int) + 1 := by rw [IntKind.wrap_i64]; omega
  rw [e1, e2, e3, e4, Int.tmod_eq_emod_of_nonneg (by omega)]
  omega

set_option maxHeartbeats 4000000 in
set_option maxRecDepth 100000 in
theorem sourceX_row (w : World) (b o n cap : Nat) (xs : List Int) (hx : xs.length = n) (hb : b < w.heap.size) (hc : ∀ i, i < n → w.cell? ⟨b, o + i, none⟩ = some (.int .u8 (xs.getD i 0))) (hby : Byt xs) (hn : n ≤ 1048576) :
    Calls Tryz.prog 21 #[.slice (some ⟨b, o, none⟩) n cap] w fun e w' => ∃ k, e = .returned (.pointer (some ⟨k, 0, none⟩)) ∧ w.heap.size ≤ k ∧ SRX w' k w'.heap.size (srcOf xs) ∧ Below w.heap.size w w' := by
  obtain ⟨i0, hi, hz0, hz1, hz2⟩ := info_parts Tryz.infoB
  have HC : Hid (∀ i, i < n → w.cell? ⟨b, o + i, none⟩ = some (.int .u8 (xs.getD i 0))) := hc
  have HX : Hid (xs.length = n) := hx
  have HBY : Hid (Byt xs) := hby
  clear hc hx hby
  go_enter Tryz.func21, Tryz.ntmps21
  go_wp2
  go_loopw [4] (fun vi wr => ∃ (i : Nat) (v : Value), i ≤ n ∧ i ≤ 4000 ∧ vi = .int .i64 i ∧ Hid (SBX w wr v (xs.take i) 0)) (fun i _ => n - (intOf i).toNat)
  case atStart =>
    refine ⟨0, .slice none 0 0, Nat.zero_le _, Nat.zero_le _, rfl, ?_⟩
    refine ⟨by simp, fun j => (by go_simp), (by go_simp), (by go_simp), (by go_simp), (by go_simp), ?_, (Below.refl _ _).alloc (Nat.le_refl _) _⟩
    rw [List.take_zero]; exact World.ownsRow_nil _ _ _ _
  case round =>
    obtain ⟨i, v, hi1, hi2, rfl, HSB⟩ := hrel
    by_cases hlt : i < n ∧ i < 4000
    · obtain ⟨hl1, hl2⟩ := hlt
      have hI1 : (i : Int) < (n : Int) := by omega
      have hI2 : (i : Int) < 4000 := by omega
      obtain ⟨sz, fr, c0, c1, c2, c3, ow, bl⟩ := HSB.out
      have f0 := fr 0
      obtain ⟨va, vc, rfl, -, -⟩ := rowX3 ow
      have hl : (xs.take i).length = i := by rw [List.length_take, HX.out]; omega
      rw [hl] at c0 ow
      obtain ⟨x, hx8, hxe⟩ := byt_at HBY.out i
      have cx : wr.cell? ⟨b, o + i, none⟩ = some (.int .u8 (x : Int)) := by rw [bl.cell (p := ⟨b, o + i, none⟩) hb, HC.out i hl1, hxe]
      have HOW : Hid (wr.ownsRow (w.heap.size + 1) 5 1 (.slice va i vc) i ((xs.take i).map (Value.int .u8))) := ow
      have HBL : Hid (Below w.heap.size w wr) := bl
      have hsz1 : w.heap.size + 1 ≤ wr.heap.size := sz
      have HXT : Hid (xs.take (i + 1) = xs.take i ++ [(x : Int)]) := by
        have hl' : i < xs.length := by rw [HX.out]; exact hl1
        have he := hxe
        simp only [List.getD, List.getElem?_eq_getElem hl', Option.getD_some] at he
        show _ = _
        rw [List.take_succ_eq_append_getElem hl', he]
      have HLEN : Hid ((xs.take i).length = i) := hl
      have HSB0 : Hid (SBX w wr (.slice va i vc) (xs.take i) 0) := by have h := HSB.out; rw [hl] at h; exact h
      clear fr ow bl hl hxe HSB
      generalize hL : (xs.take i).map (Value.int .u8) = L at *
      have HL : Hid ((xs.take i).map (Value.int .u8) = L) := hL
      clear hL
      go_wp2
      go_region_law (first | (refine step_append rfl (.tmp 18) (.tmp 23) 22 rfl (w.heap.size + 1) 5 i0 (.int .u8 0) 1 1 Tryz.underlying22 hi hz0 hz1 hz2 rfl (by decide) (.slice va i vc) i L rfl (HOW.out.alloc _) ⟨wr.heap.size, 0, none⟩ 1 1 [.int .u8 (x : Int)] rfl rfl (cell_one_new _ _ _) (by intro u hu; simp at hu; subst hu; rfl) (by unfold maxLen; omega) (by omega) (by simp; omega) ?_; intro v3 w3 ho3 hg3; have b3 : Hid (Below (w.heap.size + 1) wr w3) := Below.grown (by first | exact ((Below.refl _ _).alloc hsz1 _).drew | exact ((Below.refl _ _).drew).alloc hsz1 _) hg3 (by simp; omega) (fun q hq => (World.ownsRow.lt HOW.out q hq).1); have k0 : w3.cell? ⟨w.heap.size, 0, none⟩ = some (.slice va i vc) := (b3.out.cell (p := ⟨w.heap.size, 0, none⟩) (Nat.lt_succ_self _)).trans c0; have k1 : w3.frozen? ⟨w.heap.size, 0, none⟩ = false := (b3.out.frozen (p := ⟨w.heap.size, 0, none⟩) (Nat.lt_succ_self _)).trans f0; obtain ⟨a3, c3', hv3, -, -⟩ := rowX3 ho3; subst hv3; have HO3 : Hid (w3.ownsRow (w.heap.size + 1) 5 1 (.slice a3 (i + 1) c3') (i + 1) (L ++ [.int .u8 (x : Int)])) := ho3; clear ho3 hg3))
      all_goals
        have HSB2 : Hid (SBX w (w3.setCell ⟨w.heap.size, 0, none⟩ (.slice a3 (i + 1) c3')) (.slice a3 (i + 1) c3') (xs.take (i + 1)) 0) := by
          have hp := HSB0.out.push (x := (x : Int)) b3.out (by rw [HLEN.out, HL.out]; exact HO3.out)
          rw [← HXT.out] at hp
          exact hp
        clear k0 k1 HO3 b3
        generalize w3.setCell ⟨w.heap.size, 0, none⟩ (.slice a3 (i + 1) c3') = w4 at *
        go_wp2
        exact ⟨⟨i + 1, _, by omega, by omega, by go_num, HSB2⟩, by simp [intOf]; omega⟩
    · have hex : (¬ (i : Int) < (n : Int)) ∨ ((i : Int) < (n : Int) ∧ ¬ (i : Int) < 4000) := by omega
      clear hlt
      obtain ⟨ys, hys⟩ : ∃ ys, ys = xs.take i := ⟨_, rfl⟩
      have HSO : Hid (srcOf xs = ⟨ys, 0, mixR (n % 1000 + 53) ys, min 7 (1 + i / 50)⟩) := by
        have ht : xs.take 4000 = ys := by
          rw [hys]
          by_cases h4 : i < 4000
          · have hin : i = n := by omega
            rw [List.take_of_length_le (by rw [HX.out]; omega), List.take_of_length_le (by rw [HX.out]; omega)]
          · rw [show i = 4000 by omega]
        show _ = _
        unfold srcOf
        rw [ht, HX.out]
        congr 3
        rw [hys, List.length_take, HX.out]
        congr 1
        omega
      rw [← hys] at HSB
      have hyl : ys.length = i := by rw [hys, List.length_take, HX.out]; omega
      have HYB : Hid (Byt ys) := by rw [hys]; exact fun y hy => HBY.out y (List.mem_of_mem_take hy)
      have HYL : Hid (ys.length = i) := hyl
      clear hys hyl
      obtain ⟨sz, fr, c0, c1, c2, c3, ow, bl⟩ := HSB.out
      have f2 := fr 2
      clear fr ow bl
      rcases hex with h1 | ⟨h1, h2⟩
      all_goals
        go_wp2
        have HS1 : Hid (SBX w (wr.setCell ⟨w.heap.size, 2, none⟩ (.int .i64 ((n : Int) % 1000 + 53))) v ys ((n : Int) % 1000 + 53)) := HSB.out.mix 0 _
        have hmx : n % 1000 + 53 < 1000003 := by omega
        have hme : (n : Int) % 1000 + 53 = ((n % 1000 + 53 : Nat) : Int) := by omega
        rw [hme] at HS1
        rw [hme]
        clear hme
        generalize n % 1000 + 53 = m0 at *
        clear c0 c1 c2 c3 f2 HSB sz
        generalize wr.setCell ⟨w.heap.size, 2, none⟩ (.int .i64 (m0 : Int)) = w5 at *
        go_loopw [5] (fun vi wr => ∃ (j mx : Nat), j ≤ i ∧ vi = .int .i64 j ∧ Hid (mx = mixR m0 (ys.take j)) ∧ mx < 1000003 ∧ Hid (SBX w wr v ys (mx : Int))) (fun x _ => i - (intOf x).toNat)
        case atStart => exact ⟨0, m0, Nat.zero_le _, rfl, rfl, hmx, HS1⟩
        case round =>
          clear HS1 hmx
          obtain ⟨j, mx, hj, rfl, HM, hm1, HSJ⟩ := hrel
          obtain ⟨sz, fr, c0, c1, c2, c3, ow, bl⟩ := HSJ.out
          have f2 := fr 2
          have f3 := fr 3
          by_cases hji : j < i
          · have hjI : (j : Int) < (i : Int) := by omega
            obtain ⟨g, vc, hva⟩ := rowXs ow (by rw [HYL.out]; omega)
            rw [HYL.out] at hva
            obtain ⟨x, hx8, hxe⟩ := byt_at HYB.out j
            have cx : wr.cell? ⟨g, j, none⟩ = some (.int .u8 (x : Int)) := rowXc ow hva HYL.out hji hxe
            rw [hva] at c0
            have HM2 : Hid ((mx * 257 + x + 1) % 1000003 = mixR m0 (ys.take (j + 1))) := by
              show _ = _
              rw [mixR_succ m0 ys j x (by rw [HYL.out]; exact hji) hxe, HM.out]
            clear ow bl hxe hva fr HM
            go_wp2
            go_region_law (fail)
            all_goals
              rw [mixX_ok mx x hm1 hx8]
              have hmk : (mx * 257 + x + 1) % 1000003 < 1000003 := Nat.mod_lt _ (by omega)
              generalize (mx * 257 + x + 1) % 1000003 = m2 at *
              have HS2 : Hid (SBX w ((wr.setCell ⟨w.heap.size, 2, none⟩ (.int .i64 (m2 : Int))).drew) v ys (m2 : Int)) := (HSJ.out.mix 0 (m2 : Int)).drew
              generalize (wr.setCell ⟨w.heap.size, 2, none⟩ (.int .i64 (m2 : Int))).drew = w6 at *
              clear c0 c1 c2 c3 cx f2 f3 HSJ
              go_wp2
              exact ⟨⟨j + 1, m2, by omega, by go_num, HM2, hmk, HS2⟩, by simp [intOf]; omega⟩
          · have hjI : ¬ (j : Int) < (i : Int) := by omega
            have hji2 : j = i := by omega
            obtain ⟨va, vc, hva, -, -⟩ := rowX3 ow
            rw [HYL.out] at hva
            rw [hva] at c0
            have HMY : Hid (mx = mixR m0 ys) := by
              have := HM.out
              rw [hji2, ← HYL.out, List.take_length] at this
              exact this
            have HSR := HSJ.out.src hm1 (by rw [HYL.out]; omega) HYB.out (z := min 7 (1 + i / 50)) (by omega)
            have HSS : Hid (∀ w2, (w2 = wr.setCell ⟨w.heap.size, 3, none⟩ (.int .i64 (min 7 (1 + i / 50) : Nat)) ∨ ∃ u, w2 = (wr.setCell ⟨w.heap.size, 3, none⟩ u).setCell ⟨w.heap.size, 3, none⟩ (.int .i64 (min 7 (1 + i / 50) : Nat))) → SRX w2 w.heap.size wr.heap.size (srcOf xs) ∧ Below w.heap.size w w2) := by
              intro w2 hw2
              have := HSR w2 hw2
              rw [HSO.out, ← HMY.out]
              exact this
            clear bl HSR ow HM HMY HSO
            by_cases h7 : 7 < 1 + i / 50
            · have h7I : (7 : Int) < 1 + (i : Int) / 50 := by omega
              have e7 : min 7 (1 + i / 50) = 7 := by omega
              rw [e7] at HSS
              go_wp2
              go_ret
              refine ⟨_, rfl, Nat.le_refl _, SRX.mono (HSS.out _ (.inr ⟨_, rfl⟩)).1 (by simp) (by simp), (HSS.out _ (.inr ⟨_, rfl⟩)).2⟩
            · first
                | (exfalso; omega)
                | (have h7I : ¬ (7 : Int) < 1 + (i : Int) / 50 := by omega
                   have e7 : ((min 7 (1 + i / 50) : Nat) : Int) = 1 + (i : Int) / 50 := by omega
                   rw [e7] at HSS
                   clear e7
                   go_wp2
                   go_ret
                   refine ⟨_, rfl, Nat.le_refl _, SRX.mono (HSS.out _ (.inl rfl)).1 (by simp) (by simp), (HSS.out _ (.inl rfl)).2⟩)

set_option maxHeartbeats 400000 in
set_option maxRecDepth 100000 in
theorem sourceX_nil (w : World) (ao : Option Addr) (cap : Nat) :
    Calls Tryz.prog 21 #[.slice ao 0 cap] w fun e w' => ∃ k, e = .returned (.pointer (some ⟨k, 0, none⟩)) ∧ w.heap.size ≤ k ∧ SRX w' k w'.heap.size (srcOf []) ∧ Below w.heap.size w w' := by
  go_enter Tryz.func21, Tryz.ntmps21
  go_wp2
  go_rounds 1
  go_rounds 1
  go_ret
  refine ⟨_, rfl, Nat.le_refl _, ⟨by simp, by simp, fun j => (by go_simp), ⟨none, 0, (by go_simp; rfl), .inl rfl⟩, (by go_simp; rfl), (by go_simp; rfl), (by go_simp; rfl), by decide, by decide, by decide, fun x hx => by simp [srcOf] at hx, by decide⟩, ?_⟩
  repeat (first | exact Below.refl _ _ | refine Below.setCell ?_ (by simp) _ | refine Below.alloc ?_ (by simp) _)

theorem sourceX_any (w : World) (v : Value) (xs : List Int) (h : Rd .u8 w v xs) (hby : Byt xs) (hn : xs.length ≤ 1048576) :
    Calls Tryz.prog 21 #[v] w fun e w' => ∃ k, e = .returned (.pointer (some ⟨k, 0, none⟩)) ∧ w.heap.size ≤ k ∧ SRX w' k w'.heap.size (srcOf xs) ∧ Below w.heap.size w w' := by
  obtain ⟨ao, cap, rfl, h1, h2, h3⟩ := h
  rcases h3 with rfl | ⟨b, o, rfl, hb, hc⟩
  · exact sourceX_nil w ao cap
  · exact sourceX_row w b o xs.length cap xs rfl hb hc hby hn


theorem rowTch {w w' : World} {lo k m n : Nat} {e : TypeId} {v : Value} {us : List Value} (h : w.ownsRow lo e m v n us) (t : Tch k w w') (hk : k < lo) : w'.ownsRow lo e m v n us := by
  refine ⟨h.1, ?_⟩
  rcases h.2 with hn | ⟨g, cap, cur, rfl, hbg, hgg, rest⟩
  · exact .inl hn
  · exact .inr ⟨g, cap, cur, rfl, hbg, (t.2 g (by omega) (Array.getElem?_eq_some_iff.1 hgg).1).trans hgg, rest⟩

/-- Drawn bytes. -/
def Sr.bytes (s : Sr) : Nat → List Int × Sr
  | 0 => ([], s)
  | n + 1 => ((s.bytes n).1 ++ [(((s.bytes n).2.next 256).1 : Int)], ((s.bytes n).2.next 256).2)
theorem Sr.bytes_len (s : Sr) : ∀ n, (s.bytes n).1.length = n
  | 0 => rfl
  | n + 1 => by show ((s.bytes n).1 ++ [_]).length = _; rw [List.length_append, s.bytes_len n]; rfl
set_option maxHeartbeats 1000000 in
set_option maxRecDepth 100000 in
theorem bytes_x (W : World) (k B n : Nat) (s : Sr) (h : SRX W k B s) (hn : n ≤ 1000) :
    Calls Tryz.prog 25 #[.pointer (some ⟨k, 0, none⟩), .int .i64 (n : Int)] W fun e w' => ∃ v', e = .returned v' ∧ Own .u8 5 w' W.heap.size v' (s.bytes n).1 ∧ SRX w' k B (s.bytes n).2 ∧ Tch k W w' := by
  obtain ⟨i0, hi, hz0, hz1, hz2⟩ := info_parts Tryz.infoB
  have HS : Hid (SRX W k B s) := h
  have HLEN : Hid (∀ n, (s.bytes n).1.length = n) := s.bytes_len
  have hk1 := h.kB
  have hk2 := h.lt
  clear h
  go_enter Tryz.func25, Tryz.ntmps25
  go_wp2
  go_loopw [5, 6] (fun v i wr => ∃ (j : Nat) (u : Value), j ≤ n ∧ u = v ∧ i = .int .i64 j ∧ Hid (wr.ownsRow W.heap.size 5 1 u j ((s.bytes j).1.map (Value.int .u8))) ∧ Hid (SRX wr k B (s.bytes j).2) ∧ Hid (Tch k W wr)) (fun _ i _ => n - (intOf i).toNat)
  case atStart =>
    have bA : Below W.heap.size W (W.alloc (.cells #[] 5)) := (Below.refl _ _).alloc (Nat.le_refl _) _
    exact ⟨0, _, Nat.zero_le _, rfl, rfl, World.ownsRow_lit W #[] 0 (Nat.le_refl _) (Nat.zero_le _) rfl, HS.out.keep (bA.mono hk2), Tch.of bA⟩
  case round =>
    obtain ⟨j, u, hj, rfl, rfl, HO, HR, HT⟩ := hrel
    by_cases hlt : j < n
    · have hltI : (j : Int) < (n : Int) := by omega
      have HNX : Hid ((s.bytes (j + 1)) = ((s.bytes j).1 ++ [(((s.bytes j).2.next 256).1 : Int)], ((s.bytes j).2.next 256).2)) := rfl
      have HNL : Hid ((s.bytes j).1.length = j) := HLEN.out j
      generalize s.bytes j = q at *
      go_wp2_with fail
      refine (next_x _ k B 256 q.2 HR.out (by omega)).mono ?_
      rintro e w1 ⟨rfl, s1, t1⟩
      have hn1 := q.2.next_lt 256 (by omega)
      generalize (q.2.next 256).2 = r1 at *
      generalize (q.2.next 256).1 = n1 at *
      have S1 : Hid (SRX w1 k B r1) := s1
      have T1 : Hid (Tch k W w1) := HT.out.trans t1
      have O1 : Hid (w1.ownsRow W.heap.size 5 1 u j (q.1.map (Value.int .u8))) := rowTch HO.out t1 (by omega)
      have zz := T1.out.size
      clear s1 t1 HR HT HO
      go_wp2_with (at_builtin; go_must (refine wpList_append_own _ rfl _ _ 22 rfl W.heap.size 5 i0 (.int .u8 0) 1 1 Tryz.underlying22 hi hz0 hz1 hz2 rfl (by decide) _ _ _ rfl (O1.out.alloc _) ⟨w1.heap.size, 0, none⟩ 1 1 [.int .u8 (n1 : Int)] rfl rfl (cell_one_new _ _ _) (by intro u hu; simp at hu; subst hu; rfl) ?c3 ?c4 ?c5 ?_))
      case c3 => unfold maxLen; omega
      case c4 => omega
      case c5 => simp; omega
      intro v2 w2 ho2 hg2 _
      have bg : Below W.heap.size w1 w2 := ((Below.refl _ w1).alloc zz _).grown hg2 (by simp; omega) (fun q hq => (O1.out.lt q hq).1)
      have HO2 : Hid (w2.ownsRow W.heap.size 5 1 v2 (j + 1) ((s.bytes (j + 1)).1.map (Value.int .u8))) := by
        show World.ownsRow _ _ _ _ _ _ _; rw [HNX.out, List.map_append]; exact ho2
      have HR2 : Hid (SRX w2 k B (s.bytes (j + 1)).2) := by
        show SRX _ _ _ _; rw [HNX.out]; exact S1.out.keep (bg.mono hk2)
      have HT2 : Hid (Tch k W w2) := T1.out.then bg
      clear ho2 hg2 bg O1 S1 T1
      go_wp2
      exact ⟨⟨j + 1, _, by omega, rfl, by go_num, HO2, HR2, HT2⟩, by simp [intOf]; omega⟩
    · have hjn : j = n := by omega
      subst hjn
      go_wp2
      go_ret
      exact ⟨_, rfl, by unfold Own; rw [HLEN.out]; exact HO.out, HR.out, HT.out⟩


theorem ret_b {a b : Bool} (h : a = b) : Ending.returned (.bool a) = .returned (.bool b) := by rw [h]

/-- A letter or a digit. -/
def okB (x : Nat) : Bool := (decide (97 ≤ x) && decide (x ≤ 122)) || (decide (48 ≤ x) && decide (x ≤ 57))
/-- A name. -/
def bN (s : ByteArray) (j : Nat) : Nat := (s.data.toList.getD j 0).toNat
def okN (s : ByteArray) : Bool := decide (1 ≤ s.size) && decide (s.size ≤ 16) && (List.range s.size).all (fun j => okB (bN s j))

theorem bN_get (s : ByteArray) (j : Nat) (h : j < s.size) : bN s j = s[j].toNat := by
  have h' : j < s.data.toList.length := h
  unfold bN
  simp only [List.getD, List.getElem?_eq_getElem h', Option.getD_some]
  rfl
theorem okN_no {s : ByteArray} {j : Nat} (h : j < s.size) (hb : okB (bN s j) = false) : okN s = false := by
  unfold okN
  have : (List.range s.size).all (fun j => okB (bN s j)) = false := by
    rw [List.all_eq_false]
    exact ⟨j, List.mem_range.2 h, by rw [hb]; simp⟩
  rw [this, Bool.and_false]
theorem okN_yes {s : ByteArray} (h1 : 1 ≤ s.size) (h2 : s.size ≤ 16) (h : ∀ j, j < s.size → okB (bN s j) = true) : okN s = true := by
  unfold okN
  rw [decide_eq_true h1, decide_eq_true h2]
  simp only [Bool.true_and, List.all_eq_true, List.mem_range]
  exact h

set_option maxHeartbeats 400000 in
set_option maxRecDepth 100000 in
theorem letter_any (w : World) (x : Nat) (hx : x < 256) :
    Calls Tryz.prog 97 #[.int .u8 (x : Int)] w fun e w' => e = .returned (.bool (okB x)) ∧ w' = w := by
  go_enter Tryz.func97, Tryz.ntmps97
  go_wp2
  all_goals
    go_ret
    refine ⟨ret_b ?_, rfl⟩
    unfold okB
    rw [Bool.eq_iff_iff]
    simp only [Bool.and_eq_true, Bool.or_eq_true, decide_eq_true_eq, Bool.false_eq_true, false_iff, true_iff]
    omega


theorem Tryz.infoT : (Tryz.prog.info? 9).map (fun i => (i.zero, i.size, i.bytes)) = some (some (.string ByteArray.empty), 1, 16) := by kernel_rfl

/-- The pieces between slashes, with the piece under way. -/
def splA : List UInt8 → List UInt8 → List (List UInt8)
  | cur, [] => [cur]
  | cur, x :: l => if x = 47 then cur :: splA [] l else splA (cur ++ [x]) l
theorem splA_sl (cur l : List UInt8) : splA cur (47 :: l) = cur :: splA [] l := by simp [splA]
theorem splA_ch {x : UInt8} (h : ¬ x = 47) (cur l : List UInt8) : splA cur (x :: l) = splA (cur ++ [x]) l := by simp [splA, h]
def nm (s : ByteArray) : List (List UInt8) := splA [] (s.data.toList.drop 1)
def seg (s : ByteArray) (a b : Nat) : List UInt8 := (s.data.toList.drop a).take (b - a)
def sV (l : List UInt8) : Value := .string ⟨l.toArray⟩

theorem seg_self (s : ByteArray) (a : Nat) : seg s a a = [] := by unfold seg; simp
theorem seg_succ (s : ByteArray) (a i : Nat) (ha : a ≤ i) (hi : i < s.size) : seg s a (i + 1) = seg s a i ++ [s[i]] := by
  have hl : i < s.data.toList.length := hi
  unfold seg
  rw [show i + 1 - a = (i - a) + 1 by omega, List.take_succ_eq_append_getElem (by rw [List.length_drop]; omega)]
  congr 1
  rw [List.getElem_drop]
  simp only [show a + (i - a) = i by omega]
  rfl
theorem drop_cons (s : ByteArray) (i : Nat) (hi : i < s.size) : s.data.toList.drop i = s[i] :: s.data.toList.drop (i + 1) := by
  have hl : i < s.data.toList.length := hi
  rw [List.drop_eq_getElem_cons hl]; rfl
theorem extract_seg (s : ByteArray) (a b : Nat) : s.extract a b = ⟨(seg s a b).toArray⟩ := by
  apply ByteArray.ext
  rw [ByteArray.data_extract]
  apply Array.ext'
  unfold seg
  rw [Array.toList_extract, List.extract_eq_take_drop]

theorem row_slice {w : World} {lo n : Nat} {e : TypeId} {v : Value} {us : List Value} (h : w.ownsRow lo e 1 v n us) : ∃ a c, v = .slice a n c ∧ n ≤ c ∧ c ≤ maxLen := by
  rcases h.2 with ⟨rfl, rfl⟩ | ⟨g, cap, cur, rfl, -, -, h1, h2, -⟩
  · exact ⟨none, 0, rfl, Nat.le_refl _, Nat.zero_le _⟩
  · exact ⟨_, _, rfl, h1, h2⟩

set_option maxHeartbeats 1000000 in
set_option maxRecDepth 100000 in
theorem names_any (w : World) (s : ByteArray) (h1 : 1 ≤ s.size) (h2 : s.size ≤ 1048576) :
    Calls Tryz.prog 96 #[.string s] w fun e w' => ∃ v, e = .returned v ∧ w'.ownsRow w.heap.size 9 1 v (nm s).length ((nm s).map sV) ∧ Below w.heap.size w w' := by
  obtain ⟨i0, hi, hz0, hz1, hz2⟩ := info_parts Tryz.infoT
  go_enter Tryz.func96, Tryz.ntmps96
  go_wp2
  go_loopw [3, 4, 5] (fun vo vf vi wr => ∃ (i fr : Nat) (acc : List (List UInt8)), 1 ≤ fr ∧ i ≤ s.size + 1 ∧ vi = .int .i64 i ∧ vf = .int .i64 fr ∧ acc.length ≤ i ∧ ((i ≤ s.size ∧ fr ≤ i ∧ Hid (nm s = acc ++ splA (seg s fr i) (s.data.toList.drop i))) ∨ (i = s.size + 1 ∧ fr = s.size + 1 ∧ Hid (nm s = acc))) ∧ Hid (wr.ownsRow w.heap.size 9 1 vo acc.length (acc.map sV)) ∧ Hid (Below w.heap.size w wr)) (fun _ _ i _ => s.size + 1 - (intOf i).toNat)
  case atStart =>
    refine ⟨1, 1, [], Nat.le_refl _, by omega, rfl, rfl, by simp, .inl ⟨h1, Nat.le_refl _, ?_⟩, World.ownsRow_lit w #[] 0 (Nat.le_refl _) (Nat.zero_le _) rfl, (Below.refl _ _).alloc (Nat.le_refl _) _⟩
    show nm s = _
    rw [seg_self]; rfl
  case round =>
    obtain ⟨i, fr, acc, hf1, hi1, rfl, rfl, hal, hst, HO, HB⟩ := hrel
    have sB := HB.out.size
    obtain ⟨a, c, hv, -, -⟩ := row_slice HO.out
    rcases hst with ⟨hi2, hfi, HN⟩ | ⟨hi2, hf2, HN⟩
    · have hI : (i : Int) ≤ (s.size : Int) := by omega
      by_cases hend : i = s.size
      · have he : ((i : Int) == (s.size : Int)) = true := by rw [hend]; simp
        have HN2 : Hid (nm s = acc ++ [seg s fr i]) := by
          show _ = _
          rw [HN.out, List.drop_eq_nil_of_le (by show s.size ≤ i; omega)]; rfl
        have HEX : Hid (Value.string (s.extract fr i) = sV (seg s fr i)) := by show _ = _; rw [extract_seg]; rfl
        have hk1 : (fr : Int) ≤ (i : Int) := by omega
        have hk2 : fr ≤ i := by omega
        have HEND := hd9 hend
        clear hend
        subst hv
        go_wp2_with (at_builtin; go_must (refine wpList_append_own _ rfl _ _ 32 rfl w.heap.size 9 i0 (.string ByteArray.empty) 1 16 Tryz.underlying32 hi hz0 hz1 hz2 rfl (by decide) _ _ _ rfl (HO.out.alloc _) ⟨wr.heap.size, 0, none⟩ 1 1 [.string (s.extract fr i)] rfl rfl (cell_one_new _ _ _) (by intro u hu; simp at hu; subst hu; rfl) ?_ ?_ ?_ ?_))
        · unfold maxLen; omega
        · omega
        · simp; omega
        intro v2 w2 ho2 hg2 _
        have HO2 : Hid (w2.ownsRow w.heap.size 9 1 v2 (acc ++ [seg s fr i]).length ((acc ++ [seg s fr i]).map sV)) := by
          rw [HEX.out] at ho2
          show World.ownsRow _ _ _ _ _ _ _
          rw [List.length_append, List.map_append]; exact ho2
        have HB2 := hd9 ((HB.out.alloc sB _).grown hg2 (by simp; omega) (fun q hq => (World.ownsRow.lt HO.out q hq).1))
        clear ho2 hg2 HO HB
        go_wp2
        exact ⟨⟨i + 1, i + 1, acc ++ [seg s fr i], by omega, by have := HEND.out; omega, by go_num, by go_num, by rw [List.length_append]; simp; omega, .inr ⟨by have := HEND.out; omega, by have := HEND.out; omega, HN2⟩, HO2, HB2⟩, by simp [intOf]; omega⟩
      · have hlt : i < s.size := by omega
        have he : ((i : Int) == (s.size : Int)) = false := beq_eq_false_iff_ne.2 (by omega)
        have hltI : (i : Int) < (s.size : Int) := by omega
        have HC := hd9 (drop_cons s i hlt)
        have HEX : Hid (Value.string (s.extract fr i) = sV (seg s fr i)) := by show _ = _; rw [extract_seg]; rfl
        have hk1 : (fr : Int) ≤ (i : Int) := by omega
        have hk2 : fr ≤ i := by omega
        by_cases h47 : s[i] = 47
        · have e47 : ((s[i].toNat : Int) == 47) = true := by rw [h47]; rfl
          have HN2 : Hid (nm s = (acc ++ [seg s fr i]) ++ splA (seg s (i + 1) (i + 1)) (s.data.toList.drop (i + 1))) := by
            show _ = _
            rw [HN.out, HC.out, h47, splA_sl, seg_self, List.append_assoc]
            rfl
          clear h47
          subst hv
          go_wp2_with (at_builtin; go_must (refine wpList_append_own _ rfl _ _ 32 rfl w.heap.size 9 i0 (.string ByteArray.empty) 1 16 Tryz.underlying32 hi hz0 hz1 hz2 rfl (by decide) _ _ _ rfl (HO.out.alloc _) ⟨wr.heap.size, 0, none⟩ 1 1 [.string (s.extract fr i)] rfl rfl (cell_one_new _ _ _) (by intro u hu; simp at hu; subst hu; rfl) ?_ ?_ ?_ ?_))
          · unfold maxLen; omega
          · omega
          · simp; omega
          intro v2 w2 ho2 hg2 _
          have HO2 : Hid (w2.ownsRow w.heap.size 9 1 v2 (acc ++ [seg s fr i]).length ((acc ++ [seg s fr i]).map sV)) := by
            rw [HEX.out] at ho2
            show World.ownsRow _ _ _ _ _ _ _
            rw [List.length_append, List.map_append]; exact ho2
          have HB2 := hd9 ((HB.out.alloc sB _).grown hg2 (by simp; omega) (fun q hq => (World.ownsRow.lt HO.out q hq).1))
          clear ho2 hg2 HO HB
          go_wp2
          exact ⟨⟨i + 1, i + 1, acc ++ [seg s fr i], by omega, by omega, by go_num, by go_num, by rw [List.length_append]; simp; omega, .inl ⟨by omega, Nat.le_refl _, HN2⟩, HO2, HB2⟩, by simp [intOf]; omega⟩
        · have e47 : ((s[i].toNat : Int) == 47) = false := by
            rw [beq_eq_false_iff_ne]
            intro h
            apply h47
            apply UInt8.toNat_inj.1
            have : s[i].toNat = 47 := by omega
            rw [this]; rfl
          have HN2 : Hid (nm s = acc ++ splA (seg s fr (i + 1)) (s.data.toList.drop (i + 1))) := by
            show _ = _
            rw [HN.out, HC.out, splA_ch h47, seg_succ s fr i hk2 hlt]
          clear h47 hv
          go_wp2
          exact ⟨⟨i + 1, fr, acc, hf1, by omega, by go_num, rfl, by omega, .inl ⟨by omega, by omega, HN2⟩, HO, HB⟩, by simp [intOf]; omega⟩
    · have hI : ¬ (i : Int) ≤ (s.size : Int) := by omega
      clear hv
      go_wp2
      go_ret
      exact ⟨_, rfl, by rw [HN.out]; exact HO.out, HB.out⟩

end Go.Proofs.YtdiingonnddkcaaGreatDoor


