import Derived.WalkKit
import Derived.ProofKit
import Derived.OpenShut
import Derived.Handy
import Derived.Carry
import Derived.WalkSpells
import Derived.WalkSmall
import Derived.Test.YtmgolinleiahpaaChecked
import Derived.Deep.QuietTactic
import Derived.BigQuiet
import Derived.Deep.RegionHeld3
import Derived.Deep.RegionLaw
import Derived.Laws.BytesArg
import Derived.Lib.ConvBytes
import Derived.Test.YtmgolinleiahpaaRows
import Derived.Deep.RegionWith
import Derived.Deep.AppendLies
namespace Go.Proofs.Ytmgolinleiahpaa
open Go.RowKit

/-- A slice of one-cell integers that reads as xs. -/
def Rd (k : IntKind) (w : World) (v : Value) (xs : List Int) : Prop :=
  ∃ ao cap, v = .slice ao xs.length cap ∧ xs.length ≤ cap ∧ cap ≤ maxLen ∧
    (xs = [] ∨ ∃ b off, ao = some ⟨b, off, none⟩ ∧ b < w.heap.size ∧ ∀ i, i < xs.length → w.cell? ⟨b, off + i, none⟩ = some (.int k (xs.getD i 0)))

/-- A slice of one-cell integers that is the call's own, from block 'base' on. -/
def Own (k : IntKind) (e : TypeId) (w : World) (base : Nat) (v : Value) (xs : List Int) : Prop :=
  w.ownsRow base e 1 v xs.length (xs.map (Value.int k))

theorem Own.rd {k : IntKind} {e : TypeId} {w : World} {base : Nat} {v : Value} {xs : List Int} (h : Own k e w base v xs) : Rd k w v xs := by
  rcases h.2 with ⟨rfl, h0⟩ | ⟨g, cap, cur, rfl, hb, hg, hn, hm, hs, ht⟩
  · have : xs = [] := List.eq_nil_of_length_eq_zero h0
    subst this
    exact ⟨none, 0, rfl, Nat.le_refl _, Nat.zero_le _, .inl rfl⟩
  · refine ⟨_, cap, rfl, hn, hm, .inr ⟨g, 0, rfl, (Array.getElem?_eq_some_iff.1 hg).1, fun i hi => ?_⟩⟩
    have h1 := World.ownsRow.cells h (g := g) rfl i (.int k (xs.getD i 0)) (by simp [List.getD, hi])
    rw [Addr.add_lit] at h1
    exact h1

theorem Own.below {k : IntKind} {e : TypeId} {w w' : World} {base : Nat} {v : Value} {xs : List Int} (h : Own k e w base v xs) (hb : Below w.heap.size w w') : Own k e w' base v xs := by
  refine ⟨h.1, ?_⟩
  rcases h.2 with hn | ⟨g, cap, cur, rfl, hbg, hgg, rest⟩
  · exact .inl hn
  · exact .inr ⟨g, cap, cur, rfl, hbg, by rw [hb.block g (Array.getElem?_eq_some_iff.1 hgg).1]; exact hgg, rest⟩

theorem Own.mono {k : IntKind} {e : TypeId} {w : World} {base base' : Nat} {v : Value} {xs : List Int} (h : Own k e w base v xs) (hb : base' ≤ base) : Own k e w base' v xs := by
  refine ⟨h.1, ?_⟩
  rcases h.2 with hn | ⟨g, cap, cur, rfl, hbg, rest⟩
  · exact .inl hn
  · exact .inr ⟨g, cap, cur, rfl, by omega, rest⟩

theorem Rd.below {k : IntKind} {w w' : World} {v : Value} {xs : List Int} (h : Rd k w v xs) (hb : Below w.heap.size w w') : Rd k w' v xs := by
  obtain ⟨ao, cap, rfl, h1, h2, h3⟩ := h
  refine ⟨ao, cap, rfl, h1, h2, ?_⟩
  rcases h3 with h3 | ⟨b, off, rfl, hlt, hc⟩
  · exact .inl h3
  · exact .inr ⟨b, off, rfl, Nat.lt_of_lt_of_le hlt hb.size, fun i hi => by rw [hb.cell (p := ⟨b, off + i, none⟩) hlt]; exact hc i hi⟩

theorem Rd.drewN {k : IntKind} {w : World} {v : Value} {xs : List Int} (h : Rd k w v xs) (n : Nat) : Rd k (w.drewN n) v xs := h.below ⟨rfl, rfl, rfl, Nat.le_refl _, fun _ _ => rfl⟩
theorem Own.drewN {k : IntKind} {e : TypeId} {w : World} {base : Nat} {v : Value} {xs : List Int} (h : Own k e w base v xs) (n : Nat) : Own k e (w.drewN n) base v xs := h
theorem below_drewN' (w : World) (n : Nat) : Below w.heap.size w (w.drewN n) := ⟨rfl, rfl, rfl, Nat.le_refl _, fun _ _ => rfl⟩

/-- A row that was written leaves every other row. -/
theorem Own.other {k : IntKind} {e : TypeId} {w w' : World} {base : Nat} {v : Value} {xs : List Int} {row : Option Nat} (h : Own k e w base v xs) (hg : w.grownBy w' row) (hne : v.ownBlock = none ∨ v.ownBlock ≠ row) : Own k e w' base v xs :=
  World.ownsRow.kept h hg hne

theorem Own.lt {k : IntKind} {e : TypeId} {w : World} {base : Nat} {v : Value} {xs : List Int} (h : Own k e w base v xs) : ∀ g, v.ownBlock = some g → base ≤ g ∧ g < w.heap.size := World.ownsRow.lt h

theorem Rd.len {k : IntKind} {w : World} {v : Value} {xs : List Int} (h : Rd k w v xs) : ∃ ao cap, v = .slice ao xs.length cap ∧ xs.length ≤ cap ∧ cap ≤ maxLen := by
  obtain ⟨ao, cap, h0, h1, h2, _⟩ := h
  exact ⟨ao, cap, h0, h1, h2⟩

end Go.Proofs.Ytmgolinleiahpaa

namespace Go.Proofs.Ytmgolinleiahpaa
open Go.RowKit

theorem Try.infoB : (Try.prog.info? 5).map (fun i => (i.zero, i.size, i.bytes)) = some (some (.int .u8 0), 1, 1) := by kernel_rfl

theorem ret_bool {a b : Bool} (h : a = b) : Ending.returned (.bool a) = .returned (.bool b) := by rw [h]
theorem ret_int {k : IntKind} {a b : Int} (h : a = b) : Ending.returned (.int k a) = .returned (.int k b) := by rw [h]

/-! ### a row that is written from its head on -/
def mix (ys xs : List Int) (i : Nat) : List Int := ys.take i ++ xs.drop i

theorem mix_length {ys xs : List Int} (h : ys.length = xs.length) (i : Nat) : (mix ys xs i).length = xs.length := by
  simp [mix]; omega

theorem mix_set {ys xs : List Int} (h : ys.length = xs.length) {i : Nat} (hi : i < xs.length) : (mix ys xs i).set i (ys.getD i 0) = mix ys xs (i + 1) := by
  apply List.ext_getElem?
  intro j
  unfold mix
  rw [List.getElem?_set]
  by_cases e : i = j
  · subst e
    have h1 : i < (ys.take i ++ xs.drop i).length := by simp; omega
    have h2 : i < (ys.take (i + 1)).length := by simp; omega
    rw [if_pos rfl, if_pos h1, List.getElem?_append_left h2, List.getElem?_take_of_lt (by omega)]
    simp [List.getD, show i < ys.length by omega]
  · rw [if_neg e]
    by_cases hlt : j < i
    · rw [List.getElem?_append_left (by simp; omega), List.getElem?_append_left (by simp; omega), List.getElem?_take_of_lt hlt, List.getElem?_take_of_lt (by omega)]
    · rw [List.getElem?_append_right (by simp; omega), List.getElem?_append_right (by simp; omega), List.getElem?_drop, List.getElem?_drop]
      simp only [List.length_take]
      congr 1
      omega

theorem Own.mixed {k : IntKind} {e : TypeId} {w : World} {base g n cap : Nat} {ys xs : List Int} {i : Nat} (hy : ys.length = xs.length) (hn : xs.length = n) (hi : i < xs.length)
    (h : Own k e w base (.slice (some ⟨g, 0, none⟩) n cap) (mix ys xs i)) {u : Int} (hu : u = ys.getD i 0) :
    Own k e (w.setCell ⟨g, i, none⟩ (.int k u)) base (.slice (some ⟨g, 0, none⟩) n cap) (mix ys xs (i + 1)) := by
  subst hu
  unfold Own at h ⊢
  rw [mix_length hy, hn] at h ⊢
  have := (World.ownsRow.stored h i (.int k (ys.getD i 0))).1
  rw [← List.map_set, mix_set hy hi] at this
  exact this

theorem grownBy_set (w w' : World) (g i : Nat) (u : Value) (h : w.grownBy w' (some g)) : w.grownBy (w'.setCell ⟨g, i, none⟩ u) (some g) :=
  ⟨h.os, h.tape, h.output, by simpa using h.size, fun k hk hne => by
    have hs := h.size
    rw [← h.block k hk hne]
    exact Below.heap_setCell _ _ _ _ (fun e => hne (by rw [e]))⟩

theorem Own.row {k : IntKind} {e : TypeId} {w : World} {base : Nat} {v : Value} {xs : List Int} (h : Own k e w base v xs) :
    (v = .slice none 0 0 ∧ xs = []) ∨ ∃ g cap, v = .slice (some ⟨g, 0, none⟩) xs.length cap ∧ base ≤ g ∧ xs.length ≤ cap ∧ cap ≤ maxLen := by
  rcases h.2 with ⟨rfl, h0⟩ | ⟨g, cap, cur, rfl, hb, hg, hn, hm, _⟩
  · exact .inl ⟨rfl, List.eq_nil_of_length_eq_zero h0⟩
  · exact .inr ⟨g, cap, rfl, hb, hn, hm⟩

theorem own_zeros {w : World} {base g n cap : Nat} {k : IntKind} {e : TypeId} (h : w.ownsRow base e 1 (.slice (some ⟨g, 0, none⟩) n cap) n (madeCells #[Value.int k 0] n).toList) :
    Own k e w base (.slice (some ⟨g, 0, none⟩) n cap) (List.replicate n 0) := by
  unfold Own
  rw [toList_madeCells_one] at h
  simpa using h

end Go.Proofs.Ytmgolinleiahpaa

namespace Go.Proofs.Ytmgolinleiahpaa

theorem take_succ_getD (xs : List Int) (k : Nat) (h : k < xs.length) : xs.take (k + 1) = xs.take k ++ [xs.getD k 0] := by
  rw [List.take_succ_eq_append_getElem h]; simp [List.getD, h]

end Go.Proofs.Ytmgolinleiahpaa

namespace Go.Proofs.Ytmgolinleiahpaa
open Go.RowKit

def Byt (xs : List Int) : Prop := ∀ x ∈ xs, 0 ≤ x ∧ x < 256
theorem byt_at {xs : List Int} (h : Byt xs) (k : Nat) : ∃ x : Nat, x < 256 ∧ xs.getD k 0 = (x : Int) := by
  by_cases hk : k < xs.length
  · have := h xs[k] (List.getElem_mem hk)
    exact ⟨xs[k].toNat, by omega, by simp only [List.getD, List.getElem?_eq_getElem hk, Option.getD_some]; omega⟩
  · exact ⟨0, by omega, by simp [List.getD, show xs.length ≤ k by omega]⟩

theorem own_of {k : IntKind} {e : TypeId} {w : World} {base q : Nat} {v : Value} {ys xs : List Int} (hl : ys.length = q) (he : xs = ys) (h : w.ownsRow base e 1 v q (ys.map (Value.int k))) : Own k e w base v xs := by
  subst he; unfold Own; rw [hl]; exact h


end Go.Proofs.Ytmgolinleiahpaa

namespace Go.Proofs.Ytmgolinleiahpaa
open Go.RowKit

/-- A source of drawn numbers: its bytes, how many are used, the mixed number and the size. -/
structure Sr where
  code : List Int
  used : Nat
  mix : Nat
  size : Nat
/-- A drawn number below n, and the source behind it. -/
def Sr.next (s : Sr) (n : Nat) : Nat × Sr :=
  if n ≤ 1 then (0, s)
  else if s.used < s.code.length ∧ n ≤ 256 then ((s.code.getD s.used 0).toNat % n, { s with used := s.used + 1 })
  else ((s.mix * 1103 + 12347) % 1000003 / 3 % n, { s with mix := (s.mix * 1103 + 12347) % 1000003 })
theorem Sr.next_lt (s : Sr) (n : Nat) (h : 1 ≤ n) : (s.next n).1 < n := by
  unfold Sr.next
  split
  · exact h
  · split <;> exact Nat.mod_lt _ (by omega)

/-- Only block k has turned. -/
def Tch (k : Nat) (a b : World) : Prop := Below 0 a b ∧ ∀ j, j ≠ k → j < a.heap.size → b.heap[j]? = a.heap[j]?
theorem Tch.refl (k : Nat) (a : World) : Tch k a a := ⟨Below.refl _ _, fun _ _ _ => rfl⟩
theorem Tch.trans {k : Nat} {a b c : World} (h : Tch k a b) (h' : Tch k b c) : Tch k a c := ⟨h.1.trans h'.1, fun j hj hl => (h'.2 j hj (Nat.lt_of_lt_of_le hl h.1.size)).trans (h.2 j hj hl)⟩
theorem Tch.set (k i : Nat) (a : World) (q : Nat) (v : Value) : Tch k a ((a.drewN q).setCell ⟨k, i, none⟩ v) := ⟨((below_drewN' a q).mono (Nat.zero_le _)).setCell (Nat.zero_le _) _, fun _ hj _ => Below.heap_setCell (a.drewN q) _ _ _ hj⟩
theorem Tch.size {k : Nat} {a b : World} (h : Tch k a b) : a.heap.size ≤ b.heap.size := h.1.size
theorem Tch.below {k B : Nat} {a b : World} (h : Tch k a b) (hk : B ≤ k) (hB : B ≤ a.heap.size) : Below B a b := ⟨h.1.os, h.1.tape, h.1.output, h.1.size, fun j hj => h.2 j (by omega) (by omega)⟩
theorem Tch.of {k : Nat} {a b : World} (h : Below a.heap.size a b) : Tch k a b := ⟨h.mono (Nat.zero_le _), fun j _ hl => h.block j hl⟩
theorem Tch.then {k : Nat} {a b c : World} (h : Tch k a b) (h' : Below a.heap.size b c) : Tch k a c := ⟨h.1.trans (h'.mono (Nat.zero_le _)), fun j hj hl => (h'.block j hl).trans (h.2 j hj hl)⟩

/-- A source in the box k; it and its bytes lie below B. -/
structure SRX (W : World) (k B : Nat) (s : Sr) : Prop where
  kB : k < B
  lt : B ≤ W.heap.size
  fr : ∀ j, W.frozen? ⟨k, j, none⟩ = false
  row : ∃ ca cc, W.cell? ⟨k, 0, none⟩ = some (.slice ca s.code.length cc) ∧ (s.code = [] ∨ ∃ g, ca = some ⟨g, 0, none⟩ ∧ g ≠ k ∧ g < B ∧ ∀ i, i < s.code.length → W.cell? ⟨g, i, none⟩ = some (.int .u8 (s.code.getD i 0)))
  c1 : W.cell? ⟨k, 1, none⟩ = some (.int .i64 (s.used : Int))
  c2 : W.cell? ⟨k, 2, none⟩ = some (.int .i64 (s.mix : Int))
  c3 : W.cell? ⟨k, 3, none⟩ = some (.int .i64 (s.size : Int))
  mx : s.mix < 1000003
  len : s.code.length ≤ 4000
  us : s.used ≤ 4000
  byt : Byt s.code
  sz : 1 ≤ s.size ∧ s.size ≤ 7
theorem SRX.keep {W W' : World} {k B : Nat} {s : Sr} (h : SRX W k B s) (hb : Below B W W') : SRX W' k B s := by
  have hk := h.kB
  have e : ∀ i, W'.cell? ⟨k, i, none⟩ = W.cell? ⟨k, i, none⟩ := fun i => hb.cell (p := ⟨k, i, none⟩) hk
  obtain ⟨ca, cc, c0, hrow⟩ := h.row
  refine ⟨hk, Nat.le_trans h.lt hb.size, fun j => (World.frozen?_of_block (w := W) (hb.block k hk)).trans (h.fr j), ⟨ca, cc, (e 0).trans c0, ?_⟩, (e 1).trans h.c1, (e 2).trans h.c2, (e 3).trans h.c3, h.mx, h.len, h.us, h.byt, h.sz⟩
  rcases hrow with h0 | ⟨g, rfl, hgk, hgB, hx⟩
  · exact .inl h0
  · exact .inr ⟨g, rfl, hgk, hgB, fun i hi => (hb.cell (p := ⟨g, i, none⟩) hgB).trans (hx i hi)⟩
theorem SRX.mono {W : World} {k B B' : Nat} {s : Sr} (h : SRX W k B s) (hB : B ≤ B') (hl : B' ≤ W.heap.size) : SRX W k B' s := by
  obtain ⟨ca, cc, c0, hrow⟩ := h.row
  refine ⟨Nat.lt_of_lt_of_le h.kB hB, hl, h.fr, ⟨ca, cc, c0, ?_⟩, h.c1, h.c2, h.c3, h.mx, h.len, h.us, h.byt, h.sz⟩
  rcases hrow with h0 | ⟨g, rfl, hgk, hgB, hx⟩
  · exact .inl h0
  · exact .inr ⟨g, rfl, hgk, Nat.lt_of_lt_of_le hgB hB, hx⟩
theorem SRX.put1 {W : World} {k B q a : Nat} {s : Sr} (h : SRX W k B s) (ha : a ≤ 4000) : SRX ((W.drewN q).setCell ⟨k, 1, none⟩ (.int .i64 (a : Int))) k B { s with used := a } := by
  have e : ∀ (p : Addr), p ≠ ⟨k, 1, none⟩ → ((W.drewN q).setCell ⟨k, 1, none⟩ (.int .i64 (a : Int))).cell? p = W.cell? p := fun p hp => World.cell?_setCell_other _ _ _ _ (fun h => hp (by first | exact h | exact h.symm))
  obtain ⟨ca, cc, c0, hrow⟩ := h.row
  refine ⟨h.kB, by simpa using h.lt, fun j => by rw [World.frozen?_setCell]; exact h.fr j, ⟨ca, cc, (e _ (by simp)).trans c0, ?_⟩, World.cell?_setCell_same _ _ _ h.c1, (e _ (by simp)).trans h.c2, (e _ (by simp)).trans h.c3, h.mx, h.len, ha, h.byt, h.sz⟩
  rcases hrow with h0 | ⟨g, rfl, hgk, hgB, hx⟩
  · exact .inl h0
  · exact .inr ⟨g, rfl, hgk, hgB, fun i hi => (e _ (by intro h; injection h with h; exact hgk h)).trans (hx i hi)⟩
theorem SRX.put2 {W : World} {k B q m : Nat} {s : Sr} (h : SRX W k B s) (hm : m < 1000003) : SRX ((W.drewN q).setCell ⟨k, 2, none⟩ (.int .i64 (m : Int))) k B { s with mix := m } := by
  have e : ∀ (p : Addr), p ≠ ⟨k, 2, none⟩ → ((W.drewN q).setCell ⟨k, 2, none⟩ (.int .i64 (m : Int))).cell? p = W.cell? p := fun p hp => World.cell?_setCell_other _ _ _ _ (fun h => hp (by first | exact h | exact h.symm))
  obtain ⟨ca, cc, c0, hrow⟩ := h.row
  refine ⟨h.kB, by simpa using h.lt, fun j => by rw [World.frozen?_setCell]; exact h.fr j, ⟨ca, cc, (e _ (by simp)).trans c0, ?_⟩, (e _ (by simp)).trans h.c1, World.cell?_setCell_same _ _ _ h.c2, (e _ (by simp)).trans h.c3, hm, h.len, h.us, h.byt, h.sz⟩
  rcases hrow with h0 | ⟨g, rfl, hgk, hgB, hx⟩
  · exact .inl h0
  · exact .inr ⟨g, rfl, hgk, hgB, fun i hi => (e _ (by intro h; injection h with h; exact hgk h)).trans (hx i hi)⟩

set_option maxHeartbeats 1000000 in
set_option maxRecDepth 100000 in
theorem next_x (W : World) (k B n : Nat) (s : Sr) (h : SRX W k B s) (hn1 : n ≤ 1000000) :
    Calls Try.prog 40 #[.pointer (some ⟨k, 0, none⟩), .int .i64 (n : Int)] W fun e w' => e = .returned (.int .i64 ((s.next n).1 : Int)) ∧ SRX w' k B (s.next n).2 ∧ Tch k W w' := by
  by_cases h0 : n ≤ 1
  · have hn0 : (n : Int) ≤ 1 := by omega
    have HN : Hid (s.next n = (0, s)) := by show _ = _; unfold Sr.next; rw [if_pos h0]
    have HS : Hid (SRX W k B s) := h
    clear h
    go_enter Try.func40, Try.ntmps40
    go_wp2
    go_ret
    rw [HN.out]
    exact ⟨rfl, HS.out, Tch.refl _ _⟩
  have HS : Hid (SRX W k B s) := h
  obtain ⟨ca, cc, c0, hrow⟩ := h.row
  have c1 := h.c1
  have c2 := h.c2
  have hf1 := h.fr 1
  have hf2 := h.fr 2
  have hmx := h.mx
  have hN := h.len
  have hat := h.us
  have hn0 : ¬ (n : Int) ≤ 1 := by omega
  have hz : ((n : Int) == 0) = false := beq_eq_false_iff_ne.2 (by omega)
  by_cases hc : s.used < s.code.length ∧ n ≤ 256
  · have HN : Hid (s.next n = ((s.code.getD s.used 0).toNat % n, { s with used := s.used + 1 })) := by show _ = _; unfold Sr.next; rw [if_neg h0, if_pos hc]
    obtain ⟨hc1, hc2⟩ := hc
    rcases hrow with h00 | ⟨g, rfl, hgk, hgB, hx⟩
    · rw [h00] at hc1; simp at hc1
    obtain ⟨x, hx8, hxe⟩ := byt_at h.byt s.used
    have cx := hx s.used hc1
    rw [hxe] at cx
    have HX : Hid ((s.code.getD s.used 0).toNat = x) := by show _ = _; omega
    generalize hA : s.used = at_ at *
    generalize hL : s.code.length = N at *
    have HA : Hid (s.used = at_) := hA
    clear hA hL h hx hxe
    have hI1 : (at_ : Int) < (N : Int) := by omega
    have hI2 : (n : Int) ≤ 256 := by omega
    go_enter Try.func40, Try.ntmps40
    go_wp2
    go_quiet (fail)
    go_wp2
    go_quiet (fail)
    go_wp2
    go_ret
    rw [HN.out, HX.out]
    refine ⟨ret_int (by simp), ?_, Tch.set k 1 W _ _⟩
    have e : ((at_ : Int) + 1) = ((at_ + 1 : Nat) : Int) := by omega
    rw [e]
    exact HS.out.put1 (by omega)
  · have HN : Hid (s.next n = ((s.mix * 1103 + 12347) % 1000003 / 3 % n, { s with mix := (s.mix * 1103 + 12347) % 1000003 })) := by show _ = _; unfold Sr.next; rw [if_neg h0, if_neg hc]
    generalize hA : s.used = at_ at *
    generalize hL : s.code.length = N at *
    generalize hM : s.mix = mx at *
    have HA : Hid (s.used = at_) := hA
    clear hA hL hM h hrow
    have hcase : (¬ (at_ : Int) < (N : Int)) ∨ ((at_ : Int) < (N : Int) ∧ ¬ (n : Int) ≤ 256) := by omega
    clear hc
    rcases hcase with h1 | ⟨h1, h2⟩
    · have h1n : N ≤ at_ := by omega
      have h1m : ¬ at_ < N := by omega
      have h1e : (N : Int) ≤ (at_ : Int) := by omega
      go_enter Try.func40, Try.ntmps40
      go_wp2
      go_quiet (fail)
      go_wp2
      go_ret
      rw [HN.out]
      refine ⟨ret_int (by rw [Int.natCast_emod, show ((mx : Int) * 1103 + 12347) % 1000003 / 3 = (((mx * 1103 + 12347) % 1000003 / 3 : Nat) : Int) by omega]), ?_, Tch.set k 2 W _ _⟩
      have e : ((mx : Int) * 1103 + 12347) % 1000003 = (((mx * 1103 + 12347) % 1000003 : Nat) : Int) := by omega
      rw [e, ← HA.out]
      exact HS.out.put2 (Nat.mod_lt _ (by omega))
    · have h1n : at_ < N := by omega
      have h2n : 256 < n := by omega
      have h2m : ¬ n ≤ 256 := by omega
      go_enter Try.func40, Try.ntmps40
      go_wp2
      go_quiet (fail)
      go_wp2
      go_ret
      rw [HN.out]
      refine ⟨ret_int (by rw [Int.natCast_emod, show ((mx : Int) * 1103 + 12347) % 1000003 / 3 = (((mx * 1103 + 12347) % 1000003 / 3 : Nat) : Int) by omega]), ?_, Tch.set k 2 W _ _⟩
      have e : ((mx : Int) * 1103 + 12347) % 1000003 = (((mx * 1103 + 12347) % 1000003 : Nat) : Int) := by omega
      rw [e, ← HA.out]
      exact HS.out.put2 (Nat.mod_lt _ (by omega))

end Go.Proofs.Ytmgolinleiahpaa

namespace Go.Proofs.Ytmgolinleiahpaa
open Go.RowKit

theorem step_append {P : Program} {ops : Array Oper} {o : Oper} {a : Act} {w : World} {K : Act → World → Prop} {Q : Exit → Act → World → Prop} {E : Prop}
    (hg : o.guard = none) (s x : Operand) (t : TypeId) (hop : o.op = Op.call { callee := Callee.builtin Builtin.append, args := #[s, x], argTypes := #[t, t] })
    (base : Nat) (e : TypeId) (i : TypeInfo) (z : Value) (size bytes : Nat) (h1 : P.underlying t = some (.slice e)) (h2 : P.info? e = some i) (h3 : i.zero = some z) (h4 : i.size = size) (h5 : i.bytes = bytes) (h6 : z.cells.size = size) (h7 : 0 < size)
    (v : Value) (n : Nat) (xs : List Value) (hs : a.eval s = v) (hown : w.ownsRow base e size v n xs) (ad : Addr) (m c : Nat) (news : List Value) (hx : a.eval x = .slice (some ad) m c) (hn : news.length = m * size)
    (hc : ∀ j u, news[j]? = some u → w.cell? (ad.add j) = some u) (h1c : ∀ u ∈ news, u.oneCell' = true) (b1 : n + m ≤ maxLen) (b2 : (n + m) * bytes ≤ 140737488355328) (hb : base ≤ w.heap.size)
    (hK : ∀ v' w', w'.ownsRow base e size v' (n + m) (xs ++ news) → w.grownBy w' v.ownBlock → K (a.put o.dst v') w') :
    if Region.wanted o (yielded ops a.tmps) = true then Oper.wp P o a w K Q else E := by
  have hw : Region.wanted o (yielded ops a.tmps) = true := by simp [Region.wanted, hg]
  rw [if_pos hw]
  obtain ⟨v', w', hrun, r1, r2, _⟩ := run_append_own (P := P) w base t o.type e i z size bytes h1 h2 h3 h4 h5 h6 h7 v n xs hown ad m c news hn hc h1c b1 b2 hb
  unfold Oper.wp
  simp [execOp, hop, resolve, invoke, builtin, hs, hx, hrun, Result.andThen]
  exact hK v' w' r1 r2

end Go.Proofs.Ytmgolinleiahpaa

namespace Go.Proofs.Ytmgolinleiahpaa
open Go.RowKit

theorem Tch_grown (w : World) (k i : Nat) (v : Value) : w.grownBy (w.setCell ⟨k, i, none⟩ v) (some k) := grownBy_set w w k i v (World.grownBy.refl _ _)

theorem rowX3 {w : World} {lo n : Nat} {e : TypeId} {v : Value} {us : List Value} (h : w.ownsRow lo e 1 v n us) : ∃ a c, v = .slice a n c ∧ n ≤ c ∧ c ≤ maxLen := by
  rcases h.2 with ⟨rfl, rfl⟩ | ⟨g, cap, cur, rfl, -, -, h1, h2, -⟩
  · exact ⟨none, 0, rfl, Nat.le_refl _, Nat.zero_le _⟩
  · exact ⟨_, _, rfl, h1, h2⟩

theorem rowXs {w : World} {lo n : Nat} {e : TypeId} {v : Value} {us : List Value} (h : w.ownsRow lo e 1 v n us) (h0 : 0 < n) : ∃ g c, v = .slice (some ⟨g, 0, none⟩) n c := by
  rcases h.2 with ⟨rfl, h1⟩ | ⟨g, cap, cur, rfl, -⟩
  · omega
  · exact ⟨g, cap, rfl⟩
theorem rowXc {w : World} {lo i g c j x : Nat} {v : Value} {ys : List Int} (h : w.ownsRow lo 5 1 v ys.length (ys.map (Value.int .u8))) (hv : v = .slice (some ⟨g, 0, none⟩) i c) (hl : ys.length = i) (hj : j < i) (hx : ys.getD j 0 = (x : Int)) : w.cell? ⟨g, j, none⟩ = some (.int .u8 (x : Int)) := by
  subst hv
  rw [hl] at h
  rw [World.ownsRow.cellAt h j (by omega), ← hx]
  simp [List.getD, hl, hj]

/-- The source's box while it is made. -/
def SBX (w wr : World) (v : Value) (xs : List Int) (mx : Int) : Prop :=
  w.heap.size < wr.heap.size ∧ (∀ j, wr.frozen? ⟨w.heap.size, j, none⟩ = false) ∧ wr.cell? ⟨w.heap.size, 0, none⟩ = some v ∧ wr.cell? ⟨w.heap.size, 1, none⟩ = some (.int .i64 0) ∧ wr.cell? ⟨w.heap.size, 2, none⟩ = some (.int .i64 mx) ∧ wr.cell? ⟨w.heap.size, 3, none⟩ = some (.int .i64 0) ∧
    wr.ownsRow (w.heap.size + 1) 5 1 v xs.length (xs.map (Value.int .u8)) ∧ Below w.heap.size w wr

theorem SBX.push {w wr w3 : World} {v v3 : Value} {ys : List Int} {x : Int} {mx : Int} (h : SBX w wr v ys mx) (hb : Below (w.heap.size + 1) wr w3) (ho : w3.ownsRow (w.heap.size + 1) 5 1 v3 (ys.length + 1) (ys.map (Value.int .u8) ++ [.int .u8 x])) : SBX w (w3.setCell ⟨w.heap.size, 0, none⟩ v3) v3 (ys ++ [x]) mx := by
  obtain ⟨sz, fr, c0, c1, c2, c3, ow, bl⟩ := h
  have e : ∀ i, i ≠ 0 → (w3.setCell ⟨w.heap.size, 0, none⟩ v3).cell? ⟨w.heap.size, i, none⟩ = wr.cell? ⟨w.heap.size, i, none⟩ := fun i hi => by
    rw [World.cell?_setCell_other _ _ _ _ (by intro e; injection e with _ e; omega)]
    exact hb.cell (p := ⟨w.heap.size, i, none⟩) (Nat.lt_succ_self _)
  have k0 : w3.cell? ⟨w.heap.size, 0, none⟩ = some v := (hb.cell (p := ⟨w.heap.size, 0, none⟩) (Nat.lt_succ_self _)).trans c0
  refine ⟨by have := hb.size; simp; omega, fun j => ?_, World.cell?_setCell_same _ _ _ k0, (e 1 (by omega)).trans c1, (e 2 (by omega)).trans c2, (e 3 (by omega)).trans c3, ?_, (bl.trans (hb.mono (by omega))).setCell (Nat.le_refl _) _⟩
  · rw [World.frozen?_setCell]; exact (hb.frozen (p := ⟨w.heap.size, j, none⟩) (Nat.lt_succ_self _)).trans (fr j)
  · rw [List.length_append, List.map_append]
    refine World.ownsRow.kept ho (row := some w.heap.size) (Tch_grown _ _ _ _) ?_
    cases hv : v3.ownBlock with
    | none => exact .inl rfl
    | some g => exact .inr (fun e => by have := (World.ownsRow.lt ho g hv).1; injection e with e; omega)

theorem SBX.mix {w wr : World} {v : Value} {ys : List Int} {mx : Int} (h : SBX w wr v ys mx) (q : Nat) (mx' : Int) : SBX w ((wr.drewN q).setCell ⟨w.heap.size, 2, none⟩ (.int .i64 mx')) v ys mx' := by
  obtain ⟨sz, fr, c0, c1, c2, c3, ow, bl⟩ := h
  have e : ∀ i, i ≠ 2 → ((wr.drewN q).setCell ⟨w.heap.size, 2, none⟩ (.int .i64 mx')).cell? ⟨w.heap.size, i, none⟩ = wr.cell? ⟨w.heap.size, i, none⟩ := fun i hi => World.cell?_setCell_other _ _ _ _ (by intro e; injection e with _ e; omega)
  refine ⟨by show _ < (World.setCell _ _ _).heap.size; simpa using sz, fun j => ?_, (e 0 (by omega)).trans c0, (e 1 (by omega)).trans c1, World.cell?_setCell_same _ _ _ c2, (e 3 (by omega)).trans c3, ?_, (bl.trans ((below_drewN' wr q).mono (by omega))).setCell (Nat.le_refl _) _⟩
  · rw [World.frozen?_setCell]; exact fr j
  · refine World.ownsRow.kept (w := wr.drewN q) ow (row := some w.heap.size) (Tch_grown _ _ _ _) ?_
    cases hv : v.ownBlock with
    | none => exact .inl rfl
    | some g => exact .inr (fun e => by have := (World.ownsRow.lt ow g hv).1; injection e with e; omega)

theorem SBX.drew {w wr : World} {v : Value} {ys : List Int} {mx : Int} (h : SBX w wr v ys mx) : SBX w wr.drew v ys mx := ⟨h.1, h.2.1, h.2.2.1, h.2.2.2.1, h.2.2.2.2.1, h.2.2.2.2.2.1, h.2.2.2.2.2.2.1, h.2.2.2.2.2.2.2.drew⟩

/-- The mixed number behind some bytes. -/
def mixR (m : Nat) (ys : List Int) : Nat := ys.foldl (fun m x => (m * 257 + x.toNat + 1) % 1000003) m
theorem mixR_succ (m : Nat) (ys : List Int) (j x : Nat) (h : j < ys.length) (hx : ys.getD j 0 = (x : Int)) : mixR m (ys.take (j + 1)) = (mixR m (ys.take j) * 257 + x + 1) % 1000003 := by
  unfold mixR
  rw [List.take_succ_eq_append_getElem h, List.foldl_append]
  simp only [List.getD, List.getElem?_eq_getElem h, Option.getD_some] at hx
  simp [hx]
/-- The source of some bytes. -/
def srcOf (xs : List Int) : Sr := ⟨xs.take 4000, 0, mixR (xs.length % 1000 + 53) (xs.take 4000), min 7 (1 + (xs.take 4000).length / 50)⟩
theorem SBX.src {w wr : World} {v : Value} {ys : List Int} {m z : Nat} (h : SBX w wr v ys (m : Int)) (h1 : m < 1000003) (hl : ys.length ≤ 4000) (hby : Byt ys) (hz : 1 ≤ z ∧ z ≤ 7) : ∀ w2, (w2 = wr.setCell ⟨w.heap.size, 3, none⟩ (.int .i64 (z : Int)) ∨ ∃ u, w2 = (wr.setCell ⟨w.heap.size, 3, none⟩ u).setCell ⟨w.heap.size, 3, none⟩ (.int .i64 (z : Int))) → SRX w2 w.heap.size wr.heap.size ⟨ys, 0, m, z⟩ ∧ Below w.heap.size w w2 := by
  obtain ⟨sz, fr, c0, c1, c2, c3, ow, bl⟩ := h
  intro w2 hw2
  have e : ∀ (p : Addr), p ≠ ⟨w.heap.size, 3, none⟩ → w2.cell? p = wr.cell? p := by
    intro p hp
    rcases hw2 with rfl | ⟨u, rfl⟩
    · exact World.cell?_setCell_other _ _ _ _ (fun h => hp (by first | exact h | exact h.symm))
    · rw [World.cell?_setCell_other _ _ _ _ (fun h => hp (by first | exact h | exact h.symm))]
      exact World.cell?_setCell_other _ _ _ _ (fun h => hp (by first | exact h | exact h.symm))
  have e3 : w2.cell? ⟨w.heap.size, 3, none⟩ = some (.int .i64 (z : Int)) := by
    rcases hw2 with rfl | ⟨u, rfl⟩
    · exact World.cell?_setCell_same _ _ _ c3
    · exact World.cell?_setCell_same _ _ _ (World.cell?_setCell_same _ _ _ c3)
  have ef : ∀ j, w2.frozen? ⟨w.heap.size, j, none⟩ = false := by
    intro j
    rcases hw2 with rfl | ⟨u, rfl⟩
    · rw [World.frozen?_setCell]; exact fr j
    · rw [World.frozen?_setCell, World.frozen?_setCell]; exact fr j
  have es : w2.heap.size = wr.heap.size := by
    rcases hw2 with rfl | ⟨u, rfl⟩ <;> simp
  have eb : Below w.heap.size w w2 := by
    rcases hw2 with rfl | ⟨u, rfl⟩
    · exact bl.setCell (Nat.le_refl _) _
    · exact (bl.setCell (Nat.le_refl _) _).setCell (Nat.le_refl _) _
  obtain ⟨va, vc, hv, -, -⟩ := rowX3 ow
  refine ⟨⟨sz, by rw [es]; exact Nat.le_refl _, ef, ⟨va, vc, by rw [e _ (by simp), c0, hv], ?_⟩, (e _ (by simp)).trans c1, (e _ (by simp)).trans c2, e3, h1, hl, Nat.zero_le _, hby, hz⟩, eb⟩
  by_cases hz : ys = []
  · exact .inl hz
  · have hp : 0 < ys.length := List.length_pos_iff.2 hz
    obtain ⟨g, c, hv2⟩ := rowXs ow hp
    have hva : va = some ⟨g, 0, none⟩ := by rw [hv] at hv2; simp only [Value.slice.injEq] at hv2; exact hv2.1
    have hg : w.heap.size + 1 ≤ g := (World.ownsRow.lt ow g (by rw [hv2]; rfl)).1
    refine .inr ⟨g, hva, by omega, (World.ownsRow.lt ow g (by rw [hv2]; rfl)).2, fun i hi => ?_⟩
    obtain ⟨x, hx, hxe⟩ := byt_at hby i
    show w2.cell? _ = some (.int .u8 (ys.getD i 0))
    rw [hxe]
    exact (e _ (by intro h; injection h with h; omega)).trans (rowXc ow hv2 rfl hi hxe)

theorem mixX_ok (mx x : Nat) (h1 : mx < 1000003) (hx : x < 256) : (IntKind.i64.wrap (IntKind.i64.wrap (IntKind.i64.wrap ((mx : Int) * 257) + IntKind.i64.wrap (x : Int)) + 1)).tmod 1000003 = (((mx * 257 + x + 1) % 1000003 : Nat) : Int) := by
  have e1 : IntKind.i64.wrap ((mx : Int) * 257) = (mx : Int) * 257 := by rw [IntKind.wrap_i64]; omega
  have e2 : IntKind.i64.wrap (x : Int) = (x : Int) := by rw [IntKind.wrap_i64]; omega
  have e3 : IntKind.i64.wrap ((mx : Int) * 257 + (x : Int)) = (mx : Int) * 257 + (x : Int) := by rw [IntKind.wrap_i64]; omega
  have e4 : IntKind.i64.wrap ((mx : Int) * 257 + (x : Int) + 1) = (mx : Int) * 257 + (x : Int) + 1 := by rw [IntKind.wrap_i64]; omega
  rw [e1, e2, e3, e4, Int.tmod_eq_emod_of_nonneg (by omega)]
  omega

set_option maxHeartbeats 4000000 in
set_option maxRecDepth 100000 in
theorem sourceX_row (w : World) (b o n cap : Nat) (xs : List Int) (hx : xs.length = n) (hb : b < w.heap.size) (hc : ∀ i, i < n → w.cell? ⟨b, o + i, none⟩ = some (.int .u8 (xs.getD i 0))) (hby : Byt xs) (hn : n ≤ 1048576) :
    Calls Try.prog 38 #[.slice (some ⟨b, o, none⟩) n cap] w fun e w' => ∃ k, e = .returned (.pointer (some ⟨k, 0, none⟩)) ∧ w.heap.size ≤ k ∧ SRX w' k w'.heap.size (srcOf xs) ∧ Below w.heap.size w w' := by
  obtain ⟨i0, hi, hz0, hz1, hz2⟩ := info_parts Try.infoB
  have HC : Hid (∀ i, i < n → w.cell? ⟨b, o + i, none⟩ = some (.int .u8 (xs.getD i 0))) := hc
  have HX : Hid (xs.length = n) := hx
  have HBY : Hid (Byt xs) := hby
  clear hc hx hby
  go_enter Try.func38, Try.ntmps38
  go_wp2
  go_loopw [4] (fun vi wr => ∃ (i : Nat) (v : Value), i ≤ n ∧ i ≤ 4000 ∧ vi = .int .i64 i ∧ Hid (SBX w wr v (xs.take i) 0)) (fun i _ => n - (intOf i).toNat)
  case atStart =>
    refine ⟨0, .slice none 0 0, Nat.zero_le _, Nat.zero_le _, rfl, ?_⟩
    refine ⟨by simp, fun j => (by go_simp), (by go_simp), (by go_simp), (by go_simp), (by go_simp), ?_, (Below.refl _ _).alloc (Nat.le_refl _) _⟩
    rw [List.take_zero]; exact World.ownsRow_nil _ _ _ _
  case round =>
    obtain ⟨i, v, hi1, hi2, rfl, HSB⟩ := hrel
    by_cases hlt : i < n ∧ i < 4000
    · obtain ⟨hl1, hl2⟩ := hlt
      have hI1 : (i : Int) < (n : Int) := by omega
      have hI2 : (i : Int) < 4000 := by omega
      obtain ⟨sz, fr, c0, c1, c2, c3, ow, bl⟩ := HSB.out
      have f0 := fr 0
      obtain ⟨va, vc, rfl, -, -⟩ := rowX3 ow
      have hl : (xs.take i).length = i := by rw [List.length_take, HX.out]; omega
      rw [hl] at c0 ow
      obtain ⟨x, hx8, hxe⟩ := byt_at HBY.out i
      have cx : wr.cell? ⟨b, o + i, none⟩ = some (.int .u8 (x : Int)) := by rw [bl.cell (p := ⟨b, o + i, none⟩) hb, HC.out i hl1, hxe]
      have HOW : Hid (wr.ownsRow (w.heap.size + 1) 5 1 (.slice va i vc) i ((xs.take i).map (Value.int .u8))) := ow
      have HBL : Hid (Below w.heap.size w wr) := bl
      have hsz1 : w.heap.size + 1 ≤ wr.heap.size := sz
      have HXT : Hid (xs.take (i + 1) = xs.take i ++ [(x : Int)]) := by
        have hl' : i < xs.length := by rw [HX.out]; exact hl1
        have he := hxe
        simp only [List.getD, List.getElem?_eq_getElem hl', Option.getD_some] at he
        show _ = _
        rw [List.take_succ_eq_append_getElem hl', he]
      have HLEN : Hid ((xs.take i).length = i) := hl
      have HSB0 : Hid (SBX w wr (.slice va i vc) (xs.take i) 0) := by have h := HSB.out; rw [hl] at h; exact h
      clear fr ow bl hl hxe HSB
      generalize hL : (xs.take i).map (Value.int .u8) = L at *
      have HL : Hid ((xs.take i).map (Value.int .u8) = L) := hL
      clear hL
      go_wp2
      go_region_law (first | (refine step_append rfl (.tmp 18) (.tmp 23) 29 rfl (w.heap.size + 1) 5 i0 (.int .u8 0) 1 1 Try.underlying29 hi hz0 hz1 hz2 rfl (by decide) (.slice va i vc) i L rfl (HOW.out.alloc _) ⟨wr.heap.size, 0, none⟩ 1 1 [.int .u8 (x : Int)] rfl rfl (cell_one_new _ _ _) (by intro u hu; simp at hu; subst hu; rfl) (by unfold maxLen; omega) (by omega) (by simp; omega) ?_; intro v3 w3 ho3 hg3; have b3 : Hid (Below (w.heap.size + 1) wr w3) := Below.grown (by first | exact ((Below.refl _ _).alloc hsz1 _).drew | exact ((Below.refl _ _).drew).alloc hsz1 _) hg3 (by simp; omega) (fun q hq => (World.ownsRow.lt HOW.out q hq).1); have k0 : w3.cell? ⟨w.heap.size, 0, none⟩ = some (.slice va i vc) := (b3.out.cell (p := ⟨w.heap.size, 0, none⟩) (Nat.lt_succ_self _)).trans c0; have k1 : w3.frozen? ⟨w.heap.size, 0, none⟩ = false := (b3.out.frozen (p := ⟨w.heap.size, 0, none⟩) (Nat.lt_succ_self _)).trans f0; obtain ⟨a3, c3', hv3, -, -⟩ := rowX3 ho3; subst hv3; have HO3 : Hid (w3.ownsRow (w.heap.size + 1) 5 1 (.slice a3 (i + 1) c3') (i + 1) (L ++ [.int .u8 (x : Int)])) := ho3; clear ho3 hg3))
      all_goals
        have HSB2 : Hid (SBX w (w3.setCell ⟨w.heap.size, 0, none⟩ (.slice a3 (i + 1) c3')) (.slice a3 (i + 1) c3') (xs.take (i + 1)) 0) := by
          have hp := HSB0.out.push (x := (x : Int)) b3.out (by rw [HLEN.out, HL.out]; exact HO3.out)
          rw [← HXT.out] at hp
          exact hp
        clear k0 k1 HO3 b3
        generalize w3.setCell ⟨w.heap.size, 0, none⟩ (.slice a3 (i + 1) c3') = w4 at *
        go_wp2
        exact ⟨⟨i + 1, _, by omega, by omega, by go_num, HSB2⟩, by simp [intOf]; omega⟩
    · have hex : (¬ (i : Int) < (n : Int)) ∨ ((i : Int) < (n : Int) ∧ ¬ (i : Int) < 4000) := by omega
      clear hlt
      obtain ⟨ys, hys⟩ : ∃ ys, ys = xs.take i := ⟨_, rfl⟩
      have HSO : Hid (srcOf xs = ⟨ys, 0, mixR (n % 1000 + 53) ys, min 7 (1 + i / 50)⟩) := by
        have ht : xs.take 4000 = ys := by
          rw [hys]
          by_cases h4 : i < 4000
          · have hin : i = n := by omega
            rw [List.take_of_length_le (by rw [HX.out]; omega), List.take_of_length_le (by rw [HX.out]; omega)]
          · rw [show i = 4000 by omega]
        show _ = _
        unfold srcOf
        rw [ht, HX.out]
        congr 3
        rw [hys, List.length_take, HX.out]
        congr 1
        omega
      rw [← hys] at HSB
      have hyl : ys.length = i := by rw [hys, List.length_take, HX.out]; omega
      have HYB : Hid (Byt ys) := by rw [hys]; exact fun y hy => HBY.out y (List.mem_of_mem_take hy)
      have HYL : Hid (ys.length = i) := hyl
      clear hys hyl
      obtain ⟨sz, fr, c0, c1, c2, c3, ow, bl⟩ := HSB.out
      have f2 := fr 2
      clear fr ow bl
      rcases hex with h1 | ⟨h1, h2⟩
      all_goals
        go_wp2
        have HS1 : Hid (SBX w (wr.setCell ⟨w.heap.size, 2, none⟩ (.int .i64 ((n : Int) % 1000 + 53))) v ys ((n : Int) % 1000 + 53)) := HSB.out.mix 0 _
        have hmx : n % 1000 + 53 < 1000003 := by omega
        have hme : (n : Int) % 1000 + 53 = ((n % 1000 + 53 : Nat) : Int) := by omega
        rw [hme] at HS1
        rw [hme]
        clear hme
        generalize n % 1000 + 53 = m0 at *
        clear c0 c1 c2 c3 f2 HSB sz
        generalize wr.setCell ⟨w.heap.size, 2, none⟩ (.int .i64 (m0 : Int)) = w5 at *
        go_loopw [5] (fun vi wr => ∃ (j mx : Nat), j ≤ i ∧ vi = .int .i64 j ∧ Hid (mx = mixR m0 (ys.take j)) ∧ mx < 1000003 ∧ Hid (SBX w wr v ys (mx : Int))) (fun x _ => i - (intOf x).toNat)
        case atStart => exact ⟨0, m0, Nat.zero_le _, rfl, rfl, hmx, HS1⟩
        case round =>
          clear HS1 hmx
          obtain ⟨j, mx, hj, rfl, HM, hm1, HSJ⟩ := hrel
          obtain ⟨sz, fr, c0, c1, c2, c3, ow, bl⟩ := HSJ.out
          have f2 := fr 2
          have f3 := fr 3
          by_cases hji : j < i
          · have hjI : (j : Int) < (i : Int) := by omega
            obtain ⟨g, vc, hva⟩ := rowXs ow (by rw [HYL.out]; omega)
            rw [HYL.out] at hva
            obtain ⟨x, hx8, hxe⟩ := byt_at HYB.out j
            have cx : wr.cell? ⟨g, j, none⟩ = some (.int .u8 (x : Int)) := rowXc ow hva HYL.out hji hxe
            rw [hva] at c0
            have HM2 : Hid ((mx * 257 + x + 1) % 1000003 = mixR m0 (ys.take (j + 1))) := by
              show _ = _
              rw [mixR_succ m0 ys j x (by rw [HYL.out]; exact hji) hxe, HM.out]
            clear ow bl hxe hva fr HM
            go_wp2
            go_region_law (fail)
            all_goals
              rw [mixX_ok mx x hm1 hx8]
              have hmk : (mx * 257 + x + 1) % 1000003 < 1000003 := Nat.mod_lt _ (by omega)
              generalize (mx * 257 + x + 1) % 1000003 = m2 at *
              have HS2 : Hid (SBX w ((wr.setCell ⟨w.heap.size, 2, none⟩ (.int .i64 (m2 : Int))).drew) v ys (m2 : Int)) := (HSJ.out.mix 0 (m2 : Int)).drew
              generalize (wr.setCell ⟨w.heap.size, 2, none⟩ (.int .i64 (m2 : Int))).drew = w6 at *
              clear c0 c1 c2 c3 cx f2 f3 HSJ
              go_wp2
              exact ⟨⟨j + 1, m2, by omega, by go_num, HM2, hmk, HS2⟩, by simp [intOf]; omega⟩
          · have hjI : ¬ (j : Int) < (i : Int) := by omega
            have hji2 : j = i := by omega
            obtain ⟨va, vc, hva, -, -⟩ := rowX3 ow
            rw [HYL.out] at hva
            rw [hva] at c0
            have HMY : Hid (mx = mixR m0 ys) := by
              have := HM.out
              rw [hji2, ← HYL.out, List.take_length] at this
              exact this
            have HSR := HSJ.out.src hm1 (by rw [HYL.out]; omega) HYB.out (z := min 7 (1 + i / 50)) (by omega)
            have HSS : Hid (∀ w2, (w2 = wr.setCell ⟨w.heap.size, 3, none⟩ (.int .i64 (min 7 (1 + i / 50) : Nat)) ∨ ∃ u, w2 = (wr.setCell ⟨w.heap.size, 3, none⟩ u).setCell ⟨w.heap.size, 3, none⟩ (.int .i64 (min 7 (1 + i / 50) : Nat))) → SRX w2 w.heap.size wr.heap.size (srcOf xs) ∧ Below w.heap.size w w2) := by
              intro w2 hw2
              have := HSR w2 hw2
              rw [HSO.out, ← HMY.out]
              exact this
            clear bl HSR ow HM HMY HSO
            by_cases h7 : 7 < 1 + i / 50
            · have h7I : (7 : Int) < 1 + (i : Int) / 50 := by omega
              have e7 : min 7 (1 + i / 50) = 7 := by omega
              rw [e7] at HSS
              go_wp2
              go_ret
              refine ⟨_, rfl, Nat.le_refl _, SRX.mono (HSS.out _ (.inr ⟨_, rfl⟩)).1 (by simp) (by simp), (HSS.out _ (.inr ⟨_, rfl⟩)).2⟩
            · first
                | (exfalso; omega)
                | (have h7I : ¬ (7 : Int) < 1 + (i : Int) / 50 := by omega
                   have e7 : ((min 7 (1 + i / 50) : Nat) : Int) = 1 + (i : Int) / 50 := by omega
                   rw [e7] at HSS
                   clear e7
                   go_wp2
                   go_ret
                   refine ⟨_, rfl, Nat.le_refl _, SRX.mono (HSS.out _ (.inl rfl)).1 (by simp) (by simp), (HSS.out _ (.inl rfl)).2⟩)

set_option maxHeartbeats 400000 in
set_option maxRecDepth 100000 in
theorem sourceX_nil (w : World) (ao : Option Addr) (cap : Nat) :
    Calls Try.prog 38 #[.slice ao 0 cap] w fun e w' => ∃ k, e = .returned (.pointer (some ⟨k, 0, none⟩)) ∧ w.heap.size ≤ k ∧ SRX w' k w'.heap.size (srcOf []) ∧ Below w.heap.size w w' := by
  go_enter Try.func38, Try.ntmps38
  go_wp2
  go_rounds 1
  go_rounds 1
  go_ret
  refine ⟨_, rfl, Nat.le_refl _, ⟨by simp, by simp, fun j => (by go_simp), ⟨none, 0, (by go_simp; rfl), .inl rfl⟩, (by go_simp; rfl), (by go_simp; rfl), (by go_simp; rfl), by decide, by decide, by decide, fun x hx => by simp [srcOf] at hx, by decide⟩, ?_⟩
  repeat (first | exact Below.refl _ _ | refine Below.setCell ?_ (by simp) _ | refine Below.alloc ?_ (by simp) _)

theorem sourceX_any (w : World) (v : Value) (xs : List Int) (h : Rd .u8 w v xs) (hby : Byt xs) (hn : xs.length ≤ 1048576) :
    Calls Try.prog 38 #[v] w fun e w' => ∃ k, e = .returned (.pointer (some ⟨k, 0, none⟩)) ∧ w.heap.size ≤ k ∧ SRX w' k w'.heap.size (srcOf xs) ∧ Below w.heap.size w w' := by
  obtain ⟨ao, cap, rfl, h1, h2, h3⟩ := h
  rcases h3 with rfl | ⟨b, o, rfl, hb, hc⟩
  · exact sourceX_nil w ao cap
  · exact sourceX_row w b o xs.length cap xs rfl hb hc hby hn

end Go.Proofs.Ytmgolinleiahpaa

namespace Go.Proofs.Ytmgolinleiahpaa
open Go.RowKit

theorem rowTch {w w' : World} {lo k m n : Nat} {e : TypeId} {v : Value} {us : List Value} (h : w.ownsRow lo e m v n us) (t : Tch k w w') (hk : k < lo) : w'.ownsRow lo e m v n us := by
  refine ⟨h.1, ?_⟩
  rcases h.2 with hn | ⟨g, cap, cur, rfl, hbg, hgg, rest⟩
  · exact .inl hn
  · exact .inr ⟨g, cap, cur, rfl, hbg, (t.2 g (by omega) (Array.getElem?_eq_some_iff.1 hgg).1).trans hgg, rest⟩
theorem Own.tch {c : IntKind} {w w' : World} {lo k : Nat} {e : TypeId} {v : Value} {xs : List Int} (h : Own c e w lo v xs) (t : Tch k w w') (hk : k < lo) : Own c e w' lo v xs := rowTch h t hk

end Go.Proofs.Ytmgolinleiahpaa

namespace Go.Proofs.Ytmgolinleiahpaa
open Go.RowKit

theorem Try.infoI : (Try.prog.info? 2).map (fun i => (i.zero, i.size, i.bytes)) = some (some (.int .i64 0), 1, 8) := by kernel_rfl

end Go.Proofs.Ytmgolinleiahpaa

namespace Go.Proofs.Ytmgolinleiahpaa
open Go.RowKit

theorem conv_any {w : World} {v : Value} {xs : List Int} (h : Rd .u8 w v xs) : (convert 29 9 v).run Try.prog w = .ok (.string (strOfNums xs)) w := by
  obtain ⟨ao, cap, rfl, h1, h2, h3⟩ := h
  rcases h3 with rfl | ⟨b, o, rfl, hb, hc⟩
  · cases ao with
    | none => exact run_convert_bytes_nil w _ _ Try.underlying29 Try.underlying5 0 cap _ Try.underlying9
    | some a =>
      rw [run_convert_bytes_string w _ _ _ _ _ _ Try.underlying29 Try.underlying5 Try.underlying9]
      exact run_bytesToString w a 0 cap [] (by simp [loadCells, loadCellsFrom])
  · exact run_convert_bytes_arg w _ _ Try.underlying29 Try.underlying5 b o _ cap xs rfl hc _ Try.underlying9

/-- What a conversion of a text to bytes leaves. -/
theorem conv_back (w : World) (xs : List Int) (hby : ∀ x ∈ xs, 0 ≤ x ∧ x < 256) (hl : xs.length ≤ 1099511627776) :
    ∃ cap W, (convert 9 29 (.string (strOfNums xs))).run Try.prog w = .ok (.slice (some ⟨w.heap.size, 0, none⟩) xs.length cap) W ∧ Below w.heap.size w W ∧ w.heap.size < W.heap.size ∧
      Rd .u8 W (.slice (some ⟨w.heap.size, 0, none⟩) xs.length cap) xs ∧ ∀ j, j < xs.length → W.frozen? ⟨w.heap.size, j, none⟩ = false := by
  have hr := Lib.run_convert_string_bytes (P := Try.prog) w 9 29 5 (strOfNums xs) Try.underlying9 Try.underlying29 Try.underlying5
  rw [strOfNums_size] at hr
  have hge := grownCap_ge w xs.length 0 5
  have hle := grownCap_le_maxLen w xs.length 0 5 (by unfold maxLen; omega)
  have hsz := Lib.bytesWorld_size w 5 (strOfNums xs)
  refine ⟨_, _, hr, ⟨rfl, rfl, rfl, by omega, fun k hk => Lib.bytesWorld_at_old w _ _ k hk⟩, by omega, ?_, ?_⟩
  · refine ⟨_, _, rfl, hge, hle, .inr ⟨w.heap.size, 0, rfl, by omega, fun i hi => ?_⟩⟩
    rw [Nat.zero_add, Lib.bytesWorld_cell w 5 (strOfNums xs) i (by rw [strOfNums_size]; exact hi), strOfNums_data]
    have hx := hby _ (List.getElem_mem hi)
    simp only [List.getD, List.getElem?_map, List.getElem?_eq_getElem hi, Option.map_some, Option.getD_some, UInt8.toNat_ofNat']
    rw [show xs[i].toNat % 2 ^ 8 = xs[i].toNat from Nat.mod_eq_of_lt (by have := hx; simp only [Nat.reducePow]; omega), Int.toNat_of_nonneg hx.1]
  · intro j hj
    have hn := Lib.bytesWorld_at_new w 5 (strOfNums xs)
    have hs : j < (Lib.bytesCells w 5 (strOfNums xs)).size := by
      unfold Lib.bytesCells
      rw [Array.size_append, Array.size_map]
      have : (strOfNums xs).data.size = xs.length := strOfNums_size xs
      omega
    simp [World.frozen?, hn]
    omega

end Go.Proofs.Ytmgolinleiahpaa

namespace Go.Proofs.Ytmgolinleiahpaa
open Go.RowKit

theorem bcell {W w1 : World} (hb : Below W.heap.size W w1) : (∀ b o, b < W.heap.size → w1.cell? ⟨b, o, none⟩ = W.cell? ⟨b, o, none⟩) ∧ (∀ b o, b < W.heap.size → w1.frozen? ⟨b, o, none⟩ = W.frozen? ⟨b, o, none⟩) :=
  ⟨fun b o h => hb.cell (p := ⟨b, o, none⟩) h, fun b o h => hb.frozen (p := ⟨b, o, none⟩) h⟩

theorem Own.setBelow {k : IntKind} {e : TypeId} {w : World} {base : Nat} {v : Value} {xs : List Int} (h : Own k e w base v xs) {a : Addr} (ha : a.block < base) (u : Value) : Own k e (w.setCell a u) base v xs := ownsRow_setCell_below h ha u


end Go.Proofs.Ytmgolinleiahpaa

namespace Go.Proofs.Ytmgolinleiahpaa
open Go.RowKit




/-- A local struct of one cell. -/
def Box (w : World) (b : Nat) (v : Value) : Prop := b < w.heap.size ∧ w.cell? ⟨b, 0, none⟩ = some v
theorem Box.below {w w' : World} {b : Nat} {v : Value} (h : Box w b v) (hb : Below w.heap.size w w') : Box w' b v :=
  ⟨Nat.lt_of_lt_of_le h.1 hb.size, (hb.cell (p := ⟨b, 0, none⟩) h.1).trans h.2⟩
theorem Box.other {w w' : World} {b : Nat} {v : Value} {row : Option Nat} (h : Box w b v) (hg : w.grownBy w' row) (hne : some b ≠ row) : Box w' b v :=
  ⟨Nat.lt_of_lt_of_le h.1 hg.size, hg.cell h.2 hne⟩
theorem Box.new (w : World) (v : Value) (t : TypeId) : Box (w.alloc (.cells #[v] t)) w.heap.size v := ⟨by simp, by simp⟩
theorem Box.drewN {w : World} {b : Nat} {v : Value} (h : Box w b v) (n : Nat) : Box (w.drewN n) b v := h

end Go.Proofs.Ytmgolinleiahpaa

namespace Go.Proofs.Ytmgolinleiahpaa
open Go.RowKit

def zeros (n : Nat) : List Int := List.replicate n 0
theorem zeros_len (n : Nat) : (zeros n).length = n := by simp [zeros]

/-- How many bytes a new disk has. -/
def ndl (k : Int) : Nat := if 1 ≤ k ∧ k ≤ 300 then k.toNat * 64 else 0

theorem box2_later {w w1 : World} {x y : Value} {t : TypeId} (hb : Below (w.alloc (.cells #[x, y] t)).heap.size (w.alloc (.cells #[x, y] t)) w1) :
    w1.cell? ⟨w.heap.size, 0, none⟩ = some x ∧ w1.cell? ⟨w.heap.size, 1, none⟩ = some y ∧ w1.frozen? ⟨w.heap.size, 0, none⟩ = false ∧ w1.frozen? ⟨w.heap.size, 1, none⟩ = false ∧ w.heap.size < w1.heap.size := by
  obtain ⟨hc, hf⟩ := bcell hb
  have hs := hb.size
  simp at hs
  refine ⟨?_, ?_, ?_, ?_, by omega⟩
  · rw [hc _ _ (by simp)]; simp
  · rw [hc _ _ (by simp)]; simp
  · rw [hf _ _ (by simp)]; simp
  · rw [hf _ _ (by simp)]; simp


set_option maxHeartbeats 400000 in
set_option maxRecDepth 100000 in
theorem specNewDisk_any (w : World) (k : Int) :
    Calls Try.prog 88 #[.int .i64 k] w fun e w' => ∃ v', e = .returned (.agg #[v', .slice none 0 0]) ∧ Own .u8 5 w' w.heap.size v' (zeros (ndl k)) ∧ Below w.heap.size w w' := by
  obtain ⟨i0, hi, hz0, hz1, hz2⟩ := info_parts Try.infoB
  by_cases h1 : k < 1
  · have e : ndl k = 0 := if_neg (by omega)
    rw [e]
    go_enter Try.func88, Try.ntmps88
    go_wp2
    exact bodyPost_ret (v := .agg #[.slice none 0 0, .slice none 0 0]) (by simp [results, Try.results88, go_sem]) rfl ⟨_, rfl, World.ownsRow_nil _ _ _ _, (Below.refl _ _).alloc (Nat.le_refl _) _⟩
  · by_cases h2 : 300 < k
    · have e : ndl k = 0 := if_neg (by omega)
      rw [e]
      go_enter Try.func88, Try.ntmps88
      go_wp2
      exact bodyPost_ret (v := .agg #[.slice none 0 0, .slice none 0 0]) (by simp [results, Try.results88, go_sem]) rfl ⟨_, rfl, World.ownsRow_nil _ _ _ _, (Below.refl _ _).alloc (Nat.le_refl _) _⟩
    · obtain ⟨n, rfl⟩ : ∃ n : Nat, k = (n : Int) := ⟨k.toNat, by omega⟩
      have e : ndl (n : Int) = n * 64 := by unfold ndl; rw [if_pos (by omega), Int.toNat_natCast]
      rw [e]
      clear e
      go_enter Try.func88, Try.ntmps88
      go_wp2_with (at_make; go_must (refine wpList_make_full _ rfl _ _ 29 rfl (w.heap.size + 1) 5 i0 (.int .u8 0) 1 Try.underlying29 hi hz0 hz1 _ _ _ _ (n * 64) rfl rfl ?a1 ?a2 ?b2 ?b3 ?b4 ?_))
      case b2 => omega
      case b3 => unfold maxLen; omega
      intro w1 hown hgrow
      have B1 : Below (w.alloc (.cells #[.slice none 0 0, .slice none 0 0] 32)).heap.size (w.alloc (.cells #[.slice none 0 0, .slice none 0 0] 32)) w1 := (Below.refl _ _).grown hgrow (Nat.le_refl _) (by simp)
      obtain ⟨c0, c1, f0, f1, z1⟩ := box2_later B1
      have HB : Hid (Below w.heap.size w w1) := ((Below.refl _ _).alloc (Nat.le_refl _) _).trans (B1.mono (by simp))
      have HO : Hid (Own .u8 5 w1 (w.heap.size + 1) (.slice (some ⟨w.heap.size + 1, 0, none⟩) (n * 64) (n * 64)) (List.replicate (n * 64) 0)) := own_zeros (by simpa using hown)
      clear hown hgrow B1
      go_wp2
      refine bodyPost_ret (v := .agg #[.slice (some ⟨w.heap.size + 1, 0, none⟩) (n * 64) (n * 64), .slice none 0 0]) (by simp [results, Try.results88, go_sem, c0, c1]) rfl ⟨_, rfl, ?_, ?_⟩
      · exact (Own.setBelow (Own.setBelow HO.out (a := ⟨w.heap.size, 0, none⟩) (by simp) _) (a := ⟨w.heap.size, 1, none⟩) (by simp) _).mono (by omega)
      · exact (HB.out.setCell (Nat.le_refl _) _).setCell (Nat.le_refl _) _

end Go.Proofs.Ytmgolinleiahpaa

namespace Go.Proofs.Ytmgolinleiahpaa
open Go.RowKit

/-- A local struct of two cells. -/
def Box2 (w : World) (b : Nat) (x y : Value) : Prop := b < w.heap.size ∧ w.cell? ⟨b, 0, none⟩ = some x ∧ w.cell? ⟨b, 1, none⟩ = some y
theorem Box2.below {w w' : World} {b : Nat} {x y : Value} (h : Box2 w b x y) (hb : Below w.heap.size w w') : Box2 w' b x y :=
  ⟨Nat.lt_of_lt_of_le h.1 hb.size, (hb.cell (p := ⟨b, 0, none⟩) h.1).trans h.2.1, (hb.cell (p := ⟨b, 1, none⟩) h.1).trans h.2.2⟩
theorem Box2.other {w w' : World} {b : Nat} {x y : Value} {row : Option Nat} (h : Box2 w b x y) (hg : w.grownBy w' row) (hne : some b ≠ row) : Box2 w' b x y :=
  ⟨Nat.lt_of_lt_of_le h.1 hg.size, hg.cell h.2.1 hne, hg.cell h.2.2 hne⟩
theorem Box2.new (w : World) (x y : Value) (t : TypeId) : Box2 (w.alloc (.cells #[x, y] t)) w.heap.size x y := ⟨by simp, by simp, by simp⟩


end Go.Proofs.Ytmgolinleiahpaa

namespace Go.Proofs.Ytmgolinleiahpaa
open Go.RowKit

def pB (ps : List (Int × List Int)) (i : Nat) : Int := (ps.getD i (0, [])).1
def pD (ps : List (Int × List Int)) (i : Nat) : List Int := (ps.getD i (0, [])).2

/-- A slice of records (a number and a list of bytes) that reads as ps. -/
def RdW (w : World) (v : Value) (ps : List (Int × List Int)) : Prop :=
  ∃ ao cap, v = .slice ao ps.length cap ∧ ps.length ≤ cap ∧ cap ≤ maxLen ∧
    (ps = [] ∨ ∃ b off, ao = some ⟨b, off, none⟩ ∧ b < w.heap.size ∧ ∀ i, i < ps.length →
      w.cell? ⟨b, off + i * 2, none⟩ = some (.int .i64 (pB ps i)) ∧ ∃ da c, w.cell? ⟨b, off + i * 2 + 1, none⟩ = some (.slice da (pD ps i).length c) ∧ Rd .u8 w (.slice da (pD ps i).length c) (pD ps i))

theorem RdW.len {w : World} {v : Value} {ps : List (Int × List Int)} (h : RdW w v ps) : ∃ ao cap, v = .slice ao ps.length cap ∧ ps.length ≤ cap ∧ cap ≤ maxLen := by
  obtain ⟨ao, cap, h0, h1, h2, _⟩ := h
  exact ⟨ao, cap, h0, h1, h2⟩

theorem RdW.below {w w' : World} {v : Value} {ps : List (Int × List Int)} (h : RdW w v ps) (hb : Below w.heap.size w w') : RdW w' v ps := by
  obtain ⟨ao, cap, rfl, h1, h2, h3⟩ := h
  refine ⟨ao, cap, rfl, h1, h2, ?_⟩
  rcases h3 with h3 | ⟨b, off, rfl, hlt, hc⟩
  · exact .inl h3
  · refine .inr ⟨b, off, rfl, Nat.lt_of_lt_of_le hlt hb.size, fun i hi => ?_⟩
    obtain ⟨c1, da, c, c2, r⟩ := hc i hi
    exact ⟨(hb.cell (p := ⟨b, _, none⟩) hlt).trans c1, da, c, (hb.cell (p := ⟨b, _, none⟩) hlt).trans c2, r.below hb⟩

end Go.Proofs.Ytmgolinleiahpaa

namespace Go.Proofs.Ytmgolinleiahpaa
open Go.RowKit

/-! ### rows of records -/
def rowW (n : Nat) (f : Nat → Int) (g : Nat → Value) : List Value := (List.range n).flatMap fun i => [.int .i64 (f i), g i]

theorem rowW_succ (n : Nat) (f : Nat → Int) (g : Nat → Value) : rowW (n + 1) f g = rowW n f g ++ [.int .i64 (f n), g n] := by
  unfold rowW; rw [List.range_succ, List.flatMap_append]; simp
theorem rowW_length (n : Nat) (f : Nat → Int) (g : Nat → Value) : (rowW n f g).length = n * 2 := by
  induction n with
  | zero => rfl
  | succ n ih => rw [rowW_succ, List.length_append, ih]; simp; omega
theorem rowW_get (n : Nat) (f : Nat → Int) (g : Nat → Value) (j : Nat) (h : j < n * 2) : (rowW n f g)[j]? = some (if j % 2 = 0 then .int .i64 (f (j / 2)) else g (j / 2)) := by
  induction n with
  | zero => omega
  | succ n ih =>
    rw [rowW_succ]
    by_cases hj : j < n * 2
    · rw [List.getElem?_append_left (by rw [rowW_length]; exact hj), ih hj]
    · rw [List.getElem?_append_right (by rw [rowW_length]; omega), rowW_length]
      by_cases e : j = n * 2
      · subst e
        simp [show n * 2 % 2 = 0 by omega]
      · have e2 : j = n * 2 + 1 := by omega
        subst e2
        rw [if_neg (by omega), show n * 2 + 1 - n * 2 = 1 by omega, show (n * 2 + 1) / 2 = n by omega]
        rfl
theorem rowW_congr {n : Nat} {f f' : Nat → Int} {g g' : Nat → Value} (hf : ∀ i, i < n → f i = f' i) (hg : ∀ i, i < n → g i = g' i) : rowW n f g = rowW n f' g' := by
  unfold rowW
  rw [List.flatMap_def, List.flatMap_def]
  congr 1
  apply List.map_congr_left
  intro i hi
  have hi := List.mem_range.1 hi
  rw [hf i hi, hg i hi]
def Ne2 (a b : Value) : Prop := a.ownBlock = none ∨ a.ownBlock ≠ b.ownBlock

theorem Own.slice {k : IntKind} {e : TypeId} {w : World} {lo : Nat} {v : Value} {xs : List Int} (h : Own k e w lo v xs) : ∃ a c, v = .slice a xs.length c := by
  obtain ⟨a, c, h0, _⟩ := h.rd.len
  exact ⟨a, c, h0⟩
theorem Own.setAt {k : IntKind} {e : TypeId} {w : World} {lo g j : Nat} {v u : Value} {xs : List Int} (h : Own k e w lo v xs) (hne : v.ownBlock = none ∨ v.ownBlock ≠ some g) : Own k e (w.setCell ⟨g, j, none⟩ u) lo v xs :=
  h.other (grownBy_set w w g j u (World.grownBy.refl _ _)) hne

/-- Bytes in a row of the call's own, whatever type the row is of. -/
def OwnB (w : World) (lo : Nat) (v : Value) (xs : List Int) : Prop := ∃ te, Own .u8 te w lo v xs
theorem Own.b {te : TypeId} {w : World} {lo : Nat} {v : Value} {xs : List Int} (h : Own .u8 te w lo v xs) : OwnB w lo v xs := ⟨te, h⟩
theorem OwnB.rd {w : World} {lo : Nat} {v : Value} {xs : List Int} (h : OwnB w lo v xs) : Rd .u8 w v xs := h.elim fun _ h => h.rd
theorem OwnB.below {w w' : World} {lo : Nat} {v : Value} {xs : List Int} (h : OwnB w lo v xs) (hb : Below w.heap.size w w') : OwnB w' lo v xs := h.elim fun _ h => ⟨_, h.below hb⟩
theorem OwnB.mono {w : World} {lo lo' : Nat} {v : Value} {xs : List Int} (h : OwnB w lo v xs) (hl : lo' ≤ lo) : OwnB w lo' v xs := h.elim fun _ h => ⟨_, h.mono hl⟩
theorem OwnB.other {w w' : World} {lo : Nat} {v : Value} {xs : List Int} {row : Option Nat} (h : OwnB w lo v xs) (hg : w.grownBy w' row) (hne : v.ownBlock = none ∨ v.ownBlock ≠ row) : OwnB w' lo v xs := h.elim fun _ h => ⟨_, h.other hg hne⟩
theorem OwnB.lt {w : World} {lo : Nat} {v : Value} {xs : List Int} (h : OwnB w lo v xs) : ∀ g, v.ownBlock = some g → lo ≤ g ∧ g < w.heap.size := h.elim fun _ h => h.lt
theorem OwnB.slice {w : World} {lo : Nat} {v : Value} {xs : List Int} (h : OwnB w lo v xs) : ∃ a c, v = .slice a xs.length c := h.elim fun _ h => h.slice
theorem OwnB.setAt {w : World} {lo g j : Nat} {v u : Value} {xs : List Int} (h : OwnB w lo v xs) (hne : v.ownBlock = none ∨ v.ownBlock ≠ some g) : OwnB (w.setCell ⟨g, j, none⟩ u) lo v xs := h.elim fun _ h => ⟨_, h.setAt hne⟩
theorem OwnB.setBelow {w : World} {lo : Nat} {v : Value} {xs : List Int} (h : OwnB w lo v xs) {a : Addr} (ha : a.block < lo) (u : Value) : OwnB (w.setCell a u) lo v xs := h.elim fun _ h => ⟨_, h.setBelow ha u⟩

/-- A slice of records that is the call's own, each list in a row of its own. -/
def OwnW (e : TypeId) (w : World) (lo : Nat) (v : Value) (ps : List (Int × List Int)) (dv : Nat → Value) : Prop :=
  w.ownsRow lo e 2 v ps.length (rowW ps.length (pB ps) dv) ∧ (∀ i, i < ps.length → OwnB w lo (dv i) (pD ps i)) ∧
  (∀ i j, i < ps.length → j < ps.length → i ≠ j → Ne2 (dv i) (dv j)) ∧ ∀ i, i < ps.length → Ne2 (dv i) v

theorem OwnW.rd {e : TypeId} {w : World} {lo : Nat} {v : Value} {ps : List (Int × List Int)} {dv : Nat → Value} (h : OwnW e w lo v ps dv) : RdW w v ps := by
  obtain ⟨ho, hd, _, _⟩ := h
  rcases ho.2 with ⟨rfl, h0⟩ | ⟨g, cap, cur, rfl, hb, hg, hn, hm, hs, ht⟩
  · have : ps = [] := List.eq_nil_of_length_eq_zero h0
    subst this
    exact ⟨none, 0, rfl, Nat.le_refl _, Nat.zero_le _, .inl rfl⟩
  · refine ⟨_, cap, rfl, hn, hm, .inr ⟨g, 0, rfl, (Array.getElem?_eq_some_iff.1 hg).1, fun i hi => ?_⟩⟩
    have c1 := World.ownsRow.cells ho (g := g) rfl (i * 2) _ (rowW_get _ _ _ _ (by omega))
    have c2 := World.ownsRow.cells ho (g := g) rfl (i * 2 + 1) _ (rowW_get _ _ _ _ (by omega))
    rw [Addr.add_lit] at c1 c2
    rw [if_pos (by omega), show i * 2 / 2 = i by omega] at c1
    rw [if_neg (by omega), show (i * 2 + 1) / 2 = i by omega] at c2
    obtain ⟨a, c, e⟩ := (hd i hi).slice
    refine ⟨c1, a, c, ?_, ?_⟩
    · rw [← e, Nat.add_assoc]; exact c2
    · rw [← e]; exact (hd i hi).rd

theorem OwnW.below {e : TypeId} {w w' : World} {lo : Nat} {v : Value} {ps : List (Int × List Int)} {dv : Nat → Value} (h : OwnW e w lo v ps dv) (hb : Below w.heap.size w w') : OwnW e w' lo v ps dv := by
  obtain ⟨ho, hd, h3, h4⟩ := h
  refine ⟨⟨ho.1, ?_⟩, fun i hi => (hd i hi).below hb, h3, h4⟩
  rcases ho.2 with hn | ⟨g, cap, cur, rfl, hbg, hgg, rest⟩
  · exact .inl hn
  · exact .inr ⟨g, cap, cur, rfl, hbg, by rw [hb.block g (Array.getElem?_eq_some_iff.1 hgg).1]; exact hgg, rest⟩

theorem OwnW.mono {e : TypeId} {w : World} {lo lo' : Nat} {v : Value} {ps : List (Int × List Int)} {dv : Nat → Value} (h : OwnW e w lo v ps dv) (hl : lo' ≤ lo) : OwnW e w lo' v ps dv := by
  obtain ⟨ho, hd, h3, h4⟩ := h
  refine ⟨⟨ho.1, ?_⟩, fun i hi => (hd i hi).mono hl, h3, h4⟩
  rcases ho.2 with hn | ⟨g, cap, cur, rfl, hbg, rest⟩
  · exact .inl hn
  · exact .inr ⟨g, cap, cur, rfl, by omega, rest⟩

end Go.Proofs.Ytmgolinleiahpaa

namespace Go.Proofs.Ytmgolinleiahpaa
open Go.RowKit

theorem Try.infoW : (Try.prog.info? 42).map (fun i => (i.zero, i.size, i.bytes)) = some (some (.agg #[.int .i64 0, .slice none 0 0]), 2, 32) := by kernel_rfl

def dvSet (dv : Nat → Value) (k : Nat) (v : Value) (i : Nat) : Value := if i = k then v else dv i

theorem OwnW.slice {e : TypeId} {w : World} {lo : Nat} {v : Value} {ps : List (Int × List Int)} {dv : Nat → Value} (h : OwnW e w lo v ps dv) : ∃ a c, v = .slice a ps.length c := by
  obtain ⟨a, c, h0, _⟩ := h.rd.len
  exact ⟨a, c, h0⟩

theorem OwnW.setBelow {e : TypeId} {w : World} {lo : Nat} {v : Value} {ps : List (Int × List Int)} {dv : Nat → Value} (h : OwnW e w lo v ps dv) {a : Addr} (ha : a.block < lo) (u : Value) : OwnW e (w.setCell a u) lo v ps dv :=
  ⟨ownsRow_setCell_below h.1 ha u, fun i hi => (h.2.1 i hi).setBelow ha u, h.2.2⟩

end Go.Proofs.Ytmgolinleiahpaa

namespace Go.Proofs.Ytmgolinleiahpaa
open Go.RowKit

/-- Record i is one of the disk. -/
def okP (n : Nat) (ps : List (Int × List Int)) (i : Nat) : Prop := 0 ≤ pB ps i ∧ pB ps i < n ∧ (pD ps i).length = 64
def vldP (dl : Nat) (ps : List (Int × List Int)) : Prop := dl % 64 = 0 ∧ 1 ≤ dl / 64 ∧ dl / 64 ≤ 300 ∧ ps.length ≤ 2000 ∧ ∀ i, i < ps.length → okP (dl / 64) ps i
def okBk (n : Nat) (ps : List (Int × List Int)) (i : Nat) : Bool := decide (0 ≤ pB ps i) && decide (pB ps i < n) && decide ((pD ps i).length = 64)
theorem okBk_iff (n : Nat) (ps : List (Int × List Int)) (i : Nat) : okBk n ps i = true ↔ okP n ps i := by unfold okBk okP; simp [and_assoc]
def vldD (dl : Nat) (ps : List (Int × List Int)) : Bool := decide (dl % 64 = 0) && decide (1 ≤ dl / 64) && decide (dl / 64 ≤ 300) && decide (ps.length ≤ 2000) && (List.range ps.length).all (okBk (dl / 64) ps)
theorem vldD_iff (dl : Nat) (ps : List (Int × List Int)) : vldD dl ps = true ↔ vldP dl ps := by
  unfold vldD vldP
  simp only [Bool.and_eq_true, decide_eq_true_eq, List.all_eq_true, List.mem_range, okBk_iff, and_assoc]
theorem vldD_yes {dl : Nat} {ps : List (Int × List Int)} (h : vldP dl ps) : vldD dl ps = true := (vldD_iff dl ps).2 h
theorem vldD_no {dl : Nat} {ps : List (Int × List Int)} (h : ¬ vldP dl ps) : vldD dl ps = false := by
  cases e : vldD dl ps with
  | false => rfl
  | true => exact absurd ((vldD_iff dl ps).1 e) h

set_option maxHeartbeats 400000 in
theorem l1Blocks_any (w : World) (ao : Option Addr) (n cap : Nat) (vp : Value) (hn : n ≤ 1048576) :
    Calls Try.prog 41 #[.agg #[.slice ao n cap, vp]] w fun e w' => e = .returned (.int .i64 ((n / 64 : Nat) : Int)) ∧ Below w.heap.size w w' := by
  go_enter Try.func41, Try.ntmps41
  go_wp2
  go_ret
  exact ⟨ret_int (by omega), (Below.refl _ _).alloc (Nat.le_refl _) _⟩

set_option maxHeartbeats 400000 in
theorem blockCount_any (w : World) (ao : Option Addr) (n cap : Nat) (vp : Value) (hn : n ≤ 1048576) :
    Calls Try.prog 77 #[.agg #[.slice ao n cap, vp]] w fun e w' => e = .returned (.int .i64 ((n / 64 : Nat) : Int)) ∧ Below w.heap.size w w' := by
  go_enter Try.func77, Try.ntmps77
  go_wp2
  go_ret
  exact ⟨ret_int (by omega), (Below.refl _ _).alloc (Nat.le_refl _) _⟩

set_option maxHeartbeats 400000 in
theorem hasBlock_any (w : World) (ao : Option Addr) (n cap : Nat) (vp : Value) (x : Int) (hn : n ≤ 1048576) :
    Calls Try.prog 44 #[.agg #[.slice ao n cap, vp], .int .i64 x] w fun e w' => e = .returned (.bool (decide (0 ≤ x ∧ x < (n / 64 : Nat)))) ∧ Below w.heap.size w w' := by
  have B0 : Hid (Below w.heap.size w (w.alloc (.cells #[.slice ao n cap, vp] 32))) := (Below.refl _ _).alloc (Nat.le_refl _) _
  by_cases h0 : 0 ≤ x
  · go_enter Try.func44, Try.ntmps44
    go_wp2_with fail
    refine (blockCount_any _ ao n cap vp hn).mono ?_
    rintro e w1 ⟨rfl, b1⟩
    have B1 : Hid (Below w.heap.size w w1) := B0.out.trans (b1.mono (by simp))
    clear b1
    generalize hm : n / 64 = m at *
    have HM : Hid (n / 64 = m) := hm
    clear hm
    by_cases h1 : x < (m : Int)
    · go_wp2
      go_ret
      exact ⟨ret_bool (by have := HM.out; symm; rw [decide_eq_true_eq]; omega), B1.out⟩
    · go_wp2
      go_ret
      exact ⟨ret_bool (by have := HM.out; symm; rw [decide_eq_decide]; omega), B1.out⟩
  · have hd : decide (0 ≤ x) = false := by simpa using h0
    go_enter Try.func44, Try.ntmps44
    go_wp2
    go_ret
    exact ⟨ret_bool (by symm; first | rfl | (rw [decide_eq_false_iff_not]; omega)), B0.out⟩

/-- The cells of a slice of records. -/
def CellsW (w : World) (b o n : Nat) (ps : List (Int × List Int)) : Prop :=
  ∀ i, i < n → w.cell? ⟨b, o + i * 2, none⟩ = some (.int .i64 (pB ps i)) ∧ ∃ da c, w.cell? ⟨b, o + i * 2 + 1, none⟩ = some (.slice da (pD ps i).length c)

theorem RdW.cells {w : World} {ao : Option Addr} {n cap : Nat} {ps : List (Int × List Int)} (h : RdW w (.slice ao n cap) ps) (hn : 0 < n) : ∃ b o, ao = some ⟨b, o, none⟩ ∧ b < w.heap.size ∧ CellsW w b o n ps ∧ ps.length = n := by
  obtain ⟨ao', cap', e, h1, h2, h3⟩ := h
  simp only [Value.slice.injEq] at e
  obtain ⟨rfl, rfl, rfl⟩ := e
  rcases h3 with rfl | ⟨b, o, rfl, hb, hc⟩
  · simp at hn
  · exact ⟨b, o, rfl, hb, fun i hi => ⟨(hc i hi).1, by obtain ⟨da, c, h, _⟩ := (hc i hi).2; exact ⟨da, c, h⟩⟩, rfl⟩

theorem CellsW.below {w w' : World} {b o n : Nat} {ps : List (Int × List Int)} (h : CellsW w b o n ps) (hb : b < w.heap.size) (hB : Below w.heap.size w w') : CellsW w' b o n ps :=
  fun i hi => ⟨(hB.cell (p := ⟨b, _, none⟩) hb).trans (h i hi).1, by obtain ⟨da, c, e⟩ := (h i hi).2; exact ⟨da, c, (hB.cell (p := ⟨b, _, none⟩) hb).trans e⟩⟩

set_option maxHeartbeats 1000000 in
set_option maxRecDepth 100000 in
theorem specValid_loop (w : World) (va vb : Option Addr) (dl ca n cb : Nat) (ps : List (Int × List Int)) (hp : RdW w (.slice vb n cb) ps) (hl : ps.length = n) (hd : dl ≤ 1048576)
    (h1 : dl % 64 = 0) (h2 : 1 ≤ dl / 64) (h3 : dl / 64 ≤ 300) (h4 : n ≤ 2000) (hdl : ∀ i, (pD ps i).length ≤ 1048576) :
    Calls Try.prog 47 #[.agg #[.slice va dl ca, .slice vb n cb]] w fun e w' => e = .returned (.bool (vldD dl ps)) ∧ Below w.heap.size w w' := by
  have B0 : Hid (Below w.heap.size w (w.alloc (.cells #[.slice va dl ca, .slice vb n cb] 32))) := (Below.refl _ _).alloc (Nat.le_refl _) _
  have HP : Hid (RdW w (.slice vb n cb) ps) := hp
  have HL : Hid (ps.length = n) := hl
  have HDL : Hid (∀ i, (pD ps i).length ≤ 1048576) := hdl
  clear hp hl hdl
  go_enter Try.func47, Try.ntmps47
  go_wp2_with fail
  refine (l1Blocks_any _ va dl ca _ hd).mono ?_
  rintro e w1 ⟨rfl, b1⟩
  obtain ⟨c0, c1, _, _, z1⟩ := box2_later b1
  have B1 : Hid (Below w.heap.size w w1) := B0.out.trans (b1.mono (by simp))
  have t1 : (((dl : Int) % 64) != 0) = false := by rw [bne_eq_false_iff_eq]; omega
  have H1 : Hid (dl % 64 = 0) := h1
  clear b1 h1
  generalize hm : dl / 64 = m at *
  have HM : Hid (dl / 64 = m) := hm
  have t2 : ¬ (m : Int) < 1 := by omega
  have t3 : ¬ (300 : Int) < (m : Int) := by omega
  have t4 : ¬ (2000 : Int) < (n : Int) := by omega
  clear hm
  go_wp2
  go_loop [4] (fun i => ∃ k : Nat, k ≤ n ∧ i = .int .i64 k ∧ Hid (∀ i, i < k → okP m ps i)) (fun i => n - (intOf i).toNat)
  case atStart => exact ⟨0, Nat.zero_le _, rfl, fun i hi => by omega⟩
  case round =>
    obtain ⟨k, hk, rfl, HOK⟩ := hrel
    by_cases hlt : k < n
    · obtain ⟨b, o, rfl, hb, hc, _⟩ := HP.out.cells (by omega)
      obtain ⟨e1, da, dc, e2⟩ := (hc.below hb B1.out) k hlt
      have hltI : (k : Int) < (n : Int) := by omega
      have hdk := HDL.out k
      by_cases hok : okP m ps k
      · have HK : Hid (okP m ps k) := hok
        obtain ⟨q1, q2, q3⟩ := hok
        have q4 : (((pD ps k).length : Int) != 64) = false := by rw [bne_eq_false_iff_eq]; omega
        have q5 : ¬ pB ps k < 0 := by omega
        have q6 : ¬ (m : Int) ≤ pB ps k := by omega
        clear q1 q2 q3 hc
        go_wp2
        go_round
        case rel => exact ⟨k + 1, by omega, by go_num, fun i hi => by by_cases e : i = k; (subst e; exact HK.out); exact HOK.out i (by omega)⟩
        case measure => simp [intOf]; omega
      · have HN : Hid (vldD dl ps = false) := vldD_no (by rintro ⟨_, _, _, _, h5⟩; rw [HM.out] at h5; exact hok (h5 k (by rw [HL.out]; exact hlt)))
        clear hc
        by_cases q1 : pB ps k < 0
        · go_wp2
          go_ret
          exact ⟨ret_bool HN.out.symm, B1.out⟩
        · by_cases q2 : (m : Int) ≤ pB ps k
          · go_wp2
            go_ret
            exact ⟨ret_bool HN.out.symm, B1.out⟩
          · have q3 : (((pD ps k).length : Int) != 64) = true := by rw [bne_iff_ne]; intro e; exact hok ⟨by omega, by omega, by omega⟩
            clear hok
            go_wp2
            go_ret
            exact ⟨ret_bool HN.out.symm, B1.out⟩
    · have HY : Hid (vldD dl ps = true) := vldD_yes ⟨H1.out, by rw [HM.out]; omega, by rw [HM.out]; omega, by rw [HL.out]; omega, fun i hi => by rw [HM.out]; exact HOK.out i (by rw [HL.out] at hi; omega)⟩
      have hltI : ¬ (k : Int) < (n : Int) := by omega
      go_wp2
      go_ret
      exact ⟨ret_bool HY.out.symm, B1.out⟩

set_option maxHeartbeats 1000000 in
set_option maxRecDepth 100000 in
theorem specValid_head (w : World) (va vb : Option Addr) (dl ca n cb : Nat) (hd : dl ≤ 1048576) (hn : n ≤ 1048576) (h : ¬ (dl % 64 = 0 ∧ 1 ≤ dl / 64 ∧ dl / 64 ≤ 300 ∧ n ≤ 2000)) :
    Calls Try.prog 47 #[.agg #[.slice va dl ca, .slice vb n cb]] w fun e w' => e = .returned (.bool false) ∧ Below w.heap.size w w' := by
  have B0 : Hid (Below w.heap.size w (w.alloc (.cells #[.slice va dl ca, .slice vb n cb] 32))) := (Below.refl _ _).alloc (Nat.le_refl _) _
  go_enter Try.func47, Try.ntmps47
  go_wp2_with fail
  refine (l1Blocks_any _ va dl ca _ hd).mono ?_
  rintro e w1 ⟨rfl, b1⟩
  obtain ⟨c0, c1, _, _, z1⟩ := box2_later b1
  have B1 : Hid (Below w.heap.size w w1) := B0.out.trans (b1.mono (by simp))
  clear b1
  by_cases h1 : dl % 64 = 0
  · have t1 : (((dl : Int) % 64) != 0) = false := by rw [bne_eq_false_iff_eq]; omega
    generalize dl / 64 = m at *
    have H1 : Hid (dl % 64 = 0) := h1
    clear h1
    by_cases h2 : (m : Int) < 1
    · go_wp2
      go_ret
      exact ⟨rfl, B1.out⟩
    · by_cases h3 : (300 : Int) < (m : Int)
      · go_wp2
        go_ret
        exact ⟨rfl, B1.out⟩
      · have h4 : (2000 : Int) < (n : Int) := by have := H1.out; omega
        clear h
        go_wp2
        go_ret
        exact ⟨rfl, B1.out⟩
  · have t1 : (((dl : Int) % 64) != 0) = true := by rw [bne_iff_ne]; omega
    generalize dl / 64 = m at *
    clear h1 h
    go_wp2
    go_ret
    exact ⟨rfl, B1.out⟩

theorem specValid_any (w : World) (va vb : Option Addr) (dl ca n cb : Nat) (ps : List (Int × List Int)) (hp : RdW w (.slice vb n cb) ps) (hl : ps.length = n) (hd : dl ≤ 1048576) (hn : n ≤ 1048576) (hdl : ∀ i, (pD ps i).length ≤ 1048576) :
    Calls Try.prog 47 #[.agg #[.slice va dl ca, .slice vb n cb]] w fun e w' => e = .returned (.bool (vldD dl ps)) ∧ Below w.heap.size w w' := by
  by_cases h : dl % 64 = 0 ∧ 1 ≤ dl / 64 ∧ dl / 64 ≤ 300 ∧ n ≤ 2000
  · exact specValid_loop w va vb dl ca n cb ps hp hl hd h.1 h.2.1 h.2.2.1 h.2.2.2 hdl
  · rw [vldD_no (fun h5 => h ⟨h5.1, h5.2.1, h5.2.2.1, by have := h5.2.2.2.1; omega⟩)]
    exact specValid_head w va vb dl ca n cb hd hn h

set_option maxHeartbeats 1000000 in
set_option maxRecDepth 100000 in
theorem implValid_head (w : World) (va vb : Option Addr) (dl ca n cb : Nat) (hd : dl ≤ 1048576) (hn : n ≤ 1048576) (h : ¬ (dl % 64 = 0 ∧ 1 ≤ dl / 64 ∧ dl / 64 ≤ 300 ∧ n ≤ 2000)) :
    Calls Try.prog 43 #[.agg #[.slice va dl ca, .slice vb n cb]] w fun e w' => e = .returned (.bool false) ∧ Below w.heap.size w w' := by
  have B0 : Hid (Below w.heap.size w (w.alloc (.cells #[.slice va dl ca, .slice vb n cb] 32))) := (Below.refl _ _).alloc (Nat.le_refl _) _
  by_cases h1 : dl % 64 = 0
  · have t1 : (((dl : Int) % 64) != 0) = false := by rw [bne_eq_false_iff_eq]; omega
    have HX : Hid (¬ (dl % 64 = 0 ∧ 1 ≤ dl / 64 ∧ dl / 64 ≤ 300 ∧ n ≤ 2000)) := h
    have H1 : Hid (dl % 64 = 0) := h1
    clear h h1
    go_enter Try.func43, Try.ntmps43
    go_wp2_with fail
    refine (blockCount_any _ va dl ca _ hd).mono ?_
    rintro e w1 ⟨rfl, b1⟩
    obtain ⟨c0, c1, _, _, z1⟩ := box2_later b1
    have B1 : Hid (Below w.heap.size w w1) := B0.out.trans (b1.mono (by simp))
    have h := HX.out
    have h1 := H1.out
    clear b1
    generalize dl / 64 = m at *
    by_cases h2 : (m : Int) < 1
    · clear h h1
      go_wp2
      go_ret
      exact ⟨rfl, B1.out⟩
    · by_cases h3 : (300 : Int) < (m : Int)
      · clear h h1
        go_wp2
        go_ret
        exact ⟨rfl, B1.out⟩
      · have h4 : (2000 : Int) < (n : Int) := by omega
        clear h h1
        go_wp2
        go_ret
        exact ⟨rfl, B1.out⟩
  · have t1 : (((dl : Int) % 64) != 0) = true := by rw [bne_iff_ne]; omega
    clear h1 h
    go_enter Try.func43, Try.ntmps43
    go_wp2
    go_ret
    exact ⟨rfl, B0.out⟩

set_option maxHeartbeats 1000000 in
set_option maxRecDepth 100000 in
theorem implValid_loop (w : World) (va vb : Option Addr) (dl ca n cb : Nat) (ps : List (Int × List Int)) (hp : RdW w (.slice vb n cb) ps) (hl : ps.length = n) (hd : dl ≤ 1048576)
    (h1 : dl % 64 = 0) (h2 : 1 ≤ dl / 64) (h3 : dl / 64 ≤ 300) (h4 : n ≤ 2000) (hdl : ∀ i, (pD ps i).length ≤ 1048576) :
    Calls Try.prog 43 #[.agg #[.slice va dl ca, .slice vb n cb]] w fun e w' => e = .returned (.bool (vldD dl ps)) ∧ Below w.heap.size w w' := by
  have B0 : Hid (Below w.heap.size w (w.alloc (.cells #[.slice va dl ca, .slice vb n cb] 32))) := (Below.refl _ _).alloc (Nat.le_refl _) _
  have HP : Hid (RdW w (.slice vb n cb) ps) := hp
  have HL : Hid (ps.length = n) := hl
  have HDL : Hid (∀ i, (pD ps i).length ≤ 1048576) := hdl
  have H1 : Hid (dl % 64 = 0) := h1
  have H2 : Hid (1 ≤ dl / 64 ∧ dl / 64 ≤ 300) := ⟨h2, h3⟩
  have t1 : (((dl : Int) % 64) != 0) = false := by rw [bne_eq_false_iff_eq]; omega
  clear hp hl hdl h1 h2 h3
  go_enter Try.func43, Try.ntmps43
  go_wp2_with fail
  refine (blockCount_any _ va dl ca _ hd).mono ?_
  rintro e w1 ⟨rfl, b1⟩
  have X1 : Hid (Box2 w1 w.heap.size (.slice va dl ca) (.slice vb n cb)) := (Box2.new w _ _ _).below b1
  have B1 : Hid (Below w.heap.size w w1) := B0.out.trans (b1.mono (by simp))
  clear b1
  have h2 := H2.out
  generalize hm : dl / 64 = m at *
  have HM : Hid (dl / 64 = m) := hm
  have t2 : ¬ (m : Int) < 1 := by omega
  have t3 : ¬ (300 : Int) < (m : Int) := by omega
  have t4 : ¬ (2000 : Int) < (n : Int) := by omega
  clear hm h2
  obtain ⟨z1, c0, c1⟩ := X1.out
  go_wp2
  clear c0 c1 z1
  go_loopw [28] (fun i wr => ∃ k : Nat, k ≤ n ∧ i = .int .i64 k ∧ Hid (∀ i, i < k → okP m ps i) ∧ Hid (Box2 wr w.heap.size (.slice va dl ca) (.slice vb n cb)) ∧ Below w.heap.size w wr) (fun i _ => n - (intOf i).toNat)
  case atStart => exact ⟨0, Nat.zero_le _, rfl, fun i hi => by omega, X1, B1.out⟩
  case round =>
    clear X1 B1
    obtain ⟨k, hk, rfl, HOK, HX, hg⟩ := hrel
    by_cases hlt : k < n
    · obtain ⟨b, o, rfl, hb, hc, _⟩ := HP.out.cells (by omega)
      obtain ⟨e1, da, dc, e2⟩ := (hc.below hb hg) k hlt
      have hltI : (k : Int) < (n : Int) := by omega
      have hdk := HDL.out k
      obtain ⟨z1, c0, c1⟩ := HX.out
      have HG : Hid (Below w.heap.size w wr) := hg
      clear hg hc
      go_wp2_with fail
      have BA : Hid (Below w.heap.size w (wr.alloc (.cells #[.int .i64 (pB ps k), .slice da (pD ps k).length dc] 42))) := HG.out.alloc HG.out.size _
      have XA : Hid (Box2 (wr.alloc (.cells #[.int .i64 (pB ps k), .slice da (pD ps k).length dc] 42)) w.heap.size (.slice va dl ca) (.slice (some ⟨b, o, none⟩) n cb)) := HX.out.below ((Below.refl _ _).alloc (Nat.le_refl _) _)
      have XB : Hid (Box2 (wr.alloc (.cells #[.int .i64 (pB ps k), .slice da (pD ps k).length dc] 42)) wr.heap.size (.int .i64 (pB ps k)) (.slice da (pD ps k).length dc)) := Box2.new _ _ _ _
      generalize wr.alloc (.cells #[.int .i64 (pB ps k), .slice da (pD ps k).length dc] 42) = wa at *
      refine (hasBlock_any _ va dl ca _ (pB ps k) hd).mono ?_
      rintro e w2 ⟨rfl, b2⟩
      rw [HM.out]
      have X2 : Hid (Box2 w2 w.heap.size (.slice va dl ca) (.slice (some ⟨b, o, none⟩) n cb)) := XA.out.below b2
      have XC : Hid (Box2 w2 wr.heap.size (.int .i64 (pB ps k)) (.slice da (pD ps k).length dc)) := XB.out.below b2
      have B2 : Hid (Below w.heap.size w w2) := BA.out.trans (b2.mono BA.out.size)
      obtain ⟨_, d0, d1⟩ := XC.out
      clear b2 c0 c1 z1 e1 e2 HX
      by_cases hok : okP m ps k
      · have HK : Hid (okP m ps k) := hok
        obtain ⟨q1, q2, q3⟩ := hok
        have q4 : (((pD ps k).length : Int) != 64) = false := by rw [bne_eq_false_iff_eq]; omega
        rw [show decide (0 ≤ pB ps k ∧ pB ps k < (m : Int)) = true by rw [decide_eq_true_eq]; omega]
        clear q1 q2 q3
        go_wp2
        go_roundw
        case rel => exact ⟨k + 1, by omega, by go_num, (fun i hi => by by_cases e : i = k; (subst e; exact HK.out); exact HOK.out i (by omega)), X2, B2.out⟩
        case measure => simp [intOf]; omega
      · have HN : Hid (vldD dl ps = false) := vldD_no (by rintro ⟨_, _, _, _, h5⟩; rw [HM.out] at h5; exact hok (h5 k (by rw [HL.out]; exact hlt)))
        by_cases q1 : 0 ≤ pB ps k ∧ pB ps k < (m : Int)
        · rw [show decide (0 ≤ pB ps k ∧ pB ps k < (m : Int)) = true by rw [decide_eq_true_eq]; exact q1]
          have q3 : (((pD ps k).length : Int) != 64) = true := by rw [bne_iff_ne]; intro e; exact hok ⟨q1.1, q1.2, by omega⟩
          clear hok q1
          go_wp2
          go_ret
          exact ⟨ret_bool HN.out.symm, B2.out⟩
        · rw [show decide (0 ≤ pB ps k ∧ pB ps k < (m : Int)) = false by rw [decide_eq_false_iff_not]; exact q1]
          clear hok q1
          go_wp2
          go_ret
          exact ⟨ret_bool HN.out.symm, B2.out⟩
    · have HY : Hid (vldD dl ps = true) := vldD_yes ⟨H1.out, by rw [HM.out]; exact H2.out.1, by rw [HM.out]; exact H2.out.2, by rw [HL.out]; omega, fun i hi => by rw [HM.out]; exact HOK.out i (by rw [HL.out] at hi; omega)⟩
      have hltI : ¬ (k : Int) < (n : Int) := by omega
      have HG : Hid (Below w.heap.size w wr) := hg
      clear hg
      go_wp2
      go_ret
      exact ⟨ret_bool HY.out.symm, HG.out⟩

theorem implValid_any (w : World) (va vb : Option Addr) (dl ca n cb : Nat) (ps : List (Int × List Int)) (hp : RdW w (.slice vb n cb) ps) (hl : ps.length = n) (hd : dl ≤ 1048576) (hn : n ≤ 1048576) (hdl : ∀ i, (pD ps i).length ≤ 1048576) :
    Calls Try.prog 43 #[.agg #[.slice va dl ca, .slice vb n cb]] w fun e w' => e = .returned (.bool (vldD dl ps)) ∧ Below w.heap.size w w' := by
  by_cases h : dl % 64 = 0 ∧ 1 ≤ dl / 64 ∧ dl / 64 ≤ 300 ∧ n ≤ 2000
  · exact implValid_loop w va vb dl ca n cb ps hp hl hd h.1 h.2.1 h.2.2.1 h.2.2.2 hdl
  · rw [vldD_no (fun h5 => h ⟨h5.1, h5.2.1, h5.2.2.1, by have := h5.2.2.2.1; omega⟩)]
    exact implValid_head w va vb dl ca n cb hd hn h

end Go.Proofs.Ytmgolinleiahpaa

namespace Go.Proofs.Ytmgolinleiahpaa
open Go.RowKit

/-- Only blocks from lo to hi may have turned. -/
structure Within (lo hi : Nat) (w w' : World) : Prop where
  os : w'.os = w.os
  tape : w'.tape = w.tape
  output : w'.output = w.output
  size : w.heap.size ≤ w'.heap.size
  block : ∀ k, k < w.heap.size → (k < lo ∨ hi ≤ k) → w'.heap[k]? = w.heap[k]?

theorem Within.refl (lo hi : Nat) (w : World) : Within lo hi w w := ⟨rfl, rfl, rfl, Nat.le_refl _, fun _ _ _ => rfl⟩
theorem Within.trans {lo hi : Nat} {a b c : World} (h : Within lo hi a b) (k : Within lo hi b c) : Within lo hi a c :=
  ⟨k.os.trans h.os, k.tape.trans h.tape, k.output.trans h.output, Nat.le_trans h.size k.size, fun i hi hj => (k.block i (Nat.lt_of_lt_of_le hi h.size) hj).trans (h.block i hi hj)⟩
theorem Within.of_grown {lo hi : Nat} {a b : World} {row : Option Nat} (h : a.grownBy b row) (hr : ∀ g, row = some g → lo ≤ g ∧ g < hi) : Within lo hi a b :=
  ⟨h.os, h.tape, h.output, h.size, fun k hk hj => h.block k hk (fun e => by have := hr k e.symm; omega)⟩
theorem Within.setCell {lo hi g : Nat} (w : World) (h1 : lo ≤ g) (h2 : g < hi) (j : Nat) (u : Value) : Within lo hi w (w.setCell ⟨g, j, none⟩ u) :=
  Within.of_grown (grownBy_set w w g j u (World.grownBy.refl _ _)) (fun q e => by injection e with e; omega)
theorem Within.below {lo hi B : Nat} {a b c : World} (hb : Below B a b) (h : Within lo hi b c) (hB : B ≤ lo) (hs : B ≤ b.heap.size) : Below B a c :=
  ⟨h.os.trans hb.os, h.tape.trans hb.tape, h.output.trans hb.output, Nat.le_trans hb.size h.size, fun k hk => (h.block k (by omega) (.inl (by omega))).trans (hb.block k hk)⟩
theorem Within.own {lo hi : Nat} {a b : World} (h : Within lo hi a b) {k : IntKind} {e : TypeId} {B : Nat} {v : Value} {xs : List Int} (ho : Own k e a B v xs) (hv : ∀ g, v.ownBlock = some g → g < lo ∨ hi ≤ g) : Own k e b B v xs := by
  refine ⟨ho.1, ?_⟩
  rcases ho.2 with hn | ⟨g, cap, cur, rfl, hbg, hgg, rest⟩
  · exact .inl hn
  · exact .inr ⟨g, cap, cur, rfl, hbg, by rw [h.block g (Array.getElem?_eq_some_iff.1 hgg).1 (hv g rfl)]; exact hgg, rest⟩
theorem Within.ownW {lo hi : Nat} {a b : World} (h : Within lo hi a b) {e : TypeId} {B : Nat} {v : Value} {ps : List (Int × List Int)} {dv : Nat → Value} (ho : OwnW e a B v ps dv)
    (hv : ∀ g, v.ownBlock = some g → g < lo ∨ hi ≤ g) (hd : ∀ i, i < ps.length → ∀ g, (dv i).ownBlock = some g → g < lo ∨ hi ≤ g) : OwnW e b B v ps dv := by
  refine ⟨⟨ho.1.1, ?_⟩, fun i hi => (ho.2.1 i hi).elim fun _ h' => ⟨_, h.own h' (hd i hi)⟩, ho.2.2⟩
  rcases ho.1.2 with hn | ⟨g, cap, cur, rfl, hbg, hgg, rest⟩
  · exact .inl hn
  · exact .inr ⟨g, cap, cur, rfl, hbg, by rw [h.block g (Array.getElem?_eq_some_iff.1 hgg).1 (hv g rfl)]; exact hgg, rest⟩
/-- A disk of the call's own: its bytes in blocks from lo to mid, its records from mid to hi. -/
structure OwnD (w : World) (lo hi : Nat) (vd vp : Value) (dur : List Int) (ps : List (Int × List Int)) (dv : Nat → Value) : Prop where
  d : Own .u8 5 w lo vd dur
  p : OwnW 42 w lo vp ps dv
  dlt : ∀ g, vd.ownBlock = some g → g < hi
  plt : ∀ g, vp.ownBlock = some g → g < hi
  qlt : ∀ i, i < ps.length → ∀ g, (dv i).ownBlock = some g → g < hi
  dp : Ne2 vp vd
  dq : ∀ i, i < ps.length → Ne2 (dv i) vd

theorem OwnD.within {w w' : World} {lo hi l h : Nat} {vd vp : Value} {dur : List Int} {ps : List (Int × List Int)} {dv : Nat → Value} (ho : OwnD w lo hi vd vp dur ps dv) (hw : Within l h w w') (hd : hi ≤ l ∨ h ≤ lo) : OwnD w' lo hi vd vp dur ps dv :=
  ⟨hw.own ho.d (fun g hg => by have := (ho.d.lt g hg).1; have := ho.dlt g hg; omega),
   hw.ownW ho.p (fun g hg => by have := (World.ownsRow.lt ho.p.1 g hg).1; have := ho.plt g hg; omega) (fun i hi g hg => by have := ((ho.p.2.1 i hi).lt g hg).1; have := ho.qlt i hi g hg; omega),
   ho.dlt, ho.plt, ho.qlt, ho.dp, ho.dq⟩
theorem OwnD.below {w w' : World} {lo hi : Nat} {vd vp : Value} {dur : List Int} {ps : List (Int × List Int)} {dv : Nat → Value} (ho : OwnD w lo hi vd vp dur ps dv) (hb : Below w.heap.size w w') : OwnD w' lo hi vd vp dur ps dv :=
  ⟨ho.d.below hb, ho.p.below hb, ho.dlt, ho.plt, ho.qlt, ho.dp, ho.dq⟩

end Go.Proofs.Ytmgolinleiahpaa

namespace Go.Proofs.Ytmgolinleiahpaa
open Go.RowKit

set_option maxHeartbeats 400000 in
set_option maxRecDepth 100000 in
theorem l1Copy_row (w : World) (b o n cap : Nat) (xs : List Int) (hx : xs.length = n) (hb : b < w.heap.size) (hc : ∀ i, i < n → w.cell? ⟨b, o + i, none⟩ = some (.int .u8 (xs.getD i 0))) (hn : n ≤ 1099511627776) :
    Calls Try.prog 49 #[.slice (some ⟨b, o, none⟩) n cap] w fun e w' => ∃ v', e = .returned v' ∧ Own .u8 5 w' w.heap.size v' xs ∧ Below w.heap.size w w' := by
  obtain ⟨i0, hi, hz0, hz1, hz2⟩ := info_parts Try.infoB
  have HC : Hid (∀ i, i < n → w.cell? ⟨b, o + i, none⟩ = some (.int .u8 (xs.getD i 0))) := hc
  have HX : Hid (xs.length = n) := hx
  clear hc hx
  go_enter Try.func49, Try.ntmps49
  go_wp2
  go_loopw [3, 4] (fun v i wr => ∃ k : Nat, k ≤ n ∧ i = .int .i64 k ∧ wr.ownsRow w.heap.size 5 1 v k ((xs.take k).map (Value.int .u8)) ∧ Below w.heap.size w wr) (fun _ i _ => n - (intOf i).toNat)
  case atStart => exact ⟨0, Nat.zero_le _, rfl, World.ownsRow_lit w #[] 0 (Nat.le_refl _) (Nat.zero_le _) rfl, (Below.refl _ _).alloc (Nat.le_refl _) _⟩
  case round =>
    obtain ⟨k, hk, rfl, ho, hg⟩ := hrel
    by_cases hlt : k < n
    · have hltI : (k : Int) < (n : Int) := by omega
      have hsrc : wr.cell? ⟨b, o + k, none⟩ = some (.int .u8 (xs.getD k 0)) := (hg.cell (p := ⟨b, o + k, none⟩) hb).trans (HC.out k hlt)
      have HTK : Hid (xs.take (k + 1) = xs.take k ++ [xs.getD k 0]) := take_succ_getD xs k (by rw [HX.out]; exact hlt)
      generalize xs.getD k 0 = x at *
      go_wp2_with (at_builtin; go_must (refine wpList_append_own _ rfl _ _ 29 rfl w.heap.size 5 i0 (.int .u8 0) 1 1 Try.underlying29 hi hz0 hz1 hz2 rfl (by decide) _ _ _ rfl (ho.alloc _) ⟨wr.heap.size, 0, none⟩ 1 1 [.int .u8 x] rfl rfl (cell_one_new _ _ _) (by intro u hu; simp at hu; subst hu; rfl) ?c3 ?c4 ?c5 ?_))
      case c3 => unfold maxLen; omega
      case c4 => omega
      case c5 => have := hg.size; simp; omega
      intro v2 w2 ho2 hg2 _
      have HO2 : Hid (w2.ownsRow w.heap.size 5 1 v2 (k + 1) ((xs.take (k + 1)).map (Value.int .u8))) := by
        show World.ownsRow _ _ _ _ _ _ _; rw [HTK.out, List.map_append, List.map_take]; exact ho2
      have HG2 : Hid (Below w.heap.size w w2) := (hg.alloc (hg.size) _).grown hg2 (by have := hg.size; simp; omega) (fun q hq => (ho.lt q hq).1)
      clear ho2 hg2 ho hg
      go_wp2
      go_roundw
      case rel => exact ⟨k + 1, by omega, by go_num, HO2.out, HG2.out⟩
      case measure => simp [intOf]; omega
    · have hkn : k = n := by omega
      subst hkn
      go_wp2
      go_ret
      exact ⟨_, rfl, own_of (ys := xs) HX.out rfl (by rw [List.take_of_length_le (by rw [HX.out]; exact Nat.le_refl _)] at ho; exact ho), hg⟩

set_option maxHeartbeats 400000 in
theorem l1Copy_nil (w : World) (ao : Option Addr) (cap : Nat) :
    Calls Try.prog 49 #[.slice ao 0 cap] w fun e w' => ∃ v', e = .returned v' ∧ Own .u8 5 w' w.heap.size v' [] ∧ Below w.heap.size w w' := by
  go_enter Try.func49, Try.ntmps49
  go_wp2
  go_rounds 1
  go_ret
  exact ⟨_, rfl, World.ownsRow_lit w #[] 0 (Nat.le_refl _) (Nat.zero_le _) rfl, (Below.refl _ _).alloc (Nat.le_refl _) _⟩

theorem l1Copy_any (w : World) (v : Value) (xs : List Int) (h : Rd .u8 w v xs) (hn : xs.length ≤ 1099511627776) :
    Calls Try.prog 49 #[v] w fun e w' => ∃ v', e = .returned v' ∧ Own .u8 5 w' w.heap.size v' xs ∧ Below w.heap.size w w' := by
  obtain ⟨ao, cap, rfl, h1, h2, h3⟩ := h
  rcases h3 with rfl | ⟨b, o, rfl, hb, hc⟩
  · exact l1Copy_nil w ao cap
  · exact l1Copy_row w b o xs.length cap xs rfl hb hc hn

theorem cells_list {k : IntKind} {w : World} {b o : Nat} {xs : List Int} (hc : ∀ i, i < xs.length → w.cell? ⟨b, o + i, none⟩ = some (.int k (xs.getD i 0))) : ∀ j u, (xs.map (Value.int k))[j]? = some u → w.cell? ((⟨b, o, none⟩ : Addr).add j) = some u := by
  intro j u hu
  have hj : j < xs.length := by have := (List.getElem?_eq_some_iff.1 hu).1; simpa using this
  rw [Addr.add_lit, hc j hj]
  simp [List.getElem?_eq_getElem hj] at hu
  simp [List.getD, hj, hu]

set_option maxHeartbeats 400000 in
set_option maxRecDepth 100000 in
theorem clone_any (w : World) (v : Value) (xs : List Int) (h : Rd .u8 w v xs) (hn : xs.length ≤ 1099511627776) :
    Calls Try.prog 53 #[v] w fun e w' => ∃ v', e = .returned v' ∧ Own .u8 5 w' w.heap.size v' xs ∧ Below w.heap.size w w' := by
  obtain ⟨i0, hi, hz0, hz1, hz2⟩ := info_parts Try.infoB
  obtain ⟨ao, cap, rfl, h1, h2, h3⟩ := h
  have q22 : ∀ (w : World) (a : Option Addr) (n c n' c' : Nat), (binOp .eql 29 (.slice a n c) (.slice none n' c')).run Try.prog w = .ok (.bool a.isNone) w := fun w a n c n' c' => Lib.run_eql_slice_nil w _ _ a n c n' c' Try.underlying29
  have HE : Hid ((w.alloc (.cells #[] 5)).ownsRow w.heap.size 5 1 (.slice (some ⟨w.heap.size, 0, none⟩) 0 0) 0 []) := World.ownsRow_lit w #[] 0 (Nat.le_refl _) (Nat.zero_le _) rfl
  have HB : Hid (Below w.heap.size w (w.alloc (.cells #[] 5))) := (Below.refl _ _).alloc (Nat.le_refl _) _
  cases ao with
  | none =>
    have hx : xs = [] := by
      rcases h3 with h3 | ⟨b, o, e, _⟩
      · exact h3
      · cases e
    subst hx
    clear h3
    go_enter Try.func53, Try.ntmps53
    go_wp2
    go_ret
    exact ⟨_, rfl, World.ownsRow_nil _ _ _ _, Below.refl _ _⟩
  | some a =>
    have hcs : ∀ j u, (xs.map (Value.int .u8))[j]? = some u → (w.alloc (.cells #[] 5)).cell? (a.add j) = some u := by
      rcases h3 with rfl | ⟨b, o, e, hb, hc⟩
      · intro j u hu; simp at hu
      · injection e with e
        subst e
        exact cells_list (fun i hi => (HB.out.cell (p := ⟨b, o + i, none⟩) hb).trans (hc i hi))
    have HCS : Hid (∀ j u, (xs.map (Value.int .u8))[j]? = some u → (w.alloc (.cells #[] 5)).cell? (a.add j) = some u) := hcs
    clear h3 hcs
    go_enter Try.func53, Try.ntmps53
    go_wp2_with (at_builtin; go_must (refine wpList_append_own _ rfl _ _ 29 rfl w.heap.size 5 i0 (.int .u8 0) 1 1 Try.underlying29 hi hz0 hz1 hz2 rfl (by decide) _ _ _ rfl HE.out a xs.length cap (xs.map (Value.int .u8)) rfl ?c0 HCS.out (ints_oneCell _ _) ?c3 ?c4 ?c5 ?_))
    case c0 => simp
    case c3 => unfold maxLen; omega
    case c4 => omega
    case c5 => simp
    intro v2 w2 ho2 hg2 _
    have HO2 : Hid (Own .u8 5 w2 w.heap.size v2 xs) := by
      exact ho2
    have HG2 : Hid (Below w.heap.size w w2) := HB.out.grown hg2 (by simp) (by intro q hq; simp [Value.ownBlock] at hq; omega)
    clear ho2 hg2
    go_wp2
    go_ret
    exact ⟨_, rfl, HO2.out, HG2.out⟩

/-! ### appends inside a region that draws -/
theorem step_fits {P : Program} {ops : Array Oper} {o : Oper} {a : Act} {w : World} {K : Act → World → Prop} {Q : Exit → Act → World → Prop} {E : Prop}
    (hg : o.guard = none) (s x : Operand) (t : TypeId) (hop : o.op = Op.call { callee := Callee.builtin Builtin.append, args := #[s, x], argTypes := #[t, t] })
    (base : Nat) (e : TypeId) (i : TypeInfo) (size : Nat) (h1 : P.underlying t = some (.slice e)) (h2 : P.info? e = some i) (h4 : i.size = size)
    (g k cap : Nat) (xs : List Value) (hs : a.eval s = .slice (some ⟨g, 0, none⟩) k cap) (hown : w.ownsRow base e size (.slice (some ⟨g, 0, none⟩) k cap) k xs) (ad : Addr) (m c : Nat) (news : List Value) (hx : a.eval x = .slice (some ad) m c) (hn : news.length = m * size)
    (hc : ∀ j u, news[j]? = some u → w.cell? (ad.add j) = some u) (h1c : ∀ u ∈ news, u.oneCell' = true) (b1 : k + m ≤ cap)
    (hK : ∀ w', w'.ownsRow base e size (.slice (some ⟨g, 0, none⟩) (k + m) cap) (k + m) (xs ++ news) → w.grownBy w' (some g) → K (a.put o.dst (.slice (some ⟨g, 0, none⟩) (k + m) cap)) w') :
    if Region.wanted o (yielded ops a.tmps) = true then Oper.wp P o a w K Q else E := by
  have hw : Region.wanted o (yielded ops a.tmps) = true := by simp [Region.wanted, hg]
  rw [if_pos hw]
  obtain ⟨w', hrun, r1, r2⟩ := run_append_fits (P := P) w base t o.type e i size h1 h2 h4 g k cap xs hown ad m c news hn hc h1c b1
  unfold Oper.wp
  simp [execOp, hop, resolve, invoke, builtin, hs, hx, hrun, Result.andThen]
  exact hK w' r1 r2

end Go.Proofs.Ytmgolinleiahpaa

namespace Go.Proofs.Ytmgolinleiahpaa
open Go.RowKit

/-- A drawn block. -/
def Sr.fill (s : Sr) : List Int × Sr :=
  ((List.replicate 64 ((1 + (s.next 255).1 : Nat) : Int)).set ((s.next 255).2.next 64).1 ((((s.next 255).2.next 64).2.next 256).1 : Int), (((s.next 255).2.next 64).2.next 256).2)
theorem Sr.fill_len (s : Sr) : s.fill.1.length = 64 := by simp [Sr.fill]

theorem OwnB.tch {w w' : World} {lo k : Nat} {v : Value} {xs : List Int} (h : OwnB w lo v xs) (t : Tch k w w') (hk : k < lo) : OwnB w' lo v xs := h.elim fun _ h => ⟨_, h.tch t hk⟩
theorem replicate_snoc (n : Nat) (x : Int) : List.replicate (n + 1) x = List.replicate n x ++ [x] := List.replicate_succ'

set_option maxHeartbeats 1000000 in
set_option maxRecDepth 100000 in
theorem fill_x (W : World) (k B : Nat) (s : Sr) (h : SRX W k B s) :
    Calls Try.prog 42 #[.pointer (some ⟨k, 0, none⟩)] W fun e w' => ∃ v', e = .returned v' ∧ Own .u8 5 w' W.heap.size v' s.fill.1 ∧ SRX w' k B s.fill.2 ∧ Tch k W w' := by
  obtain ⟨i0, hi, hz0, hz1, hz2⟩ := info_parts Try.infoB
  have HS : Hid (SRX W k B s) := h
  clear h
  go_enter Try.func42, Try.ntmps42
  go_wp2_with fail
  refine (next_x _ k B 255 s HS.out (by omega)).mono ?_
  rintro e w1 ⟨rfl, s1, t1⟩
  have hn1 := s.next_lt 255 (by omega)
  have HF : Hid (s.fill = ((List.replicate 64 ((1 + (s.next 255).1 : Nat) : Int)).set ((s.next 255).2.next 64).1 ((((s.next 255).2.next 64).2.next 256).1 : Int), (((s.next 255).2.next 64).2.next 256).2)) := rfl
  generalize (s.next 255).2 = s2 at *
  generalize (s.next 255).1 = n1 at *
  have S1 : Hid (SRX w1 k B s2) := s1
  have T1 : Hid (Tch k W w1) := t1
  clear s1 t1 HS
  have z1 := T1.out.size
  have hkB := S1.out.kB
  have hBz := S1.out.lt
  go_wp2
  go_loopw [4, 5] (fun v i wr => ∃ j : Nat, j ≤ 64 ∧ i = .int .i64 j ∧ Hid (wr.ownsRow w1.heap.size 5 1 v j ((List.replicate j (1 + (n1 : Int))).map (Value.int .u8))) ∧ Hid (Below w1.heap.size w1 wr)) (fun _ i _ => 64 - (intOf i).toNat)
  case atStart => exact ⟨0, Nat.zero_le _, rfl, World.ownsRow_lit w1 #[] 0 (Nat.le_refl _) (Nat.zero_le _) rfl, (Below.refl _ _).alloc (Nat.le_refl _) _⟩
  case round =>
    obtain ⟨j, hj, rfl, HO, HG⟩ := hrel
    by_cases hlt : j < 64
    · have hltI : (j : Int) < 64 := by omega
      go_wp2_with (at_builtin; go_must (refine wpList_append_own _ rfl _ _ 29 rfl w1.heap.size 5 i0 (.int .u8 0) 1 1 Try.underlying29 hi hz0 hz1 hz2 rfl (by decide) _ _ _ rfl (HO.out.alloc _) ⟨wr.heap.size, 0, none⟩ 1 1 [.int .u8 (1 + (n1 : Int))] rfl rfl (cell_one_new _ _ _) (by intro u hu; simp at hu; subst hu; rfl) ?c3 ?c4 ?c5 ?_))
      case c3 => unfold maxLen; omega
      case c4 => omega
      case c5 => have := HG.out.size; simp; omega
      intro v2 w2 ho2 hg2 _
      have HO2 : Hid (w2.ownsRow w1.heap.size 5 1 v2 (j + 1) ((List.replicate (j + 1) (1 + (n1 : Int))).map (Value.int .u8))) := by
        show World.ownsRow _ _ _ _ _ _ _; rw [replicate_snoc, List.map_append, List.map_replicate]; exact ho2
      have HG2 : Hid (Below w1.heap.size w1 w2) := (HG.out.alloc (HG.out.size) _).grown hg2 (by have := HG.out.size; simp; omega) (fun q hq => (HO.out.lt q hq).1)
      clear ho2 hg2 HO HG
      go_wp2
      exact ⟨⟨j + 1, by omega, by go_num, HO2, HG2⟩, by simp [intOf]; omega⟩
    · have hjn : j = 64 := by omega
      subst hjn
      have S2 : Hid (SRX wr k B s2) := S1.out.keep (HG.out.mono hBz)
      have T2 : Hid (Tch k W wr) := T1.out.then (HG.out.mono z1)
      have zz := HG.out.size
      clear S1 T1 HG
      go_wp2_with fail
      refine (next_x _ k B 64 s2 S2.out (by omega)).mono ?_
      rintro e w3 ⟨rfl, s3, t3⟩
      have hn2 := s2.next_lt 64 (by omega)
      generalize (s2.next 64).2 = r3 at *
      generalize (s2.next 64).1 = n2 at *
      have S3 : Hid (SRX w3 k B r3) := s3
      have T3 : Hid (Tch k W w3) := T2.out.trans t3
      have O3 := rowTch HO.out t3 (by omega)
      have z3 := t3.size
      clear s3 t3 S2 T2 HO
      go_wp2_with fail
      refine (next_x _ k B 256 r3 S3.out (by omega)).mono ?_
      rintro e w4 ⟨rfl, s4, t4⟩
      have hn3 := r3.next_lt 256 (by omega)
      generalize (r3.next 256).2 = r4 at *
      generalize (r3.next 256).1 = n3 at *
      have S4 : Hid (SRX w4 k B r4) := s4
      have T4 : Hid (Tch k W w4) := T3.out.trans t4
      have O4 := rowTch O3 t4 (by omega)
      have z4 := t4.size
      clear s4 t4 S3 T3 O3
      obtain ⟨g, c, hv⟩ := rowXs O4 (by omega)
      subst hv
      have hgl := World.ownsRow.lt O4 g rfl
      have cg := World.ownsRow.cellAt O4 n2 (by omega)
      obtain ⟨O5, G5⟩ := World.ownsRow.stored O4 n2 (.int .u8 (n3 : Int))
      have B5 : Hid (Below w1.heap.size w4 (w4.setCell ⟨g, n2, none⟩ (.int .u8 (n3 : Int)))) := (Below.refl _ _).setCell hgl.1 _
      have HO5 : Hid (Own .u8 5 (w4.setCell ⟨g, n2, none⟩ (.int .u8 (n3 : Int))) W.heap.size (.slice (some ⟨g, 0, none⟩) 64 c) ((List.replicate 64 ((1 + n1 : Nat) : Int)).set n2 (n3 : Int))) := by
        refine Own.mono ?_ z1
        show World.ownsRow _ _ _ _ _ _ _
        rw [List.length_set, List.length_replicate, List.map_set]
        exact O5
      have FR := World.ownsRow.frozenAt O4 n2
      clear O5 G5
      go_wp2
      go_ret
      rw [HF.out]
      exact ⟨_, rfl, HO5.out, S4.out.keep (B5.out.mono (by omega)), T4.out.then (B5.out.mono (by omega))⟩

end Go.Proofs.Ytmgolinleiahpaa

namespace Go.Proofs.Ytmgolinleiahpaa
open Go.RowKit

theorem rowW_snoc (k : Nat) (ps : List (Int × List Int)) (dv : Nat → Value) (v : Value) : rowW (k + 1) (pB ps) (dvSet dv k v) = rowW k (pB ps) dv ++ [.int .i64 (pB ps k), v] := by
  rw [rowW_succ]
  congr 1
  · exact rowW_congr (fun _ _ => rfl) (fun i hi => by unfold dvSet; rw [if_neg (by omega)])
  · unfold dvSet; rw [if_pos rfl]

/-- A local struct of two cells that may be written. -/
def BoxF (w : World) (b : Nat) (x y : Value) : Prop := Box2 w b x y ∧ w.frozen? ⟨b, 0, none⟩ = false ∧ w.frozen? ⟨b, 1, none⟩ = false
theorem BoxF.below {w w' : World} {b : Nat} {x y : Value} (h : BoxF w b x y) (hb : Below w.heap.size w w') : BoxF w' b x y :=
  ⟨h.1.below hb, (hb.frozen (p := ⟨b, 0, none⟩) h.1.1).trans h.2.1, (hb.frozen (p := ⟨b, 1, none⟩) h.1.1).trans h.2.2⟩
theorem BoxF.new (w : World) (x y : Value) (t : TypeId) : BoxF (w.alloc (.cells #[x, y] t)) w.heap.size x y := ⟨Box2.new _ _ _ _, by simp, by simp⟩
theorem BoxF.belowB {w w' : World} {b B : Nat} {x y : Value} (h : BoxF w b x y) (hb : Below B w w') (hB : b < B) : BoxF w' b x y :=
  ⟨⟨Nat.lt_of_lt_of_le h.1.1 hb.size, (hb.cell (p := ⟨b, 0, none⟩) hB).trans h.1.2.1, (hb.cell (p := ⟨b, 1, none⟩) hB).trans h.1.2.2⟩, (hb.frozen (p := ⟨b, 0, none⟩) hB).trans h.2.1, (hb.frozen (p := ⟨b, 1, none⟩) hB).trans h.2.2⟩

theorem RdW.recAt {w : World} {ao : Option Addr} {n cap k : Nat} {ps : List (Int × List Int)} (h : RdW w (.slice ao n cap) ps) (hl : ps.length = n) (hk : k < n) : ∃ b o, ao = some ⟨b, o, none⟩ ∧ b < w.heap.size ∧
    w.cell? ⟨b, o + k * 2, none⟩ = some (.int .i64 (pB ps k)) ∧ ∃ da c, w.cell? ⟨b, o + k * 2 + 1, none⟩ = some (.slice da (pD ps k).length c) ∧ Rd .u8 w (.slice da (pD ps k).length c) (pD ps k) := by
  obtain ⟨ao', cap', e, h1, h2, h3⟩ := h
  simp only [Value.slice.injEq] at e
  obtain ⟨rfl, _, rfl⟩ := e
  rcases h3 with rfl | ⟨b, o, rfl, hb, hc⟩
  · simp at hl; omega
  · obtain ⟨c1, da, c, c2, r⟩ := hc k (by omega)
    exact ⟨b, o, rfl, hb, c1, da, c, c2, r⟩

/-- What the rounds of a copy have made so far. -/
def Made (w : World) (lo g k cap : Nat) (ps : List (Int × List Int)) (dv : Nat → Value) : Prop :=
  w.ownsRow lo 42 2 (.slice (some ⟨g, 0, none⟩) k cap) k (rowW k (pB ps) dv) ∧ (∀ i, i < k → Own .u8 5 w (g + 1) (dv i) (pD ps i)) ∧ (∀ i j, i < k → j < k → i ≠ j → Ne2 (dv i) (dv j))

theorem Own.none_or {k : IntKind} {e : TypeId} {w : World} {base B : Nat} {v : Value} {xs : List Int} (h : Own k e w base v xs) (hB : B < base) : v.ownBlock = none ∨ v.ownBlock ≠ some B := by
  cases hv : v.ownBlock with
  | none => exact .inl rfl
  | some q => have := (h.lt q hv).1; exact .inr (by simp; omega)

theorem Made.below {w w' : World} {lo g k cap : Nat} {ps : List (Int × List Int)} {dv : Nat → Value} (h : Made w lo g k cap ps dv) (hb : Below w.heap.size w w') : Made w' lo g k cap ps dv :=
  ⟨World.ownsRow.kept h.1 (row := none) ⟨hb.os, hb.tape, hb.output, hb.size, fun q hq _ => hb.block q hq⟩ (.inr (by simp [Value.ownBlock])), fun i hi => (h.2.1 i hi).below hb, h.2.2⟩

theorem made_step {wr w' w4 : World} {lo g k cap : Nat} {ps : List (Int × List Int)} {dv : Nat → Value} {v : Value} {ob : Obj} (hm : Made wr lo g k cap ps dv) (hgr : g < wr.heap.size) (bw : Below wr.heap.size wr w') (o' : Own .u8 5 w' wr.heap.size v (pD ps k))
    (ho4 : w4.ownsRow lo 42 2 (.slice (some ⟨g, 0, none⟩) (k + 1) cap) (k + 1) (rowW k (pB ps) dv ++ [.int .i64 (pB ps k), v])) (hg4 : (w'.alloc ob).grownBy w4 (some g)) : Made w4 lo g (k + 1) cap ps (dvSet dv k v) := by
  have G : w'.grownBy w4 (some g) := World.grownBy.trans (World.grownBy_alloc w' ob (some g)) hg4
  refine ⟨by rw [rowW_snoc]; exact ho4, fun i hi => ?_, fun i j hi hj hne => ?_⟩
  · unfold dvSet
    by_cases e : i = k
    · subst e
      rw [if_pos rfl]
      exact (o'.mono (by omega)).other G ((o'.mono (base' := g + 1) (by omega)).none_or (by omega))
    · rw [if_neg e]
      have h1 := hm.2.1 i (by omega)
      exact (h1.below bw).other G (h1.none_or (by omega))
  · unfold dvSet Ne2
    by_cases e : i = k
    · by_cases e' : j = k
      · omega
      · rw [if_pos e, if_neg e']
        cases hv : v.ownBlock with
        | none => exact .inl rfl
        | some q =>
          right; intro hq
          have := (o'.lt q hv).1; have := ((hm.2.1 j (by omega)).lt q hq.symm).2; omega
    · by_cases e' : j = k
      · rw [if_neg e, if_pos e']
        cases hv : (dv i).ownBlock with
        | none => exact .inl rfl
        | some q =>
          right; intro hq
          have := (o'.lt q hq.symm).1; have := ((hm.2.1 i (by omega)).lt q hv).2; omega
      · rw [if_neg e, if_neg e']
        exact hm.2.2 i j (by omega) (by omega) hne

theorem OwnD.mono {w : World} {lo lo' hi hi' : Nat} {vd vp : Value} {dur : List Int} {ps : List (Int × List Int)} {dv : Nat → Value} (ho : OwnD w lo hi vd vp dur ps dv) (hl : lo' ≤ lo) (hh : hi ≤ hi') : OwnD w lo' hi' vd vp dur ps dv :=
  ⟨ho.d.mono hl, ho.p.mono hl, fun g hg => Nat.lt_of_lt_of_le (ho.dlt g hg) hh, fun g hg => Nat.lt_of_lt_of_le (ho.plt g hg) hh, fun i hi g hg => Nat.lt_of_lt_of_le (ho.qlt i hi g hg) hh, ho.dp, ho.dq⟩

theorem made_ownD {w6 w7 : World} {lo g k cap : Nat} {vd : Value} {dur : List Int} {ps : List (Int × List Int)} {dv : Nat → Value} (hm : Made w6 lo g k cap ps dv) (hl : ps.length = k) (hb : Below w6.heap.size w6 w7) (hd : Own .u8 5 w7 w6.heap.size vd dur) (hlo : lo ≤ g) :
    OwnD w7 lo w7.heap.size vd (.slice (some ⟨g, 0, none⟩) k cap) dur ps dv := by
  subst hl
  have m7 := hm.below hb
  have hg6 := (World.ownsRow.lt hm.1 g rfl).2
  refine ⟨hd.mono (by omega), ⟨m7.1, fun i hi => ((m7.2.1 i hi).mono (by omega)).b, m7.2.2, fun i hi => ?_⟩, fun g hg => (hd.lt g hg).2, fun g' hg => (World.ownsRow.lt m7.1 g' hg).2, fun i hi g hg => ((m7.2.1 i hi).lt g hg).2, ?_, fun i hi => ?_⟩
  · exact (hm.2.1 i hi).none_or (B := g) (by omega)
  · right
    intro e
    have := (hd.lt g e.symm).1
    omega
  · cases hv : (dv i).ownBlock with
    | none => exact .inl hv
    | some q =>
      right; intro e
      rw [hv] at e
      have := (hd.lt q e.symm).1; have := ((hm.2.1 i hi).lt q hv).2; omega

theorem pB_app (ps : List (Int × List Int)) (p : Int × List Int) (i : Nat) (h : i < ps.length) : pB (ps ++ [p]) i = pB ps i := by unfold pB; simp [List.getD, List.getElem?_append_left h]
theorem pD_app (ps : List (Int × List Int)) (p : Int × List Int) (i : Nat) (h : i < ps.length) : pD (ps ++ [p]) i = pD ps i := by unfold pD; simp [List.getD, List.getElem?_append_left h]
theorem pB_last (ps : List (Int × List Int)) (p : Int × List Int) : pB (ps ++ [p]) ps.length = p.1 := by unfold pB; simp [List.getD]
theorem pD_last (ps : List (Int × List Int)) (p : Int × List Int) : pD (ps ++ [p]) ps.length = p.2 := by unfold pD; simp [List.getD]

theorem ownD_nil (w : World) (lo hi : Nat) : OwnD w lo hi (.slice none 0 0) (.slice none 0 0) [] [] (fun _ => .slice none 0 0) :=
  ⟨World.ownsRow_nil _ _ _ _, ⟨World.ownsRow_nil _ _ _ _, fun i hi => by simp at hi, fun i j hi => by simp at hi, fun i hi => by simp at hi⟩, fun g hg => by simp [Value.ownBlock] at hg, fun g hg => by simp [Value.ownBlock] at hg, fun i hi => by simp at hi, .inl rfl, fun i hi => by simp at hi⟩

/-- May the write be made? -/
def wrOk (dl : Nat) (ps : List (Int × List Int)) (x : Int) (m : Nat) : Bool := vldD dl ps && decide (ps.length < 2000) && decide (0 ≤ x ∧ x < ((dl / 64 : Nat) : Int)) && decide (m = 64)
def wrDur (dur : List Int) (ps : List (Int × List Int)) (x : Int) (xs : List Int) : List Int := if wrOk dur.length ps x xs.length then dur else []
def wrPend (dur : List Int) (ps : List (Int × List Int)) (x : Int) (xs : List Int) : List (Int × List Int) := if wrOk dur.length ps x xs.length then ps ++ [(x, xs)] else []

end Go.Proofs.Ytmgolinleiahpaa

namespace Go.Proofs.Ytmgolinleiahpaa
open Go.RowKit

set_option maxHeartbeats 1000000 in
set_option maxRecDepth 100000 in
theorem copyDisk_row (w : World) (va vb : Option Addr) (dl ca n cb : Nat) (dur : List Int) (ps : List (Int × List Int)) (hd : Rd .u8 w (.slice va dl ca) dur) (hdl : dur.length = dl) (hp : RdW w (.slice vb n cb) ps) (hl : ps.length = n)
    (hn : n ≤ 1048576) (hd1 : dl ≤ 1048576) (hpd : ∀ i, (pD ps i).length ≤ 1048576) :
    Calls Try.prog 45 #[.agg #[.slice va dl ca, .slice vb n cb]] w fun e w' => ∃ a c g dv, e = .returned (.agg #[.slice a dl c, .slice (some ⟨g, 0, none⟩) n (n + 1)]) ∧ OwnD w' w.heap.size w'.heap.size (.slice a dl c) (.slice (some ⟨g, 0, none⟩) n (n + 1)) dur ps dv ∧ Below w.heap.size w w' := by
  obtain ⟨i0, hi, hz0, hz1, hz2⟩ := info_parts Try.infoW
  have HD : Hid (Rd .u8 w (.slice va dl ca) dur) := hd
  have HP : Hid (RdW w (.slice vb n cb) ps) := hp
  have HL : Hid (ps.length = n) := hl
  have HDL : Hid (dur.length = dl) := hdl
  have HPD : Hid (∀ i, (pD ps i).length ≤ 1048576) := hpd
  have BA : Hid (∀ o1 o2, Below w.heap.size w ((w.alloc o1).alloc o2)) := fun o1 o2 => ((Below.refl _ _).alloc (Nat.le_refl _) _).alloc (by simp) _
  clear hd hp hl hdl hpd
  go_enter Try.func45, Try.ntmps45
  go_wp2_with (at_make; go_must (refine wpList_make_own _ rfl _ _ 30 rfl (w.heap.size + 2) 42 i0 (.agg #[.int .i64 0, .slice none 0 0]) 2 Try.underlying30 hi hz0 hz1 _ _ _ (n + 1) rfl rfl ?b1 ?b2 ?b3 ?b4 ?_))
  case b1 => omega
  case b2 => rw [hz2]; omega
  case b3 => unfold maxLen; omega
  case b4 => simp
  intro w3 hown hgrow
  have XA2 : Hid (BoxF ((w.alloc (.cells #[.slice va dl ca, .slice vb n cb] 32)).alloc (.cells #[.slice none 0 0, .slice none 0 0] 32)) w.heap.size (.slice va dl ca) (.slice vb n cb)) := (BoxF.new w _ _ _).below ((Below.refl _ _).alloc (Nat.le_refl _) _)
  have XR2 : Hid (BoxF ((w.alloc (.cells #[.slice va dl ca, .slice vb n cb] 32)).alloc (.cells #[.slice none 0 0, .slice none 0 0] 32)) (w.heap.size + 1) (.slice none 0 0) (.slice none 0 0)) := by
    have := BoxF.new (w.alloc (.cells #[.slice va dl ca, .slice vb n cb] 32)) (.slice none 0 0) (.slice none 0 0) 32
    show BoxF _ _ _ _
    simpa using this
  have HB2 : Hid (Below w.heap.size w ((w.alloc (.cells #[.slice va dl ca, .slice vb n cb] 32)).alloc (.cells #[.slice none 0 0, .slice none 0 0] 32))) := BA.out _ _
  clear BA
  have hs2 : ((w.alloc (.cells #[.slice va dl ca, .slice vb n cb] 32)).alloc (.cells #[.slice none 0 0, .slice none 0 0] 32)).heap.size = w.heap.size + 2 := by simp
  generalize (w.alloc (.cells #[.slice va dl ca, .slice vb n cb] 32)).alloc (.cells #[.slice none 0 0, .slice none 0 0] 32) = w2 at *
  rw [show w.heap.size + 1 + 1 = w2.heap.size by omega] at hown
  have HS2 : Hid (w2.heap.size = w.heap.size + 2) := hs2
  clear hs2
  have s2 := HB2.out.size
  obtain ⟨⟨z1, c0, c1⟩, -⟩ := XA2.out
  have zr := XR2.out.1.1
  have B3 : Hid (Below w2.heap.size w2 w3) := (Below.refl _ _).grown hgrow (Nat.le_refl _) (by simp)
  have M3 : Hid (Made w3 w2.heap.size w2.heap.size 0 (n + 1) ps (fun _ => .slice none 0 0)) := ⟨hown, fun i hi => by omega, fun i j hi => by omega⟩
  have c03 := (B3.out.cell (p := ⟨w.heap.size, 0, none⟩) z1).trans c0
  have c13 := (B3.out.cell (p := ⟨w.heap.size, 1, none⟩) z1).trans c1
  clear hown hgrow c0 c1
  go_wp2
  clear c03 c13
  go_loopw [3, 14] (fun v i wr => ∃ (k : Nat) (dv : Nat → Value), k ≤ n ∧ i = .int .i64 k ∧ v = .slice (some ⟨w2.heap.size, 0, none⟩) k (n + 1) ∧ Hid (Made wr w2.heap.size w2.heap.size k (n + 1) ps dv) ∧ Below w2.heap.size w2 wr) (fun _ i _ => n - (intOf i).toNat)
  case atStart => exact ⟨0, _, Nat.zero_le _, rfl, by rw [HS2.out], M3, B3.out⟩
  case round =>
    clear M3 B3
    obtain ⟨k, dv, hk, rfl, rfl, HM, hg⟩ := hrel
    by_cases hlt : k < n
    · obtain ⟨b, o, rfl, hb, e1, da, dc, e2, r⟩ := HP.out.recAt HL.out hlt
      have BW : Hid (Below w.heap.size w wr) := HB2.out.trans (hg.mono s2)
      have e1' := (BW.out.cell (p := ⟨b, o + k * 2, none⟩) hb).trans e1
      have e2' := (BW.out.cell (p := ⟨b, o + k * 2 + 1, none⟩) hb).trans e2
      have RK : Hid (Rd .u8 wr (.slice da (pD ps k).length dc) (pD ps k)) := r.below BW.out
      have HG : Hid (Below w2.heap.size w2 wr) := hg
      have sg := hg.size
      have hltI : (k : Int) < (n : Int) := by omega
      clear e1 e2 r hg
      have hpk := HPD.out k
      go_wp2_with fail
      have BAl : Below wr.heap.size wr (wr.alloc (.cells #[.int .i64 (pB ps k), .slice da (pD ps k).length dc] 42)) := (Below.refl _ _).alloc (Nat.le_refl _) _
      have HCL : Hid (Calls Try.prog 53 #[.slice da (pD ps k).length dc] (wr.alloc (.cells #[.int .i64 (pB ps k), .slice da (pD ps k).length dc] 42)).drew fun e w' => ∃ a c, e = .returned (.slice a (pD ps k).length c) ∧ Hid (Own .u8 5 w' (wr.heap.size + 1) (.slice a (pD ps k).length c) (pD ps k)) ∧
          w'.cell? ⟨wr.heap.size, 0, none⟩ = some (.int .i64 (pB ps k)) ∧ w'.cell? ⟨wr.heap.size, 1, none⟩ = some (.slice da (pD ps k).length dc) ∧ Hid (Below wr.heap.size wr w')) := by
        refine (clone_any _ _ (pD ps k) ((RK.out.below BAl).drewN 1) (by omega)).mono ?_
        rintro e w' ⟨v', rfl, o', b'⟩
        obtain ⟨a, c, rfl⟩ := o'.slice
        have b2 : Below (wr.alloc (.cells #[.int .i64 (pB ps k), .slice da (pD ps k).length dc] 42)).heap.size (wr.alloc (.cells #[.int .i64 (pB ps k), .slice da (pD ps k).length dc] 42)) w' := (below_drewN' _ 1).trans b'
        have X := (Box2.new wr (.int .i64 (pB ps k)) (.slice da (pD ps k).length dc) 42).below b2
        exact ⟨a, c, rfl, by have := o'; simp at this; exact this, X.2.1, X.2.2, BAl.trans (b2.mono (by simp))⟩
      have HOW : Hid (∀ W', Below wr.heap.size wr W' → W'.ownsRow w2.heap.size 42 2 (.slice (some ⟨w2.heap.size, 0, none⟩) k (n + 1)) k (rowW k (pB ps) dv)) := fun W' hW' =>
        World.ownsRow.kept HM.out.1 (row := none) ⟨hW'.os, hW'.tape, hW'.output, hW'.size, fun q hq _ => hW'.block q hq⟩ (.inr (by simp [Value.ownBlock]))
      clear BAl e1' e2'
      go_region_law (first | (refine step_fits rfl _ _ 30 rfl w2.heap.size 42 i0 2 Try.underlying30 hi hz1 w2.heap.size k (n + 1) _ rfl ((HOW.out _ bw.out).alloc _) ⟨w'.heap.size, 0, none⟩ 1 1 [.int .i64 (pB ps k), .slice a (pD ps k).length c] rfl rfl (cell_two_new _ _ _ _) (by intro u hu; simp at hu; rcases hu with rfl | rfl <;> rfl) (by omega) ?_; intro w4 ho4 hg4) | (go_simp; go_at_call 53; refine HCL.out.mono ?_; rintro e w' ⟨a, c, rfl, o', k0, k1, bw⟩))
      all_goals
        have HM4 : Hid (Made w4 w2.heap.size w2.heap.size (k + 1) (n + 1) ps (dvSet dv k (.slice a (pD ps k).length c))) := by
          refine made_step HM.out (World.ownsRow.lt HM.out.1 _ rfl).2 bw.out ?_ ?_ hg4
          · exact o'.out.mono (by omega)
          · exact ho4
        have HG4 : Hid (Below w2.heap.size w2 w4) := ((HG.out.trans (bw.out.mono sg)).alloc (by have := bw.out.size; omega) _).grown hg4 (by have := bw.out.size; simp; omega) (by intro q hq; simp at hq; omega)
        clear ho4 hg4 o' k0 k1 bw HCL HOW HM HG
        go_wp2
        go_roundw
        case rel => exact ⟨k + 1, _, by omega, by go_num, rfl, HM4, HG4.out⟩
        case measure => simp [intOf]; omega
    · have hkn : k = n := by omega
      subst hkn
      have BW : Hid (Below w.heap.size w wr) := HB2.out.trans (hg.mono s2)
      have HG : Hid (Below w2.heap.size w2 wr) := hg
      have sg := hg.size
      have XAr : Hid (BoxF wr w.heap.size (.slice va dl ca) (.slice vb k cb)) := XA2.out.belowB HG.out z1
      have XRr : Hid (BoxF wr (w.heap.size + 1) (.slice none 0 0) (.slice none 0 0)) := XR2.out.belowB HG.out zr
      clear hg
      obtain ⟨⟨z6, c0, c1⟩, -⟩ := XAr.out
      go_wp2_with fail
      refine (clone_any _ _ dur (HD.out.below BW.out) (by have := HDL.out; omega)).mono ?_
      rintro e w7 ⟨v7, rfl, o7, b7⟩
      obtain ⟨a7, c7, rfl⟩ := o7.slice
      rw [HDL.out]
      have B7 : Hid (Below w.heap.size w w7) := BW.out.trans (b7.mono BW.out.size)
      have D7 : Hid (OwnD w7 w2.heap.size w7.heap.size (.slice a7 dl c7) (.slice (some ⟨w2.heap.size, 0, none⟩) k (k + 1)) dur ps dv) := by
        have := made_ownD HM.out HL.out b7 o7 (Nat.le_refl _)
        rw [HDL.out] at this
        exact this
      have XR7 : Hid (BoxF w7 (w.heap.size + 1) (.slice none 0 0) (.slice none 0 0)) := XRr.out.below b7
      clear o7 b7 HM XRr XAr c0 c1 z6
      obtain ⟨⟨z7, d0, d1⟩, f0, f1⟩ := XR7.out
      go_wp2
      refine bodyPost_ret (v := .agg #[.slice a7 dl c7, .slice (some ⟨w2.heap.size, 0, none⟩) k (k + 1)]) (by simp [results, Try.results45, go_sem, d0, d1]) rfl ⟨_, _, _, dv, rfl, ?_, ?_⟩
      · refine OwnD.mono (lo := w2.heap.size) (hi := w7.heap.size) ?_ s2 (by simp)
        repeat (first | exact D7.out | refine OwnD.within (l := w.heap.size + 1) (h := w.heap.size + 2) ?_ (Within.setCell _ (Nat.le_refl _) (by omega) _ _) (.inr (by have := HS2.out; omega)))
      · repeat (first | exact B7.out | refine Below.setCell ?_ (by simp; try omega) _)

end Go.Proofs.Ytmgolinleiahpaa

namespace Go.Proofs.Ytmgolinleiahpaa
open Go.RowKit

theorem Own.far {k : IntKind} {e : TypeId} {w : World} {base : Nat} {v : Value} {xs : List Int} (h : Own k e w base v xs) {u : Value} (hu : ∀ g, u.ownBlock = some g → g < base) : v.ownBlock = none ∨ v.ownBlock ≠ u.ownBlock := by
  cases hv : v.ownBlock with
  | none => exact .inl rfl
  | some q =>
    right; intro e
    have := (h.lt q hv).1; have := hu q e.symm; omega

/-- One record more. -/
theorem ownD_snoc {wr w' w4 : World} {lo hi g k cap : Nat} {vd vk v : Value} {dur xs : List Int} {ps : List (Int × List Int)} {x : Int} {dv : Nat → Value} {ob : Obj} {te : TypeId} (ho : OwnD wr lo hi vd vk dur ps dv) (hhi : hi ≤ wr.heap.size) (hlo : lo ≤ wr.heap.size) (hk : ps.length = k) (bw : Below wr.heap.size wr w') (o' : Own .u8 te w' wr.heap.size v xs)
    (ho4 : w4.ownsRow lo 42 2 (.slice (some ⟨g, 0, none⟩) (k + 1) cap) (k + 1) (rowW k (pB ps) dv ++ [.int .i64 x, v])) (hg4 : (w'.alloc ob).grownBy w4 vk.ownBlock) (hat : vk.ownBlock = some g ∨ g = w'.heap.size + 1) :
    OwnD w4 lo w4.heap.size vd (.slice (some ⟨g, 0, none⟩) (k + 1) cap) dur (ps ++ [(x, xs)]) (dvSet dv k v) := by
  subst hk
  have G : w'.grownBy w4 vk.ownBlock := World.grownBy.trans (World.grownBy_alloc w' ob _) hg4
  have hsz := bw.size
  have hs4 : w'.heap.size ≤ w4.heap.size := G.size
  have hvk : ∀ q, vk.ownBlock = some q → q < wr.heap.size := fun q hq => Nat.lt_of_lt_of_le (ho.plt q hq) hhi
  have hnew : OwnB w4 wr.heap.size v xs := (o'.other G (o'.far hvk)).b
  have hold : ∀ i, i < ps.length → OwnB w4 lo (dv i) (pD ps i) := fun i hi => ((ho.p.2.1 i hi).below bw).other G (ho.p.2.2.2 i hi)
  have hlen : (ps ++ [(x, xs)]).length = ps.length + 1 := by simp
  have hd4 : Own .u8 5 w4 lo vd dur := by
    refine (ho.d.below bw).other G ?_
    rcases ho.dp with h | h
    · rw [h]; cases vd.ownBlock with
      | none => exact .inl rfl
      | some q => exact .inr (by simp)
    · exact .inr (Ne.symm h)
  have hgv : ∀ u : Value, (∀ q, u.ownBlock = some q → q < wr.heap.size) → Ne2 u vk → Ne2 u (.slice (some ⟨g, 0, none⟩) (ps.length + 1) cap) := by
    intro u hu hn
    unfold Ne2
    cases e : u.ownBlock with
    | none => exact .inl rfl
    | some q =>
      right
      simp only [Value.ownBlock, ne_eq, Option.some.injEq]
      intro eq
      have := hu q e
      rcases hat with h | h
      · rcases hn with h' | h'
        · rw [h'] at e; cases e
        · exact h' (by rw [e, h, eq])
      · omega
  have hlast : Ne2 v (.slice (some ⟨g, 0, none⟩) (ps.length + 1) cap) := by
    unfold Ne2
    cases e : v.ownBlock with
    | none => exact .inl rfl
    | some q =>
      right
      simp only [Value.ownBlock, ne_eq, Option.some.injEq]
      intro eq
      have h1 := o'.lt q e
      rcases hat with h | h
      · have := hvk g h; omega
      · omega
  refine ⟨hd4, ⟨?_, ?_, ?_, ?_⟩, fun q hq => (hd4.lt q hq).2, fun q hq => (World.ownsRow.lt ho4 q hq).2, ?_, ?_, ?_⟩
  · rw [hlen]
    have e : rowW (ps.length + 1) (pB (ps ++ [(x, xs)])) (dvSet dv ps.length v) = rowW ps.length (pB ps) dv ++ [.int .i64 x, v] := by
      rw [rowW_succ]
      congr 1
      · exact rowW_congr (fun i hi => pB_app _ _ _ hi) (fun i hi => by unfold dvSet; rw [if_neg (by omega)])
      · rw [pB_last]; unfold dvSet; rw [if_pos rfl]
    rw [e]; exact ho4
  · intro i hi
    rw [hlen] at hi
    unfold dvSet
    by_cases e : i = ps.length
    · rw [if_pos e, e, pD_last]; exact hnew.mono hlo
    · rw [if_neg e, pD_app _ _ _ (by omega)]; exact hold i (by omega)
  · intro i j hi hj hne
    rw [hlen] at hi hj
    unfold dvSet
    by_cases e : i = ps.length
    · rw [if_pos e, if_neg (by omega)]
      exact o'.far (fun q hq => ((ho.p.2.1 j (by omega)).lt q hq).2)
    · by_cases e' : j = ps.length
      · rw [if_neg e, if_pos e']
        unfold Ne2
        cases hv : (dv i).ownBlock with
        | none => exact .inl rfl
        | some q =>
          right; intro hq
          have := (o'.lt q hq.symm).1; have := ((ho.p.2.1 i (by omega)).lt q hv).2; omega
      · rw [if_neg e, if_neg e']; exact ho.p.2.2.1 i j (by omega) (by omega) hne
  · intro i hi
    rw [hlen] at hi
    unfold dvSet
    by_cases e : i = ps.length
    · rw [if_pos e]; exact hlast
    · rw [if_neg e]; exact hgv _ (fun q hq => ((ho.p.2.1 i (by omega)).lt q hq).2) (ho.p.2.2.2 i (by omega))
  · intro i hi q hq
    rw [hlen] at hi
    unfold dvSet at hq
    by_cases e : i = ps.length
    · rw [if_pos e] at hq; exact (hnew.lt q hq).2
    · rw [if_neg e] at hq; exact ((hold i (by omega)).lt q hq).2
  · right
    simp only [Value.ownBlock, ne_eq]
    intro e
    have h1 := ho.dlt g e.symm
    rcases hat with h | h
    · rcases ho.dp with h' | h'
      · rw [h'] at h; cases h
      · exact h' (h.trans e)
    · omega
  · intro i hi
    rw [hlen] at hi
    unfold dvSet
    by_cases e : i = ps.length
    · rw [if_pos e]
      exact o'.far (fun q hq => by have := ho.dlt q hq; omega)
    · rw [if_neg e]; exact ho.dq i (by omega)

end Go.Proofs.Ytmgolinleiahpaa

namespace Go.Proofs.Ytmgolinleiahpaa
open Go.RowKit

theorem own_lit64 {w : World} {base : Nat} {t : TypeId} {C : List Int} (hb : base ≤ w.heap.size) (hC : C.length = 64) : Own .u8 t (w.alloc (.cells (C.map (Value.int .u8)).toArray t)) base (.slice (some ⟨w.heap.size, 0, none⟩) 64 64) C := by
  have := World.ownsRow_lit (size := 1) (e := t) w (C.map (Value.int .u8)).toArray 64 hb (by unfold maxLen; omega) (by simp [hC])
  unfold Own
  rw [hC]
  simpa using this

set_option maxHeartbeats 2000000 in
set_option maxRecDepth 100000 in
/-- One record more is put into a disk of the call's own. -/
theorem addWrite_any (w : World) (pb off lo hi0 : Nat) (vd vp : Value) (dur : List Int) (ps : List (Int × List Int)) (dv : Nat → Value) (x : Int) (C : List Int) (hD : OwnD w lo hi0 vd vp dur ps dv) (hhi : hi0 ≤ w.heap.size) (hlo : lo ≤ w.heap.size) (hc : w.cell? ⟨pb, off + 1, none⟩ = some vp) (hf : w.frozen? ⟨pb, off + 1, none⟩ = false) (hpb : pb < w.heap.size) (hne : vp.ownBlock ≠ some pb) (hC : C.length = 64) (hn : ps.length ≤ 1000000) :
    Calls Try.prog 46 #[.pointer (some ⟨pb, off, none⟩), .int .i64 x, .agg (C.map (Value.int .u8)).toArray] w fun e w' => e = .returned (.tuple #[]) ∧ ∃ w5 g cap v, OwnD w5 lo w5.heap.size vd (.slice (some ⟨g, 0, none⟩) (ps.length + 1) cap) dur (ps ++ [(x, C)]) (dvSet dv ps.length v) ∧ w.grownBy w5 vp.ownBlock ∧ (vp.ownBlock = some g ∨ w.heap.size ≤ g) ∧ v.ownBlock = some w.heap.size ∧ w' = w5.setCell ⟨pb, off + 1, none⟩ (.slice (some ⟨g, 0, none⟩) (ps.length + 1) cap) := by
  obtain ⟨i0, hi, hz0, hz1, hz2⟩ := info_parts Try.infoW
  obtain ⟨vk, ck, rfl⟩ := hD.p.slice
  have HX1 : Hid (∀ v ∈ (C.map (Value.int .u8)), v.oneCell' = true) := ints_oneCell _ _
  have OC : Hid (Own .u8 77 (w.alloc (.cells (C.map (Value.int .u8)).toArray 77)) w.heap.size (.slice (some ⟨w.heap.size, 0, none⟩) 64 64) C) := own_lit64 (Nat.le_refl _) hC
  have bA : Below w.heap.size w (w.alloc (.cells (C.map (Value.int .u8)).toArray 77)) := (Below.refl _ _).alloc (Nat.le_refl _) _
  obtain ⟨X, hX⟩ : ∃ X, X = C.map (Value.int .u8) := ⟨_, rfl⟩
  rw [← hX] at OC bA HX1 ⊢
  have HX : Hid (X.length = 64) := by subst hX; show _ = _; simpa using hC
  have HBA : Hid (Below w.heap.size w (w.alloc (.cells X.toArray 77))) := bA
  have HD : Hid (OwnD w lo hi0 vd (.slice vk ps.length ck) dur ps dv) := hD
  have HC0 : Hid (w.cell? ⟨pb, off + 1, none⟩ = some (.slice vk ps.length ck) ∧ w.frozen? ⟨pb, off + 1, none⟩ = false) := ⟨hc, hf⟩
  obtain ⟨n0, hn0⟩ : ∃ n, n = ps.length := ⟨_, rfl⟩
  have HN0 : Hid (ps.length = n0) := hn0.symm
  have hn9 : n0 ≤ 1000000 := by omega
  rw [← hn0] at HC0 hne ⊢
  have HD' : Hid (OwnD w lo hi0 vd (.slice vk n0 ck) dur ps dv) := by rw [hn0]; exact HD.out
  clear hD hX bA hc hf HD hn0 hn
  go_enter Try.func46, Try.ntmps46
  go_wp2_with fail
  generalize hW0 : w.alloc (.cells X.toArray 77) = w0 at *
  have hs0 : w0.heap.size = w.heap.size + 1 := by rw [← hW0]; simp
  clear hW0
  have bP : Below w.heap.size w w0.drew := HBA.out.trans ((below_drewN' w0 1).mono HBA.out.size)
  have hS0 : w0.drew.cell? ⟨pb, off + 1, none⟩ = some (.slice vk n0 ck) ∧ w0.drew.frozen? ⟨pb, off + 1, none⟩ = false := ⟨(bP.cell (p := ⟨pb, off + 1, none⟩) hpb).trans HC0.out.1, (bP.frozen (p := ⟨pb, off + 1, none⟩) hpb).trans HC0.out.2⟩
  refine wp_region_held_drew (S := fun _ => True) (by kernel_rfl) trivial (fun hHeld => ?_)
  have HKP : Hid (w0.drew.cell? ⟨pb, off + 1, none⟩ = some (.slice vk n0 ck) ∧ w0.drew.frozen? ⟨pb, off + 1, none⟩ = false) := hS0
  clear hS0
  have OP : Hid (Own .u8 77 w0.drew w.heap.size (.slice (some ⟨w.heap.size, 0, none⟩) 64 64) C) := OC.out
  have hsp : w0.drew.heap.size = w.heap.size + 1 := hs0
  have HBP : Hid (Below w.heap.size w w0.drew) := bP
  have HSP : Hid (w0.drew.heap.size = w.heap.size + 1) := hsp
  clear bP OC HBA hs0 hsp
  generalize w0.drew = wp at *
  generalize hBX : w.heap.size = BX at *
  have bW : ∀ ob, Below wp.heap.size wp (wp.alloc ob) := fun ob => (Below.refl _ _).alloc (Nat.le_refl _) _
  have HK2 : Hid ((wp.alloc (.cells #[.int .i64 x, .slice (some ⟨BX, 0, none⟩) 64 64] 42)).cell? ⟨pb, off + 1, none⟩ = some (.slice vk n0 ck) ∧ (wp.alloc (.cells #[.int .i64 x, .slice (some ⟨BX, 0, none⟩) 64 64] 42)).frozen? ⟨pb, off + 1, none⟩ = false) :=
    ⟨((bW _).cell (p := ⟨pb, off + 1, none⟩) (show pb < wp.heap.size by have := HSP.out; omega)).trans ((HBP.out.cell (p := ⟨pb, off + 1, none⟩) (by show pb < _; omega)).trans HC0.out.1), ((bW _).frozen (p := ⟨pb, off + 1, none⟩) (show pb < wp.heap.size by have := HSP.out; omega)).trans ((HBP.out.frozen (p := ⟨pb, off + 1, none⟩) (by show pb < _; omega)).trans HC0.out.2)⟩
  have HK4 : Hid (∀ w4, (wp.alloc (.cells #[.int .i64 x, .slice (some ⟨BX, 0, none⟩) 64 64] 42)).grownBy w4 (Value.ownBlock (.slice vk n0 ck)) → w4.cell? ⟨pb, off + 1, none⟩ = some (.slice vk n0 ck) ∧ w4.frozen? ⟨pb, off + 1, none⟩ = false) := fun w4 hg =>
    ⟨(hg.cell_far ⟨pb, off + 1, none⟩ (by have := HSP.out; simp; omega) (Ne.symm hne)).trans HK2.out.1, (hg.frozen_far ⟨pb, off + 1, none⟩ (by have := HSP.out; simp; omega) (Ne.symm hne)).trans HK2.out.2⟩
  have HOW : Hid ((wp.alloc (.cells #[.int .i64 x, .slice (some ⟨BX, 0, none⟩) 64 64] 42)).ownsRow lo 42 2 (.slice vk n0 ck) n0 (rowW n0 (pB ps) dv)) := by
    have h1 := (HD'.out.below (by rw [hBX]; exact HBP.out)).p.1
    rw [HN0.out] at h1
    exact h1.alloc _
  have HLO2 : Hid (lo ≤ (wp.alloc (.cells #[.int .i64 x, .slice (some ⟨BX, 0, none⟩) 64 64] 42)).heap.size) := by show _ ≤ _; have := HSP.out; simp; omega
  have HFIN : Hid (∀ (g4 cap4 : Nat) (w4 : World), w4.ownsRow lo 42 2 (.slice (some ⟨g4, 0, none⟩) (n0 + 1) cap4) (n0 + 1) (rowW n0 (pB ps) dv ++ [.int .i64 x, .slice (some ⟨BX, 0, none⟩) 64 64]) → (wp.alloc (.cells #[.int .i64 x, .slice (some ⟨BX, 0, none⟩) 64 64] 42)).grownBy w4 (Value.ownBlock (.slice vk n0 ck)) → (Value.ownBlock (.slice vk n0 ck) = some g4 ∨ g4 = wp.heap.size + 1) →
      ∃ w5 g cap v, OwnD w5 lo w5.heap.size vd (.slice (some ⟨g, 0, none⟩) (n0 + 1) cap) dur (ps ++ [(x, C)]) (dvSet dv n0 v) ∧ w.grownBy w5 (Value.ownBlock (.slice vk n0 ck)) ∧ (Value.ownBlock (.slice vk n0 ck) = some g ∨ w.heap.size ≤ g) ∧ v.ownBlock = some w.heap.size ∧ w4.setCell ⟨pb, off + 1, none⟩ (.slice (some ⟨g4, 0, none⟩) (n0 + 1) cap4) = w5.setCell ⟨pb, off + 1, none⟩ (.slice (some ⟨g, 0, none⟩) (n0 + 1) cap)) := by
    intro g4 cap4 w4 ho4 hg4 hat4
    have hBP : Below w.heap.size w wp := by rw [hBX]; exact HBP.out
    refine ⟨w4, g4, cap4, .slice (some ⟨BX, 0, none⟩) 64 64, ?_, ?_, ?_, by rw [hBX]; rfl, rfl⟩
    · exact ownD_snoc (te := 77) HD'.out (by rw [hBX]; exact hhi) (by rw [hBX]; exact hlo) HN0.out hBP (by rw [hBX]; exact OP.out) ho4 hg4 hat4
    · refine World.grownBy.trans ?_ (World.grownBy.trans (World.grownBy_alloc wp _ _) hg4)
      exact ⟨hBP.os, hBP.tape, hBP.output, hBP.size, fun q hq _ => hBP.block q hq⟩
    · rcases hat4 with h | h
      · exact .inl h
      · right; have := HSP.out; omega
  clear bW
  refine wpAnyH_take (i := 0) (oi := { dst := some 6, op := _, type := _, pos := _, after := _, guard := _ }) (v := (.pointer (some ⟨pb, off, none⟩))) rfl (by kernel_rfl) (by kernel_rfl) (by kernel_rfl) (fun _ _ _ h => h) (Or.inl ⟨by rfl, ?hy1⟩) (by assumption) ?rest1
  case hy1 =>
    intro w9 hS9
    go_simp
    try with_reducible rfl
  try simp only [Act.put, List.setIfInBounds_toArray, List.set_cons_zero, List.set_cons_succ]
  refine wpAnyH_take (i := 1) (oi := { dst := some 7, op := _, type := _, pos := _, after := _, guard := _ }) (v := (.pointer (some ⟨pb, off, none⟩))) rfl (by kernel_rfl) (by kernel_rfl) (by kernel_rfl) (fun _ _ _ h => h) (Or.inl ⟨by rfl, ?hy2⟩) (by assumption) ?rest2
  case hy2 =>
    intro w9 hS9
    go_simp
    try with_reducible rfl
  try simp only [Act.put, List.setIfInBounds_toArray, List.set_cons_zero, List.set_cons_succ]
  refine wpAnyH_take (i := 2) (oi := { dst := some 8, op := _, type := _, pos := _, after := _, guard := _ }) (v := (.pointer (some ⟨pb, off, none⟩))) rfl (by kernel_rfl) (by kernel_rfl) (by kernel_rfl) (fun _ _ _ h => h) (Or.inl ⟨by rfl, ?hy3⟩) (by assumption) ?rest3
  case hy3 =>
    intro w9 hS9
    go_simp
    try with_reducible rfl
  try simp only [Act.put, List.setIfInBounds_toArray, List.set_cons_zero, List.set_cons_succ]
  refine wpAnyH_take (i := 3) (oi := { dst := some 9, op := _, type := _, pos := _, after := _, guard := _ }) (v := (.pointer (some ⟨pb, off + 1, none⟩))) rfl (by kernel_rfl) (by kernel_rfl) (by kernel_rfl) (fun _ _ _ h => h) (Or.inl ⟨by rfl, ?hy4⟩) (by assumption) ?rest4
  case hy4 =>
    intro w9 hS9
    go_simp
    try with_reducible rfl
  try simp only [Act.put, List.setIfInBounds_toArray, List.set_cons_zero, List.set_cons_succ]
  refine wpAnyH_take (i := 5) (oi := { dst := some 11, op := _, type := _, pos := _, after := _, guard := _ }) (v := (.int .i64 x)) rfl (by kernel_rfl) (by kernel_rfl) (by kernel_rfl) (fun _ _ _ h => h) (Or.inl ⟨by rfl, ?hy5⟩) (by assumption) ?rest5
  case hy5 =>
    intro w9 hS9
    go_simp
    try with_reducible rfl
  try simp only [Act.put, List.setIfInBounds_toArray, List.set_cons_zero, List.set_cons_succ]
  refine wpAnyH_take (i := 6) (oi := { dst := some 12, op := _, type := _, pos := _, after := _, guard := _ }) (v := (.slice (some ⟨BX, 0, none⟩) 64 64)) rfl (by kernel_rfl) (by kernel_rfl) (by kernel_rfl) (fun _ _ _ h => h) (Or.inl ⟨by rfl, ?hy6⟩) (by assumption) ?rest6
  case hy6 =>
    intro w9 hS9
    go_simp
    try with_reducible rfl
  try simp only [Act.put, List.setIfInBounds_toArray, List.set_cons_zero, List.set_cons_succ]
  refine wpAnyH_take (i := 7) (oi := { dst := some 13, op := _, type := _, pos := _, after := _, guard := _ }) (v := (.agg #[.int .i64 x, .slice (some ⟨BX, 0, none⟩) 64 64])) rfl (by kernel_rfl) (by kernel_rfl) (by kernel_rfl) (fun _ _ _ h => h) (Or.inl ⟨by rfl, ?hy7⟩) (by assumption) ?rest7
  case hy7 =>
    intro w9 hS9
    go_simp
    try with_reducible rfl
  try simp only [Act.put, List.setIfInBounds_toArray, List.set_cons_zero, List.set_cons_succ]
  refine wpAnyH_ready (rs := [4, 8]) (by kernel_rfl) (by simp) ?_
  refine (AllReadyH.cons (o := { dst := some 10, op := _, type := _, pos := _, after := _, guard := _ }) rfl (fun K hK => ?_) (AllReadyH.cons (o := { dst := some 14, op := _, type := _, pos := _, after := _, guard := _ }) rfl (fun K hK => ?_) AllReadyH.nil))
  · have hcp := HKP.out.1
    go_simp
    refine hK.out _ _ trivial (fun hx9 => ?_)
    clear hK K hx9
    try simp only [Act.put, List.setIfInBounds_toArray, List.set_cons_zero, List.set_cons_succ]
    refine wpAnyH_ready (rs := [8]) (by kernel_rfl) (by simp) ?_
    refine AllReadyH.cons (o := { dst := some 14, op := _, type := _, pos := _, after := _, guard := _ }) rfl (fun K hK => ?_) AllReadyH.nil
    go_simp
    refine hK.out _ _ trivial (fun hx9 => ?_)
    clear hK K hx9
    try simp only [Act.put, List.setIfInBounds_toArray, List.set_cons_zero, List.set_cons_succ]
    refine wpAnyH_ready (rs := [9]) (by kernel_rfl) (by simp) ?_
    refine AllReadyH.cons (o := { dst := some 15, op := _, type := _, pos := _, after := _, guard := _ }) rfl (fun K hK => ?_) AllReadyH.nil
    refine step_append_lies _ (by rfl) (.tmp 10) (.tmp 14) 30 (by rfl) lo 42 i0 (.agg #[.int .i64 0, .slice none 0 0]) 2 32 Try.underlying30 hi hz0 hz1 hz2 rfl (by omega) (.slice vk n0 ck) n0 (rowW n0 (pB ps) dv) (by rfl) HOW.out ⟨wp.heap.size, 0, none⟩ 1 1 [.int .i64 x, .slice (some ⟨BX, 0, none⟩) 64 64] (by rfl) (by rfl) (cell_two_new _ _ _ _) (by intro u hu; simp at hu; rcases hu with rfl | rfl <;> rfl) (by omega) (by unfold maxLen; omega) (by omega) HLO2.out (wp.heap.size + 1) (by simp) ?_
    intro g4 cap4 w4 ho4 hg4 hat4 hlt4
    obtain ⟨hq0, hq1⟩ := HK4.out w4 hg4
    have FIN := HFIN.out g4 cap4 w4 ho4 hg4 hat4
    have HFN : Hid _ := FIN
    clear FIN ho4 hg4 hat4 hlt4
    refine hK.out _ _ trivial (fun hx9 => ?_)
    clear hK K hx9
    try simp only [Act.put, List.setIfInBounds_toArray, List.set_cons_zero, List.set_cons_succ]
    refine wpAnyH_take (i := 10) (oi := { dst := some 16, op := _, type := _, pos := _, after := _, guard := _ }) (v := (.pointer (some ⟨pb, off, none⟩))) rfl (by kernel_rfl) (by kernel_rfl) (by kernel_rfl) (fun _ _ _ h => h) (Or.inl ⟨by rfl, ?hy8⟩) (by assumption) ?rest8
    case hy8 =>
      intro w9 hS9
      go_simp
      try with_reducible rfl
    try simp only [Act.put, List.setIfInBounds_toArray, List.set_cons_zero, List.set_cons_succ]
    refine wpAnyH_take (i := 11) (oi := { dst := some 17, op := _, type := _, pos := _, after := _, guard := _ }) (v := (.pointer (some ⟨pb, off + 1, none⟩))) rfl (by kernel_rfl) (by kernel_rfl) (by kernel_rfl) (fun _ _ _ h => h) (Or.inl ⟨by rfl, ?hy9⟩) (by assumption) ?rest9
    case hy9 =>
      intro w9 hS9
      go_simp
      try with_reducible rfl
    try simp only [Act.put, List.setIfInBounds_toArray, List.set_cons_zero, List.set_cons_succ]
    refine wpAnyH_ready (rs := [12]) (by kernel_rfl) (by simp) ?_
    refine AllReadyH.cons (o := { dst := none, op := _, type := _, pos := _, after := _, guard := _ }) rfl (fun K hK => ?_) AllReadyH.nil
    go_simp
    refine hK.out _ _ trivial (fun hx9 => ?_)
    clear hK K hx9
    try simp only [Act.put, List.setIfInBounds_toArray, List.set_cons_zero, List.set_cons_succ]
    refine wpAnyH_done (by kernel_rfl) ?_ _
    clear hHeld
    go_wp2
    go_end0
    exact ⟨rfl, HFN.out⟩
  · go_simp
    refine hK.out _ _ trivial (fun hx9 => ?_)
    clear hK K hx9
    try simp only [Act.put, List.setIfInBounds_toArray, List.set_cons_zero, List.set_cons_succ]
    refine wpAnyH_ready (rs := [4]) (by kernel_rfl) (by simp) ?_
    refine AllReadyH.cons (o := { dst := some 10, op := _, type := _, pos := _, after := _, guard := _ }) rfl (fun K hK => ?_) AllReadyH.nil
    have hcp := HK2.out.1
    go_simp
    refine hK.out _ _ trivial (fun hx9 => ?_)
    clear hK K hx9
    try simp only [Act.put, List.setIfInBounds_toArray, List.set_cons_zero, List.set_cons_succ]
    refine wpAnyH_ready (rs := [9]) (by kernel_rfl) (by simp) ?_
    refine AllReadyH.cons (o := { dst := some 15, op := _, type := _, pos := _, after := _, guard := _ }) rfl (fun K hK => ?_) AllReadyH.nil
    refine step_append_lies _ (by rfl) (.tmp 10) (.tmp 14) 30 (by rfl) lo 42 i0 (.agg #[.int .i64 0, .slice none 0 0]) 2 32 Try.underlying30 hi hz0 hz1 hz2 rfl (by omega) (.slice vk n0 ck) n0 (rowW n0 (pB ps) dv) (by rfl) HOW.out ⟨wp.heap.size, 0, none⟩ 1 1 [.int .i64 x, .slice (some ⟨BX, 0, none⟩) 64 64] (by rfl) (by rfl) (cell_two_new _ _ _ _) (by intro u hu; simp at hu; rcases hu with rfl | rfl <;> rfl) (by omega) (by unfold maxLen; omega) (by omega) HLO2.out (wp.heap.size + 1) (by simp) ?_
    intro g4 cap4 w4 ho4 hg4 hat4 hlt4
    obtain ⟨hq0, hq1⟩ := HK4.out w4 hg4
    have FIN := HFIN.out g4 cap4 w4 ho4 hg4 hat4
    have HFN : Hid _ := FIN
    clear FIN ho4 hg4 hat4 hlt4
    refine hK.out _ _ trivial (fun hx9 => ?_)
    clear hK K hx9
    try simp only [Act.put, List.setIfInBounds_toArray, List.set_cons_zero, List.set_cons_succ]
    refine wpAnyH_take (i := 10) (oi := { dst := some 16, op := _, type := _, pos := _, after := _, guard := _ }) (v := (.pointer (some ⟨pb, off, none⟩))) rfl (by kernel_rfl) (by kernel_rfl) (by kernel_rfl) (fun _ _ _ h => h) (Or.inl ⟨by rfl, ?hy10⟩) (by assumption) ?rest10
    case hy10 =>
      intro w9 hS9
      go_simp
      try with_reducible rfl
    try simp only [Act.put, List.setIfInBounds_toArray, List.set_cons_zero, List.set_cons_succ]
    refine wpAnyH_take (i := 11) (oi := { dst := some 17, op := _, type := _, pos := _, after := _, guard := _ }) (v := (.pointer (some ⟨pb, off + 1, none⟩))) rfl (by kernel_rfl) (by kernel_rfl) (by kernel_rfl) (fun _ _ _ h => h) (Or.inl ⟨by rfl, ?hy11⟩) (by assumption) ?rest11
    case hy11 =>
      intro w9 hS9
      go_simp
      try with_reducible rfl
    try simp only [Act.put, List.setIfInBounds_toArray, List.set_cons_zero, List.set_cons_succ]
    refine wpAnyH_ready (rs := [12]) (by kernel_rfl) (by simp) ?_
    refine AllReadyH.cons (o := { dst := none, op := _, type := _, pos := _, after := _, guard := _ }) rfl (fun K hK => ?_) AllReadyH.nil
    go_simp
    refine hK.out _ _ trivial (fun hx9 => ?_)
    clear hK K hx9
    try simp only [Act.put, List.setIfInBounds_toArray, List.set_cons_zero, List.set_cons_succ]
    refine wpAnyH_done (by kernel_rfl) ?_ _
    clear hHeld
    go_wp2
    go_end0
    exact ⟨rfl, HFN.out⟩

end Go.Proofs.Ytmgolinleiahpaa

namespace Go.Proofs.Ytmgolinleiahpaa
open Go.RowKit

/-- What a read of block b gives after the first k pending writes. -/
def rdv (dur : List Int) (ps : List (Int × List Int)) (b : Nat) : Nat → List Int
  | 0 => (dur.drop (b * 64)).take 64
  | k + 1 => if pB ps k = b then pD ps k else rdv dur ps b k

/-- A slice of a slice. -/
theorem Rd.part {k : IntKind} {w : World} {blk o n cap : Nat} {xs : List Int} (h : Rd k w (.slice (some ⟨blk, o, none⟩) n cap) xs) (hn : xs.length = n) (i m : Nat) (hm : i + m ≤ n) : Rd k w (.slice (some ⟨blk, o + i, none⟩) m (cap - i)) ((xs.drop i).take m) := by
  obtain ⟨ao, cap', e, h1, h2, h3⟩ := h
  simp only [Value.slice.injEq] at e
  obtain ⟨rfl, hl, rfl⟩ := e
  have hlen : ((xs.drop i).take m).length = m := by rw [List.length_take, List.length_drop]; omega
  refine ⟨_, cap - i, by rw [hlen], by omega, by omega, ?_⟩
  rcases h3 with rfl | ⟨b', o', e, hb, hc⟩
  · left; simp
  · injection e with e
    injection e with e1 e2 _
    subst e1; subst e2
    refine .inr ⟨blk, o + i, rfl, hb, fun j hj => ?_⟩
    rw [hlen] at hj
    have := hc (i + j) (by omega)
    rw [Nat.add_assoc, this]
    simp [List.getD, List.getElem?_drop, hj]

set_option maxHeartbeats 1000000 in
set_option maxRecDepth 100000 in
theorem specRead_yes (w : World) (va vb : Option Addr) (dl ca n cb : Nat) (dur : List Int) (ps : List (Int × List Int)) (b : Nat) (hd : Rd .u8 w (.slice va dl ca) dur) (hdl : dur.length = dl) (hp : RdW w (.slice vb n cb) ps) (hl : ps.length = n)
    (hv : vldD dl ps = true) (hb : b < dl / 64) (hd1 : dl ≤ 1048576) (hn : n ≤ 2000) (hpd : ∀ i, (pD ps i).length ≤ 1048576) :
    Calls Try.prog 21 #[.agg #[.slice va dl ca, .slice vb n cb], .int .i64 b] w fun e w' => ∃ v', e = .returned v' ∧ Own .u8 5 w' w.heap.size v' (rdv dur ps b n) ∧ Below w.heap.size w w' := by
  have HD : Hid (Rd .u8 w (.slice va dl ca) dur) := hd
  have HP : Hid (RdW w (.slice vb n cb) ps) := hp
  have HL : Hid (ps.length = n) := hl
  have HDL : Hid (dur.length = dl) := hdl
  have HPD : Hid (∀ i, (pD ps i).length ≤ 1048576) := hpd
  have HV : Hid (vldD dl ps = true) := hv
  have B0 : Hid (Below w.heap.size w (w.alloc (.cells #[.slice va dl ca, .slice vb n cb] 32))) := (Below.refl _ _).alloc (Nat.le_refl _) _
  have X0 : Hid (Box2 (w.alloc (.cells #[.slice va dl ca, .slice vb n cb] 32)) w.heap.size (.slice va dl ca) (.slice vb n cb)) := Box2.new _ _ _ _
  clear hd hp hl hdl hpd hv
  go_enter Try.func21, Try.ntmps21
  go_wp2_with fail
  generalize w.alloc (.cells #[.slice va dl ca, .slice vb n cb] 32) = w0 at *
  refine (specValid_any _ va vb dl ca n cb ps (HP.out.below B0.out) HL.out hd1 (by omega) HPD.out).mono ?_
  rintro e w1 ⟨rfl, b1⟩
  rw [HV.out]
  have B1 : Hid (Below w.heap.size w w1) := B0.out.trans (b1.mono B0.out.size)
  have X1 : Hid (Box2 w1 w.heap.size (.slice va dl ca) (.slice vb n cb)) := X0.out.below b1
  clear b1 X0 B0
  have t2 : ¬ (b : Int) < 0 := by omega
  have t2d : decide ((b : Int) < 0) = false := by simp
  obtain ⟨z1, c0, c1⟩ := X1.out
  go_wp2_with fail
  refine (l1Blocks_any _ va dl ca _ hd1).mono ?_
  rintro e w2 ⟨rfl, b2⟩
  have B2 : Hid (Below w.heap.size w w2) := B1.out.trans (b2.mono B1.out.size)
  have X2 : Hid (Box2 w2 w.heap.size (.slice va dl ca) (.slice vb n cb)) := X1.out.below b2
  have t3 : ¬ ((dl / 64 : Nat) : Int) ≤ (b : Int) := by omega
  have t3d : decide (((dl / 64 : Nat) : Int) ≤ (b : Int)) = false := by simpa using t3
  have HBB : Hid ((b + 1) * 64 ≤ dl) := by show _ ≤ _; have := ((vldD_iff dl ps).1 HV.out).1; omega
  clear b2 X1 B1 z1 c0 c1
  have hbb := HBB.out
  obtain ⟨blk, o, rfl⟩ : ∃ blk o, va = some ⟨blk, o, none⟩ := by
    obtain ⟨ao, c', e, _, _, h3⟩ := HD.out
    simp only [Value.slice.injEq] at e
    rcases h3 with rfl | ⟨b', o', rfl, _⟩
    · have := HDL.out; simp at this; omega
    · exact ⟨b', o', e.1⟩
  have hca : dl ≤ ca ∧ ca ≤ maxLen := by
    obtain ⟨ao, c', e, h1, h2⟩ := HD.out.len
    simp only [Value.slice.injEq] at e
    obtain ⟨_, e2, rfl⟩ := e
    omega
  obtain ⟨hca1, hca2⟩ := hca
  unfold maxLen at hca2
  obtain ⟨z1, c0, c1⟩ := X2.out
  generalize ((dl / 64 : Nat) : Int) = q at *
  go_wp2_with fail
  rw [show (b + 1) * 64 - b * 64 = 64 by omega]
  refine (l1Copy_any _ _ ((dur.drop (b * 64)).take 64) ((HD.out.part HDL.out (b * 64) 64 (by omega)).below B2.out) (by rw [List.length_take]; omega)).mono ?_
  rintro e w3 ⟨v3, rfl, o3, b3⟩
  have B3 : Hid (Below w.heap.size w w3) := B2.out.trans (b3.mono B2.out.size)
  have X3 : Hid (Box2 w3 w.heap.size (.slice (some ⟨blk, o, none⟩) dl ca) (.slice vb n cb)) := X2.out.below b3
  have O3 : Hid (Own .u8 5 w3 w.heap.size v3 (rdv dur ps b 0)) := o3.mono B2.out.size
  have s3 := B3.out.size
  clear o3 b3 X2 B2 z1 c0 c1 t2 t2d t3 t3d hca1 hca2 hbb hb
  obtain ⟨z1, c0, c1⟩ := X3.out
  go_wp2
  clear c0 c1
  go_loopw [5, 6] (fun v i wr => ∃ k : Nat, k ≤ n ∧ i = .int .i64 k ∧ Hid (Own .u8 5 wr w.heap.size v (rdv dur ps b k)) ∧ Hid (Below w3.heap.size w3 wr)) (fun _ i _ => n - (intOf i).toNat)
  case atStart => exact ⟨0, Nat.zero_le _, rfl, O3, Below.refl _ _⟩
  case round =>
    clear O3
    obtain ⟨k, hk, rfl, HO, HG⟩ := hrel
    have BW : Hid (Below w.heap.size w wr) := B3.out.trans (HG.out.mono s3)
    have sg := HG.out.size
    obtain ⟨z2, c0, c1⟩ := X3.out.below HG.out
    by_cases hlt : k < n
    · obtain ⟨pb, po, rfl, hpb, e1, da, dc, e2, r⟩ := HP.out.recAt HL.out hlt
      have e1' := (BW.out.cell (p := ⟨pb, po + k * 2, none⟩) hpb).trans e1
      have e2' := (BW.out.cell (p := ⟨pb, po + k * 2 + 1, none⟩) hpb).trans e2
      have RK : Hid (Rd .u8 wr (.slice da (pD ps k).length dc) (pD ps k)) := r.below BW.out
      have hltI : (k : Int) < (n : Int) := by omega
      have hpk := HPD.out k
      clear e1 e2 r
      by_cases heq : pB ps k = (b : Int)
      · have heqb : (pB ps k == (b : Int)) = true := beq_iff_eq.2 heq
        have HE : Hid (rdv dur ps b (k + 1) = pD ps k) := by show rdv _ _ _ _ = _; unfold rdv; rw [if_pos heq]
        go_wp2_with fail
        refine (l1Copy_any _ _ (pD ps k) RK.out (by omega)).mono ?_
        rintro e w4 ⟨v4, rfl, o4, b4⟩
        have O4 : Hid (Own .u8 5 w4 w.heap.size v4 (rdv dur ps b (k + 1))) := by show Own _ _ _ _ _ _; rw [HE.out]; exact o4.mono (by omega)
        have G4 : Hid (Below w3.heap.size w3 w4) := HG.out.trans (b4.mono sg)
        clear o4 b4 HO HG
        go_wp2
        go_roundw
        case rel => exact ⟨k + 1, by omega, by go_num, O4, G4⟩
        case measure => simp [intOf]; omega
      · have heqb : (pB ps k == (b : Int)) = false := beq_false_of_ne heq
        have HE : Hid (rdv dur ps b (k + 1) = rdv dur ps b k) := by show rdv _ _ _ _ = _; rw [rdv, if_neg heq]
        have O4 : Hid (Own .u8 5 wr w.heap.size u5 (rdv dur ps b (k + 1))) := by show Own _ _ _ _ _ _; rw [HE.out]; exact HO.out
        go_wp2
        go_roundw
        case rel => exact ⟨k + 1, by omega, by go_num, O4, HG⟩
        case measure => simp [intOf]; omega
    · have hkn : k = n := by omega
      subst hkn
      go_wp2
      go_ret
      exact ⟨_, rfl, HO.out, BW.out⟩

end Go.Proofs.Ytmgolinleiahpaa

namespace Go.Proofs.Ytmgolinleiahpaa
open Go.RowKit

/-- May the block be read? -/
def rdOk (dl : Nat) (ps : List (Int × List Int)) (x : Int) : Bool := vldD dl ps && decide (0 ≤ x ∧ x < ((dl / 64 : Nat) : Int))
def rdA (dur : List Int) (ps : List (Int × List Int)) (x : Int) : List Int := if rdOk dur.length ps x then rdv dur ps x.toNat ps.length else []

theorem own_lit0 {w w1 : World} (b : Below w.heap.size w w1) : Own .u8 5 (w1.alloc (.cells #[] 5)) w.heap.size (.slice (some ⟨w1.heap.size, 0, none⟩) 0 0) [] := World.ownsRow_lit w1 #[] 0 b.size (Nat.zero_le _) rfl

set_option maxHeartbeats 1000000 in
set_option maxRecDepth 100000 in
theorem specRead_no (w : World) (va vb : Option Addr) (dl ca n cb : Nat) (ps : List (Int × List Int)) (x : Int) (hp : RdW w (.slice vb n cb) ps) (hl : ps.length = n)
    (hno : rdOk dl ps x = false) (hn : n ≤ 1048576) (hd1 : dl ≤ 1048576) (hpd : ∀ i, (pD ps i).length ≤ 1048576) :
    Calls Try.prog 21 #[.agg #[.slice va dl ca, .slice vb n cb], .int .i64 x] w fun e w' => ∃ v', e = .returned v' ∧ Own .u8 5 w' w.heap.size v' [] ∧ Below w.heap.size w w' := by
  have HP : Hid (RdW w (.slice vb n cb) ps) := hp
  have HL : Hid (ps.length = n) := hl
  have HPD : Hid (∀ i, (pD ps i).length ≤ 1048576) := hpd
  have HNO : Hid (rdOk dl ps x = false) := hno
  have B0 : Hid (Below w.heap.size w (w.alloc (.cells #[.slice va dl ca, .slice vb n cb] 32))) := (Below.refl _ _).alloc (Nat.le_refl _) _
  have X0 : Hid (Box2 (w.alloc (.cells #[.slice va dl ca, .slice vb n cb] 32)) w.heap.size (.slice va dl ca) (.slice vb n cb)) := Box2.new _ _ _ _
  clear hp hl hpd hno
  go_enter Try.func21, Try.ntmps21
  go_wp2_with fail
  generalize w.alloc (.cells #[.slice va dl ca, .slice vb n cb] 32) = w0 at *
  refine (specValid_any _ va vb dl ca n cb ps (HP.out.below B0.out) HL.out hd1 hn HPD.out).mono ?_
  rintro e w1 ⟨rfl, b1⟩
  have B1 : Hid (Below w.heap.size w w1) := B0.out.trans (b1.mono B0.out.size)
  have X1 : Hid (Box2 w1 w.heap.size (.slice va dl ca) (.slice vb n cb)) := X0.out.below b1
  clear b1 X0 B0
  obtain ⟨z1, c0, c1⟩ := X1.out
  by_cases hv : vldD dl ps = true
  · rw [hv]
    have HV : Hid (vldD dl ps = true) := hv
    clear hv
    by_cases t2 : x < 0
    · have t2d : decide (x < 0) = true := by simpa using t2
      go_wp2
      go_ret
      exact ⟨_, rfl, own_lit0 B1.out, B1.out.alloc B1.out.size _⟩
    · have t2d : decide (x < 0) = false := by simpa using t2
      go_wp2_with fail
      refine (l1Blocks_any _ va dl ca _ hd1).mono ?_
      rintro e w2 ⟨rfl, b2⟩
      have B2 : Hid (Below w.heap.size w w2) := B1.out.trans (b2.mono B1.out.size)
      clear b2 X1 B1 z1 c0 c1
      have t3 : ((dl / 64 : Nat) : Int) ≤ x := by
        by_cases h : ((dl / 64 : Nat) : Int) ≤ x
        · exact h
        · have h' : rdOk dl ps x = true := by
            unfold rdOk
            simp only [Bool.and_eq_true, decide_eq_true_eq]
            exact ⟨HV.out, by omega, by omega⟩
          rw [HNO.out] at h'
          cases h'
      have t3d : decide (((dl / 64 : Nat) : Int) ≤ x) = true := by simpa using t3
      generalize ((dl / 64 : Nat) : Int) = q at *
      go_wp2
      go_ret
      exact ⟨_, rfl, own_lit0 B2.out, B2.out.alloc B2.out.size _⟩
  · have hv' : vldD dl ps = false := by simpa using hv
    rw [hv']
    clear hv hv'
    go_wp2
    go_ret
    exact ⟨_, rfl, own_lit0 B1.out, B1.out.alloc B1.out.size _⟩

theorem specRead_any (w : World) (v1 v2 : Value) (dur : List Int) (ps : List (Int × List Int)) (x : Int) (hd : Rd .u8 w v1 dur) (hp : RdW w v2 ps) (hdl : dur.length ≤ 1048576) (hn : ps.length ≤ 1048576) (hpd : ∀ i, (pD ps i).length ≤ 1048576) :
    Calls Try.prog 21 #[.agg #[v1, v2], .int .i64 x] w fun e w' => ∃ v', e = .returned v' ∧ Own .u8 5 w' w.heap.size v' (rdA dur ps x) ∧ Below w.heap.size w w' := by
  obtain ⟨va, ca, rfl, -⟩ := hd.len
  obtain ⟨vb, cb, rfl, -⟩ := id hp
  unfold rdA
  cases h : rdOk dur.length ps x with
  | true =>
    simp only [if_true]
    have h' := h
    unfold rdOk at h'
    simp only [Bool.and_eq_true, decide_eq_true_eq] at h'
    obtain ⟨h1, h2, h3⟩ := h'
    obtain ⟨b, rfl⟩ : ∃ b : Nat, x = b := ⟨x.toNat, by omega⟩
    rw [Int.toNat_natCast]
    exact specRead_yes w va vb dur.length ca ps.length cb dur ps b hd rfl hp rfl h1 (by omega) hdl (by have := ((vldD_iff _ _).1 h1).2.2.2.1; omega) hpd
  | false =>
    simp only [Bool.false_eq_true, if_false]
    exact specRead_no w va vb dur.length ca ps.length cb ps x hp rfl h hn hdl hpd

end Go.Proofs.Ytmgolinleiahpaa

