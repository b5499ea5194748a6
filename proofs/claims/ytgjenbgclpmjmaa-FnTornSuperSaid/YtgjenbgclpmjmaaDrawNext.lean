import Derived.Test.YtgjenbgclpmjmaaImplSuper
namespace Go.Proofs.Ytgjenbgclpmjmaa
open Go.RowKit

/-- Only block k has turned. -/
def Only (k : Nat) (a b : World) : Prop := Below 0 a b ∧ ∀ j, j ≠ k → j < a.heap.size → b.heap[j]? = a.heap[j]?
theorem Only.refl (k : Nat) (a : World) : Only k a a := ⟨Below.refl _ _, fun _ _ _ => rfl⟩
theorem Only.trans {k : Nat} {a b c : World} (h : Only k a b) (h' : Only k b c) : Only k a c := ⟨h.1.trans h'.1, fun j hj hl => (h'.2 j hj (Nat.lt_of_lt_of_le hl h.1.size)).trans (h.2 j hj hl)⟩
theorem Only.set (k i : Nat) (a : World) (q : Nat) (v : Value) : Only k a ((a.drewN q).setCell ⟨k, i, none⟩ v) := ⟨((below_drewN' a q).mono (Nat.zero_le _)).setCell (Nat.zero_le _) _, fun _ hj _ => Below.heap_setCell (a.drewN q) _ _ _ hj⟩
theorem Only.below {k B : Nat} {a b : World} (h : Only k a b) (hk : B ≤ k) (hB : B ≤ a.heap.size) : Below B a b := ⟨h.1.os, h.1.tape, h.1.output, h.1.size, fun j hj => h.2 j (by omega) (by omega)⟩
theorem Only.bx5 {k : Nat} {a b : World} (h : Only k a b) {m : Nat} {x0 x1 x2 x3 x4 : Int} (hx : Bx5 a m x0 x1 x2 x3 x4) (hm : m ≠ k) : Bx5 b m x0 x1 x2 x3 x4 := by
  obtain ⟨h0, h1, h2, h3, h4, h5⟩ := hx
  have e : ∀ i, b.cell? ⟨m, i, none⟩ = a.cell? ⟨m, i, none⟩ := fun i => World.cell?_of_block (w := a) (h.2 m hm h0)
  exact ⟨Nat.lt_of_lt_of_le h0 h.1.size, (e 0).trans h1, (e 1).trans h2, (e 2).trans h3, (e 3).trans h4, (e 4).trans h5⟩

/-- A source of drawn numbers in a box. -/
def SRC (W : World) (k B : Nat) : Prop :=
  k < W.heap.size ∧ (∀ j, W.frozen? ⟨k, j, none⟩ = false) ∧ ∃ (ca : Option Addr) (N cc at_ mx : Nat) (sz : Int), W.cell? ⟨k, 0, none⟩ = some (.slice ca N cc) ∧ W.cell? ⟨k, 1, none⟩ = some (.int .i64 (at_ : Int)) ∧
    W.cell? ⟨k, 2, none⟩ = some (.int .i64 (mx : Int)) ∧ W.cell? ⟨k, 3, none⟩ = some (.int .i64 sz) ∧ mx < 1000003 ∧ N ≤ 4000 ∧ at_ ≤ 4000 ∧
    (N = 0 ∨ ∃ g, ca = some ⟨g, 0, none⟩ ∧ g ≠ k ∧ g < B ∧ ∀ i, i < N → ∃ x : Nat, x < 256 ∧ W.cell? ⟨g, i, none⟩ = some (.int .u8 (x : Int)))

theorem SRC.put1 {W : World} {k B q a : Nat} (h : SRC W k B) (ha : a ≤ 4000) : SRC ((W.drewN q).setCell ⟨k, 1, none⟩ (.int .i64 (a : Int))) k B := by
  obtain ⟨hk, hfr, ca, N, cc, at_, mx, sz, c0, c1, c2, c3, hmx, hN, hat, hrow⟩ := h
  have e : ∀ (p : Addr), p ≠ ⟨k, 1, none⟩ → ((W.drewN q).setCell ⟨k, 1, none⟩ (.int .i64 (a : Int))).cell? p = W.cell? p := fun p hp => World.cell?_setCell_other _ _ _ _ (fun h => hp (by first | exact h | exact h.symm))
  refine ⟨by simpa using hk, fun j => by rw [World.frozen?_setCell]; exact hfr j, ca, N, cc, a, mx, sz, (e _ (by simp)).trans c0, World.cell?_setCell_same _ _ _ c1, (e _ (by simp)).trans c2, (e _ (by simp)).trans c3, hmx, hN, ha, ?_⟩
  rcases hrow with h0 | ⟨g, rfl, hgk, hgB, hx⟩
  · exact .inl h0
  · refine .inr ⟨g, rfl, hgk, hgB, fun i hi => ?_⟩
    obtain ⟨x, hx1, hx2⟩ := hx i hi
    exact ⟨x, hx1, (e _ (by intro h; injection h with h; exact hgk h)).trans hx2⟩

theorem SRC.put2 {W : World} {k B q m : Nat} (h : SRC W k B) (hm : m < 1000003) : SRC ((W.drewN q).setCell ⟨k, 2, none⟩ (.int .i64 (m : Int))) k B := by
  obtain ⟨hk, hfr, ca, N, cc, at_, mx, sz, c0, c1, c2, c3, hmx, hN, hat, hrow⟩ := h
  have e : ∀ (p : Addr), p ≠ ⟨k, 2, none⟩ → ((W.drewN q).setCell ⟨k, 2, none⟩ (.int .i64 (m : Int))).cell? p = W.cell? p := fun p hp => World.cell?_setCell_other _ _ _ _ (fun h => hp (by first | exact h | exact h.symm))
  refine ⟨by simpa using hk, fun j => by rw [World.frozen?_setCell]; exact hfr j, ca, N, cc, at_, m, sz, (e _ (by simp)).trans c0, (e _ (by simp)).trans c1, World.cell?_setCell_same _ _ _ c2, (e _ (by simp)).trans c3, hm, hN, hat, ?_⟩
  rcases hrow with h0 | ⟨g, rfl, hgk, hgB, hx⟩
  · exact .inl h0
  · refine .inr ⟨g, rfl, hgk, hgB, fun i hi => ?_⟩
    obtain ⟨x, hx1, hx2⟩ := hx i hi
    exact ⟨x, hx1, (e _ (by intro h; injection h with h; exact hgk h)).trans hx2⟩

theorem SRC.mono {W : World} {k B B' : Nat} (h : SRC W k B) (hB : B ≤ B') : SRC W k B' := by
  obtain ⟨hk, hfr, ca, N, cc, at_, mx, sz, c0, c1, c2, c3, hmx, hN, hat, hrow⟩ := h
  refine ⟨hk, hfr, ca, N, cc, at_, mx, sz, c0, c1, c2, c3, hmx, hN, hat, ?_⟩
  rcases hrow with h0 | ⟨g, rfl, hgk, hgB, hx⟩
  · exact .inl h0
  · exact .inr ⟨g, rfl, hgk, by omega, hx⟩
theorem SRC.keep {W W' : World} {k B : Nat} (h : SRC W k B) (hb : Below B W W') (hkB : k < B) : SRC W' k B := by
  obtain ⟨hk, hfr, ca, N, cc, at_, mx, sz, c0, c1, c2, c3, hmx, hN, hat, hrow⟩ := h
  have e : ∀ i, W'.cell? ⟨k, i, none⟩ = W.cell? ⟨k, i, none⟩ := fun i => hb.cell (p := ⟨k, i, none⟩) hkB
  refine ⟨Nat.lt_of_lt_of_le hk hb.size, fun j => (hb.frozen (p := ⟨k, j, none⟩) hkB).trans (hfr j), ca, N, cc, at_, mx, sz, (e 0).trans c0, (e 1).trans c1, (e 2).trans c2, (e 3).trans c3, hmx, hN, hat, ?_⟩
  rcases hrow with h0 | ⟨g, rfl, hgk, hgB, hx⟩
  · exact .inl h0
  · refine .inr ⟨g, rfl, hgk, hgB, fun i hi => ?_⟩
    obtain ⟨x, hx1, hx2⟩ := hx i hi
    exact ⟨x, hx1, (hb.cell (p := ⟨g, i, none⟩) hgB).trans hx2⟩

def NextPost (W : World) (k B n : Nat) (e : Ending) (w' : World) : Prop := ∃ r : Nat, e = .returned (.int .i64 (r : Int)) ∧ r < n ∧ SRC w' k B ∧ Only k W w'

set_option maxHeartbeats 1000000 in
set_option maxRecDepth 100000 in
theorem next_any (W : World) (k B n : Nat) (h : SRC W k B) (hn : 2 ≤ n) (hn1 : n ≤ 1000000) :
    Calls Try.prog 45 #[.pointer (some ⟨k, 0, none⟩), .int .i64 n] W fun e w' => NextPost W k B n e w' := by
  have HS : Hid (SRC W k B) := h
  obtain ⟨hk, hfr, ca, N, cc, at_, mx, sz, c0, c1, c2, c3, hmx, hN, hat, hrow⟩ := h
  have hf1 := hfr 1
  have hf2 := hfr 2
  have hn0 : ¬ (n : Int) ≤ 1 := by omega
  have HROW : Hid (N = 0 ∨ ∃ g, ca = some ⟨g, 0, none⟩ ∧ g ≠ k ∧ g < B ∧ ∀ i, i < N → ∃ x : Nat, x < 256 ∧ W.cell? ⟨g, i, none⟩ = some (.int .u8 (x : Int))) := hrow
  clear hfr hrow
  by_cases hc : at_ < N ∧ n ≤ 256
  · obtain ⟨hc1, hc2⟩ := hc
    rcases HROW.out with h0 | ⟨g, rfl, hgk, hgB, hx⟩
    · omega
    · obtain ⟨x, hx8, cx⟩ := hx at_ hc1
      have hI1 : (at_ : Int) < (N : Int) := by omega
      have hI2 : (n : Int) ≤ 256 := by omega
      have hz : ((n : Int) == 0) = false := beq_eq_false_iff_ne.2 (by omega)
      clear hx
      go_enter Try.func45, Try.ntmps45
      go_wp2
      go_quiet (fail)
      go_wp2
      go_quiet (fail)
      go_wp2
      go_ret
      refine ⟨x % n, ret_int (by omega), Nat.mod_lt _ (by omega), ?_, Only.set k 1 W _ _⟩
      have e : ((at_ : Int) + 1) = ((at_ + 1 : Nat) : Int) := by omega
      rw [e]
      exact HS.out.put1 (by omega)
  · have hcase : (¬ (at_ : Int) < (N : Int)) ∨ ((at_ : Int) < (N : Int) ∧ ¬ (n : Int) ≤ 256) := by omega
    have hz : ((n : Int) == 0) = false := beq_eq_false_iff_ne.2 (by omega)
    clear hc
    rcases hcase with h1 | ⟨h1, h2⟩
    · have h1n : N ≤ at_ := by omega
      have h1m : ¬ at_ < N := by omega
      have h1e : (N : Int) ≤ (at_ : Int) := by omega
      go_enter Try.func45, Try.ntmps45
      go_wp2
      go_quiet (fail)
      go_wp2
      go_ret
      refine ⟨(mx * 1103 + 12347) % 1000003 / 3 % n, ret_int (by rw [Int.natCast_emod, show ((mx : Int) * 1103 + 12347) % 1000003 / 3 = (((mx * 1103 + 12347) % 1000003 / 3 : Nat) : Int) by omega]), Nat.mod_lt _ (by omega), ?_, Only.set k 2 W _ _⟩
      have e : ((mx : Int) * 1103 + 12347) % 1000003 = (((mx * 1103 + 12347) % 1000003 : Nat) : Int) := by omega
      rw [e]
      exact HS.out.put2 (Nat.mod_lt _ (by omega))
    · have h1n : at_ < N := by omega
      have h2n : 256 < n := by omega
      have h2m : ¬ n ≤ 256 := by omega
      go_enter Try.func45, Try.ntmps45
      go_wp2
      go_quiet (fail)
      go_wp2
      go_ret
      refine ⟨(mx * 1103 + 12347) % 1000003 / 3 % n, ret_int (by rw [Int.natCast_emod, show ((mx : Int) * 1103 + 12347) % 1000003 / 3 = (((mx * 1103 + 12347) % 1000003 / 3 : Nat) : Int) by omega]), Nat.mod_lt _ (by omega), ?_, Only.set k 2 W _ _⟩
      have e : ((mx : Int) * 1103 + 12347) % 1000003 = (((mx * 1103 + 12347) % 1000003 : Nat) : Int) := by omega
      rw [e]
      exact HS.out.put2 (Nat.mod_lt _ (by omega))

end Go.Proofs.Ytgjenbgclpmjmaa
