import Derived.Test.YtgjenbgclpmjmaaDoorEMark
import Derived.Test.YtgjenbgclpmjmaaDoorTEq
namespace Go.Proofs.YtgjenbgclpmjmaaDoor
open Go.RowKit Go.Shelf

theorem rowcell {w : World} {lo g n cap z : Nat} {e : TypeId} {us : List Value} (h : w.ownsRow lo e z (.slice (some ⟨g, 0, none⟩) n cap) n us) (i : Nat) (hi : i < n * z) : ∃ u, w.cell? ⟨g, i, none⟩ = some u ∧ w.frozen? ⟨g, i, none⟩ = false := by
  have hl : i < us.length := by rw [h.1]; exact hi
  have h1 := World.ownsRow.cells h (g := g) rfl i us[i] (List.getElem?_eq_getElem hl)
  rw [Addr.add_lit, Nat.zero_add] at h1
  exact ⟨_, h1, World.ownsRow.frozenAt h i⟩
theorem row_keep {w w' : World} {lo n z : Nat} {e : TypeId} {v : Value} {us : List Value} (ho : w.ownsRow lo e z v n us) (hb : Below w.heap.size w w') : w'.ownsRow lo e z v n us := by
  refine ⟨ho.1, ?_⟩
  rcases ho.2 with hn | ⟨g, cap, cur, rfl, hbg, hgg, rest⟩
  · exact .inl hn
  · exact .inr ⟨g, cap, cur, rfl, hbg, by rw [hb.block g (Array.getElem?_eq_some_iff.1 hgg).1]; exact hgg, rest⟩
/-- A row that is written on the way. -/
def RowW (w : World) (lo g n cap z : Nat) (e : TypeId) (w' : World) : Prop := (∃ us, w'.ownsRow lo e z (.slice (some ⟨g, 0, none⟩) n cap) n us) ∧ Below lo w w' ∧ KT e w w'
theorem RowW.set {w w' : World} {lo g n cap z : Nat} {e : TypeId} (h : RowW w lo g n cap z e w') (i : Nat) (u : Value) : RowW w lo g n cap z e (w'.setCell ⟨g, i, none⟩ u) := by
  obtain ⟨⟨us, h1⟩, h2, h3⟩ := h
  have hs := World.ownsRow.stored h1 i u
  have hg := (World.ownsRow.lt h1 g rfl).1
  exact ⟨⟨_, hs.1⟩, h2.setCell hg _, h3.grown h1 hs.2⟩
theorem RowW.below {w w' w2 : World} {lo g n cap z : Nat} {e : TypeId} (h : RowW w lo g n cap z e w') (hb : Below w'.heap.size w' w2) : RowW w lo g n cap z e w2 := by
  obtain ⟨⟨us, h1⟩, h2, h3⟩ := h
  refine ⟨⟨_, row_keep h1 hb⟩, h2.trans (hb.mono ?_), h3.below hb⟩
  have := World.ownsRow.lt h1 g rfl
  omega
theorem RowW.cell {w w' : World} {lo g n cap z : Nat} {e : TypeId} (h : RowW w lo g n cap z e w') (i : Nat) (hi : i < n * z) : ∃ u, w'.cell? ⟨g, i, none⟩ = some u ∧ w'.frozen? ⟨g, i, none⟩ = false := by
  obtain ⟨⟨us, h1⟩, -, -⟩ := h
  exact rowcell h1 i hi

set_option maxHeartbeats 2000000 in
set_option maxRecDepth 100000 in
theorem markNodeS_row (w : World) (lo g n cap k : Nat) (us : List Value) (ho : w.ownsRow lo 81 7 (.slice (some ⟨g, 0, none⟩) n cap) n us) (hk : k ≤ 1048576) (hn : n ≤ 1048576) :
    Calls Tryd.prog 84 #[.slice (some ⟨g, 0, none⟩) n cap, .int .i64 k] w fun e w' => e = .returned (.int .i64 ((k + 7 * n : Nat) : Int)) ∧ RowW w lo g n cap 7 81 w' := by
  have R0 : Hid (RowW w lo g n cap 7 81 w) := ⟨⟨us, ho⟩, Below.refl _ _, KT.refl _ _⟩
  clear ho
  go_enter Tryd.func84, Tryd.ntmps84
  go_wp2
  go_loopw [1, 5] (fun vk vi wr => ∃ j K : Nat, j ≤ n ∧ K = k + 7 * j ∧ vi = .int .i64 j ∧ vk = .int .i64 K ∧ Hid (RowW w lo g n cap 7 81 wr)) (fun _ i _ => n - (intOf i).toNat)
  case atStart => exact ⟨0, k, Nat.zero_le _, by omega, rfl, rfl, R0⟩
  case round =>
    obtain ⟨j, K, hj, hK, rfl, rfl, HR⟩ := hrel
    have HKE : Hid (K = k + 7 * j) := hK
    by_cases hlt : j < n
    · have hltI : (j : Int) < (n : Int) := by omega
      have hK2 : K ≤ 10000000 := by omega
      clear hK
      go_wp2_with fail
      refine (markText_any _ K (by omega)).mono ?_
      rintro e w1 ⟨rfl, b1⟩
      have R1 : Hid (RowW w lo g n cap 7 81 w1) := HR.out.below b1
      clear b1 HR
      obtain ⟨x0, d0, f0⟩ := R1.out.cell (j * 7) (by omega)
      have R2 : Hid (RowW w lo g n cap 7 81 (w1.setCell ⟨g, j * 7, none⟩ (.string (mtx K)))) := R1.out.set _ _
      go_wp2_with fail
      generalize w1.setCell ⟨g, j * 7, none⟩ (.string (mtx K)) = w2 at *
      clear d0 f0 R1
      have hm := markText_any w2 (K + 1) (by omega)
      rw [show ((K + 1 : Nat) : Int) = (K : Int) + 1 by omega] at hm
      refine hm.mono ?_
      clear hm
      rintro e w3 ⟨rfl, b3⟩
      have R3 : Hid (RowW w lo g n cap 7 81 w3) := R2.out.below b3
      clear b3 R2
      obtain ⟨x1, d1, f1⟩ := R3.out.cell (j * 7 + 1) (by omega)
      obtain ⟨x2, d2, f2⟩ := R3.out.cell (j * 7 + 2) (by omega)
      obtain ⟨x3, d3, f3⟩ := R3.out.cell (j * 7 + 3) (by omega)
      obtain ⟨x4, d4, f4⟩ := R3.out.cell (j * 7 + 4) (by omega)
      obtain ⟨x5, d5, f5⟩ := R3.out.cell (j * 7 + 5) (by omega)
      obtain ⟨x6, d6, f6⟩ := R3.out.cell (j * 7 + 6) (by omega)
      go_wp2
      refine ⟨⟨j + 1, K + 7, by omega, by have := HKE.out; omega, by go_num, by go_num, ?_⟩, by simp [intOf]; omega⟩
      exact ((((((R3.out.set _ _).set _ _).set _ _).set _ _).set _ _).set _ _)
    · have hjn : j = n := by omega
      subst hjn
      subst hK
      go_wp2
      go_ret
      exact ⟨rfl, HR.out⟩

set_option maxHeartbeats 400000 in
theorem markNodeS_nil (w : World) (ao : Option Addr) (cap k : Nat) : Calls Tryd.prog 84 #[.slice ao 0 cap, .int .i64 k] w fun e w' => e = .returned (.int .i64 k) ∧ w' = w := by
  go_enter Tryd.func84, Tryd.ntmps84
  go_wp2
  go_rounds 1
  go_ret
  exact ⟨rfl, rfl⟩

theorem markNodeS_any (w : World) (lo k : Nat) (v : Value) (ns : List Nd) (h : OwnN 81 w lo v ns) (hk : k ≤ 1048576) (hn : ns.length ≤ 1048576) :
    Calls Tryd.prog 84 #[v, .int .i64 k] w fun e w' => e = .returned (.int .i64 ((k + 7 * ns.length : Nat) : Int)) ∧ Below lo w w' ∧ KT 81 w w' := by
  have h0 := h
  rcases h.2 with ⟨rfl, h1⟩ | ⟨g, cap, cur, rfl, rest⟩
  · refine (markNodeS_nil w none 0 k).mono ?_
    rintro e w' ⟨rfl, rfl⟩
    rw [h1]
    exact ⟨rfl, Below.refl _ _, KT.refl _ _⟩
  · refine (markNodeS_row w lo g ns.length cap k _ h0 hk hn).mono ?_
    rintro e w' ⟨rfl, -, h2, h3⟩
    exact ⟨rfl, h2, h3⟩

set_option maxHeartbeats 400000 in
theorem markTree_any (w : World) (lo k : Nat) (v : Value) (ns : List Nd) (h : OwnN 81 w lo v ns) (hl : lo ≤ w.heap.size) (hk : k ≤ 1048576) (hn : ns.length ≤ 1048576) :
    Calls Tryd.prog 40 #[.agg #[v], .int .i64 k] w fun e w' => e = .returned (.int .i64 ((k + 7 * ns.length : Nat) : Int)) ∧ Below lo w w' ∧ KT 81 w w' := by
  have H : Hid (OwnN 81 w lo v ns) := h
  clear h
  go_enter Tryd.func40, Tryd.ntmps40
  go_wp2_with fail
  refine (markNodeS_any _ lo k v ns (H.out.below ((Below.refl _ _).alloc (Nat.le_refl _) _)) hk hn).mono ?_
  rintro e w1 ⟨rfl, b1, k1⟩
  have B1 : Hid (Below lo w w1) := ((Below.refl _ _).alloc hl _).trans b1
  have K1 : Hid (KT 81 w w1) := ((KT.refl _ _).alloc _).trans k1
  clear b1 k1
  go_wp2
  go_ret
  exact ⟨rfl, B1.out, K1.out⟩

end Go.Proofs.YtgjenbgclpmjmaaDoor
