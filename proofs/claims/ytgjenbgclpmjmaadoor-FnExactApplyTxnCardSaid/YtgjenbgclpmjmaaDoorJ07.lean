import Derived.Test.YtgjenbgclpmjmaaDoorJ06
import Derived.Test.YtgjenbgclpmjmaaDoorJ03
import Derived.Test.YtgjenbgclpmjmaaDoorJ04
import Derived.Test.YtgjenbgclpmjmaaDoorJ02
import Derived.Deep.CutRange
import Derived.Lib.SmallJoins
import Derived.Deep.Slices
import Derived.Deep.DeepHandedRow
import Derived.ShutString
import Derived.ChangeOld
import Derived.ChangeMaps5
import Derived.Test.YtgjenbgclpmjmaaDoorCards
import Derived.Test.YtgjenbgclpmjmaaDoorTie
import Derived.Lib.LaidIn
namespace Go.Proofs.YtgjenbgclpmjmaaDoor
open Go.RowKit Go.Shelf

theorem OwnN.keepT {w w' : World} {lo : Nat} {v : Value} {ns : List Nd} {t : TypeId} (h : OwnN 81 w lo v ns) (hk : KT t w w') (ht : 81 ≠ t) : OwnN 81 w' lo v ns := by
  refine ⟨h.1, ?_⟩
  rcases h.2 with hn | ⟨g, cap, cur, rfl, hbg, hgg, rest⟩
  · exact .inl hn
  · exact .inr ⟨g, cap, cur, rfl, hbg, hk.box hgg ht, rest⟩
theorem OwnN.belowM {w w' : World} {lo m : Nat} {v : Value} {ns : List Nd} (h : OwnN 81 w lo v ns) (hb : Below m w w') (hlt : ∀ g, v.ownBlock = some g → g < m) : OwnN 81 w' lo v ns := by
  refine ⟨h.1, ?_⟩
  rcases h.2 with hn | ⟨g, cap, cur, rfl, hbg, hgg, rest⟩
  · exact .inl hn
  · exact .inr ⟨g, cap, cur, rfl, hbg, (hb.block g (hlt g rfl)).trans hgg, rest⟩

set_option maxHeartbeats 400000 in
theorem heldTree_any (w : World) (k n : Nat) (v : Value) (h : RdN w v (mkNs k n)) (hk : k ≤ 1048576) (hn : n ≤ 1048576) :
    Calls Tryd.prog 51 #[.agg #[v], .int .i64 k] w fun e w' => e = .returned (.int .i64 ((k + 7 * n : Nat) : Int)) ∧ Below w.heap.size w w' := by
  have B0 : Hid (Below w.heap.size w (w.alloc (.cells #[v] 30))) := (Below.refl _ _).alloc (Nat.le_refl _) _
  have H : Hid (RdN (w.alloc (.cells #[v] 30)) v (mkNs k n)) := h.below B0.out
  clear h
  go_enter Tryd.func51, Tryd.ntmps51
  go_wp2_with fail
  refine (heldNodeS_any _ _ k n H.out hk hn).mono ?_
  rintro e w1 ⟨rfl, b1⟩
  have B1 : Hid (Below w.heap.size w w1) := B0.out.trans (b1.mono (by simp))
  have hI : ¬ ((k + 7 * n : Nat) : Int) < 0 := by omega
  clear b1
  go_wp2
  go_ret
  exact ⟨rfl, B1.out⟩

end Go.Proofs.YtgjenbgclpmjmaaDoor

namespace Go.Proofs.YtgjenbgclpmjmaaDoor
open Go.RowKit Go.Shelf

/-- Of the blocks that were there only one has turned. -/
def Onl (w : World) (row : Option Nat) (w' : World) : Prop := w.heap.size ≤ w'.heap.size ∧ ∀ b, b < w.heap.size → some b ≠ row → w'.heap[b]? = w.heap[b]?
theorem Onl.refl (w : World) (row : Option Nat) : Onl w row w := ⟨Nat.le_refl _, fun _ _ _ => rfl⟩
theorem Onl.grown {w w1 w2 : World} {row : Option Nat} (h : Onl w row w1) (hg : w1.grownBy w2 row) : Onl w row w2 := ⟨Nat.le_trans h.1 hg.size, fun b hb hne => (hg.block b (Nat.lt_of_lt_of_le hb h.1) hne).trans (h.2 b hb hne)⟩
theorem Onl.below {w w1 w2 : World} {row : Option Nat} (h : Onl w row w1) (hb : Below w1.heap.size w1 w2) : Onl w row w2 := ⟨Nat.le_trans h.1 hb.size, fun b hl hne => (hb.block b (Nat.lt_of_lt_of_le hl h.1)).trans (h.2 b hl hne)⟩
theorem Onl.after {w w1 w2 : World} {row : Option Nat} (hb : Below w.heap.size w w1) (h : Onl w1 row w2) : Onl w row w2 := ⟨Nat.le_trans hb.size h.1, fun b hl hne => (h.2 b (Nat.lt_of_lt_of_le hl hb.size) hne).trans (hb.block b hl)⟩
theorem OwnN.onl {w w' : World} {lo : Nat} {v : Value} {ns : List Nd} {row : Option Nat} (h : OwnN 81 w lo v ns) (ho : Onl w row w') (hne : ∀ g, v.ownBlock = some g → row ≠ some g) : OwnN 81 w' lo v ns := by
  refine ⟨h.1, ?_⟩
  rcases h.2 with hn | ⟨g, cap, cur, rfl, hbg, hgg, rest⟩
  · exact .inl hn
  · exact .inr ⟨g, cap, cur, rfl, hbg, (ho.2 g (Array.getElem?_eq_some_iff.1 hgg).1 (fun e => hne g rfl e.symm)).trans hgg, rest⟩
/-- A row of nodes on the way. -/
def RowO (w : World) (lo g n cap : Nat) (us : List Value) (w' : World) : Prop := w'.ownsRow lo 81 7 (.slice (some ⟨g, 0, none⟩) n cap) n us ∧ Below lo w w' ∧ KT 81 w w' ∧ Onl w (some g) w'
theorem RowO.set {w w' : World} {lo g n cap : Nat} {us : List Value} (h : RowO w lo g n cap us w') (i : Nat) (u : Value) : RowO w lo g n cap (us.set i u) (w'.setCell ⟨g, i, none⟩ u) := by
  obtain ⟨h1, h2, h3, h4⟩ := h
  have hs := World.ownsRow.stored h1 i u
  exact ⟨hs.1, h2.setCell (World.ownsRow.lt h1 g rfl).1 _, h3.grown h1 hs.2, h4.grown hs.2⟩
theorem RowO.below {w w' w2 : World} {lo g n cap : Nat} {us : List Value} (h : RowO w lo g n cap us w') (hb : Below w'.heap.size w' w2) : RowO w lo g n cap us w2 := by
  obtain ⟨h1, h2, h3, h4⟩ := h
  refine ⟨row_keep h1 hb, h2.trans (hb.mono ?_), h3.below hb, h4.below hb⟩
  have := World.ownsRow.lt h1 g rfl
  omega
theorem RowO.cell {w w' : World} {lo g n cap : Nat} {us : List Value} (h : RowO w lo g n cap us w') (i : Nat) (hi : i < n * 7) : ∃ u, w'.cell? ⟨g, i, none⟩ = some u ∧ w'.frozen? ⟨g, i, none⟩ = false := rowcell h.1 i hi

set_option maxHeartbeats 2000000 in
set_option maxRecDepth 100000 in
theorem markNodeO_row (w : World) (lo g n cap k : Nat) (ns : List Nd) (hp : ns.length = n) (ho : w.ownsRow lo 81 7 (.slice (some ⟨g, 0, none⟩) n cap) n (nrow ns)) (hk : k ≤ 1048576) (hn : n ≤ 1048576) :
    Calls Tryd.prog 84 #[.slice (some ⟨g, 0, none⟩) n cap, .int .i64 k] w fun e w' => e = .returned (.int .i64 ((k + 7 * n : Nat) : Int)) ∧ RowO w lo g n cap (nrow (mkNs k n)) w' := by
  have R0 : Hid (RowO w lo g n cap (nrow (mkMix k ns 0)) w) := ⟨by unfold mkMix mkNs; simpa using ho, Below.refl _ _, KT.refl _ _, Onl.refl _ _⟩
  have HP : Hid (ns.length = n) := hp
  clear ho hp
  go_enter Tryd.func84, Tryd.ntmps84
  go_wp2
  go_loopw [1, 5] (fun vk vi wr => ∃ j K : Nat, j ≤ n ∧ K = k + 7 * j ∧ vi = .int .i64 j ∧ vk = .int .i64 K ∧ Hid (RowO w lo g n cap (nrow (mkMix k ns j)) wr)) (fun _ i _ => n - (intOf i).toNat)
  case atStart => exact ⟨0, k, Nat.zero_le _, by omega, rfl, rfl, R0⟩
  case round =>
    obtain ⟨j, K, hj, hK, rfl, rfl, HR⟩ := hrel
    have HKE : Hid (K = k + 7 * j) := hK
    by_cases hlt : j < n
    · have hltI : (j : Int) < (n : Int) := by omega
      have hK2 : K ≤ 10000000 := by omega
      have HS : Hid (set7 (nrow (mkMix k ns j)) (j * 7) (mkN K) = nrow (mkMix k ns (j + 1))) := by
        show _ = _
        rw [nrow_set _ _ _ (by rw [mkMix_len _ _ _ (by rw [HP.out]; omega), HP.out]; exact hlt), hK, mkMix_set _ _ _ (by rw [HP.out]; exact hlt)]
      generalize nrow (mkMix k ns j) = us at *
      clear hK
      go_wp2_with fail
      refine (markText_any _ K (by omega)).mono ?_
      rintro e w1 ⟨rfl, b1⟩
      have R1 : Hid (RowO w lo g n cap us w1) := HR.out.below b1
      clear b1 HR
      obtain ⟨x0, d0, f0⟩ := R1.out.cell (j * 7) (by omega)
      have R2 : Hid (RowO w lo g n cap (us.set (j * 7) (.string (mtx K))) (w1.setCell ⟨g, j * 7, none⟩ (.string (mtx K)))) := R1.out.set _ _
      go_wp2_with fail
      generalize w1.setCell ⟨g, j * 7, none⟩ (.string (mtx K)) = w2 at *
      clear d0 f0 R1
      have hm := markText_any w2 (K + 1) (by omega)
      rw [show ((K + 1 : Nat) : Int) = (K : Int) + 1 by omega] at hm
      refine hm.mono ?_
      clear hm
      rintro e w3 ⟨rfl, b3⟩
      have R3 : Hid (RowO w lo g n cap (us.set (j * 7) (.string (mtx K))) w3) := R2.out.below b3
      clear b3 R2
      obtain ⟨x1, d1, f1⟩ := R3.out.cell (j * 7 + 1) (by omega)
      obtain ⟨x2, d2, f2⟩ := R3.out.cell (j * 7 + 2) (by omega)
      obtain ⟨x3, d3, f3⟩ := R3.out.cell (j * 7 + 3) (by omega)
      obtain ⟨x4, d4, f4⟩ := R3.out.cell (j * 7 + 4) (by omega)
      obtain ⟨x5, d5, f5⟩ := R3.out.cell (j * 7 + 5) (by omega)
      obtain ⟨x6, d6, f6⟩ := R3.out.cell (j * 7 + 6) (by omega)
      go_wp2
      refine ⟨⟨j + 1, K + 7, by omega, by have := HKE.out; omega, by go_num, by go_num, ?_⟩, by simp [intOf]; omega⟩
      show RowO _ _ _ _ _ _ _
      rw [← HS.out]
      exact ((((((R3.out.set _ _).set _ _).set _ _).set _ _).set _ _).set _ _)
    · have hjn : j = n := by omega
      subst hjn
      subst hK
      have HF : Hid (RowO w lo g j cap (nrow (mkNs k j)) wr) := by have := HR.out; rw [← HP.out, mkMix_all, HP.out] at this; exact this
      go_wp2
      go_ret
      exact ⟨rfl, HF.out⟩

theorem markNodeO_any (w : World) (lo k : Nat) (v : Value) (ns : List Nd) (h : OwnN 81 w lo v ns) (hk : k ≤ 1048576) (hn : ns.length ≤ 1048576) :
    Calls Tryd.prog 84 #[v, .int .i64 k] w fun e w' => e = .returned (.int .i64 ((k + 7 * ns.length : Nat) : Int)) ∧ OwnN 81 w' lo v (mkNs k ns.length) ∧ Below lo w w' ∧ KT 81 w w' ∧ Onl w v.ownBlock w' := by
  have h0 := h
  rcases h.2 with ⟨rfl, h1⟩ | ⟨g, cap, cur, rfl, rest⟩
  · refine (markNodeS_nil w none 0 k).mono ?_
    rintro e w' ⟨rfl, rfl⟩
    rw [h1]
    exact ⟨rfl, World.ownsRow_nil _ _ _ _, Below.refl _ _, KT.refl _ _, Onl.refl _ _⟩
  · refine (markNodeO_row w lo g ns.length cap k ns rfl h0 hk hn).mono ?_
    rintro e w' ⟨rfl, h1, h2, h3, h4⟩
    exact ⟨rfl, by unfold OwnN; rw [mkNs_len]; exact h1, h2, h3, h4⟩

set_option maxHeartbeats 400000 in
theorem markTreeO_any (w : World) (lo k : Nat) (v : Value) (ns : List Nd) (h : OwnN 81 w lo v ns) (hl : lo ≤ w.heap.size) (hk : k ≤ 1048576) (hn : ns.length ≤ 1048576) :
    Calls Tryd.prog 40 #[.agg #[v], .int .i64 k] w fun e w' => e = .returned (.int .i64 ((k + 7 * ns.length : Nat) : Int)) ∧ OwnN 81 w' lo v (mkNs k ns.length) ∧ Below lo w w' ∧ KT 81 w w' ∧ Onl w v.ownBlock w' := by
  have H : Hid (OwnN 81 w lo v ns) := h
  clear h
  go_enter Tryd.func40, Tryd.ntmps40
  go_wp2_with fail
  refine (markNodeO_any _ lo k v ns (H.out.below ((Below.refl _ _).alloc (Nat.le_refl _) _)) hk hn).mono ?_
  rintro e w1 ⟨rfl, o1, b1, k1, n1⟩
  have O1 : Hid (OwnN 81 w1 lo v (mkNs k ns.length)) := o1
  have B1 : Hid (Below lo w w1) := ((Below.refl _ _).alloc hl _).trans b1
  have K1 : Hid (KT 81 w w1) := ((KT.refl _ _).alloc _).trans k1
  have N1 : Hid (Onl w v.ownBlock w1) := Onl.after ((Below.refl _ _).alloc (Nat.le_refl _) _) n1
  clear b1 k1 o1 n1
  go_wp2
  go_ret
  exact ⟨rfl, O1.out, B1.out, K1.out, N1.out⟩

end Go.Proofs.YtgjenbgclpmjmaaDoor

namespace Go.Proofs.YtgjenbgclpmjmaaDoor
open Go.RowKit Go.Shelf

set_option maxHeartbeats 2000000 in
set_option maxRecDepth 100000 in
theorem markEffectS_row (w : World) (lo g n cap k : Nat) (us : List Value) (ho : w.ownsRow lo 86 8 (.slice (some ⟨g, 0, none⟩) n cap) n us) (hk : k ≤ 100000000) (hn : n ≤ 1048576) :
    Calls Tryd.prog 94 #[.slice (some ⟨g, 0, none⟩) n cap, .int .i64 k] w fun e w' => e = .returned (.int .i64 ((k + 8 * n : Nat) : Int)) ∧ RowW w lo g n cap 8 86 w' := by
  have R0 : Hid (RowW w lo g n cap 8 86 w) := ⟨⟨us, ho⟩, Below.refl _ _, KT.refl _ _⟩
  clear ho
  go_enter Tryd.func94, Tryd.ntmps94
  go_wp2
  go_loopw [1, 5] (fun vk vi wr => ∃ j K : Nat, j ≤ n ∧ K = k + 8 * j ∧ vi = .int .i64 j ∧ vk = .int .i64 K ∧ Hid (RowW w lo g n cap 8 86 wr)) (fun _ i _ => n - (intOf i).toNat)
  case atStart => exact ⟨0, k, Nat.zero_le _, by omega, rfl, rfl, R0⟩
  case round =>
    obtain ⟨j, K, hj, hK, rfl, rfl, HR⟩ := hrel
    have HKE : Hid (K = k + 8 * j) := hK
    by_cases hlt : j < n
    · have hltI : (j : Int) < (n : Int) := by omega
      have hK2 : K ≤ 1000000000 := by omega
      clear hK
      have hm1 : Hid (∀ W, Calls Tryd.prog 85 #[.int .i64 ((K : Int) + 1)] W fun e w' => e = .returned (.string (mtx (K + 1))) ∧ Below W.heap.size W w') := by
        intro W
        have hm := markText_any W (K + 1) (by omega)
        rw [show ((K + 1 : Nat) : Int) = (K : Int) + 1 by omega] at hm
        exact hm
      have hm2 : Hid (∀ W, Calls Tryd.prog 85 #[.int .i64 ((K : Int) + 1 + 1)] W fun e w' => e = .returned (.string (mtx (K + 2))) ∧ Below W.heap.size W w') := by
        intro W
        have hm := markText_any W (K + 2) (by omega)
        rw [show ((K + 2 : Nat) : Int) = (K : Int) + 1 + 1 by omega] at hm
        exact hm
      obtain ⟨x0, d0, f0⟩ := HR.out.cell (j * 8) (by omega)
      go_wp2_with fail
      refine (hm1.out _).mono ?_
      rintro e w1 ⟨rfl, b1⟩
      have R1 : Hid (RowW w lo g n cap 8 86 w1) := (HR.out.set _ _).below b1
      clear b1 HR d0 f0 hm1
      obtain ⟨x1, d1, f1⟩ := R1.out.cell (j * 8 + 1) (by omega)
      go_wp2_with fail
      refine (hm2.out _).mono ?_
      rintro e w3 ⟨rfl, b3⟩
      have R3 : Hid (RowW w lo g n cap 8 86 w3) := (R1.out.set _ _).below b3
      clear b3 R1 d1 f1 hm2
      obtain ⟨x2, d2, f2⟩ := R3.out.cell (j * 8 + 2) (by omega)
      obtain ⟨x3, d3, f3⟩ := R3.out.cell (j * 8 + 3) (by omega)
      obtain ⟨x4, d4, f4⟩ := R3.out.cell (j * 8 + 4) (by omega)
      obtain ⟨x5, d5, f5⟩ := R3.out.cell (j * 8 + 5) (by omega)
      obtain ⟨x6, d6, f6⟩ := R3.out.cell (j * 8 + 6) (by omega)
      obtain ⟨x7, d7, f7⟩ := R3.out.cell (j * 8 + 7) (by omega)
      go_wp2
      refine ⟨⟨j + 1, K + 8, by omega, by have := HKE.out; omega, by go_num, by go_num, ?_⟩, by simp [intOf]; omega⟩
      exact ((((((R3.out.set _ _).set _ _).set _ _).set _ _).set _ _).set _ _)
    · have hjn : j = n := by omega
      subst hjn
      subst hK
      go_wp2
      go_ret
      exact ⟨rfl, HR.out⟩

set_option maxHeartbeats 400000 in
theorem markEffectS_nil (w : World) (ao : Option Addr) (cap k : Nat) : Calls Tryd.prog 94 #[.slice ao 0 cap, .int .i64 k] w fun e w' => e = .returned (.int .i64 k) ∧ w' = w := by
  go_enter Tryd.func94, Tryd.ntmps94
  go_wp2
  go_rounds 1
  go_ret
  exact ⟨rfl, rfl⟩

theorem markEffectS_any (w : World) (lo k : Nat) (v : Value) (ns : List Ef) (h : OwnE 86 w lo v ns) (hk : k ≤ 100000000) (hn : ns.length ≤ 1048576) :
    Calls Tryd.prog 94 #[v, .int .i64 k] w fun e w' => e = .returned (.int .i64 ((k + 8 * ns.length : Nat) : Int)) ∧ Below lo w w' ∧ KT 86 w w' := by
  have h0 := h
  rcases h.2 with ⟨rfl, h1⟩ | ⟨g, cap, cur, rfl, rest⟩
  · refine (markEffectS_nil w none 0 k).mono ?_
    rintro e w' ⟨rfl, rfl⟩
    rw [h1]
    exact ⟨rfl, Below.refl _ _, KT.refl _ _⟩
  · refine (markEffectS_row w lo g ns.length cap k _ h0 hk hn).mono ?_
    rintro e w' ⟨rfl, -, h2, h3⟩
    exact ⟨rfl, h2, h3⟩

set_option maxHeartbeats 400000 in
theorem markTxn_any (w : World) (lo k : Nat) (z : Int) (v : Value) (ns : List Ef) (h : OwnE 86 w lo v ns) (hl : lo ≤ w.heap.size) (hk : k ≤ 100000000) (hn : ns.length ≤ 1048576) :
    Calls Tryd.prog 48 #[.agg #[.int .i64 z, v], .int .i64 k] w fun e w' => e = .returned (.int .i64 ((k + 8 * ns.length : Nat) : Int)) ∧ Below lo w w' ∧ KT 86 w w' := by
  have H : Hid (OwnE 86 w lo v ns) := h
  clear h
  go_enter Tryd.func48, Tryd.ntmps48
  go_wp2_with fail
  refine (markEffectS_any _ lo k v ns (H.out.below ((Below.refl _ _).alloc (Nat.le_refl _) _)) hk hn).mono ?_
  rintro e w1 ⟨rfl, b1, k1⟩
  have B1 : Hid (Below lo w w1) := ((Below.refl _ _).alloc hl _).trans b1
  have K1 : Hid (KT 86 w w1) := ((KT.refl _ _).alloc _).trans k1
  clear b1 k1
  go_wp2
  go_ret
  exact ⟨rfl, B1.out, K1.out⟩

end Go.Proofs.YtgjenbgclpmjmaaDoor

namespace Go.Proofs.YtgjenbgclpmjmaaDoor
open Go.RowKit Go.Shelf

/-- What came in: a tree of the laws' own type. -/
def InT (w : World) (v : Value) (ns : List Nd) : Prop := RdN w v ns ∧ ∀ i, (nAt ns i).path.size ≤ maxLen ∧ (nAt ns i).data.size ≤ maxLen

set_option maxHeartbeats 2000000 in
set_option maxRecDepth 100000 in
theorem lawTree_walk (w : World) (v : Value) (ns : List Nd) (h : InT w v ns) :
    Calls Tryd.prog 4 #[.agg #[v]] w fun e w' => e = .returned (.bool true) ∧ Below w.heap.size w w' := by
  obtain ⟨hr, hsz⟩ := h
  obtain ⟨ao, ca, rfl, _, _⟩ := hr.len
  have B0 : Hid (Below w.heap.size w (w.alloc (.cells #[.slice ao ns.length ca] 25))) := (Below.refl _ _).alloc (Nat.le_refl _) _
  have X0 : Hid (Boxed (w.alloc (.cells #[.slice ao ns.length ca] 25)) w.heap.size 25 (.slice ao ns.length ca)) := Boxed.new _ _ _
  have HR : Hid (RdN w (.slice ao ns.length ca) ns) := hr
  have HZ : Hid (∀ i, (nAt ns i).path.size ≤ maxLen ∧ (nAt ns i).data.size ≤ maxLen) := hsz
  clear hr hsz
  go_enter Tryd.func4, Tryd.ntmps4
  go_wp2_with fail
  generalize w.alloc (.cells #[.slice ao ns.length ca] 25) = w0 at *
  refine (szTree_any _ _ ns (HR.out.below B0.out) HZ.out 1048576 (by omega) (by omega)).mono ?_
  rintro e w1 ⟨r, rfl, hsz, b1⟩
  have B1 : Hid (Below w.heap.size w w1) := B0.out.trans (b1.mono B0.out.size)
  have X1 : Hid (Boxed w1 w.heap.size 25 (.slice ao ns.length ca)) := boxed_below b1 X0.out
  clear b1 X0 B0
  by_cases hneg : r < 0
  · clear hsz
    go_wp2
    go_ret
    exact ⟨rfl, B1.out⟩
  · have hsz' : r + ns.length + totN ns = 1048576 := by omega
    have hn : ns.length ≤ 1048576 := by omega
    have hd : Hid (∀ i, (nAt ns i).path.size ≤ 1048576 ∧ (nAt ns i).data.size ≤ 1048576) := fun i => by have := totN_ge ns i; omega
    clear hsz hsz'
    have c0 := X1.out.cell
    go_wp2_with fail
    refine (toTree_any _ _ ns (HR.out.below B1.out) hn).mono ?_
    rintro e w2 ⟨a2, k2, rfl, o2, b2⟩
    have Q2 : Hid (RdN w2 (.slice a2 ns.length k2) ns) := o2.rd
    have B2 : Hid (Below w.heap.size w w2) := B1.out.trans (b2.mono B1.out.size)
    have X2 : Hid (Boxed w2 w.heap.size 25 (.slice ao ns.length ca)) := boxed_below b2 X1.out
    clear o2 b2 c0 X1
    go_wp2_with fail
    refine (specTree_any _ _ ns Q2.out hn hd.out).mono ?_
    rintro e w3 ⟨rfl, b3⟩
    have B3 : Hid (Below w.heap.size w w3) := B2.out.trans (b3.mono B2.out.size)
    have X3 : Hid (Boxed w3 w.heap.size 25 (.slice ao ns.length ca)) := boxed_below b3 X2.out
    clear b3 Q2 X2
    have c0 := X3.out.cell
    go_wp2_with fail
    refine (toTree_any _ _ ns (HR.out.below B3.out) hn).mono ?_
    rintro e w4 ⟨a4, k4, rfl, o4, b4⟩
    have Q4 : Hid (RdN w4 (.slice a4 ns.length k4) ns) := o4.rd
    have B4 : Hid (Below w.heap.size w w4) := B3.out.trans (b4.mono B3.out.size)
    have X4 : Hid (Boxed w4 w.heap.size 25 (.slice ao ns.length ca)) := boxed_below b4 X3.out
    clear o4 b4 c0 X3
    go_wp2_with fail
    have BA : Hid (Below w4.heap.size w4 (w4.alloc (.cells #[.slice a4 ns.length k4] 30))) := (Below.refl _ _).alloc (Nat.le_refl _) _
    have Y5 : Hid (Boxed (w4.alloc (.cells #[.slice a4 ns.length k4] 30)) w4.heap.size 30 (.slice a4 ns.length k4)) := Boxed.new _ _ _
    generalize w4.alloc (.cells #[.slice a4 ns.length k4] 30) = w5 at *
    have B5 : Hid (Below w.heap.size w w5) := B4.out.trans (BA.out.mono B4.out.size)
    have X5 : Hid (Boxed w5 w.heap.size 25 (.slice ao ns.length ca)) := boxed_below BA.out X4.out
    have Q5 : Hid (RdN w5 (.slice a4 ns.length k4) ns) := Q4.out.below BA.out
    clear X4 Q4 BA
    refine (implTree_any _ _ ns Q5.out hd.out).mono ?_
    rintro e w6 ⟨rfl, b6⟩
    have B6 : Hid (Below w.heap.size w w6) := B5.out.trans (b6.mono B5.out.size)
    have X6 : Hid (Boxed w6 w.heap.size 25 (.slice ao ns.length ca)) := boxed_below b6 X5.out
    have Y6 : Hid (Boxed w6 w4.heap.size 30 (.slice a4 ns.length k4)) := boxed_below b6 Y5.out
    have Q6 : Hid (RdN w6 (.slice a4 ns.length k4) ns) := Q5.out.below b6
    clear b6 X5 Y5 Q5 B5
    generalize okTree ns = vv at *
    have hvv : (vv != vv) = false := by simp
    have c0 := X6.out.cell
    have d0 := Y6.out.cell
    have HT : Hid (∀ q, Calls Tryd.prog 16 #[.agg #[.slice ao ns.length ca]] (w6.drewN q) fun e w' => ∃ a c, e = .returned (.agg #[.slice a ns.length c]) ∧ Hid (RdN w' (.slice a ns.length c) ns) ∧ Hid (RdN w' (.slice a4 ns.length k4) ns) ∧ w'.cell? ⟨w4.heap.size, 0, none⟩ = some (.slice a4 ns.length k4) ∧ Hid (Below w.heap.size w w')) := by
      intro q
      refine (toTree_any _ _ ns ((HR.out.below B6.out).below (below_drewN' w6 q)) hn).mono ?_
      rintro e w' ⟨a, c, rfl, o', b'⟩
      have b6' : Below w6.heap.size w6 w' := (below_drewN' w6 q).trans b'
      exact ⟨a, c, rfl, o'.rd, Q6.out.below b6', (boxed_below b6' Y6.out).cell, B6.out.trans (b6'.mono B6.out.size)⟩
    go_wp2
    go_region_with (first | (go_at_call 16; refine (HT.out 1).mono ?_; rintro e w' ⟨a, c, rfl, r1, r2, k0, bw⟩) | (go_at_call 18; refine (eqTree_same _ _ _ ns r2.out r1.out hn).mono ?_; rintro e w'' ⟨rfl, b''⟩))
    all_goals
      have HB : Hid (Below w.heap.size w w'') := bw.out.trans (b''.mono bw.out.size)
      clear b'' k0
      go_wp2
      go_ret
      exact ⟨rfl, HB.out⟩

end Go.Proofs.YtgjenbgclpmjmaaDoor

namespace Go.Proofs.YtgjenbgclpmjmaaDoor
open Go.RowKit Go.Shelf

/-- A local transaction. -/
def BoxX (w : World) (B : Nat) (z : Int) (v : Value) : Prop := B < w.heap.size ∧ w.cell? ⟨B, 0, none⟩ = some (.int .i64 z) ∧ w.cell? ⟨B, 1, none⟩ = some v
theorem BoxX.below {w w' : World} {b : Nat} {x : Int} {y : Value} (h : BoxX w b x y) (hb : Below w.heap.size w w') : BoxX w' b x y :=
  ⟨Nat.lt_of_lt_of_le h.1 hb.size, (hb.cell (p := ⟨b, 0, none⟩) h.1).trans h.2.1, (hb.cell (p := ⟨b, 1, none⟩) h.1).trans h.2.2⟩
theorem BoxX.new (w : World) (x : Int) (y : Value) (t : TypeId) : BoxX (w.alloc (.cells #[.int .i64 x, y] t)) w.heap.size x y := ⟨by simp, by simp, by simp⟩

/-- What came in: a transaction of the laws' own type. -/
def InX (w : World) (v : Value) (ns : List Ef) : Prop := RdE w v ns ∧ ∀ i, (eAt ns i).nd.path.size ≤ maxLen ∧ (eAt ns i).nd.data.size ≤ maxLen

set_option maxHeartbeats 2000000 in
set_option maxRecDepth 100000 in
theorem lawTxn_walk (w : World) (z : Int) (v : Value) (ns : List Ef) (h : InX w v ns) :
    Calls Tryd.prog 5 #[.agg #[.int .i64 z, v]] w fun e w' => e = .returned (.bool true) ∧ Below w.heap.size w w' := by
  obtain ⟨hr, hsz⟩ := h
  obtain ⟨ao, ca, rfl, _, _⟩ := hr.len
  have B0 : Hid (Below w.heap.size w (w.alloc (.cells #[.int .i64 z, .slice ao ns.length ca] 36))) := (Below.refl _ _).alloc (Nat.le_refl _) _
  have X0 : Hid (BoxX (w.alloc (.cells #[.int .i64 z, .slice ao ns.length ca] 36)) w.heap.size z (.slice ao ns.length ca)) := BoxX.new _ _ _ _
  have HR : Hid (RdE w (.slice ao ns.length ca) ns) := hr
  have HZ : Hid (∀ i, (eAt ns i).nd.path.size ≤ maxLen ∧ (eAt ns i).nd.data.size ≤ maxLen) := hsz
  clear hr hsz
  go_enter Tryd.func5, Tryd.ntmps5
  go_wp2_with fail
  generalize w.alloc (.cells #[.int .i64 z, .slice ao ns.length ca] 36) = w0 at *
  refine (szTxn_any _ _ _ ns (HR.out.below B0.out) HZ.out 1048576 (by omega) (by omega)).mono ?_
  rintro e w1 ⟨r, rfl, hsz, b1⟩
  have B1 : Hid (Below w.heap.size w w1) := B0.out.trans (b1.mono B0.out.size)
  have X1 : Hid (BoxX w1 w.heap.size z (.slice ao ns.length ca)) := X0.out.below b1
  clear b1 X0 B0
  by_cases hneg : r < 0
  · clear hsz
    go_wp2
    go_ret
    exact ⟨rfl, B1.out⟩
  · have hsz' : r + ns.length + totE ns = 1048576 := by omega
    have hn : ns.length ≤ 1048576 := by omega
    have hd : Hid (∀ i, (eAt ns i).nd.path.size ≤ 1048576 ∧ (eAt ns i).nd.data.size ≤ 1048576) := fun i => by have := totE_ge ns i; omega
    clear hsz hsz'
    obtain ⟨-, c0, c1⟩ := X1.out
    go_wp2_with fail
    refine (toTxn_any _ _ _ ns (HR.out.below B1.out) hn).mono ?_
    rintro e w2 ⟨a2, k2, rfl, o2, b2⟩
    have Q2 : Hid (RdE w2 (.slice a2 ns.length k2) ns) := o2.rd
    have B2 : Hid (Below w.heap.size w w2) := B1.out.trans (b2.mono B1.out.size)
    have X2 : Hid (BoxX w2 w.heap.size z (.slice ao ns.length ca)) := X1.out.below b2
    clear o2 b2 c0 c1 X1
    go_wp2_with fail
    refine (specTxn_any _ _ _ ns Q2.out hd.out).mono ?_
    rintro e w3 ⟨rfl, b3⟩
    have B3 : Hid (Below w.heap.size w w3) := B2.out.trans (b3.mono B2.out.size)
    have X3 : Hid (BoxX w3 w.heap.size z (.slice ao ns.length ca)) := X2.out.below b3
    clear b3 Q2 X2
    obtain ⟨-, c0, c1⟩ := X3.out
    go_wp2_with fail
    refine (toTxn_any _ _ _ ns (HR.out.below B3.out) hn).mono ?_
    rintro e w4 ⟨a4, k4, rfl, o4, b4⟩
    have Q4 : Hid (RdE w4 (.slice a4 ns.length k4) ns) := o4.rd
    have B4 : Hid (Below w.heap.size w w4) := B3.out.trans (b4.mono B3.out.size)
    have X4 : Hid (BoxX w4 w.heap.size z (.slice ao ns.length ca)) := X3.out.below b4
    clear o4 b4 c0 c1 X3
    go_wp2_with fail
    have BA : Hid (Below w4.heap.size w4 (w4.alloc (.cells #[.int .i64 z, .slice a4 ns.length k4] 41))) := (Below.refl _ _).alloc (Nat.le_refl _) _
    have Y5 : Hid (BoxX (w4.alloc (.cells #[.int .i64 z, .slice a4 ns.length k4] 41)) w4.heap.size z (.slice a4 ns.length k4)) := BoxX.new _ _ _ _
    generalize w4.alloc (.cells #[.int .i64 z, .slice a4 ns.length k4] 41) = w5 at *
    have B5 : Hid (Below w.heap.size w w5) := B4.out.trans (BA.out.mono B4.out.size)
    have X5 : Hid (BoxX w5 w.heap.size z (.slice ao ns.length ca)) := X4.out.below BA.out
    have Q5 : Hid (RdE w5 (.slice a4 ns.length k4) ns) := Q4.out.below BA.out
    clear X4 Q4 BA
    refine (implTxn_any _ _ _ ns Q5.out hd.out).mono ?_
    rintro e w6 ⟨rfl, b6⟩
    have B6 : Hid (Below w.heap.size w w6) := B5.out.trans (b6.mono B5.out.size)
    have X6 : Hid (BoxX w6 w.heap.size z (.slice ao ns.length ca)) := X5.out.below b6
    have Y6 : Hid (BoxX w6 w4.heap.size z (.slice a4 ns.length k4)) := Y5.out.below b6
    have Q6 : Hid (RdE w6 (.slice a4 ns.length k4) ns) := Q5.out.below b6
    clear b6 X5 Y5 Q5 B5
    generalize okTxn z ns = vv at *
    have hvv : (vv != vv) = false := by simp
    obtain ⟨-, c0, c1⟩ := X6.out
    obtain ⟨-, d0, d1⟩ := Y6.out
    have HT : Hid (∀ q, Calls Tryd.prog 21 #[.agg #[.int .i64 z, .slice ao ns.length ca]] (w6.drewN q) fun e w' => ∃ a c, e = .returned (.agg #[.int .i64 z, .slice a ns.length c]) ∧ Hid (RdE w' (.slice a ns.length c) ns) ∧ Hid (RdE w' (.slice a4 ns.length k4) ns) ∧ (w'.cell? ⟨w4.heap.size, 0, none⟩ = some (.int .i64 z) ∧ w'.cell? ⟨w4.heap.size, 1, none⟩ = some (.slice a4 ns.length k4)) ∧ Hid (Below w.heap.size w w')) := by
      intro q
      refine (toTxn_any _ _ _ ns ((HR.out.below B6.out).below (below_drewN' w6 q)) hn).mono ?_
      rintro e w' ⟨a, c, rfl, o', b'⟩
      have b6' : Below w6.heap.size w6 w' := (below_drewN' w6 q).trans b'
      exact ⟨a, c, rfl, o'.rd, Q6.out.below b6', (Y6.out.below b6').2, B6.out.trans (b6'.mono B6.out.size)⟩
    go_wp2
    go_region_with (first | (go_at_call 21; refine (HT.out 1).mono ?_; rintro e w' ⟨a, c, rfl, r1, r2, ⟨k0, k1⟩, bw⟩) | (go_at_call 23; refine (eqTxn_same _ _ _ _ ns r2.out r1.out hn).mono ?_; rintro e w'' ⟨rfl, b''⟩))
    all_goals
      have HB : Hid (Below w.heap.size w w'') := bw.out.trans (b''.mono bw.out.size)
      clear b'' k0 k1
      go_wp2
      go_ret
      exact ⟨rfl, HB.out⟩

end Go.Proofs.YtgjenbgclpmjmaaDoor

namespace Go.Proofs.YtgjenbgclpmjmaaDoor
open Go.RowKit Go.Shelf

/-- The arguments' boxes. -/
structure LawB (s : Nat) (v : Value) (z : Int) (vx : Value) (W : World) : Prop where
  t : Boxed W s 25 v
  x : BxX W (s + 1) 36 z vx

theorem LawB.new (w : World) (v : Value) (z : Int) (vx : Value) : LawB w.heap.size v z vx ((w.alloc (.cells #[v] 25)).alloc (.cells #[.int .i64 z, vx] 36)) := by
  have s1 : (w.alloc (.cells #[v] 25)).heap.size = w.heap.size + 1 := by simp
  have h2 := BxX.new (w.alloc (.cells #[v] 25)) 36 z vx
  rw [s1] at h2
  exact ⟨(Boxed.new w _ _).alloc _, h2⟩

theorem LawB.below {s m : Nat} {v : Value} {z : Int} {vx : Value} {W W' : World} (h : LawB s v z vx W) (hb : Below m W W') (hm : s + 2 ≤ m) : LawB s v z vx W' :=
  ⟨(hb.block _ (by omega)).trans h.t, (hb.block _ (by omega)).trans h.x⟩
theorem LawB.size {s : Nat} {v : Value} {z : Int} {vx : Value} {W : World} (h : LawB s v z vx W) : s + 2 ≤ W.heap.size := by have := h.x.lt; omega
theorem LawB.cells {s : Nat} {v : Value} {z : Int} {vx : Value} {W : World} (h : LawB s v z vx W) : W.cell? ⟨s, 0, none⟩ = some v ∧ W.cell? ⟨s + 1, 0, none⟩ = some (.int .i64 z) ∧ W.cell? ⟨s + 1, 1, none⟩ = some vx := ⟨h.t.cell, h.x.cells.1, h.x.cells.2⟩
theorem LawB.keep {s : Nat} {v : Value} {z : Int} {vx : Value} {W W' : World} {t : TypeId} (h : LawB s v z vx W) (hk : KT t W W') (h1 : 25 ≠ t) (h2 : 36 ≠ t) : LawB s v z vx W' := ⟨hk.box h.t h1, hk.box h.x h2⟩

/-- What the law holds when the answer is there. -/
structure AL4 (w : World) (vT : Value) (z : Int) (vX : Value) (rs ns : List Nd) (es : List Ef) (l0 BW : Nat) (vw : Value) (l7 B7 : Nat) (v7 : Value) (l8 B8 : Nat) (v8 : Value) (l9 B9 : Nat) (v9 : Value) (W : World) : Prop where
  bx : LawB w.heap.size vT z vX W
  below : Below w.heap.size w W
  wb : Boxed W BW 30 vw
  wo : OwnN 81 W l0 vw rs
  tb : Boxed W B7 30 v7
  tO : OwnN 81 W l7 v7 ns
  xb : BxX W B8 41 z v8
  xo : OwnE 86 W l8 v8 es
  gb : Boxed W B9 30 v9
  gO : OwnN 81 W l9 v9 rs
theorem AL4.later {w : World} {vT : Value} {z : Int} {vX : Value} {rs ns : List Nd} {es : List Ef} {l0 BW : Nat} {vw : Value} {l7 B7 : Nat} {v7 : Value} {l8 B8 : Nat} {v8 : Value} {l9 B9 : Nat} {v9 : Value} {W W' : World}
    (h : AL4 w vT z vX rs ns es l0 BW vw l7 B7 v7 l8 B8 v8 l9 B9 v9 W) (hb : Below W.heap.size W W') : AL4 w vT z vX rs ns es l0 BW vw l7 B7 v7 l8 B8 v8 l9 B9 v9 W' :=
  ⟨h.bx.below hb h.bx.size, h.below.trans (hb.mono h.below.size), boxed_below hb h.wb, h.wo.below hb, boxed_below hb h.tb, h.tO.below hb, h.xb.later hb, h.xo.below hb, boxed_below hb h.gb, h.gO.below hb⟩

/-- What it holds behind the marks. -/
structure AL5 (w : World) (vT : Value) (z : Int) (vX : Value) (rs gs : List Nd) (l0 BW : Nat) (vw : Value) (l9 B9 : Nat) (v9 : Value) (W : World) : Prop where
  bx : LawB w.heap.size vT z vX W
  below : Below w.heap.size w W
  wb : Boxed W BW 30 vw
  wo : OwnN 81 W l0 vw rs
  gb : Boxed W B9 30 v9
  gO : OwnN 81 W l9 v9 gs
theorem AL5.later {w : World} {vT : Value} {z : Int} {vX : Value} {rs gs : List Nd} {l0 BW : Nat} {vw : Value} {l9 B9 : Nat} {v9 : Value} {W W' : World}
    (h : AL5 w vT z vX rs gs l0 BW vw l9 B9 v9 W) (hb : Below W.heap.size W W') : AL5 w vT z vX rs gs l0 BW vw l9 B9 v9 W' :=
  ⟨h.bx.below hb h.bx.size, h.below.trans (hb.mono h.below.size), boxed_below hb h.wb, h.wo.below hb, boxed_below hb h.gb, h.gO.below hb⟩

set_option maxHeartbeats 4000000 in
set_option maxRecDepth 100000 in
theorem lawApply_walk (w : World) (v : Value) (ns : List Nd) (h : InT w v ns) (z : Int) (vx : Value) (es : List Ef) (hx : InX w vx es) :
    Calls Tryd.prog 11 #[.agg #[v], .agg #[.int .i64 z, vx]] w fun e w' => e = .returned (.bool true) ∧ Below w.heap.size w w' := by
  obtain ⟨hr, hsz⟩ := h
  obtain ⟨hrx, hszx⟩ := hx
  obtain ⟨ao, ca, rfl, _, _⟩ := hr.len
  obtain ⟨xo, cx, rfl, _, _⟩ := hrx.len
  have B0 : Hid (Below w.heap.size w ((w.alloc (.cells #[.slice ao ns.length ca] 25)).alloc (.cells #[.int .i64 z, .slice xo es.length cx] 36))) := ((Below.refl _ _).alloc (Nat.le_refl _) _).alloc (by simp) _
  have X0 : Hid (LawB w.heap.size (.slice ao ns.length ca) z (.slice xo es.length cx) ((w.alloc (.cells #[.slice ao ns.length ca] 25)).alloc (.cells #[.int .i64 z, .slice xo es.length cx] 36))) := LawB.new _ _ _ _
  have HR : Hid (RdN w (.slice ao ns.length ca) ns) := hr
  have HX : Hid (RdE w (.slice xo es.length cx) es) := hrx
  have HZ : Hid (∀ i, (nAt ns i).path.size ≤ maxLen ∧ (nAt ns i).data.size ≤ maxLen) := hsz
  have HZX : Hid (∀ i, (eAt es i).nd.path.size ≤ maxLen ∧ (eAt es i).nd.data.size ≤ maxLen) := hszx
  clear hr hsz hrx hszx
  go_enter Tryd.func11, Tryd.ntmps11
  go_wp2_with fail
  generalize (w.alloc (.cells #[.slice ao ns.length ca] 25)).alloc (.cells #[.int .i64 z, .slice xo es.length cx] 36) = w0 at *
  refine (szTree_any _ _ ns (HR.out.below B0.out) HZ.out 1048576 (by omega) (by omega)).mono ?_
  rintro e w1 ⟨r, rfl, hsz, b1⟩
  have B1 : Hid (Below w.heap.size w w1) := B0.out.trans (b1.mono B0.out.size)
  have X1 : Hid (LawB w.heap.size (.slice ao ns.length ca) z (.slice xo es.length cx) w1) := X0.out.below b1 X0.out.size
  clear b1 X0 B0
  by_cases hneg : r < 0
  · clear hsz
    go_wp2
    go_ret
    exact ⟨rfl, B1.out⟩
  have hsz' : r + ns.length + totN ns = 1048576 := by omega
  have hn : ns.length ≤ 1048576 := by omega
  have hd : Hid (∀ i, (nAt ns i).path.size ≤ 1048576 ∧ (nAt ns i).data.size ≤ 1048576) := fun i => by have := totN_ge ns i; omega
  have hr0 : 0 ≤ r := by omega
  have hr1 : r ≤ 1048576 := by omega
  clear hsz hsz'
  obtain ⟨y0, y1, y2⟩ := X1.out.cells
  go_wp2_with fail
  refine (szTxn_any _ _ _ es (HX.out.below B1.out) HZX.out r hr0 hr1).mono ?_
  rintro e w2 ⟨r2, rfl, hsz, b2⟩
  have B2 : Hid (Below w.heap.size w w2) := B1.out.trans (b2.mono B1.out.size)
  have X2 : Hid (LawB w.heap.size (.slice ao ns.length ca) z (.slice xo es.length cx) w2) := X1.out.below b2 X1.out.size
  clear b2 X1 B1 y0 y1 y2
  by_cases hneg2 : r2 < 0
  · clear hsz
    go_wp2
    go_ret
    exact ⟨rfl, B2.out⟩
  have hsz' : r2 + es.length + totE es = r := by omega
  have hm : es.length ≤ 1048576 := by omega
  have hdx : Hid (∀ i, (eAt es i).nd.path.size ≤ 1048576 ∧ (eAt es i).nd.data.size ≤ 1048576) := fun i => by have := totE_ge es i; omega
  clear hsz hsz'
  have hra := resA_len ns z es
  go_upto_region 8 with fail
  go_cut [6] from 24 to 28 (fun v6 wx => ∃ B v', v6 = .pointer (some ⟨B, 0, none⟩) ∧ Hid (Boxed wx B 30 v') ∧ Hid (OwnN 81 wx w2.heap.size v' (resA ns z es)) ∧ Hid (Below w2.heap.size w2 wx))
  case first =>

    refine wp_region_held_drew (S := fun W => LawB w.heap.size (.slice ao ns.length ca) z (.slice xo es.length cx) W) (by kernel_rfl) (X2.out.below (below_drewN' w2 1) X2.out.size) (fun hHeld => ?_)
    have bC : Below w2.heap.size w2 w2.drew := below_drewN' w2 1
    generalize w2.drew = P0 at *
    refine wpAnyH_take (i := 0) (oi := { dst := some 24, op := _, type := _, pos := _, after := _, guard := _ }) (v := (.agg #[.slice ao ns.length ca])) rfl (by kernel_rfl) (by kernel_rfl) (by kernel_rfl) (fun _ _ _ h => h) (Or.inl ⟨by rfl, ?hy1⟩) (by assumption) ?rest1
    case hy1 =>
      intro w9 hS9
      obtain ⟨y0, y1, y2⟩ := hS9.cells
      go_simp
    try simp only [Act.put, List.setIfInBounds_toArray, List.set_cons_zero, List.set_cons_succ]
    refine wpAnyH_take (i := 2) (oi := { dst := some 26, op := _, type := _, pos := _, after := _, guard := _ }) (v := (.agg #[.int .i64 z, .slice xo es.length cx])) rfl (by kernel_rfl) (by kernel_rfl) (by kernel_rfl) (fun _ _ _ h => h) (Or.inl ⟨by rfl, ?hy2⟩) (by assumption) ?rest2
    case hy2 =>
      intro w9 hS9
      obtain ⟨y0, y1, y2⟩ := hS9.cells
      go_simp
    try simp only [Act.put, List.setIfInBounds_toArray, List.set_cons_zero, List.set_cons_succ]
    refine wpAnyH_ready (rs := [1, 5]) (by kernel_rfl) (by simp) ?_
    refine (AllReadyH.cons (o := { dst := some 25, op := _, type := _, pos := _, after := _, guard := _ }) rfl (fun K hK => ?_) (AllReadyH.cons (o := { dst := some 6, op := _, type := _, pos := _, after := _, guard := _ }) rfl (fun K hK => ?_) AllReadyH.nil))
    · go_simp
      refine (toTree_any P0 _ ns (HR.out.below (B2.out.trans (bC.mono B2.out.size))) hn).mono ?_
      rintro e P1 ⟨a1, k1, rfl, r1, bA⟩
      replace r1 : OwnN 81 P1 w2.heap.size (.slice a1 ns.length k1) ns := r1.mono bC.size
      replace bC : Below w2.heap.size w2 P1 := bC.trans (bA.mono bC.size)
      clear bA
      refine hK.out _ _ (X2.out.below bC X2.out.size) (fun hx9 => ?_)
      clear hK K hx9 hHeld
      have hHeld := X2.out.below bC X2.out.size
      try simp only [Act.put, List.setIfInBounds_toArray, List.set_cons_zero, List.set_cons_succ]
      refine wpAnyH_ready (rs := [3, 5]) (by kernel_rfl) (by simp) ?_
      refine (AllReadyH.cons (o := { dst := some 27, op := _, type := _, pos := _, after := _, guard := _ }) rfl (fun K hK => ?_) (AllReadyH.cons (o := { dst := some 6, op := _, type := _, pos := _, after := _, guard := _ }) rfl (fun K hK => ?_) AllReadyH.nil))
      · go_simp
        refine (toTxn_any P1 z _ es (HX.out.below (B2.out.trans (bC.mono B2.out.size))) hm).mono ?_
        rintro e P2 ⟨a2, k2, rfl, r2', bA⟩
        have r2 := r2'.rd
        clear r2'
        replace bC : Below w2.heap.size w2 P2 := bC.trans (bA.mono bC.size)
        replace r1 : OwnN 81 P2 w2.heap.size (.slice a1 ns.length k1) ns := r1.below bA
        clear bA
        refine hK.out _ _ (X2.out.below bC X2.out.size) (fun hx9 => ?_)
        clear hK K hx9 hHeld
        have hHeld := X2.out.below bC X2.out.size
        try simp only [Act.put, List.setIfInBounds_toArray, List.set_cons_zero, List.set_cons_succ]
        refine wpAnyH_ready (rs := [4, 5]) (by kernel_rfl) (by simp) ?_
        refine (AllReadyH.cons (o := { dst := some 28, op := _, type := _, pos := _, after := _, guard := _ }) rfl (fun K hK => ?_) (AllReadyH.cons (o := { dst := some 6, op := _, type := _, pos := _, after := _, guard := _ }) rfl (fun K hK => ?_) AllReadyH.nil))
        · go_simp
          refine (specApply_any P2 _ ns z _ es r1.rd r2 hn hd.out hdx.out).mono ?_
          rintro e P3 ⟨v3, rfl, o3, bA⟩
          replace o3 : OwnN 81 P3 w2.heap.size v3 (resA ns z es) := o3.mono bC.size
          clear r1 r2
          obtain ⟨a3, k3, hv3⟩ := o3.slice
          subst hv3
          replace bC : Below w2.heap.size w2 P3 := bC.trans (bA.mono bC.size)
          clear bA
          refine hK.out _ _ (X2.out.below bC X2.out.size) (fun hx9 => ?_)
          clear hK K hx9 hHeld
          have hHeld := X2.out.below bC X2.out.size
          try simp only [Act.put, List.setIfInBounds_toArray, List.set_cons_zero, List.set_cons_succ]
          refine wpAnyH_ready (rs := [5]) (by kernel_rfl) (by simp) ?_
          refine (AllReadyH.cons (o := { dst := some 6, op := _, type := _, pos := _, after := _, guard := _ }) rfl (fun K hK => ?_) AllReadyH.nil)
          go_simp
          have bA : Below P3.heap.size P3 (P3.alloc (.cells #[.slice none 0 0] 30)) := (Below.refl _ _).alloc (Nat.le_refl _) _
          obtain ⟨B, hBB⟩ : ∃ B, B = P3.heap.size := ⟨_, rfl⟩
          have hB : w2.heap.size ≤ B := by rw [hBB]; exact bC.size
          have xB : Boxed (P3.alloc (.cells #[.slice none 0 0] 30)) B 30 (.slice none 0 0) := by rw [hBB]; exact Boxed.new _ _ _
          rw [← hBB]
          generalize P3.alloc (.cells #[.slice none 0 0] 30) = P4 at *
          replace bC : Below w2.heap.size w2 P4 := bC.trans (bA.mono bC.size)
          replace o3 : OwnN 81 P4 w2.heap.size (.slice a3 (resA ns z es).length k3) (resA ns z es) := o3.below bA
          clear bA hBB
          refine hK.out _ _ (X2.out.below bC X2.out.size) (fun hx9 => ?_)
          clear hK K hx9 hHeld
          have hHeld := X2.out.below bC X2.out.size
          try simp only [Act.put, List.setIfInBounds_toArray, List.set_cons_zero, List.set_cons_succ]
          refine wpAnyH_ready (rs := [6]) (by kernel_rfl) (by simp) ?_
          refine (AllReadyH.cons (o := { dst := none, op := _, type := _, pos := _, after := _, guard := _ }) rfl (fun K hK => ?_) AllReadyH.nil)
          have cB := xB.cell
          have fB := xB.frozen
          go_simp
          have xC := xB.set (.slice a3 (resA ns z es).length k3)
          have o4 : OwnN 81 (P4.setCell ⟨B, 0, none⟩ (.slice a3 (resA ns z es).length k3)) w2.heap.size (.slice a3 (resA ns z es).length k3) (resA ns z es) := ownsRow_setCell_other (a := ⟨B, 0, none⟩) o3 (fun e => xB.not_row (by decide) o3 e.symm) _
          have hBl : w2.heap.size ≤ B := hB
          replace bC : Below w2.heap.size w2 (P4.setCell ⟨B, 0, none⟩ (.slice a3 (resA ns z es).length k3)) := bC.setCell (p := ⟨B, 0, none⟩) hBl _
          clear cB fB
          refine hK.out _ _ (X2.out.below bC X2.out.size) (fun hx9 => ?_)
          clear hK K hx9 hHeld
          try simp only [Act.put, List.setIfInBounds_toArray, List.set_cons_zero, List.set_cons_succ]
          refine wpAnyH_done (by kernel_rfl) ?_ _
          go_wp2_with fail
          go_meet
          exact ⟨_, _, rfl, xC, o4, bC⟩
        · go_simp
          have bA : Below P2.heap.size P2 (P2.alloc (.cells #[.slice none 0 0] 30)) := (Below.refl _ _).alloc (Nat.le_refl _) _
          obtain ⟨B, hBB⟩ : ∃ B, B = P2.heap.size := ⟨_, rfl⟩
          have hB : w2.heap.size ≤ B := by rw [hBB]; exact bC.size
          have xB : Boxed (P2.alloc (.cells #[.slice none 0 0] 30)) B 30 (.slice none 0 0) := by rw [hBB]; exact Boxed.new _ _ _
          rw [← hBB]
          generalize P2.alloc (.cells #[.slice none 0 0] 30) = P5 at *
          replace bC : Below w2.heap.size w2 P5 := bC.trans (bA.mono bC.size)
          replace r1 : OwnN 81 P5 w2.heap.size (.slice a1 ns.length k1) ns := r1.below bA
          replace r2 : RdE P5 (.slice a2 es.length k2) es := r2.below bA
          clear bA hBB
          refine hK.out _ _ (X2.out.below bC X2.out.size) (fun hx9 => ?_)
          clear hK K hx9 hHeld
          have hHeld := X2.out.below bC X2.out.size
          try simp only [Act.put, List.setIfInBounds_toArray, List.set_cons_zero, List.set_cons_succ]
          refine wpAnyH_ready (rs := [4]) (by kernel_rfl) (by simp) ?_
          refine (AllReadyH.cons (o := { dst := some 28, op := _, type := _, pos := _, after := _, guard := _ }) rfl (fun K hK => ?_) AllReadyH.nil)
          go_simp
          refine (specApply_any P5 _ ns z _ es r1.rd r2 hn hd.out hdx.out).mono ?_
          rintro e P6 ⟨v3, rfl, o3, bA⟩
          replace o3 : OwnN 81 P6 w2.heap.size v3 (resA ns z es) := o3.mono bC.size
          clear r1 r2
          obtain ⟨a3, k3, hv3⟩ := o3.slice
          subst hv3
          replace bC : Below w2.heap.size w2 P6 := bC.trans (bA.mono bC.size)
          replace xB : Boxed P6 B 30 (.slice none 0 0) := boxed_below bA xB
          clear bA
          refine hK.out _ _ (X2.out.below bC X2.out.size) (fun hx9 => ?_)
          clear hK K hx9 hHeld
          have hHeld := X2.out.below bC X2.out.size
          try simp only [Act.put, List.setIfInBounds_toArray, List.set_cons_zero, List.set_cons_succ]
          refine wpAnyH_ready (rs := [6]) (by kernel_rfl) (by simp) ?_
          refine (AllReadyH.cons (o := { dst := none, op := _, type := _, pos := _, after := _, guard := _ }) rfl (fun K hK => ?_) AllReadyH.nil)
          have cB := xB.cell
          have fB := xB.frozen
          go_simp
          have xC := xB.set (.slice a3 (resA ns z es).length k3)
          have o4 : OwnN 81 (P6.setCell ⟨B, 0, none⟩ (.slice a3 (resA ns z es).length k3)) w2.heap.size (.slice a3 (resA ns z es).length k3) (resA ns z es) := ownsRow_setCell_other (a := ⟨B, 0, none⟩) o3 (fun e => xB.not_row (by decide) o3 e.symm) _
          have hBl : w2.heap.size ≤ B := hB
          replace bC : Below w2.heap.size w2 (P6.setCell ⟨B, 0, none⟩ (.slice a3 (resA ns z es).length k3)) := bC.setCell (p := ⟨B, 0, none⟩) hBl _
          clear cB fB
          refine hK.out _ _ (X2.out.below bC X2.out.size) (fun hx9 => ?_)
          clear hK K hx9 hHeld
          try simp only [Act.put, List.setIfInBounds_toArray, List.set_cons_zero, List.set_cons_succ]
          refine wpAnyH_done (by kernel_rfl) ?_ _
          go_wp2_with fail
          go_meet
          exact ⟨_, _, rfl, xC, o4, bC⟩
      · go_simp
        have bA : Below P1.heap.size P1 (P1.alloc (.cells #[.slice none 0 0] 30)) := (Below.refl _ _).alloc (Nat.le_refl _) _
        obtain ⟨B, hBB⟩ : ∃ B, B = P1.heap.size := ⟨_, rfl⟩
        have hB : w2.heap.size ≤ B := by rw [hBB]; exact bC.size
        have xB : Boxed (P1.alloc (.cells #[.slice none 0 0] 30)) B 30 (.slice none 0 0) := by rw [hBB]; exact Boxed.new _ _ _
        rw [← hBB]
        generalize P1.alloc (.cells #[.slice none 0 0] 30) = P7 at *
        replace bC : Below w2.heap.size w2 P7 := bC.trans (bA.mono bC.size)
        replace r1 : OwnN 81 P7 w2.heap.size (.slice a1 ns.length k1) ns := r1.below bA
        clear bA hBB
        refine hK.out _ _ (X2.out.below bC X2.out.size) (fun hx9 => ?_)
        clear hK K hx9 hHeld
        have hHeld := X2.out.below bC X2.out.size
        try simp only [Act.put, List.setIfInBounds_toArray, List.set_cons_zero, List.set_cons_succ]
        refine wpAnyH_ready (rs := [3]) (by kernel_rfl) (by simp) ?_
        refine (AllReadyH.cons (o := { dst := some 27, op := _, type := _, pos := _, after := _, guard := _ }) rfl (fun K hK => ?_) AllReadyH.nil)
        go_simp
        refine (toTxn_any P7 z _ es (HX.out.below (B2.out.trans (bC.mono B2.out.size))) hm).mono ?_
        rintro e P8 ⟨a2, k2, rfl, r2', bA⟩
        have r2 := r2'.rd
        clear r2'
        replace bC : Below w2.heap.size w2 P8 := bC.trans (bA.mono bC.size)
        replace xB : Boxed P8 B 30 (.slice none 0 0) := boxed_below bA xB
        replace r1 : OwnN 81 P8 w2.heap.size (.slice a1 ns.length k1) ns := r1.below bA
        clear bA
        refine hK.out _ _ (X2.out.below bC X2.out.size) (fun hx9 => ?_)
        clear hK K hx9 hHeld
        have hHeld := X2.out.below bC X2.out.size
        try simp only [Act.put, List.setIfInBounds_toArray, List.set_cons_zero, List.set_cons_succ]
        refine wpAnyH_ready (rs := [4]) (by kernel_rfl) (by simp) ?_
        refine (AllReadyH.cons (o := { dst := some 28, op := _, type := _, pos := _, after := _, guard := _ }) rfl (fun K hK => ?_) AllReadyH.nil)
        go_simp
        refine (specApply_any P8 _ ns z _ es r1.rd r2 hn hd.out hdx.out).mono ?_
        rintro e P9 ⟨v3, rfl, o3, bA⟩
        replace o3 : OwnN 81 P9 w2.heap.size v3 (resA ns z es) := o3.mono bC.size
        clear r1 r2
        obtain ⟨a3, k3, hv3⟩ := o3.slice
        subst hv3
        replace bC : Below w2.heap.size w2 P9 := bC.trans (bA.mono bC.size)
        replace xB : Boxed P9 B 30 (.slice none 0 0) := boxed_below bA xB
        clear bA
        refine hK.out _ _ (X2.out.below bC X2.out.size) (fun hx9 => ?_)
        clear hK K hx9 hHeld
        have hHeld := X2.out.below bC X2.out.size
        try simp only [Act.put, List.setIfInBounds_toArray, List.set_cons_zero, List.set_cons_succ]
        refine wpAnyH_ready (rs := [6]) (by kernel_rfl) (by simp) ?_
        refine (AllReadyH.cons (o := { dst := none, op := _, type := _, pos := _, after := _, guard := _ }) rfl (fun K hK => ?_) AllReadyH.nil)
        have cB := xB.cell
        have fB := xB.frozen
        go_simp
        have xC := xB.set (.slice a3 (resA ns z es).length k3)
        have o4 : OwnN 81 (P9.setCell ⟨B, 0, none⟩ (.slice a3 (resA ns z es).length k3)) w2.heap.size (.slice a3 (resA ns z es).length k3) (resA ns z es) := ownsRow_setCell_other (a := ⟨B, 0, none⟩) o3 (fun e => xB.not_row (by decide) o3 e.symm) _
        have hBl : w2.heap.size ≤ B := hB
        replace bC : Below w2.heap.size w2 (P9.setCell ⟨B, 0, none⟩ (.slice a3 (resA ns z es).length k3)) := bC.setCell (p := ⟨B, 0, none⟩) hBl _
        clear cB fB
        refine hK.out _ _ (X2.out.below bC X2.out.size) (fun hx9 => ?_)
        clear hK K hx9 hHeld
        try simp only [Act.put, List.setIfInBounds_toArray, List.set_cons_zero, List.set_cons_succ]
        refine wpAnyH_done (by kernel_rfl) ?_ _
        go_wp2_with fail
        go_meet
        exact ⟨_, _, rfl, xC, o4, bC⟩
    · go_simp
      have bA : Below P0.heap.size P0 (P0.alloc (.cells #[.slice none 0 0] 30)) := (Below.refl _ _).alloc (Nat.le_refl _) _
      obtain ⟨B, hBB⟩ : ∃ B, B = P0.heap.size := ⟨_, rfl⟩
      have hB : w2.heap.size ≤ B := by rw [hBB]; exact bC.size
      have xB : Boxed (P0.alloc (.cells #[.slice none 0 0] 30)) B 30 (.slice none 0 0) := by rw [hBB]; exact Boxed.new _ _ _
      rw [← hBB]
      generalize P0.alloc (.cells #[.slice none 0 0] 30) = P10 at *
      replace bC : Below w2.heap.size w2 P10 := bC.trans (bA.mono bC.size)
      clear bA hBB
      refine hK.out _ _ (X2.out.below bC X2.out.size) (fun hx9 => ?_)
      clear hK K hx9 hHeld
      have hHeld := X2.out.below bC X2.out.size
      try simp only [Act.put, List.setIfInBounds_toArray, List.set_cons_zero, List.set_cons_succ]
      refine wpAnyH_ready (rs := [1]) (by kernel_rfl) (by simp) ?_
      refine (AllReadyH.cons (o := { dst := some 25, op := _, type := _, pos := _, after := _, guard := _ }) rfl (fun K hK => ?_) AllReadyH.nil)
      go_simp
      refine (toTree_any P10 _ ns (HR.out.below (B2.out.trans (bC.mono B2.out.size))) hn).mono ?_
      rintro e P11 ⟨a1, k1, rfl, r1, bA⟩
      replace r1 : OwnN 81 P11 w2.heap.size (.slice a1 ns.length k1) ns := r1.mono bC.size
      replace bC : Below w2.heap.size w2 P11 := bC.trans (bA.mono bC.size)
      replace xB : Boxed P11 B 30 (.slice none 0 0) := boxed_below bA xB
      clear bA
      refine hK.out _ _ (X2.out.below bC X2.out.size) (fun hx9 => ?_)
      clear hK K hx9 hHeld
      have hHeld := X2.out.below bC X2.out.size
      try simp only [Act.put, List.setIfInBounds_toArray, List.set_cons_zero, List.set_cons_succ]
      refine wpAnyH_ready (rs := [3]) (by kernel_rfl) (by simp) ?_
      refine (AllReadyH.cons (o := { dst := some 27, op := _, type := _, pos := _, after := _, guard := _ }) rfl (fun K hK => ?_) AllReadyH.nil)
      go_simp
      refine (toTxn_any P11 z _ es (HX.out.below (B2.out.trans (bC.mono B2.out.size))) hm).mono ?_
      rintro e P12 ⟨a2, k2, rfl, r2', bA⟩
      have r2 := r2'.rd
      clear r2'
      replace bC : Below w2.heap.size w2 P12 := bC.trans (bA.mono bC.size)
      replace xB : Boxed P12 B 30 (.slice none 0 0) := boxed_below bA xB
      replace r1 : OwnN 81 P12 w2.heap.size (.slice a1 ns.length k1) ns := r1.below bA
      clear bA
      refine hK.out _ _ (X2.out.below bC X2.out.size) (fun hx9 => ?_)
      clear hK K hx9 hHeld
      have hHeld := X2.out.below bC X2.out.size
      try simp only [Act.put, List.setIfInBounds_toArray, List.set_cons_zero, List.set_cons_succ]
      refine wpAnyH_ready (rs := [4]) (by kernel_rfl) (by simp) ?_
      refine (AllReadyH.cons (o := { dst := some 28, op := _, type := _, pos := _, after := _, guard := _ }) rfl (fun K hK => ?_) AllReadyH.nil)
      go_simp
      refine (specApply_any P12 _ ns z _ es r1.rd r2 hn hd.out hdx.out).mono ?_
      rintro e P13 ⟨v3, rfl, o3, bA⟩
      replace o3 : OwnN 81 P13 w2.heap.size v3 (resA ns z es) := o3.mono bC.size
      clear r1 r2
      obtain ⟨a3, k3, hv3⟩ := o3.slice
      subst hv3
      replace bC : Below w2.heap.size w2 P13 := bC.trans (bA.mono bC.size)
      replace xB : Boxed P13 B 30 (.slice none 0 0) := boxed_below bA xB
      clear bA
      refine hK.out _ _ (X2.out.below bC X2.out.size) (fun hx9 => ?_)
      clear hK K hx9 hHeld
      have hHeld := X2.out.below bC X2.out.size
      try simp only [Act.put, List.setIfInBounds_toArray, List.set_cons_zero, List.set_cons_succ]
      refine wpAnyH_ready (rs := [6]) (by kernel_rfl) (by simp) ?_
      refine (AllReadyH.cons (o := { dst := none, op := _, type := _, pos := _, after := _, guard := _ }) rfl (fun K hK => ?_) AllReadyH.nil)
      have cB := xB.cell
      have fB := xB.frozen
      go_simp
      have xC := xB.set (.slice a3 (resA ns z es).length k3)
      have o4 : OwnN 81 (P13.setCell ⟨B, 0, none⟩ (.slice a3 (resA ns z es).length k3)) w2.heap.size (.slice a3 (resA ns z es).length k3) (resA ns z es) := ownsRow_setCell_other (a := ⟨B, 0, none⟩) o3 (fun e => xB.not_row (by decide) o3 e.symm) _
      have hBl : w2.heap.size ≤ B := hB
      replace bC : Below w2.heap.size w2 (P13.setCell ⟨B, 0, none⟩ (.slice a3 (resA ns z es).length k3)) := bC.setCell (p := ⟨B, 0, none⟩) hBl _
      clear cB fB
      refine hK.out _ _ (X2.out.below bC X2.out.size) (fun hx9 => ?_)
      clear hK K hx9 hHeld
      try simp only [Act.put, List.setIfInBounds_toArray, List.set_cons_zero, List.set_cons_succ]
      refine wpAnyH_done (by kernel_rfl) ?_ _
      go_wp2_with fail
      go_meet
      exact ⟨_, _, rfl, xC, o4, bC⟩
  case rest =>
    obtain ⟨BW, vw, rfl, XW, OW, bW⟩ := hcut
    obtain ⟨aw, kw, hvw⟩ := OW.out.slice
    subst hvw
    have XL : Hid (LawB w.heap.size (.slice ao ns.length ca) z (.slice xo es.length cx) wc) := X2.out.below bW.out X2.out.size
    have BL : Hid (Below w.heap.size w wc) := B2.out.trans (bW.out.mono B2.out.size)
    have sW := bW.out.size
    have s2 := X2.out.size
    clear X2 B2 bW
    have HAi : Hid (∀ W va vb, RdN W va ns → NilOk va → RdE W vb es → Calls Tryd.prog 50 #[.agg #[va], .agg #[.int .i64 z, vb]] W fun e w' => ∃ v', e = .returned (.agg #[v']) ∧ OwnN 81 w' W.heap.size v' (resA ns z es) ∧ Below W.heap.size W w') := by
      intro W va vb h1 hn h2
      exact implApply_any W va ns z vb es h1 hn h2 hd.out hdx.out
    generalize hRS : resA ns z es = RS at *
    clear hRS
    obtain ⟨y0, y1, y2⟩ := XL.out.cells
    go_wp2_with fail
    clear y0 y1 y2
    refine (toTree_any _ _ ns (HR.out.below BL.out) hn).mono ?_
    rintro e wd ⟨a7, k7, rfl, o7, b7⟩
    have XLd := XL.out.below b7 XL.out.size
    have sD := b7.size
    have ba : Below wd.heap.size wd (wd.alloc (.cells #[.slice a7 ns.length k7] 30)) := (Below.refl _ _).alloc (Nat.le_refl _) _
    have b7' := b7.trans (ba.mono b7.size)
    have XL1 : Hid (LawB w.heap.size (.slice ao ns.length ca) z (.slice xo es.length cx) (wd.alloc (.cells #[.slice a7 ns.length k7] 30))) := XL.out.below b7' XL.out.size
    have BL1 : Hid (Below w.heap.size w (wd.alloc (.cells #[.slice a7 ns.length k7] 30))) := BL.out.trans (b7'.mono BL.out.size)
    have XW1 : Hid (Boxed (wd.alloc (.cells #[.slice a7 ns.length k7] 30)) BW 30 (.slice aw RS.length kw)) := boxed_below b7' XW.out
    have OW1 : Hid (OwnN 81 (wd.alloc (.cells #[.slice a7 ns.length k7] 30)) w2.heap.size (.slice aw RS.length kw) RS) := OW.out.below b7'
    have T1 : Hid (Boxed (wd.alloc (.cells #[.slice a7 ns.length k7] 30)) wd.heap.size 30 (.slice a7 ns.length k7)) := Boxed.new _ _ _
    have O1 : Hid (OwnN 81 (wd.alloc (.cells #[.slice a7 ns.length k7] 30)) wc.heap.size (.slice a7 ns.length k7) ns) := o7.below ba
    have NW : Hid (∀ g, (Value.slice aw RS.length kw).ownBlock = some g → g < wc.heap.size) := fun g hg => (World.ownsRow.lt OW.out g hg).2
    have N7 : Hid (∀ g, (Value.slice a7 ns.length k7).ownBlock = some g → wc.heap.size ≤ g ∧ g < wd.heap.size) := fun g hg => World.ownsRow.lt o7 g hg
    have NB : Hid (BW < wc.heap.size) := XW.out.lt
    obtain ⟨y0, y1, y2⟩ := XLd.cells
    have yl : w.heap.size + 1 < wd.heap.size := XLd.size
    have yl0 : w.heap.size < wd.heap.size := by omega
    clear ba b7 b7' o7 XLd XL BL XW OW
    go_wp2_with fail
    clear y0 y1 y2 yl yl0
    generalize wd.alloc (.cells #[.slice a7 ns.length k7] 30) = w5 at *
    refine (toTxn_any _ _ _ es (HX.out.below BL1.out) hm).mono ?_
    rintro e w6 ⟨a8, k8, rfl, o8, b8⟩
    have s5 := XL1.out.size
    have s6 := b8.size
    have t5 := T1.out.lt
    have ba : Below w6.heap.size w6 (w6.alloc (.cells #[.int .i64 z, .slice a8 es.length k8] 41)) := (Below.refl _ _).alloc (Nat.le_refl _) _
    have b8' := b8.trans (ba.mono b8.size)
    have XL2 : Hid (LawB w.heap.size (.slice ao ns.length ca) z (.slice xo es.length cx) (w6.alloc (.cells #[.int .i64 z, .slice a8 es.length k8] 41))) := XL1.out.below b8' XL1.out.size
    have BL2 : Hid (Below w.heap.size w (w6.alloc (.cells #[.int .i64 z, .slice a8 es.length k8] 41))) := BL1.out.trans (b8'.mono BL1.out.size)
    have XW2 : Hid (Boxed (w6.alloc (.cells #[.int .i64 z, .slice a8 es.length k8] 41)) BW 30 (.slice aw RS.length kw)) := boxed_below b8' XW1.out
    have OW2 : Hid (OwnN 81 (w6.alloc (.cells #[.int .i64 z, .slice a8 es.length k8] 41)) w2.heap.size (.slice aw RS.length kw) RS) := OW1.out.below b8'
    have T2 : Hid (Boxed (w6.alloc (.cells #[.int .i64 z, .slice a8 es.length k8] 41)) wd.heap.size 30 (.slice a7 ns.length k7)) := boxed_below b8' T1.out
    have O2 : Hid (OwnN 81 (w6.alloc (.cells #[.int .i64 z, .slice a8 es.length k8] 41)) wc.heap.size (.slice a7 ns.length k7) ns) := O1.out.below b8'
    have V2 : Hid (BxX (w6.alloc (.cells #[.int .i64 z, .slice a8 es.length k8] 41)) w6.heap.size 41 z (.slice a8 es.length k8)) := BxX.new _ _ _ _
    have U2 : Hid (OwnE 86 (w6.alloc (.cells #[.int .i64 z, .slice a8 es.length k8] 41)) w5.heap.size (.slice a8 es.length k8) es) := o8.below ba
    have c0 := (boxed_below b8 T1.out).cell
    have cl := (boxed_below b8 T1.out).lt
    clear ba b8 b8' o8 XL1 BL1 XW1 OW1 T1 O1
    go_wp2_with fail
    clear c0 cl
    generalize w6.alloc (.cells #[.int .i64 z, .slice a8 es.length k8] 41) = w7 at *
    refine (HAi.out _ _ _ O2.out.rd O2.out.nilOk U2.out.rd).mono ?_
    rintro e w8 ⟨v9, rfl, o9, b9⟩
    obtain ⟨a9, k9, hv9⟩ := o9.slice
    subst hv9
    have s7 := V2.out.lt
    have s8 := b9.size
    have ba : Below w8.heap.size w8 (w8.alloc (.cells #[.slice a9 RS.length k9] 30)) := (Below.refl _ _).alloc (Nat.le_refl _) _
    have b9' := b9.trans (ba.mono b9.size)
    have A0 : Hid (AL4 w (.slice ao ns.length ca) z (.slice xo es.length cx) RS ns es w2.heap.size BW (.slice aw RS.length kw) wc.heap.size wd.heap.size (.slice a7 ns.length k7) w5.heap.size w6.heap.size (.slice a8 es.length k8) w7.heap.size w8.heap.size (.slice a9 RS.length k9) (w8.alloc (.cells #[.slice a9 RS.length k9] 30))) :=
      ⟨XL2.out.below b9' XL2.out.size, BL2.out.trans (b9'.mono BL2.out.size), boxed_below b9' XW2.out, OW2.out.below b9', boxed_below b9' T2.out, O2.out.below b9', V2.out.later b9', U2.out.below b9', Boxed.new _ _ _, o9.below ba⟩
    have N9 : Hid (∀ g, (Value.slice a9 RS.length k9).ownBlock = some g → w7.heap.size ≤ g) := fun g hg => (World.ownsRow.lt o9 g hg).1
    have c0 := (boxed_below b9 XW2.out).cell
    have cl := (boxed_below b9 XW2.out).lt
    clear ba b9 b9' o9 XL2 BL2 XW2 OW2 T2 O2 V2 U2
    go_wp2_with fail
    clear c0 cl
    generalize w8.alloc (.cells #[.slice a9 RS.length k9] 30) = w9 at *
    refine (eqTree_same _ _ _ RS A0.out.gO.rd A0.out.wo.rd (by omega)).mono ?_
    rintro e wE ⟨rfl, bE⟩
    have A1 : Hid (AL4 w (.slice ao ns.length ca) z (.slice xo es.length cx) RS ns es w2.heap.size BW (.slice aw RS.length kw) wc.heap.size wd.heap.size (.slice a7 ns.length k7) w5.heap.size w6.heap.size (.slice a8 es.length k8) w7.heap.size w8.heap.size (.slice a9 RS.length k9) wE) := A0.out.later bE
    clear bE A0
    go_wp2_with fail

    refine wp_region_held_drew (S := fun W => AL4 w (.slice ao ns.length ca) z (.slice xo es.length cx) RS ns es w2.heap.size BW (.slice aw RS.length kw) wc.heap.size wd.heap.size (.slice a7 ns.length k7) w5.heap.size w6.heap.size (.slice a8 es.length k8) w7.heap.size w8.heap.size (.slice a9 RS.length k9) W) (by kernel_rfl) (A1.out.later (below_drewN' wE 1)) (fun hHeld => ?_)
    clear A1
    generalize wE.drew = E0 at *
    refine wpAnyH_take (i := 0) (oi := { dst := some 40, op := _, type := _, pos := _, after := _, guard := _ }) (v := (.agg #[.slice a7 ns.length k7])) rfl (by kernel_rfl) (by kernel_rfl) (by kernel_rfl) (fun _ _ _ h => h) (Or.inl ⟨by rfl, ?hy3⟩) (by assumption) ?rest3
    case hy3 =>
      intro w9 hS9
      have y0 := hS9.tb.cell
      go_simp
    try simp only [Act.put, List.setIfInBounds_toArray, List.set_cons_zero, List.set_cons_succ]
    refine wpAnyH_take (i := 1) (oi := { dst := some 41, op := _, type := _, pos := _, after := _, guard := _ }) (v := (.agg #[.slice ao ns.length ca])) rfl (by kernel_rfl) (by kernel_rfl) (by kernel_rfl) (fun _ _ _ h => h) (Or.inl ⟨by rfl, ?hy4⟩) (by assumption) ?rest4
    case hy4 =>
      intro w9 hS9
      have y0 := hS9.bx.t.cell
      go_simp
    try simp only [Act.put, List.setIfInBounds_toArray, List.set_cons_zero, List.set_cons_succ]
    refine wpAnyH_ready (rs := [2]) (by kernel_rfl) (by simp) ?_
    refine AllReadyH.cons (o := { dst := some 42, op := _, type := _, pos := _, after := _, guard := _ }) rfl (fun K hK => ?_) AllReadyH.nil
    go_simp
    refine (toTree_any _ _ ns (HR.out.below hHeld.below) hn).mono ?_
    rintro e E1 ⟨a1, k1, rfl, r1, bA⟩
    have A2 := hHeld.later bA
    refine hK.out _ _ (A2) (fun hx9 => ?_)
    clear hK K hHeld hx9
    have hHeld := A2
    try simp only [Act.put, List.setIfInBounds_toArray, List.set_cons_zero, List.set_cons_succ]
    refine wpAnyH_ready (rs := [3]) (by kernel_rfl) (by simp) ?_
    refine AllReadyH.cons (o := { dst := some 43, op := _, type := _, pos := _, after := _, guard := _ }) rfl (fun K hK => ?_) AllReadyH.nil
    go_simp
    refine (eqTree_same _ _ _ ns A2.tO.rd r1.rd hn).mono ?_
    rintro e E2 ⟨rfl, bB⟩
    have A3 := A2.later bB
    refine hK.out _ _ (A3) (fun hx9 => ?_)
    clear hK K hHeld hx9
    have hHeld := A3
    try simp only [Act.put, List.setIfInBounds_toArray, List.set_cons_zero, List.set_cons_succ]
    refine wpAnyH_take (i := 4) (oi := { dst := some 44, op := _, type := _, pos := _, after := _, guard := _ }) (v := (.bool false)) rfl (by kernel_rfl) (by kernel_rfl) (by kernel_rfl) (fun _ _ _ h => h) (Or.inl ⟨by rfl, ?hy5⟩) (by assumption) ?rest5
    case hy5 =>
      intro w9 hS9
      go_simp
    try simp only [Act.put, List.setIfInBounds_toArray, List.set_cons_zero, List.set_cons_succ]
    refine wpAnyH_done (by kernel_rfl) ?_ _
    clear hHeld
    have E : Hid (AL4 w (.slice ao ns.length ca) z (.slice xo es.length cx) RS ns es w2.heap.size BW (.slice aw RS.length kw) wc.heap.size wd.heap.size (.slice a7 ns.length k7) w5.heap.size w6.heap.size (.slice a8 es.length k8) w7.heap.size w8.heap.size (.slice a9 RS.length k9) E2) := A3
    clear A2 A3 r1 bA bB
    go_wp2_with fail
    refine wp_region_held_drew (S := fun W => AL4 w (.slice ao ns.length ca) z (.slice xo es.length cx) RS ns es w2.heap.size BW (.slice aw RS.length kw) wc.heap.size wd.heap.size (.slice a7 ns.length k7) w5.heap.size w6.heap.size (.slice a8 es.length k8) w7.heap.size w8.heap.size (.slice a9 RS.length k9) W) (by kernel_rfl) (E.out.later (below_drewN' E2 1)) (fun hHeld => ?_)
    clear E
    generalize E2.drew = F0 at *
    refine wpAnyH_take (i := 0) (oi := { dst := some 45, op := _, type := _, pos := _, after := _, guard := _ }) (v := (.agg #[.int .i64 z, .slice a8 es.length k8])) rfl (by kernel_rfl) (by kernel_rfl) (by kernel_rfl) (fun _ _ _ h => h) (Or.inl ⟨by rfl, ?hy6⟩) (by assumption) ?rest6
    case hy6 =>
      intro w9 hS9
      obtain ⟨y0, y1⟩ := hS9.xb.cells
      go_simp
    try simp only [Act.put, List.setIfInBounds_toArray, List.set_cons_zero, List.set_cons_succ]
    refine wpAnyH_take (i := 1) (oi := { dst := some 46, op := _, type := _, pos := _, after := _, guard := _ }) (v := (.agg #[.int .i64 z, .slice xo es.length cx])) rfl (by kernel_rfl) (by kernel_rfl) (by kernel_rfl) (fun _ _ _ h => h) (Or.inl ⟨by rfl, ?hy7⟩) (by assumption) ?rest7
    case hy7 =>
      intro w9 hS9
      obtain ⟨y0, y1⟩ := hS9.bx.x.cells
      go_simp
    try simp only [Act.put, List.setIfInBounds_toArray, List.set_cons_zero, List.set_cons_succ]
    refine wpAnyH_ready (rs := [2]) (by kernel_rfl) (by simp) ?_
    refine AllReadyH.cons (o := { dst := some 47, op := _, type := _, pos := _, after := _, guard := _ }) rfl (fun K hK => ?_) AllReadyH.nil
    go_simp
    refine (toTxn_any _ _ _ es (HX.out.below hHeld.below) hm).mono ?_
    rintro e F1 ⟨a1, k1, rfl, r1, bA⟩
    have A2 := hHeld.later bA
    refine hK.out _ _ (A2) (fun hx9 => ?_)
    clear hK K hHeld hx9
    have hHeld := A2
    try simp only [Act.put, List.setIfInBounds_toArray, List.set_cons_zero, List.set_cons_succ]
    refine wpAnyH_ready (rs := [3]) (by kernel_rfl) (by simp) ?_
    refine AllReadyH.cons (o := { dst := some 48, op := _, type := _, pos := _, after := _, guard := _ }) rfl (fun K hK => ?_) AllReadyH.nil
    go_simp
    refine (eqTxn_same _ _ _ _ es A2.xo.rd r1.rd hm).mono ?_
    rintro e F2 ⟨rfl, bB⟩
    have A3 := A2.later bB
    refine hK.out _ _ (A3) (fun hx9 => ?_)
    clear hK K hHeld hx9
    have hHeld := A3
    try simp only [Act.put, List.setIfInBounds_toArray, List.set_cons_zero, List.set_cons_succ]
    refine wpAnyH_take (i := 4) (oi := { dst := some 49, op := _, type := _, pos := _, after := _, guard := _ }) (v := (.bool false)) rfl (by kernel_rfl) (by kernel_rfl) (by kernel_rfl) (fun _ _ _ h => h) (Or.inl ⟨by rfl, ?hy8⟩) (by assumption) ?rest8
    case hy8 =>
      intro w9 hS9
      go_simp
    try simp only [Act.put, List.setIfInBounds_toArray, List.set_cons_zero, List.set_cons_succ]
    refine wpAnyH_done (by kernel_rfl) ?_ _
    clear hHeld
    have F : Hid (AL4 w (.slice ao ns.length ca) z (.slice xo es.length cx) RS ns es w2.heap.size BW (.slice aw RS.length kw) wc.heap.size wd.heap.size (.slice a7 ns.length k7) w5.heap.size w6.heap.size (.slice a8 es.length k8) w7.heap.size w8.heap.size (.slice a9 RS.length k9) F2) := A3
    clear A2 A3 r1 bA bB
    have c0 := F.out.tb.cell
    go_wp2_with fail
    clear c0
    refine (markTreeO_any _ wc.heap.size 1 _ ns F.out.tO (by have := F.out.tb.lt; omega) (by omega) hn).mono ?_
    rintro e wF ⟨rfl, oF, bF, kF, nF⟩
    have G : Hid (AL4 w (.slice ao ns.length ca) z (.slice xo es.length cx) RS (mkNs 1 ns.length) es w2.heap.size BW (.slice aw RS.length kw) wc.heap.size wd.heap.size (.slice a7 ns.length k7) w5.heap.size w6.heap.size (.slice a8 es.length k8) w7.heap.size w8.heap.size (.slice a9 RS.length k9) wF) :=
      ⟨F.out.bx.keep kF (by decide) (by decide), F.out.below.trans (bF.mono (by omega)), kF.box F.out.wb (by decide), F.out.wo.onl nF (fun g hg e => by have h1 := NW.out g hg; have h2 := N7.out g e; omega), kF.box F.out.tb (by decide), oF, kF.box F.out.xb (by decide), F.out.xo.keepQ kF (by decide), kF.box F.out.gb (by decide), F.out.gO.onl nF (fun g hg e => by have h1 := N9.out g hg; have h2 := N7.out g e; omega)⟩
    clear oF bF kF nF F
    obtain ⟨c0, c1⟩ := G.out.xb.cells
    go_wp2_with fail
    clear c0 c1
    refine (markTxn_any _ w5.heap.size (1 + 7 * ns.length) z _ es G.out.xo (by have := G.out.xb.lt; omega) (by omega) hm).mono ?_
    rintro e wG ⟨rfl, bG, kG⟩
    have H : Hid (AL5 w (.slice ao ns.length ca) z (.slice xo es.length cx) RS RS w2.heap.size BW (.slice aw RS.length kw) w7.heap.size w8.heap.size (.slice a9 RS.length k9) wG) :=
      ⟨G.out.bx.keep kG (by decide) (by decide), G.out.below.trans (bG.mono (by omega)), kG.box G.out.wb (by decide), G.out.wo.keepT kG (by decide), kG.box G.out.gb (by decide), G.out.gO.keepT kG (by decide)⟩
    clear bG kG G
    have hk9 : ¬ ((1 + 7 * ns.length + 8 * es.length : Nat) : Int) < 0 := by omega
    have c0 := H.out.gb.cell
    have c1 := H.out.wb.cell
    go_wp2_with fail
    clear c0 c1
    refine (eqTree_same _ _ _ RS H.out.gO.rd H.out.wo.rd (by omega)).mono ?_
    rintro e wH ⟨rfl, bH⟩
    have I : Hid (AL5 w (.slice ao ns.length ca) z (.slice xo es.length cx) RS RS w2.heap.size BW (.slice aw RS.length kw) w7.heap.size w8.heap.size (.slice a9 RS.length k9) wH) := H.out.later bH
    clear bH H hk9
    have c0 := I.out.gb.cell
    go_wp2_with fail
    clear c0
    refine (markTreeO_any _ w7.heap.size 1 _ RS I.out.gO (by have := I.out.gb.lt; omega) (by omega) (by omega)).mono ?_
    rintro e wI ⟨rfl, oI, bI, kI, nI⟩
    have J : Hid (AL5 w (.slice ao ns.length ca) z (.slice xo es.length cx) RS (mkNs 1 RS.length) w2.heap.size BW (.slice aw RS.length kw) w7.heap.size w8.heap.size (.slice a9 RS.length k9) wI) :=
      ⟨I.out.bx.keep kI (by decide) (by decide), I.out.below.trans (bI.mono (by omega)), kI.box I.out.wb (by decide), I.out.wo.onl nI (fun g hg e => by have h1 := NW.out g hg; have h2 := N9.out g e; omega), kI.box I.out.gb (by decide), oI⟩
    clear oI bI kI nI I
    have hrl : RS.length ≤ 1048576 := by omega
    have c0 := J.out.gb.cell
    have hq0 : ¬ ((1 + 7 * RS.length : Nat) : Int) < 0 := by omega
    go_wp2_with fail
    clear c0
    refine (heldTree_any _ 1 RS.length _ J.out.gO.rd (by omega) (by omega)).mono ?_
    rintro e wJ ⟨rfl, bJ⟩
    have K0 : Hid (AL5 w (.slice ao ns.length ca) z (.slice xo es.length cx) RS (mkNs 1 RS.length) w2.heap.size BW (.slice aw RS.length kw) w7.heap.size w8.heap.size (.slice a9 RS.length k9) wJ) := J.out.later bJ
    clear bJ J
    have X2 : Hid (LawB w.heap.size (.slice ao ns.length ca) z (.slice xo es.length cx) wJ) := K0.out.bx
    have B2 : Hid (Below w.heap.size w wJ) := K0.out.below
    go_upto_region 25 with fail
    go_cut [13] from 75 to 79 (fun v13 wx => ∃ B v', v13 = .pointer (some ⟨B, 0, none⟩) ∧ Hid (Boxed wx B 30 v') ∧ Hid (OwnN 81 wx wJ.heap.size v' RS) ∧ Hid (Below wJ.heap.size wJ wx))
    case first =>

      refine wp_region_held_drew (S := fun W => LawB w.heap.size (.slice ao ns.length ca) z (.slice xo es.length cx) W) (by kernel_rfl) (X2.out.below (below_drewN' wJ 1) X2.out.size) (fun hHeld => ?_)
      have bC : Below wJ.heap.size wJ wJ.drew := below_drewN' wJ 1
      generalize wJ.drew = H0 at *
      refine wpAnyH_take (i := 0) (oi := { dst := some 75, op := _, type := _, pos := _, after := _, guard := _ }) (v := (.agg #[.slice ao ns.length ca])) rfl (by kernel_rfl) (by kernel_rfl) (by kernel_rfl) (fun _ _ _ h => h) (Or.inl ⟨by rfl, ?hy9⟩) (by assumption) ?rest9
      case hy9 =>
        intro w9 hS9
        obtain ⟨y0, y1, y2⟩ := hS9.cells
        go_simp
      try simp only [Act.put, List.setIfInBounds_toArray, List.set_cons_zero, List.set_cons_succ]
      refine wpAnyH_take (i := 2) (oi := { dst := some 77, op := _, type := _, pos := _, after := _, guard := _ }) (v := (.agg #[.int .i64 z, .slice xo es.length cx])) rfl (by kernel_rfl) (by kernel_rfl) (by kernel_rfl) (fun _ _ _ h => h) (Or.inl ⟨by rfl, ?hy10⟩) (by assumption) ?rest10
      case hy10 =>
        intro w9 hS9
        obtain ⟨y0, y1, y2⟩ := hS9.cells
        go_simp
      try simp only [Act.put, List.setIfInBounds_toArray, List.set_cons_zero, List.set_cons_succ]
      refine wpAnyH_ready (rs := [1, 5]) (by kernel_rfl) (by simp) ?_
      refine (AllReadyH.cons (o := { dst := some 76, op := _, type := _, pos := _, after := _, guard := _ }) rfl (fun K hK => ?_) (AllReadyH.cons (o := { dst := some 13, op := _, type := _, pos := _, after := _, guard := _ }) rfl (fun K hK => ?_) AllReadyH.nil))
      · go_simp
        refine (toTree_any H0 _ ns (HR.out.below (B2.out.trans (bC.mono B2.out.size))) hn).mono ?_
        rintro e H1 ⟨a1, k1, rfl, r1, bA⟩
        replace r1 : OwnN 81 H1 wJ.heap.size (.slice a1 ns.length k1) ns := r1.mono bC.size
        replace bC : Below wJ.heap.size wJ H1 := bC.trans (bA.mono bC.size)
        clear bA
        refine hK.out _ _ (X2.out.below bC X2.out.size) (fun hx9 => ?_)
        clear hK K hx9 hHeld
        have hHeld := X2.out.below bC X2.out.size
        try simp only [Act.put, List.setIfInBounds_toArray, List.set_cons_zero, List.set_cons_succ]
        refine wpAnyH_ready (rs := [3, 5]) (by kernel_rfl) (by simp) ?_
        refine (AllReadyH.cons (o := { dst := some 78, op := _, type := _, pos := _, after := _, guard := _ }) rfl (fun K hK => ?_) (AllReadyH.cons (o := { dst := some 13, op := _, type := _, pos := _, after := _, guard := _ }) rfl (fun K hK => ?_) AllReadyH.nil))
        · go_simp
          refine (toTxn_any H1 z _ es (HX.out.below (B2.out.trans (bC.mono B2.out.size))) hm).mono ?_
          rintro e H2 ⟨a2, k2, rfl, r2', bA⟩
          have r2 := r2'.rd
          clear r2'
          replace bC : Below wJ.heap.size wJ H2 := bC.trans (bA.mono bC.size)
          replace r1 : OwnN 81 H2 wJ.heap.size (.slice a1 ns.length k1) ns := r1.below bA
          clear bA
          refine hK.out _ _ (X2.out.below bC X2.out.size) (fun hx9 => ?_)
          clear hK K hx9 hHeld
          have hHeld := X2.out.below bC X2.out.size
          try simp only [Act.put, List.setIfInBounds_toArray, List.set_cons_zero, List.set_cons_succ]
          refine wpAnyH_ready (rs := [4, 5]) (by kernel_rfl) (by simp) ?_
          refine (AllReadyH.cons (o := { dst := some 79, op := _, type := _, pos := _, after := _, guard := _ }) rfl (fun K hK => ?_) (AllReadyH.cons (o := { dst := some 13, op := _, type := _, pos := _, after := _, guard := _ }) rfl (fun K hK => ?_) AllReadyH.nil))
          · go_simp
            refine (HAi.out H2 _ _ r1.rd r1.nilOk r2).mono ?_
            rintro e H3 ⟨v3, rfl, o3, bA⟩
            replace o3 : OwnN 81 H3 wJ.heap.size v3 RS := o3.mono bC.size
            clear r1 r2
            obtain ⟨a3, k3, hv3⟩ := o3.slice
            subst hv3
            replace bC : Below wJ.heap.size wJ H3 := bC.trans (bA.mono bC.size)
            clear bA
            refine hK.out _ _ (X2.out.below bC X2.out.size) (fun hx9 => ?_)
            clear hK K hx9 hHeld
            have hHeld := X2.out.below bC X2.out.size
            try simp only [Act.put, List.setIfInBounds_toArray, List.set_cons_zero, List.set_cons_succ]
            refine wpAnyH_ready (rs := [5]) (by kernel_rfl) (by simp) ?_
            refine (AllReadyH.cons (o := { dst := some 13, op := _, type := _, pos := _, after := _, guard := _ }) rfl (fun K hK => ?_) AllReadyH.nil)
            go_simp
            have bA : Below H3.heap.size H3 (H3.alloc (.cells #[.slice none 0 0] 30)) := (Below.refl _ _).alloc (Nat.le_refl _) _
            obtain ⟨B, hBB⟩ : ∃ B, B = H3.heap.size := ⟨_, rfl⟩
            have hB : wJ.heap.size ≤ B := by rw [hBB]; exact bC.size
            have xB : Boxed (H3.alloc (.cells #[.slice none 0 0] 30)) B 30 (.slice none 0 0) := by rw [hBB]; exact Boxed.new _ _ _
            rw [← hBB]
            generalize H3.alloc (.cells #[.slice none 0 0] 30) = H4 at *
            replace bC : Below wJ.heap.size wJ H4 := bC.trans (bA.mono bC.size)
            replace o3 : OwnN 81 H4 wJ.heap.size (.slice a3 RS.length k3) RS := o3.below bA
            clear bA hBB
            refine hK.out _ _ (X2.out.below bC X2.out.size) (fun hx9 => ?_)
            clear hK K hx9 hHeld
            have hHeld := X2.out.below bC X2.out.size
            try simp only [Act.put, List.setIfInBounds_toArray, List.set_cons_zero, List.set_cons_succ]
            refine wpAnyH_ready (rs := [6]) (by kernel_rfl) (by simp) ?_
            refine (AllReadyH.cons (o := { dst := none, op := _, type := _, pos := _, after := _, guard := _ }) rfl (fun K hK => ?_) AllReadyH.nil)
            have cB := xB.cell
            have fB := xB.frozen
            go_simp
            have xC := xB.set (.slice a3 RS.length k3)
            have o4 : OwnN 81 (H4.setCell ⟨B, 0, none⟩ (.slice a3 RS.length k3)) wJ.heap.size (.slice a3 RS.length k3) RS := ownsRow_setCell_other (a := ⟨B, 0, none⟩) o3 (fun e => xB.not_row (by decide) o3 e.symm) _
            have hBl : wJ.heap.size ≤ B := hB
            replace bC : Below wJ.heap.size wJ (H4.setCell ⟨B, 0, none⟩ (.slice a3 RS.length k3)) := bC.setCell (p := ⟨B, 0, none⟩) hBl _
            clear cB fB
            refine hK.out _ _ (X2.out.below bC X2.out.size) (fun hx9 => ?_)
            clear hK K hx9 hHeld
            try simp only [Act.put, List.setIfInBounds_toArray, List.set_cons_zero, List.set_cons_succ]
            refine wpAnyH_done (by kernel_rfl) ?_ _
            go_wp2_with fail
            go_meet
            exact ⟨_, _, rfl, xC, o4, bC⟩
          · go_simp
            have bA : Below H2.heap.size H2 (H2.alloc (.cells #[.slice none 0 0] 30)) := (Below.refl _ _).alloc (Nat.le_refl _) _
            obtain ⟨B, hBB⟩ : ∃ B, B = H2.heap.size := ⟨_, rfl⟩
            have hB : wJ.heap.size ≤ B := by rw [hBB]; exact bC.size
            have xB : Boxed (H2.alloc (.cells #[.slice none 0 0] 30)) B 30 (.slice none 0 0) := by rw [hBB]; exact Boxed.new _ _ _
            rw [← hBB]
            generalize H2.alloc (.cells #[.slice none 0 0] 30) = H5 at *
            replace bC : Below wJ.heap.size wJ H5 := bC.trans (bA.mono bC.size)
            replace r1 : OwnN 81 H5 wJ.heap.size (.slice a1 ns.length k1) ns := r1.below bA
            replace r2 : RdE H5 (.slice a2 es.length k2) es := r2.below bA
            clear bA hBB
            refine hK.out _ _ (X2.out.below bC X2.out.size) (fun hx9 => ?_)
            clear hK K hx9 hHeld
            have hHeld := X2.out.below bC X2.out.size
            try simp only [Act.put, List.setIfInBounds_toArray, List.set_cons_zero, List.set_cons_succ]
            refine wpAnyH_ready (rs := [4]) (by kernel_rfl) (by simp) ?_
            refine (AllReadyH.cons (o := { dst := some 79, op := _, type := _, pos := _, after := _, guard := _ }) rfl (fun K hK => ?_) AllReadyH.nil)
            go_simp
            refine (HAi.out H5 _ _ r1.rd r1.nilOk r2).mono ?_
            rintro e H6 ⟨v3, rfl, o3, bA⟩
            replace o3 : OwnN 81 H6 wJ.heap.size v3 RS := o3.mono bC.size
            clear r1 r2
            obtain ⟨a3, k3, hv3⟩ := o3.slice
            subst hv3
            replace bC : Below wJ.heap.size wJ H6 := bC.trans (bA.mono bC.size)
            replace xB : Boxed H6 B 30 (.slice none 0 0) := boxed_below bA xB
            clear bA
            refine hK.out _ _ (X2.out.below bC X2.out.size) (fun hx9 => ?_)
            clear hK K hx9 hHeld
            have hHeld := X2.out.below bC X2.out.size
            try simp only [Act.put, List.setIfInBounds_toArray, List.set_cons_zero, List.set_cons_succ]
            refine wpAnyH_ready (rs := [6]) (by kernel_rfl) (by simp) ?_
            refine (AllReadyH.cons (o := { dst := none, op := _, type := _, pos := _, after := _, guard := _ }) rfl (fun K hK => ?_) AllReadyH.nil)
            have cB := xB.cell
            have fB := xB.frozen
            go_simp
            have xC := xB.set (.slice a3 RS.length k3)
            have o4 : OwnN 81 (H6.setCell ⟨B, 0, none⟩ (.slice a3 RS.length k3)) wJ.heap.size (.slice a3 RS.length k3) RS := ownsRow_setCell_other (a := ⟨B, 0, none⟩) o3 (fun e => xB.not_row (by decide) o3 e.symm) _
            have hBl : wJ.heap.size ≤ B := hB
            replace bC : Below wJ.heap.size wJ (H6.setCell ⟨B, 0, none⟩ (.slice a3 RS.length k3)) := bC.setCell (p := ⟨B, 0, none⟩) hBl _
            clear cB fB
            refine hK.out _ _ (X2.out.below bC X2.out.size) (fun hx9 => ?_)
            clear hK K hx9 hHeld
            try simp only [Act.put, List.setIfInBounds_toArray, List.set_cons_zero, List.set_cons_succ]
            refine wpAnyH_done (by kernel_rfl) ?_ _
            go_wp2_with fail
            go_meet
            exact ⟨_, _, rfl, xC, o4, bC⟩
        · go_simp
          have bA : Below H1.heap.size H1 (H1.alloc (.cells #[.slice none 0 0] 30)) := (Below.refl _ _).alloc (Nat.le_refl _) _
          obtain ⟨B, hBB⟩ : ∃ B, B = H1.heap.size := ⟨_, rfl⟩
          have hB : wJ.heap.size ≤ B := by rw [hBB]; exact bC.size
          have xB : Boxed (H1.alloc (.cells #[.slice none 0 0] 30)) B 30 (.slice none 0 0) := by rw [hBB]; exact Boxed.new _ _ _
          rw [← hBB]
          generalize H1.alloc (.cells #[.slice none 0 0] 30) = H7 at *
          replace bC : Below wJ.heap.size wJ H7 := bC.trans (bA.mono bC.size)
          replace r1 : OwnN 81 H7 wJ.heap.size (.slice a1 ns.length k1) ns := r1.below bA
          clear bA hBB
          refine hK.out _ _ (X2.out.below bC X2.out.size) (fun hx9 => ?_)
          clear hK K hx9 hHeld
          have hHeld := X2.out.below bC X2.out.size
          try simp only [Act.put, List.setIfInBounds_toArray, List.set_cons_zero, List.set_cons_succ]
          refine wpAnyH_ready (rs := [3]) (by kernel_rfl) (by simp) ?_
          refine (AllReadyH.cons (o := { dst := some 78, op := _, type := _, pos := _, after := _, guard := _ }) rfl (fun K hK => ?_) AllReadyH.nil)
          go_simp
          refine (toTxn_any H7 z _ es (HX.out.below (B2.out.trans (bC.mono B2.out.size))) hm).mono ?_
          rintro e H8 ⟨a2, k2, rfl, r2', bA⟩
          have r2 := r2'.rd
          clear r2'
          replace bC : Below wJ.heap.size wJ H8 := bC.trans (bA.mono bC.size)
          replace xB : Boxed H8 B 30 (.slice none 0 0) := boxed_below bA xB
          replace r1 : OwnN 81 H8 wJ.heap.size (.slice a1 ns.length k1) ns := r1.below bA
          clear bA
          refine hK.out _ _ (X2.out.below bC X2.out.size) (fun hx9 => ?_)
          clear hK K hx9 hHeld
          have hHeld := X2.out.below bC X2.out.size
          try simp only [Act.put, List.setIfInBounds_toArray, List.set_cons_zero, List.set_cons_succ]
          refine wpAnyH_ready (rs := [4]) (by kernel_rfl) (by simp) ?_
          refine (AllReadyH.cons (o := { dst := some 79, op := _, type := _, pos := _, after := _, guard := _ }) rfl (fun K hK => ?_) AllReadyH.nil)
          go_simp
          refine (HAi.out H8 _ _ r1.rd r1.nilOk r2).mono ?_
          rintro e H9 ⟨v3, rfl, o3, bA⟩
          replace o3 : OwnN 81 H9 wJ.heap.size v3 RS := o3.mono bC.size
          clear r1 r2
          obtain ⟨a3, k3, hv3⟩ := o3.slice
          subst hv3
          replace bC : Below wJ.heap.size wJ H9 := bC.trans (bA.mono bC.size)
          replace xB : Boxed H9 B 30 (.slice none 0 0) := boxed_below bA xB
          clear bA
          refine hK.out _ _ (X2.out.below bC X2.out.size) (fun hx9 => ?_)
          clear hK K hx9 hHeld
          have hHeld := X2.out.below bC X2.out.size
          try simp only [Act.put, List.setIfInBounds_toArray, List.set_cons_zero, List.set_cons_succ]
          refine wpAnyH_ready (rs := [6]) (by kernel_rfl) (by simp) ?_
          refine (AllReadyH.cons (o := { dst := none, op := _, type := _, pos := _, after := _, guard := _ }) rfl (fun K hK => ?_) AllReadyH.nil)
          have cB := xB.cell
          have fB := xB.frozen
          go_simp
          have xC := xB.set (.slice a3 RS.length k3)
          have o4 : OwnN 81 (H9.setCell ⟨B, 0, none⟩ (.slice a3 RS.length k3)) wJ.heap.size (.slice a3 RS.length k3) RS := ownsRow_setCell_other (a := ⟨B, 0, none⟩) o3 (fun e => xB.not_row (by decide) o3 e.symm) _
          have hBl : wJ.heap.size ≤ B := hB
          replace bC : Below wJ.heap.size wJ (H9.setCell ⟨B, 0, none⟩ (.slice a3 RS.length k3)) := bC.setCell (p := ⟨B, 0, none⟩) hBl _
          clear cB fB
          refine hK.out _ _ (X2.out.below bC X2.out.size) (fun hx9 => ?_)
          clear hK K hx9 hHeld
          try simp only [Act.put, List.setIfInBounds_toArray, List.set_cons_zero, List.set_cons_succ]
          refine wpAnyH_done (by kernel_rfl) ?_ _
          go_wp2_with fail
          go_meet
          exact ⟨_, _, rfl, xC, o4, bC⟩
      · go_simp
        have bA : Below H0.heap.size H0 (H0.alloc (.cells #[.slice none 0 0] 30)) := (Below.refl _ _).alloc (Nat.le_refl _) _
        obtain ⟨B, hBB⟩ : ∃ B, B = H0.heap.size := ⟨_, rfl⟩
        have hB : wJ.heap.size ≤ B := by rw [hBB]; exact bC.size
        have xB : Boxed (H0.alloc (.cells #[.slice none 0 0] 30)) B 30 (.slice none 0 0) := by rw [hBB]; exact Boxed.new _ _ _
        rw [← hBB]
        generalize H0.alloc (.cells #[.slice none 0 0] 30) = H10 at *
        replace bC : Below wJ.heap.size wJ H10 := bC.trans (bA.mono bC.size)
        clear bA hBB
        refine hK.out _ _ (X2.out.below bC X2.out.size) (fun hx9 => ?_)
        clear hK K hx9 hHeld
        have hHeld := X2.out.below bC X2.out.size
        try simp only [Act.put, List.setIfInBounds_toArray, List.set_cons_zero, List.set_cons_succ]
        refine wpAnyH_ready (rs := [1]) (by kernel_rfl) (by simp) ?_
        refine (AllReadyH.cons (o := { dst := some 76, op := _, type := _, pos := _, after := _, guard := _ }) rfl (fun K hK => ?_) AllReadyH.nil)
        go_simp
        refine (toTree_any H10 _ ns (HR.out.below (B2.out.trans (bC.mono B2.out.size))) hn).mono ?_
        rintro e H11 ⟨a1, k1, rfl, r1, bA⟩
        replace r1 : OwnN 81 H11 wJ.heap.size (.slice a1 ns.length k1) ns := r1.mono bC.size
        replace bC : Below wJ.heap.size wJ H11 := bC.trans (bA.mono bC.size)
        replace xB : Boxed H11 B 30 (.slice none 0 0) := boxed_below bA xB
        clear bA
        refine hK.out _ _ (X2.out.below bC X2.out.size) (fun hx9 => ?_)
        clear hK K hx9 hHeld
        have hHeld := X2.out.below bC X2.out.size
        try simp only [Act.put, List.setIfInBounds_toArray, List.set_cons_zero, List.set_cons_succ]
        refine wpAnyH_ready (rs := [3]) (by kernel_rfl) (by simp) ?_
        refine (AllReadyH.cons (o := { dst := some 78, op := _, type := _, pos := _, after := _, guard := _ }) rfl (fun K hK => ?_) AllReadyH.nil)
        go_simp
        refine (toTxn_any H11 z _ es (HX.out.below (B2.out.trans (bC.mono B2.out.size))) hm).mono ?_
        rintro e H12 ⟨a2, k2, rfl, r2', bA⟩
        have r2 := r2'.rd
        clear r2'
        replace bC : Below wJ.heap.size wJ H12 := bC.trans (bA.mono bC.size)
        replace xB : Boxed H12 B 30 (.slice none 0 0) := boxed_below bA xB
        replace r1 : OwnN 81 H12 wJ.heap.size (.slice a1 ns.length k1) ns := r1.below bA
        clear bA
        refine hK.out _ _ (X2.out.below bC X2.out.size) (fun hx9 => ?_)
        clear hK K hx9 hHeld
        have hHeld := X2.out.below bC X2.out.size
        try simp only [Act.put, List.setIfInBounds_toArray, List.set_cons_zero, List.set_cons_succ]
        refine wpAnyH_ready (rs := [4]) (by kernel_rfl) (by simp) ?_
        refine (AllReadyH.cons (o := { dst := some 79, op := _, type := _, pos := _, after := _, guard := _ }) rfl (fun K hK => ?_) AllReadyH.nil)
        go_simp
        refine (HAi.out H12 _ _ r1.rd r1.nilOk r2).mono ?_
        rintro e H13 ⟨v3, rfl, o3, bA⟩
        replace o3 : OwnN 81 H13 wJ.heap.size v3 RS := o3.mono bC.size
        clear r1 r2
        obtain ⟨a3, k3, hv3⟩ := o3.slice
        subst hv3
        replace bC : Below wJ.heap.size wJ H13 := bC.trans (bA.mono bC.size)
        replace xB : Boxed H13 B 30 (.slice none 0 0) := boxed_below bA xB
        clear bA
        refine hK.out _ _ (X2.out.below bC X2.out.size) (fun hx9 => ?_)
        clear hK K hx9 hHeld
        have hHeld := X2.out.below bC X2.out.size
        try simp only [Act.put, List.setIfInBounds_toArray, List.set_cons_zero, List.set_cons_succ]
        refine wpAnyH_ready (rs := [6]) (by kernel_rfl) (by simp) ?_
        refine (AllReadyH.cons (o := { dst := none, op := _, type := _, pos := _, after := _, guard := _ }) rfl (fun K hK => ?_) AllReadyH.nil)
        have cB := xB.cell
        have fB := xB.frozen
        go_simp
        have xC := xB.set (.slice a3 RS.length k3)
        have o4 : OwnN 81 (H13.setCell ⟨B, 0, none⟩ (.slice a3 RS.length k3)) wJ.heap.size (.slice a3 RS.length k3) RS := ownsRow_setCell_other (a := ⟨B, 0, none⟩) o3 (fun e => xB.not_row (by decide) o3 e.symm) _
        have hBl : wJ.heap.size ≤ B := hB
        replace bC : Below wJ.heap.size wJ (H13.setCell ⟨B, 0, none⟩ (.slice a3 RS.length k3)) := bC.setCell (p := ⟨B, 0, none⟩) hBl _
        clear cB fB
        refine hK.out _ _ (X2.out.below bC X2.out.size) (fun hx9 => ?_)
        clear hK K hx9 hHeld
        try simp only [Act.put, List.setIfInBounds_toArray, List.set_cons_zero, List.set_cons_succ]
        refine wpAnyH_done (by kernel_rfl) ?_ _
        go_wp2_with fail
        go_meet
        exact ⟨_, _, rfl, xC, o4, bC⟩
    case rest =>
      obtain ⟨BH, vh, rfl, XH, OH, bH⟩ := hcut
      obtain ⟨ah, kh, hvh⟩ := OH.out.slice
      subst hvh
      have BJ : Hid (Below w.heap.size w wc) := K0.out.below.trans (bH.out.mono K0.out.below.size)
      have c0 := XH.out.cell
      have c1 := (boxed_below bH.out K0.out.wb).cell
      go_wp2_with fail
      clear c0 c1
      refine (eqTree_same _ _ _ RS OH.out.rd (K0.out.wo.below bH.out).rd (by omega)).mono ?_
      rintro e wZ ⟨rfl, bZ⟩
      have BZ : Hid (Below w.heap.size w wZ) := BJ.out.trans (bZ.mono BJ.out.size)
      clear bZ
      go_wp2
      go_ret
      exact ⟨rfl, BZ.out⟩

end Go.Proofs.YtgjenbgclpmjmaaDoor

namespace Go.Proofs.YtgjenbgclpmjmaaDoor
open Go.ChangeShapes Go.WideShapes Go.ChangeAt Go.RowKit

theorem cells_T : Tryd.prog.cellsOf 25 = 1 := by kernel_rfl
theorem cells_N : Tryd.prog.cellsOf 125 = 7 := by kernel_rfl
theorem cells_I : Tryd.prog.cellsOf 2 = 1 := by kernel_rfl
theorem cells_St : Tryd.prog.cellsOf 9 = 1 := by kernel_rfl
theorem cells_Ns : Tryd.prog.cellsOf 23 = 1 := by kernel_rfl
theorem addr_none (b o i : Nat) : (⟨b, o, none⟩ : Addr).add i = ⟨b, o + i, none⟩ := Addr.add_lit ..

section
variable {H : Type} {enc : TypeId × Value → H} {W : World} {base : Nat} {held : Bool}

set_option maxRecDepth 100000 in
theorem open_node_cells {m : Nat} {cs : List Value} {y : DataW H × List MemPlace} (h : DataW.trod enc Tryd.prog W base (fun _ => true) held m 125 cs = some y) :
    ∃ n : Nd, cs = ndL n ∧ n.path.size ≤ maxLen ∧ n.data.size ≤ maxLen := by
  obtain ⟨xs, k, -, -, hl, hlen, hfs⟩ := DataW.trod_struct Tryd.underlying125 h
  rw [cells_N] at hl
  match xs, hlen with
  | [y0, y1, y2, y3, y4, y5, y6], _ =>
    match cs, hl with
    | [c0, c1, c2, c3, c4, c5, c6], _ =>
      have h0 : DataW.trod enc Tryd.prog W base (fun _ => true) held k 9 [c0] = some y0 := by
        have := hfs 0 _ rfl
        simpa [cells_I, cells_St] using this
      have h1 : DataW.trod enc Tryd.prog W base (fun _ => true) held k 9 [c1] = some y1 := by
        have := hfs 1 _ rfl
        simpa [cells_I, cells_St] using this
      have h2 : DataW.trod enc Tryd.prog W base (fun _ => true) held k 2 [c2] = some y2 := by
        have := hfs 2 _ rfl
        simpa [cells_I, cells_St] using this
      have h3 : DataW.trod enc Tryd.prog W base (fun _ => true) held k 2 [c3] = some y3 := by
        have := hfs 3 _ rfl
        simpa [cells_I, cells_St] using this
      have h4 : DataW.trod enc Tryd.prog W base (fun _ => true) held k 2 [c4] = some y4 := by
        have := hfs 4 _ rfl
        simpa [cells_I, cells_St] using this
      have h5 : DataW.trod enc Tryd.prog W base (fun _ => true) held k 2 [c5] = some y5 := by
        have := hfs 5 _ rfl
        simpa [cells_I, cells_St] using this
      have h6 : DataW.trod enc Tryd.prog W base (fun _ => true) held k 2 [c6] = some y6 := by
        have := hfs 6 _ rfl
        simpa [cells_I, cells_St] using this
      obtain ⟨p, e0, -, l0⟩ := DataW.trod_string Tryd.underlying9 h0
      obtain ⟨q, e1, -, l1⟩ := DataW.trod_string Tryd.underlying9 h1
      obtain ⟨a2, e2, -, -⟩ := DataW.trod_int Tryd.underlying2 h2
      obtain ⟨a3, e3, -, -⟩ := DataW.trod_int Tryd.underlying2 h3
      obtain ⟨a4, e4, -, -⟩ := DataW.trod_int Tryd.underlying2 h4
      obtain ⟨a5, e5, -, -⟩ := DataW.trod_int Tryd.underlying2 h5
      obtain ⟨a6, e6, -, -⟩ := DataW.trod_int Tryd.underlying2 h6
      simp only [List.cons.injEq, and_true] at e0 e1 e2 e3 e4 e5 e6
      subst e0 e1 e2 e3 e4 e5 e6
      exact ⟨⟨p, q, a2, a3, a4, a5, a6⟩, rfl, l0, l1⟩

theorem nAt_mk {n : Nat} (Z : Nat → Nd) (i : Nat) (h : i < n) : nAt ((List.range n).map Z) i = Z i := by unfold nAt; simp [List.getD, h]
theorem nAt_out {ns : List Nd} {i : Nat} (h : ns.length ≤ i) : nAt ns i = nd0 := by unfold nAt; rw [List.getD, List.getElem?_eq_none h]; rfl

set_option maxRecDepth 100000 in
theorem open_nodes_cell {m : Nat} {c : Value} {y : DataW H × List MemPlace} (h : DataW.trod enc Tryd.prog W base (fun _ => true) held m 23 [c] = some y) : ∃ ns, InT W c ns := by
  rcases Deep.open_slice Tryd.underlying23 h with ⟨hcs, _⟩ | ⟨a, len, cap, m, q, D, Pl, hcs, hb, hl, hm, hme, _, hall⟩
  · simp at hcs
    subst hcs
    exact ⟨[], ⟨none, 0, rfl, Nat.le_refl _, Nat.zero_le _, .inl rfl⟩, fun i => ⟨Nat.zero_le _, Nat.zero_le _⟩⟩
  · simp at hcs
    subst hcs
    rw [cells_N] at hall
    simp only [if_true] at hme
    subst hme
    by_cases h0 : len = 0
    · subst h0
      exact ⟨[], ⟨some a, m, rfl, Nat.zero_le _, hm, .inl rfl⟩, fun i => ⟨Nat.zero_le _, Nat.zero_le _⟩⟩
    have hex : ∀ i, i < len → ∃ n : Nd, (∀ j, j < 7 → W.cell? ((a.add (i * 7)).add j) = (ndL n)[j]?) ∧ n.path.size ≤ maxLen ∧ n.data.size ≤ maxLen := by
      intro i hi
      obtain ⟨cs', hc, ht⟩ := hall i (by omega)
      obtain ⟨n, rfl, l0, l1⟩ := open_node_cells ht
      have hs := (World.cells?_some hc).2
      refine ⟨n, fun j hj => ?_, l0, l1⟩
      rw [hs.2 j (by omega)]
    haveI : Inhabited Nd := ⟨nd0⟩
    obtain ⟨Z, hZ⟩ := Deep.choose_lt (α := Nd) hex
    obtain ⟨b, off, spot⟩ := a
    have hspot : spot = none := by
      have := World.cell?_spot ((hZ 0 (by omega)).1 0 (by omega))
      simpa [Addr.add] using this
    subst hspot
    have hblt : b < W.heap.size := by
      have := World.block_lt_of_cell? W _ ((hZ 0 (by omega)).1 0 (by omega))
      simpa [Addr.add] using this
    refine ⟨(List.range len).map Z, ⟨some ⟨b, off, none⟩, m, by simp, by simpa using hl, hm, .inr ⟨b, off, rfl, hblt, fun i hi => ?_⟩⟩, fun i => ?_⟩
    · have hi' : i < len := by simpa using hi
      rw [nAt_mk Z i hi']
      have c := (hZ i hi').1
      have c' : ∀ j, j < 7 → W.cell? ⟨b, off + i * 7 + j, none⟩ = (ndL (Z i))[j]? := fun j hj => by have := c j hj; rwa [addr_none, addr_none] at this
      exact ⟨c' 0 (by omega), c' 1 (by omega), c' 2 (by omega), c' 3 (by omega), c' 4 (by omega), c' 5 (by omega), c' 6 (by omega)⟩
    · by_cases hi : i < len
      · rw [nAt_mk Z i hi]; exact (hZ i hi).2
      · rw [nAt_out (by simp; omega)]; exact ⟨Nat.zero_le _, Nat.zero_le _⟩

theorem array1 {α : Type} {cs : Array α} (h : cs.size = 1) : ∃ c0, cs = #[c0] := by
  obtain ⟨l⟩ := cs
  match l, h with
  | [c0], _ => exact ⟨c0, rfl⟩

set_option maxRecDepth 100000 in
/-- A tree that came in. -/
theorem open_tree {b0 : Nat} {v : Value} {d : DataW H} {p : List MemPlace} (hv : Value.okWide Tryd.prog W .any b0 25 v) (h : DataW.Trod enc Tryd.prog W base (fun _ => true) held 25 v d p) :
    ∃ c ns, v = .agg #[c] ∧ InT W c ns := by
  obtain ⟨cs, rfl, hsz⟩ := okWide_struct Tryd.underlying25 hv
  obtain ⟨c0, rfl⟩ := array1 (hsz.trans cells_T)
  obtain ⟨fuel, hf⟩ := h
  obtain ⟨xs, n, -, -, hl, hlen, hfs⟩ := DataW.trod_struct Tryd.underlying25 hf
  match xs, hlen with
  | [y0], _ =>
    have h0 : DataW.trod enc Tryd.prog W base (fun _ => true) held n 23 [c0] = some y0 := by
      have := hfs 0 _ rfl
      simpa [cells_Ns, Value.cells] using this
    obtain ⟨ns, hn⟩ := open_nodes_cell h0
    exact ⟨c0, ns, rfl, hn⟩
end

end Go.Proofs.YtgjenbgclpmjmaaDoor

namespace Go.Proofs.YtgjenbgclpmjmaaDoor
open Go.ChangeShapes Go.WideShapes Go.ChangeAt Go.RowKit

theorem cells_X : Tryd.prog.cellsOf 36 = 2 := by kernel_rfl
theorem cells_E : Tryd.prog.cellsOf 130 = 8 := by kernel_rfl
theorem cells_B : Tryd.prog.cellsOf 4 = 1 := by kernel_rfl

section
variable {H : Type} {enc : TypeId × Value → H} {W : World} {base : Nat} {held : Bool}

set_option maxRecDepth 100000 in
theorem open_effect_cells {m : Nat} {cs : List Value} {y : DataW H × List MemPlace} (h : DataW.trod enc Tryd.prog W base (fun _ => true) held m 130 cs = some y) :
    ∃ n : Ef, cs = efL n ∧ n.nd.path.size ≤ maxLen ∧ n.nd.data.size ≤ maxLen := by
  obtain ⟨xs, k, -, -, hl, hlen, hfs⟩ := DataW.trod_struct Tryd.underlying130 h
  rw [cells_E] at hl
  match xs, hlen with
  | [y0, y1], _ =>
    match cs, hl with
    | [c0, c1, c2, c3, c4, c5, c6, c7], _ =>
      have h0 : DataW.trod enc Tryd.prog W base (fun _ => true) held k 4 [c0] = some y0 := by
        have := hfs 0 _ rfl
        simpa [cells_B, cells_N] using this
      have h1 : DataW.trod enc Tryd.prog W base (fun _ => true) held k 125 [c1, c2, c3, c4, c5, c6, c7] = some y1 := by
        have := hfs 1 _ rfl
        simpa [cells_B, cells_N] using this
      obtain ⟨d, e0, -⟩ := DataW.trod_bool Tryd.underlying4 h0
      obtain ⟨n, e1, l0, l1⟩ := open_node_cells h1
      simp only [List.cons.injEq, and_true] at e0
      subst e0
      refine ⟨⟨d, n⟩, ?_, l0, l1⟩
      rw [e1]
      rfl

theorem eAt_mk {n : Nat} (Z : Nat → Ef) (i : Nat) (h : i < n) : eAt ((List.range n).map Z) i = Z i := by unfold eAt; simp [List.getD, h]
theorem eAt_out {ns : List Ef} {i : Nat} (h : ns.length ≤ i) : eAt ns i = ef0 := by unfold eAt; rw [List.getD, List.getElem?_eq_none h]; rfl

set_option maxRecDepth 100000 in
theorem open_effects_cell {m : Nat} {c : Value} {y : DataW H × List MemPlace} (h : DataW.trod enc Tryd.prog W base (fun _ => true) held m 34 [c] = some y) : ∃ ns, InX W c ns := by
  rcases Deep.open_slice Tryd.underlying34 h with ⟨hcs, _⟩ | ⟨a, len, cap, m, q, D, Pl, hcs, hb, hl, hm, hme, _, hall⟩
  · simp at hcs
    subst hcs
    exact ⟨[], ⟨none, 0, rfl, Nat.le_refl _, Nat.zero_le _, .inl rfl⟩, fun i => ⟨Nat.zero_le _, Nat.zero_le _⟩⟩
  · simp at hcs
    subst hcs
    rw [cells_E] at hall
    simp only [if_true] at hme
    subst hme
    by_cases h0 : len = 0
    · subst h0
      exact ⟨[], ⟨some a, m, rfl, Nat.zero_le _, hm, .inl rfl⟩, fun i => ⟨Nat.zero_le _, Nat.zero_le _⟩⟩
    have hex : ∀ i, i < len → ∃ n   : Ef, (∀ j, j < 8 → W.cell? ((a.add (i * 8)).add j) = (efL n)[j]?) ∧ n.nd.path.size ≤ maxLen ∧ n.nd.data.size ≤ maxLen := by
      intro i hi
      obtain ⟨cs', hc, ht⟩ := hall i (by omega)
      obtain ⟨n, rfl, l0, l1⟩ := open_effect_cells ht
      have hs := (World.cells?_some hc).2
      refine ⟨n, fun j hj => ?_, l0, l1⟩
      rw [hs.2 j (by omega)]
    haveI : Inhabited Ef := ⟨ef0⟩
    obtain ⟨Z, hZ⟩ := Deep.choose_lt (α := Ef) hex
    obtain ⟨b, off, spot⟩ := a
    have hspot : spot = none := by
      have := World.cell?_spot ((hZ 0 (by omega)).1 0 (by omega))
      simpa [Addr.add] using this
    subst hspot
    have hblt : b < W.heap.size := by
      have := World.block_lt_of_cell? W _ ((hZ 0 (by omega)).1 0 (by omega))
      simpa [Addr.add] using this
    refine ⟨(List.range len).map Z, ⟨some ⟨b, off, none⟩, m, by simp, by simpa using hl, hm, .inr ⟨b, off, rfl, hblt, fun i hi => ?_⟩⟩, fun i => ?_⟩
    · have hi' : i < len := by simpa using hi
      rw [eAt_mk Z i hi']
      have c := (hZ i hi').1
      have c' : ∀ j, j < 8 → W.cell? ⟨b, off + i * 8 + j, none⟩ = (efL (Z i))[j]? := fun j hj => by have := c j hj; rwa [addr_none, addr_none] at this
      exact ⟨c' 0 (by omega), c' 1 (by omega), c' 2 (by omega), c' 3 (by omega), c' 4 (by omega), c' 5 (by omega), c' 6 (by omega), c' 7 (by omega)⟩
    · by_cases hi : i < len
      · rw [eAt_mk Z i hi]; exact (hZ i hi).2
      · rw [eAt_out (by simp; omega)]; exact ⟨Nat.zero_le _, Nat.zero_le _⟩

set_option maxRecDepth 100000 in
/-- A transaction that came in. -/
theorem open_txn {b0 : Nat} {v : Value} {d : DataW H} {p : List MemPlace} (hv : Value.okWide Tryd.prog W .any b0 36 v) (h : DataW.Trod enc Tryd.prog W base (fun _ => true) held 36 v d p) :
    ∃ z c ns, v = .agg #[.int .i64 z, c] ∧ InX W c ns := by
  obtain ⟨c0, c1, y0, y1, m, rfl, _, _, h0, h1⟩ := Go.Joins.open_agg2 Tryd.underlying36 (by kernel_rfl) cells_X hv h
  obtain ⟨z, e0, -, -⟩ := DataW.trod_int Tryd.underlying2 h0
  simp only [List.cons.injEq, and_true] at e0
  subst e0
  obtain ⟨ns, hn⟩ := open_effects_cell h1
  exact ⟨z, c1, ns, rfl, hn⟩
end

end Go.Proofs.YtgjenbgclpmjmaaDoor

namespace Go.Proofs.YtgjenbgclpmjmaaDoor
open Go.ChangeShapes Go.WideShapes Go.ChangeAt Go.RowKit

theorem knob : ownKnob Tryd.prog.godebug = none := by kernel_rfl
theorem laidOut : laidOutB Tryd.prog = true := by kernel_rfl

def gFirst (P : Program) : Nat := (P.globalNamed "unicode/utf8.first").getD 0
def gAccept (P : Program) : Nat := (P.globalNamed "unicode/utf8.acceptRanges").getD 0

/-- The witness: the two tables as they are laid. -/
def laidWorld (P : Program) (os : Os) : World :=
  let w0 := World.holding P os ⟨#[], #[], []⟩
  let put (h : Array Obj) (g : Nat) (cs : Array Value) : Array Obj := h.modify g fun
    | .cells _ t frozen => .cells cs t frozen
    | o => o
  let h1 := put w0.heap (gFirst P) (Go.Pinned.utf8FirstZ.map fun (z : Nat) => Value.int .u8 (z : Int)).toArray
  let h2 := put h1 (gAccept P) ((([128, 191, 160, 191, 128, 159, 144, 191, 128, 143] : List Int) ++ List.replicate 22 0).map fun (z : Int) => Value.int .u8 z).toArray
  { w0 with heap := h2 }
theorem laid_met (os : Os) (args : Array Value) : laidMet Tryd.prog [("unicode/utf8.acceptRanges", Rows.laid_unicode_utf8_acceptRanges), ("unicode/utf8.first", Rows.laid_unicode_utf8_first)] ((laidWorld Tryd.prog os).forCall (fun _ _ => 0) ⟨#[], args, []⟩).memory :=
  (LaidIn.of_run (l := [("unicode/utf8.acceptRanges", Rows.laid_unicode_utf8_acceptRanges), ("unicode/utf8.first", Rows.laid_unicode_utf8_first)]) [gAccept Tryd.prog, gFirst Tryd.prog] 8 (by kernel_rfl) (by kernel_rfl) (by kernel_rfl) (by kernel_rfl)).met

end Go.Proofs.YtgjenbgclpmjmaaDoor

