import Derived.Test.YtmgolinleiahpaaDoorJ03
import Derived.Test.YtmgolinleiahpaaDoorJ01
import Derived.Test.YtmgolinleiahpaaDoorJ10
import Derived.Test.YtmgolinleiahpaaDoorJ06
import Derived.Deep.RegionHeld3
import Derived.Lib.SmallJoins
import Derived.Deep.Slices
import Derived.Deep.DeepHandedRow
import Derived.ShutString
import Derived.ChangeOld
import Derived.ChangeMaps5
import Derived.Test.YtmgolinleiahpaaDoorCards
import Derived.Test.YtmgolinleiahpaaDoorTie
import Derived.Lib.LaidIn
namespace Go.Proofs.YtmgolinleiahpaaDoor
open Go.RowKit

def digs (k : Nat) (acc : List UInt8) : List UInt8 := if h : k = 0 then acc else digs (k / 10) (UInt8.ofNat (48 + k % 10) :: acc)
termination_by k
decreasing_by omega
theorem digs_zero (acc : List UInt8) : digs 0 acc = acc := by rw [digs]; simp
theorem digs_pos {k : Nat} (h : 0 < k) (acc : List UInt8) : digs k acc = digs (k / 10) (UInt8.ofNat (48 + k % 10) :: acc) := by rw [digs]; simp [show ¬ k = 0 by omega]
def mtx (k : Nat) : ByteArray := if k = 0 then ⟨#[109, 48]⟩ else ⟨(109 :: digs k []).toArray⟩

theorem ba_app (a b : List UInt8) : (⟨a.toArray⟩ ++ ⟨b.toArray⟩ : ByteArray) = ⟨(a ++ b).toArray⟩ := by
  apply ByteArray.ext
  simp [ByteArray.data_append]

set_option maxHeartbeats 1000000 in
set_option maxRecDepth 100000 in
theorem markText_any (w : World) (k : Nat) (h : k ≤ 1099511627776) :
    Calls Tryd.prog 120 #[.int .i64 k] w fun e w' => e = .returned (.string (mtx k)) ∧ Below w.heap.size w w' := by
  go_enter Tryd.func120, Tryd.ntmps120
  by_cases h0 : k = 0
  · subst h0
    go_wp2
    go_ret
    exact ⟨rfl, Below.refl _ _⟩
  · have hI : ¬ (k : Int) ≤ 0 := by omega
    go_wp2
    go_loopw [0, 3] (fun vk vo wr => ∃ (j d : Nat) (acc : List UInt8), vk = .int .i64 j ∧ vo = .string ⟨acc.toArray⟩ ∧ j < 10 ^ d ∧ acc.length + d ≤ 13 ∧ j ≤ 1099511627776 ∧ Hid (digs j acc = digs k []) ∧ Hid (Below w.heap.size w wr)) (fun i _ _ => (intOf i).toNat)
    case atStart => exact ⟨k, 13, [], rfl, rfl, by omega, by simp, h, rfl, Below.refl _ _⟩
    case round =>
      obtain ⟨j, d, acc, rfl, rfl, hjd, had, hj, HD, HB⟩ := hrel
      by_cases hp : 0 < j
      · have hpI : (0 : Int) < (j : Int) := by omega
        obtain ⟨u, hu⟩ : ∃ u, u = UInt8.ofNat (48 + j % 10) := ⟨_, rfl⟩
        have HD2 : Hid (digs (j / 10) (u :: acc) = digs k []) := by show _ = _; rw [hu, ← digs_pos hp]; exact HD.out
        have hcv : (convert 24 9 (.slice (some ⟨wr.heap.size, 0, none⟩) 1 1)).run Tryd.prog (wr.alloc (.cells #[.int .u8 (48 + (j : Int) % 10)] 5)) = .ok (.string ⟨[u].toArray⟩) (wr.alloc (.cells #[.int .u8 (48 + (j : Int) % 10)] 5)) := by
          have O1 : Own .u8 5 (wr.alloc (.cells #[.int .u8 (48 + (j : Int) % 10)] 5)) wr.heap.size (.slice (some ⟨wr.heap.size, 0, none⟩) 1 1) [48 + (j : Int) % 10] := World.ownsRow_lit wr #[.int .u8 (48 + (j : Int) % 10)] 1 (Nat.le_refl _) (by unfold maxLen; omega) rfl
          have := conv_any O1.rd
          rw [this]
          have e : (48 + (j : Int) % 10).toNat = 48 + j % 10 := by omega
          rw [hu]
          simp only [strOfNums, List.map_cons, List.map_nil, e]
        clear hu
        obtain ⟨d', rfl⟩ : ∃ d', d = d' + 1 := by
          cases d with
          | zero => simp at hjd; omega
          | succ d' => exact ⟨d', rfl⟩
        rw [Nat.pow_succ] at hjd
        have HJ : Hid (j / 10 < 10 ^ d') := by show _ < _; omega
        clear hjd
        go_wp2
        refine ⟨⟨j / 10, d', u :: acc, by rw [show ((j / 10 : Nat) : Int) = (j : Int) / 10 by omega], congrArg Value.string (ba_app [u] acc), HJ.out, by simp; omega, by omega, HD2, HB.out.alloc HB.out.size _⟩, ?_⟩
        simp [intOf]
        omega
      · have hj0 : j = 0 := by omega
        subst hj0
        clear hI
        go_wp2
        go_ret
        refine ⟨?_, HB.out⟩
        have e := HD.out
        rw [digs_zero] at e
        rw [e, mtx, if_neg h0]
        exact congrArg (fun x => Ending.returned (.string x)) (ba_app [109] (digs k []))

end Go.Proofs.YtmgolinleiahpaaDoor

namespace Go.Proofs.YtmgolinleiahpaaDoor
open Go.RowKit Go.Shelf

theorem rowcell {w : World} {lo g n cap z : Nat} {e : TypeId} {us : List Value} (h : w.ownsRow lo e z (.slice (some ⟨g, 0, none⟩) n cap) n us) (i : Nat) (hi : i < n * z) : ∃ u, w.cell? ⟨g, i, none⟩ = some u ∧ w.frozen? ⟨g, i, none⟩ = false := by
  have hl : i < us.length := by rw [h.1]; exact hi
  have h1 := World.ownsRow.cells h (g := g) rfl i us[i] (List.getElem?_eq_getElem hl)
  rw [Addr.add_lit, Nat.zero_add] at h1
  exact ⟨_, h1, World.ownsRow.frozenAt h i⟩
theorem row_keep {w w' : World} {lo n z : Nat} {e : TypeId} {v : Value} {us : List Value} (ho : w.ownsRow lo e z v n us) (hb : Below w.heap.size w w') : w'.ownsRow lo e z v n us := by
  refine ⟨ho.1, ?_⟩
  rcases ho.2 with hn | ⟨g, cap, cur, rfl, hbg, hgg, rest⟩
  · exact .inl hn
  · exact .inr ⟨g, cap, cur, rfl, hbg, by rw [hb.block g (Array.getElem?_eq_some_iff.1 hgg).1]; exact hgg, rest⟩
/-- A row that is written on the way. -/
def RowW (w : World) (lo g n cap z : Nat) (e : TypeId) (w' : World) : Prop := (∃ us, w'.ownsRow lo e z (.slice (some ⟨g, 0, none⟩) n cap) n us) ∧ Below lo w w' ∧ KT e w w'
theorem RowW.set {w w' : World} {lo g n cap z : Nat} {e : TypeId} (h : RowW w lo g n cap z e w') (i : Nat) (u : Value) : RowW w lo g n cap z e (w'.setCell ⟨g, i, none⟩ u) := by
  obtain ⟨⟨us, h1⟩, h2, h3⟩ := h
  have hs := World.ownsRow.stored h1 i u
  have hg := (World.ownsRow.lt h1 g rfl).1
  exact ⟨⟨_, hs.1⟩, h2.setCell hg _, h3.grown h1 hs.2⟩
theorem RowW.below {w w' w2 : World} {lo g n cap z : Nat} {e : TypeId} (h : RowW w lo g n cap z e w') (hb : Below w'.heap.size w' w2) : RowW w lo g n cap z e w2 := by
  obtain ⟨⟨us, h1⟩, h2, h3⟩ := h
  refine ⟨⟨_, row_keep h1 hb⟩, h2.trans (hb.mono ?_), h3.below hb⟩
  have := World.ownsRow.lt h1 g rfl
  omega
theorem RowW.cell {w w' : World} {lo g n cap z : Nat} {e : TypeId} (h : RowW w lo g n cap z e w') (i : Nat) (hi : i < n * z) : ∃ u, w'.cell? ⟨g, i, none⟩ = some u ∧ w'.frozen? ⟨g, i, none⟩ = false := by
  obtain ⟨⟨us, h1⟩, -, -⟩ := h
  exact rowcell h1 i hi

set_option maxHeartbeats 2000000 in
set_option maxRecDepth 100000 in
theorem markNodeS_row (w : World) (lo g n cap k : Nat) (us : List Value) (ho : w.ownsRow lo 84 7 (.slice (some ⟨g, 0, none⟩) n cap) n us) (hk : k ≤ 1048576) (hn : n ≤ 1048576) :
    Calls Tryd.prog 79 #[.slice (some ⟨g, 0, none⟩) n cap, .int .i64 k] w fun e w' => e = .returned (.int .i64 ((k + 7 * n : Nat) : Int)) ∧ RowW w lo g n cap 7 84 w' := by
  have R0 : Hid (RowW w lo g n cap 7 84 w) := ⟨⟨us, ho⟩, Below.refl _ _, KT.refl _ _⟩
  clear ho
  go_enter Tryd.func79, Tryd.ntmps79
  go_wp2
  go_loopw [1, 5] (fun vk vi wr => ∃ j K : Nat, j ≤ n ∧ K = k + 7 * j ∧ vi = .int .i64 j ∧ vk = .int .i64 K ∧ Hid (RowW w lo g n cap 7 84 wr)) (fun _ i _ => n - (intOf i).toNat)
  case atStart => exact ⟨0, k, Nat.zero_le _, by omega, rfl, rfl, R0⟩
  case round =>
    obtain ⟨j, K, hj, hK, rfl, rfl, HR⟩ := hrel
    have HKE : Hid (K = k + 7 * j) := hK
    by_cases hlt : j < n
    · have hltI : (j : Int) < (n : Int) := by omega
      have hK2 : K ≤ 10000000 := by omega
      clear hK
      go_wp2_with fail
      refine (markText_any _ K (by omega)).mono ?_
      rintro e w1 ⟨rfl, b1⟩
      have R1 : Hid (RowW w lo g n cap 7 84 w1) := HR.out.below b1
      clear b1 HR
      obtain ⟨x0, d0, f0⟩ := R1.out.cell (j * 7) (by omega)
      have R2 : Hid (RowW w lo g n cap 7 84 (w1.setCell ⟨g, j * 7, none⟩ (.string (mtx K)))) := R1.out.set _ _
      go_wp2_with fail
      generalize w1.setCell ⟨g, j * 7, none⟩ (.string (mtx K)) = w2 at *
      clear d0 f0 R1
      have hm := markText_any w2 (K + 1) (by omega)
      rw [show ((K + 1 : Nat) : Int) = (K : Int) + 1 by omega] at hm
      refine hm.mono ?_
      clear hm
      rintro e w3 ⟨rfl, b3⟩
      have R3 : Hid (RowW w lo g n cap 7 84 w3) := R2.out.below b3
      clear b3 R2
      obtain ⟨x1, d1, f1⟩ := R3.out.cell (j * 7 + 1) (by omega)
      obtain ⟨x2, d2, f2⟩ := R3.out.cell (j * 7 + 2) (by omega)
      obtain ⟨x3, d3, f3⟩ := R3.out.cell (j * 7 + 3) (by omega)
      obtain ⟨x4, d4, f4⟩ := R3.out.cell (j * 7 + 4) (by omega)
      obtain ⟨x5, d5, f5⟩ := R3.out.cell (j * 7 + 5) (by omega)
      obtain ⟨x6, d6, f6⟩ := R3.out.cell (j * 7 + 6) (by omega)
      go_wp2
      refine ⟨⟨j + 1, K + 7, by omega, by have := HKE.out; omega, by go_num, by go_num, ?_⟩, by simp [intOf]; omega⟩
      exact ((((((R3.out.set _ _).set _ _).set _ _).set _ _).set _ _).set _ _)
    · have hjn : j = n := by omega
      subst hjn
      subst hK
      go_wp2
      go_ret
      exact ⟨rfl, HR.out⟩

set_option maxHeartbeats 400000 in
theorem markNodeS_nil (w : World) (ao : Option Addr) (cap k : Nat) : Calls Tryd.prog 79 #[.slice ao 0 cap, .int .i64 k] w fun e w' => e = .returned (.int .i64 k) ∧ w' = w := by
  go_enter Tryd.func79, Tryd.ntmps79
  go_wp2
  go_rounds 1
  go_ret
  exact ⟨rfl, rfl⟩

theorem markNodeS_any (w : World) (lo k : Nat) (v : Value) (ns : List Nd) (h : OwnN 84 w lo v ns) (hk : k ≤ 1048576) (hn : ns.length ≤ 1048576) :
    Calls Tryd.prog 79 #[v, .int .i64 k] w fun e w' => e = .returned (.int .i64 ((k + 7 * ns.length : Nat) : Int)) ∧ Below lo w w' ∧ KT 84 w w' := by
  have h0 := h
  rcases h.2 with ⟨rfl, h1⟩ | ⟨g, cap, cur, rfl, rest⟩
  · refine (markNodeS_nil w none 0 k).mono ?_
    rintro e w' ⟨rfl, rfl⟩
    rw [h1]
    exact ⟨rfl, Below.refl _ _, KT.refl _ _⟩
  · refine (markNodeS_row w lo g ns.length cap k _ h0 hk hn).mono ?_
    rintro e w' ⟨rfl, -, h2, h3⟩
    exact ⟨rfl, h2, h3⟩

set_option maxHeartbeats 400000 in
theorem markTree_any (w : World) (lo k : Nat) (v : Value) (ns : List Nd) (h : OwnN 84 w lo v ns) (hl : lo ≤ w.heap.size) (hk : k ≤ 1048576) (hn : ns.length ≤ 1048576) :
    Calls Tryd.prog 29 #[.agg #[v], .int .i64 k] w fun e w' => e = .returned (.int .i64 ((k + 7 * ns.length : Nat) : Int)) ∧ Below lo w w' ∧ KT 84 w w' := by
  have H : Hid (OwnN 84 w lo v ns) := h
  clear h
  go_enter Tryd.func29, Tryd.ntmps29
  go_wp2_with fail
  refine (markNodeS_any _ lo k v ns (H.out.below ((Below.refl _ _).alloc (Nat.le_refl _) _)) hk hn).mono ?_
  rintro e w1 ⟨rfl, b1, k1⟩
  have B1 : Hid (Below lo w w1) := ((Below.refl _ _).alloc hl _).trans b1
  have K1 : Hid (KT 84 w w1) := ((KT.refl _ _).alloc _).trans k1
  clear b1 k1
  go_wp2
  go_ret
  exact ⟨rfl, B1.out, K1.out⟩

end Go.Proofs.YtmgolinleiahpaaDoor

namespace Go.Proofs.YtmgolinleiahpaaDoor
open Go.RowKit Go.Shelf

/-- A marked node. -/
def mkN (K : Nat) : Nd := ⟨mtx K, mtx (K + 1), (K : Int) + 1 + 1, (K : Int) + 1 + 1 + 1, (K : Int) + 1 + 1 + 1 + 1, (K : Int) + 1 + 1 + 1 + 1 + 1, (K : Int) + 1 + 1 + 1 + 1 + 1 + 1⟩
def mkNs (k n : Nat) : List Nd := (List.range n).map fun j => mkN (k + 7 * j)
theorem mkNs_len (k n : Nat) : (mkNs k n).length = n := by simp [mkNs]
theorem mkNs_at (k n j : Nat) (h : j < n) : nAt (mkNs k n) j = mkN (k + 7 * j) := by unfold nAt mkNs; simp [List.getD, h]
def mkMix (k : Nat) (ns : List Nd) (j : Nat) : List Nd := mkNs k j ++ ns.drop j
theorem mkMix_len (k : Nat) (ns : List Nd) (j : Nat) (h : j ≤ ns.length) : (mkMix k ns j).length = ns.length := by unfold mkMix; rw [List.length_append, mkNs_len, List.length_drop]; omega
theorem mkMix_set (k : Nat) (ns : List Nd) (j : Nat) (h : j < ns.length) : (mkMix k ns j).set j (mkN (k + 7 * j)) = mkMix k ns (j + 1) := by
  unfold mkMix
  rw [List.set_append_right _ _ (by rw [mkNs_len]; exact Nat.le_refl _), mkNs_len, Nat.sub_self, List.drop_eq_getElem_cons h, List.set_cons_zero]
  unfold mkNs
  rw [List.range_succ, List.map_append, List.append_assoc]
  rfl
theorem mkMix_all (k : Nat) (ns : List Nd) : mkMix k ns ns.length = mkNs k ns.length := by unfold mkMix; simp
/-- A row of nodes on the way. -/
def RowL (w : World) (lo g n cap : Nat) (us : List Value) (w' : World) : Prop := w'.ownsRow lo 84 7 (.slice (some ⟨g, 0, none⟩) n cap) n us ∧ Below lo w w' ∧ KT 84 w w'
theorem RowL.set {w w' : World} {lo g n cap : Nat} {us : List Value} (h : RowL w lo g n cap us w') (i : Nat) (u : Value) : RowL w lo g n cap (us.set i u) (w'.setCell ⟨g, i, none⟩ u) := by
  obtain ⟨h1, h2, h3⟩ := h
  have hs := World.ownsRow.stored h1 i u
  exact ⟨hs.1, h2.setCell (World.ownsRow.lt h1 g rfl).1 _, h3.grown h1 hs.2⟩
theorem RowL.below {w w' w2 : World} {lo g n cap : Nat} {us : List Value} (h : RowL w lo g n cap us w') (hb : Below w'.heap.size w' w2) : RowL w lo g n cap us w2 := by
  obtain ⟨h1, h2, h3⟩ := h
  refine ⟨row_keep h1 hb, h2.trans (hb.mono ?_), h3.below hb⟩
  have := World.ownsRow.lt h1 g rfl
  omega
theorem RowL.cell {w w' : World} {lo g n cap : Nat} {us : List Value} (h : RowL w lo g n cap us w') (i : Nat) (hi : i < n * 7) : ∃ u, w'.cell? ⟨g, i, none⟩ = some u ∧ w'.frozen? ⟨g, i, none⟩ = false := rowcell h.1 i hi

set_option maxHeartbeats 2000000 in
set_option maxRecDepth 100000 in
theorem markNodeL_row (w : World) (lo g n cap k : Nat) (ns : List Nd) (hp : ns.length = n) (ho : w.ownsRow lo 84 7 (.slice (some ⟨g, 0, none⟩) n cap) n (nrow ns)) (hk : k ≤ 1048576) (hn : n ≤ 1048576) :
    Calls Tryd.prog 79 #[.slice (some ⟨g, 0, none⟩) n cap, .int .i64 k] w fun e w' => e = .returned (.int .i64 ((k + 7 * n : Nat) : Int)) ∧ RowL w lo g n cap (nrow (mkNs k n)) w' := by
  have R0 : Hid (RowL w lo g n cap (nrow (mkMix k ns 0)) w) := ⟨by unfold mkMix mkNs; simpa using ho, Below.refl _ _, KT.refl _ _⟩
  have HP : Hid (ns.length = n) := hp
  clear ho hp
  go_enter Tryd.func79, Tryd.ntmps79
  go_wp2
  go_loopw [1, 5] (fun vk vi wr => ∃ j K : Nat, j ≤ n ∧ K = k + 7 * j ∧ vi = .int .i64 j ∧ vk = .int .i64 K ∧ Hid (RowL w lo g n cap (nrow (mkMix k ns j)) wr)) (fun _ i _ => n - (intOf i).toNat)
  case atStart => exact ⟨0, k, Nat.zero_le _, by omega, rfl, rfl, R0⟩
  case round =>
    obtain ⟨j, K, hj, hK, rfl, rfl, HR⟩ := hrel
    have HKE : Hid (K = k + 7 * j) := hK
    by_cases hlt : j < n
    · have hltI : (j : Int) < (n : Int) := by omega
      have hK2 : K ≤ 10000000 := by omega
      have HS : Hid (set7 (nrow (mkMix k ns j)) (j * 7) (mkN K) = nrow (mkMix k ns (j + 1))) := by
        show _ = _
        rw [nrow_set _ _ _ (by rw [mkMix_len _ _ _ (by rw [HP.out]; omega), HP.out]; exact hlt), hK, mkMix_set _ _ _ (by rw [HP.out]; exact hlt)]
      generalize nrow (mkMix k ns j) = us at *
      clear hK
      go_wp2_with fail
      refine (markText_any _ K (by omega)).mono ?_
      rintro e w1 ⟨rfl, b1⟩
      have R1 : Hid (RowL w lo g n cap us w1) := HR.out.below b1
      clear b1 HR
      obtain ⟨x0, d0, f0⟩ := R1.out.cell (j * 7) (by omega)
      have R2 : Hid (RowL w lo g n cap (us.set (j * 7) (.string (mtx K))) (w1.setCell ⟨g, j * 7, none⟩ (.string (mtx K)))) := R1.out.set _ _
      go_wp2_with fail
      generalize w1.setCell ⟨g, j * 7, none⟩ (.string (mtx K)) = w2 at *
      clear d0 f0 R1
      have hm := markText_any w2 (K + 1) (by omega)
      rw [show ((K + 1 : Nat) : Int) = (K : Int) + 1 by omega] at hm
      refine hm.mono ?_
      clear hm
      rintro e w3 ⟨rfl, b3⟩
      have R3 : Hid (RowL w lo g n cap (us.set (j * 7) (.string (mtx K))) w3) := R2.out.below b3
      clear b3 R2
      obtain ⟨x1, d1, f1⟩ := R3.out.cell (j * 7 + 1) (by omega)
      obtain ⟨x2, d2, f2⟩ := R3.out.cell (j * 7 + 2) (by omega)
      obtain ⟨x3, d3, f3⟩ := R3.out.cell (j * 7 + 3) (by omega)
      obtain ⟨x4, d4, f4⟩ := R3.out.cell (j * 7 + 4) (by omega)
      obtain ⟨x5, d5, f5⟩ := R3.out.cell (j * 7 + 5) (by omega)
      obtain ⟨x6, d6, f6⟩ := R3.out.cell (j * 7 + 6) (by omega)
      go_wp2
      refine ⟨⟨j + 1, K + 7, by omega, by have := HKE.out; omega, by go_num, by go_num, ?_⟩, by simp [intOf]; omega⟩
      show RowL _ _ _ _ _ _ _
      rw [← HS.out]
      exact ((((((R3.out.set _ _).set _ _).set _ _).set _ _).set _ _).set _ _)
    · have hjn : j = n := by omega
      subst hjn
      subst hK
      have HF : Hid (RowL w lo g j cap (nrow (mkNs k j)) wr) := by have := HR.out; rw [← HP.out, mkMix_all, HP.out] at this; exact this
      go_wp2
      go_ret
      exact ⟨rfl, HF.out⟩

theorem markNodeL_any (w : World) (lo k : Nat) (v : Value) (ns : List Nd) (h : OwnN 84 w lo v ns) (hk : k ≤ 1048576) (hn : ns.length ≤ 1048576) :
    Calls Tryd.prog 79 #[v, .int .i64 k] w fun e w' => e = .returned (.int .i64 ((k + 7 * ns.length : Nat) : Int)) ∧ OwnN 84 w' lo v (mkNs k ns.length) ∧ Below lo w w' ∧ KT 84 w w' := by
  have h0 := h
  rcases h.2 with ⟨rfl, h1⟩ | ⟨g, cap, cur, rfl, rest⟩
  · refine (markNodeS_nil w none 0 k).mono ?_
    rintro e w' ⟨rfl, rfl⟩
    rw [h1]
    exact ⟨rfl, World.ownsRow_nil _ _ _ _, Below.refl _ _, KT.refl _ _⟩
  · refine (markNodeL_row w lo g ns.length cap k ns rfl h0 hk hn).mono ?_
    rintro e w' ⟨rfl, h1, h2, h3⟩
    exact ⟨rfl, by unfold OwnN; rw [mkNs_len]; exact h1, h2, h3⟩

set_option maxHeartbeats 2000000 in
set_option maxRecDepth 100000 in
theorem heldNodeS_row (w : World) (b o n cap k : Nat) (hb : b < w.heap.size) (hc : ∀ i, i < n → CellsN w b (o + i * 7) (nAt (mkNs k n) i)) (hk : k ≤ 1048576) (hn : n ≤ 1048576) :
    Calls Tryd.prog 121 #[.slice (some ⟨b, o, none⟩) n cap, .int .i64 k] w fun e w' => e = .returned (.int .i64 ((k + 7 * n : Nat) : Int)) ∧ Below w.heap.size w w' := by
  have HC : Hid (∀ i, i < n → CellsN w b (o + i * 7) (mkN (k + 7 * i))) := fun i hi => by have := hc i hi; rw [mkNs_at k n i hi] at this; exact this
  clear hc
  go_enter Tryd.func121, Tryd.ntmps121
  go_wp2
  go_loopw [1, 5] (fun vk vi wr => ∃ j K : Nat, j ≤ n ∧ K = k + 7 * j ∧ vi = .int .i64 j ∧ vk = .int .i64 K ∧ Hid (Below w.heap.size w wr)) (fun _ i _ => n - (intOf i).toNat)
  case atStart => exact ⟨0, k, Nat.zero_le _, by omega, rfl, rfl, Below.refl _ _⟩
  case round =>
    obtain ⟨j, K, hj, hK, rfl, rfl, HB⟩ := hrel
    have HKE : Hid (K = k + 7 * j) := hK
    by_cases hlt : j < n
    · have hltI : (j : Int) < (n : Int) := by omega
      have hK2 : K ≤ 10000000 := by omega
      have HCJ : Hid (CellsN w b (o + j * 7) (mkN K)) := by have := HC.out j hlt; rw [← hK] at this; exact this
      have hm0 : Hid (∀ W, Calls Tryd.prog 120 #[.int .i64 (K : Int)] W fun e w' => e = .returned (.string (mtx K)) ∧ Below W.heap.size W w') := fun W => markText_any W K (by omega)
      have hm1 : Hid (∀ W, Calls Tryd.prog 120 #[.int .i64 ((K : Int) + 1)] W fun e w' => e = .returned (.string (mtx (K + 1))) ∧ Below W.heap.size W w') := by
        intro W
        have hm := markText_any W (K + 1) (by omega)
        rw [show ((K + 1 : Nat) : Int) = (K : Int) + 1 by omega] at hm
        exact hm
      have hpp : ((mtx K).toList == (mtx K).toList) = true := by simp
      have hpp1 : ((mtx (K + 1)).toList == (mtx (K + 1)).toList) = true := by simp
      clear hK
      go_wp2
      refine wp_region_held_drew (S := fun W => Hid (Below w.heap.size w W) ∧ W.cell? ⟨b, o + j * 7, none⟩ = some (.string (mtx K))) (by kernel_rfl) (⟨HB.out.trans ((below_drewN' _ 1).mono HB.out.size), ((HCJ.out.below HB.out hb).below (below_drewN' _ 1) (Nat.lt_of_lt_of_le hb HB.out.size)).c0⟩) (fun hHeld => ?_)
      refine wpAnyH_take (i := 0) (oi := { dst := some 12, op := _, type := _, pos := _, after := _, guard := _ }) (v := (.slice (some ⟨b, o, none⟩) n cap)) rfl (by kernel_rfl) (by kernel_rfl) (by kernel_rfl) (fun _ _ _ h => h) (Or.inl ⟨by rfl, ?hy1⟩) (by assumption) ?rest1
      case hy1 =>
        intro w9 hS9
        obtain ⟨-, y0⟩ := hS9
        go_simp
        try with_reducible rfl
      try simp only [Act.put, List.setIfInBounds_toArray, List.set_cons_zero, List.set_cons_succ]
      refine wpAnyH_take (i := 1) (oi := { dst := some 13, op := _, type := _, pos := _, after := _, guard := _ }) (v := (.int .i64 (j : Int))) rfl (by kernel_rfl) (by kernel_rfl) (by kernel_rfl) (fun _ _ _ h => h) (Or.inl ⟨by rfl, ?hy2⟩) (by assumption) ?rest2
      case hy2 =>
        intro w9 hS9
        obtain ⟨-, y0⟩ := hS9
        go_simp
        try with_reducible rfl
      try simp only [Act.put, List.setIfInBounds_toArray, List.set_cons_zero, List.set_cons_succ]
      refine wpAnyH_take (i := 2) (oi := { dst := some 14, op := _, type := _, pos := _, after := _, guard := _ }) (v := (.pointer (some ⟨b, o + j * 7, none⟩))) rfl (by kernel_rfl) (by kernel_rfl) (by kernel_rfl) (fun _ _ _ h => h) (Or.inl ⟨by rfl, ?hy3⟩) (by assumption) ?rest3
      case hy3 =>
        intro w9 hS9
        obtain ⟨-, y0⟩ := hS9
        go_simp
        try with_reducible rfl
      try simp only [Act.put, List.setIfInBounds_toArray, List.set_cons_zero, List.set_cons_succ]
      refine wpAnyH_take (i := 3) (oi := { dst := some 15, op := _, type := _, pos := _, after := _, guard := _ }) (v := (.pointer (some ⟨b, o + j * 7, none⟩))) rfl (by kernel_rfl) (by kernel_rfl) (by kernel_rfl) (fun _ _ _ h => h) (Or.inl ⟨by rfl, ?hy4⟩) (by assumption) ?rest4
      case hy4 =>
        intro w9 hS9
        obtain ⟨-, y0⟩ := hS9
        go_simp
        try with_reducible rfl
      try simp only [Act.put, List.setIfInBounds_toArray, List.set_cons_zero, List.set_cons_succ]
      refine wpAnyH_take (i := 4) (oi := { dst := some 16, op := _, type := _, pos := _, after := _, guard := _ }) (v := (.string (mtx K))) rfl (by kernel_rfl) (by kernel_rfl) (by kernel_rfl) (fun _ _ _ h => h) (Or.inl ⟨by rfl, ?hy5⟩) (by assumption) ?rest5
      case hy5 =>
        intro w9 hS9
        obtain ⟨-, y0⟩ := hS9
        go_simp
        try with_reducible rfl
      try simp only [Act.put, List.setIfInBounds_toArray, List.set_cons_zero, List.set_cons_succ]
      refine wpAnyH_take (i := 5) (oi := { dst := some 17, op := _, type := _, pos := _, after := _, guard := _ }) (v := (.int .i64 (K : Int))) rfl (by kernel_rfl) (by kernel_rfl) (by kernel_rfl) (fun _ _ _ h => h) (Or.inl ⟨by rfl, ?hy6⟩) (by assumption) ?rest6
      case hy6 =>
        intro w9 hS9
        obtain ⟨-, y0⟩ := hS9
        go_simp
        try with_reducible rfl
      try simp only [Act.put, List.setIfInBounds_toArray, List.set_cons_zero, List.set_cons_succ]
      refine wpAnyH_ready (rs := [6]) (by kernel_rfl) (by simp) ?_
      refine AllReadyH.cons (o := { dst := some 18, op := _, type := _, pos := _, after := _, guard := _ }) rfl (fun KK hK => ?_) AllReadyH.nil
      go_simp
      refine (hm0.out _).mono ?_
      rintro e w4 ⟨rfl, b4⟩
      have HB4 : Hid (Below w.heap.size w w4) := (HB.out.trans ((below_drewN' _ 1).mono HB.out.size)).trans (b4.mono HB.out.size)
      clear b4
      refine hK.out _ _ ((show Hid (Below w.heap.size w w4) ∧ w4.cell? ⟨b, o + j * 7, none⟩ = some (.string (mtx K)) from ⟨HB4, (HCJ.out.below HB4.out hb).c0⟩)) (fun hx9 => ?_)
      clear hK KK hHeld hx9
      have hHeld := (show Hid (Below w.heap.size w w4) ∧ w4.cell? ⟨b, o + j * 7, none⟩ = some (.string (mtx K)) from ⟨HB4, (HCJ.out.below HB4.out hb).c0⟩)
      try simp only [Act.put, List.setIfInBounds_toArray, List.set_cons_zero, List.set_cons_succ]
      refine wpAnyH_take (i := 7) (oi := { dst := some 19, op := _, type := _, pos := _, after := _, guard := _ }) (v := (.bool false)) rfl (by kernel_rfl) (by kernel_rfl) (by kernel_rfl) (fun _ _ _ h => h) (Or.inl ⟨by rfl, ?hy7⟩) (by assumption) ?rest7
      case hy7 =>
        intro w9 hS9
        go_simp
        try with_reducible rfl
      try simp only [Act.put, List.setIfInBounds_toArray, List.set_cons_zero, List.set_cons_succ]
      refine wpAnyH_done (by kernel_rfl) ?_ _
      clear hHeld
      go_wp2
      refine wp_region_held_drew (S := fun W => Hid (Below w.heap.size w W) ∧ W.cell? ⟨b, o + j * 7 + 1, none⟩ = some (.string (mtx (K + 1)))) (by kernel_rfl) (⟨HB4.out.trans ((below_drewN' _ 1).mono HB4.out.size), ((HCJ.out.below HB4.out hb).below (below_drewN' _ 1) (Nat.lt_of_lt_of_le hb HB4.out.size)).c1⟩) (fun hHeld => ?_)
      refine wpAnyH_take (i := 0) (oi := { dst := some 22, op := _, type := _, pos := _, after := _, guard := _ }) (v := (.slice (some ⟨b, o, none⟩) n cap)) rfl (by kernel_rfl) (by kernel_rfl) (by kernel_rfl) (fun _ _ _ h => h) (Or.inl ⟨by rfl, ?hy8⟩) (by assumption) ?rest8
      case hy8 =>
        intro w9 hS9
        obtain ⟨-, y0⟩ := hS9
        go_simp
        try with_reducible rfl
      try simp only [Act.put, List.setIfInBounds_toArray, List.set_cons_zero, List.set_cons_succ]
      refine wpAnyH_take (i := 1) (oi := { dst := some 23, op := _, type := _, pos := _, after := _, guard := _ }) (v := (.int .i64 (j : Int))) rfl (by kernel_rfl) (by kernel_rfl) (by kernel_rfl) (fun _ _ _ h => h) (Or.inl ⟨by rfl, ?hy9⟩) (by assumption) ?rest9
      case hy9 =>
        intro w9 hS9
        obtain ⟨-, y0⟩ := hS9
        go_simp
        try with_reducible rfl
      try simp only [Act.put, List.setIfInBounds_toArray, List.set_cons_zero, List.set_cons_succ]
      refine wpAnyH_take (i := 2) (oi := { dst := some 24, op := _, type := _, pos := _, after := _, guard := _ }) (v := (.pointer (some ⟨b, o + j * 7, none⟩))) rfl (by kernel_rfl) (by kernel_rfl) (by kernel_rfl) (fun _ _ _ h => h) (Or.inl ⟨by rfl, ?hy10⟩) (by assumption) ?rest10
      case hy10 =>
        intro w9 hS9
        obtain ⟨-, y0⟩ := hS9
        go_simp
        try with_reducible rfl
      try simp only [Act.put, List.setIfInBounds_toArray, List.set_cons_zero, List.set_cons_succ]
      refine wpAnyH_take (i := 3) (oi := { dst := some 25, op := _, type := _, pos := _, after := _, guard := _ }) (v := (.pointer (some ⟨b, o + j * 7 + 1, none⟩))) rfl (by kernel_rfl) (by kernel_rfl) (by kernel_rfl) (fun _ _ _ h => h) (Or.inl ⟨by rfl, ?hy11⟩) (by assumption) ?rest11
      case hy11 =>
        intro w9 hS9
        obtain ⟨-, y0⟩ := hS9
        go_simp
        try with_reducible rfl
      try simp only [Act.put, List.setIfInBounds_toArray, List.set_cons_zero, List.set_cons_succ]
      refine wpAnyH_take (i := 4) (oi := { dst := some 26, op := _, type := _, pos := _, after := _, guard := _ }) (v := (.string (mtx (K + 1)))) rfl (by kernel_rfl) (by kernel_rfl) (by kernel_rfl) (fun _ _ _ h => h) (Or.inl ⟨by rfl, ?hy12⟩) (by assumption) ?rest12
      case hy12 =>
        intro w9 hS9
        obtain ⟨-, y0⟩ := hS9
        go_simp
        try with_reducible rfl
      try simp only [Act.put, List.setIfInBounds_toArray, List.set_cons_zero, List.set_cons_succ]
      refine wpAnyH_take (i := 5) (oi := { dst := some 27, op := _, type := _, pos := _, after := _, guard := _ }) (v := (.int .i64 ((K : Int) + 1))) rfl (by kernel_rfl) (by kernel_rfl) (by kernel_rfl) (fun _ _ _ h => h) (Or.inl ⟨by rfl, ?hy13⟩) (by assumption) ?rest13
      case hy13 =>
        intro w9 hS9
        obtain ⟨-, y0⟩ := hS9
        go_simp
        try with_reducible rfl
      try simp only [Act.put, List.setIfInBounds_toArray, List.set_cons_zero, List.set_cons_succ]
      refine wpAnyH_ready (rs := [6]) (by kernel_rfl) (by simp) ?_
      refine AllReadyH.cons (o := { dst := some 28, op := _, type := _, pos := _, after := _, guard := _ }) rfl (fun KK hK => ?_) AllReadyH.nil
      go_simp
      refine (hm1.out _).mono ?_
      rintro e w5 ⟨rfl, b5⟩
      have HB5 : Hid (Below w.heap.size w w5) := (HB4.out.trans ((below_drewN' _ 1).mono HB4.out.size)).trans (b5.mono HB4.out.size)
      clear b5
      refine hK.out _ _ ((show Hid (Below w.heap.size w w5) ∧ w5.cell? ⟨b, o + j * 7 + 1, none⟩ = some (.string (mtx (K + 1))) from ⟨HB5, (HCJ.out.below HB5.out hb).c1⟩)) (fun hx9 => ?_)
      clear hK KK hHeld hx9
      have hHeld := (show Hid (Below w.heap.size w w5) ∧ w5.cell? ⟨b, o + j * 7 + 1, none⟩ = some (.string (mtx (K + 1))) from ⟨HB5, (HCJ.out.below HB5.out hb).c1⟩)
      try simp only [Act.put, List.setIfInBounds_toArray, List.set_cons_zero, List.set_cons_succ]
      refine wpAnyH_take (i := 7) (oi := { dst := some 29, op := _, type := _, pos := _, after := _, guard := _ }) (v := (.bool false)) rfl (by kernel_rfl) (by kernel_rfl) (by kernel_rfl) (fun _ _ _ h => h) (Or.inl ⟨by rfl, ?hy14⟩) (by assumption) ?rest14
      case hy14 =>
        intro w9 hS9
        go_simp
        try with_reducible rfl
      try simp only [Act.put, List.setIfInBounds_toArray, List.set_cons_zero, List.set_cons_succ]
      refine wpAnyH_done (by kernel_rfl) ?_ _
      clear hHeld
      obtain ⟨-, -, y2, y3, y4, y5, y6⟩ := HCJ.out.below HB5.out hb
      unfold mkN at y2 y3 y4 y5 y6
      simp only at y2 y3 y4 y5 y6
      go_wp2
      exact ⟨⟨j + 1, K + 7, by omega, by have := HKE.out; omega, by go_num, by go_num, HB5⟩, by simp [intOf]; omega⟩
    · have hjn : j = n := by omega
      subst hjn
      subst hK
      go_wp2
      go_ret
      exact ⟨rfl, HB.out⟩

set_option maxHeartbeats 400000 in
theorem heldNodeS_nil (w : World) (ao : Option Addr) (cap k : Nat) : Calls Tryd.prog 121 #[.slice ao 0 cap, .int .i64 k] w fun e w' => e = .returned (.int .i64 k) ∧ w' = w := by
  go_enter Tryd.func121, Tryd.ntmps121
  go_wp2
  go_rounds 1
  go_ret
  exact ⟨rfl, rfl⟩

theorem heldNodeS_any (w : World) (v : Value) (k n : Nat) (h : RdN w v (mkNs k n)) (hk : k ≤ 1048576) (hn : n ≤ 1048576) :
    Calls Tryd.prog 121 #[v, .int .i64 k] w fun e w' => e = .returned (.int .i64 ((k + 7 * n : Nat) : Int)) ∧ Below w.heap.size w w' := by
  obtain ⟨ao, cap, rfl, h1, h2, h3⟩ := h
  rw [mkNs_len] at h1 h3 ⊢
  rcases h3 with h3 | ⟨b, o, rfl, hb, hc⟩
  · have : n = 0 := by have := congrArg List.length h3; rw [mkNs_len] at this; exact this
    subst this
    refine (heldNodeS_nil w ao cap k).mono ?_
    rintro e w' ⟨rfl, rfl⟩
    exact ⟨rfl, Below.refl _ _⟩
  · exact heldNodeS_row w b o n cap k hb hc hk hn

end Go.Proofs.YtmgolinleiahpaaDoor

namespace Go.Proofs.YtmgolinleiahpaaDoor
open Go.RowKit Go.Shelf

theorem OwnN.keepT {w w' : World} {lo : Nat} {v : Value} {ns : List Nd} {t : TypeId} (h : OwnN 84 w lo v ns) (hk : KT t w w') (ht : 84 ≠ t) : OwnN 84 w' lo v ns := by
  refine ⟨h.1, ?_⟩
  rcases h.2 with hn | ⟨g, cap, cur, rfl, hbg, hgg, rest⟩
  · exact .inl hn
  · exact .inr ⟨g, cap, cur, rfl, hbg, hk.box hgg ht, rest⟩
theorem OwnN.belowM {w w' : World} {lo m : Nat} {v : Value} {ns : List Nd} (h : OwnN 84 w lo v ns) (hb : Below m w w') (hlt : ∀ g, v.ownBlock = some g → g < m) : OwnN 84 w' lo v ns := by
  refine ⟨h.1, ?_⟩
  rcases h.2 with hn | ⟨g, cap, cur, rfl, hbg, hgg, rest⟩
  · exact .inl hn
  · exact .inr ⟨g, cap, cur, rfl, hbg, (hb.block g (hlt g rfl)).trans hgg, rest⟩

set_option maxHeartbeats 400000 in
theorem heldTree_any (w : World) (k n : Nat) (v : Value) (h : RdN w v (mkNs k n)) (hk : k ≤ 1048576) (hn : n ≤ 1048576) :
    Calls Tryd.prog 80 #[.agg #[v], .int .i64 k] w fun e w' => e = .returned (.int .i64 ((k + 7 * n : Nat) : Int)) ∧ Below w.heap.size w w' := by
  have B0 : Hid (Below w.heap.size w (w.alloc (.cells #[v] 36))) := (Below.refl _ _).alloc (Nat.le_refl _) _
  have H : Hid (RdN (w.alloc (.cells #[v] 36)) v (mkNs k n)) := h.below B0.out
  clear h
  go_enter Tryd.func80, Tryd.ntmps80
  go_wp2_with fail
  refine (heldNodeS_any _ _ k n H.out hk hn).mono ?_
  rintro e w1 ⟨rfl, b1⟩
  have B1 : Hid (Below w.heap.size w w1) := B0.out.trans (b1.mono (by simp))
  have hI : ¬ ((k + 7 * n : Nat) : Int) < 0 := by omega
  clear b1
  go_wp2
  go_ret
  exact ⟨rfl, B1.out⟩

end Go.Proofs.YtmgolinleiahpaaDoor

namespace Go.Proofs.YtmgolinleiahpaaDoor
open Go.RowKit Go.Shelf

/-- Of the blocks that were there only one has turned. -/
def Onl (w : World) (row : Option Nat) (w' : World) : Prop := w.heap.size ≤ w'.heap.size ∧ ∀ b, b < w.heap.size → some b ≠ row → w'.heap[b]? = w.heap[b]?
theorem Onl.refl (w : World) (row : Option Nat) : Onl w row w := ⟨Nat.le_refl _, fun _ _ _ => rfl⟩
theorem Onl.grown {w w1 w2 : World} {row : Option Nat} (h : Onl w row w1) (hg : w1.grownBy w2 row) : Onl w row w2 := ⟨Nat.le_trans h.1 hg.size, fun b hb hne => (hg.block b (Nat.lt_of_lt_of_le hb h.1) hne).trans (h.2 b hb hne)⟩
theorem Onl.below {w w1 w2 : World} {row : Option Nat} (h : Onl w row w1) (hb : Below w1.heap.size w1 w2) : Onl w row w2 := ⟨Nat.le_trans h.1 hb.size, fun b hl hne => (hb.block b (Nat.lt_of_lt_of_le hl h.1)).trans (h.2 b hl hne)⟩
theorem Onl.after {w w1 w2 : World} {row : Option Nat} (hb : Below w.heap.size w w1) (h : Onl w1 row w2) : Onl w row w2 := ⟨Nat.le_trans hb.size h.1, fun b hl hne => (h.2 b (Nat.lt_of_lt_of_le hl hb.size) hne).trans (hb.block b hl)⟩
theorem OwnN.onl {w w' : World} {lo : Nat} {v : Value} {ns : List Nd} {row : Option Nat} (h : OwnN 84 w lo v ns) (ho : Onl w row w') (hne : ∀ g, v.ownBlock = some g → row ≠ some g) : OwnN 84 w' lo v ns := by
  refine ⟨h.1, ?_⟩
  rcases h.2 with hn | ⟨g, cap, cur, rfl, hbg, hgg, rest⟩
  · exact .inl hn
  · exact .inr ⟨g, cap, cur, rfl, hbg, (ho.2 g (Array.getElem?_eq_some_iff.1 hgg).1 (fun e => hne g rfl e.symm)).trans hgg, rest⟩
/-- A row of nodes on the way. -/
def RowO (w : World) (lo g n cap : Nat) (us : List Value) (w' : World) : Prop := w'.ownsRow lo 84 7 (.slice (some ⟨g, 0, none⟩) n cap) n us ∧ Below lo w w' ∧ KT 84 w w' ∧ Onl w (some g) w'
theorem RowO.set {w w' : World} {lo g n cap : Nat} {us : List Value} (h : RowO w lo g n cap us w') (i : Nat) (u : Value) : RowO w lo g n cap (us.set i u) (w'.setCell ⟨g, i, none⟩ u) := by
  obtain ⟨h1, h2, h3, h4⟩ := h
  have hs := World.ownsRow.stored h1 i u
  exact ⟨hs.1, h2.setCell (World.ownsRow.lt h1 g rfl).1 _, h3.grown h1 hs.2, h4.grown hs.2⟩
theorem RowO.below {w w' w2 : World} {lo g n cap : Nat} {us : List Value} (h : RowO w lo g n cap us w') (hb : Below w'.heap.size w' w2) : RowO w lo g n cap us w2 := by
  obtain ⟨h1, h2, h3, h4⟩ := h
  refine ⟨row_keep h1 hb, h2.trans (hb.mono ?_), h3.below hb, h4.below hb⟩
  have := World.ownsRow.lt h1 g rfl
  omega
theorem RowO.cell {w w' : World} {lo g n cap : Nat} {us : List Value} (h : RowO w lo g n cap us w') (i : Nat) (hi : i < n * 7) : ∃ u, w'.cell? ⟨g, i, none⟩ = some u ∧ w'.frozen? ⟨g, i, none⟩ = false := rowcell h.1 i hi

set_option maxHeartbeats 2000000 in
set_option maxRecDepth 100000 in
theorem markNodeO_row (w : World) (lo g n cap k : Nat) (ns : List Nd) (hp : ns.length = n) (ho : w.ownsRow lo 84 7 (.slice (some ⟨g, 0, none⟩) n cap) n (nrow ns)) (hk : k ≤ 1048576) (hn : n ≤ 1048576) :
    Calls Tryd.prog 79 #[.slice (some ⟨g, 0, none⟩) n cap, .int .i64 k] w fun e w' => e = .returned (.int .i64 ((k + 7 * n : Nat) : Int)) ∧ RowO w lo g n cap (nrow (mkNs k n)) w' := by
  have R0 : Hid (RowO w lo g n cap (nrow (mkMix k ns 0)) w) := ⟨by unfold mkMix mkNs; simpa using ho, Below.refl _ _, KT.refl _ _, Onl.refl _ _⟩
  have HP : Hid (ns.length = n) := hp
  clear ho hp
  go_enter Tryd.func79, Tryd.ntmps79
  go_wp2
  go_loopw [1, 5] (fun vk vi wr => ∃ j K : Nat, j ≤ n ∧ K = k + 7 * j ∧ vi = .int .i64 j ∧ vk = .int .i64 K ∧ Hid (RowO w lo g n cap (nrow (mkMix k ns j)) wr)) (fun _ i _ => n - (intOf i).toNat)
  case atStart => exact ⟨0, k, Nat.zero_le _, by omega, rfl, rfl, R0⟩
  case round =>
    obtain ⟨j, K, hj, hK, rfl, rfl, HR⟩ := hrel
    have HKE : Hid (K = k + 7 * j) := hK
    by_cases hlt : j < n
    · have hltI : (j : Int) < (n : Int) := by omega
      have hK2 : K ≤ 10000000 := by omega
      have HS : Hid (set7 (nrow (mkMix k ns j)) (j * 7) (mkN K) = nrow (mkMix k ns (j + 1))) := by
        show _ = _
        rw [nrow_set _ _ _ (by rw [mkMix_len _ _ _ (by rw [HP.out]; omega), HP.out]; exact hlt), hK, mkMix_set _ _ _ (by rw [HP.out]; exact hlt)]
      generalize nrow (mkMix k ns j) = us at *
      clear hK
      go_wp2_with fail
      refine (markText_any _ K (by omega)).mono ?_
      rintro e w1 ⟨rfl, b1⟩
      have R1 : Hid (RowO w lo g n cap us w1) := HR.out.below b1
      clear b1 HR
      obtain ⟨x0, d0, f0⟩ := R1.out.cell (j * 7) (by omega)
      have R2 : Hid (RowO w lo g n cap (us.set (j * 7) (.string (mtx K))) (w1.setCell ⟨g, j * 7, none⟩ (.string (mtx K)))) := R1.out.set _ _
      go_wp2_with fail
      generalize w1.setCell ⟨g, j * 7, none⟩ (.string (mtx K)) = w2 at *
      clear d0 f0 R1
      have hm := markText_any w2 (K + 1) (by omega)
      rw [show ((K + 1 : Nat) : Int) = (K : Int) + 1 by omega] at hm
      refine hm.mono ?_
      clear hm
      rintro e w3 ⟨rfl, b3⟩
      have R3 : Hid (RowO w lo g n cap (us.set (j * 7) (.string (mtx K))) w3) := R2.out.below b3
      clear b3 R2
      obtain ⟨x1, d1, f1⟩ := R3.out.cell (j * 7 + 1) (by omega)
      obtain ⟨x2, d2, f2⟩ := R3.out.cell (j * 7 + 2) (by omega)
      obtain ⟨x3, d3, f3⟩ := R3.out.cell (j * 7 + 3) (by omega)
      obtain ⟨x4, d4, f4⟩ := R3.out.cell (j * 7 + 4) (by omega)
      obtain ⟨x5, d5, f5⟩ := R3.out.cell (j * 7 + 5) (by omega)
      obtain ⟨x6, d6, f6⟩ := R3.out.cell (j * 7 + 6) (by omega)
      go_wp2
      refine ⟨⟨j + 1, K + 7, by omega, by have := HKE.out; omega, by go_num, by go_num, ?_⟩, by simp [intOf]; omega⟩
      show RowO _ _ _ _ _ _ _
      rw [← HS.out]
      exact ((((((R3.out.set _ _).set _ _).set _ _).set _ _).set _ _).set _ _)
    · have hjn : j = n := by omega
      subst hjn
      subst hK
      have HF : Hid (RowO w lo g j cap (nrow (mkNs k j)) wr) := by have := HR.out; rw [← HP.out, mkMix_all, HP.out] at this; exact this
      go_wp2
      go_ret
      exact ⟨rfl, HF.out⟩

theorem markNodeO_any (w : World) (lo k : Nat) (v : Value) (ns : List Nd) (h : OwnN 84 w lo v ns) (hk : k ≤ 1048576) (hn : ns.length ≤ 1048576) :
    Calls Tryd.prog 79 #[v, .int .i64 k] w fun e w' => e = .returned (.int .i64 ((k + 7 * ns.length : Nat) : Int)) ∧ OwnN 84 w' lo v (mkNs k ns.length) ∧ Below lo w w' ∧ KT 84 w w' ∧ Onl w v.ownBlock w' := by
  have h0 := h
  rcases h.2 with ⟨rfl, h1⟩ | ⟨g, cap, cur, rfl, rest⟩
  · refine (markNodeS_nil w none 0 k).mono ?_
    rintro e w' ⟨rfl, rfl⟩
    rw [h1]
    exact ⟨rfl, World.ownsRow_nil _ _ _ _, Below.refl _ _, KT.refl _ _, Onl.refl _ _⟩
  · refine (markNodeO_row w lo g ns.length cap k ns rfl h0 hk hn).mono ?_
    rintro e w' ⟨rfl, h1, h2, h3, h4⟩
    exact ⟨rfl, by unfold OwnN; rw [mkNs_len]; exact h1, h2, h3, h4⟩

set_option maxHeartbeats 400000 in
theorem markTreeO_any (w : World) (lo k : Nat) (v : Value) (ns : List Nd) (h : OwnN 84 w lo v ns) (hl : lo ≤ w.heap.size) (hk : k ≤ 1048576) (hn : ns.length ≤ 1048576) :
    Calls Tryd.prog 29 #[.agg #[v], .int .i64 k] w fun e w' => e = .returned (.int .i64 ((k + 7 * ns.length : Nat) : Int)) ∧ OwnN 84 w' lo v (mkNs k ns.length) ∧ Below lo w w' ∧ KT 84 w w' ∧ Onl w v.ownBlock w' := by
  have H : Hid (OwnN 84 w lo v ns) := h
  clear h
  go_enter Tryd.func29, Tryd.ntmps29
  go_wp2_with fail
  refine (markNodeO_any _ lo k v ns (H.out.below ((Below.refl _ _).alloc (Nat.le_refl _) _)) hk hn).mono ?_
  rintro e w1 ⟨rfl, o1, b1, k1, n1⟩
  have O1 : Hid (OwnN 84 w1 lo v (mkNs k ns.length)) := o1
  have B1 : Hid (Below lo w w1) := ((Below.refl _ _).alloc hl _).trans b1
  have K1 : Hid (KT 84 w w1) := ((KT.refl _ _).alloc _).trans k1
  have N1 : Hid (Onl w v.ownBlock w1) := Onl.after ((Below.refl _ _).alloc (Nat.le_refl _) _) n1
  clear b1 k1 o1 n1
  go_wp2
  go_ret
  exact ⟨rfl, O1.out, B1.out, K1.out, N1.out⟩

end Go.Proofs.YtmgolinleiahpaaDoor

namespace Go.Proofs.YtmgolinleiahpaaDoor
open Go.RowKit Go.Shelf

/-- A box of four cells, with its type. -/
def B4T (W : World) (b : Nat) (x0 x1 x2 x3 : Value) : Prop := W.heap[b]? = some (.cells #[x0, x1, x2, x3] 53 (0, 0))
theorem B4T.lt {W : World} {b : Nat} {x0 x1 x2 x3 : Value} (h : B4T W b x0 x1 x2 x3) : b < W.heap.size := (Array.getElem?_eq_some_iff.1 h).1
theorem B4T.new (W : World) (x0 x1 x2 x3 : Value) : B4T (W.alloc (.cells #[x0, x1, x2, x3] 53)) W.heap.size x0 x1 x2 x3 := heap_alloc_new W _
theorem B4T.below {W W' : World} {b : Nat} {x0 x1 x2 x3 : Value} (h : B4T W b x0 x1 x2 x3) (hb : Below W.heap.size W W') : B4T W' b x0 x1 x2 x3 := (hb.block _ h.lt).trans h
theorem B4T.cells {W : World} {b : Nat} {x0 x1 x2 x3 : Value} (h : B4T W b x0 x1 x2 x3) : W.cell? ⟨b, 0, none⟩ = some x0 ∧ W.cell? ⟨b, 1, none⟩ = some x1 ∧ W.cell? ⟨b, 2, none⟩ = some x2 ∧ W.cell? ⟨b, 3, none⟩ = some x3 :=
  ⟨by rw [cell_of h]; rfl, by rw [cell_of h]; rfl, by rw [cell_of h]; rfl, by rw [cell_of h]; rfl⟩

set_option maxHeartbeats 1000000 in
set_option maxRecDepth 100000 in
theorem eqRp_same (w : World) (va vb : Value) (x y z : Int) (ns : List Nd) (ha : RdN w va ns) (hb : RdN w vb ns) (hn : ns.length ≤ 1048576) :
    Calls Tryd.prog 26 #[.agg #[va, .int .i64 x, .int .i64 y, .int .i64 z], .agg #[vb, .int .i64 x, .int .i64 y, .int .i64 z]] w fun e w' => e = .returned (.bool true) ∧ Below w.heap.size w w' := by
  obtain ⟨a1, c1, rfl, _, _⟩ := ha.len
  obtain ⟨a2, c2, rfl, _, _⟩ := hb.len
  have B0 : Hid (Below w.heap.size w ((w.alloc (.cells #[.slice a1 ns.length c1, .int .i64 x, .int .i64 y, .int .i64 z] 53)).alloc (.cells #[.slice a2 ns.length c2, .int .i64 x, .int .i64 y, .int .i64 z] 53))) := ((Below.refl _ _).alloc (Nat.le_refl _) _).alloc (by simp) _
  have X1 : Hid (B4T ((w.alloc (.cells #[.slice a1 ns.length c1, .int .i64 x, .int .i64 y, .int .i64 z] 53)).alloc (.cells #[.slice a2 ns.length c2, .int .i64 x, .int .i64 y, .int .i64 z] 53)) w.heap.size (.slice a1 ns.length c1) (.int .i64 x) (.int .i64 y) (.int .i64 z)) := (B4T.new _ _ _ _ _).below ((Below.refl _ _).alloc (Nat.le_refl _) _)
  have X2 : Hid (B4T ((w.alloc (.cells #[.slice a1 ns.length c1, .int .i64 x, .int .i64 y, .int .i64 z] 53)).alloc (.cells #[.slice a2 ns.length c2, .int .i64 x, .int .i64 y, .int .i64 z] 53)) (w.heap.size + 1) (.slice a2 ns.length c2) (.int .i64 x) (.int .i64 y) (.int .i64 z)) := by
    have := B4T.new (w.alloc (.cells #[.slice a1 ns.length c1, .int .i64 x, .int .i64 y, .int .i64 z] 53)) (.slice a2 ns.length c2) (.int .i64 x) (.int .i64 y) (.int .i64 z)
    rw [World.size_alloc] at this
    exact this
  have RA : Hid (RdN w (.slice a1 ns.length c1) ns) := ha
  have RB : Hid (RdN w (.slice a2 ns.length c2) ns) := hb
  clear ha hb
  go_enter Tryd.func26, Tryd.ntmps26
  go_wp2_with fail
  generalize (w.alloc (.cells #[.slice a1 ns.length c1, .int .i64 x, .int .i64 y, .int .i64 z] 53)).alloc (.cells #[.slice a2 ns.length c2, .int .i64 x, .int .i64 y, .int .i64 z] 53) = w0 at *
  refine (eqTree_same _ _ _ ns (RA.out.below B0.out) (RB.out.below B0.out) hn).mono ?_
  rintro e w1 ⟨rfl, b1⟩
  have B1 : Hid (Below w.heap.size w w1) := B0.out.trans (b1.mono B0.out.size)
  obtain ⟨-, c1', c2', c3'⟩ := (X1.out.below b1).cells
  obtain ⟨-, d1', d2', d3'⟩ := (X2.out.below b1).cells
  clear b1
  go_wp2
  go_ret
  exact ⟨rfl, B1.out⟩

set_option maxHeartbeats 1000000 in
theorem markRp_any (w : World) (lo k : Nat) (v : Value) (x y z : Int) (ns : List Nd) (h : OwnN 84 w lo v ns) (hl : lo ≤ w.heap.size) (hk : k ≤ 1048576) (hn : ns.length ≤ 1048576) :
    Calls Tryd.prog 31 #[.agg #[v, .int .i64 x, .int .i64 y, .int .i64 z], .int .i64 k] w fun e w' => e = .returned (.int .i64 ((k + 7 * ns.length : Nat) : Int)) ∧ OwnN 84 w' lo v (mkNs k ns.length) ∧ Below lo w w' ∧ KT 84 w w' := by
  obtain ⟨va, vc, rfl⟩ := OwnN.slice9 h
  have HO : Hid (OwnN 84 w lo (.slice va ns.length vc) ns) := h
  have bA : Hid (Below w.heap.size w (w.alloc (.cells #[.slice va ns.length vc, .int .i64 x, .int .i64 y, .int .i64 z] 53))) := (Below.refl _ _).alloc (Nat.le_refl _) _
  have kA : Hid (KT 84 w (w.alloc (.cells #[.slice va ns.length vc, .int .i64 x, .int .i64 y, .int .i64 z] 53))) := (KT.refl _ _).alloc _
  clear h
  go_enter Tryd.func31, Tryd.ntmps31
  go_wp2_with fail
  generalize w.alloc (.cells #[.slice va ns.length vc, .int .i64 x, .int .i64 y, .int .i64 z] 53) = w0 at *
  refine (markTreeO_any _ lo k _ ns (HO.out.below bA.out) (Nat.le_trans hl bA.out.size) hk hn).mono ?_
  rintro e w1 ⟨rfl, o1, b1, t1, -⟩
  have O1 : Hid (OwnN 84 w1 lo (.slice va ns.length vc) (mkNs k ns.length)) := o1
  have B1 : Hid (Below lo w w1) := (bA.out.mono hl).trans b1
  have K1 : Hid (KT 84 w w1) := kA.out.trans t1
  clear o1 b1 t1
  go_wp2
  go_ret
  exact ⟨ret_int (by omega), O1.out, B1.out, K1.out⟩

set_option maxHeartbeats 1000000 in
theorem heldRp_any (w : World) (k n : Nat) (va : Option Addr) (vl vc : Nat) (x y z : Int) (h : RdN w (.slice va vl vc) (mkNs k n)) (hk : k ≤ 1048576) (hn : n ≤ 1048576) :
    Calls Tryd.prog 32 #[.agg #[.slice va vl vc, .int .i64 x, .int .i64 y, .int .i64 z], .int .i64 k] w fun e w' => e = .returned (.int .i64 ((k + 7 * n : Nat) : Int)) ∧ Below w.heap.size w w' := by
  have HO : Hid (RdN w (.slice va vl vc) (mkNs k n)) := h
  have bA : Hid (Below w.heap.size w (w.alloc (.cells #[.slice va vl vc, .int .i64 x, .int .i64 y, .int .i64 z] 53))) := (Below.refl _ _).alloc (Nat.le_refl _) _
  clear h
  go_enter Tryd.func32, Tryd.ntmps32
  go_wp2_with fail
  generalize w.alloc (.cells #[.slice va vl vc, .int .i64 x, .int .i64 y, .int .i64 z] 53) = w0 at *
  refine (heldTree_any _ k n _ (HO.out.below bA.out) hk hn).mono ?_
  rintro e w1 ⟨rfl, b1⟩
  have B1 : Hid (Below w.heap.size w w1) := bA.out.trans (b1.mono bA.out.size)
  clear b1
  go_wp2
  go_ret
  exact ⟨ret_int (by omega), B1.out⟩

end Go.Proofs.YtmgolinleiahpaaDoor

namespace Go.Proofs.YtmgolinleiahpaaDoor
open Go.RowKit Go.Shelf

theorem KT.own {w w' : World} {lo : Nat} {v : Value} {xs : List Int} (h : KT 84 w w') (ho : Own .u8 5 w lo v xs) : Own .u8 5 w' lo v xs := by
  rcases ho.2 with ⟨rfl, h0⟩ | ⟨g, cap, cur, rfl, hb, hg, r⟩
  · exact ⟨ho.1, .inl ⟨rfl, h0⟩⟩
  · exact ⟨ho.1, .inr ⟨g, cap, cur, rfl, hb, h.box hg (by decide), r⟩⟩
theorem OwnN.belowB9 {w w' : World} {lo B : Nat} {v : Value} {ns : List Nd} (h : OwnN 84 w lo v ns) (hb : Below B w w') (hv : ∀ g, v.ownBlock = some g → g < B) : OwnN 84 w' lo v ns := by
  rcases h.2 with ⟨rfl, h0⟩ | ⟨g, cap, cur, rfl, hb', hg, r⟩
  · exact ⟨h.1, .inl ⟨rfl, h0⟩⟩
  · exact ⟨h.1, .inr ⟨g, cap, cur, rfl, hb', (hb.block g (hv g rfl)).trans hg, r⟩⟩

set_option linter.unusedSimpArgs false in
set_option maxHeartbeats 4000000 in
set_option maxRecDepth 100000 in
theorem lawReplay_walk (w : World) (v : Value) (ns : List Nd) (h : InT w v ns) (st : Int) (va : Value) (xs : List Int) (hx : Rd .u8 w va xs) (hby : Byt xs) :
    Calls Tryd.prog 5 #[.agg #[v], .int .i64 st, va] w fun e w' => e = .returned (.bool true) ∧ Below w.heap.size w w' := by
  obtain ⟨hr, hsz⟩ := h
  obtain ⟨ao, ca, rfl, _, _⟩ := hr.len
  obtain ⟨xo, cx, rfl, hl1, hl2⟩ := hx.len
  unfold maxLen at hl2
  have B0 : Hid (Below w.heap.size w (w.alloc (.cells #[.slice ao ns.length ca] 50))) := (Below.refl _ _).alloc (Nat.le_refl _) _
  have X0 : Hid (Boxed (w.alloc (.cells #[.slice ao ns.length ca] 50)) w.heap.size 50 (.slice ao ns.length ca)) := Boxed.new _ _ _
  have HR : Hid (RdN w (.slice ao ns.length ca) ns) := hr
  have HZ : Hid (∀ i, (nAt ns i).path.size ≤ maxLen ∧ (nAt ns i).data.size ≤ maxLen) := hsz
  have HA : Hid (Rd .u8 w (.slice xo xs.length cx) xs) := hx
  have HBY : Hid (Byt xs) := hby
  clear hr hsz hx hby
  by_cases hbig : 1048576 < xs.length
  · have hbI : (1048576 : Int) < (xs.length : Int) := by omega
    go_enter Tryd.func5, Tryd.ntmps5
    go_wp2
    go_ret
    exact ⟨rfl, B0.out⟩
  have hbI : ¬ (1048576 : Int) < (xs.length : Int) := by omega
  go_enter Tryd.func5, Tryd.ntmps5
  go_wp2_with fail
  generalize w.alloc (.cells #[.slice ao ns.length ca] 50) = w0 at *
  refine (szTree_any _ _ ns (HR.out.below B0.out) HZ.out 1048576 (by omega) (by omega)).mono ?_
  rintro e w1 ⟨r, rfl, hsz, b1⟩
  have B1 : Hid (Below w.heap.size w w1) := B0.out.trans (b1.mono B0.out.size)
  have XT1 : Hid (Boxed w1 w.heap.size 50 (.slice ao ns.length ca)) := boxed_below b1 X0.out
  have zw1 : w.heap.size < w1.heap.size := XT1.out.lt
  clear b1 X0 B0
  by_cases hneg : r < 0
  · clear hsz
    go_wp2
    go_ret
    exact ⟨rfl, B1.out⟩
  have hsz' : r + ns.length + totN ns = 1048576 := by omega
  have hn : ns.length ≤ 1048576 := by omega
  have hd : Hid (∀ i, (nAt ns i).path.size ≤ 1048576 ∧ (nAt ns i).data.size ≤ 1048576) := fun i => by have := totN_ge ns i; omega
  clear hsz hsz'
  obtain ⟨rs, zx, cn, en, HS, HI, hrl⟩ : ∃ (rs : List Nd) (zx cn en : Int), Hid (∀ (W : World) (ta : Option Addr) (tc : Nat) (ya : Option Addr) (yc : Nat), RdN W (.slice ta ns.length tc) ns → Rd .u8 W (.slice ya xs.length yc) xs → Calls Tryd.prog 22 #[.agg #[.slice ta ns.length tc], .int .i64 st, .slice ya xs.length yc] W fun e w' => ∃ va vc, e = .returned (.agg #[.slice va rs.length vc, .int .i64 zx, .int .i64 cn, .int .i64 en]) ∧ OwnN 84 w' W.heap.size (.slice va rs.length vc) rs ∧ Below W.heap.size W w') ∧
      Hid (∀ (W : World) (ta : Option Addr) (tc : Nat) (ya : Option Addr) (yc lo : Nat), RdN W (.slice ta ns.length tc) ns → Own .u8 5 W lo (.slice ya xs.length yc) xs → Calls Tryd.prog 25 #[.agg #[.slice ta ns.length tc], .int .i64 st, .slice ya xs.length yc] W fun e w' => ∃ va vc, e = .returned (.agg #[.slice va rs.length vc, .int .i64 zx, .int .i64 cn, .int .i64 en]) ∧ OwnN 84 w' W.heap.size (.slice va rs.length vc) rs ∧ Below W.heap.size W w') ∧ rs.length ≤ 2000 := by
    refine ⟨(rpR ns st xs).1, (rpR ns st xs).2.1, (((rpR ns st xs).2.2 : Nat) : Int), rpE ns st xs, ?_, ?_, rpR_sz.1⟩
    · intro W ta tc ya yc h1 h2
      exact specReplay_any W ta tc ns st ya yc xs h1 hn hd.out h2 HBY.out (by omega)
    · intro W ta tc ya yc lo h1 h2
      refine implReplay_any W ta tc ns st ya yc xs h1 hn hd.out h2.rd HBY.out (by omega) ?_
      rcases h2.2 with ⟨h, h0⟩ | ⟨g, cap, cur, h, -⟩
      · simp only [Value.slice.injEq] at h
        exact .inl ⟨h.1, h.2.1, h.2.2⟩
      · simp only [Value.slice.injEq] at h
        exact .inr ⟨g, 0, h.1⟩
  have c0 := XT1.out.cell
  go_wp2_with fail
  clear c0
  refine (toTree_any _ _ ns (HR.out.below B1.out) hn).mono ?_
  rintro e w2 ⟨ta, tc, rfl, o2, b2⟩
  have T2 : Hid (RdN w2 (.slice ta ns.length tc) ns) := o2.rd
  clear o2
  have s2 := b2.size
  have B2 : Hid (Below w.heap.size w w2) := B1.out.trans (b2.mono B1.out.size)
  have XT2 : Hid (Boxed w2 w.heap.size 50 (.slice ao ns.length ca)) := boxed_below b2 XT1.out
  clear b2 B1 XT1
  go_wp2_with fail
  refine (toByteS_any _ _ xs (HA.out.below B2.out) (by omega)).mono ?_
  rintro e w3 ⟨v3, rfl, o3, b3⟩
  obtain ⟨ua, uc, rfl⟩ := Own.slice o3
  have T3 : Hid (RdN w3 (.slice ta ns.length tc) ns) := T2.out.below b3
  have U3 : Hid (Own .u8 5 w3 w2.heap.size (.slice ua xs.length uc) xs) := o3
  clear o3 T2
  have s3 := b3.size
  have B3 : Hid (Below w.heap.size w w3) := B2.out.trans (b3.mono B2.out.size)
  have XT3 : Hid (Boxed w3 w.heap.size 50 (.slice ao ns.length ca)) := boxed_below b3 XT2.out
  clear b3 B2 XT2
  go_wp2_with fail
  refine (HS.out _ _ _ _ _ T3.out U3.out.rd).mono ?_
  rintro e w4 ⟨wa, wc, rfl, o4, b4⟩
  have WO4 : Hid (OwnN 84 w4 w1.heap.size (.slice wa rs.length wc) rs) := o4.mono (by omega)
  have LW : Hid (∀ g, Value.ownBlock (.slice wa rs.length wc) = some g → g < w4.heap.size) := fun g hg => (World.ownsRow.lt WO4.out g hg).2
  clear o4 T3 U3
  have s4 := b4.size
  have B4 : Hid (Below w.heap.size w w4) := B3.out.trans (b4.mono B3.out.size)
  have XT4 : Hid (Boxed w4 w.heap.size 50 (.slice ao ns.length ca)) := boxed_below b4 XT3.out
  clear b4 B3 XT3
  have bA : Below w4.heap.size w4 (w4.alloc (.cells #[(.slice wa rs.length wc), .int .i64 zx, .int .i64 cn, .int .i64 en] 53)) := (Below.refl _ _).alloc (Nat.le_refl _) _
  have c0 := (boxed_below bA XT4.out).cell
  go_wp2_with fail
  have NB : Hid (B4T (w4.alloc (.cells #[(.slice wa rs.length wc), .int .i64 zx, .int .i64 cn, .int .i64 en] 53)) w4.heap.size (.slice wa rs.length wc) (.int .i64 zx) (.int .i64 cn) (.int .i64 en)) := B4T.new _ _ _ _ _
  have zA : w4.heap.size < (w4.alloc (.cells #[(.slice wa rs.length wc), .int .i64 zx, .int .i64 cn, .int .i64 en] 53)).heap.size := by simp
  generalize (w4.alloc (.cells #[(.slice wa rs.length wc), .int .i64 zx, .int .i64 cn, .int .i64 en] 53)) = w5 at *
  have s5 := bA.size
  have B5 : Hid (Below w.heap.size w w5) := B4.out.trans (bA.mono B4.out.size)
  have XT5 : Hid (Boxed w5 w.heap.size 50 (.slice ao ns.length ca)) := boxed_below bA XT4.out
  have WO5 : Hid (OwnN 84 w5 w1.heap.size (.slice wa rs.length wc) rs) := WO4.out.below bA
  clear bA B4 XT4 WO4
  have WB5 : Hid (B4T w5 w4.heap.size (.slice wa rs.length wc) (.int .i64 zx) (.int .i64 cn) (.int .i64 en)) := NB.out
  clear NB
  clear c0
  refine (toTree_any _ _ ns (HR.out.below B5.out) hn).mono ?_
  rintro e w6 ⟨xa, xc, rfl, o6, b6⟩
  have XO6 : Hid (OwnN 84 w6 w5.heap.size (.slice xa ns.length xc) ns) := o6
  have LX : Hid (∀ g, Value.ownBlock (.slice xa ns.length xc) = some g → g < w6.heap.size) := fun g hg => (World.ownsRow.lt XO6.out g hg).2
  clear o6
  have s6 := b6.size
  have B6 : Hid (Below w.heap.size w w6) := B5.out.trans (b6.mono B5.out.size)
  have XT6 : Hid (Boxed w6 w.heap.size 50 (.slice ao ns.length ca)) := boxed_below b6 XT5.out
  have WB6 : Hid (B4T w6 w4.heap.size (.slice wa rs.length wc) (.int .i64 zx) (.int .i64 cn) (.int .i64 en)) := WB5.out.below b6
  have WO6 : Hid (OwnN 84 w6 w1.heap.size (.slice wa rs.length wc) rs) := WO5.out.below b6
  clear b6 B5 XT5 WB5 WO5
  have bA : Below w6.heap.size w6 (w6.alloc (.cells #[(.slice xa ns.length xc)] 36)) := (Below.refl _ _).alloc (Nat.le_refl _) _
  go_wp2_with fail
  have NB : Hid (Boxed (w6.alloc (.cells #[(.slice xa ns.length xc)] 36)) w6.heap.size 36 (.slice xa ns.length xc)) := Boxed.new _ _ _
  have zA : w6.heap.size < (w6.alloc (.cells #[(.slice xa ns.length xc)] 36)).heap.size := by simp
  generalize (w6.alloc (.cells #[(.slice xa ns.length xc)] 36)) = w7 at *
  have s7 := bA.size
  have B7 : Hid (Below w.heap.size w w7) := B6.out.trans (bA.mono B6.out.size)
  have XT7 : Hid (Boxed w7 w.heap.size 50 (.slice ao ns.length ca)) := boxed_below bA XT6.out
  have WB7 : Hid (B4T w7 w4.heap.size (.slice wa rs.length wc) (.int .i64 zx) (.int .i64 cn) (.int .i64 en)) := WB6.out.below bA
  have WO7 : Hid (OwnN 84 w7 w1.heap.size (.slice wa rs.length wc) rs) := WO6.out.below bA
  have XO7 : Hid (OwnN 84 w7 w5.heap.size (.slice xa ns.length xc) ns) := XO6.out.below bA
  clear bA B6 XT6 WB6 WO6 XO6
  have XB7 : Hid (Boxed w7 w6.heap.size 36 (.slice xa ns.length xc)) := NB.out
  clear NB
  refine (toByteS_any _ _ xs (HA.out.below B7.out) (by omega)).mono ?_
  rintro e w8 ⟨v8, rfl, o8, b8⟩
  obtain ⟨ya, yc, rfl⟩ := Own.slice o8
  have YO8 : Hid (Own .u8 5 w8 w7.heap.size (.slice ya xs.length yc) xs) := o8
  have LY : Hid (∀ g, Value.ownBlock (.slice ya xs.length yc) = some g → g < w8.heap.size) := fun g hg => (YO8.out.lt g hg).2
  clear o8
  have s8 := b8.size
  have B8 : Hid (Below w.heap.size w w8) := B7.out.trans (b8.mono B7.out.size)
  have XT8 : Hid (Boxed w8 w.heap.size 50 (.slice ao ns.length ca)) := boxed_below b8 XT7.out
  have WB8 : Hid (B4T w8 w4.heap.size (.slice wa rs.length wc) (.int .i64 zx) (.int .i64 cn) (.int .i64 en)) := WB7.out.below b8
  have WO8 : Hid (OwnN 84 w8 w1.heap.size (.slice wa rs.length wc) rs) := WO7.out.below b8
  have XB8 : Hid (Boxed w8 w6.heap.size 36 (.slice xa ns.length xc)) := boxed_below b8 XB7.out
  have XO8 : Hid (OwnN 84 w8 w5.heap.size (.slice xa ns.length xc) ns) := XO7.out.below b8
  clear b8 B7 XT7 WB7 WO7 XB7 XO7
  have c0 := XB8.out.cell
  go_wp2_with fail
  clear c0
  refine (HI.out _ _ _ _ _ _ XO8.out.rd YO8.out).mono ?_
  rintro e w9 ⟨ga, gc, rfl, o9, b9⟩
  have GO9 : Hid (OwnN 84 w9 w8.heap.size (.slice ga rs.length gc) rs) := o9
  clear o9
  have s9 := b9.size
  have B9 : Hid (Below w.heap.size w w9) := B8.out.trans (b9.mono B8.out.size)
  have XT9 : Hid (Boxed w9 w.heap.size 50 (.slice ao ns.length ca)) := boxed_below b9 XT8.out
  have WB9 : Hid (B4T w9 w4.heap.size (.slice wa rs.length wc) (.int .i64 zx) (.int .i64 cn) (.int .i64 en)) := WB8.out.below b9
  have WO9 : Hid (OwnN 84 w9 w1.heap.size (.slice wa rs.length wc) rs) := WO8.out.below b9
  have XB9 : Hid (Boxed w9 w6.heap.size 36 (.slice xa ns.length xc)) := boxed_below b9 XB8.out
  have XO9 : Hid (OwnN 84 w9 w5.heap.size (.slice xa ns.length xc) ns) := XO8.out.below b9
  have YO9 : Hid (Own .u8 5 w9 w7.heap.size (.slice ya xs.length yc) xs) := YO8.out.below b9
  clear b9 B8 XT8 WB8 WO8 XB8 XO8 YO8
  have bA : Below w9.heap.size w9 (w9.alloc (.cells #[(.slice ga rs.length gc), .int .i64 zx, .int .i64 cn, .int .i64 en] 53)) := (Below.refl _ _).alloc (Nat.le_refl _) _
  obtain ⟨d0, d1, d2, d3⟩ := (WB9.out.below bA).cells
  go_wp2_with fail
  have NB : Hid (B4T (w9.alloc (.cells #[(.slice ga rs.length gc), .int .i64 zx, .int .i64 cn, .int .i64 en] 53)) w9.heap.size (.slice ga rs.length gc) (.int .i64 zx) (.int .i64 cn) (.int .i64 en)) := B4T.new _ _ _ _ _
  have zA : w9.heap.size < (w9.alloc (.cells #[(.slice ga rs.length gc), .int .i64 zx, .int .i64 cn, .int .i64 en] 53)).heap.size := by simp
  generalize (w9.alloc (.cells #[(.slice ga rs.length gc), .int .i64 zx, .int .i64 cn, .int .i64 en] 53)) = w10 at *
  have s10 := bA.size
  have B10 : Hid (Below w.heap.size w w10) := B9.out.trans (bA.mono B9.out.size)
  have XT10 : Hid (Boxed w10 w.heap.size 50 (.slice ao ns.length ca)) := boxed_below bA XT9.out
  have WB10 : Hid (B4T w10 w4.heap.size (.slice wa rs.length wc) (.int .i64 zx) (.int .i64 cn) (.int .i64 en)) := WB9.out.below bA
  have WO10 : Hid (OwnN 84 w10 w1.heap.size (.slice wa rs.length wc) rs) := WO9.out.below bA
  have XB10 : Hid (Boxed w10 w6.heap.size 36 (.slice xa ns.length xc)) := boxed_below bA XB9.out
  have XO10 : Hid (OwnN 84 w10 w5.heap.size (.slice xa ns.length xc) ns) := XO9.out.below bA
  have YO10 : Hid (Own .u8 5 w10 w7.heap.size (.slice ya xs.length yc) xs) := YO9.out.below bA
  have GO10 : Hid (OwnN 84 w10 w8.heap.size (.slice ga rs.length gc) rs) := GO9.out.below bA
  clear bA B9 XT9 WB9 WO9 XB9 XO9 YO9 GO9
  have GB10 : Hid (B4T w10 w9.heap.size (.slice ga rs.length gc) (.int .i64 zx) (.int .i64 cn) (.int .i64 en)) := NB.out
  clear NB
  clear d0 d1 d2 d3
  refine (eqRp_same _ _ _ zx cn en rs GO10.out.rd WO10.out.rd (by omega)).mono ?_
  rintro e w11 ⟨rfl, b11⟩
  have s11 := b11.size
  have B11 : Hid (Below w.heap.size w w11) := B10.out.trans (b11.mono B10.out.size)
  have XT11 : Hid (Boxed w11 w.heap.size 50 (.slice ao ns.length ca)) := boxed_below b11 XT10.out
  have WB11 : Hid (B4T w11 w4.heap.size (.slice wa rs.length wc) (.int .i64 zx) (.int .i64 cn) (.int .i64 en)) := WB10.out.below b11
  have WO11 : Hid (OwnN 84 w11 w1.heap.size (.slice wa rs.length wc) rs) := WO10.out.below b11
  have XB11 : Hid (Boxed w11 w6.heap.size 36 (.slice xa ns.length xc)) := boxed_below b11 XB10.out
  have XO11 : Hid (OwnN 84 w11 w5.heap.size (.slice xa ns.length xc) ns) := XO10.out.below b11
  have YO11 : Hid (Own .u8 5 w11 w7.heap.size (.slice ya xs.length yc) xs) := YO10.out.below b11
  have GO11 : Hid (OwnN 84 w11 w8.heap.size (.slice ga rs.length gc) rs) := GO10.out.below b11
  have GB11 : Hid (B4T w11 w9.heap.size (.slice ga rs.length gc) (.int .i64 zx) (.int .i64 cn) (.int .i64 en)) := GB10.out.below b11
  clear b11 B10 XT10 WB10 WO10 XB10 XO10 YO10 GO10 GB10
  go_wp2_with fail
  have bP : Below w11.heap.size w11 w11.drew := below_drewN' w11 1
  refine wp_region_held_drew (S := fun W => Boxed W w6.heap.size 36 (.slice xa ns.length xc) ∧ Boxed W w.heap.size 50 (.slice ao ns.length ca)) (by kernel_rfl) ⟨boxed_below bP XB11.out, boxed_below bP XT11.out⟩ (fun hHeld => ?_)
  have BP : Hid (Below w11.heap.size w11 w11.drew) := bP
  clear bP
  generalize w11.drew = p11 at *
  refine wpAnyH_take (i := 0) (oi := { dst := some 42, op := _, type := _, pos := _, after := _, guard := _ }) (v := ?v1) rfl (by kernel_rfl) (by kernel_rfl) (by kernel_rfl) (fun _ _ _ h => h) (Or.inl ⟨by rfl, ?hy1⟩) (by assumption) ?rest1
  case hy1 =>
    intro w9 hS9
    have k0 := hS9.1.cell
    have k1 := hS9.2.cell
    go_simp
    try with_reducible rfl
  try simp only [Act.put, List.setIfInBounds_toArray, List.set_cons_zero, List.set_cons_succ]
  refine wpAnyH_take (i := 1) (oi := { dst := some 43, op := _, type := _, pos := _, after := _, guard := _ }) (v := ?v2) rfl (by kernel_rfl) (by kernel_rfl) (by kernel_rfl) (fun _ _ _ h => h) (Or.inl ⟨by rfl, ?hy2⟩) (by assumption) ?rest2
  case hy2 =>
    intro w9 hS9
    have k0 := hS9.1.cell
    have k1 := hS9.2.cell
    go_simp
    try with_reducible rfl
  try simp only [Act.put, List.setIfInBounds_toArray, List.set_cons_zero, List.set_cons_succ]
  refine wpAnyH_ready (rs := [2]) (by kernel_rfl) (by simp) ?_
  refine AllReadyH.cons (o := { dst := some 44, op := _, type := _, pos := _, after := _, guard := _ }) rfl (fun K hK => ?_) AllReadyH.nil
  go_simp
  refine (toTree_any _ _ ns (HR.out.below (B11.out.trans (BP.out.mono B11.out.size))) hn).mono ?_
  rintro e w12 ⟨qa, qc, rfl, o12, b12'⟩
  have Q12 : Hid (RdN w12 (.slice qa ns.length qc) ns) := o12.rd
  have b12 : Hid (Below w11.heap.size w11 w12) := BP.out.trans (b12'.mono BP.out.size)
  clear o12 b12'
  refine hK.out _ _ ((⟨boxed_below b12.out XB11.out, boxed_below b12.out XT11.out⟩ : (fun W => Boxed W w6.heap.size 36 (.slice xa ns.length xc) ∧ Boxed W w.heap.size 50 (.slice ao ns.length ca)) w12)) (fun hx9 => ?_)
  clear hK K hHeld hx9
  have hHeld := (⟨boxed_below b12.out XB11.out, boxed_below b12.out XT11.out⟩ : (fun W => Boxed W w6.heap.size 36 (.slice xa ns.length xc) ∧ Boxed W w.heap.size 50 (.slice ao ns.length ca)) w12)
  try simp only [Act.put, List.setIfInBounds_toArray, List.set_cons_zero, List.set_cons_succ]
  refine wpAnyH_ready (rs := [3]) (by kernel_rfl) (by simp) ?_
  refine AllReadyH.cons (o := { dst := some 45, op := _, type := _, pos := _, after := _, guard := _ }) rfl (fun K hK => ?_) AllReadyH.nil
  go_simp
  refine (eqTree_same _ _ _ ns (XO11.out.rd.below b12.out) Q12.out hn).mono ?_
  rintro e w13 ⟨rfl, b13'⟩
  have b13 : Below w11.heap.size w11 w13 := b12.out.trans (b13'.mono b12.out.size)
  clear b13' Q12 b12 BP
  refine hK.out _ _ ((⟨boxed_below b13 XB11.out, boxed_below b13 XT11.out⟩ : (fun W => Boxed W w6.heap.size 36 (.slice xa ns.length xc) ∧ Boxed W w.heap.size 50 (.slice ao ns.length ca)) w13)) (fun hx9 => ?_)
  clear hK K hHeld hx9
  have hHeld := (⟨boxed_below b13 XB11.out, boxed_below b13 XT11.out⟩ : (fun W => Boxed W w6.heap.size 36 (.slice xa ns.length xc) ∧ Boxed W w.heap.size 50 (.slice ao ns.length ca)) w13)
  try simp only [Act.put, List.setIfInBounds_toArray, List.set_cons_zero, List.set_cons_succ]
  refine wpAnyH_take (i := 4) (oi := { dst := some 46, op := _, type := _, pos := _, after := _, guard := _ }) (v := ?v3) rfl (by kernel_rfl) (by kernel_rfl) (by kernel_rfl) (fun _ _ _ h => h) (Or.inl ⟨by rfl, ?hy3⟩) (by assumption) ?rest3
  case hy3 =>
    intro w9 hS9
    have k0 := hS9.1.cell
    have k1 := hS9.2.cell
    go_simp
    try with_reducible rfl
  try simp only [Act.put, List.setIfInBounds_toArray, List.set_cons_zero, List.set_cons_succ]
  refine wpAnyH_done (by kernel_rfl) ?_ _
  clear hHeld
  have s13 := b13.size
  have B13 : Hid (Below w.heap.size w w13) := B11.out.trans (b13.mono B11.out.size)
  have XT13 : Hid (Boxed w13 w.heap.size 50 (.slice ao ns.length ca)) := boxed_below b13 XT11.out
  have WB13 : Hid (B4T w13 w4.heap.size (.slice wa rs.length wc) (.int .i64 zx) (.int .i64 cn) (.int .i64 en)) := WB11.out.below b13
  have WO13 : Hid (OwnN 84 w13 w1.heap.size (.slice wa rs.length wc) rs) := WO11.out.below b13
  have XB13 : Hid (Boxed w13 w6.heap.size 36 (.slice xa ns.length xc)) := boxed_below b13 XB11.out
  have XO13 : Hid (OwnN 84 w13 w5.heap.size (.slice xa ns.length xc) ns) := XO11.out.below b13
  have YO13 : Hid (Own .u8 5 w13 w7.heap.size (.slice ya xs.length yc) xs) := YO11.out.below b13
  have GO13 : Hid (OwnN 84 w13 w8.heap.size (.slice ga rs.length gc) rs) := GO11.out.below b13
  have GB13 : Hid (B4T w13 w9.heap.size (.slice ga rs.length gc) (.int .i64 zx) (.int .i64 cn) (.int .i64 en)) := GB11.out.below b13
  clear b13 B11 XT11 WB11 WO11 XB11 XO11 YO11 GO11 GB11
  go_wp2_with fail
  refine (toByteS_any _ _ xs (HA.out.below B13.out) (by omega)).mono ?_
  rintro e w14 ⟨v14, rfl, o14, b14⟩
  have Z14 : Hid (Rd .u8 w14 v14 xs) := o14.rd
  clear o14
  have s14 := b14.size
  have B14 : Hid (Below w.heap.size w w14) := B13.out.trans (b14.mono B13.out.size)
  have XT14 : Hid (Boxed w14 w.heap.size 50 (.slice ao ns.length ca)) := boxed_below b14 XT13.out
  have WB14 : Hid (B4T w14 w4.heap.size (.slice wa rs.length wc) (.int .i64 zx) (.int .i64 cn) (.int .i64 en)) := WB13.out.below b14
  have WO14 : Hid (OwnN 84 w14 w1.heap.size (.slice wa rs.length wc) rs) := WO13.out.below b14
  have XB14 : Hid (Boxed w14 w6.heap.size 36 (.slice xa ns.length xc)) := boxed_below b14 XB13.out
  have XO14 : Hid (OwnN 84 w14 w5.heap.size (.slice xa ns.length xc) ns) := XO13.out.below b14
  have YO14 : Hid (Own .u8 5 w14 w7.heap.size (.slice ya xs.length yc) xs) := YO13.out.below b14
  have GO14 : Hid (OwnN 84 w14 w8.heap.size (.slice ga rs.length gc) rs) := GO13.out.below b14
  have GB14 : Hid (B4T w14 w9.heap.size (.slice ga rs.length gc) (.int .i64 zx) (.int .i64 cn) (.int .i64 en)) := GB13.out.below b14
  clear b14 B13 XT13 WB13 WO13 XB13 XO13 YO13 GO13 GB13
  obtain ⟨za, zc, hz14, -, -⟩ := Z14.out.len
  subst hz14
  go_wp2_with fail
  refine (eqByteS_any _ _ _ xs xs YO14.out.rd Z14.out).mono ?_
  rintro e w15 ⟨rfl, q15, hw15⟩
  rw [show decide (xs = xs) = true by simp]
  have b15 : Below w14.heap.size w14 w15 := by rw [hw15]; exact below_drewN' w14 q15
  clear hw15 Z14
  have s15 := b15.size
  have B15 : Hid (Below w.heap.size w w15) := B14.out.trans (b15.mono B14.out.size)
  have XT15 : Hid (Boxed w15 w.heap.size 50 (.slice ao ns.length ca)) := boxed_below b15 XT14.out
  have WB15 : Hid (B4T w15 w4.heap.size (.slice wa rs.length wc) (.int .i64 zx) (.int .i64 cn) (.int .i64 en)) := WB14.out.below b15
  have WO15 : Hid (OwnN 84 w15 w1.heap.size (.slice wa rs.length wc) rs) := WO14.out.below b15
  have XB15 : Hid (Boxed w15 w6.heap.size 36 (.slice xa ns.length xc)) := boxed_below b15 XB14.out
  have XO15 : Hid (OwnN 84 w15 w5.heap.size (.slice xa ns.length xc) ns) := XO14.out.below b15
  have YO15 : Hid (Own .u8 5 w15 w7.heap.size (.slice ya xs.length yc) xs) := YO14.out.below b15
  have GO15 : Hid (OwnN 84 w15 w8.heap.size (.slice ga rs.length gc) rs) := GO14.out.below b15
  have GB15 : Hid (B4T w15 w9.heap.size (.slice ga rs.length gc) (.int .i64 zx) (.int .i64 cn) (.int .i64 en)) := GB14.out.below b15
  clear b15 B14 XT14 WB14 WO14 XB14 XO14 YO14 GO14 GB14
  have c0 := XB15.out.cell
  go_wp2_with fail
  clear c0
  refine (markTreeO_any _ w5.heap.size 1 _ ns XO15.out (by omega) (by omega) hn).mono ?_
  rintro e w16 ⟨rfl, -, bl16, kt16, on16⟩
  have s16 := on16.1
  have B16 : Hid (Below w.heap.size w w16) := B15.out.trans (bl16.mono (by omega))
  have XT16 : Hid (Boxed w16 w.heap.size 50 (.slice ao ns.length ca)) := kt16.box XT15.out (by decide)
  have WB16 : Hid (B4T w16 w4.heap.size (.slice wa rs.length wc) (.int .i64 zx) (.int .i64 cn) (.int .i64 en)) := kt16.box WB15.out (by decide)
  have WO16 : Hid (OwnN 84 w16 w1.heap.size (.slice wa rs.length wc) rs) := WO15.out.onl on16 (fun g hg e => by have h1 := (World.ownsRow.lt XO15.out g e).1; have h2 := LW.out g hg; omega)
  have YO16 : Hid (Own .u8 5 w16 w7.heap.size (.slice ya xs.length yc) xs) := KT.own kt16 YO15.out
  have GB16 : Hid (B4T w16 w9.heap.size (.slice ga rs.length gc) (.int .i64 zx) (.int .i64 cn) (.int .i64 en)) := kt16.box GB15.out (by decide)
  have GO16 : Hid (OwnN 84 w16 w8.heap.size (.slice ga rs.length gc) rs) := GO15.out.onl on16 (fun g hg e => by have h1 := (World.ownsRow.lt GO15.out g hg).1; have h2 := LX.out g e; omega)
  clear bl16 kt16 on16 B15 XT15 WB15 WO15 XB15 XO15 YO15 GB15 GO15
  have hkk : ((1 + 7 * ns.length : Nat) : Int) ≤ 8388608 := by omega
  have hkk0 : (0 : Int) ≤ ((1 + 7 * ns.length : Nat) : Int) := by omega
  generalize ((1 + 7 * ns.length : Nat) : Int) = K1 at *
  go_wp2_with fail
  refine (markByteS_any _ _ _ xs K1 YO16.out hkk0 (by omega) (by omega)).mono ?_
  rintro e w17 ⟨rfl, -, g17⟩
  have s17 := g17.size
  have B17 : Hid (Below w.heap.size w w17) := B16.out.grown g17 (by omega) (fun j hj => by have := (YO16.out.lt j hj).1; omega)
  have XT17 : Hid (Boxed w17 w.heap.size 50 (.slice ao ns.length ca)) := (g17.block _ XT16.out.lt (fun e => by have h1 : w7.heap.size ≤ w.heap.size := (YO16.out.lt _ e.symm).1; omega)).trans XT16.out
  have WB17 : Hid (B4T w17 w4.heap.size (.slice wa rs.length wc) (.int .i64 zx) (.int .i64 cn) (.int .i64 en)) := (g17.block _ WB16.out.lt (fun e => by have h1 : w7.heap.size ≤ w4.heap.size := (YO16.out.lt _ e.symm).1; omega)).trans WB16.out
  have WO17 : Hid (OwnN 84 w17 w1.heap.size (.slice wa rs.length wc) rs) := WO16.out.onl ⟨g17.size, g17.block⟩ (fun g hg e => by have h1 := (YO16.out.lt g e).1; have h2 := LW.out g hg; omega)
  have GB17 : Hid (B4T w17 w9.heap.size (.slice ga rs.length gc) (.int .i64 zx) (.int .i64 cn) (.int .i64 en)) := (g17.block _ GB16.out.lt (fun e => by have h1 := LY.out _ e.symm; omega)).trans GB16.out
  have GO17 : Hid (OwnN 84 w17 w8.heap.size (.slice ga rs.length gc) rs) := GO16.out.onl ⟨g17.size, g17.block⟩ (fun g hg e => by have h1 := (World.ownsRow.lt GO16.out g hg).1; have h2 := LY.out g e; omega)
  clear g17 B16 XT16 WB16 WO16 YO16 GB16 GO16
  have hk2 : ¬ K1 + (xs.length : Int) < 0 := by omega
  have hk2d : decide (K1 + (xs.length : Int) < 0) = false := by simpa using hk2
  obtain ⟨d0, d1, d2, d3⟩ := WB17.out.cells
  obtain ⟨e0, e1, e2, e3⟩ := GB17.out.cells
  go_wp2_with fail
  clear d0 d1 d2 d3 e0 e1 e2 e3
  refine (eqRp_same _ _ _ zx cn en rs GO17.out.rd WO17.out.rd (by omega)).mono ?_
  rintro e w18 ⟨rfl, b18⟩
  have s18 := b18.size
  have B18 : Hid (Below w.heap.size w w18) := B17.out.trans (b18.mono B17.out.size)
  have XT18 : Hid (Boxed w18 w.heap.size 50 (.slice ao ns.length ca)) := boxed_below b18 XT17.out
  have WB18 : Hid (B4T w18 w4.heap.size (.slice wa rs.length wc) (.int .i64 zx) (.int .i64 cn) (.int .i64 en)) := WB17.out.below b18
  have WO18 : Hid (OwnN 84 w18 w1.heap.size (.slice wa rs.length wc) rs) := WO17.out.below b18
  have GB18 : Hid (B4T w18 w9.heap.size (.slice ga rs.length gc) (.int .i64 zx) (.int .i64 cn) (.int .i64 en)) := GB17.out.below b18
  have GO18 : Hid (OwnN 84 w18 w8.heap.size (.slice ga rs.length gc) rs) := GO17.out.below b18
  clear b18 B17 XT17 WB17 WO17 GB17 GO17
  obtain ⟨e0, e1, e2, e3⟩ := GB18.out.cells
  go_wp2_with fail
  clear e0 e1 e2 e3
  refine (markRp_any _ w8.heap.size 1 _ zx cn en rs GO18.out (by omega) (by omega) (by omega)).mono ?_
  rintro e w19 ⟨rfl, o19, bl19, kt19⟩
  have s19 := kt19.1
  have B19 : Hid (Below w.heap.size w w19) := B18.out.trans (bl19.mono (by omega))
  have XT19 : Hid (Boxed w19 w.heap.size 50 (.slice ao ns.length ca)) := kt19.box XT18.out (by decide)
  have WB19 : Hid (B4T w19 w4.heap.size (.slice wa rs.length wc) (.int .i64 zx) (.int .i64 cn) (.int .i64 en)) := kt19.box WB18.out (by decide)
  have WO19 : Hid (OwnN 84 w19 w1.heap.size (.slice wa rs.length wc) rs) := WO18.out.belowB9 bl19 (fun g hg => by have := LW.out g hg; omega)
  have GB19 : Hid (B4T w19 w9.heap.size (.slice ga rs.length gc) (.int .i64 zx) (.int .i64 cn) (.int .i64 en)) := kt19.box GB18.out (by decide)
  have M19 : Hid (RdN w19 (.slice ga rs.length gc) (mkNs 1 rs.length)) := o19.rd
  clear o19 bl19 kt19 B18 XT18 WB18 WO18 GB18 GO18
  obtain ⟨e0, e1, e2, e3⟩ := GB19.out.cells
  go_wp2_with fail
  clear e0 e1 e2 e3
  refine (heldRp_any _ 1 rs.length ga rs.length gc zx cn en M19.out (by omega) (by omega)).mono ?_
  rintro e w20 ⟨rfl, b20⟩
  clear M19
  have s20 := b20.size
  have B20 : Hid (Below w.heap.size w w20) := B19.out.trans (b20.mono B19.out.size)
  have XT20 : Hid (Boxed w20 w.heap.size 50 (.slice ao ns.length ca)) := boxed_below b20 XT19.out
  have WB20 : Hid (B4T w20 w4.heap.size (.slice wa rs.length wc) (.int .i64 zx) (.int .i64 cn) (.int .i64 en)) := WB19.out.below b20
  have WO20 : Hid (OwnN 84 w20 w1.heap.size (.slice wa rs.length wc) rs) := WO19.out.below b20
  clear b20 B19 XT19 WB19 WO19
  have hq0 : ¬ ((1 + 7 * rs.length : Nat) : Int) < 0 := by omega
  have c0 := XT20.out.cell
  go_wp2_with fail
  clear c0
  refine (toTree_any _ _ ns (HR.out.below B20.out) hn).mono ?_
  rintro e w21 ⟨ra, rc, rfl, o21, b21⟩
  have T21 : Hid (RdN w21 (.slice ra ns.length rc) ns) := o21.rd
  clear o21
  have s21 := b21.size
  have B21 : Hid (Below w.heap.size w w21) := B20.out.trans (b21.mono B20.out.size)
  have WB21 : Hid (B4T w21 w4.heap.size (.slice wa rs.length wc) (.int .i64 zx) (.int .i64 cn) (.int .i64 en)) := WB20.out.below b21
  have WO21 : Hid (OwnN 84 w21 w1.heap.size (.slice wa rs.length wc) rs) := WO20.out.below b21
  clear b21 B20 WB20 WO20
  go_wp2_with fail
  refine (toByteS_any _ _ xs (HA.out.below B21.out) (by omega)).mono ?_
  rintro e w22 ⟨v22, rfl, o22, b22⟩
  obtain ⟨va9, vc9, rfl⟩ := Own.slice o22
  have T22 : Hid (RdN w22 (.slice ra ns.length rc) ns) := T21.out.below b22
  have U22 : Hid (Own .u8 5 w22 w21.heap.size (.slice va9 xs.length vc9) xs) := o22
  clear o22 T21
  have s22 := b22.size
  have B22 : Hid (Below w.heap.size w w22) := B21.out.trans (b22.mono B21.out.size)
  have WB22 : Hid (B4T w22 w4.heap.size (.slice wa rs.length wc) (.int .i64 zx) (.int .i64 cn) (.int .i64 en)) := WB21.out.below b22
  have WO22 : Hid (OwnN 84 w22 w1.heap.size (.slice wa rs.length wc) rs) := WO21.out.below b22
  clear b22 B21 WB21 WO21
  go_wp2_with fail
  refine (HI.out _ _ _ _ _ _ T22.out U22.out).mono ?_
  rintro e w23 ⟨ha, hc, rfl, o23, b23⟩
  have HO23 : Hid (OwnN 84 w23 w22.heap.size (.slice ha rs.length hc) rs) := o23
  clear o23 T22 U22
  have s23 := b23.size
  have B23 : Hid (Below w.heap.size w w23) := B22.out.trans (b23.mono B22.out.size)
  have WB23 : Hid (B4T w23 w4.heap.size (.slice wa rs.length wc) (.int .i64 zx) (.int .i64 cn) (.int .i64 en)) := WB22.out.below b23
  have WO23 : Hid (OwnN 84 w23 w1.heap.size (.slice wa rs.length wc) rs) := WO22.out.below b23
  clear b23 B22 WB22 WO22
  have bA : Hid (Below w23.heap.size w23 (w23.alloc (.cells #[.slice ha rs.length hc, .int .i64 zx, .int .i64 cn, .int .i64 en] 53))) := (Below.refl _ _).alloc (Nat.le_refl _) _
  obtain ⟨d0, d1, d2, d3⟩ := (WB23.out.below bA.out).cells
  go_wp2_with fail
  generalize w23.alloc (.cells #[.slice ha rs.length hc, .int .i64 zx, .int .i64 cn, .int .i64 en] 53) = w24 at *
  refine (eqRp_same _ _ _ zx cn en rs (HO23.out.below bA.out).rd (WO23.out.below bA.out).rd (by omega)).mono ?_
  rintro e w25 ⟨rfl, b25⟩
  have B25 : Hid (Below w.heap.size w w25) := (B23.out.trans (bA.out.mono B23.out.size)).trans (b25.mono (Nat.le_trans B23.out.size bA.out.size))
  clear b25
  go_wp2
  go_ret
  exact ⟨rfl, B25.out⟩

end Go.Proofs.YtmgolinleiahpaaDoor

namespace Go.Proofs.YtmgolinleiahpaaDoor
open Go.ChangeShapes Go.WideShapes Go.ChangeAt Go.RowKit

theorem cells_T : Tryd.prog.cellsOf 50 = 1 := by kernel_rfl
theorem cells_N : Tryd.prog.cellsOf 154 = 7 := by kernel_rfl
theorem cells_I : Tryd.prog.cellsOf 2 = 1 := by kernel_rfl
theorem cells_St : Tryd.prog.cellsOf 9 = 1 := by kernel_rfl
theorem cells_Ns : Tryd.prog.cellsOf 48 = 1 := by kernel_rfl
theorem addr_none (b o i : Nat) : (⟨b, o, none⟩ : Addr).add i = ⟨b, o + i, none⟩ := Addr.add_lit ..

instance : Inhabited Nd := ⟨nd0⟩

section
variable {H : Type} {enc : TypeId × Value → H} {W : World} {base : Nat} {held : Bool}

set_option maxRecDepth 100000 in
theorem open_node_cells {m : Nat} {cs : List Value} {y : DataW H × List MemPlace} (h : DataW.trod enc Tryd.prog W base (fun _ => true) held m 154 cs = some y) :
    ∃ n : Nd, cs = ndL n ∧ n.path.size ≤ maxLen ∧ n.data.size ≤ maxLen := by
  obtain ⟨xs, k, -, -, hl, hlen, hfs⟩ := DataW.trod_struct Tryd.underlying154 h
  rw [cells_N] at hl
  match xs, hlen with
  | [y0, y1, y2, y3, y4, y5, y6], _ =>
    match cs, hl with
    | [c0, c1, c2, c3, c4, c5, c6], _ =>
      have h0 : DataW.trod enc Tryd.prog W base (fun _ => true) held k 9 [c0] = some y0 := by
        have := hfs 0 _ rfl
        simpa [cells_I, cells_St] using this
      have h1 : DataW.trod enc Tryd.prog W base (fun _ => true) held k 9 [c1] = some y1 := by
        have := hfs 1 _ rfl
        simpa [cells_I, cells_St] using this
      have h2 : DataW.trod enc Tryd.prog W base (fun _ => true) held k 2 [c2] = some y2 := by
        have := hfs 2 _ rfl
        simpa [cells_I, cells_St] using this
      have h3 : DataW.trod enc Tryd.prog W base (fun _ => true) held k 2 [c3] = some y3 := by
        have := hfs 3 _ rfl
        simpa [cells_I, cells_St] using this
      have h4 : DataW.trod enc Tryd.prog W base (fun _ => true) held k 2 [c4] = some y4 := by
        have := hfs 4 _ rfl
        simpa [cells_I, cells_St] using this
      have h5 : DataW.trod enc Tryd.prog W base (fun _ => true) held k 2 [c5] = some y5 := by
        have := hfs 5 _ rfl
        simpa [cells_I, cells_St] using this
      have h6 : DataW.trod enc Tryd.prog W base (fun _ => true) held k 2 [c6] = some y6 := by
        have := hfs 6 _ rfl
        simpa [cells_I, cells_St] using this
      obtain ⟨p, e0, -, l0⟩ := DataW.trod_string Tryd.underlying9 h0
      obtain ⟨q, e1, -, l1⟩ := DataW.trod_string Tryd.underlying9 h1
      obtain ⟨a2, e2, -, -⟩ := DataW.trod_int Tryd.underlying2 h2
      obtain ⟨a3, e3, -, -⟩ := DataW.trod_int Tryd.underlying2 h3
      obtain ⟨a4, e4, -, -⟩ := DataW.trod_int Tryd.underlying2 h4
      obtain ⟨a5, e5, -, -⟩ := DataW.trod_int Tryd.underlying2 h5
      obtain ⟨a6, e6, -, -⟩ := DataW.trod_int Tryd.underlying2 h6
      simp only [List.cons.injEq, and_true] at e0 e1 e2 e3 e4 e5 e6
      subst e0 e1 e2 e3 e4 e5 e6
      exact ⟨⟨p, q, a2, a3, a4, a5, a6⟩, rfl, l0, l1⟩

theorem nAt_mk {n : Nat} (Z : Nat → Nd) (i : Nat) (h : i < n) : nAt ((List.range n).map Z) i = Z i := by unfold nAt; simp [List.getD, h]
theorem nAt_out {ns : List Nd} {i : Nat} (h : ns.length ≤ i) : nAt ns i = nd0 := by unfold nAt; rw [List.getD, List.getElem?_eq_none h]; rfl

set_option maxRecDepth 100000 in
theorem open_nodes_cell {m : Nat} {c : Value} {y : DataW H × List MemPlace} (h : DataW.trod enc Tryd.prog W base (fun _ => true) held m 48 [c] = some y) : ∃ ns, InT W c ns := by
  rcases Deep.open_slice Tryd.underlying48 h with ⟨hcs, _⟩ | ⟨a, len, cap, m, q, D, Pl, hcs, hb, hl, hm, hme, _, hall⟩
  · simp at hcs
    subst hcs
    exact ⟨[], ⟨none, 0, rfl, Nat.le_refl _, Nat.zero_le _, .inl rfl⟩, fun i => ⟨Nat.zero_le _, Nat.zero_le _⟩⟩
  · simp at hcs
    subst hcs
    rw [cells_N] at hall
    simp only [if_true] at hme
    subst hme
    by_cases h0 : len = 0
    · subst h0
      exact ⟨[], ⟨some a, m, rfl, Nat.zero_le _, hm, .inl rfl⟩, fun i => ⟨Nat.zero_le _, Nat.zero_le _⟩⟩
    have hex : ∀ i, i < len → ∃ n : Nd, (∀ j, j < 7 → W.cell? ((a.add (i * 7)).add j) = (ndL n)[j]?) ∧ n.path.size ≤ maxLen ∧ n.data.size ≤ maxLen := by
      intro i hi
      obtain ⟨cs', hc, ht⟩ := hall i (by omega)
      obtain ⟨n, rfl, l0, l1⟩ := open_node_cells ht
      have hs := (World.cells?_some hc).2
      refine ⟨n, fun j hj => ?_, l0, l1⟩
      rw [hs.2 j (by omega)]
    obtain ⟨Z, hZ⟩ := Deep.choose_lt (α := Nd) hex
    obtain ⟨b, off, spot⟩ := a
    have hspot : spot = none := by
      have := World.cell?_spot ((hZ 0 (by omega)).1 0 (by omega))
      simpa [Addr.add] using this
    subst hspot
    have hblt : b < W.heap.size := by
      have := World.block_lt_of_cell? W _ ((hZ 0 (by omega)).1 0 (by omega))
      simpa [Addr.add] using this
    refine ⟨(List.range len).map Z, ⟨some ⟨b, off, none⟩, m, by simp, by simpa using hl, hm, .inr ⟨b, off, rfl, hblt, fun i hi => ?_⟩⟩, fun i => ?_⟩
    · have hi' : i < len := by simpa using hi
      rw [nAt_mk Z i hi']
      have c := (hZ i hi').1
      have c' : ∀ j, j < 7 → W.cell? ⟨b, off + i * 7 + j, none⟩ = (ndL (Z i))[j]? := fun j hj => by have := c j hj; rwa [addr_none, addr_none] at this
      exact ⟨c' 0 (by omega), c' 1 (by omega), c' 2 (by omega), c' 3 (by omega), c' 4 (by omega), c' 5 (by omega), c' 6 (by omega)⟩
    · by_cases hi : i < len
      · rw [nAt_mk Z i hi]; exact (hZ i hi).2
      · rw [nAt_out (by simp; omega)]; exact ⟨Nat.zero_le _, Nat.zero_le _⟩

theorem array1 {α : Type} {cs : Array α} (h : cs.size = 1) : ∃ c0, cs = #[c0] := by
  obtain ⟨l⟩ := cs
  match l, h with
  | [c0], _ => exact ⟨c0, rfl⟩

set_option maxRecDepth 100000 in
/-- A tree that came in. -/
theorem open_tree {b0 : Nat} {v : Value} {d : DataW H} {p : List MemPlace} (hv : Value.okWide Tryd.prog W .any b0 50 v) (h : DataW.Trod enc Tryd.prog W base (fun _ => true) held 50 v d p) :
    ∃ c ns, v = .agg #[c] ∧ InT W c ns := by
  obtain ⟨cs, rfl, hsz⟩ := okWide_struct Tryd.underlying50 hv
  obtain ⟨c0, rfl⟩ := array1 (hsz.trans cells_T)
  obtain ⟨fuel, hf⟩ := h
  obtain ⟨xs, n, -, -, hl, hlen, hfs⟩ := DataW.trod_struct Tryd.underlying50 hf
  match xs, hlen with
  | [y0], _ =>
    have h0 : DataW.trod enc Tryd.prog W base (fun _ => true) held n 48 [c0] = some y0 := by
      have := hfs 0 _ rfl
      simpa [cells_Ns, Value.cells] using this
    obtain ⟨ns, hn⟩ := open_nodes_cell h0
    exact ⟨c0, ns, rfl, hn⟩
end

end Go.Proofs.YtmgolinleiahpaaDoor

namespace Go.Proofs.YtmgolinleiahpaaDoor
open Go.ChangeShapes Go.WideShapes Go.ChangeAt Go.RowKit

theorem addr_add_none (b o i : Nat) : (⟨b, o, none⟩ : Addr).add i = ⟨b, o + i, none⟩ := Addr.add_lit ..

theorem rd_of {k : IntKind} {w : World} {x : Addr} {len cap : Nat} {zs : List Int} (hl : len ≤ cap) (hm : cap ≤ maxLen) (hz : zs.length = cap)
    (hcell : ∀ i, i < zs.length → w.cell? (x.add i) = some (.int k (zs.getD i 0))) : Rd k w (.slice (some x) len cap) (zs.take len) := by
  have hlen : (zs.take len).length = len := by simp; omega
  refine ⟨some x, cap, by rw [hlen], by rw [hlen]; exact hl, hm, ?_⟩
  by_cases h0 : len = 0
  · subst h0; exact .inl rfl
  · right
    obtain ⟨b, off, spot⟩ := x
    have hc := hcell 0 (by omega)
    have hspot : spot = none := by simpa [Addr.add] using World.cell?_spot hc
    subst hspot
    refine ⟨b, off, rfl, ?_, fun i hi => ?_⟩
    · have := World.block_lt_of_cell? w _ hc
      simpa [Addr.add] using this
    · rw [hlen] at hi
      have := hcell i (by omega)
      rw [addr_add_none] at this
      rw [this]
      simp [List.getD, List.getElem?_take_of_lt hi]

theorem byt_of {zs : List Int} {len : Nat} (h : ∀ n ∈ zs, (Lit.int .u8 n).wf = true) : Byt (zs.take len) := by
  intro x hx
  have := h x (List.mem_of_mem_take hx)
  have b := bounds_u8 this
  omega

/-- A []byte that came in. -/
theorem open_bytes {H : Type} {enc : TypeId × Value → H} {W : World} {a0 : Option Addr} {len0 cap0 : Nat} {d0 : DataW H} {p0 : List MemPlace} {base : Nat} {b : Bool}
    (h0 : DataW.Trod enc Tryd.prog W base (fun _ => true) b 24 (.slice a0 len0 cap0) d0 p0) : ∃ xs, Rd .u8 W (.slice a0 len0 cap0) xs ∧ Byt xs := by
  obtain ⟨fuel, hf⟩ := h0
  rcases open_ints Tryd.underlying24 Tryd.underlying5 (by kernel_rfl) hf with ⟨hcs, _⟩ | ⟨x, l, c, zs, hcs, _, hl, hm, hz, _, hcell, hwz⟩
  · simp [Value.cells] at hcs
    obtain ⟨rfl, rfl, rfl⟩ := hcs
    exact ⟨[], ⟨none, 0, rfl, Nat.le_refl _, Nat.zero_le _, .inl rfl⟩, fun x hx => by cases hx⟩
  · simp [Value.cells] at hcs
    obtain ⟨rfl, rfl, rfl⟩ := hcs
    exact ⟨zs.take len0, rd_of hl hm (by simpa using hz) hcell, byt_of hwz⟩

end Go.Proofs.YtmgolinleiahpaaDoor

namespace Go.Proofs.YtmgolinleiahpaaDoor
open Go.ChangeShapes Go.WideShapes Go.ChangeAt Go.RowKit

theorem knob : ownKnob Tryd.prog.godebug = none := by kernel_rfl
theorem laidOut : laidOutB Tryd.prog = true := by kernel_rfl

noncomputable def gFirst : Nat := (Tryd.prog.globalNamed "unicode/utf8.first").getD 0
noncomputable def gAccept : Nat := (Tryd.prog.globalNamed "unicode/utf8.acceptRanges").getD 0

/-- The witness: the two tables as they are laid. -/
noncomputable def laidWorld (os : Os) : World :=
  let w0 := World.holding Tryd.prog os ⟨#[], #[], []⟩
  let put (h : Array Obj) (g : Nat) (cs : Array Value) : Array Obj := h.modify g fun
    | .cells _ t frozen => .cells cs t frozen
    | o => o
  let h1 := put w0.heap gFirst (Go.Pinned.utf8FirstZ.map fun (z : Nat) => Value.int .u8 (z : Int)).toArray
  let h2 := put h1 gAccept ((([128, 191, 160, 191, 128, 159, 144, 191, 128, 143] : List Int) ++ List.replicate 22 0).map fun (z : Int) => Value.int .u8 z).toArray
  { w0 with heap := h2 }
theorem laid_met (os : Os) (args : Array Value) : laidMet Tryd.prog [("unicode/utf8.acceptRanges", Rows.laid_unicode_utf8_acceptRanges), ("unicode/utf8.first", Rows.laid_unicode_utf8_first)] ((laidWorld os).forCall (fun _ _ => 0) ⟨#[], args, []⟩).memory :=
  (LaidIn.of_run (l := [("unicode/utf8.acceptRanges", Rows.laid_unicode_utf8_acceptRanges), ("unicode/utf8.first", Rows.laid_unicode_utf8_first)]) [gAccept, gFirst] 8 (by kernel_rfl) (by kernel_rfl) (by kernel_rfl) (by kernel_rfl)).met

end Go.Proofs.YtmgolinleiahpaaDoor

