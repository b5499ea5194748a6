import Derived.Test.YtmjliomhhgahkaaGreatDoorJ01
import Derived.Test.YtmjliomhhgahkaaGreatDoorJ03
import Derived.Deep.RegionWith
namespace Go.Proofs.YtmjliomhhgahkaaGreatDoor
open Go.RowKit

def digsF : Nat → Nat → List UInt8 → List UInt8
  | 0, _, acc => acc
  | f + 1, k, acc => if k = 0 then acc else digsF f (k / 10) (UInt8.ofNat (48 + k % 10) :: acc)
theorem digsF_more : ∀ (f g k : Nat) (acc : List UInt8), k ≤ f → k ≤ g → digsF f k acc = digsF g k acc
  | 0, g, k, acc, h1, h2 => by
    obtain rfl : k = 0 := by omega
    cases g <;> simp [digsF]
  | f + 1, 0, k, acc, h1, h2 => by
    obtain rfl : k = 0 := by omega
    simp [digsF]
  | f + 1, g + 1, k, acc, h1, h2 => by
    unfold digsF
    by_cases h : k = 0
    · rw [if_pos h, if_pos h]
    · rw [if_neg h, if_neg h]
      exact digsF_more f g (k / 10) _ (by omega) (by omega)
def digs (k : Nat) (acc : List UInt8) : List UInt8 := digsF k k acc
theorem digs_zero (acc : List UInt8) : digs 0 acc = acc := rfl
theorem digs_pos {k : Nat} (h : 0 < k) (acc : List UInt8) : digs k acc = digs (k / 10) (UInt8.ofNat (48 + k % 10) :: acc) := by
  unfold digs
  obtain ⟨j, rfl⟩ : ∃ j, k = j + 1 := ⟨k - 1, by omega⟩
  conv => lhs; unfold digsF
  rw [if_neg (by omega)]
  exact digsF_more _ _ _ _ (by omega) (Nat.le_refl _)
def mtx (k : Nat) : ByteArray := if k = 0 then ⟨#[109, 48]⟩ else ⟨(109 :: digs k []).toArray⟩

theorem ba_app (a b : List UInt8) : (⟨a.toArray⟩ ++ ⟨b.toArray⟩ : ByteArray) = ⟨(a ++ b).toArray⟩ := by
  apply ByteArray.ext
  simp [ByteArray.data_append]

set_option maxHeartbeats 1000000 in
set_option maxRecDepth 100000 in
theorem markText_any (w : World) (k : Nat) (h : k ≤ 1099511627776) :
    Calls Tryz.prog 58 #[.int .i64 k] w fun e w' => e = .returned (.string (mtx k)) ∧ Below w.heap.size w w' := by
  go_enter Tryz.func58, Tryz.ntmps58
  by_cases h0 : k = 0
  · subst h0
    go_wp2
    go_ret
    exact ⟨rfl, Below.refl _ _⟩
  · have hI : ¬ (k : Int) ≤ 0 := by omega
    go_wp2
    go_loopw [0, 3] (fun vk vo wr => ∃ (j d : Nat) (acc : List UInt8), vk = .int .i64 j ∧ vo = .string ⟨acc.toArray⟩ ∧ j < 10 ^ d ∧ acc.length + d ≤ 13 ∧ j ≤ 1099511627776 ∧ Hid (digs j acc = digs k []) ∧ Hid (Below w.heap.size w wr)) (fun i _ _ => (intOf i).toNat)
    case atStart => exact ⟨k, 13, [], rfl, rfl, by omega, by simp, h, rfl, Below.refl _ _⟩
    case round =>
      obtain ⟨j, d, acc, rfl, rfl, hjd, had, hj, HD, HB⟩ := hrel
      by_cases hp : 0 < j
      · have hpI : (0 : Int) < (j : Int) := by omega
        obtain ⟨u, hu⟩ : ∃ u, u = UInt8.ofNat (48 + j % 10) := ⟨_, rfl⟩
        have HD2 : Hid (digs (j / 10) (u :: acc) = digs k []) := by show _ = _; rw [hu, ← digs_pos hp]; exact HD.out
        have hcv : (convert 22 9 (.slice (some ⟨wr.heap.size, 0, none⟩) 1 1)).run Tryz.prog (wr.alloc (.cells #[.int .u8 (48 + (j : Int) % 10)] 5)) = .ok (.string ⟨[u].toArray⟩) (wr.alloc (.cells #[.int .u8 (48 + (j : Int) % 10)] 5)) := by
          have O1 : Own .u8 5 (wr.alloc (.cells #[.int .u8 (48 + (j : Int) % 10)] 5)) wr.heap.size (.slice (some ⟨wr.heap.size, 0, none⟩) 1 1) [48 + (j : Int) % 10] := World.ownsRow_lit wr #[.int .u8 (48 + (j : Int) % 10)] 1 (Nat.le_refl _) (by unfold maxLen; omega) rfl
          have := conv_any O1.rd
          rw [this]
          have e : (48 + (j : Int) % 10).toNat = 48 + j % 10 := by omega
          rw [hu]
          simp only [strOfNums, List.map_cons, List.map_nil, e]
        clear hu
        obtain ⟨d', rfl⟩ : ∃ d', d = d' + 1 := by
          cases d with
          | zero => simp at hjd; omega
          | succ d' => exact ⟨d', rfl⟩
        rw [Nat.pow_succ] at hjd
        have HJ : Hid (j / 10 < 10 ^ d') := by show _ < _; omega
        clear hjd
        go_wp2
        refine ⟨⟨j / 10, d', u :: acc, by rw [show ((j / 10 : Nat) : Int) = (j : Int) / 10 by omega], congrArg Value.string (ba_app [u] acc), HJ.out, by simp; omega, by omega, HD2, HB.out.alloc HB.out.size _⟩, ?_⟩
        simp [intOf]
        omega
      · have hj0 : j = 0 := by omega
        subst hj0
        clear hI
        go_wp2
        go_ret
        refine ⟨?_, HB.out⟩
        have e := HD.out
        rw [digs_zero] at e
        rw [e, mtx, if_neg h0]
        exact congrArg (fun x => Ending.returned (.string x)) (ba_app [109] (digs k []))

end Go.Proofs.YtmjliomhhgahkaaGreatDoor
namespace Go.Proofs.YtmjliomhhgahkaaGreatDoor
open Go.RowKit Go.Shelf

theorem rowcell {w : World} {lo g n cap z : Nat} {e : TypeId} {us : List Value} (h : w.ownsRow lo e z (.slice (some ⟨g, 0, none⟩) n cap) n us) (i : Nat) (hi : i < n * z) : ∃ u, w.cell? ⟨g, i, none⟩ = some u ∧ w.frozen? ⟨g, i, none⟩ = false := by
  have hl : i < us.length := by rw [h.1]; exact hi
  have h1 := World.ownsRow.cells h (g := g) rfl i us[i] (List.getElem?_eq_getElem hl)
  rw [Addr.add_lit, Nat.zero_add] at h1
  exact ⟨_, h1, World.ownsRow.frozenAt h i⟩
theorem row_keep {w w' : World} {lo n z : Nat} {e : TypeId} {v : Value} {us : List Value} (ho : w.ownsRow lo e z v n us) (hb : Below w.heap.size w w') : w'.ownsRow lo e z v n us := by
  refine ⟨ho.1, ?_⟩
  rcases ho.2 with hn | ⟨g, cap, cur, rfl, hbg, hgg, rest⟩
  · exact .inl hn
  · exact .inr ⟨g, cap, cur, rfl, hbg, by rw [hb.block g (Array.getElem?_eq_some_iff.1 hgg).1]; exact hgg, rest⟩
end Go.Proofs.YtmjliomhhgahkaaGreatDoor
namespace Go.Proofs.YtmjliomhhgahkaaGreatDoor
open Go.RowKit








set_option maxHeartbeats 1000000 in
set_option maxRecDepth 100000 in
theorem eqOp_same (w : World) (n : Op5) :
    Calls Tryz.prog 57 #[.agg #[.int .i64 n.kind, .string n.path, .string n.data, .int .i64 n.ver, .bool n.seq], .agg #[.int .i64 n.kind, .string n.path, .string n.data, .int .i64 n.ver, .bool n.seq]] w fun e w' => e = .returned (.bool true) ∧ Below w.heap.size w w' := by
  have HB : Hid (∀ o1 o2, Below w.heap.size w ((w.alloc o1).alloc o2)) := fun o1 o2 => ((Below.refl _ _).alloc (Nat.le_refl _) _).alloc (by simp) _
  go_enter Tryz.func57, Tryz.ntmps57
  go_wp2
  go_ret
  exact ⟨rfl, HB.out _ _⟩

set_option maxHeartbeats 1000000 in
set_option maxRecDepth 100000 in
theorem eqOpS_row (w : World) (b o b2 o2 n ca cb : Nat) (ns : List Op5) (hn : n ≤ 1048576) (hb : b < w.heap.size) (hb2 : b2 < w.heap.size)
    (hc : ∀ i, i < n → CellsO w b (o + i * 5) (oAt ns i)) (hc2 : ∀ i, i < n → CellsO w b2 (o2 + i * 5) (oAt ns i)) :
    Calls Tryz.prog 43 #[.slice (some ⟨b, o, none⟩) n ca, .slice (some ⟨b2, o2, none⟩) n cb] w fun e w' => e = .returned (.bool true) ∧ Below w.heap.size w w' := by
  have HC := hd9 hc
  have HC2 := hd9 hc2
  clear hc hc2
  have h1 : ((n : Int) != (n : Int)) = false := by simp
  go_enter Tryz.func43, Tryz.ntmps43
  go_wp2
  go_loopw [5] (fun i wr => ∃ k : Nat, k ≤ n ∧ i = .int .i64 k ∧ Hid (Below w.heap.size w wr)) (fun i _ => n - (intOf i).toNat)
  case atStart => exact ⟨0, Nat.zero_le _, rfl, Below.refl _ _⟩
  case round =>
    obtain ⟨k, hk, rfl, HG⟩ := hrel
    by_cases hlt : k < n
    · obtain ⟨c0, c1, c2, c3, c4⟩ := (HC.out k hlt).below HG.out hb
      obtain ⟨d0, d1, d2, d3, d4⟩ := (HC2.out k hlt).below HG.out hb2
      have hltI : (k : Int) < (n : Int) := by omega
      have HE : Hid (∀ q, Calls Tryz.prog 57 #[.agg #[.int .i64 (oAt ns k).kind, .string (oAt ns k).path, .string (oAt ns k).data, .int .i64 (oAt ns k).ver, .bool (oAt ns k).seq], .agg #[.int .i64 (oAt ns k).kind, .string (oAt ns k).path, .string (oAt ns k).data, .int .i64 (oAt ns k).ver, .bool (oAt ns k).seq]] (wr.drewN q) fun e w' => e = .returned (.bool true) ∧ Below w.heap.size w w') := by
        intro q
        refine (eqOp_same _ (oAt ns k)).mono ?_
        rintro e w' ⟨rfl, b'⟩
        exact ⟨rfl, (HG.out.trans ((below_drewN' wr q).mono HG.out.size)).trans (b'.mono HG.out.size)⟩
      go_wp2
      go_region_with (go_at_call 57; refine (HE.out 1).mono ?_; rintro e w' ⟨rfl, b'⟩)
      all_goals
        have HB := hd9 b'
        clear b'
        go_wp2
        go_roundw
        case rel => exact ⟨k + 1, by omega, by go_num, HB⟩
        case measure => simp [intOf]; omega
    · go_wp2
      go_ret
      exact ⟨rfl, HG.out⟩

set_option maxHeartbeats 400000 in
theorem eqOpS_nil (w : World) (ao bo : Option Addr) (ca cb : Nat) :
    Calls Tryz.prog 43 #[.slice ao 0 ca, .slice bo 0 cb] w fun e w' => e = .returned (.bool true) ∧ w' = w := by
  go_enter Tryz.func43, Tryz.ntmps43
  go_wp2
  go_rounds 1
  go_ret
  exact ⟨rfl, rfl⟩

theorem eqOpS_same (w : World) (va vb : Value) (ns : List Op5) (ha : RdO w va ns) (hb : RdO w vb ns) (hn : ns.length ≤ 1048576) :
    Calls Tryz.prog 43 #[va, vb] w fun e w' => e = .returned (.bool true) ∧ Below w.heap.size w w' := by
  obtain ⟨ao, ca, rfl, h1, h2, h3⟩ := ha
  obtain ⟨bo, cb, rfl, k1, k2, k3⟩ := hb
  rcases h3 with rfl | ⟨b, o, rfl, hb, hc⟩
  · refine (eqOpS_nil w ao bo ca cb).mono ?_
    rintro e w' ⟨rfl, rfl⟩
    exact ⟨rfl, Below.refl _ _⟩
  · rcases k3 with rfl | ⟨b2, o2, rfl, hb2, hc2⟩
    · refine (eqOpS_nil w _ bo ca cb).mono ?_
      rintro e w' ⟨rfl, rfl⟩
      exact ⟨rfl, Below.refl _ _⟩
    · exact eqOpS_row w b o b2 o2 ns.length ca cb ns hn hb hb2 hc hc2

set_option maxHeartbeats 400000 in
theorem eqRequest_same (w : World) (va vb : Value) (ns : List Op5) (ha : RdO w va ns) (hb : RdO w vb ns) (hn : ns.length ≤ 1048576) :
    Calls Tryz.prog 21 #[.agg #[va], .agg #[vb]] w fun e w' => e = .returned (.bool true) ∧ Below w.heap.size w w' := by
  have B0 : Hid (Below w.heap.size w ((w.alloc (.cells #[va] 25)).alloc (.cells #[vb] 25))) := ((Below.refl _ _).alloc (Nat.le_refl _) _).alloc (by simp) _
  have RA := hd9 (ha.below B0.out)
  have RB := hd9 (hb.below B0.out)
  clear ha hb
  go_enter Tryz.func21, Tryz.ntmps21
  go_wp2_with fail
  refine (eqOpS_same _ _ _ ns RA.out RB.out hn).mono ?_
  rintro e w1 ⟨rfl, b1⟩
  have B1 := hd9 (B0.out.trans (b1.mono (by simp; omega)))
  clear b1
  go_wp2
  go_ret
  exact ⟨rfl, B1.out⟩

end Go.Proofs.YtmjliomhhgahkaaGreatDoor
namespace Go.Proofs.YtmjliomhhgahkaaGreatDoor
open Go.RowKit Go.Shelf

set_option maxHeartbeats 400000 in
theorem markOpS_nil (w : World) (ao : Option Addr) (cap k : Nat) : Calls Tryz.prog 44 #[.slice ao 0 cap, .int .i64 k] w fun e w' => e = .returned (.int .i64 k) ∧ w' = w := by
  go_enter Tryz.func44, Tryz.ntmps44
  go_wp2
  go_rounds 1
  go_ret
  exact ⟨rfl, rfl⟩


/-- A marked operation. -/
def mkO (K : Nat) : Op5 := ⟨(K : Int), mtx (K + 1), mtx (K + 2), (K : Int) + 1 + 1 + 1, ((K : Int) + 1 + 1 + 1 + 1) % 3 == 0⟩
def mkOs (k n : Nat) : List Op5 := (List.range n).map fun j => mkO (k + 5 * j)
theorem mkOs_len (k n : Nat) : (mkOs k n).length = n := by simp [mkOs]
theorem mkOs_at (k n j : Nat) (h : j < n) : oAt (mkOs k n) j = mkO (k + 5 * j) := by unfold oAt mkOs; simp [List.getD, h]
def mkMixO (k : Nat) (ns : List Op5) (j : Nat) : List Op5 := mkOs k j ++ ns.drop j
theorem mkMixO_len (k : Nat) (ns : List Op5) (j : Nat) (h : j ≤ ns.length) : (mkMixO k ns j).length = ns.length := by unfold mkMixO; rw [List.length_append, mkOs_len, List.length_drop]; omega
theorem mkMixO_set (k : Nat) (ns : List Op5) (j : Nat) (h : j < ns.length) : (mkMixO k ns j).set j (mkO (k + 5 * j)) = mkMixO k ns (j + 1) := by
  unfold mkMixO
  rw [List.set_append_right _ _ (by rw [mkOs_len]; exact Nat.le_refl _), mkOs_len, Nat.sub_self, List.drop_eq_getElem_cons h, List.set_cons_zero]
  unfold mkOs
  rw [List.range_succ, List.map_append, List.append_assoc]
  rfl
theorem mkMixO_all (k : Nat) (ns : List Op5) : mkMixO k ns ns.length = mkOs k ns.length := by unfold mkMixO; simp
/-- A row of operations on the way. -/
def RowO (w : World) (lo g n cap : Nat) (us : List Value) (w' : World) : Prop := w'.ownsRow lo 41 5 (.slice (some ⟨g, 0, none⟩) n cap) n us ∧ Below lo w w' ∧ KT 41 w w'
theorem RowO.set {w w' : World} {lo g n cap : Nat} {us : List Value} (h : RowO w lo g n cap us w') (i : Nat) (u : Value) : RowO w lo g n cap (us.set i u) (w'.setCell ⟨g, i, none⟩ u) := by
  obtain ⟨h1, h2, h3⟩ := h
  have hs := World.ownsRow.stored h1 i u
  exact ⟨hs.1, h2.setCell (World.ownsRow.lt h1 g rfl).1 _, h3.grown h1 hs.2⟩
theorem RowO.below {w w' w2 : World} {lo g n cap : Nat} {us : List Value} (h : RowO w lo g n cap us w') (hb : Below w'.heap.size w' w2) : RowO w lo g n cap us w2 := by
  obtain ⟨h1, h2, h3⟩ := h
  refine ⟨row_keep h1 hb, h2.trans (hb.mono ?_), h3.below hb⟩
  have := World.ownsRow.lt h1 g rfl
  omega
theorem RowO.cell {w w' : World} {lo g n cap : Nat} {us : List Value} (h : RowO w lo g n cap us w') (i : Nat) (hi : i < n * 5) : ∃ u, w'.cell? ⟨g, i, none⟩ = some u ∧ w'.frozen? ⟨g, i, none⟩ = false := rowcell h.1 i hi

set_option maxHeartbeats 2000000 in
set_option maxRecDepth 100000 in
theorem markOpL_row (w : World) (lo g n cap k : Nat) (ns : List Op5) (hp : ns.length = n) (ho : w.ownsRow lo 41 5 (.slice (some ⟨g, 0, none⟩) n cap) n (orow ns)) (hk : k ≤ 1048576) (hn : n ≤ 1048576) :
    Calls Tryz.prog 44 #[.slice (some ⟨g, 0, none⟩) n cap, .int .i64 k] w fun e w' => e = .returned (.int .i64 ((k + 5 * n : Nat) : Int)) ∧ RowO w lo g n cap (orow (mkOs k n)) w' := by
  have R0 : Hid (RowO w lo g n cap (orow (mkMixO k ns 0)) w) := ⟨by unfold mkMixO mkOs; simpa using ho, Below.refl _ _, KT.refl _ _⟩
  have HP : Hid (ns.length = n) := hp
  clear ho hp
  go_enter Tryz.func44, Tryz.ntmps44
  go_wp2
  go_loopw [1, 5] (fun vk vi wr => ∃ j K : Nat, j ≤ n ∧ K = k + 5 * j ∧ vi = .int .i64 j ∧ vk = .int .i64 K ∧ Hid (RowO w lo g n cap (orow (mkMixO k ns j)) wr)) (fun _ i _ => n - (intOf i).toNat)
  case atStart => exact ⟨0, k, Nat.zero_le _, by omega, rfl, rfl, R0⟩
  case round =>
    obtain ⟨j, K, hj, hK, rfl, rfl, HR⟩ := hrel
    have HKE : Hid (K = k + 5 * j) := hK
    by_cases hlt : j < n
    · have hltI : (j : Int) < (n : Int) := by omega
      have hK2 : K ≤ 10000000 := by omega
      have HS : Hid (set5 (orow (mkMixO k ns j)) (j * 5) (mkO K) = orow (mkMixO k ns (j + 1))) := by
        show _ = _
        rw [orow_set _ _ _ (by rw [mkMixO_len _ _ _ (by rw [HP.out]; omega), HP.out]; exact hlt), hK, mkMixO_set _ _ _ (by rw [HP.out]; exact hlt)]
      generalize orow (mkMixO k ns j) = us at *
      clear hK
      have hm1 : Hid (∀ W, Calls Tryz.prog 58 #[.int .i64 ((K : Int) + 1)] W fun e w' => e = .returned (.string (mtx (K + 1))) ∧ Below W.heap.size W w') := by
        intro W
        have hm := markText_any W (K + 1) (by omega)
        rw [show ((K + 1 : Nat) : Int) = (K : Int) + 1 by omega] at hm
        exact hm
      have hm2 : Hid (∀ W, Calls Tryz.prog 58 #[.int .i64 ((K : Int) + 1 + 1)] W fun e w' => e = .returned (.string (mtx (K + 2))) ∧ Below W.heap.size W w') := by
        intro W
        have hm := markText_any W (K + 2) (by omega)
        rw [show ((K + 2 : Nat) : Int) = (K : Int) + 1 + 1 by omega] at hm
        exact hm
      obtain ⟨x0, d0, f0⟩ := HR.out.cell (j * 5) (by omega)
      go_wp2_with fail
      refine (hm1.out _).mono ?_
      rintro e w1 ⟨rfl, b1⟩
      have R1 : Hid (RowO w lo g n cap (us.set (j * 5) (.int .i64 (K : Int))) w1) := (HR.out.set _ _).below b1
      clear b1 HR d0 f0 hm1
      obtain ⟨x1, d1, f1⟩ := R1.out.cell (j * 5 + 1) (by omega)
      go_wp2_with fail
      refine (hm2.out _).mono ?_
      rintro e w3 ⟨rfl, b3⟩
      have R3 : Hid (RowO w lo g n cap ((us.set (j * 5) (.int .i64 (K : Int))).set (j * 5 + 1) (.string (mtx (K + 1)))) w3) := (R1.out.set _ _).below b3
      clear b3 R1 d1 f1 hm2
      obtain ⟨x2, d2, f2⟩ := R3.out.cell (j * 5 + 2) (by omega)
      obtain ⟨x3, d3, f3⟩ := R3.out.cell (j * 5 + 3) (by omega)
      obtain ⟨x4, d4, f4⟩ := R3.out.cell (j * 5 + 4) (by omega)
      go_wp2
      refine ⟨⟨j + 1, K + 5, by omega, by have := HKE.out; omega, by go_num, by go_num, ?_⟩, by simp [intOf]; omega⟩
      show RowO _ _ _ _ _ _ _
      rw [← HS.out]
      exact (((R3.out.set _ _).set _ _).set _ _)
    · have hjn : j = n := by omega
      subst hjn
      subst hK
      have HF : Hid (RowO w lo g j cap (orow (mkOs k j)) wr) := by have := HR.out; rw [← HP.out, mkMixO_all, HP.out] at this; exact this
      go_wp2
      go_ret
      exact ⟨rfl, HF.out⟩

theorem markOpL_any (w : World) (lo k : Nat) (v : Value) (ns : List Op5) (h : OwnO 41 w lo v ns) (hk : k ≤ 1048576) (hn : ns.length ≤ 1048576) :
    Calls Tryz.prog 44 #[v, .int .i64 k] w fun e w' => e = .returned (.int .i64 ((k + 5 * ns.length : Nat) : Int)) ∧ OwnO 41 w' lo v (mkOs k ns.length) ∧ Below lo w w' ∧ KT 41 w w' := by
  have h0 := h
  rcases h.2 with ⟨rfl, h1⟩ | ⟨g, cap, cur, rfl, rest⟩
  · refine (markOpS_nil w none 0 k).mono ?_
    rintro e w' ⟨rfl, rfl⟩
    rw [h1]
    exact ⟨rfl, World.ownsRow_nil _ _ _ _, Below.refl _ _, KT.refl _ _⟩
  · refine (markOpL_row w lo g ns.length cap k ns rfl h0 hk hn).mono ?_
    rintro e w' ⟨rfl, h1, h2, h3⟩
    exact ⟨rfl, by unfold OwnO; rw [mkOs_len]; exact h1, h2, h3⟩

set_option maxHeartbeats 2000000 in
set_option maxRecDepth 100000 in
theorem heldOpS_row (w : World) (b o n cap k : Nat) (hb : b < w.heap.size) (hc : ∀ i, i < n → CellsO w b (o + i * 5) (oAt (mkOs k n) i)) (hk : k ≤ 1048576) (hn : n ≤ 1048576) :
    Calls Tryz.prog 45 #[.slice (some ⟨b, o, none⟩) n cap, .int .i64 k] w fun e w' => e = .returned (.int .i64 ((k + 5 * n : Nat) : Int)) ∧ Below w.heap.size w w' := by
  have HC : Hid (∀ i, i < n → CellsO w b (o + i * 5) (mkO (k + 5 * i))) := fun i hi => by have := hc i hi; rw [mkOs_at k n i hi] at this; exact this
  clear hc
  go_enter Tryz.func45, Tryz.ntmps45
  go_wp2
  go_loopw [1, 5] (fun vk vi wr => ∃ j K : Nat, j ≤ n ∧ K = k + 5 * j ∧ vi = .int .i64 j ∧ vk = .int .i64 K ∧ Hid (Below w.heap.size w wr)) (fun _ i _ => n - (intOf i).toNat)
  case atStart => exact ⟨0, k, Nat.zero_le _, by omega, rfl, rfl, Below.refl _ _⟩
  case round =>
    obtain ⟨j, K, hj, hK, rfl, rfl, HB⟩ := hrel
    have HKE : Hid (K = k + 5 * j) := hK
    by_cases hlt : j < n
    · have hltI : (j : Int) < (n : Int) := by omega
      have hK2 : K ≤ 10000000 := by omega
      have HCJ : Hid (CellsO w b (o + j * 5) (mkO K)) := by have := HC.out j hlt; rw [← hK] at this; exact this
      have hm0 : Hid (∀ W, Calls Tryz.prog 58 #[.int .i64 ((K : Int) + 1)] W fun e w' => e = .returned (.string (mtx (K + 1))) ∧ Below W.heap.size W w') := by
        intro W
        have hm := markText_any W (K + 1) (by omega)
        rw [show ((K + 1 : Nat) : Int) = (K : Int) + 1 by omega] at hm
        exact hm
      have hm1 : Hid (∀ W, Calls Tryz.prog 58 #[.int .i64 ((K : Int) + 1 + 1)] W fun e w' => e = .returned (.string (mtx (K + 2))) ∧ Below W.heap.size W w') := by
        intro W
        have hm := markText_any W (K + 2) (by omega)
        rw [show ((K + 2 : Nat) : Int) = (K : Int) + 1 + 1 by omega] at hm
        exact hm
      have hpp : ((mtx (K + 1)).toList == (mtx (K + 1)).toList) = true := by simp
      have hpp1 : ((mtx (K + 2)).toList == (mtx (K + 2)).toList) = true := by simp
      have q0 : wr.cell? ⟨b, o + j * 5, none⟩ = some (.int .i64 (K : Int)) := (HCJ.out.below HB.out hb).1
      clear hK
      go_wp2
      clear q0
      refine wp_region_held_drew (S := fun W => Hid (Below w.heap.size w W) ∧ W.cell? ⟨b, o + j * 5 + 1, none⟩ = some (.string (mtx (K + 1)))) (by kernel_rfl) (⟨HB.out.trans ((below_drewN' _ 1).mono HB.out.size), ((HCJ.out.below HB.out hb).below (below_drewN' _ 1) (Nat.lt_of_lt_of_le hb HB.out.size)).2.1⟩) (fun hHeld => ?_)
      refine wpAnyH_take (i := 0) (oi := { dst := some 21, op := _, type := _, pos := _, after := _, guard := _ }) (v := (.slice (some ⟨b, o, none⟩) n cap)) rfl (by kernel_rfl) (by kernel_rfl) (by kernel_rfl) (fun _ _ _ h => h) (Or.inl ⟨by rfl, ?hy1⟩) (by assumption) ?rest1
      case hy1 =>
        intro w9 hS9
        obtain ⟨-, y0⟩ := hS9
        go_simp
        try with_reducible rfl
      try simp only [Act.put, List.setIfInBounds_toArray, List.set_cons_zero, List.set_cons_succ]
      refine wpAnyH_take (i := 1) (oi := { dst := some 22, op := _, type := _, pos := _, after := _, guard := _ }) (v := (.int .i64 (j : Int))) rfl (by kernel_rfl) (by kernel_rfl) (by kernel_rfl) (fun _ _ _ h => h) (Or.inl ⟨by rfl, ?hy2⟩) (by assumption) ?rest2
      case hy2 =>
        intro w9 hS9
        obtain ⟨-, y0⟩ := hS9
        go_simp
        try with_reducible rfl
      try simp only [Act.put, List.setIfInBounds_toArray, List.set_cons_zero, List.set_cons_succ]
      refine wpAnyH_take (i := 2) (oi := { dst := some 23, op := _, type := _, pos := _, after := _, guard := _ }) (v := (.pointer (some ⟨b, o + j * 5, none⟩))) rfl (by kernel_rfl) (by kernel_rfl) (by kernel_rfl) (fun _ _ _ h => h) (Or.inl ⟨by rfl, ?hy3⟩) (by assumption) ?rest3
      case hy3 =>
        intro w9 hS9
        obtain ⟨-, y0⟩ := hS9
        go_simp
        try with_reducible rfl
      try simp only [Act.put, List.setIfInBounds_toArray, List.set_cons_zero, List.set_cons_succ]
      refine wpAnyH_take (i := 3) (oi := { dst := some 24, op := _, type := _, pos := _, after := _, guard := _ }) (v := (.pointer (some ⟨b, o + j * 5 + 1, none⟩))) rfl (by kernel_rfl) (by kernel_rfl) (by kernel_rfl) (fun _ _ _ h => h) (Or.inl ⟨by rfl, ?hy4⟩) (by assumption) ?rest4
      case hy4 =>
        intro w9 hS9
        obtain ⟨-, y0⟩ := hS9
        go_simp
        try with_reducible rfl
      try simp only [Act.put, List.setIfInBounds_toArray, List.set_cons_zero, List.set_cons_succ]
      refine wpAnyH_take (i := 4) (oi := { dst := some 25, op := _, type := _, pos := _, after := _, guard := _ }) (v := (.string (mtx (K + 1)))) rfl (by kernel_rfl) (by kernel_rfl) (by kernel_rfl) (fun _ _ _ h => h) (Or.inl ⟨by rfl, ?hy5⟩) (by assumption) ?rest5
      case hy5 =>
        intro w9 hS9
        obtain ⟨-, y0⟩ := hS9
        go_simp
        try with_reducible rfl
      try simp only [Act.put, List.setIfInBounds_toArray, List.set_cons_zero, List.set_cons_succ]
      refine wpAnyH_take (i := 5) (oi := { dst := some 26, op := _, type := _, pos := _, after := _, guard := _ }) (v := (.int .i64 ((K : Int) + 1))) rfl (by kernel_rfl) (by kernel_rfl) (by kernel_rfl) (fun _ _ _ h => h) (Or.inl ⟨by rfl, ?hy6⟩) (by assumption) ?rest6
      case hy6 =>
        intro w9 hS9
        obtain ⟨-, y0⟩ := hS9
        go_simp
        try with_reducible rfl
      try simp only [Act.put, List.setIfInBounds_toArray, List.set_cons_zero, List.set_cons_succ]
      refine wpAnyH_ready (rs := [6]) (by kernel_rfl) (by simp) ?_
      refine AllReadyH.cons (o := { dst := some 27, op := _, type := _, pos := _, after := _, guard := _ }) rfl (fun KK hK => ?_) AllReadyH.nil
      go_simp
      refine (hm0.out _).mono ?_
      rintro e w4 ⟨rfl, b4⟩
      have HB4 : Hid (Below w.heap.size w w4) := (HB.out.trans ((below_drewN' _ 1).mono HB.out.size)).trans (b4.mono HB.out.size)
      clear b4
      refine hK.out _ _ ((show Hid (Below w.heap.size w w4) ∧ w4.cell? ⟨b, o + j * 5 + 1, none⟩ = some (.string (mtx (K + 1))) from ⟨HB4, (HCJ.out.below HB4.out hb).2.1⟩)) (fun hx9 => ?_)
      clear hK KK hHeld hx9
      have hHeld := (show Hid (Below w.heap.size w w4) ∧ w4.cell? ⟨b, o + j * 5 + 1, none⟩ = some (.string (mtx (K + 1))) from ⟨HB4, (HCJ.out.below HB4.out hb).2.1⟩)
      try simp only [Act.put, List.setIfInBounds_toArray, List.set_cons_zero, List.set_cons_succ]
      refine wpAnyH_take (i := 7) (oi := { dst := some 28, op := _, type := _, pos := _, after := _, guard := _ }) (v := (.bool false)) rfl (by kernel_rfl) (by kernel_rfl) (by kernel_rfl) (fun _ _ _ h => h) (Or.inl ⟨by rfl, ?hy7⟩) (by assumption) ?rest7
      case hy7 =>
        intro w9 hS9
        go_simp
        try with_reducible rfl
      try simp only [Act.put, List.setIfInBounds_toArray, List.set_cons_zero, List.set_cons_succ]
      refine wpAnyH_done (by kernel_rfl) ?_ _
      clear hHeld
      go_wp2
      refine wp_region_held_drew (S := fun W => Hid (Below w.heap.size w W) ∧ W.cell? ⟨b, o + j * 5 + 2, none⟩ = some (.string (mtx (K + 2)))) (by kernel_rfl) (⟨HB4.out.trans ((below_drewN' _ 1).mono HB4.out.size), ((HCJ.out.below HB4.out hb).below (below_drewN' _ 1) (Nat.lt_of_lt_of_le hb HB4.out.size)).2.2.1⟩) (fun hHeld => ?_)
      refine wpAnyH_take (i := 0) (oi := { dst := some 31, op := _, type := _, pos := _, after := _, guard := _ }) (v := (.slice (some ⟨b, o, none⟩) n cap)) rfl (by kernel_rfl) (by kernel_rfl) (by kernel_rfl) (fun _ _ _ h => h) (Or.inl ⟨by rfl, ?hy8⟩) (by assumption) ?rest8
      case hy8 =>
        intro w9 hS9
        obtain ⟨-, y0⟩ := hS9
        go_simp
        try with_reducible rfl
      try simp only [Act.put, List.setIfInBounds_toArray, List.set_cons_zero, List.set_cons_succ]
      refine wpAnyH_take (i := 1) (oi := { dst := some 32, op := _, type := _, pos := _, after := _, guard := _ }) (v := (.int .i64 (j : Int))) rfl (by kernel_rfl) (by kernel_rfl) (by kernel_rfl) (fun _ _ _ h => h) (Or.inl ⟨by rfl, ?hy9⟩) (by assumption) ?rest9
      case hy9 =>
        intro w9 hS9
        obtain ⟨-, y0⟩ := hS9
        go_simp
        try with_reducible rfl
      try simp only [Act.put, List.setIfInBounds_toArray, List.set_cons_zero, List.set_cons_succ]
      refine wpAnyH_take (i := 2) (oi := { dst := some 33, op := _, type := _, pos := _, after := _, guard := _ }) (v := (.pointer (some ⟨b, o + j * 5, none⟩))) rfl (by kernel_rfl) (by kernel_rfl) (by kernel_rfl) (fun _ _ _ h => h) (Or.inl ⟨by rfl, ?hy10⟩) (by assumption) ?rest10
      case hy10 =>
        intro w9 hS9
        obtain ⟨-, y0⟩ := hS9
        go_simp
        try with_reducible rfl
      try simp only [Act.put, List.setIfInBounds_toArray, List.set_cons_zero, List.set_cons_succ]
      refine wpAnyH_take (i := 3) (oi := { dst := some 34, op := _, type := _, pos := _, after := _, guard := _ }) (v := (.pointer (some ⟨b, o + j * 5 + 2, none⟩))) rfl (by kernel_rfl) (by kernel_rfl) (by kernel_rfl) (fun _ _ _ h => h) (Or.inl ⟨by rfl, ?hy11⟩) (by assumption) ?rest11
      case hy11 =>
        intro w9 hS9
        obtain ⟨-, y0⟩ := hS9
        go_simp
        try with_reducible rfl
      try simp only [Act.put, List.setIfInBounds_toArray, List.set_cons_zero, List.set_cons_succ]
      refine wpAnyH_take (i := 4) (oi := { dst := some 35, op := _, type := _, pos := _, after := _, guard := _ }) (v := (.string (mtx (K + 2)))) rfl (by kernel_rfl) (by kernel_rfl) (by kernel_rfl) (fun _ _ _ h => h) (Or.inl ⟨by rfl, ?hy12⟩) (by assumption) ?rest12
      case hy12 =>
        intro w9 hS9
        obtain ⟨-, y0⟩ := hS9
        go_simp
        try with_reducible rfl
      try simp only [Act.put, List.setIfInBounds_toArray, List.set_cons_zero, List.set_cons_succ]
      refine wpAnyH_take (i := 5) (oi := { dst := some 36, op := _, type := _, pos := _, after := _, guard := _ }) (v := (.int .i64 ((K : Int) + 1 + 1))) rfl (by kernel_rfl) (by kernel_rfl) (by kernel_rfl) (fun _ _ _ h => h) (Or.inl ⟨by rfl, ?hy13⟩) (by assumption) ?rest13
      case hy13 =>
        intro w9 hS9
        obtain ⟨-, y0⟩ := hS9
        go_simp
        try with_reducible rfl
      try simp only [Act.put, List.setIfInBounds_toArray, List.set_cons_zero, List.set_cons_succ]
      refine wpAnyH_ready (rs := [6]) (by kernel_rfl) (by simp) ?_
      refine AllReadyH.cons (o := { dst := some 37, op := _, type := _, pos := _, after := _, guard := _ }) rfl (fun KK hK => ?_) AllReadyH.nil
      go_simp
      refine (hm1.out _).mono ?_
      rintro e w5 ⟨rfl, b5⟩
      have HB5 : Hid (Below w.heap.size w w5) := (HB4.out.trans ((below_drewN' _ 1).mono HB4.out.size)).trans (b5.mono HB4.out.size)
      clear b5
      refine hK.out _ _ ((show Hid (Below w.heap.size w w5) ∧ w5.cell? ⟨b, o + j * 5 + 2, none⟩ = some (.string (mtx (K + 2))) from ⟨HB5, (HCJ.out.below HB5.out hb).2.2.1⟩)) (fun hx9 => ?_)
      clear hK KK hHeld hx9
      have hHeld := (show Hid (Below w.heap.size w w5) ∧ w5.cell? ⟨b, o + j * 5 + 2, none⟩ = some (.string (mtx (K + 2))) from ⟨HB5, (HCJ.out.below HB5.out hb).2.2.1⟩)
      try simp only [Act.put, List.setIfInBounds_toArray, List.set_cons_zero, List.set_cons_succ]
      refine wpAnyH_take (i := 7) (oi := { dst := some 38, op := _, type := _, pos := _, after := _, guard := _ }) (v := (.bool false)) rfl (by kernel_rfl) (by kernel_rfl) (by kernel_rfl) (fun _ _ _ h => h) (Or.inl ⟨by rfl, ?hy14⟩) (by assumption) ?rest14
      case hy14 =>
        intro w9 hS9
        go_simp
        try with_reducible rfl
      try simp only [Act.put, List.setIfInBounds_toArray, List.set_cons_zero, List.set_cons_succ]
      refine wpAnyH_done (by kernel_rfl) ?_ _
      clear hHeld
      obtain ⟨-, -, -, y3, y4⟩ := HCJ.out.below HB5.out hb
      unfold mkO at y3 y4
      simp only at y3 y4
      go_wp2
      exact ⟨⟨j + 1, K + 5, by omega, by have := HKE.out; omega, by go_num, by go_num, HB5⟩, by simp [intOf]; omega⟩
    · have hjn : j = n := by omega
      subst hjn
      subst hK
      go_wp2
      go_ret
      exact ⟨rfl, HB.out⟩

set_option maxHeartbeats 400000 in
theorem heldOpS_nil (w : World) (ao : Option Addr) (cap k : Nat) : Calls Tryz.prog 45 #[.slice ao 0 cap, .int .i64 k] w fun e w' => e = .returned (.int .i64 k) ∧ w' = w := by
  go_enter Tryz.func45, Tryz.ntmps45
  go_wp2
  go_rounds 1
  go_ret
  exact ⟨rfl, rfl⟩

theorem heldOpS_any (w : World) (v : Value) (k n : Nat) (h : RdO w v (mkOs k n)) (hk : k ≤ 1048576) (hn : n ≤ 1048576) :
    Calls Tryz.prog 45 #[v, .int .i64 k] w fun e w' => e = .returned (.int .i64 ((k + 5 * n : Nat) : Int)) ∧ Below w.heap.size w w' := by
  obtain ⟨ao, cap, rfl, h1, h2, h3⟩ := h
  rw [mkOs_len] at h1 h3 ⊢
  rcases h3 with h3 | ⟨b, o, rfl, hb, hc⟩
  · have : n = 0 := by have := congrArg List.length h3; rw [mkOs_len] at this; exact this
    subst this
    refine (heldOpS_nil w ao cap k).mono ?_
    rintro e w' ⟨rfl, rfl⟩
    exact ⟨rfl, Below.refl _ _⟩
  · exact heldOpS_row w b o n cap k hb hc hk hn

end Go.Proofs.YtmjliomhhgahkaaGreatDoor
namespace Go.Proofs.YtmjliomhhgahkaaGreatDoor
open Go.RowKit

/-- What the marks are, in numbers. -/
def marks64 (k : Int) (n : Nat) : List Int := (List.range n).map fun (i : Nat) => k + (i : Int)
theorem marks64_length (k : Int) (n : Nat) : (marks64 k n).length = n := by simp [marks64]
theorem marks64_getD (k : Int) (n i : Nat) (h : i < n) : (marks64 k n).getD i 0 = k + i := by simp [marks64, List.getD, h]

set_option maxHeartbeats 400000 in
theorem eqInt64S_len (w : World) (ao bo : Option Addr) (n m ca cb : Nat) (h : n ≠ m) :
    Calls Tryz.prog 22 #[.slice ao n ca, .slice bo m cb] w fun e w' => e = .returned (.bool false) ∧ w' = w := by
  have h1 : ((n : Int) != (m : Int)) = true := by rw [bne_iff_ne]; omega
  go_enter Tryz.func22, Tryz.ntmps22
  go_wp2
  go_ret
  exact ⟨rfl, rfl⟩

set_option maxHeartbeats 400000 in
theorem eqInt64S_nil (w : World) (ao bo : Option Addr) (ca cb : Nat) :
    Calls Tryz.prog 22 #[.slice ao 0 ca, .slice bo 0 cb] w fun e w' => e = .returned (.bool true) ∧ w' = w := by
  go_enter Tryz.func22, Tryz.ntmps22
  go_wp2
  go_rounds 1
  go_ret
  exact ⟨rfl, rfl⟩

set_option maxHeartbeats 400000 in
theorem eqInt64S_row (w : World) (b o b2 o2 n ca cb : Nat) (hn : n ≤ maxLen) (xs ys : List Int) (hx : xs.length = n) (hy : ys.length = n)
    (hcx : ∀ i, i < n → w.cell? ⟨b, o + i, none⟩ = some (.int .i64 (xs.getD i 0))) (hcy : ∀ i, i < n → w.cell? ⟨b2, o2 + i, none⟩ = some (.int .i64 (ys.getD i 0))) :
    Calls Tryz.prog 22 #[.slice (some ⟨b, o, none⟩) n ca, .slice (some ⟨b2, o2, none⟩) n cb] w fun e w' => e = .returned (.bool (decide (xs = ys))) ∧ ∃ q, w' = w.drewN q := by
  unfold maxLen at hn
  have HX : Hid (xs.length = n) := hx
  have HY : Hid (ys.length = n) := hy
  have CX : Hid (∀ i, i < n → w.cell? ⟨b, o + i, none⟩ = some (.int .i64 (xs.getD i 0))) := hcx
  have CY : Hid (∀ i, i < n → w.cell? ⟨b2, o2 + i, none⟩ = some (.int .i64 (ys.getD i 0))) := hcy
  clear hx hy hcx hcy
  have h1 : ((n : Int) != (n : Int)) = false := by simp
  go_enter Tryz.func22, Tryz.ntmps22
  go_wp2
  go_loopw [5] (fun i wr => ∃ k : Nat, k ≤ n ∧ i = .int .i64 k ∧ Hid (xs.take k = ys.take k) ∧ ∃ q, wr = w.drewN q) (fun i _ => n - (intOf i).toNat)
  case atStart => exact ⟨0, Nat.zero_le _, rfl, rfl, 0, rfl⟩
  case round =>
    obtain ⟨k, hk, rfl, HT, q, rfl⟩ := hrel
    by_cases hlt : k < n
    · have c1 : w.cell? ⟨b, o + k, none⟩ = some (.int .i64 (xs.getD k 0)) := CX.out k hlt
      have c2 : w.cell? ⟨b2, o2 + k, none⟩ = some (.int .i64 (ys.getD k 0)) := CY.out k hlt
      have hltI : (k : Int) < (n : Int) := by omega
      generalize hu : xs.getD k 0 = u at c1
      generalize hv : ys.getD k 0 = v at c2
      have HU : Hid (xs.getD k 0 = u) := hu
      have HV : Hid (ys.getD k 0 = v) := hv
      clear hu hv
      by_cases he : u = v
      · have hb : (u != v) = false := by simp [he]
        have HE : Hid (u = v) := he
        clear he
        go_wp2
        go_quiet (fail)
        go_wp2
        go_roundw
        case rel => exact ⟨k + 1, by omega, by go_num, take_eq_succ (by rw [HX.out]; omega) (by rw [HY.out]; omega) HT.out (by rw [HU.out, HV.out, HE.out]), _, rfl⟩
        case measure => simp [intOf]; omega
      · have hb : (u != v) = true := by simp [he]
        have HE : Hid (¬ u = v) := he
        clear he
        go_wp2
        go_quiet (fail)
        go_wp2
        go_ret
        exact ⟨ret_bool (by symm; rw [decide_eq_false_iff_not]; exact ne_of_getD (k := k) (by rw [HU.out, HV.out]; exact HE.out)), _, World.drewN_drewN _ _ _⟩
    · go_wp2
      go_ret
      exact ⟨ret_bool (by symm; rw [decide_eq_true_iff]; have h := HT.out; rw [List.take_of_length_le (by rw [HX.out]; omega), List.take_of_length_le (by rw [HY.out]; omega)] at h; exact h), _, rfl⟩

theorem eqInt64S_any (w : World) (va vb : Value) (xs ys : List Int) (ha : Rd .i64 w va xs) (hb : Rd .i64 w vb ys) :
    Calls Tryz.prog 22 #[va, vb] w fun e w' => e = .returned (.bool (decide (xs = ys))) ∧ ∃ q, w' = w.drewN q := by
  obtain ⟨ao, ca, rfl, h1, h2, h3⟩ := ha
  obtain ⟨bo, cb, rfl, k1, k2, k3⟩ := hb
  by_cases hne : xs.length = ys.length
  · rcases h3 with rfl | ⟨b, o, rfl, _, hc⟩
    · have hy : ys = [] := List.eq_nil_of_length_eq_zero hne.symm
      subst hy
      refine (eqInt64S_nil w ao bo ca cb).mono ?_
      rintro e w' ⟨rfl, rfl⟩
      exact ⟨ret_bool (by simp), 0, rfl⟩
    · rcases k3 with rfl | ⟨b2, o2, rfl, _, hc2⟩
      · have hx : xs = [] := List.eq_nil_of_length_eq_zero hne
        subst hx
        refine (eqInt64S_nil w _ bo ca cb).mono ?_
        rintro e w' ⟨rfl, rfl⟩
        exact ⟨ret_bool (by simp), 0, rfl⟩
      · rw [← hne] at hc2 ⊢
        exact eqInt64S_row w b o b2 o2 xs.length ca cb (by omega) xs ys rfl hne.symm hc hc2
  · refine (eqInt64S_len w ao bo _ _ ca cb hne).mono ?_
    rintro e w' ⟨rfl, rfl⟩
    exact ⟨ret_bool (by symm; rw [decide_eq_false_iff_not]; intro h; exact hne (by rw [h])), 0, rfl⟩

set_option maxHeartbeats 400000 in
theorem markInt64S_row (w : World) (base g n cap : Nat) (xs : List Int) (k : Int) (hx : xs.length = n) (hown : Own .i64 2 w base (.slice (some ⟨g, 0, none⟩) n cap) xs) (hk0 : 0 ≤ k) (hk1 : k ≤ 1099511627776) (hn : n ≤ 1099511627776) :
    Calls Tryz.prog 24 #[.slice (some ⟨g, 0, none⟩) n cap, .int .i64 k] w fun e w' => e = .returned (.int .i64 (k + n)) ∧ Own .i64 2 w' base (.slice (some ⟨g, 0, none⟩) n cap) (marks64 k n) ∧ w.grownBy w' (some g) := by
  have HX : Hid (xs.length = n) := hx
  clear hx
  go_enter Tryz.func24, Tryz.ntmps24
  go_wp2
  go_loopw [1, 5] (fun kk i wr => ∃ j : Nat, j ≤ n ∧ i = .int .i64 j ∧ kk = .int .i64 (k + j) ∧ Own .i64 2 wr base (.slice (some ⟨g, 0, none⟩) n cap) (mix (marks64 k n) xs j) ∧ w.grownBy wr (some g)) (fun _ i _ => n - (intOf i).toNat)
  case atStart => exact ⟨0, Nat.zero_le _, rfl, by go_num, by rw [mix_zero]; exact hown, World.grownBy.refl _ _⟩
  case round =>
    obtain ⟨j, hj, rfl, rfl, ho, hg⟩ := hrel
    by_cases hlt : j < n
    · have ho' : wr.ownsRow base 2 1 (.slice (some ⟨g, 0, none⟩) n cap) n ((mix (marks64 k n) xs j).map (Value.int .i64)) := by
        have := ho; unfold Own at this; rw [mix_length (by rw [marks64_length, HX.out]), HX.out] at this; exact this
      have hf := World.ownsRow.frozenAt ho' j
      have hc : ∃ c, wr.cell? ⟨g, j, none⟩ = some c := ⟨_, (World.ownsRow.cellAt ho' j (by omega)).trans (List.getElem?_eq_getElem (by simp [mix_length (show (marks64 k n).length = xs.length by rw [marks64_length, HX.out]), HX.out]; exact hlt))⟩
      obtain ⟨c, hc⟩ := hc
      have HO : Hid (Own .i64 2 wr base (.slice (some ⟨g, 0, none⟩) n cap) (mix (marks64 k n) xs j)) := ho
      clear ho ho'
      have hltI : (j : Int) < (n : Int) := by omega
      go_wp2
      go_roundw
      case rel => exact ⟨j + 1, by omega, by go_num, by go_num, Own.mixed (by rw [marks64_length, HX.out]) HX.out (by rw [HX.out]; exact hlt) HO.out (by rw [marks64_getD _ _ _ hlt]), grownBy_set _ _ _ _ _ hg⟩
      case measure => simp [intOf]; omega
    · have hjn : j = n := by omega
      subst hjn
      go_wp2
      go_ret
      exact ⟨rfl, by rw [mix_all (by rw [marks64_length, HX.out]) (by rw [HX.out]; exact Nat.le_refl _)] at ho; exact ho, hg⟩

set_option maxHeartbeats 400000 in
theorem markInt64S_nil (w : World) (k : Int) : Calls Tryz.prog 24 #[.slice none 0 0, .int .i64 k] w fun e w' => e = .returned (.int .i64 k) ∧ w' = w := by
  go_enter Tryz.func24, Tryz.ntmps24
  go_wp2
  go_rounds 1
  go_ret
  exact ⟨rfl, rfl⟩

theorem markInt64S_any (w : World) (base : Nat) (v : Value) (xs : List Int) (k : Int) (hown : Own .i64 2 w base v xs) (hk0 : 0 ≤ k) (hk1 : k ≤ 1099511627776) (hn : xs.length ≤ 1099511627776) :
    Calls Tryz.prog 24 #[v, .int .i64 k] w fun e w' => e = .returned (.int .i64 (k + xs.length)) ∧ Own .i64 2 w' base v (marks64 k xs.length) ∧ w.grownBy w' v.ownBlock := by
  rcases hown.row with ⟨rfl, rfl⟩ | ⟨g, cap, rfl, _⟩
  · refine (markInt64S_nil w k).mono ?_
    rintro e w' ⟨rfl, rfl⟩
    exact ⟨ret_int (by simp), World.ownsRow_nil _ _ _ _, World.grownBy.refl _ _⟩
  · exact markInt64S_row w base g xs.length cap xs k rfl hown hk0 hk1 hn

end Go.Proofs.YtmjliomhhgahkaaGreatDoor
namespace Go.Proofs.YtmjliomhhgahkaaGreatDoor
open Go.RowKit Go.Shelf

theorem ownsRow_keepT {w w' : World} {lo k n : Nat} {e t : TypeId} {v : Value} {us : List Value} (h : w.ownsRow lo e k v n us) (hk : KT t w w') (ht : e ≠ t) : w'.ownsRow lo e k v n us :=
  ⟨h.1, h.2.imp id fun ⟨g, cap, cur, e1, e2, hg, r⟩ => ⟨g, cap, cur, e1, e2, hk.box hg ht, r⟩⟩
set_option maxHeartbeats 400000 in
theorem heldInt64S_nil (w : World) (ao : Option Addr) (cap : Nat) (k : Int) : Calls Tryz.prog 26 #[.slice ao 0 cap, .int .i64 k] w fun e w' => e = .returned (.int .i64 k) ∧ w' = w := by
  go_enter Tryz.func26, Tryz.ntmps26
  go_wp2
  go_rounds 1
  go_ret
  exact ⟨rfl, rfl⟩
set_option maxHeartbeats 400000 in
theorem heldInt64S_row (w : World) (b o n cap : Nat) (k : Int) (hc : ∀ i, i < n → w.cell? ⟨b, o + i, none⟩ = some (.int .i64 (k + i))) (hk0 : 0 ≤ k) (hk1 : k ≤ 1099511627776) (hn : n ≤ 1099511627776) :
    Calls Tryz.prog 26 #[.slice (some ⟨b, o, none⟩) n cap, .int .i64 k] w fun e w' => e = .returned (.int .i64 (k + n)) ∧ w' = w := by
  have HC := hd9 hc
  clear hc
  go_enter Tryz.func26, Tryz.ntmps26
  go_wp2
  go_loop [1, 5] (fun kk i => ∃ j : Nat, j ≤ n ∧ i = .int .i64 j ∧ kk = .int .i64 (k + j)) (fun _ i => n - (intOf i).toNat)
  case atStart => exact ⟨0, Nat.zero_le _, rfl, by go_num⟩
  case round =>
    obtain ⟨j, hj, rfl, rfl⟩ := hrel
    by_cases hlt : j < n
    · have hc := HC.out j hlt
      have hltI : (j : Int) < (n : Int) := by omega
      go_wp2
      go_round
      case rel => exact ⟨j + 1, by omega, by go_num, by go_num⟩
      case measure => simp [intOf]; omega
    · have hjn : j = n := by omega
      subst hjn
      go_wp2
      go_ret
      exact ⟨rfl, rfl⟩
theorem heldInt64S_any (w : World) (v : Value) (n : Nat) (k : Int) (h : Rd .i64 w v (marks64 k n)) (hk0 : 0 ≤ k) (hk1 : k ≤ 1099511627776) (hn : n ≤ 1099511627776) :
    Calls Tryz.prog 26 #[v, .int .i64 k] w fun e w' => e = .returned (.int .i64 (k + n)) ∧ w' = w := by
  obtain ⟨ao, cap, rfl, h1, h2, h3⟩ := h
  rw [marks64_length] at *
  rcases h3 with h3 | ⟨b, o, rfl, _, hc⟩
  · have h0 : n = 0 := by have := congrArg List.length h3; rw [marks64_length] at this; simpa using this
    subst h0
    refine (heldInt64S_nil w ao cap k).mono ?_
    rintro e w' ⟨rfl, rfl⟩
    exact ⟨ret_int (by simp), rfl⟩
  · exact heldInt64S_row w b o n cap k (fun i hi => by rw [hc i hi, marks64_getD k n i hi]) hk0 hk1 hn
set_option maxHeartbeats 400000 in
theorem markRequestL_any (w : World) (lo k : Nat) (v : Value) (ns : List Op5) (h : OwnO 41 w lo v ns) (hl : lo ≤ w.heap.size) (hk : k ≤ 1048576) (hn : ns.length ≤ 1048576) :
    Calls Tryz.prog 23 #[.agg #[v], .int .i64 k] w fun e w' => e = .returned (.int .i64 ((k + 5 * ns.length : Nat) : Int)) ∧ OwnO 41 w' lo v (mkOs k ns.length) ∧ Below lo w w' ∧ KT 41 w w' := by
  have H : Hid (OwnO 41 w lo v ns) := h
  clear h
  go_enter Tryz.func23, Tryz.ntmps23
  go_wp2_with fail
  refine (markOpL_any _ lo k v ns (H.out.below ((Below.refl _ _).alloc (Nat.le_refl _) _)) hk hn).mono ?_
  rintro e w1 ⟨rfl, o1, b1, k1⟩
  have B1 : Hid (Below lo w w1) := ((Below.refl _ _).alloc hl _).trans b1
  have K1 : Hid (KT 41 w w1) := ((KT.refl _ _).alloc _).trans k1
  have O1 := hd9 o1
  clear b1 k1 o1
  go_wp2
  go_ret
  exact ⟨rfl, O1.out, B1.out, K1.out⟩
set_option maxHeartbeats 400000 in
theorem heldRequest_any (w : World) (v : Value) (k n : Nat) (h : RdO w v (mkOs k n)) (hk : k ≤ 1048576) (hn : n ≤ 1048576) :
    Calls Tryz.prog 25 #[.agg #[v], .int .i64 k] w fun e w' => e = .returned (.int .i64 ((k + 5 * n : Nat) : Int)) ∧ Below w.heap.size w w' := by
  have H := hd9 h
  clear h
  go_enter Tryz.func25, Tryz.ntmps25
  go_wp2_with fail
  refine (heldOpS_any _ v k n (H.out.below ((Below.refl _ _).alloc (Nat.le_refl _) _)) hk hn).mono ?_
  rintro e w1 ⟨rfl, b1⟩
  have B1 := hd9 (((Below.refl w.heap.size w).alloc (Nat.le_refl _) _).trans (b1.mono (by simp)))
  clear b1
  obtain ⟨K, hK⟩ : ∃ K : Nat, K = k + 5 * n := ⟨_, rfl⟩
  rw [← hK]
  have hK0 : ¬ ((K : Nat) : Int) < 0 := by omega
  have HK := hd9 hK
  clear hK
  go_wp2
  go_ret
  exact ⟨by rw [← HK.out]; rfl, B1.out⟩
set_option maxRecDepth 100000 in
set_option maxHeartbeats 2000000 in
theorem eqLine_same (w : World) (k : Int) (os : List Op5) (m : Bool) (p : ByteArray) (ns : List Int) (va na vb nb : Value) (ha : RdO w va os) (hb : RdO w vb os) (hna : Rd .i64 w na ns) (hnb : Rd .i64 w nb ns) (hn : os.length ≤ 1048576) :
    Calls Tryz.prog 7 #[.agg #[.int .i64 k, va, .bool m, .string p, na], .agg #[.int .i64 k, vb, .bool m, .string p, nb]] w fun e w' => e = .returned (.bool true) ∧ Below w.heap.size w w' := by
  have B0 : Hid (Below w.heap.size w ((w.alloc (.cells #[.int .i64 k, va, .bool m, .string p, na] 28)).alloc (.cells #[.int .i64 k, vb, .bool m, .string p, nb] 28))) := ((Below.refl _ _).alloc (Nat.le_refl _) _).alloc (by simp) _
  have RA := hd9 (ha.below B0.out)
  have RB := hd9 (hb.below B0.out)
  have NA := hd9 (hna.below B0.out)
  have NB := hd9 (hnb.below B0.out)
  have hkk : (k != k) = false := by simp
  have hmm : (m != m) = false := by simp
  have hpp : (p.toList == p.toList) = true := by simp
  clear ha hb hna hnb
  go_enter Tryz.func7, Tryz.ntmps7
  go_wp2_with fail
  refine (eqRequest_same _ _ _ os RA.out RB.out hn).mono ?_
  rintro e w1 ⟨rfl, b1⟩
  have s0 : ((w.alloc (.cells #[.int .i64 k, va, .bool m, .string p, na] 28)).alloc (.cells #[.int .i64 k, vb, .bool m, .string p, nb] 28)).heap.size = w.heap.size + 2 := by simp
  have c2 : w1.cell? ⟨w.heap.size, 2, none⟩ = some (.bool m) := (b1.cell (p := ⟨w.heap.size, 2, none⟩) (by simp; omega)).trans (by go_simp)
  have c3 : w1.cell? ⟨w.heap.size, 3, none⟩ = some (.string p) := (b1.cell (p := ⟨w.heap.size, 3, none⟩) (by simp; omega)).trans (by go_simp)
  have c4 : w1.cell? ⟨w.heap.size, 4, none⟩ = some na := (b1.cell (p := ⟨w.heap.size, 4, none⟩) (by simp; omega)).trans (by go_simp)
  have e2 : w1.cell? ⟨w.heap.size + 1, 2, none⟩ = some (.bool m) := (b1.cell (p := ⟨w.heap.size + 1, 2, none⟩) (by simp)).trans (by go_simp)
  have e3 : w1.cell? ⟨w.heap.size + 1, 3, none⟩ = some (.string p) := (b1.cell (p := ⟨w.heap.size + 1, 3, none⟩) (by simp)).trans (by go_simp)
  have e4 : w1.cell? ⟨w.heap.size + 1, 4, none⟩ = some nb := (b1.cell (p := ⟨w.heap.size + 1, 4, none⟩) (by simp)).trans (by go_simp)
  have B1 := hd9 (B0.out.trans (b1.mono (by rw [s0]; omega)))
  have NA1 := hd9 (NA.out.below b1)
  have NB1 := hd9 (NB.out.below b1)
  clear b1 s0 NA NB RA RB
  go_wp2_with fail
  refine (eqInt64S_any _ na nb ns ns NA1.out NB1.out).mono ?_
  rintro e w2 ⟨rfl, q2, rfl⟩
  rw [show decide (ns = ns) = true by simp]
  have B2 := hd9 (B1.out.trans ((below_drewN' w1 q2).mono B1.out.size))
  clear c2 c3 c4 e2 e3 e4 NA1 NB1
  go_wp2_with fail
  go_ret
  exact ⟨rfl, B2.out⟩
set_option maxRecDepth 100000 in
set_option maxHeartbeats 2000000 in
theorem markLine_any (w : World) (lo k0 : Nat) (k : Int) (m : Bool) (p : ByteArray) (vo vn : Value) (os : List Op5) (ns : List Int) (ho : OwnO 41 w lo vo os) (hn : Own .i64 2 w lo vn ns) (hl : lo ≤ w.heap.size) (hk : k0 ≤ 1048576) (h1 : os.length ≤ 1048576) (h2 : ns.length ≤ 1048576) :
    Calls Tryz.prog 10 #[.agg #[.int .i64 k, vo, .bool m, .string p, vn], .int .i64 k0] w fun e w' => e = .returned (.int .i64 (((k0 + 5 * os.length : Nat) : Int) + (ns.length : Int))) ∧ OwnO 41 w' lo vo (mkOs k0 os.length) ∧ Own .i64 2 w' lo vn (marks64 ((k0 + 5 * os.length : Nat) : Int) ns.length) ∧ Below lo w w' ∧ ∀ (B : Nat) (A : Array Value) (f : Nat × Nat), w.heap[B]? = some (.cells A 28 f) → w'.heap[B]? = some (.cells A 28 f) := by
  have B0 : Hid (Below w.heap.size w (w.alloc (.cells #[.int .i64 k, vo, .bool m, .string p, vn] 28))) := (Below.refl _ _).alloc (Nat.le_refl _) _
  have O0 := hd9 (ho.below B0.out)
  have N0 := hd9 (hn.below B0.out)
  have s0 : (w.alloc (.cells #[.int .i64 k, vo, .bool m, .string p, vn] 28)).heap.size = w.heap.size + 1 := by simp
  clear ho hn
  go_enter Tryz.func10, Tryz.ntmps10
  go_wp2_with fail
  refine (markRequestL_any _ lo k0 vo os O0.out (by rw [s0]; omega) hk h1).mono ?_
  rintro e w1 ⟨rfl, o1, b1, kt1⟩
  have hbx : (w.alloc (.cells #[.int .i64 k, vo, .bool m, .string p, vn] 28)).heap[w.heap.size]? = some (.cells #[.int .i64 k, vo, .bool m, .string p, vn] 28) := (MapKept.heap_alloc w _).1
  have c4 : w1.cell? ⟨w.heap.size, 4, none⟩ = some vn := (kt1.cell hbx (by decide) 4).trans (by go_simp)
  have O1 := hd9 o1
  have N1 : Hid (Own .i64 2 w1 lo vn ns) := ownsRow_keepT N0.out kt1 (by decide)
  have B1 := hd9 ((B0.out.mono hl).trans b1)
  have H1 : Hid (∀ (B : Nat) (A : Array Value) (f : Nat × Nat), w.heap[B]? = some (.cells A 28 f) → w1.heap[B]? = some (.cells A 28 f)) := fun B A f h9 => kt1.box ((B0.out.block B (Array.getElem?_eq_some_iff.1 h9).1).trans h9) (by decide)
  clear o1 b1 kt1 hbx O0 N0 s0
  obtain ⟨K, hK⟩ : ∃ K : Nat, K = k0 + 5 * os.length := ⟨_, rfl⟩
  have hK2 : K ≤ 10000000 := by omega
  rw [← hK]
  have HK := hd9 hK
  clear hK
  go_wp2_with fail
  refine (markInt64S_any _ lo vn ns (K : Int) N1.out (by omega) (by omega) (by omega)).mono ?_
  rintro e w2 ⟨rfl, n2, g2⟩
  have B2 := hd9 (B1.out.grown g2 (Nat.le_trans hl (Nat.le_trans (Nat.le_refl _) B1.out.size)) (fun q hq => (N1.out.lt q hq).1))
  have O2 := hd9 (ownsRow_keepT O1.out ((KT.refl 2 w1).grown N1.out g2) (by decide))
  have N2 := hd9 n2
  have H2 : Hid (∀ (B : Nat) (A : Array Value) (f : Nat × Nat), w.heap[B]? = some (.cells A 28 f) → w2.heap[B]? = some (.cells A 28 f)) := fun B A f h9 => ((KT.refl 2 w1).grown N1.out g2).box (H1.out B A f h9) (by decide)
  clear n2 g2 N1 O1 B1 c4 H1
  go_wp2_with fail
  go_ret
  exact ⟨by rw [← HK.out]; rfl, O2.out, by rw [← HK.out]; exact N2.out, B2.out, H2.out⟩
set_option maxRecDepth 100000 in
set_option maxHeartbeats 2000000 in
theorem heldLine_any (w : World) (k0 n1 n2 : Nat) (k : Int) (m : Bool) (p : ByteArray) (vo vn : Value) (ho : RdO w vo (mkOs k0 n1)) (hn : Rd .i64 w vn (marks64 ((k0 + 5 * n1 : Nat) : Int) n2)) (hk : k0 ≤ 1048576) (h1 : n1 ≤ 1048576) (h2 : n2 ≤ 1048576) :
    Calls Tryz.prog 11 #[.agg #[.int .i64 k, vo, .bool m, .string p, vn], .int .i64 k0] w fun e w' => e = .returned (.int .i64 (((k0 + 5 * n1 : Nat) : Int) + (n2 : Int))) ∧ Below w.heap.size w w' := by
  have B0 : Hid (Below w.heap.size w (w.alloc (.cells #[.int .i64 k, vo, .bool m, .string p, vn] 28))) := (Below.refl _ _).alloc (Nat.le_refl _) _
  have O0 := hd9 (ho.below B0.out)
  have N0 := hd9 (hn.below B0.out)
  have s0 : (w.alloc (.cells #[.int .i64 k, vo, .bool m, .string p, vn] 28)).heap.size = w.heap.size + 1 := by simp
  clear ho hn
  go_enter Tryz.func11, Tryz.ntmps11
  go_wp2_with fail
  refine (heldRequest_any _ vo k0 n1 O0.out hk h1).mono ?_
  rintro e w1 ⟨rfl, b1⟩
  have c4 : w1.cell? ⟨w.heap.size, 4, none⟩ = some vn := (b1.cell (p := ⟨w.heap.size, 4, none⟩) (by simp)).trans (by go_simp)
  have N1 := hd9 (N0.out.below b1)
  have B1 := hd9 (B0.out.trans (b1.mono (by rw [s0]; omega)))
  clear b1 O0 N0 s0
  obtain ⟨K, hK⟩ : ∃ K : Nat, K = k0 + 5 * n1 := ⟨_, rfl⟩
  have hK2 : K ≤ 10000000 := by omega
  rw [← hK]
  rw [← hK] at N1
  have HK := hd9 hK
  have hK0 : ¬ ((K : Nat) : Int) < 0 := by omega
  have hK3 : ¬ ((K : Nat) : Int) + (n2 : Int) < 0 := by omega
  clear hK
  go_wp2_with fail
  refine (heldInt64S_any _ vn n2 (K : Int) N1.out (by omega) (by omega) (by omega)).mono ?_
  rintro e w2 ⟨rfl, hw2⟩
  subst hw2
  go_wp2_with fail
  go_ret
  exact ⟨by rw [← HK.out]; rfl, B1.out⟩

end Go.Proofs.YtmjliomhhgahkaaGreatDoor
namespace Go.Proofs.YtmjliomhhgahkaaGreatDoor
open Go.RowKit

set_option maxHeartbeats 400000 in
theorem markByteS_row (w : World) (base g n cap : Nat) (xs : List Int) (k : Int) (hx : xs.length = n) (hown : Own .u8 5 w base (.slice (some ⟨g, 0, none⟩) n cap) xs) (hk0 : 0 ≤ k) (hk1 : k ≤ 1099511627776) (hn : n ≤ 1099511627776) :
    Calls Tryz.prog 9 #[.slice (some ⟨g, 0, none⟩) n cap, .int .i64 k] w fun e w' => e = .returned (.int .i64 (k + n)) ∧ Own .u8 5 w' base (.slice (some ⟨g, 0, none⟩) n cap) (marks k n) ∧ w.grownBy w' (some g) := by
  have HX := hd9 hx
  clear hx
  go_enter Tryz.func9, Tryz.ntmps9
  go_wp2
  go_loopw [1, 5] (fun kk i wr => ∃ j : Nat, j ≤ n ∧ i = .int .i64 j ∧ kk = .int .i64 (k + j) ∧ Own .u8 5 wr base (.slice (some ⟨g, 0, none⟩) n cap) (mix (marks k n) xs j) ∧ w.grownBy wr (some g)) (fun _ i _ => n - (intOf i).toNat)
  case atStart => exact ⟨0, Nat.zero_le _, rfl, by go_num, by rw [mix_zero]; exact hown, World.grownBy.refl _ _⟩
  case round =>
    obtain ⟨j, hj, rfl, rfl, ho, hg⟩ := hrel
    by_cases hlt : j < n
    · have ho' : wr.ownsRow base 5 1 (.slice (some ⟨g, 0, none⟩) n cap) n ((mix (marks k n) xs j).map (Value.int .u8)) := by
        have := ho; unfold Own at this; rw [mix_length (by rw [marks_length, HX.out]), HX.out] at this; exact this
      have hf := World.ownsRow.frozenAt ho' j
      have hc : ∃ c, wr.cell? ⟨g, j, none⟩ = some c := ⟨_, (World.ownsRow.cellAt ho' j (by omega)).trans (List.getElem?_eq_getElem (by simp [mix_length (show (marks k n).length = xs.length by rw [marks_length, HX.out]), HX.out]; exact hlt))⟩
      obtain ⟨c, hc⟩ := hc
      have HO := hd9 ho
      clear ho ho'
      have hltI : (j : Int) < (n : Int) := by omega
      go_wp2
      go_roundw
      case rel => exact ⟨j + 1, by omega, by go_num, by go_num, Own.mixed (by rw [marks_length, HX.out]) HX.out (by rw [HX.out]; exact hlt) HO.out (by rw [marks_getD _ _ _ hlt]), grownBy_set _ _ _ _ _ hg⟩
      case measure => simp [intOf]; omega
    · have hjn : j = n := by omega
      subst hjn
      go_wp2
      go_ret
      exact ⟨rfl, by rw [mix_all (by rw [marks_length, HX.out]) (by rw [HX.out]; exact Nat.le_refl _)] at ho; exact ho, hg⟩

set_option maxHeartbeats 400000 in
theorem markByteS_nil (w : World) (k : Int) : Calls Tryz.prog 9 #[.slice none 0 0, .int .i64 k] w fun e w' => e = .returned (.int .i64 k) ∧ w' = w := by
  go_enter Tryz.func9, Tryz.ntmps9
  go_wp2
  go_rounds 1
  go_ret
  exact ⟨rfl, rfl⟩

theorem markByteS_any (w : World) (base : Nat) (v : Value) (xs : List Int) (k : Int) (hown : Own .u8 5 w base v xs) (hk0 : 0 ≤ k) (hk1 : k ≤ 1099511627776) (hn : xs.length ≤ 1099511627776) :
    Calls Tryz.prog 9 #[v, .int .i64 k] w fun e w' => e = .returned (.int .i64 (k + xs.length)) ∧ Own .u8 5 w' base v (marks k xs.length) ∧ w.grownBy w' v.ownBlock := by
  rcases hown.row with ⟨rfl, rfl⟩ | ⟨g, cap, rfl, _⟩
  · refine (markByteS_nil w k).mono ?_
    rintro e w' ⟨rfl, rfl⟩
    exact ⟨ret_int (by simp), World.ownsRow_nil _ _ _ _, World.grownBy.refl _ _⟩
  · exact markByteS_row w base g xs.length cap xs k rfl hown hk0 hk1 hn

end Go.Proofs.YtmjliomhhgahkaaGreatDoor


