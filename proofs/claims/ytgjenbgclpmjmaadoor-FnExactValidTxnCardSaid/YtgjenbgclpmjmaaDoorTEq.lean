import Derived.Test.YtgjenbgclpmjmaaDoorTTo
import Derived.Deep.RegionWith
namespace Go.Proofs.YtgjenbgclpmjmaaDoor
open Go.RowKit

theorem OwnN.setBelow {e : TypeId} {w : World} {lo : Nat} {v : Value} {ns : List Nd} (h : OwnN e w lo v ns) {a : Addr} (ha : a.block < lo) (u : Value) : OwnN e (w.setCell a u) lo v ns := ownsRow_setCell_below h ha u

set_option maxHeartbeats 1000000 in
set_option maxRecDepth 100000 in
theorem toTree_any (w : World) (v : Value) (ns : List Nd) (h : RdN w v ns) (hn : ns.length ≤ 1048576) :
    Calls Tryd.prog 16 #[.agg #[v]] w fun e w' => ∃ a c, e = .returned (.agg #[.slice a ns.length c]) ∧ OwnN 81 w' w.heap.size (.slice a ns.length c) ns ∧ Below w.heap.size w w' := by
  obtain ⟨ao, cap, rfl, k1, k2⟩ := h.len
  have HB : Hid (∀ o1 o2 o3, Below w.heap.size w (((w.alloc o1).alloc o2).alloc o3)) := fun o1 o2 o3 => (((Below.refl _ _).alloc (Nat.le_refl _) _).alloc (by simp) _).alloc (by simp; omega) _
  have HR : Hid (RdN w (.slice ao ns.length cap) ns) := h
  clear h
  go_enter Tryd.func16, Tryd.ntmps16
  go_wp2_with fail
  refine (toNodeS_any _ _ ns (HR.out.below (HB.out _ _ _)) hn).mono ?_
  rintro e w1 ⟨v1, rfl, o1, b1⟩
  obtain ⟨a1, c1, rfl⟩ := o1.slice
  have cR : w1.cell? ⟨w.heap.size + 1, 0, none⟩ = some (.slice none 0 0) := (b1.cell (p := ⟨w.heap.size + 1, 0, none⟩) (by simp)).trans (by go_simp)
  have fR : w1.frozen? ⟨w.heap.size + 1, 0, none⟩ = false := (b1.frozen (p := ⟨w.heap.size + 1, 0, none⟩) (by simp)).trans (by go_simp)
  have cO : w1.cell? ⟨w.heap.size + 2, 0, none⟩ = some (.slice none 0 0) := (b1.cell (p := ⟨w.heap.size + 2, 0, none⟩) (by simp)).trans (by go_simp)
  have fO : w1.frozen? ⟨w.heap.size + 2, 0, none⟩ = false := (b1.frozen (p := ⟨w.heap.size + 2, 0, none⟩) (by simp)).trans (by go_simp)
  have O1 : Hid (OwnN 81 w1 (w.heap.size + 3) (.slice a1 ns.length c1) ns) := by have := o1; simp at this; exact this
  have z1 : w.heap.size + 3 ≤ w1.heap.size := by have := b1.size; simp at this; omega
  have B1 : Hid (Below w.heap.size w w1) := (HB.out _ _ _).trans (b1.mono (by simp; omega))
  clear o1 b1
  go_wp2
  refine bodyPost_ret (v := .agg #[.slice a1 ns.length c1]) (by simp [results, Tryd.results16, go_sem, cR]) rfl ⟨a1, c1, rfl, ?_, ?_⟩
  · refine OwnN.mono ?_ (show w.heap.size ≤ w.heap.size + 3 by omega)
    repeat (first | exact O1.out | refine OwnN.setBelow ?_ (by simp; try omega) _)
  · repeat (first | exact B1.out | refine Below.setCell ?_ (by simp; try omega) _)

set_option maxHeartbeats 1000000 in
set_option maxRecDepth 100000 in
theorem eqNode_same (w : World) (n : Nd) :
    Calls Tryd.prog 104 #[.agg #[.string n.path, .string n.data, .int .i64 n.ver, .int .i64 n.cver, .int .i64 n.cz, .int .i64 n.mz, .int .i64 n.pz], .agg #[.string n.path, .string n.data, .int .i64 n.ver, .int .i64 n.cver, .int .i64 n.cz, .int .i64 n.mz, .int .i64 n.pz]] w fun e w' => e = .returned (.bool true) ∧ Below w.heap.size w w' := by
  have HB : Hid (∀ o1 o2, Below w.heap.size w ((w.alloc o1).alloc o2)) := fun o1 o2 => ((Below.refl _ _).alloc (Nat.le_refl _) _).alloc (by simp) _
  go_enter Tryd.func104, Tryd.ntmps104
  go_wp2
  go_ret
  exact ⟨rfl, HB.out _ _⟩

set_option maxHeartbeats 1000000 in
set_option maxRecDepth 100000 in
theorem eqNodeS_row (w : World) (b o b2 o2 n ca cb : Nat) (ns : List Nd) (hn : n ≤ 1048576) (hb : b < w.heap.size) (hb2 : b2 < w.heap.size)
    (hc : ∀ i, i < n → CellsN w b (o + i * 7) (nAt ns i)) (hc2 : ∀ i, i < n → CellsN w b2 (o2 + i * 7) (nAt ns i)) :
    Calls Tryd.prog 61 #[.slice (some ⟨b, o, none⟩) n ca, .slice (some ⟨b2, o2, none⟩) n cb] w fun e w' => e = .returned (.bool true) ∧ Below w.heap.size w w' := by
  have HC : Hid (∀ i, i < n → CellsN w b (o + i * 7) (nAt ns i)) := hc
  have HC2 : Hid (∀ i, i < n → CellsN w b2 (o2 + i * 7) (nAt ns i)) := hc2
  clear hc hc2
  have h1 : ((n : Int) != (n : Int)) = false := by simp
  go_enter Tryd.func61, Tryd.ntmps61
  go_wp2
  go_loopw [5] (fun i wr => ∃ k : Nat, k ≤ n ∧ i = .int .i64 k ∧ Hid (Below w.heap.size w wr)) (fun i _ => n - (intOf i).toNat)
  case atStart => exact ⟨0, Nat.zero_le _, rfl, Below.refl _ _⟩
  case round =>
    obtain ⟨k, hk, rfl, HG⟩ := hrel
    by_cases hlt : k < n
    · obtain ⟨c0, c1, c2, c3, c4, c5, c6⟩ := (HC.out k hlt).below HG.out hb
      obtain ⟨d0, d1, d2, d3, d4, d5, d6⟩ := (HC2.out k hlt).below HG.out hb2
      have hltI : (k : Int) < (n : Int) := by omega
      have HE : Hid (∀ q, Calls Tryd.prog 104 #[.agg #[.string (nAt ns k).path, .string (nAt ns k).data, .int .i64 (nAt ns k).ver, .int .i64 (nAt ns k).cver, .int .i64 (nAt ns k).cz, .int .i64 (nAt ns k).mz, .int .i64 (nAt ns k).pz], .agg #[.string (nAt ns k).path, .string (nAt ns k).data, .int .i64 (nAt ns k).ver, .int .i64 (nAt ns k).cver, .int .i64 (nAt ns k).cz, .int .i64 (nAt ns k).mz, .int .i64 (nAt ns k).pz]] (wr.drewN q) fun e w' => e = .returned (.bool true) ∧ Below w.heap.size w w') := by
        intro q
        refine (eqNode_same _ (nAt ns k)).mono ?_
        rintro e w' ⟨rfl, b'⟩
        exact ⟨rfl, (HG.out.trans ((below_drewN' wr q).mono HG.out.size)).trans (b'.mono HG.out.size)⟩
      go_wp2
      go_region_with (go_at_call 104; refine (HE.out 1).mono ?_; rintro e w' ⟨rfl, b'⟩)
      all_goals
        have HB : Hid (Below w.heap.size w w') := b'
        clear b'
        go_wp2
        go_roundw
        case rel => exact ⟨k + 1, by omega, by go_num, HB⟩
        case measure => simp [intOf]; omega
    · go_wp2
      go_ret
      exact ⟨rfl, HG.out⟩

set_option maxHeartbeats 400000 in
theorem eqNodeS_nil (w : World) (ao bo : Option Addr) (ca cb : Nat) :
    Calls Tryd.prog 61 #[.slice ao 0 ca, .slice bo 0 cb] w fun e w' => e = .returned (.bool true) ∧ w' = w := by
  go_enter Tryd.func61, Tryd.ntmps61
  go_wp2
  go_rounds 1
  go_ret
  exact ⟨rfl, rfl⟩

theorem eqNodeS_same (w : World) (va vb : Value) (ns : List Nd) (ha : RdN w va ns) (hb : RdN w vb ns) (hn : ns.length ≤ 1048576) :
    Calls Tryd.prog 61 #[va, vb] w fun e w' => e = .returned (.bool true) ∧ Below w.heap.size w w' := by
  obtain ⟨ao, ca, rfl, h1, h2, h3⟩ := ha
  obtain ⟨bo, cb, rfl, k1, k2, k3⟩ := hb
  rcases h3 with rfl | ⟨b, o, rfl, hb, hc⟩
  · refine (eqNodeS_nil w ao bo ca cb).mono ?_
    rintro e w' ⟨rfl, rfl⟩
    exact ⟨rfl, Below.refl _ _⟩
  · rcases k3 with rfl | ⟨b2, o2, rfl, hb2, hc2⟩
    · refine (eqNodeS_nil w _ bo ca cb).mono ?_
      rintro e w' ⟨rfl, rfl⟩
      exact ⟨rfl, Below.refl _ _⟩
    · exact eqNodeS_row w b o b2 o2 ns.length ca cb ns hn hb hb2 hc hc2

set_option maxHeartbeats 400000 in
theorem eqTree_same (w : World) (va vb : Value) (ns : List Nd) (ha : RdN w va ns) (hb : RdN w vb ns) (hn : ns.length ≤ 1048576) :
    Calls Tryd.prog 18 #[.agg #[va], .agg #[vb]] w fun e w' => e = .returned (.bool true) ∧ Below w.heap.size w w' := by
  have B0 : Hid (Below w.heap.size w ((w.alloc (.cells #[va] 30)).alloc (.cells #[vb] 30))) := ((Below.refl _ _).alloc (Nat.le_refl _) _).alloc (by simp) _
  have RA : Hid (RdN ((w.alloc (.cells #[va] 30)).alloc (.cells #[vb] 30)) va ns) := ha.below B0.out
  have RB : Hid (RdN ((w.alloc (.cells #[va] 30)).alloc (.cells #[vb] 30)) vb ns) := hb.below B0.out
  clear ha hb
  go_enter Tryd.func18, Tryd.ntmps18
  go_wp2_with fail
  refine (eqNodeS_same _ _ _ ns RA.out RB.out hn).mono ?_
  rintro e w1 ⟨rfl, b1⟩
  have B1 : Hid (Below w.heap.size w w1) := B0.out.trans (b1.mono (by simp; omega))
  clear b1
  go_wp2
  go_ret
  exact ⟨rfl, B1.out⟩

end Go.Proofs.YtgjenbgclpmjmaaDoor
