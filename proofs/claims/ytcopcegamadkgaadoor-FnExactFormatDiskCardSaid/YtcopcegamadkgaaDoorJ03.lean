import Derived.Test.YtcopcegamadkgaaDoorJ02
import Derived.Lib.AppendZeros
import Derived.Lib.AppendStr
import Derived.Laws.BytesArg
import Derived.Lib.ConvBytes
import Derived.Test.YtcopcegamadkgaaDoorRows
namespace Go.Proofs.YtcopcegamadkgaaDoor
open Go.RowKit

set_option maxHeartbeats 400000 in
theorem sorted_nil (w : World) (ao : Option Addr) (cap : Nat) :
    Calls Tryd.prog 55 #[.slice ao 0 cap] w fun e w' => e = .returned (.bool true) ∧ w' = w := by
  go_enter Tryd.func55, Tryd.ntmps55
  go_wp2
  go_rounds 1
  go_ret
  exact ⟨rfl, rfl⟩

theorem sorted_any (w : World) (v : Value) (ns : List Nd) (h : RdN w v ns) (hn : ns.length ≤ 1048576) (hsz : ∀ i, (nAt ns i).path.size ≤ 1048576 ∧ (nAt ns i).data.size ≤ 1048576) :
    Calls Tryd.prog 55 #[v] w fun e w' => e = .returned (.bool (okSorted ns)) ∧ Below w.heap.size w w' := by
  obtain ⟨ao, cap, rfl, k1, k2, k3⟩ := h
  rcases k3 with rfl | ⟨b, o, rfl, hb, hc⟩
  · refine (sorted_nil w ao cap).mono ?_
    rintro e w' ⟨rfl, rfl⟩
    exact ⟨rfl, Below.refl _ _⟩
  · exact sorted_row w b o ns.length cap ns rfl hn hb hsz hc

set_option maxHeartbeats 1000000 in
set_option maxRecDepth 100000 in
theorem specTree_any (w : World) (v : Value) (ns : List Nd) (h : RdN w v ns) (hn : ns.length ≤ 1048576) (hsz : ∀ i, (nAt ns i).path.size ≤ 1048576 ∧ (nAt ns i).data.size ≤ 1048576) :
    Calls Tryd.prog 14 #[.agg #[v]] w fun e w' => e = .returned (.bool (okTree ns)) ∧ Below w.heap.size w w' := by
  obtain ⟨ao, cap, rfl, k1, k2⟩ := h.len
  have B0 : Hid (Below w.heap.size w (w.alloc (.cells #[.slice ao ns.length cap] 36))) := (Below.refl _ _).alloc (Nat.le_refl _) _
  have HR : Hid (RdN (w.alloc (.cells #[.slice ao ns.length cap] 36)) (.slice ao ns.length cap) ns) := h.below B0.out
  clear h
  by_cases h1 : ns.length ≤ 1000
  · have h1I : (ns.length : Int) ≤ 1000 := by omega
    have HE : Hid (okTree ns = okSorted ns) := by show _ = _; unfold okTree; rw [decide_eq_true h1]; rfl
    go_enter Tryd.func14, Tryd.ntmps14
    go_wp2_with fail
    refine (sorted_any _ _ ns HR.out hn hsz).mono ?_
    rintro e w1 ⟨rfl, b1⟩
    have B1 : Hid (Below w.heap.size w w1) := B0.out.trans (b1.mono (by simp))
    clear b1
    go_wp2
    go_ret
    exact ⟨ret_b HE.out.symm, B1.out⟩
  · have h1I : ¬ (ns.length : Int) ≤ 1000 := by omega
    have HE : Hid (okTree ns = false) := by show _ = _; unfold okTree; rw [decide_eq_false h1]; rfl
    go_enter Tryd.func14, Tryd.ntmps14
    go_wp2
    go_ret
    exact ⟨ret_b HE.out.symm, B0.out⟩

theorem BoxN.all {w : World} {B : Nat} {n : Nd} (h : BoxN w B n) : w.cell? ⟨B, 0, none⟩ = some (.string n.path) ∧ w.cell? ⟨B, 1, none⟩ = some (.string n.data) ∧ w.cell? ⟨B, 2, none⟩ = some (.int .i64 n.ver) ∧ w.cell? ⟨B, 3, none⟩ = some (.int .i64 n.cver) ∧ w.cell? ⟨B, 4, none⟩ = some (.int .i64 n.cz) ∧ w.cell? ⟨B, 5, none⟩ = some (.int .i64 n.mz) ∧ w.cell? ⟨B, 6, none⟩ = some (.int .i64 n.pz) := ⟨h.c0, h.c1, h.c2, h.c3, h.c4, h.c5, h.c6⟩

set_option maxHeartbeats 4000000 in
set_option maxRecDepth 100000 in
theorem implTree_row (w : World) (b o n cap : Nat) (ns : List Nd) (hp : ns.length = n) (hn : n ≤ 1000) (hb : b < w.heap.size) (hsz : ∀ i, (nAt ns i).path.size ≤ 1048576 ∧ (nAt ns i).data.size ≤ 1048576)
    (hc : ∀ i, i < n → CellsN w b (o + i * 7) (nAt ns i)) :
    Calls Tryd.prog 15 #[.agg #[.slice (some ⟨b, o, none⟩) n cap]] w fun e w' => e = .returned (.bool (okSorted ns)) ∧ Below w.heap.size w w' := by
  have HC : Hid (∀ i, i < n → CellsN w b (o + i * 7) (nAt ns i)) := hc
  have HP : Hid (ns.length = n) := hp
  have HZ : Hid (∀ i, (nAt ns i).path.size ≤ 1048576 ∧ (nAt ns i).data.size ≤ 1048576) := hsz
  have h1I : ¬ (1000 : Int) < (n : Int) := by omega
  clear hc hp hsz
  have B0 : Hid (Below w.heap.size w (w.alloc (.cells #[.slice (some ⟨b, o, none⟩) n cap] 36))) := (Below.refl _ _).alloc (Nat.le_refl _) _
  have c00 : Hid ((w.alloc (.cells #[.slice (some ⟨b, o, none⟩) n cap] 36)).cell? ⟨w.heap.size, 0, none⟩ = some (.slice (some ⟨b, o, none⟩) n cap)) := by show _ = _; simp
  have z0 : w.heap.size < (w.alloc (.cells #[.slice (some ⟨b, o, none⟩) n cap] 36)).heap.size := by simp
  go_enter Tryd.func15, Tryd.ntmps15
  go_wp2
  generalize w.alloc (.cells #[.slice (some ⟨b, o, none⟩) n cap] 36) = w0 at *
  go_loopw [12] (fun i wr => ∃ k : Nat, k ≤ n ∧ i = .int .i64 k ∧ Hid (∀ t, t < k → okAt ns t = true) ∧ Hid (Below w0.heap.size w0 wr)) (fun i _ => n - (intOf i).toNat)
  case atStart => exact ⟨0, Nat.zero_le _, rfl, (fun t ht => by omega), Below.refl _ _⟩
  case round =>
    obtain ⟨k, hk, rfl, HA, HG⟩ := hrel
    have HG0 : Hid (Below w.heap.size w wr) := B0.out.trans (HG.out.mono (by omega))
    by_cases hlt : k < n
    · have hltI : (k : Int) < (n : Int) := by omega
      have g0 : (0 : Int) ≤ (k : Int) := by omega
      have HLT : Hid (k < ns.length) := by rw [HP.out]; exact hlt
      obtain ⟨c0, c1, c2, c3, c4, c5, c6⟩ := (HC.out k hlt).below HG0.out hb
      have XN : Hid (BoxN (wr.alloc (.cells #[.string (nAt ns k).path, .string (nAt ns k).data, .int .i64 (nAt ns k).ver, .int .i64 (nAt ns k).cver, .int .i64 (nAt ns k).cz, .int .i64 (nAt ns k).mz, .int .i64 (nAt ns k).pz] 84)) wr.heap.size (nAt ns k)) := BoxN.new _ _ _
      have BN : Hid (Below wr.heap.size wr (wr.alloc (.cells #[.string (nAt ns k).path, .string (nAt ns k).data, .int .i64 (nAt ns k).ver, .int .i64 (nAt ns k).cver, .int .i64 (nAt ns k).cz, .int .i64 (nAt ns k).mz, .int .i64 (nAt ns k).pz] 84))) := (Below.refl _ _).alloc (Nat.le_refl _) _
      go_wp2
      clear c0 c1 c2 c3 c4 c5 c6
      generalize wr.alloc (.cells #[.string (nAt ns k).path, .string (nAt ns k).data, .int .i64 (nAt ns k).ver, .int .i64 (nAt ns k).cver, .int .i64 (nAt ns k).cz, .int .i64 (nAt ns k).mz, .int .i64 (nAt ns k).pz] 84) = wn at *
      have zr := HG.out.size
      obtain ⟨B, hB⟩ : ∃ B, B = wr.heap.size := ⟨_, rfl⟩
      rw [← hB] at XN
      rw [← hB]
      have HBn : Hid (∀ W, Below wn.heap.size wn W → Below w.heap.size w W) := fun W hW => (HG0.out.trans (BN.out.mono HG0.out.size)).trans (hW.mono (Nat.le_trans HG0.out.size BN.out.size))
      have HBz : Hid (∀ W, Below wn.heap.size wn W → Hid (Below w0.heap.size w0 W)) := fun W hW => (HG.out.trans (BN.out.mono HG.out.size)).trans (hW.mono (Nat.le_trans HG.out.size BN.out.size))
      have CT : Hid (∀ W, Below wn.heap.size wn W → W.cell? ⟨w.heap.size, 0, none⟩ = some (.slice (some ⟨b, o, none⟩) n cap)) := fun W hW => ((HBz.out W hW).out.cell (p := ⟨w.heap.size, 0, none⟩) z0).trans c00.out
      have HE : Hid (∀ q, Calls Tryd.prog 56 #[.agg #[.string (nAt ns k).path, .string (nAt ns k).data, .int .i64 (nAt ns k).ver, .int .i64 (nAt ns k).cver, .int .i64 (nAt ns k).cz, .int .i64 (nAt ns k).mz, .int .i64 (nAt ns k).pz]] (wn.drewN q) fun e w' => e = .returned (.bool (okNd (nAt ns k))) ∧ Hid (Below wn.heap.size wn w')) := by
        intro q
        refine (implNode_any _ (nAt ns k) (HZ.out k).2).mono ?_
        rintro e w' ⟨rfl, b'⟩
        exact ⟨rfl, (below_drewN' wn q).trans b'⟩
      have HD : Hid (Below wn.heap.size wn wn.drew) := below_drewN' wn 1
      have HHB : Hid (B = wr.heap.size) := hB
      clear hB BN
      cases hok : okNd (nAt ns k) with
      | false =>
        have HOK : Hid (okNd (nAt ns k) = false) := hok
        have HN : Hid (okSorted ns = false) := sorted_no HLT.out (by unfold okAt; rw [hok]; rfl)
        clear hok
        refine wp_region_held_drew (S := fun W => Hid (Below wn.heap.size wn W) ∧ (W.cell? ⟨B, 0, none⟩ = some (.string (nAt ns k).path) ∧ W.cell? ⟨B, 1, none⟩ = some (.string (nAt ns k).data) ∧ W.cell? ⟨B, 2, none⟩ = some (.int .i64 (nAt ns k).ver) ∧ W.cell? ⟨B, 3, none⟩ = some (.int .i64 (nAt ns k).cver) ∧ W.cell? ⟨B, 4, none⟩ = some (.int .i64 (nAt ns k).cz) ∧ W.cell? ⟨B, 5, none⟩ = some (.int .i64 (nAt ns k).mz) ∧ W.cell? ⟨B, 6, none⟩ = some (.int .i64 (nAt ns k).pz))) (by kernel_rfl) (⟨HD, (XN.out.below HD.out).all⟩) (fun hHeld => ?_)
        refine wpAnyH_take (i := 0) (oi := { dst := some 17, op := _, type := _, pos := _, after := _, guard := _ }) (v := ?v1) rfl (by kernel_rfl) (by kernel_rfl) (by kernel_rfl) (fun _ _ _ h => h) (Or.inl ⟨by rfl, ?hy1⟩) (by assumption) ?rest1
        case hy1 =>
          intro w9 hS9
          obtain ⟨-, hS9⟩ := hS9
          go_simp
          try with_reducible rfl
        try simp only [Act.put, List.setIfInBounds_toArray, List.set_cons_zero, List.set_cons_succ]
        refine wpAnyH_ready (rs := [1]) (by kernel_rfl) (by simp) ?_
        refine AllReadyH.cons (o := { dst := some 18, op := _, type := _, pos := _, after := _, guard := _ }) rfl (fun K hK => ?_) AllReadyH.nil
        go_simp
        refine (HE.out 1).mono ?_
        rintro e w' ⟨rfl, HB⟩
        rw [HOK.out]
        refine hK.out _ _ ((show (fun W => Hid (Below wn.heap.size wn W) ∧ (W.cell? ⟨B, 0, none⟩ = some (.string (nAt ns k).path) ∧ W.cell? ⟨B, 1, none⟩ = some (.string (nAt ns k).data) ∧ W.cell? ⟨B, 2, none⟩ = some (.int .i64 (nAt ns k).ver) ∧ W.cell? ⟨B, 3, none⟩ = some (.int .i64 (nAt ns k).cver) ∧ W.cell? ⟨B, 4, none⟩ = some (.int .i64 (nAt ns k).cz) ∧ W.cell? ⟨B, 5, none⟩ = some (.int .i64 (nAt ns k).mz) ∧ W.cell? ⟨B, 6, none⟩ = some (.int .i64 (nAt ns k).pz))) w' from ⟨HB, (XN.out.below HB.out).all⟩)) (fun _ => ?_)
        clear hK K hHeld
        have hHeld := (show (fun W => Hid (Below wn.heap.size wn W) ∧ (W.cell? ⟨B, 0, none⟩ = some (.string (nAt ns k).path) ∧ W.cell? ⟨B, 1, none⟩ = some (.string (nAt ns k).data) ∧ W.cell? ⟨B, 2, none⟩ = some (.int .i64 (nAt ns k).ver) ∧ W.cell? ⟨B, 3, none⟩ = some (.int .i64 (nAt ns k).cver) ∧ W.cell? ⟨B, 4, none⟩ = some (.int .i64 (nAt ns k).cz) ∧ W.cell? ⟨B, 5, none⟩ = some (.int .i64 (nAt ns k).mz) ∧ W.cell? ⟨B, 6, none⟩ = some (.int .i64 (nAt ns k).pz))) w' from ⟨HB, (XN.out.below HB.out).all⟩)
        try simp only [Act.put, List.setIfInBounds_toArray, List.set_cons_zero, List.set_cons_succ]
        refine wpAnyH_take (i := 2) (oi := { dst := some 19, op := _, type := _, pos := _, after := _, guard := _ }) (v := ?v2) rfl (by kernel_rfl) (by kernel_rfl) (by kernel_rfl) (fun _ _ _ h => h) (Or.inl ⟨by rfl, ?hy2⟩) (by assumption) ?rest2
        case hy2 =>
          intro w9 hS9
          obtain ⟨-, hS9⟩ := hS9
          go_simp
          try with_reducible rfl
        try simp only [Act.put, List.setIfInBounds_toArray, List.set_cons_zero, List.set_cons_succ]
        refine wpAnyH_take (i := 3) (oi := { dst := some 20, op := _, type := _, pos := _, after := _, guard := _ }) (v := ?v3) rfl (by kernel_rfl) (by kernel_rfl) (by kernel_rfl) (fun _ _ _ h => h) (Or.inl ⟨by rfl, ?hy3⟩) (by assumption) ?rest3
        case hy3 =>
          intro w9 hS9
          obtain ⟨-, hS9⟩ := hS9
          go_simp
          try with_reducible rfl
        try simp only [Act.put, List.setIfInBounds_toArray, List.set_cons_zero, List.set_cons_succ]
        refine wpAnyH_take (i := 4) (oi := { dst := some 21, op := _, type := _, pos := _, after := _, guard := _ }) (v := undef) rfl (by kernel_rfl) (by kernel_rfl) (by kernel_rfl) (fun _ _ _ h => h) (Or.inr ⟨by rfl, rfl⟩) (by assumption) ?_
        try simp only [Act.put, List.setIfInBounds_toArray, List.set_cons_zero, List.set_cons_succ]
        refine wpAnyH_take (i := 5) (oi := { dst := some 22, op := _, type := _, pos := _, after := _, guard := _ }) (v := undef) rfl (by kernel_rfl) (by kernel_rfl) (by kernel_rfl) (fun _ _ _ h => h) (Or.inr ⟨by rfl, rfl⟩) (by assumption) ?_
        try simp only [Act.put, List.setIfInBounds_toArray, List.set_cons_zero, List.set_cons_succ]
        refine wpAnyH_take (i := 6) (oi := { dst := some 23, op := _, type := _, pos := _, after := _, guard := _ }) (v := undef) rfl (by kernel_rfl) (by kernel_rfl) (by kernel_rfl) (fun _ _ _ h => h) (Or.inr ⟨by rfl, rfl⟩) (by assumption) ?_
        try simp only [Act.put, List.setIfInBounds_toArray, List.set_cons_zero, List.set_cons_succ]
        refine wpAnyH_take (i := 7) (oi := { dst := some 24, op := _, type := _, pos := _, after := _, guard := _ }) (v := undef) rfl (by kernel_rfl) (by kernel_rfl) (by kernel_rfl) (fun _ _ _ h => h) (Or.inr ⟨by rfl, rfl⟩) (by assumption) ?_
        try simp only [Act.put, List.setIfInBounds_toArray, List.set_cons_zero, List.set_cons_succ]
        refine wpAnyH_take (i := 8) (oi := { dst := some 25, op := _, type := _, pos := _, after := _, guard := _ }) (v := undef) rfl (by kernel_rfl) (by kernel_rfl) (by kernel_rfl) (fun _ _ _ h => h) (Or.inr ⟨by rfl, rfl⟩) (by assumption) ?_
        try simp only [Act.put, List.setIfInBounds_toArray, List.set_cons_zero, List.set_cons_succ]
        refine wpAnyH_take (i := 9) (oi := { dst := some 26, op := _, type := _, pos := _, after := _, guard := _ }) (v := undef) rfl (by kernel_rfl) (by kernel_rfl) (by kernel_rfl) (fun _ _ _ h => h) (Or.inr ⟨by rfl, rfl⟩) (by assumption) ?_
        try simp only [Act.put, List.setIfInBounds_toArray, List.set_cons_zero, List.set_cons_succ]
        refine wpAnyH_take (i := 10) (oi := { dst := some 27, op := _, type := _, pos := _, after := _, guard := _ }) (v := undef) rfl (by kernel_rfl) (by kernel_rfl) (by kernel_rfl) (fun _ _ _ h => h) (Or.inr ⟨by rfl, rfl⟩) (by assumption) ?_
        try simp only [Act.put, List.setIfInBounds_toArray, List.set_cons_zero, List.set_cons_succ]
        refine wpAnyH_take (i := 11) (oi := { dst := some 28, op := _, type := _, pos := _, after := _, guard := _ }) (v := undef) rfl (by kernel_rfl) (by kernel_rfl) (by kernel_rfl) (fun _ _ _ h => h) (Or.inr ⟨by rfl, rfl⟩) (by assumption) ?_
        try simp only [Act.put, List.setIfInBounds_toArray, List.set_cons_zero, List.set_cons_succ]
        refine wpAnyH_take (i := 12) (oi := { dst := some 29, op := _, type := _, pos := _, after := _, guard := _ }) (v := undef) rfl (by kernel_rfl) (by kernel_rfl) (by kernel_rfl) (fun _ _ _ h => h) (Or.inr ⟨by rfl, rfl⟩) (by assumption) ?_
        try simp only [Act.put, List.setIfInBounds_toArray, List.set_cons_zero, List.set_cons_succ]
        refine wpAnyH_take (i := 13) (oi := { dst := some 30, op := _, type := _, pos := _, after := _, guard := _ }) (v := undef) rfl (by kernel_rfl) (by kernel_rfl) (by kernel_rfl) (fun _ _ _ h => h) (Or.inr ⟨by rfl, rfl⟩) (by assumption) ?_
        try simp only [Act.put, List.setIfInBounds_toArray, List.set_cons_zero, List.set_cons_succ]
        refine wpAnyH_take (i := 14) (oi := { dst := some 31, op := _, type := _, pos := _, after := _, guard := _ }) (v := undef) rfl (by kernel_rfl) (by kernel_rfl) (by kernel_rfl) (fun _ _ _ h => h) (Or.inr ⟨by rfl, rfl⟩) (by assumption) ?_
        try simp only [Act.put, List.setIfInBounds_toArray, List.set_cons_zero, List.set_cons_succ]
        refine wpAnyH_take (i := 15) (oi := { dst := some 32, op := _, type := _, pos := _, after := _, guard := _ }) (v := undef) rfl (by kernel_rfl) (by kernel_rfl) (by kernel_rfl) (fun _ _ _ h => h) (Or.inr ⟨by rfl, rfl⟩) (by assumption) ?_
        try simp only [Act.put, List.setIfInBounds_toArray, List.set_cons_zero, List.set_cons_succ]
        refine wpAnyH_take (i := 16) (oi := { dst := some 33, op := _, type := _, pos := _, after := _, guard := _ }) (v := undef) rfl (by kernel_rfl) (by kernel_rfl) (by kernel_rfl) (fun _ _ _ h => h) (Or.inr ⟨by rfl, rfl⟩) (by assumption) ?_
        try simp only [Act.put, List.setIfInBounds_toArray, List.set_cons_zero, List.set_cons_succ]
        refine wpAnyH_take (i := 17) (oi := { dst := some 34, op := _, type := _, pos := _, after := _, guard := _ }) (v := undef) rfl (by kernel_rfl) (by kernel_rfl) (by kernel_rfl) (fun _ _ _ h => h) (Or.inr ⟨by rfl, rfl⟩) (by assumption) ?_
        try simp only [Act.put, List.setIfInBounds_toArray, List.set_cons_zero, List.set_cons_succ]
        refine wpAnyH_take (i := 18) (oi := { dst := some 35, op := _, type := _, pos := _, after := _, guard := _ }) (v := ?v4) rfl (by kernel_rfl) (by kernel_rfl) (by kernel_rfl) (fun _ _ _ h => h) (Or.inl ⟨by rfl, ?hy4⟩) (by assumption) ?rest4
        case hy4 =>
          intro w9 hS9
          obtain ⟨-, hS9⟩ := hS9
          go_simp
          try with_reducible rfl
        try simp only [Act.put, List.setIfInBounds_toArray, List.set_cons_zero, List.set_cons_succ]
        refine wpAnyH_done (by kernel_rfl) ?_ _
        clear hHeld
        go_wp2
        go_ret
        exact ⟨ret_b HN.out.symm, HBn.out _ HB.out⟩
      | true =>
        have HOK : Hid (okNd (nAt ns k) = true) := hok
        clear hok
        cases k with
        | zero =>
          have HT : Hid (okAt ns 0 = true) := by show _ = _; rw [okAt_zero]; exact HOK.out
          have g2 : (0 : Int) < (n : Int) := by omega
          refine wp_region_held_drew (S := fun W => Hid (Below wn.heap.size wn W) ∧ (W.cell? ⟨B, 0, none⟩ = some (.string (nAt ns 0).path) ∧ W.cell? ⟨B, 1, none⟩ = some (.string (nAt ns 0).data) ∧ W.cell? ⟨B, 2, none⟩ = some (.int .i64 (nAt ns 0).ver) ∧ W.cell? ⟨B, 3, none⟩ = some (.int .i64 (nAt ns 0).cver) ∧ W.cell? ⟨B, 4, none⟩ = some (.int .i64 (nAt ns 0).cz) ∧ W.cell? ⟨B, 5, none⟩ = some (.int .i64 (nAt ns 0).mz) ∧ W.cell? ⟨B, 6, none⟩ = some (.int .i64 (nAt ns 0).pz))) (by kernel_rfl) (⟨HD, (XN.out.below HD.out).all⟩) (fun hHeld => ?_)
          refine wpAnyH_take (i := 0) (oi := { dst := some 17, op := _, type := _, pos := _, after := _, guard := _ }) (v := ?v5) rfl (by kernel_rfl) (by kernel_rfl) (by kernel_rfl) (fun _ _ _ h => h) (Or.inl ⟨by rfl, ?hy5⟩) (by assumption) ?rest5
          case hy5 =>
            intro w9 hS9
            obtain ⟨-, hS9⟩ := hS9
            go_simp
            try with_reducible rfl
          try simp only [Act.put, List.setIfInBounds_toArray, List.set_cons_zero, List.set_cons_succ]
          refine wpAnyH_ready (rs := [1]) (by kernel_rfl) (by simp) ?_
          refine AllReadyH.cons (o := { dst := some 18, op := _, type := _, pos := _, after := _, guard := _ }) rfl (fun K hK => ?_) AllReadyH.nil
          go_simp
          refine (HE.out 1).mono ?_
          rintro e w' ⟨rfl, HB⟩
          rw [HOK.out]
          refine hK.out _ _ ((show (fun W => Hid (Below wn.heap.size wn W) ∧ (W.cell? ⟨B, 0, none⟩ = some (.string (nAt ns 0).path) ∧ W.cell? ⟨B, 1, none⟩ = some (.string (nAt ns 0).data) ∧ W.cell? ⟨B, 2, none⟩ = some (.int .i64 (nAt ns 0).ver) ∧ W.cell? ⟨B, 3, none⟩ = some (.int .i64 (nAt ns 0).cver) ∧ W.cell? ⟨B, 4, none⟩ = some (.int .i64 (nAt ns 0).cz) ∧ W.cell? ⟨B, 5, none⟩ = some (.int .i64 (nAt ns 0).mz) ∧ W.cell? ⟨B, 6, none⟩ = some (.int .i64 (nAt ns 0).pz))) w' from ⟨HB, (XN.out.below HB.out).all⟩)) (fun _ => ?_)
          clear hK K hHeld
          have hHeld := (show (fun W => Hid (Below wn.heap.size wn W) ∧ (W.cell? ⟨B, 0, none⟩ = some (.string (nAt ns 0).path) ∧ W.cell? ⟨B, 1, none⟩ = some (.string (nAt ns 0).data) ∧ W.cell? ⟨B, 2, none⟩ = some (.int .i64 (nAt ns 0).ver) ∧ W.cell? ⟨B, 3, none⟩ = some (.int .i64 (nAt ns 0).cver) ∧ W.cell? ⟨B, 4, none⟩ = some (.int .i64 (nAt ns 0).cz) ∧ W.cell? ⟨B, 5, none⟩ = some (.int .i64 (nAt ns 0).mz) ∧ W.cell? ⟨B, 6, none⟩ = some (.int .i64 (nAt ns 0).pz))) w' from ⟨HB, (XN.out.below HB.out).all⟩)
          try simp only [Act.put, List.setIfInBounds_toArray, List.set_cons_zero, List.set_cons_succ]
          refine wpAnyH_take (i := 2) (oi := { dst := some 19, op := _, type := _, pos := _, after := _, guard := _ }) (v := ?v6) rfl (by kernel_rfl) (by kernel_rfl) (by kernel_rfl) (fun _ _ _ h => h) (Or.inl ⟨by rfl, ?hy6⟩) (by assumption) ?rest6
          case hy6 =>
            intro w9 hS9
            obtain ⟨-, hS9⟩ := hS9
            go_simp
            try with_reducible rfl
          try simp only [Act.put, List.setIfInBounds_toArray, List.set_cons_zero, List.set_cons_succ]
          refine wpAnyH_take (i := 3) (oi := { dst := some 20, op := _, type := _, pos := _, after := _, guard := _ }) (v := ?v7) rfl (by kernel_rfl) (by kernel_rfl) (by kernel_rfl) (fun _ _ _ h => h) (Or.inl ⟨by rfl, ?hy7⟩) (by assumption) ?rest7
          case hy7 =>
            intro w9 hS9
            obtain ⟨-, hS9⟩ := hS9
            go_simp
            try with_reducible rfl
          try simp only [Act.put, List.setIfInBounds_toArray, List.set_cons_zero, List.set_cons_succ]
          refine wpAnyH_take (i := 4) (oi := { dst := some 21, op := _, type := _, pos := _, after := _, guard := _ }) (v := ?v8) rfl (by kernel_rfl) (by kernel_rfl) (by kernel_rfl) (fun _ _ _ h => h) (Or.inl ⟨by rfl, ?hy8⟩) (by assumption) ?rest8
          case hy8 =>
            intro w9 hS9
            obtain ⟨-, hS9⟩ := hS9
            go_simp
            try with_reducible rfl
          try simp only [Act.put, List.setIfInBounds_toArray, List.set_cons_zero, List.set_cons_succ]
          refine wpAnyH_take (i := 5) (oi := { dst := some 22, op := _, type := _, pos := _, after := _, guard := _ }) (v := ?v9) rfl (by kernel_rfl) (by kernel_rfl) (by kernel_rfl) (fun _ _ _ h => h) (Or.inl ⟨by rfl, ?hy9⟩) (by assumption) ?rest9
          case hy9 =>
            intro w9 hS9
            obtain ⟨-, hS9⟩ := hS9
            go_simp
            try with_reducible rfl
          try simp only [Act.put, List.setIfInBounds_toArray, List.set_cons_zero, List.set_cons_succ]
          refine wpAnyH_take (i := 6) (oi := { dst := some 23, op := _, type := _, pos := _, after := _, guard := _ }) (v := ?v10) rfl (by kernel_rfl) (by kernel_rfl) (by kernel_rfl) (fun _ _ _ h => h) (Or.inl ⟨by rfl, ?hy10⟩) (by assumption) ?rest10
          case hy10 =>
            intro w9 hS9
            obtain ⟨-, hS9⟩ := hS9
            go_simp
            try with_reducible rfl
          try simp only [Act.put, List.setIfInBounds_toArray, List.set_cons_zero, List.set_cons_succ]
          refine wpAnyH_take (i := 7) (oi := { dst := some 24, op := _, type := _, pos := _, after := _, guard := _ }) (v := undef) rfl (by kernel_rfl) (by kernel_rfl) (by kernel_rfl) (fun _ _ _ h => h) (Or.inr ⟨by rfl, rfl⟩) (by assumption) ?_
          try simp only [Act.put, List.setIfInBounds_toArray, List.set_cons_zero, List.set_cons_succ]
          refine wpAnyH_take (i := 8) (oi := { dst := some 25, op := _, type := _, pos := _, after := _, guard := _ }) (v := undef) rfl (by kernel_rfl) (by kernel_rfl) (by kernel_rfl) (fun _ _ _ h => h) (Or.inr ⟨by rfl, rfl⟩) (by assumption) ?_
          try simp only [Act.put, List.setIfInBounds_toArray, List.set_cons_zero, List.set_cons_succ]
          refine wpAnyH_take (i := 9) (oi := { dst := some 26, op := _, type := _, pos := _, after := _, guard := _ }) (v := undef) rfl (by kernel_rfl) (by kernel_rfl) (by kernel_rfl) (fun _ _ _ h => h) (Or.inr ⟨by rfl, rfl⟩) (by assumption) ?_
          try simp only [Act.put, List.setIfInBounds_toArray, List.set_cons_zero, List.set_cons_succ]
          refine wpAnyH_take (i := 10) (oi := { dst := some 27, op := _, type := _, pos := _, after := _, guard := _ }) (v := undef) rfl (by kernel_rfl) (by kernel_rfl) (by kernel_rfl) (fun _ _ _ h => h) (Or.inr ⟨by rfl, rfl⟩) (by assumption) ?_
          try simp only [Act.put, List.setIfInBounds_toArray, List.set_cons_zero, List.set_cons_succ]
          refine wpAnyH_take (i := 11) (oi := { dst := some 28, op := _, type := _, pos := _, after := _, guard := _ }) (v := undef) rfl (by kernel_rfl) (by kernel_rfl) (by kernel_rfl) (fun _ _ _ h => h) (Or.inr ⟨by rfl, rfl⟩) (by assumption) ?_
          try simp only [Act.put, List.setIfInBounds_toArray, List.set_cons_zero, List.set_cons_succ]
          refine wpAnyH_take (i := 12) (oi := { dst := some 29, op := _, type := _, pos := _, after := _, guard := _ }) (v := undef) rfl (by kernel_rfl) (by kernel_rfl) (by kernel_rfl) (fun _ _ _ h => h) (Or.inr ⟨by rfl, rfl⟩) (by assumption) ?_
          try simp only [Act.put, List.setIfInBounds_toArray, List.set_cons_zero, List.set_cons_succ]
          refine wpAnyH_take (i := 13) (oi := { dst := some 30, op := _, type := _, pos := _, after := _, guard := _ }) (v := undef) rfl (by kernel_rfl) (by kernel_rfl) (by kernel_rfl) (fun _ _ _ h => h) (Or.inr ⟨by rfl, rfl⟩) (by assumption) ?_
          try simp only [Act.put, List.setIfInBounds_toArray, List.set_cons_zero, List.set_cons_succ]
          refine wpAnyH_take (i := 14) (oi := { dst := some 31, op := _, type := _, pos := _, after := _, guard := _ }) (v := undef) rfl (by kernel_rfl) (by kernel_rfl) (by kernel_rfl) (fun _ _ _ h => h) (Or.inr ⟨by rfl, rfl⟩) (by assumption) ?_
          try simp only [Act.put, List.setIfInBounds_toArray, List.set_cons_zero, List.set_cons_succ]
          refine wpAnyH_take (i := 15) (oi := { dst := some 32, op := _, type := _, pos := _, after := _, guard := _ }) (v := undef) rfl (by kernel_rfl) (by kernel_rfl) (by kernel_rfl) (fun _ _ _ h => h) (Or.inr ⟨by rfl, rfl⟩) (by assumption) ?_
          try simp only [Act.put, List.setIfInBounds_toArray, List.set_cons_zero, List.set_cons_succ]
          refine wpAnyH_take (i := 16) (oi := { dst := some 33, op := _, type := _, pos := _, after := _, guard := _ }) (v := undef) rfl (by kernel_rfl) (by kernel_rfl) (by kernel_rfl) (fun _ _ _ h => h) (Or.inr ⟨by rfl, rfl⟩) (by assumption) ?_
          try simp only [Act.put, List.setIfInBounds_toArray, List.set_cons_zero, List.set_cons_succ]
          refine wpAnyH_take (i := 17) (oi := { dst := some 34, op := _, type := _, pos := _, after := _, guard := _ }) (v := ?v11) rfl (by kernel_rfl) (by kernel_rfl) (by kernel_rfl) (fun _ _ _ h => h) (Or.inl ⟨by rfl, ?hy11⟩) (by assumption) ?rest11
          case hy11 =>
            intro w9 hS9
            obtain ⟨-, hS9⟩ := hS9
            go_simp
            try with_reducible rfl
          try simp only [Act.put, List.setIfInBounds_toArray, List.set_cons_zero, List.set_cons_succ]
          refine wpAnyH_take (i := 18) (oi := { dst := some 35, op := _, type := _, pos := _, after := _, guard := _ }) (v := ?v12) rfl (by kernel_rfl) (by kernel_rfl) (by kernel_rfl) (fun _ _ _ h => h) (Or.inl ⟨by rfl, ?hy12⟩) (by assumption) ?rest12
          case hy12 =>
            intro w9 hS9
            obtain ⟨-, hS9⟩ := hS9
            go_simp
            try with_reducible rfl
          try simp only [Act.put, List.setIfInBounds_toArray, List.set_cons_zero, List.set_cons_succ]
          refine wpAnyH_done (by kernel_rfl) ?_ _
          clear hHeld
          go_wp2
          go_roundw
          case rel => exact ⟨0 + 1, by omega, by go_num, (fun t ht => by by_cases e : t = 0; (subst e; exact HT.out); exact HA.out t (by omega)), HBz.out _ HB.out⟩
          case measure => simp [intOf]; omega
        | succ j =>
          have g1 : (0 : Int) ≤ (j : Int) + 1 := by omega
          have g2 : (j : Int) + 1 < (n : Int) := by omega
          have g3 : (0 : Int) ≤ (j : Int) := by omega
          have g4 : (j : Int) < (n : Int) := by omega
          have g5 : (0 : Int) < (j : Int) + 1 := by omega
          have g6 : IntKind.i64.wrap (j : Int) = (j : Int) := by rw [IntKind.wrap_i64]; omega
          cases hcmp : ltP (nAt ns j).path (nAt ns (j + 1)).path with
          | true =>
            have HT : Hid (okAt ns (j + 1) = true) := by show _ = _; rw [okAt_succ, HOK.out, hcmp]; rfl
            have l1 : Op.bytesLess (nAt ns j).path.toList (nAt ns (j + 1)).path.toList = true := hcmp
            clear hcmp
            refine wp_region_held_drew (S := fun W => Hid (Below wn.heap.size wn W) ∧ (W.cell? ⟨B, 0, none⟩ = some (.string (nAt ns (j + 1)).path) ∧ W.cell? ⟨B, 1, none⟩ = some (.string (nAt ns (j + 1)).data) ∧ W.cell? ⟨B, 2, none⟩ = some (.int .i64 (nAt ns (j + 1)).ver) ∧ W.cell? ⟨B, 3, none⟩ = some (.int .i64 (nAt ns (j + 1)).cver) ∧ W.cell? ⟨B, 4, none⟩ = some (.int .i64 (nAt ns (j + 1)).cz) ∧ W.cell? ⟨B, 5, none⟩ = some (.int .i64 (nAt ns (j + 1)).mz) ∧ W.cell? ⟨B, 6, none⟩ = some (.int .i64 (nAt ns (j + 1)).pz)) ∧ W.cell? ⟨w.heap.size, 0, none⟩ = some (.slice (some ⟨b, o, none⟩) n cap) ∧ W.cell? ⟨b, o + j * 7, none⟩ = some (.string (nAt ns j).path)) (by kernel_rfl) (⟨HD, (XN.out.below HD.out).all, (CT.out _ HD.out), ((HC.out j (by omega)).below (HBn.out _ HD.out) hb).c0⟩) (fun hHeld => ?_)
            refine wpAnyH_take (i := 0) (oi := { dst := some 17, op := _, type := _, pos := _, after := _, guard := _ }) (v := ?v13) rfl (by kernel_rfl) (by kernel_rfl) (by kernel_rfl) (fun _ _ _ h => h) (Or.inl ⟨by rfl, ?hy13⟩) (by assumption) ?rest13
            case hy13 =>
              intro w9 hS9
              obtain ⟨-, hS9⟩ := hS9
              go_simp
              try with_reducible rfl
            try simp only [Act.put, List.setIfInBounds_toArray, List.set_cons_zero, List.set_cons_succ]
            refine wpAnyH_ready (rs := [1]) (by kernel_rfl) (by simp) ?_
            refine AllReadyH.cons (o := { dst := some 18, op := _, type := _, pos := _, after := _, guard := _ }) rfl (fun K hK => ?_) AllReadyH.nil
            go_simp
            refine (HE.out 1).mono ?_
            rintro e w' ⟨rfl, HB⟩
            rw [HOK.out]
            refine hK.out _ _ ((show (fun W => Hid (Below wn.heap.size wn W) ∧ (W.cell? ⟨B, 0, none⟩ = some (.string (nAt ns (j + 1)).path) ∧ W.cell? ⟨B, 1, none⟩ = some (.string (nAt ns (j + 1)).data) ∧ W.cell? ⟨B, 2, none⟩ = some (.int .i64 (nAt ns (j + 1)).ver) ∧ W.cell? ⟨B, 3, none⟩ = some (.int .i64 (nAt ns (j + 1)).cver) ∧ W.cell? ⟨B, 4, none⟩ = some (.int .i64 (nAt ns (j + 1)).cz) ∧ W.cell? ⟨B, 5, none⟩ = some (.int .i64 (nAt ns (j + 1)).mz) ∧ W.cell? ⟨B, 6, none⟩ = some (.int .i64 (nAt ns (j + 1)).pz)) ∧ W.cell? ⟨w.heap.size, 0, none⟩ = some (.slice (some ⟨b, o, none⟩) n cap) ∧ W.cell? ⟨b, o + j * 7, none⟩ = some (.string (nAt ns j).path)) w' from ⟨HB, (XN.out.below HB.out).all, (CT.out _ HB.out), ((HC.out j (by omega)).below (HBn.out _ HB.out) hb).c0⟩)) (fun _ => ?_)
            clear hK K hHeld
            have hHeld := (show (fun W => Hid (Below wn.heap.size wn W) ∧ (W.cell? ⟨B, 0, none⟩ = some (.string (nAt ns (j + 1)).path) ∧ W.cell? ⟨B, 1, none⟩ = some (.string (nAt ns (j + 1)).data) ∧ W.cell? ⟨B, 2, none⟩ = some (.int .i64 (nAt ns (j + 1)).ver) ∧ W.cell? ⟨B, 3, none⟩ = some (.int .i64 (nAt ns (j + 1)).cver) ∧ W.cell? ⟨B, 4, none⟩ = some (.int .i64 (nAt ns (j + 1)).cz) ∧ W.cell? ⟨B, 5, none⟩ = some (.int .i64 (nAt ns (j + 1)).mz) ∧ W.cell? ⟨B, 6, none⟩ = some (.int .i64 (nAt ns (j + 1)).pz)) ∧ W.cell? ⟨w.heap.size, 0, none⟩ = some (.slice (some ⟨b, o, none⟩) n cap) ∧ W.cell? ⟨b, o + j * 7, none⟩ = some (.string (nAt ns j).path)) w' from ⟨HB, (XN.out.below HB.out).all, (CT.out _ HB.out), ((HC.out j (by omega)).below (HBn.out _ HB.out) hb).c0⟩)
            try simp only [Act.put, List.setIfInBounds_toArray, List.set_cons_zero, List.set_cons_succ]
            refine wpAnyH_take (i := 2) (oi := { dst := some 19, op := _, type := _, pos := _, after := _, guard := _ }) (v := ?v14) rfl (by kernel_rfl) (by kernel_rfl) (by kernel_rfl) (fun _ _ _ h => h) (Or.inl ⟨by rfl, ?hy14⟩) (by assumption) ?rest14
            case hy14 =>
              intro w9 hS9
              obtain ⟨-, hS9⟩ := hS9
              go_simp
              try with_reducible rfl
            try simp only [Act.put, List.setIfInBounds_toArray, List.set_cons_zero, List.set_cons_succ]
            refine wpAnyH_take (i := 3) (oi := { dst := some 20, op := _, type := _, pos := _, after := _, guard := _ }) (v := ?v15) rfl (by kernel_rfl) (by kernel_rfl) (by kernel_rfl) (fun _ _ _ h => h) (Or.inl ⟨by rfl, ?hy15⟩) (by assumption) ?rest15
            case hy15 =>
              intro w9 hS9
              obtain ⟨-, hS9⟩ := hS9
              go_simp
              try with_reducible rfl
            try simp only [Act.put, List.setIfInBounds_toArray, List.set_cons_zero, List.set_cons_succ]
            refine wpAnyH_take (i := 4) (oi := { dst := some 21, op := _, type := _, pos := _, after := _, guard := _ }) (v := ?v16) rfl (by kernel_rfl) (by kernel_rfl) (by kernel_rfl) (fun _ _ _ h => h) (Or.inl ⟨by rfl, ?hy16⟩) (by assumption) ?rest16
            case hy16 =>
              intro w9 hS9
              obtain ⟨-, hS9⟩ := hS9
              go_simp
              try with_reducible rfl
            try simp only [Act.put, List.setIfInBounds_toArray, List.set_cons_zero, List.set_cons_succ]
            refine wpAnyH_take (i := 5) (oi := { dst := some 22, op := _, type := _, pos := _, after := _, guard := _ }) (v := ?v17) rfl (by kernel_rfl) (by kernel_rfl) (by kernel_rfl) (fun _ _ _ h => h) (Or.inl ⟨by rfl, ?hy17⟩) (by assumption) ?rest17
            case hy17 =>
              intro w9 hS9
              obtain ⟨-, hS9⟩ := hS9
              go_simp
              try with_reducible rfl
            try simp only [Act.put, List.setIfInBounds_toArray, List.set_cons_zero, List.set_cons_succ]
            refine wpAnyH_take (i := 6) (oi := { dst := some 23, op := _, type := _, pos := _, after := _, guard := _ }) (v := ?v18) rfl (by kernel_rfl) (by kernel_rfl) (by kernel_rfl) (fun _ _ _ h => h) (Or.inl ⟨by rfl, ?hy18⟩) (by assumption) ?rest18
            case hy18 =>
              intro w9 hS9
              obtain ⟨-, hS9⟩ := hS9
              go_simp
              try with_reducible rfl
            try simp only [Act.put, List.setIfInBounds_toArray, List.set_cons_zero, List.set_cons_succ]
            refine wpAnyH_take (i := 7) (oi := { dst := some 24, op := _, type := _, pos := _, after := _, guard := _ }) (v := ?v19) rfl (by kernel_rfl) (by kernel_rfl) (by kernel_rfl) (fun _ _ _ h => h) (Or.inl ⟨by rfl, ?hy19⟩) (by assumption) ?rest19
            case hy19 =>
              intro w9 hS9
              obtain ⟨-, hS9⟩ := hS9
              go_simp
              try with_reducible rfl
            try simp only [Act.put, List.setIfInBounds_toArray, List.set_cons_zero, List.set_cons_succ]
            refine wpAnyH_take (i := 8) (oi := { dst := some 25, op := _, type := _, pos := _, after := _, guard := _ }) (v := ?v20) rfl (by kernel_rfl) (by kernel_rfl) (by kernel_rfl) (fun _ _ _ h => h) (Or.inl ⟨by rfl, ?hy20⟩) (by assumption) ?rest20
            case hy20 =>
              intro w9 hS9
              obtain ⟨-, hS9⟩ := hS9
              go_simp
              try with_reducible rfl
            try simp only [Act.put, List.setIfInBounds_toArray, List.set_cons_zero, List.set_cons_succ]
            refine wpAnyH_take (i := 9) (oi := { dst := some 26, op := _, type := _, pos := _, after := _, guard := _ }) (v := ?v21) rfl (by kernel_rfl) (by kernel_rfl) (by kernel_rfl) (fun _ _ _ h => h) (Or.inl ⟨by rfl, ?hy21⟩) (by assumption) ?rest21
            case hy21 =>
              intro w9 hS9
              obtain ⟨-, hS9⟩ := hS9
              go_simp
              try with_reducible rfl
            try simp only [Act.put, List.setIfInBounds_toArray, List.set_cons_zero, List.set_cons_succ]
            refine wpAnyH_take (i := 10) (oi := { dst := some 27, op := _, type := _, pos := _, after := _, guard := _ }) (v := ?v22) rfl (by kernel_rfl) (by kernel_rfl) (by kernel_rfl) (fun _ _ _ h => h) (Or.inl ⟨by rfl, ?hy22⟩) (by assumption) ?rest22
            case hy22 =>
              intro w9 hS9
              obtain ⟨-, hS9⟩ := hS9
              go_simp
              try with_reducible rfl
            try simp only [Act.put, List.setIfInBounds_toArray, List.set_cons_zero, List.set_cons_succ]
            refine wpAnyH_take (i := 11) (oi := { dst := some 28, op := _, type := _, pos := _, after := _, guard := _ }) (v := ?v23) rfl (by kernel_rfl) (by kernel_rfl) (by kernel_rfl) (fun _ _ _ h => h) (Or.inl ⟨by rfl, ?hy23⟩) (by assumption) ?rest23
            case hy23 =>
              intro w9 hS9
              obtain ⟨-, hS9⟩ := hS9
              go_simp
              try with_reducible rfl
            try simp only [Act.put, List.setIfInBounds_toArray, List.set_cons_zero, List.set_cons_succ]
            refine wpAnyH_take (i := 12) (oi := { dst := some 29, op := _, type := _, pos := _, after := _, guard := _ }) (v := ?v24) rfl (by kernel_rfl) (by kernel_rfl) (by kernel_rfl) (fun _ _ _ h => h) (Or.inl ⟨by rfl, ?hy24⟩) (by assumption) ?rest24
            case hy24 =>
              intro w9 hS9
              obtain ⟨-, hS9⟩ := hS9
              go_simp
              try with_reducible rfl
            try simp only [Act.put, List.setIfInBounds_toArray, List.set_cons_zero, List.set_cons_succ]
            refine wpAnyH_take (i := 13) (oi := { dst := some 30, op := _, type := _, pos := _, after := _, guard := _ }) (v := ?v25) rfl (by kernel_rfl) (by kernel_rfl) (by kernel_rfl) (fun _ _ _ h => h) (Or.inl ⟨by rfl, ?hy25⟩) (by assumption) ?rest25
            case hy25 =>
              intro w9 hS9
              obtain ⟨-, hS9⟩ := hS9
              go_simp
              try with_reducible rfl
            try simp only [Act.put, List.setIfInBounds_toArray, List.set_cons_zero, List.set_cons_succ]
            refine wpAnyH_take (i := 14) (oi := { dst := some 31, op := _, type := _, pos := _, after := _, guard := _ }) (v := ?v26) rfl (by kernel_rfl) (by kernel_rfl) (by kernel_rfl) (fun _ _ _ h => h) (Or.inl ⟨by rfl, ?hy26⟩) (by assumption) ?rest26
            case hy26 =>
              intro w9 hS9
              obtain ⟨-, hS9⟩ := hS9
              go_simp
              try with_reducible rfl
            try simp only [Act.put, List.setIfInBounds_toArray, List.set_cons_zero, List.set_cons_succ]
            refine wpAnyH_take (i := 15) (oi := { dst := some 32, op := _, type := _, pos := _, after := _, guard := _ }) (v := ?v27) rfl (by kernel_rfl) (by kernel_rfl) (by kernel_rfl) (fun _ _ _ h => h) (Or.inl ⟨by rfl, ?hy27⟩) (by assumption) ?rest27
            case hy27 =>
              intro w9 hS9
              obtain ⟨-, hS9⟩ := hS9
              go_simp
              try with_reducible rfl
            try simp only [Act.put, List.setIfInBounds_toArray, List.set_cons_zero, List.set_cons_succ]
            refine wpAnyH_take (i := 16) (oi := { dst := some 33, op := _, type := _, pos := _, after := _, guard := _ }) (v := ?v28) rfl (by kernel_rfl) (by kernel_rfl) (by kernel_rfl) (fun _ _ _ h => h) (Or.inl ⟨by rfl, ?hy28⟩) (by assumption) ?rest28
            case hy28 =>
              intro w9 hS9
              obtain ⟨-, hS9⟩ := hS9
              go_simp
              try with_reducible rfl
            try simp only [Act.put, List.setIfInBounds_toArray, List.set_cons_zero, List.set_cons_succ]
            refine wpAnyH_take (i := 17) (oi := { dst := some 34, op := _, type := _, pos := _, after := _, guard := _ }) (v := ?v29) rfl (by kernel_rfl) (by kernel_rfl) (by kernel_rfl) (fun _ _ _ h => h) (Or.inl ⟨by rfl, ?hy29⟩) (by assumption) ?rest29
            case hy29 =>
              intro w9 hS9
              obtain ⟨-, hS9⟩ := hS9
              go_simp
              try with_reducible rfl
            try simp only [Act.put, List.setIfInBounds_toArray, List.set_cons_zero, List.set_cons_succ]
            refine wpAnyH_take (i := 18) (oi := { dst := some 35, op := _, type := _, pos := _, after := _, guard := _ }) (v := ?v30) rfl (by kernel_rfl) (by kernel_rfl) (by kernel_rfl) (fun _ _ _ h => h) (Or.inl ⟨by rfl, ?hy30⟩) (by assumption) ?rest30
            case hy30 =>
              intro w9 hS9
              obtain ⟨-, hS9⟩ := hS9
              go_simp
              try with_reducible rfl
            try simp only [Act.put, List.setIfInBounds_toArray, List.set_cons_zero, List.set_cons_succ]
            refine wpAnyH_done (by kernel_rfl) ?_ _
            clear hHeld
            go_wp2
            go_roundw
            case rel => exact ⟨(j + 1) + 1, by omega, by go_num, (fun t ht => by by_cases e : t = (j + 1); (subst e; exact HT.out); exact HA.out t (by omega)), HBz.out _ HB.out⟩
            case measure => simp [intOf]; omega
          | false =>
            have HN : Hid (okSorted ns = false) := sorted_no HLT.out (by rw [okAt_succ, hcmp, Bool.and_false])
            have l1 : Op.bytesLess (nAt ns j).path.toList (nAt ns (j + 1)).path.toList = false := hcmp
            clear hcmp
            refine wp_region_held_drew (S := fun W => Hid (Below wn.heap.size wn W) ∧ (W.cell? ⟨B, 0, none⟩ = some (.string (nAt ns (j + 1)).path) ∧ W.cell? ⟨B, 1, none⟩ = some (.string (nAt ns (j + 1)).data) ∧ W.cell? ⟨B, 2, none⟩ = some (.int .i64 (nAt ns (j + 1)).ver) ∧ W.cell? ⟨B, 3, none⟩ = some (.int .i64 (nAt ns (j + 1)).cver) ∧ W.cell? ⟨B, 4, none⟩ = some (.int .i64 (nAt ns (j + 1)).cz) ∧ W.cell? ⟨B, 5, none⟩ = some (.int .i64 (nAt ns (j + 1)).mz) ∧ W.cell? ⟨B, 6, none⟩ = some (.int .i64 (nAt ns (j + 1)).pz)) ∧ W.cell? ⟨w.heap.size, 0, none⟩ = some (.slice (some ⟨b, o, none⟩) n cap) ∧ W.cell? ⟨b, o + j * 7, none⟩ = some (.string (nAt ns j).path)) (by kernel_rfl) (⟨HD, (XN.out.below HD.out).all, (CT.out _ HD.out), ((HC.out j (by omega)).below (HBn.out _ HD.out) hb).c0⟩) (fun hHeld => ?_)
            refine wpAnyH_take (i := 0) (oi := { dst := some 17, op := _, type := _, pos := _, after := _, guard := _ }) (v := ?v31) rfl (by kernel_rfl) (by kernel_rfl) (by kernel_rfl) (fun _ _ _ h => h) (Or.inl ⟨by rfl, ?hy31⟩) (by assumption) ?rest31
            case hy31 =>
              intro w9 hS9
              obtain ⟨-, hS9⟩ := hS9
              go_simp
              try with_reducible rfl
            try simp only [Act.put, List.setIfInBounds_toArray, List.set_cons_zero, List.set_cons_succ]
            refine wpAnyH_ready (rs := [1]) (by kernel_rfl) (by simp) ?_
            refine AllReadyH.cons (o := { dst := some 18, op := _, type := _, pos := _, after := _, guard := _ }) rfl (fun K hK => ?_) AllReadyH.nil
            go_simp
            refine (HE.out 1).mono ?_
            rintro e w' ⟨rfl, HB⟩
            rw [HOK.out]
            refine hK.out _ _ ((show (fun W => Hid (Below wn.heap.size wn W) ∧ (W.cell? ⟨B, 0, none⟩ = some (.string (nAt ns (j + 1)).path) ∧ W.cell? ⟨B, 1, none⟩ = some (.string (nAt ns (j + 1)).data) ∧ W.cell? ⟨B, 2, none⟩ = some (.int .i64 (nAt ns (j + 1)).ver) ∧ W.cell? ⟨B, 3, none⟩ = some (.int .i64 (nAt ns (j + 1)).cver) ∧ W.cell? ⟨B, 4, none⟩ = some (.int .i64 (nAt ns (j + 1)).cz) ∧ W.cell? ⟨B, 5, none⟩ = some (.int .i64 (nAt ns (j + 1)).mz) ∧ W.cell? ⟨B, 6, none⟩ = some (.int .i64 (nAt ns (j + 1)).pz)) ∧ W.cell? ⟨w.heap.size, 0, none⟩ = some (.slice (some ⟨b, o, none⟩) n cap) ∧ W.cell? ⟨b, o + j * 7, none⟩ = some (.string (nAt ns j).path)) w' from ⟨HB, (XN.out.below HB.out).all, (CT.out _ HB.out), ((HC.out j (by omega)).below (HBn.out _ HB.out) hb).c0⟩)) (fun _ => ?_)
            clear hK K hHeld
            have hHeld := (show (fun W => Hid (Below wn.heap.size wn W) ∧ (W.cell? ⟨B, 0, none⟩ = some (.string (nAt ns (j + 1)).path) ∧ W.cell? ⟨B, 1, none⟩ = some (.string (nAt ns (j + 1)).data) ∧ W.cell? ⟨B, 2, none⟩ = some (.int .i64 (nAt ns (j + 1)).ver) ∧ W.cell? ⟨B, 3, none⟩ = some (.int .i64 (nAt ns (j + 1)).cver) ∧ W.cell? ⟨B, 4, none⟩ = some (.int .i64 (nAt ns (j + 1)).cz) ∧ W.cell? ⟨B, 5, none⟩ = some (.int .i64 (nAt ns (j + 1)).mz) ∧ W.cell? ⟨B, 6, none⟩ = some (.int .i64 (nAt ns (j + 1)).pz)) ∧ W.cell? ⟨w.heap.size, 0, none⟩ = some (.slice (some ⟨b, o, none⟩) n cap) ∧ W.cell? ⟨b, o + j * 7, none⟩ = some (.string (nAt ns j).path)) w' from ⟨HB, (XN.out.below HB.out).all, (CT.out _ HB.out), ((HC.out j (by omega)).below (HBn.out _ HB.out) hb).c0⟩)
            try simp only [Act.put, List.setIfInBounds_toArray, List.set_cons_zero, List.set_cons_succ]
            refine wpAnyH_take (i := 2) (oi := { dst := some 19, op := _, type := _, pos := _, after := _, guard := _ }) (v := ?v32) rfl (by kernel_rfl) (by kernel_rfl) (by kernel_rfl) (fun _ _ _ h => h) (Or.inl ⟨by rfl, ?hy32⟩) (by assumption) ?rest32
            case hy32 =>
              intro w9 hS9
              obtain ⟨-, hS9⟩ := hS9
              go_simp
              try with_reducible rfl
            try simp only [Act.put, List.setIfInBounds_toArray, List.set_cons_zero, List.set_cons_succ]
            refine wpAnyH_take (i := 3) (oi := { dst := some 20, op := _, type := _, pos := _, after := _, guard := _ }) (v := ?v33) rfl (by kernel_rfl) (by kernel_rfl) (by kernel_rfl) (fun _ _ _ h => h) (Or.inl ⟨by rfl, ?hy33⟩) (by assumption) ?rest33
            case hy33 =>
              intro w9 hS9
              obtain ⟨-, hS9⟩ := hS9
              go_simp
              try with_reducible rfl
            try simp only [Act.put, List.setIfInBounds_toArray, List.set_cons_zero, List.set_cons_succ]
            refine wpAnyH_take (i := 4) (oi := { dst := some 21, op := _, type := _, pos := _, after := _, guard := _ }) (v := ?v34) rfl (by kernel_rfl) (by kernel_rfl) (by kernel_rfl) (fun _ _ _ h => h) (Or.inl ⟨by rfl, ?hy34⟩) (by assumption) ?rest34
            case hy34 =>
              intro w9 hS9
              obtain ⟨-, hS9⟩ := hS9
              go_simp
              try with_reducible rfl
            try simp only [Act.put, List.setIfInBounds_toArray, List.set_cons_zero, List.set_cons_succ]
            refine wpAnyH_take (i := 5) (oi := { dst := some 22, op := _, type := _, pos := _, after := _, guard := _ }) (v := ?v35) rfl (by kernel_rfl) (by kernel_rfl) (by kernel_rfl) (fun _ _ _ h => h) (Or.inl ⟨by rfl, ?hy35⟩) (by assumption) ?rest35
            case hy35 =>
              intro w9 hS9
              obtain ⟨-, hS9⟩ := hS9
              go_simp
              try with_reducible rfl
            try simp only [Act.put, List.setIfInBounds_toArray, List.set_cons_zero, List.set_cons_succ]
            refine wpAnyH_take (i := 6) (oi := { dst := some 23, op := _, type := _, pos := _, after := _, guard := _ }) (v := ?v36) rfl (by kernel_rfl) (by kernel_rfl) (by kernel_rfl) (fun _ _ _ h => h) (Or.inl ⟨by rfl, ?hy36⟩) (by assumption) ?rest36
            case hy36 =>
              intro w9 hS9
              obtain ⟨-, hS9⟩ := hS9
              go_simp
              try with_reducible rfl
            try simp only [Act.put, List.setIfInBounds_toArray, List.set_cons_zero, List.set_cons_succ]
            refine wpAnyH_take (i := 7) (oi := { dst := some 24, op := _, type := _, pos := _, after := _, guard := _ }) (v := ?v37) rfl (by kernel_rfl) (by kernel_rfl) (by kernel_rfl) (fun _ _ _ h => h) (Or.inl ⟨by rfl, ?hy37⟩) (by assumption) ?rest37
            case hy37 =>
              intro w9 hS9
              obtain ⟨-, hS9⟩ := hS9
              go_simp
              try with_reducible rfl
            try simp only [Act.put, List.setIfInBounds_toArray, List.set_cons_zero, List.set_cons_succ]
            refine wpAnyH_take (i := 8) (oi := { dst := some 25, op := _, type := _, pos := _, after := _, guard := _ }) (v := ?v38) rfl (by kernel_rfl) (by kernel_rfl) (by kernel_rfl) (fun _ _ _ h => h) (Or.inl ⟨by rfl, ?hy38⟩) (by assumption) ?rest38
            case hy38 =>
              intro w9 hS9
              obtain ⟨-, hS9⟩ := hS9
              go_simp
              try with_reducible rfl
            try simp only [Act.put, List.setIfInBounds_toArray, List.set_cons_zero, List.set_cons_succ]
            refine wpAnyH_take (i := 9) (oi := { dst := some 26, op := _, type := _, pos := _, after := _, guard := _ }) (v := ?v39) rfl (by kernel_rfl) (by kernel_rfl) (by kernel_rfl) (fun _ _ _ h => h) (Or.inl ⟨by rfl, ?hy39⟩) (by assumption) ?rest39
            case hy39 =>
              intro w9 hS9
              obtain ⟨-, hS9⟩ := hS9
              go_simp
              try with_reducible rfl
            try simp only [Act.put, List.setIfInBounds_toArray, List.set_cons_zero, List.set_cons_succ]
            refine wpAnyH_take (i := 10) (oi := { dst := some 27, op := _, type := _, pos := _, after := _, guard := _ }) (v := ?v40) rfl (by kernel_rfl) (by kernel_rfl) (by kernel_rfl) (fun _ _ _ h => h) (Or.inl ⟨by rfl, ?hy40⟩) (by assumption) ?rest40
            case hy40 =>
              intro w9 hS9
              obtain ⟨-, hS9⟩ := hS9
              go_simp
              try with_reducible rfl
            try simp only [Act.put, List.setIfInBounds_toArray, List.set_cons_zero, List.set_cons_succ]
            refine wpAnyH_take (i := 11) (oi := { dst := some 28, op := _, type := _, pos := _, after := _, guard := _ }) (v := ?v41) rfl (by kernel_rfl) (by kernel_rfl) (by kernel_rfl) (fun _ _ _ h => h) (Or.inl ⟨by rfl, ?hy41⟩) (by assumption) ?rest41
            case hy41 =>
              intro w9 hS9
              obtain ⟨-, hS9⟩ := hS9
              go_simp
              try with_reducible rfl
            try simp only [Act.put, List.setIfInBounds_toArray, List.set_cons_zero, List.set_cons_succ]
            refine wpAnyH_take (i := 12) (oi := { dst := some 29, op := _, type := _, pos := _, after := _, guard := _ }) (v := ?v42) rfl (by kernel_rfl) (by kernel_rfl) (by kernel_rfl) (fun _ _ _ h => h) (Or.inl ⟨by rfl, ?hy42⟩) (by assumption) ?rest42
            case hy42 =>
              intro w9 hS9
              obtain ⟨-, hS9⟩ := hS9
              go_simp
              try with_reducible rfl
            try simp only [Act.put, List.setIfInBounds_toArray, List.set_cons_zero, List.set_cons_succ]
            refine wpAnyH_take (i := 13) (oi := { dst := some 30, op := _, type := _, pos := _, after := _, guard := _ }) (v := ?v43) rfl (by kernel_rfl) (by kernel_rfl) (by kernel_rfl) (fun _ _ _ h => h) (Or.inl ⟨by rfl, ?hy43⟩) (by assumption) ?rest43
            case hy43 =>
              intro w9 hS9
              obtain ⟨-, hS9⟩ := hS9
              go_simp
              try with_reducible rfl
            try simp only [Act.put, List.setIfInBounds_toArray, List.set_cons_zero, List.set_cons_succ]
            refine wpAnyH_take (i := 14) (oi := { dst := some 31, op := _, type := _, pos := _, after := _, guard := _ }) (v := ?v44) rfl (by kernel_rfl) (by kernel_rfl) (by kernel_rfl) (fun _ _ _ h => h) (Or.inl ⟨by rfl, ?hy44⟩) (by assumption) ?rest44
            case hy44 =>
              intro w9 hS9
              obtain ⟨-, hS9⟩ := hS9
              go_simp
              try with_reducible rfl
            try simp only [Act.put, List.setIfInBounds_toArray, List.set_cons_zero, List.set_cons_succ]
            refine wpAnyH_take (i := 15) (oi := { dst := some 32, op := _, type := _, pos := _, after := _, guard := _ }) (v := ?v45) rfl (by kernel_rfl) (by kernel_rfl) (by kernel_rfl) (fun _ _ _ h => h) (Or.inl ⟨by rfl, ?hy45⟩) (by assumption) ?rest45
            case hy45 =>
              intro w9 hS9
              obtain ⟨-, hS9⟩ := hS9
              go_simp
              try with_reducible rfl
            try simp only [Act.put, List.setIfInBounds_toArray, List.set_cons_zero, List.set_cons_succ]
            refine wpAnyH_take (i := 16) (oi := { dst := some 33, op := _, type := _, pos := _, after := _, guard := _ }) (v := ?v46) rfl (by kernel_rfl) (by kernel_rfl) (by kernel_rfl) (fun _ _ _ h => h) (Or.inl ⟨by rfl, ?hy46⟩) (by assumption) ?rest46
            case hy46 =>
              intro w9 hS9
              obtain ⟨-, hS9⟩ := hS9
              go_simp
              try with_reducible rfl
            try simp only [Act.put, List.setIfInBounds_toArray, List.set_cons_zero, List.set_cons_succ]
            refine wpAnyH_take (i := 17) (oi := { dst := some 34, op := _, type := _, pos := _, after := _, guard := _ }) (v := ?v47) rfl (by kernel_rfl) (by kernel_rfl) (by kernel_rfl) (fun _ _ _ h => h) (Or.inl ⟨by rfl, ?hy47⟩) (by assumption) ?rest47
            case hy47 =>
              intro w9 hS9
              obtain ⟨-, hS9⟩ := hS9
              go_simp
              try with_reducible rfl
            try simp only [Act.put, List.setIfInBounds_toArray, List.set_cons_zero, List.set_cons_succ]
            refine wpAnyH_take (i := 18) (oi := { dst := some 35, op := _, type := _, pos := _, after := _, guard := _ }) (v := ?v48) rfl (by kernel_rfl) (by kernel_rfl) (by kernel_rfl) (fun _ _ _ h => h) (Or.inl ⟨by rfl, ?hy48⟩) (by assumption) ?rest48
            case hy48 =>
              intro w9 hS9
              obtain ⟨-, hS9⟩ := hS9
              go_simp
              try with_reducible rfl
            try simp only [Act.put, List.setIfInBounds_toArray, List.set_cons_zero, List.set_cons_succ]
            refine wpAnyH_done (by kernel_rfl) ?_ _
            clear hHeld
            go_wp2
            go_ret
            exact ⟨ret_b HN.out.symm, HBn.out _ HB.out⟩
    · have HY : Hid (okSorted ns = true) := sorted_yes (fun t ht => HA.out t (by rw [HP.out] at ht; omega))
      go_wp2
      go_ret
      exact ⟨ret_b HY.out.symm, HG0.out⟩

set_option maxHeartbeats 400000 in
theorem implTree_nil (w : World) (ao : Option Addr) (cap : Nat) :
    Calls Tryd.prog 15 #[.agg #[.slice ao 0 cap]] w fun e w' => e = .returned (.bool true) ∧ Below w.heap.size w w' := by
  go_enter Tryd.func15, Tryd.ntmps15
  go_wp2
  go_rounds 1
  go_ret
  exact ⟨rfl, (Below.refl _ _).alloc (Nat.le_refl _) _⟩

set_option maxHeartbeats 400000 in
theorem implTree_long (w : World) (ao : Option Addr) (n cap : Nat) (h : 1000 < n) :
    Calls Tryd.prog 15 #[.agg #[.slice ao n cap]] w fun e w' => e = .returned (.bool false) ∧ Below w.heap.size w w' := by
  have h1I : (1000 : Int) < (n : Int) := by omega
  go_enter Tryd.func15, Tryd.ntmps15
  go_wp2
  go_ret
  exact ⟨rfl, (Below.refl _ _).alloc (Nat.le_refl _) _⟩

theorem implTree_any (w : World) (v : Value) (ns : List Nd) (h : RdN w v ns) (hsz : ∀ i, (nAt ns i).path.size ≤ 1048576 ∧ (nAt ns i).data.size ≤ 1048576) :
    Calls Tryd.prog 15 #[.agg #[v]] w fun e w' => e = .returned (.bool (okTree ns)) ∧ Below w.heap.size w w' := by
  obtain ⟨ao, cap, rfl, k1, k2, k3⟩ := h
  by_cases hl : 1000 < ns.length
  · have : okTree ns = false := by unfold okTree; rw [decide_eq_false (by omega)]; rfl
    rw [this]
    exact implTree_long w ao ns.length cap hl
  · have : okTree ns = okSorted ns := by unfold okTree; rw [decide_eq_true (by omega)]; rfl
    rw [this]
    rcases k3 with rfl | ⟨b, o, rfl, hb, hc⟩
    · exact implTree_nil w ao cap
    · exact implTree_row w b o ns.length cap ns rfl (by omega) hb hsz hc

end Go.Proofs.YtcopcegamadkgaaDoor

namespace Go.Proofs.YtcopcegamadkgaaDoor
open Go.RowKit Go.Shelf

theorem BxN.new (w : World) (o : Obj) (n : Nd) : BxN ((w.alloc o).alloc (.cells #[.string n.path, .string n.data, .int .i64 n.ver, .int .i64 n.cver, .int .i64 n.cz, .int .i64 n.mz, .int .i64 n.pz] 86)) (w.heap.size + 1) n := by
  have := heap_alloc_new (w.alloc o) (.cells #[.string n.path, .string n.data, .int .i64 n.ver, .int .i64 n.cver, .int .i64 n.cz, .int .i64 n.mz, .int .i64 n.pz] 86)
  rw [show (w.alloc o).heap.size = w.heap.size + 1 by simp] at this
  exact ⟨⟨_, _, _, this, by decide⟩, (cell_of this _).trans rfl, (cell_of this _).trans rfl, (cell_of this _).trans rfl, (cell_of this _).trans rfl, (cell_of this _).trans rfl, (cell_of this _).trans rfl, (cell_of this _).trans rfl⟩

set_option maxHeartbeats 1000000 in
set_option maxRecDepth 100000 in
theorem encTree_row (w : World) (b o n cap : Nat) (ns : List Nd) (hp : ns.length = n) (hb : b < w.heap.size) (hc : ∀ i, i < n → CellsN w b (o + i * 7) (nAt ns i)) (hR : RdN w (.slice (some ⟨b, o, none⟩) n cap) ns)
    (hsz : ∀ i, (nAt ns i).path.size ≤ 1048576 ∧ (nAt ns i).data.size ≤ 1048576) :
    Calls Tryd.prog 13 #[.agg #[.slice (some ⟨b, o, none⟩) n cap]] w fun e w' => ∃ v', e = .returned v' ∧ Own .u8 5 w' w.heap.size v' (treeB ns) ∧ Below w.heap.size w w' := by
  have HC : Hid (∀ i, i < n → CellsN w b (o + i * 7) (nAt ns i)) := hc
  have HP : Hid (ns.length = n) := hp
  have HR : Hid (RdN w (.slice (some ⟨b, o, none⟩) n cap) ns) := hR
  have HZ : Hid (∀ i, (nAt ns i).path.size ≤ 1048576 ∧ (nAt ns i).data.size ≤ 1048576) := hsz
  have B0 : Hid (Below w.heap.size w (w.alloc (.cells #[.slice (some ⟨b, o, none⟩) n cap] 36))) := (Below.refl _ _).alloc (Nat.le_refl _) _
  have X0 : Hid (Boxed (w.alloc (.cells #[.slice (some ⟨b, o, none⟩) n cap] 36)) w.heap.size 36 (.slice (some ⟨b, o, none⟩) n cap)) := Boxed.new _ _ _
  clear hc hp hR hsz
  go_enter Tryd.func13, Tryd.ntmps13
  go_wp2_with fail
  generalize w.alloc (.cells #[.slice (some ⟨b, o, none⟩) n cap] 36) = w0 at *
  refine (implTree_any _ _ ns (HR.out.below B0.out) HZ.out).mono ?_
  rintro e w1 ⟨rfl, b1⟩
  have B1 : Hid (Below w.heap.size w w1) := B0.out.trans (b1.mono B0.out.size)
  have X1 : Hid (Boxed w1 w.heap.size 36 (.slice (some ⟨b, o, none⟩) n cap)) := boxed_below b1 X0.out
  clear b1 X0 B0
  by_cases hok : okTree ns = true
  rotate_left
  · have hok' : okTree ns = false := by simpa using hok
    have HT : Hid (treeB ns = []) := by show _ = _; unfold treeB; rw [if_neg hok]
    rw [hok']
    clear hok hok'
    go_wp2
    go_ret
    exact ⟨_, rfl, (by rw [HT.out]; exact World.ownsRow_nil _ _ _ _), B1.out⟩
  have hn : n ≤ 1000 := by have := okTree_len hok; rw [HP.out] at this; exact this
  have HT : Hid (treeB ns = nodesB ns) := by show _ = _; unfold treeB; rw [if_pos hok]
  have HOK : Hid (∀ k, k < n → okNd (nAt ns k) = true) := fun k hk => okTree_nd hok k (by rw [HP.out]; exact hk)
  have HLN : Hid (∀ k, k ≤ n → (nodesB (ns.take k)).length ≤ k * 188) := fun k hk => nodesB_len (okTree_nd hok) k (by rw [HP.out]; exact hk)
  rw [hok]
  clear hok
  have c0 := X1.out.cell
  go_wp2
  go_loopw [3, 13] (fun vi vk wr => ∃ k : Nat, k ≤ n ∧ vk = .int .i64 k ∧ Hid (Own .u8 5 wr w.heap.size vi (nodesB (ns.take k))) ∧ Hid (Below w.heap.size w wr)) (fun _ i _ => n - (intOf i).toNat)
  case atStart => exact ⟨0, Nat.zero_le _, rfl, World.ownsRow_nil _ _ _ _, B1⟩
  case round =>
    clear c0
    obtain ⟨k, hk, rfl, HW, HB⟩ := hrel
    have sB := HB.out.size
    by_cases hlt : k < n
    · have hltI : (k : Int) < (n : Int) := by omega
      obtain ⟨c0, c1, c2, c3, c4, c5, c6⟩ := (HC.out k hlt).below HB.out hb
      go_wp2_with fail
      clear c0 c1 c2 c3 c4 c5 c6
      refine (encNode_any _ w.heap.size u3 (nodesB (ns.take k)) (wr.heap.size + 1) (nAt ns k) ?e1 ?e2 ?e3 ?e4 (HOK.out k hlt)).mono ?_
      case e1 => exact (HW.out.below ((Below.refl _ _).alloc (Nat.le_refl _) _)).below ((Below.refl _ _).alloc (Nat.le_refl _) _)
      case e2 => simp; omega
      case e3 => have := HLN.out k hk; omega
      case e4 => exact BxN.new _ _ _
      rintro e w4 ⟨v4, rfl, o4, b4, -⟩
      have O4 : Hid (Own .u8 5 w4 w.heap.size v4 (nodesB (ns.take (k + 1)))) := by
        rw [nodesB_succ ns k (by rw [HP.out]; exact hlt)] at o4; exact o4
      have B4 : Hid (Below w.heap.size w w4) := ((HB.out.alloc sB _).alloc (by simp; omega) _).trans b4
      clear o4 b4 HW HB
      go_wp2
      exact ⟨⟨k + 1, by omega, by go_num, O4, B4⟩, by simp [intOf]; omega⟩
    · have hkn : k = n := by omega
      subst hkn
      go_wp2
      go_ret
      refine ⟨_, rfl, ?_, HB.out⟩
      rw [HT.out, ← nodesB_all ns k (by rw [HP.out]; exact Nat.le_refl _)]
      exact HW.out

set_option maxHeartbeats 1000000 in
set_option maxRecDepth 100000 in
theorem encTree_nil (w : World) (ao : Option Addr) (cap : Nat) (hc : cap ≤ maxLen) :
    Calls Tryd.prog 13 #[.agg #[.slice ao 0 cap]] w fun e w' => ∃ v', e = .returned v' ∧ Own .u8 5 w' w.heap.size v' [] ∧ Below w.heap.size w w' := by
  have HR : Hid (RdN w (.slice ao 0 cap) []) := ⟨ao, cap, rfl, Nat.zero_le _, hc, .inl rfl⟩
  have B0 : Hid (Below w.heap.size w (w.alloc (.cells #[.slice ao 0 cap] 36))) := (Below.refl _ _).alloc (Nat.le_refl _) _
  have X0 : Hid (Boxed (w.alloc (.cells #[.slice ao 0 cap] 36)) w.heap.size 36 (.slice ao 0 cap)) := Boxed.new _ _ _
  go_enter Tryd.func13, Tryd.ntmps13
  go_wp2_with fail
  generalize w.alloc (.cells #[.slice ao 0 cap] 36) = w0 at *
  refine (implTree_any _ _ [] (HR.out.below B0.out) (fun i => by simp [nAt, nd0])).mono ?_
  rintro e w1 ⟨rfl, b1⟩
  have B1 : Hid (Below w.heap.size w w1) := B0.out.trans (b1.mono B0.out.size)
  have X1 : Hid (Boxed w1 w.heap.size 36 (.slice ao 0 cap)) := boxed_below b1 X0.out
  clear b1 X0 B0
  rw [show okTree [] = true from rfl]
  have c0 := X1.out.cell
  go_wp2
  go_rounds 1
  go_ret
  exact ⟨_, rfl, World.ownsRow_nil _ _ _ _, B1.out⟩

theorem encTree_any (w : World) (v : Value) (ns : List Nd) (h : RdN w v ns) (hsz : ∀ i, (nAt ns i).path.size ≤ 1048576 ∧ (nAt ns i).data.size ≤ 1048576) :
    Calls Tryd.prog 13 #[.agg #[v]] w fun e w' => ∃ v', e = .returned v' ∧ Own .u8 5 w' w.heap.size v' (treeB ns) ∧ Below w.heap.size w w' := by
  have h0 := h
  obtain ⟨ao, cap, rfl, h1, h2, h3⟩ := h
  rcases h3 with rfl | ⟨b, o, rfl, hb, hc⟩
  · exact encTree_nil w ao cap h2
  · exact encTree_row w b o ns.length cap ns rfl hb hc h0 hsz

end Go.Proofs.YtcopcegamadkgaaDoor

namespace Go.Proofs.YtcopcegamadkgaaDoor
open Go.RowKit Go.Shelf

theorem own_full {e : TypeId} {w : World} {base : Nat} {v : Value} {xs : List Int} (h : Own .u8 e w base v xs) (hn : 0 < xs.length) : ∃ g c, v = .slice (some ⟨g, 0, none⟩) xs.length c := by
  rcases h.2 with ⟨-, h0⟩ | ⟨g, cap, cur, rfl, -⟩
  · omega
  · exact ⟨g, cap, rfl⟩
theorem u8_oneCell (xs : List Int) : ∀ u ∈ xs.map (Value.int .u8), u.oneCell' = true := by
  intro u hu
  obtain ⟨x, -, rfl⟩ := List.mem_map.1 hu
  rfl
theorem BoxN.belowM {w w' : World} {B m : Nat} {n : Nd} (h : BoxN w B n) (hb : Below m w w') (hl : B < m) : BoxN w' B n :=
  ⟨Nat.lt_of_lt_of_le h.lt hb.size, (hb.cell (p := ⟨B, _, none⟩) hl).trans h.c0, (hb.cell (p := ⟨B, _, none⟩) hl).trans h.c1, (hb.cell (p := ⟨B, _, none⟩) hl).trans h.c2, (hb.cell (p := ⟨B, _, none⟩) hl).trans h.c3,
   (hb.cell (p := ⟨B, _, none⟩) hl).trans h.c4, (hb.cell (p := ⟨B, _, none⟩) hl).trans h.c5, (hb.cell (p := ⟨B, _, none⟩) hl).trans h.c6⟩

set_option maxHeartbeats 2000000 in
set_option maxRecDepth 100000 in
theorem sNode_any (w : World) (n : Nd) (hn : okNd n = true) :
    Calls Tryd.prog 122 #[.agg #[.string n.path, .string n.data, .int .i64 n.ver, .int .i64 n.cver, .int .i64 n.cz, .int .i64 n.mz, .int .i64 n.pz]] w fun e w' => ∃ v', e = .returned v' ∧ Own .u8 5 w' w.heap.size v' (nodeB n) ∧ Below w.heap.size w w' := by
  obtain ⟨i0, hi, hz0, hz1, hz2⟩ := info_parts Tryd.infoB
  obtain ⟨p1, p2, p3, p4, p5, p6, p7⟩ := okNd_all hn
  clear hn
  obtain ⟨z0, hz0'⟩ : ∃ z : Nat, n.ver = (z : Int) := ⟨n.ver.toNat, by omega⟩
  have HZ0 : Hid (n.ver = (z0 : Int)) := hz0'
  have hb0 : z0 ≤ 2147483647 := by omega
  obtain ⟨z1, hz1'⟩ : ∃ z : Nat, n.cver = (z : Int) := ⟨n.cver.toNat, by omega⟩
  have HZ1 : Hid (n.cver = (z1 : Int)) := hz1'
  have hb1 : z1 ≤ 2147483647 := by omega
  obtain ⟨z2, hz2'⟩ : ∃ z : Nat, n.cz = (z : Int) := ⟨n.cz.toNat, by omega⟩
  have HZ2 : Hid (n.cz = (z2 : Int)) := hz2'
  have hb2 : z2 ≤ 2147483647 := by omega
  obtain ⟨z3, hz3'⟩ : ∃ z : Nat, n.mz = (z : Int) := ⟨n.mz.toNat, by omega⟩
  have HZ3 : Hid (n.mz = (z3 : Int)) := hz3'
  have hb3 : z3 ≤ 2147483647 := by omega
  obtain ⟨z4, hz4'⟩ : ∃ z : Nat, n.pz = (z : Int) := ⟨n.pz.toNat, by omega⟩
  have HZ4 : Hid (n.pz = (z4 : Int)) := hz4'
  have hb4 : z4 ≤ 2147483647 := by omega
  have HZ : Hid (nodeB n = txB n.path ++ txB n.data ++ bigR z0 4 ++ bigR z1 4 ++ bigR z2 4 ++ bigR z3 4 ++ bigR z4 4) := by
    show _ = _
    unfold nodeB stB
    simp [hz0', hz1', hz2', hz3', hz4']
  clear hz0' hz1' hz2' hz3' hz4' p3 p4 p5 p6 p7
  have X0 : Hid (BoxN (w.alloc (.cells #[.string n.path, .string n.data, .int .i64 n.ver, .int .i64 n.cver, .int .i64 n.cz, .int .i64 n.mz, .int .i64 n.pz] 84)) w.heap.size n) := BoxN.new _ _ _
  have B0 : Hid (Below w.heap.size w (w.alloc (.cells #[.string n.path, .string n.data, .int .i64 n.ver, .int .i64 n.cver, .int .i64 n.cz, .int .i64 n.mz, .int .i64 n.pz] 84))) := (Below.refl _ _).alloc (Nat.le_refl _) _
  go_enter Tryd.func122, Tryd.ntmps122
  go_wp2
  generalize w.alloc (.cells #[.string n.path, .string n.data, .int .i64 n.ver, .int .i64 n.cver, .int .i64 n.cz, .int .i64 n.mz, .int .i64 n.pz] 84) = w0 at *
  have s0 : w.heap.size + 1 ≤ w0.heap.size := X0.out.lt
  refine wp_region_held_drew (S := fun W => BoxN W w.heap.size n) (by kernel_rfl) (X0.out.below (below_drewN' w0 1)) (fun hHeld => ?_)
  refine wpAnyH_take (i := 0) (oi := { dst := some 4, op := _, type := _, pos := _, after := _, guard := _ }) (v := (.pointer (some ⟨w.heap.size, 0, none⟩))) rfl (by kernel_rfl) (by kernel_rfl) (by kernel_rfl) (fun _ _ _ h => h) (Or.inl ⟨by rfl, ?hy1⟩) (by assumption) ?rest1
  case hy1 =>
    intro w9 hS9
    obtain ⟨-, y0, y1, y2, y3, y4, y5, y6⟩ := hS9
    go_simp
    try with_reducible rfl
  try simp only [Act.put, List.setIfInBounds_toArray, List.set_cons_zero, List.set_cons_succ]
  refine wpAnyH_take (i := 1) (oi := { dst := some 5, op := _, type := _, pos := _, after := _, guard := _ }) (v := (.string n.path)) rfl (by kernel_rfl) (by kernel_rfl) (by kernel_rfl) (fun _ _ _ h => h) (Or.inl ⟨by rfl, ?hy2⟩) (by assumption) ?rest2
  case hy2 =>
    intro w9 hS9
    obtain ⟨-, y0, y1, y2, y3, y4, y5, y6⟩ := hS9
    go_simp
    try with_reducible rfl
  try simp only [Act.put, List.setIfInBounds_toArray, List.set_cons_zero, List.set_cons_succ]
  refine wpAnyH_take (i := 3) (oi := { dst := some 7, op := _, type := _, pos := _, after := _, guard := _ }) (v := (.pointer (some ⟨w.heap.size, 1, none⟩))) rfl (by kernel_rfl) (by kernel_rfl) (by kernel_rfl) (fun _ _ _ h => h) (Or.inl ⟨by rfl, ?hy3⟩) (by assumption) ?rest3
  case hy3 =>
    intro w9 hS9
    obtain ⟨-, y0, y1, y2, y3, y4, y5, y6⟩ := hS9
    go_simp
    try with_reducible rfl
  try simp only [Act.put, List.setIfInBounds_toArray, List.set_cons_zero, List.set_cons_succ]
  refine wpAnyH_take (i := 4) (oi := { dst := some 8, op := _, type := _, pos := _, after := _, guard := _ }) (v := (.string n.data)) rfl (by kernel_rfl) (by kernel_rfl) (by kernel_rfl) (fun _ _ _ h => h) (Or.inl ⟨by rfl, ?hy4⟩) (by assumption) ?rest4
  case hy4 =>
    intro w9 hS9
    obtain ⟨-, y0, y1, y2, y3, y4, y5, y6⟩ := hS9
    go_simp
    try with_reducible rfl
  try simp only [Act.put, List.setIfInBounds_toArray, List.set_cons_zero, List.set_cons_succ]
  refine wpAnyH_ready (rs := [2]) (by kernel_rfl) (by simp) ?_
  refine AllReadyH.cons (o := { dst := some 6, op := _, type := _, pos := _, after := _, guard := _ }) rfl (fun K hK => ?_) AllReadyH.nil
  go_simp
  refine (specText_any _ n.path (by omega)).mono ?_
  rintro e w1 ⟨v1, rfl, o1, b1⟩
  have X1 : Hid (BoxN w1 w.heap.size n) := (X0.out.below (below_drewN' w0 1)).below b1
  have B1 : Hid (Below w.heap.size w w1) := (B0.out.trans ((below_drewN' w0 1).mono B0.out.size)).trans (b1.mono (by show w.heap.size ≤ w0.heap.size; omega))
  have O1 : Hid (Own .u8 5 w1 (w.heap.size + 1) v1 (txB n.path)) := o1.mono s0
  clear o1 b1
  refine hK.out _ _ (X1.out) (fun hx9 => ?_)
  clear hK K hHeld hx9
  have hHeld := X1.out
  try simp only [Act.put, List.setIfInBounds_toArray, List.set_cons_zero, List.set_cons_succ]
  refine wpAnyH_ready (rs := [5]) (by kernel_rfl) (by simp) ?_
  refine AllReadyH.cons (o := { dst := some 9, op := _, type := _, pos := _, after := _, guard := _ }) rfl (fun K hK => ?_) AllReadyH.nil
  go_simp
  refine (specText_any _ n.data (by omega)).mono ?_
  rintro e w2 ⟨v2, rfl, o2, b2⟩
  have s1 : w.heap.size + 1 ≤ w1.heap.size := X1.out.lt
  have X2 : Hid (BoxN w2 w.heap.size n) := X1.out.below b2
  have B2 : Hid (Below w.heap.size w w2) := B1.out.trans (b2.mono (by omega))
  obtain ⟨g2, c2, hv2⟩ := own_full o2 (by rw [txB_len]; omega)
  rw [txB_len] at hv2
  subst hv2
  have O2 : Hid (w2.ownsRow (w.heap.size + 1) 5 1 v1 (1 + n.path.size) ((txB n.path).map (Value.int .u8))) := by have := O1.out.below b2; unfold Own at this; rw [txB_len] at this; exact this
  have N2 : Hid (∀ j u, ((txB n.data).map (Value.int .u8))[j]? = some u → w2.cell? ((⟨g2, 0, none⟩ : Addr).add j) = some u) := World.ownsRow.cells o2 rfl
  have s2 : w.heap.size + 1 ≤ w2.heap.size := X2.out.lt
  clear o2 b2 O1 X1 B1
  refine hK.out _ _ (X2.out) (fun hx9 => ?_)
  clear hK K hHeld hx9
  have hHeld := X2.out
  try simp only [Act.put, List.setIfInBounds_toArray, List.set_cons_zero, List.set_cons_succ]
  refine wpAnyH_ready (rs := [6]) (by kernel_rfl) (by simp) ?_
  refine AllReadyH.cons (o := { dst := some 10, op := _, type := _, pos := _, after := _, guard := _ }) rfl (fun K hK => ?_) AllReadyH.nil
  refine step_append rfl (.tmp 6) (.tmp 9) 24 rfl (w.heap.size + 1) 5 i0 (.int .u8 0) 1 1 Tryd.underlying24 hi hz0 hz1 hz2 rfl (by decide) v1 (1 + n.path.size) _ rfl O2.out ⟨g2, 0, none⟩ (1 + n.data.size) c2 ((txB n.data).map (Value.int .u8)) rfl (by rw [List.length_map, txB_len, Nat.mul_one]) N2.out (u8_oneCell _) (by unfold maxLen; omega) (by omega) s2 ?_
  intro v3 w3 ho3 hg3
  have b3 : Below (w.heap.size + 1) w2 w3 := (Below.refl _ _).grown hg3 s2 (fun q hq => (World.ownsRow.lt O2.out q hq).1)
  have X3 : Hid (BoxN w3 w.heap.size n) := X2.out.belowM b3 (by omega)
  have B3 : Hid (Below w.heap.size w w3) := B2.out.trans (b3.mono (by omega))
  have O3 : Hid (w3.ownsRow (w.heap.size + 1) 5 1 v3 (1 + n.path.size + (1 + n.data.size)) ((txB n.path ++ txB n.data).map (Value.int .u8))) := by show World.ownsRow _ _ _ _ _ _ _; rw [List.map_append]; exact ho3
  clear ho3 hg3 b3 O2 N2 X2 B2
  refine hK.out _ _ (X3.out) (fun hx9 => ?_)
  clear hK K hHeld hx9
  have hHeld := X3.out
  try simp only [Act.put, List.setIfInBounds_toArray, List.set_cons_zero, List.set_cons_succ]
  refine wpAnyH_take (i := 7) (oi := { dst := some 3, op := _, type := _, pos := _, after := _, guard := _ }) (v := v3) rfl (by kernel_rfl) (by kernel_rfl) (by kernel_rfl) (fun _ _ _ h => h) (Or.inl ⟨by rfl, ?hy5⟩) (by assumption) ?rest5
  case hy5 =>
    intro w9 hS9
    go_simp
  try simp only [Act.put, List.setIfInBounds_toArray, List.set_cons_zero, List.set_cons_succ]
  refine wpAnyH_done (by kernel_rfl) ?_ _
  clear hHeld
  obtain ⟨M, hM⟩ : ∃ M, M = 1 + n.path.size + (1 + n.data.size) := ⟨_, rfl⟩
  obtain ⟨L3, hL3⟩ : ∃ L, L = txB n.path ++ txB n.data := ⟨_, rfl⟩
  have hM2 : M ≤ 200 := by omega
  have HL3 : Hid (L3.length = M) := by show _ = _; rw [hL3, hM, List.length_append, txB_len, txB_len]
  rw [← hM, ← hL3] at O3
  rw [← hL3] at HZ
  clear hM hL3
  have s3 : w.heap.size + 1 ≤ w3.heap.size := X3.out.lt
  obtain ⟨-, y0, y1, y2, y3, y4, y5, y6⟩ := X3.out
  rw [HZ0.out] at y2
  go_wp2_with fail
  refine (specBig_any 4 _ z0 (by omega) (by omega)).mono ?_
  rintro e w4 ⟨v4, rfl, o4, b4⟩
  obtain ⟨g4, c4, hv4⟩ := own_full o4 (by rw [bigR_len]; omega)
  rw [bigR_len] at hv4
  subst hv4
  have X4 : Hid (BoxN w4 w.heap.size n) := X3.out.below b4
  have B4 : Hid (Below w.heap.size w w4) := B3.out.trans (b4.mono (by omega))
  have s4 : w.heap.size + 1 ≤ w4.heap.size := X4.out.lt
  have O4 : Hid (w4.ownsRow (w.heap.size + 1) 5 1 v3 M (L3.map (Value.int .u8))) := by
    refine World.ownsRow.kept O3.out (row := none) ⟨b4.os, b4.tape, b4.output, b4.size, fun k hk _ => b4.block k hk⟩ ?_
    cases hq : v3.ownBlock with
    | none => exact .inl rfl
    | some g => exact .inr (by simp)
  have N4 : Hid (∀ j u, ((bigR z0 4).map (Value.int .u8))[j]? = some u → w4.cell? ((⟨g4, 0, none⟩ : Addr).add j) = some u) := World.ownsRow.cells o4 rfl
  clear y0 y1 y2 y3 y4 y5 y6 o4 b4 X3 B3 O3
  go_wp2_with (at_builtin; go_must (refine wpList_append_own _ rfl _ _ 24 rfl (w.heap.size + 1) 5 i0 (.int .u8 0) 1 1 Tryd.underlying24 hi hz0 hz1 hz2 rfl (by decide) _ _ _ rfl O4.out ⟨g4, 0, none⟩ 4 c4 ((bigR z0 4).map (Value.int .u8)) rfl ?_ N4.out (u8_oneCell _) ?_ ?_ ?_ ?_))
  · rw [List.length_map, bigR_len]
  · unfold maxLen; omega
  · omega
  · exact s4
  intro v5 w5 ho5 hg5 _
  have b5 : Below (w.heap.size + 1) w4 w5 := (Below.refl _ _).grown hg5 s4 (fun q hq => (World.ownsRow.lt O4.out q hq).1)
  have X5 : Hid (BoxN w5 w.heap.size n) := X4.out.belowM b5 (by omega)
  have B5 : Hid (Below w.heap.size w w5) := B4.out.trans (b5.mono (by omega))
  have s5 : w.heap.size + 1 ≤ w5.heap.size := X5.out.lt
  obtain ⟨L5, hL5⟩ : ∃ L, L = L3 ++ bigR z0 4 := ⟨_, rfl⟩
  have O5 : Hid (w5.ownsRow (w.heap.size + 1) 5 1 v5 (M + 4) (L5.map (Value.int .u8))) := by
    show World.ownsRow _ _ _ _ _ _ _
    rw [hL5, List.map_append]; exact ho5
  have HL5 : Hid (L5.length = M + 4) := by show _ = _; rw [hL5, List.length_append, HL3.out, bigR_len]
  rw [← hL5] at HZ
  clear ho5 hg5 b5 X4 B4 O4 N4 hL5
  obtain ⟨-, y0, y1, y2, y3, y4, y5, y6⟩ := X5.out
  rw [HZ1.out] at y3
  go_wp2_with fail
  refine (specBig_any 4 _ z1 (by omega) (by omega)).mono ?_
  rintro e w6 ⟨v6, rfl, o6, b6⟩
  obtain ⟨g6, c6, hv6⟩ := own_full o6 (by rw [bigR_len]; omega)
  rw [bigR_len] at hv6
  subst hv6
  have X6 : Hid (BoxN w6 w.heap.size n) := X5.out.below b6
  have B6 : Hid (Below w.heap.size w w6) := B5.out.trans (b6.mono (by omega))
  have s6 : w.heap.size + 1 ≤ w6.heap.size := X6.out.lt
  have O6 : Hid (w6.ownsRow (w.heap.size + 1) 5 1 v5 (M + 4) (L5.map (Value.int .u8))) := by
    refine World.ownsRow.kept O5.out (row := none) ⟨b6.os, b6.tape, b6.output, b6.size, fun k hk _ => b6.block k hk⟩ ?_
    cases hq : v5.ownBlock with
    | none => exact .inl rfl
    | some g => exact .inr (by simp)
  have N6 : Hid (∀ j u, ((bigR z1 4).map (Value.int .u8))[j]? = some u → w6.cell? ((⟨g6, 0, none⟩ : Addr).add j) = some u) := World.ownsRow.cells o6 rfl
  clear y0 y1 y2 y3 y4 y5 y6 o6 b6 X5 B5 O5
  go_wp2_with (at_builtin; go_must (refine wpList_append_own _ rfl _ _ 24 rfl (w.heap.size + 1) 5 i0 (.int .u8 0) 1 1 Tryd.underlying24 hi hz0 hz1 hz2 rfl (by decide) _ _ _ rfl O6.out ⟨g6, 0, none⟩ 4 c6 ((bigR z1 4).map (Value.int .u8)) rfl ?_ N6.out (u8_oneCell _) ?_ ?_ ?_ ?_))
  · rw [List.length_map, bigR_len]
  · unfold maxLen; omega
  · omega
  · exact s6
  intro v7 w7 ho7 hg7 _
  have b7 : Below (w.heap.size + 1) w6 w7 := (Below.refl _ _).grown hg7 s6 (fun q hq => (World.ownsRow.lt O6.out q hq).1)
  have X7 : Hid (BoxN w7 w.heap.size n) := X6.out.belowM b7 (by omega)
  have B7 : Hid (Below w.heap.size w w7) := B6.out.trans (b7.mono (by omega))
  have s7 : w.heap.size + 1 ≤ w7.heap.size := X7.out.lt
  obtain ⟨L7, hL7⟩ : ∃ L, L = L5 ++ bigR z1 4 := ⟨_, rfl⟩
  have O7 : Hid (w7.ownsRow (w.heap.size + 1) 5 1 v7 (M + 8) (L7.map (Value.int .u8))) := by
    show World.ownsRow _ _ _ _ _ _ _
    rw [hL7, List.map_append]; exact ho7
  have HL7 : Hid (L7.length = M + 8) := by show _ = _; rw [hL7, List.length_append, HL5.out, bigR_len]
  rw [← hL7] at HZ
  clear ho7 hg7 b7 X6 B6 O6 N6 hL7
  obtain ⟨-, y0, y1, y2, y3, y4, y5, y6⟩ := X7.out
  rw [HZ2.out] at y4
  go_wp2_with fail
  refine (specBig_any 4 _ z2 (by omega) (by omega)).mono ?_
  rintro e w8 ⟨v8, rfl, o8, b8⟩
  obtain ⟨g8, c8, hv8⟩ := own_full o8 (by rw [bigR_len]; omega)
  rw [bigR_len] at hv8
  subst hv8
  have X8 : Hid (BoxN w8 w.heap.size n) := X7.out.below b8
  have B8 : Hid (Below w.heap.size w w8) := B7.out.trans (b8.mono (by omega))
  have s8 : w.heap.size + 1 ≤ w8.heap.size := X8.out.lt
  have O8 : Hid (w8.ownsRow (w.heap.size + 1) 5 1 v7 (M + 8) (L7.map (Value.int .u8))) := by
    refine World.ownsRow.kept O7.out (row := none) ⟨b8.os, b8.tape, b8.output, b8.size, fun k hk _ => b8.block k hk⟩ ?_
    cases hq : v7.ownBlock with
    | none => exact .inl rfl
    | some g => exact .inr (by simp)
  have N8 : Hid (∀ j u, ((bigR z2 4).map (Value.int .u8))[j]? = some u → w8.cell? ((⟨g8, 0, none⟩ : Addr).add j) = some u) := World.ownsRow.cells o8 rfl
  clear y0 y1 y2 y3 y4 y5 y6 o8 b8 X7 B7 O7
  go_wp2_with (at_builtin; go_must (refine wpList_append_own _ rfl _ _ 24 rfl (w.heap.size + 1) 5 i0 (.int .u8 0) 1 1 Tryd.underlying24 hi hz0 hz1 hz2 rfl (by decide) _ _ _ rfl O8.out ⟨g8, 0, none⟩ 4 c8 ((bigR z2 4).map (Value.int .u8)) rfl ?_ N8.out (u8_oneCell _) ?_ ?_ ?_ ?_))
  · rw [List.length_map, bigR_len]
  · unfold maxLen; omega
  · omega
  · exact s8
  intro v9 w9 ho9 hg9 _
  have b9 : Below (w.heap.size + 1) w8 w9 := (Below.refl _ _).grown hg9 s8 (fun q hq => (World.ownsRow.lt O8.out q hq).1)
  have X9 : Hid (BoxN w9 w.heap.size n) := X8.out.belowM b9 (by omega)
  have B9 : Hid (Below w.heap.size w w9) := B8.out.trans (b9.mono (by omega))
  have s9 : w.heap.size + 1 ≤ w9.heap.size := X9.out.lt
  obtain ⟨L9, hL9⟩ : ∃ L, L = L7 ++ bigR z2 4 := ⟨_, rfl⟩
  have O9 : Hid (w9.ownsRow (w.heap.size + 1) 5 1 v9 (M + 12) (L9.map (Value.int .u8))) := by
    show World.ownsRow _ _ _ _ _ _ _
    rw [hL9, List.map_append]; exact ho9
  have HL9 : Hid (L9.length = M + 12) := by show _ = _; rw [hL9, List.length_append, HL7.out, bigR_len]
  rw [← hL9] at HZ
  clear ho9 hg9 b9 X8 B8 O8 N8 hL9
  obtain ⟨-, y0, y1, y2, y3, y4, y5, y6⟩ := X9.out
  rw [HZ3.out] at y5
  go_wp2_with fail
  refine (specBig_any 4 _ z3 (by omega) (by omega)).mono ?_
  rintro e w10 ⟨v10, rfl, o10, b10⟩
  obtain ⟨g10, c10, hv10⟩ := own_full o10 (by rw [bigR_len]; omega)
  rw [bigR_len] at hv10
  subst hv10
  have X10 : Hid (BoxN w10 w.heap.size n) := X9.out.below b10
  have B10 : Hid (Below w.heap.size w w10) := B9.out.trans (b10.mono (by omega))
  have s10 : w.heap.size + 1 ≤ w10.heap.size := X10.out.lt
  have O10 : Hid (w10.ownsRow (w.heap.size + 1) 5 1 v9 (M + 12) (L9.map (Value.int .u8))) := by
    refine World.ownsRow.kept O9.out (row := none) ⟨b10.os, b10.tape, b10.output, b10.size, fun k hk _ => b10.block k hk⟩ ?_
    cases hq : v9.ownBlock with
    | none => exact .inl rfl
    | some g => exact .inr (by simp)
  have N10 : Hid (∀ j u, ((bigR z3 4).map (Value.int .u8))[j]? = some u → w10.cell? ((⟨g10, 0, none⟩ : Addr).add j) = some u) := World.ownsRow.cells o10 rfl
  clear y0 y1 y2 y3 y4 y5 y6 o10 b10 X9 B9 O9
  go_wp2_with (at_builtin; go_must (refine wpList_append_own _ rfl _ _ 24 rfl (w.heap.size + 1) 5 i0 (.int .u8 0) 1 1 Tryd.underlying24 hi hz0 hz1 hz2 rfl (by decide) _ _ _ rfl O10.out ⟨g10, 0, none⟩ 4 c10 ((bigR z3 4).map (Value.int .u8)) rfl ?_ N10.out (u8_oneCell _) ?_ ?_ ?_ ?_))
  · rw [List.length_map, bigR_len]
  · unfold maxLen; omega
  · omega
  · exact s10
  intro v11 w11 ho11 hg11 _
  have b11 : Below (w.heap.size + 1) w10 w11 := (Below.refl _ _).grown hg11 s10 (fun q hq => (World.ownsRow.lt O10.out q hq).1)
  have X11 : Hid (BoxN w11 w.heap.size n) := X10.out.belowM b11 (by omega)
  have B11 : Hid (Below w.heap.size w w11) := B10.out.trans (b11.mono (by omega))
  have s11 : w.heap.size + 1 ≤ w11.heap.size := X11.out.lt
  obtain ⟨L11, hL11⟩ : ∃ L, L = L9 ++ bigR z3 4 := ⟨_, rfl⟩
  have O11 : Hid (w11.ownsRow (w.heap.size + 1) 5 1 v11 (M + 16) (L11.map (Value.int .u8))) := by
    show World.ownsRow _ _ _ _ _ _ _
    rw [hL11, List.map_append]; exact ho11
  have HL11 : Hid (L11.length = M + 16) := by show _ = _; rw [hL11, List.length_append, HL9.out, bigR_len]
  rw [← hL11] at HZ
  clear ho11 hg11 b11 X10 B10 O10 N10 hL11
  obtain ⟨-, y0, y1, y2, y3, y4, y5, y6⟩ := X11.out
  rw [HZ4.out] at y6
  go_wp2_with fail
  refine (specBig_any 4 _ z4 (by omega) (by omega)).mono ?_
  rintro e w12 ⟨v12, rfl, o12, b12⟩
  obtain ⟨g12, c12, hv12⟩ := own_full o12 (by rw [bigR_len]; omega)
  rw [bigR_len] at hv12
  subst hv12
  have X12 : Hid (BoxN w12 w.heap.size n) := X11.out.below b12
  have B12 : Hid (Below w.heap.size w w12) := B11.out.trans (b12.mono (by omega))
  have s12 : w.heap.size + 1 ≤ w12.heap.size := X12.out.lt
  have O12 : Hid (w12.ownsRow (w.heap.size + 1) 5 1 v11 (M + 16) (L11.map (Value.int .u8))) := by
    refine World.ownsRow.kept O11.out (row := none) ⟨b12.os, b12.tape, b12.output, b12.size, fun k hk _ => b12.block k hk⟩ ?_
    cases hq : v11.ownBlock with
    | none => exact .inl rfl
    | some g => exact .inr (by simp)
  have N12 : Hid (∀ j u, ((bigR z4 4).map (Value.int .u8))[j]? = some u → w12.cell? ((⟨g12, 0, none⟩ : Addr).add j) = some u) := World.ownsRow.cells o12 rfl
  clear y0 y1 y2 y3 y4 y5 y6 o12 b12 X11 B11 O11
  go_wp2_with (at_builtin; go_must (refine wpList_append_own _ rfl _ _ 24 rfl (w.heap.size + 1) 5 i0 (.int .u8 0) 1 1 Tryd.underlying24 hi hz0 hz1 hz2 rfl (by decide) _ _ _ rfl O12.out ⟨g12, 0, none⟩ 4 c12 ((bigR z4 4).map (Value.int .u8)) rfl ?_ N12.out (u8_oneCell _) ?_ ?_ ?_ ?_))
  · rw [List.length_map, bigR_len]
  · unfold maxLen; omega
  · omega
  · exact s12
  intro v13 w13 ho13 hg13 _
  have b13 : Below (w.heap.size + 1) w12 w13 := (Below.refl _ _).grown hg13 s12 (fun q hq => (World.ownsRow.lt O12.out q hq).1)
  have X13 : Hid (BoxN w13 w.heap.size n) := X12.out.belowM b13 (by omega)
  have B13 : Hid (Below w.heap.size w w13) := B12.out.trans (b13.mono (by omega))
  have s13 : w.heap.size + 1 ≤ w13.heap.size := X13.out.lt
  obtain ⟨L13, hL13⟩ : ∃ L, L = L11 ++ bigR z4 4 := ⟨_, rfl⟩
  have O13 : Hid (w13.ownsRow (w.heap.size + 1) 5 1 v13 (M + 20) (L13.map (Value.int .u8))) := by
    show World.ownsRow _ _ _ _ _ _ _
    rw [hL13, List.map_append]; exact ho13
  have HL13 : Hid (L13.length = M + 20) := by show _ = _; rw [hL13, List.length_append, HL11.out, bigR_len]
  rw [← hL13] at HZ
  clear ho13 hg13 b13 X12 B12 O12 N12 hL13
  go_wp2
  go_ret
  exact ⟨_, rfl, (own_of HL13.out HZ.out O13.out).mono (Nat.le_succ _), B13.out⟩

end Go.Proofs.YtcopcegamadkgaaDoor

namespace Go.Proofs.YtcopcegamadkgaaDoor
open Go.RowKit Go.Shelf

set_option maxHeartbeats 1000000 in
set_option maxRecDepth 100000 in
theorem sNodes_row (w : World) (b o n cap : Nat) (ns : List Nd) (hp : ns.length = n) (hn : n ≤ 1000) (hb : b < w.heap.size) (hc : ∀ i, i < n → CellsN w b (o + i * 7) (nAt ns i)) (hok : ∀ i, i < n → okNd (nAt ns i) = true) :
    Calls Tryd.prog 81 #[.slice (some ⟨b, o, none⟩) n cap] w fun e w' => ∃ v', e = .returned v' ∧ Own .u8 5 w' w.heap.size v' (nodesB ns) ∧ Below w.heap.size w w' := by
  obtain ⟨i0, hi, hz0, hz1, hz2⟩ := info_parts Tryd.infoB
  have HC : Hid (∀ i, i < n → CellsN w b (o + i * 7) (nAt ns i)) := hc
  have HP : Hid (ns.length = n) := hp
  have HOK : Hid (∀ k, k < n → okNd (nAt ns k) = true) := hok
  have HLN : Hid (∀ k, k ≤ n → (nodesB (ns.take k)).length ≤ k * 188) := fun k hk => nodesB_len (fun k hk => hok k (by rw [← hp]; exact hk)) k (by rw [hp]; exact hk)
  have O0 : Hid (Own .u8 5 (w.alloc (.cells #[] 5)) w.heap.size (.slice (some ⟨w.heap.size, 0, none⟩) 0 0) (nodesB (ns.take 0))) := World.ownsRow_lit w #[] 0 (Nat.le_refl _) (Nat.zero_le _) rfl
  have B0 : Hid (Below w.heap.size w (w.alloc (.cells #[] 5))) := (Below.refl _ _).alloc (Nat.le_refl _) _
  clear hc hp hok
  go_enter Tryd.func81, Tryd.ntmps81
  go_wp2
  go_loopw [3, 4] (fun vo vk wr => ∃ k : Nat, k ≤ n ∧ vk = .int .i64 k ∧ Hid (Own .u8 5 wr w.heap.size vo (nodesB (ns.take k))) ∧ Hid (Below w.heap.size w wr)) (fun _ i _ => n - (intOf i).toNat)
  case atStart => exact ⟨0, Nat.zero_le _, rfl, O0, B0⟩
  case round =>
    obtain ⟨k, hk, rfl, HW, HB⟩ := hrel
    have sB := HB.out.size
    by_cases hlt : k < n
    · have hltI : (k : Int) < (n : Int) := by omega
      obtain ⟨c0, c1, c2, c3, c4, c5, c6⟩ := (HC.out k hlt).below HB.out hb
      go_wp2_with fail
      clear c0 c1 c2 c3 c4 c5 c6
      refine (sNode_any _ (nAt ns k) (HOK.out k hlt)).mono ?_
      rintro e w1 ⟨v1, rfl, o1, b1⟩
      have hl1 : (nodeB (nAt ns k)).length ≤ 188 ∧ 0 < (nodeB (nAt ns k)).length := by
        have := okNd_all (HOK.out k hlt)
        rw [nodeB_len]; omega
      have hl0 := HLN.out k hk
      obtain ⟨g1, q1, hv1⟩ := own_full o1 hl1.2
      obtain ⟨L, hL⟩ : ∃ L, L = nodesB (ns.take k) := ⟨_, rfl⟩
      obtain ⟨N, hN⟩ : ∃ N, N = nodeB (nAt ns k) := ⟨_, rfl⟩
      have HS : Hid (L ++ N = nodesB (ns.take (k + 1))) := by show _ = _; rw [hL, hN]; exact nodesB_succ ns k (by rw [HP.out]; exact hlt)
      rw [← hN] at hv1 o1 hl1
      rw [← hL] at HW hl0
      generalize hm : N.length = m at *
      have HM : Hid (N.length = m) := hm
      subst hv1
      have O1 : Hid (w1.ownsRow w.heap.size 5 1 u3 L.length (L.map (Value.int .u8))) := HW.out.below b1
      have N1 : Hid (∀ j u, (N.map (Value.int .u8))[j]? = some u → w1.cell? ((⟨g1, 0, none⟩ : Addr).add j) = some u) := World.ownsRow.cells o1 rfl
      have B1 : Hid (Below w.heap.size w w1) := HB.out.trans (b1.mono sB)
      have s1 := B1.out.size
      clear o1 b1 HW HB hL hN hm
      go_wp2_with (at_builtin; go_must (refine wpList_append_own _ rfl _ _ 24 rfl w.heap.size 5 i0 (.int .u8 0) 1 1 Tryd.underlying24 hi hz0 hz1 hz2 rfl (by decide) _ _ _ rfl O1.out ⟨g1, 0, none⟩ m q1 (N.map (Value.int .u8)) rfl ?_ N1.out (u8_oneCell _) ?_ ?_ ?_ ?_))
      · rw [List.length_map, HM.out, Nat.mul_one]
      · unfold maxLen; omega
      · omega
      · exact s1
      intro v2 w2 ho2 hg2 _
      have O2 : Hid (Own .u8 5 w2 w.heap.size v2 (nodesB (ns.take (k + 1)))) := by
        refine own_of (q := L.length + m) (ys := L ++ N) (by rw [List.length_append, HM.out]) HS.out.symm ?_
        rw [List.map_append]; exact ho2
      have B2 : Hid (Below w.heap.size w w2) := B1.out.grown hg2 s1 (fun q hq => (World.ownsRow.lt O1.out q hq).1)
      clear ho2 hg2 O1 N1 B1 HS HM hl0 hl1
      go_wp2
      exact ⟨⟨k + 1, by omega, by go_num, O2, B2⟩, by simp [intOf]; omega⟩
    · have hkn : k = n := by omega
      subst hkn
      go_wp2
      go_ret
      refine ⟨_, rfl, ?_, HB.out⟩
      rw [← nodesB_all ns k (by rw [HP.out]; exact Nat.le_refl _)]
      exact HW.out

set_option maxHeartbeats 1000000 in
set_option maxRecDepth 100000 in
theorem sNodes_nil (w : World) (ao : Option Addr) (cap : Nat) :
    Calls Tryd.prog 81 #[.slice ao 0 cap] w fun e w' => ∃ v', e = .returned v' ∧ Own .u8 5 w' w.heap.size v' [] ∧ Below w.heap.size w w' := by
  have O0 : Hid (Own .u8 5 (w.alloc (.cells #[] 5)) w.heap.size (.slice (some ⟨w.heap.size, 0, none⟩) 0 0) []) := World.ownsRow_lit w #[] 0 (Nat.le_refl _) (Nat.zero_le _) rfl
  have B0 : Hid (Below w.heap.size w (w.alloc (.cells #[] 5))) := (Below.refl _ _).alloc (Nat.le_refl _) _
  go_enter Tryd.func81, Tryd.ntmps81
  go_wp2
  go_rounds 1
  go_ret
  exact ⟨_, rfl, O0.out, B0.out⟩

theorem sNodes_any (w : World) (v : Value) (ns : List Nd) (h : RdN w v ns) (hn : ns.length ≤ 1000) (hok : ∀ i, i < ns.length → okNd (nAt ns i) = true) :
    Calls Tryd.prog 81 #[v] w fun e w' => ∃ v', e = .returned v' ∧ Own .u8 5 w' w.heap.size v' (nodesB ns) ∧ Below w.heap.size w w' := by
  obtain ⟨ao, cap, rfl, h1, h2, h3⟩ := h
  rcases h3 with rfl | ⟨b, o, rfl, hb, hc⟩
  · exact sNodes_nil w ao cap
  · exact sNodes_row w b o ns.length cap ns rfl hn hb hc hok

set_option maxHeartbeats 1000000 in
set_option maxRecDepth 100000 in
theorem sTree_any (w : World) (v : Value) (ns : List Nd) (h : RdN w v ns) (hn : ns.length ≤ 1048576) (hsz : ∀ i, (nAt ns i).path.size ≤ 1048576 ∧ (nAt ns i).data.size ≤ 1048576) :
    Calls Tryd.prog 34 #[.agg #[v]] w fun e w' => ∃ v', e = .returned v' ∧ Own .u8 5 w' w.heap.size v' (treeB ns) ∧ Below w.heap.size w w' := by
  obtain ⟨ao, ca, rfl, _, _⟩ := h.len
  have HR : Hid (RdN w (.slice ao ns.length ca) ns) := h
  have HZ : Hid (∀ i, (nAt ns i).path.size ≤ 1048576 ∧ (nAt ns i).data.size ≤ 1048576) := hsz
  have B0 : Hid (Below w.heap.size w (w.alloc (.cells #[.slice ao ns.length ca] 36))) := (Below.refl _ _).alloc (Nat.le_refl _) _
  have X0 : Hid (Boxed (w.alloc (.cells #[.slice ao ns.length ca] 36)) w.heap.size 36 (.slice ao ns.length ca)) := Boxed.new _ _ _
  clear h hsz
  go_enter Tryd.func34, Tryd.ntmps34
  go_wp2_with fail
  generalize w.alloc (.cells #[.slice ao ns.length ca] 36) = w0 at *
  refine (specTree_any _ _ ns (HR.out.below B0.out) hn HZ.out).mono ?_
  rintro e w1 ⟨rfl, b1⟩
  have B1 : Hid (Below w.heap.size w w1) := B0.out.trans (b1.mono B0.out.size)
  have X1 : Hid (Boxed w1 w.heap.size 36 (.slice ao ns.length ca)) := boxed_below b1 X0.out
  clear b1 X0 B0
  have s1 := B1.out.size
  by_cases hok : okTree ns = true
  rotate_left
  · have hok' : okTree ns = false := by simpa using hok
    have HT : Hid (treeB ns = []) := by show _ = _; unfold treeB; rw [if_neg hok]
    have O2 : Hid (Own .u8 5 (w1.alloc (.cells #[] 5)) w.heap.size (.slice (some ⟨w1.heap.size, 0, none⟩) 0 0) []) := Own.mono (World.ownsRow_lit w1 #[] 0 (Nat.le_refl _) (Nat.zero_le _) rfl) s1
    rw [hok']
    clear hok hok'
    go_wp2
    go_ret
    exact ⟨_, rfl, (by rw [HT.out]; exact O2.out), B1.out.alloc s1 _⟩
  have HT : Hid (treeB ns = nodesB ns) := by show _ = _; unfold treeB; rw [if_pos hok]
  have HOK : Hid (∀ k, k < ns.length → okNd (nAt ns k) = true) := fun k hk => okTree_nd hok k hk
  have hn2 := okTree_len hok
  rw [hok]
  clear hok
  have c0 := X1.out.cell
  go_wp2_with fail
  refine (sNodes_any _ _ ns (HR.out.below B1.out) hn2 HOK.out).mono ?_
  rintro e w2 ⟨v2, rfl, o2, b2⟩
  have O2 : Hid (Own .u8 5 w2 w.heap.size v2 (treeB ns)) := by rw [HT.out]; exact o2.mono s1
  have B2 : Hid (Below w.heap.size w w2) := B1.out.trans (b2.mono s1)
  clear o2 b2 c0
  go_wp2
  go_ret
  exact ⟨_, rfl, O2.out, B2.out⟩

end Go.Proofs.YtcopcegamadkgaaDoor

namespace Go.Proofs.YtcopcegamadkgaaDoor
open Go.RowKit

section
variable {P : Program} (w : World)

theorem zeros_list (m : Nat) : (Builtin.zeroCells (Value.int .u8 0).cells m).toList = List.replicate m (Value.int .u8 0) := by
  apply List.ext_getElem
  · simp [Builtin.zeroCells, Value.cells]
  · intro j h1 h2
    simp [Builtin.zeroCells, Value.cells, Nat.mod_one]

theorem run_append_own_zeros (base : Nat) (t tn ty e : TypeId) (i : TypeInfo) (k kn : IntKind) (ht : P.underlying t = some (.slice e)) (htn : P.underlying tn = some (.int kn)) (hi : P.info? e = some i) (hz : i.zero = some (.int .u8 0))
    (hsize : i.size = 1) (hby : i.bytes = 1) (g n cap : Nat) (xs : List Value) (hown : w.ownsRow base e 1 (.slice (some ⟨g, 0, none⟩) n cap) n xs) (m : Nat) (h0 : 0 < m) (hm : n + m ≤ 1048576) (hbase : base ≤ w.heap.size) :
    ∃ v' w', (Builtin.append_ #[t, tn] ty #[.slice (some ⟨g, 0, none⟩) n cap, .int k m]).run P w = .ok v' w' ∧ w'.ownsRow base e 1 v' (n + m) (xs ++ List.replicate m (Value.int .u8 0)) ∧ w.grownBy w' (some g) := by
  have hxl : xs.length = n := by simpa using hown.1
  have hlen : (xs ++ List.replicate m (Value.int .u8 0)).length = (n + m) * 1 := by rw [List.length_append, hxl, List.length_replicate, Nat.mul_one]
  have hw : IntKind.i64.wrap (m : Int) = m := by rw [IntKind.wrap_i64]; omega
  have h63' : ¬ (9223372036854775807 < ((n : Int) + (m : Int))) := by omega
  have h48i : ¬ (281474976710656 < (m : Int)) := by omega
  have hneg : ¬ ((m : Int) < 0) := by omega
  have hns : ¬ (m = 0) := by omega
  have hcells := zeros_list m
  have hone : ∀ u ∈ List.replicate m (Value.int .u8 0), u.oneCell' = true := by intro u hu; rw [List.eq_of_mem_replicate hu]; rfl
  rcases hown.2 with ⟨h1, -⟩ | ⟨g', cap', cur, h1, hbg, hg, hnc, hcm, hcs, htake⟩
  · simp at h1
  · simp only [Value.slice.injEq, Option.some.injEq, Addr.mk.injEq, and_true] at h1
    obtain ⟨rfl, -, rfl⟩ := h1
    by_cases hroom : n + m ≤ cap
    · have hcs' : cur.size = cap := by simpa using hcs
      have hst := run_storeCells_at P g n e (List.replicate m (Value.int .u8 0)) 0 cur w hg (by simp; omega) hone
      simp only [Nat.add_zero, List.length_replicate] at hst
      refine ⟨.slice (some ⟨g, 0, none⟩) (n + m) cap, w.setRow g (cur.toList.take n ++ List.replicate m (Value.int .u8 0) ++ cur.toList.drop (n + m)).toArray, ?_, ⟨hlen, .inr ⟨g, cap, _, rfl, hbg, setRow_heap w g cur _ e _ hg, hroom, hcm, ?_, ?_⟩⟩, ⟨rfl, rfl, rfl, by simp, fun k _ hk => setRow_other w g k _ (fun e => hk (by simp [e]))⟩⟩
      · simp [Builtin.append_, run_underlying ht, run_underlying htn, sizeOf, typeInfo, zeroValue, hi, hz, hsize, hby, asInt, asIntOf, hw, hneg, hns, h48i, hroom, hcells, Addr.add_lit, hst]
      · simp only [List.size_toArray, List.length_append, List.length_take, List.length_drop, Array.length_toList, List.length_replicate]
        omega
      · have ht' : cur.toList.take n = xs := by simpa using htake
        rw [ht', ← hlen]
        exact List.take_left
    · have holds : ∀ j u, xs[j]? = some u → w.cell? ((⟨g, 0, none⟩ : Addr).add j) = some u := hown.cells (g := g) rfl
      have hn : ¬ (n + m ≤ cap) := hroom
      have h48' : ¬ (281474976710656 < Builtin.nextslicecap (n + m) cap) := by
        have := growslice_fits (need := n + m) (old := cap) (bytes := 1) (by omega) (by omega)
        omega
      have hfo := run_firstCells_some (P := P) w.drew 1 n ⟨g, 0, none⟩ n cap xs (by omega) (by simpa using holds)
      have hge := grownCap_ge w (n + m) cap e
      have hcm2 : grownCap w (n + m) cap e ≤ maxLen := grownCap_le_maxLen w (n + m) cap e (by unfold maxLen; omega)
      refine ⟨.slice (some ⟨w.heap.size, 0, none⟩) (n + m) (grownCap w (n + m) cap e), w.drew.alloc (.cells (xs.toArray ++ (Builtin.zeroCells (Value.int .u8 0).cells m) ++ Builtin.zeroCells (Value.int .u8 0).cells (grownCap w (n + m) cap e - (n + m))) e), ?_, ⟨hlen, .inr ⟨w.heap.size, _, _, rfl, hbase, heap_alloc_new w.drew _, hge, hcm2, ?_, ?_⟩⟩, ⟨rfl, rfl, rfl, by simp, fun k hk _ => Below.heap_alloc w.drew _ k hk⟩⟩
      · simp [Builtin.append_, run_underlying ht, run_underlying htn, sizeOf, typeInfo, zeroValue, hi, hz, hsize, hby, asInt, asIntOf, hw, hneg, hns, h48i, hn, h63', h48', Question.forced, hfo, newRow, grownCap]
      · have hz1 : (Value.int IntKind.u8 0).cells.size = 1 := rfl
        simp only [Array.size_append, List.size_toArray, size_zeroCells, hz1, hxl]
        omega
      · simp only [Array.toList_append, List.append_assoc, hcells]
        rw [← List.append_assoc, ← hlen]
        exact List.take_left

theorem wpList_append_zeros {ops : Array Oper} {rest : List Oper} {o : Oper} {a : Act} {Q : Exit → Act → World → Prop} (hgd : o.guard = none) (sl x : Operand) (t tn : TypeId)
    (ho : o.op = .call { callee := .builtin .append, args := #[sl, x], argTypes := #[t, tn] })
    (base : Nat) (e : TypeId) (i : TypeInfo) (k kn : IntKind) (ht : P.underlying t = some (.slice e)) (htn : P.underlying tn = some (.int kn)) (hi : P.info? e = some i) (hz : i.zero = some (.int .u8 0))
    (hsize : i.size = 1) (hby : i.bytes = 1) (g n cap : Nat) (xs : List Value) (hs : a.eval sl = .slice (some ⟨g, 0, none⟩) n cap) (hown : w.ownsRow base e 1 (.slice (some ⟨g, 0, none⟩) n cap) n xs) (m : Nat) (hx : a.eval x = .int k m)
    (h0 : 0 < m) (hm : n + m ≤ 1048576) (hbase : base ≤ w.heap.size)
    (h : ∀ v' w', w'.ownsRow base e 1 v' (n + m) (xs ++ List.replicate m (Value.int .u8 0)) → w.grownBy w' (some g) → wpList P ops Q rest (a.put o.dst v') w') : wpList P ops Q (o :: rest) a w := by
  obtain ⟨v', w', hr, h2, h3⟩ := run_append_own_zeros (P := P) w base t tn o.type e i k kn ht htn hi hz hsize hby g n cap xs hown m h0 hm hbase
  exact Lib.wpList_append_run w hgd sl x t tn ho _ _ hs hx v' w' hr (h v' w' h2 h3)

end
end Go.Proofs.YtcopcegamadkgaaDoor

namespace Go.Proofs.YtcopcegamadkgaaDoor
open Go.RowKit

set_option maxHeartbeats 1000000 in
set_option maxRecDepth 100000 in
theorem implNumberS_any (w : World) (base : Nat) (v : Value) (xs : List Int) (N n : Nat) (h : Own .u8 5 w base v xs) (hb : base ≤ w.heap.size) (hl : xs.length ≤ 1048576) (hn : n ≤ 8) :
    Calls Tryd.prog 88 #[v, .int .i64 N, .int .i64 n] w fun e w' => ∃ v', e = .returned v' ∧ Own .u8 5 w' base v' (xs ++ bigR N n) ∧ Below base w w' := by
  obtain ⟨i0, hi, hz0, hz1, hz2⟩ := info_parts Tryd.infoB
  have HO : Hid (Own .u8 5 w base v xs) := h
  clear h
  go_enter Tryd.func88, Tryd.ntmps88
  go_wp2
  go_loopw [0, 7] (fun vi vl wr => ∃ (k : Nat) (z : Int), k ≤ n ∧ vl = .int .i64 z ∧ z + 1 + (k : Int) = (n : Int) ∧ Hid (Own .u8 5 wr base vi (xs ++ bigR (N / 2 ^ (8 * (n - k))) k)) ∧ Hid (Below base w wr)) (fun _ i _ => ((intOf i) + 1).toNat)
  case atStart => exact ⟨0, (n : Int) - 1, Nat.zero_le _, rfl, by omega, by show Own _ _ _ _ _ _; unfold bigR; rw [List.append_nil]; exact HO.out, Below.refl _ _⟩
  case round =>
    obtain ⟨k, z, hk, rfl, hz, HW, HB⟩ := hrel
    have sB := HB.out.size
    by_cases hz0' : 0 ≤ z
    · obtain ⟨l, rfl⟩ : ∃ l : Nat, z = (l : Int) := ⟨z.toNat, by omega⟩
      have hl8 : l ≤ 7 := by omega
      have HST : Hid (bigR (N / 2 ^ (8 * (n - k))) k ++ [((N / 2 ^ (8 * l) % 256 : Nat) : Int)] = bigR (N / 2 ^ (8 * (n - (k + 1)))) (k + 1)) := by
        show _ = _
        rw [show n - k = l + 1 by omega, show n - (k + 1) = l by omega]; exact bigR_step N l k
      obtain ⟨ys, hys⟩ : ∃ ys, ys = xs ++ bigR (N / 2 ^ (8 * (n - k))) k := ⟨_, rfl⟩
      have HYS : Hid (ys = xs ++ bigR (N / 2 ^ (8 * (n - k))) k) := hys
      have HW1 : Hid (wr.ownsRow base 5 1 u0 ys.length (ys.map (Value.int .u8))) := by rw [hys]; exact HW.out
      have hyl : ys.length ≤ 1048600 := by rw [hys, List.length_append, bigR_len]; omega
      clear hys HW
      have HV : Hid ((N : Int) / 2 ^ (8 * l) % 256 = ((N / 2 ^ (8 * l) % 256 : Nat) : Int)) := by show _ = _; rw [shr_cast]; rfl
      go_wp2_with (at_builtin; go_must (refine wpList_append_own _ rfl _ _ 24 rfl base 5 i0 (.int .u8 0) 1 1 Tryd.underlying24 hi hz0 hz1 hz2 rfl (by decide) _ _ _ rfl (World.ownsRow.alloc HW1.out _) ⟨wr.heap.size, 0, none⟩ 1 1 [.int .u8 ((N : Int) / 2 ^ (8 * l) % 256)] rfl rfl (cell_one_new _ _ _) (by intro u hu; simp at hu; subst hu; rfl) ?c3 ?c4 ?c5 ?_))
      case c3 => unfold maxLen; omega
      case c4 => omega
      case c5 => simp; omega
      intro v2 w2 ho2 hg2 _
      have HO2 : Hid (Own .u8 5 w2 base v2 (xs ++ bigR (N / 2 ^ (8 * (n - (k + 1)))) (k + 1))) := by
        rw [HV.out] at ho2
        refine own_of (q := ys.length + 1) (ys := ys ++ [((N / 2 ^ (8 * l) % 256 : Nat) : Int)]) (by simp) ?_ (by rw [List.map_append]; exact ho2)
        rw [← HST.out, ← List.append_assoc, ← HYS.out]
      have HB2 : Hid (Below base w w2) := (HB.out.alloc (by omega) _).grown hg2 (by simp; omega) (fun q hq => (World.ownsRow.lt HW1.out q hq).1)
      clear ho2 hg2 HW1 HB
      go_wp2
      exact ⟨⟨k + 1, (l : Int) - 1, by omega, by go_num, by omega, HO2, HB2⟩, by simp [intOf]⟩
    · have hkn : k = n := by omega
      subst hkn
      have hzI : ¬ (0 : Int) ≤ z := hz0'
      go_wp2
      go_ret
      refine ⟨_, rfl, ?_, HB.out⟩
      have := HW.out
      rw [Nat.sub_self, Nat.mul_zero, Nat.pow_zero, Nat.div_one] at this
      exact this

set_option maxHeartbeats 1000000 in
set_option maxRecDepth 100000 in
theorem implOk_any (w : World) (g b s l c : Int) :
    Calls Tryd.prog 87 #[.agg #[.int .i64 g, .int .i64 b, .int .i64 s, .int .i64 l, .int .i64 c]] w fun e w' => e = .returned (.bool (supOk g b s l c)) ∧ Below w.heap.size w w' := by
  go_enter Tryd.func87, Tryd.ntmps87
  go_wp2
  all_goals
    go_ret
    refine ⟨ret_bool ?_, (Below.refl _ _).alloc (Nat.le_refl _) _⟩
    unfold supOk
    rw [Bool.eq_iff_iff]
    simp only [Bool.and_eq_true, Bool.or_eq_true, decide_eq_true_eq, Bool.false_eq_true, false_iff]
    omega

theorem own_some {k : IntKind} {e : TypeId} {w : World} {lo : Nat} {v : Value} {xs : List Int} (h : Own k e w lo v xs) (h0 : 0 < xs.length) : ∃ g c, v = .slice (some ⟨g, 0, none⟩) xs.length c := by
  rcases h.2 with ⟨rfl, h1⟩ | ⟨g, cap, cur, rfl, -⟩
  · omega
  · exact ⟨g, cap, rfl⟩

/-- A local superblock: five cells. -/
def Bx5 (w : World) (k : Nat) (g b s l c : Int) : Prop :=
  k < w.heap.size ∧ w.cell? ⟨k, 0, none⟩ = some (.int .i64 g) ∧ w.cell? ⟨k, 1, none⟩ = some (.int .i64 b) ∧ w.cell? ⟨k, 2, none⟩ = some (.int .i64 s) ∧ w.cell? ⟨k, 3, none⟩ = some (.int .i64 l) ∧ w.cell? ⟨k, 4, none⟩ = some (.int .i64 c)
theorem Bx5.new (w : World) (g b s l c : Int) (t : TypeId) : Bx5 (w.alloc (.cells #[.int .i64 g, .int .i64 b, .int .i64 s, .int .i64 l, .int .i64 c] t)) w.heap.size g b s l c :=
  ⟨by simp, (by go_simp), (by go_simp), (by go_simp), (by go_simp), (by go_simp)⟩
theorem Bx5.below {w w' : World} {k B : Nat} {g b s l c : Int} (h : Bx5 w k g b s l c) (hb : Below B w w') (hk : k < B) : Bx5 w' k g b s l c := by
  obtain ⟨h0, h1, h2, h3, h4, h5⟩ := h
  exact ⟨Nat.lt_of_lt_of_le h0 hb.size, (hb.cell (p := ⟨k, 0, none⟩) hk).trans h1, (hb.cell (p := ⟨k, 1, none⟩) hk).trans h2, (hb.cell (p := ⟨k, 2, none⟩) hk).trans h3, (hb.cell (p := ⟨k, 3, none⟩) hk).trans h4, (hb.cell (p := ⟨k, 4, none⟩) hk).trans h5⟩

set_option maxHeartbeats 1000000 in
set_option maxRecDepth 100000 in
theorem implSuper_no (w : World) (g b s l c : Int) (h : supOk g b s l c = false) :
    Calls Tryd.prog 47 #[.agg #[.int .i64 g, .int .i64 b, .int .i64 s, .int .i64 l, .int .i64 c]] w fun e w' => ∃ v', e = .returned v' ∧ Own .u8 5 w' w.heap.size v' [] ∧ Below w.heap.size w w' := by
  have H : Hid (supOk g b s l c = false) := h
  clear h
  go_enter Tryd.func47, Tryd.ntmps47
  go_wp2_with fail
  refine (implOk_any _ g b s l c).mono ?_
  rintro e w1 ⟨rfl, b1⟩
  rw [H.out]
  have B1 : Hid (Below w.heap.size w w1) := ((Below.refl _ _).alloc (Nat.le_refl _) _).trans (b1.mono (by simp))
  clear b1
  go_wp2
  go_ret
  exact ⟨_, rfl, World.ownsRow_nil _ _ _ _, B1.out⟩

set_option maxHeartbeats 2000000 in
set_option maxRecDepth 100000 in
theorem implSuper_yes (w : World) (g b s l c : Nat) (h : supOk g b s l c = true) :
    Calls Tryd.prog 47 #[.agg #[.int .i64 g, .int .i64 b, .int .i64 s, .int .i64 l, .int .i64 c]] w fun e w' => ∃ v', e = .returned v' ∧ Own .u8 5 w' w.heap.size v' (supB g b s l c) ∧ Below w.heap.size w w' := by
  obtain ⟨i0, hi, hz0, hz1, hz2⟩ := info_parts Tryd.infoB
  have H : Hid (supOk g b s l c = true) := h
  clear h
  go_enter Tryd.func47, Tryd.ntmps47
  go_wp2_with fail
  refine (implOk_any _ g b s l c).mono ?_
  rintro e w1 ⟨rfl, b1⟩
  rw [H.out]
  have X1 : Hid (Bx5 w1 w.heap.size g b s l c) := (Bx5.new w g b s l c _).below b1 (by simp)
  have B1 : Hid (Below w.heap.size w w1) := ((Below.refl _ _).alloc (Nat.le_refl _) _).trans (b1.mono (by simp))
  have s1 : w.heap.size + 1 ≤ w1.heap.size := by have := b1.size; simpa using this
  clear b1
  have O1 : Hid (Own .u8 5 w1 (w.heap.size + 1) (.slice none 0 0) []) := World.ownsRow_nil _ _ _ _
  obtain ⟨-, x0, x1, x2, x3, x4⟩ := X1.out
  go_wp2_with fail
  refine (implNumberS_any _ (w.heap.size + 1) _ ([]) g 8 O1.out s1 (by simp) (by omega)).mono ?_
  rintro e w2 ⟨v2, rfl, o2, b2⟩
  have X2 : Hid (Bx5 w2 w.heap.size g b s l c) := X1.out.below b2 (by omega)
  have B2 : Hid (Below w.heap.size w w2) := B1.out.trans (b2.mono (by omega))
  have s2 : w.heap.size + 1 ≤ w2.heap.size := Nat.le_trans s1 b2.size
  have O2 : Hid (Own .u8 5 w2 (w.heap.size + 1) v2 ([] ++ bigR g 8)) := o2
  clear x0 x1 x2 x3 x4 o2 b2 X1 B1 O1
  obtain ⟨-, x0, x1, x2, x3, x4⟩ := X2.out
  go_wp2_with fail
  refine (implNumberS_any _ (w.heap.size + 1) _ ([] ++ bigR g 8) b 1 O2.out s2 (by simp [bigR_len]) (by omega)).mono ?_
  rintro e w3 ⟨v3, rfl, o3, b3⟩
  have X3 : Hid (Bx5 w3 w.heap.size g b s l c) := X2.out.below b3 (by omega)
  have B3 : Hid (Below w.heap.size w w3) := B2.out.trans (b3.mono (by omega))
  have s3 : w.heap.size + 1 ≤ w3.heap.size := Nat.le_trans s2 b3.size
  have O3 : Hid (Own .u8 5 w3 (w.heap.size + 1) v3 ([] ++ bigR g 8 ++ bigR b 1)) := o3
  clear x0 x1 x2 x3 x4 o3 b3 X2 B2 O2
  obtain ⟨-, x0, x1, x2, x3, x4⟩ := X3.out
  go_wp2_with fail
  refine (implNumberS_any _ (w.heap.size + 1) _ ([] ++ bigR g 8 ++ bigR b 1) s 4 O3.out s3 (by simp [bigR_len]) (by omega)).mono ?_
  rintro e w4 ⟨v4, rfl, o4, b4⟩
  have X4 : Hid (Bx5 w4 w.heap.size g b s l c) := X3.out.below b4 (by omega)
  have B4 : Hid (Below w.heap.size w w4) := B3.out.trans (b4.mono (by omega))
  have s4 : w.heap.size + 1 ≤ w4.heap.size := Nat.le_trans s3 b4.size
  have O4 : Hid (Own .u8 5 w4 (w.heap.size + 1) v4 ([] ++ bigR g 8 ++ bigR b 1 ++ bigR s 4)) := o4
  clear x0 x1 x2 x3 x4 o4 b4 X3 B3 O3
  obtain ⟨-, x0, x1, x2, x3, x4⟩ := X4.out
  go_wp2_with fail
  refine (implNumberS_any _ (w.heap.size + 1) _ ([] ++ bigR g 8 ++ bigR b 1 ++ bigR s 4) l 4 O4.out s4 (by simp [bigR_len]) (by omega)).mono ?_
  rintro e w5 ⟨v5, rfl, o5, b5⟩
  have X5 : Hid (Bx5 w5 w.heap.size g b s l c) := X4.out.below b5 (by omega)
  have B5 : Hid (Below w.heap.size w w5) := B4.out.trans (b5.mono (by omega))
  have s5 : w.heap.size + 1 ≤ w5.heap.size := Nat.le_trans s4 b5.size
  have O5 : Hid (Own .u8 5 w5 (w.heap.size + 1) v5 ([] ++ bigR g 8 ++ bigR b 1 ++ bigR s 4 ++ bigR l 4)) := o5
  clear x0 x1 x2 x3 x4 o5 b5 X4 B4 O4
  obtain ⟨-, x0, x1, x2, x3, x4⟩ := X5.out
  go_wp2_with fail
  refine (implNumberS_any _ (w.heap.size + 1) _ ([] ++ bigR g 8 ++ bigR b 1 ++ bigR s 4 ++ bigR l 4) c 4 O5.out s5 (by simp [bigR_len]) (by omega)).mono ?_
  rintro e w6 ⟨v6, rfl, o6, b6⟩
  have X6 : Hid (Bx5 w6 w.heap.size g b s l c) := X5.out.below b6 (by omega)
  have B6 : Hid (Below w.heap.size w w6) := B5.out.trans (b6.mono (by omega))
  have s6 : w.heap.size + 1 ≤ w6.heap.size := Nat.le_trans s5 b6.size
  have O6 : Hid (Own .u8 5 w6 (w.heap.size + 1) v6 ([] ++ bigR g 8 ++ bigR b 1 ++ bigR s 4 ++ bigR l 4 ++ bigR c 4)) := o6
  clear x0 x1 x2 x3 x4 o6 b6 X5 B5 O5
  have hlen6 : ([] ++ bigR g 8 ++ bigR b 1 ++ bigR s 4 ++ bigR l 4 ++ bigR c 4).length = 21 := by simp [bigR_len]
  obtain ⟨g6, c6, hv6⟩ := own_some O6.out (by rw [hlen6]; omega)
  rw [hlen6] at hv6
  subst hv6
  have O6' : Hid (w6.ownsRow (w.heap.size + 1) 5 1 (.slice (some ⟨g6, 0, none⟩) 21 c6) 21 (([] ++ bigR g 8 ++ bigR b 1 ++ bigR s 4 ++ bigR l 4 ++ bigR c 4).map (Value.int .u8))) := by have := O6.out; unfold Own at this; rw [hlen6] at this; exact this
  clear O6 hlen6
  generalize hLg : ([] ++ bigR g 8 ++ bigR b 1 ++ bigR s 4 ++ bigR l 4 ++ bigR c 4) = L6 at *
  have HLg : Hid (([] ++ bigR g 8 ++ bigR b 1 ++ bigR s 4 ++ bigR l 4 ++ bigR c 4) = L6) := hLg
  clear hLg
  obtain ⟨-, x0, x1, x2, x3, x4⟩ := X6.out
  go_wp2_with (at_builtin; go_must (refine wpList_append_zeros _ rfl _ _ 24 3 rfl (w.heap.size + 1) 5 i0 .i64 .i64 Tryd.underlying24 Tryd.underlying3 hi hz0 hz1 hz2 g6 21 c6 _ rfl O6'.out 35 rfl (by omega) (by omega) s6 ?_))
  intro v7 w7 ho7 hg7
  have b7 : Below (w.heap.size + 1) w6 w7 := (Below.refl _ _).grown hg7 s6 (fun q hq => by injection hq with hq; subst hq; exact (World.ownsRow.lt O6'.out _ rfl).1)
  have O7 : Hid (Own .u8 5 w7 (w.heap.size + 1) v7 (L6 ++ List.replicate 35 0)) := own_of (q := 21 + 35) (by rw [← HLg.out]; simp [bigR_len]) rfl (by rw [List.map_append, List.map_replicate]; exact ho7)
  have X7 : Hid (Bx5 w7 w.heap.size g b s l c) := X6.out.below b7 (by omega)
  have B7 : Hid (Below w.heap.size w w7) := B6.out.trans (b7.mono (by omega))
  have s7 : w.heap.size + 1 ≤ w7.heap.size := Nat.le_trans s6 b7.size
  clear x0 x1 x2 x3 x4 ho7 hg7 b7 X6 B6 O6'
  obtain ⟨-, x0, x1, x2, x3, x4⟩ := X7.out
  go_wp2_with fail
  refine (implNumberS_any _ (w.heap.size + 1) _ (L6 ++ List.replicate 35 0) g 8 O7.out s7 (by rw [← HLg.out]; simp [bigR_len]) (by omega)).mono ?_
  rintro e w8 ⟨v8, rfl, o8, b8⟩
  have B8 : Hid (Below w.heap.size w w8) := B7.out.trans (b8.mono (by omega))
  have O8 : Hid (Own .u8 5 w8 w.heap.size v8 (supB g b s l c)) := by
    have h8 := o8.mono (show w.heap.size ≤ w.heap.size + 1 by omega)
    rw [← HLg.out, List.nil_append] at h8
    exact h8
  clear o8 b8
  go_wp2
  go_ret
  exact ⟨_, rfl, O8.out, B8.out⟩

theorem supOk_nat {g b s l c : Int} (h : supOk g b s l c = true) : ∃ g' b' s' l' c' : Nat, g = g' ∧ b = b' ∧ s = s' ∧ l = l' ∧ c = c' := by
  unfold supOk at h
  simp only [Bool.and_eq_true, Bool.or_eq_true, decide_eq_true_eq] at h
  exact ⟨g.toNat, b.toNat, s.toNat, l.toNat, c.toNat, by omega, by omega, by omega, by omega, by omega⟩

theorem implSuper_any (w : World) (g b s l c : Int) :
    Calls Tryd.prog 47 #[.agg #[.int .i64 g, .int .i64 b, .int .i64 s, .int .i64 l, .int .i64 c]] w fun e w' => ∃ v', e = .returned v' ∧ Own .u8 5 w' w.heap.size v' (sup g b s l c) ∧ Below w.heap.size w w' := by
  unfold sup
  by_cases h : supOk g b s l c = true
  · rw [if_pos h]
    obtain ⟨g, b, s, l, c, rfl, rfl, rfl, rfl, rfl⟩ := supOk_nat h
    exact implSuper_yes w g b s l c h
  · rw [if_neg h]
    exact implSuper_no w g b s l c (by simpa using h)

end Go.Proofs.YtcopcegamadkgaaDoor

namespace Go.Proofs.YtcopcegamadkgaaDoor
open Go.RowKit

set_option maxHeartbeats 1000000 in
set_option maxRecDepth 100000 in
theorem specOk_any (w : World) (g b s l c : Int) :
    Calls Tryd.prog 82 #[.agg #[.int .i64 g, .int .i64 b, .int .i64 s, .int .i64 l, .int .i64 c]] w fun e w' => e = .returned (.bool (supOk g b s l c)) ∧ Below w.heap.size w w' := by
  go_enter Tryd.func82, Tryd.ntmps82
  go_wp2
  all_goals
    go_ret
    refine ⟨ret_bool ?_, (Below.refl _ _).alloc (Nat.le_refl _) _⟩
    unfold supOk
    rw [Bool.eq_iff_iff]
    simp only [Bool.and_eq_true, Bool.or_eq_true, decide_eq_true_eq, Bool.false_eq_true, false_iff]
    omega

end Go.Proofs.YtcopcegamadkgaaDoor

namespace Go.Proofs.YtcopcegamadkgaaDoor
open Go.RowKit

set_option maxHeartbeats 1000000 in
set_option maxRecDepth 100000 in
theorem specBigS_any : ∀ (n : Nat) (w : World) (N : Nat), n ≤ 8 → N < 9223372036854775808 →
    Calls Tryd.prog 83 #[.int .i64 N, .int .i64 n] w fun e w' => ∃ v', e = .returned v' ∧ Own .u8 5 w' w.heap.size v' (bigR N n) ∧ Below w.heap.size w w'
  | 0, w, N, _, _ => by
    go_enter Tryd.func83, Tryd.ntmps83
    go_wp2
    go_ret
    exact ⟨_, rfl, World.ownsRow_lit w #[] 0 (Nat.le_refl _) (Nat.zero_le _) rfl, (Below.refl _ _).alloc (Nat.le_refl _) _⟩
  | n + 1, w, N, hn, hN => by
    obtain ⟨i0, hi, hz0, hz1, hz2⟩ := info_parts Tryd.infoB
    have HI : Hid (Calls Tryd.prog 83 #[.int .i64 ((N : Int) / 256), .int .i64 n] w fun e w' => ∃ v', e = .returned v' ∧ Own .u8 5 w' w.heap.size v' (bigR (N / 256) n) ∧ Below w.heap.size w w') := by
      have := specBigS_any n w (N / 256) (by omega) (by omega)
      rw [show ((N / 256 : Nat) : Int) = (N : Int) / 256 by omega] at this
      exact this
    have h0 : (((n + 1 : Nat) : Int) == 0) = false := beq_eq_false_iff_ne.2 (by omega)
    have hw : wrap64 ((N : Int) / 256) = ((N / 256 : Nat) : Int) := by unfold wrap64; omega
    clear hN
    go_enter Tryd.func83, Tryd.ntmps83
    go_wp2_with fail
    refine HI.out.mono ?_
    rintro e w1 ⟨v1, rfl, o1, b1⟩
    have s1 := b1.size
    obtain ⟨ys, hys⟩ : ∃ ys, ys = bigR (N / 256) n := ⟨_, rfl⟩
    have hyl : ys.length = n := by rw [hys, bigR_len]
    have HYS : Hid (ys = bigR (N / 256) n) := hys
    have O1 : Hid (w1.ownsRow w.heap.size 5 1 v1 n (ys.map (Value.int .u8))) := by have := o1; unfold Own at this; rw [← hys, hyl] at this; exact this
    have HYL : Hid (ys.length = n) := hyl
    have B1 : Hid (Below w.heap.size w w1) := b1
    have HV : Hid ((N : Int) % 256 = ((N % 256 : Nat) : Int)) := by show _ = _; omega
    clear o1 b1 hys hyl HI hw
    go_wp2_with (at_builtin; go_must (refine wpList_append_own _ rfl _ _ 24 rfl w.heap.size 5 i0 (.int .u8 0) 1 1 Tryd.underlying24 hi hz0 hz1 hz2 rfl (by decide) _ _ _ rfl (O1.out.alloc _) ⟨w1.heap.size, 0, none⟩ 1 1 [.int .u8 ((N : Int) % 256)] rfl rfl (cell_one_new _ _ _) (by intro u hu; simp at hu; subst hu; rfl) ?c3 ?c4 ?c5 ?_))
    case c3 => unfold maxLen; omega
    case c4 => omega
    case c5 => simp; omega
    intro v2 w2 ho2 hg2 _
    have O2 : Hid (Own .u8 5 w2 w.heap.size v2 (bigR N (n + 1))) := by
      rw [HV.out] at ho2
      refine own_of (q := n + 1) (ys := ys ++ [((N % 256 : Nat) : Int)]) (by simp [HYL.out]) ?_ (by rw [List.map_append]; exact ho2)
      rw [HYS.out]; rfl
    have B2 : Hid (Below w.heap.size w w2) := (B1.out.alloc s1 _).grown hg2 (by simp; omega) (fun q hq => (World.ownsRow.lt O1.out q hq).1)
    clear ho2 hg2
    go_wp2
    go_ret
    exact ⟨_, rfl, O2.out, B2.out⟩

end Go.Proofs.YtcopcegamadkgaaDoor

namespace Go.Proofs.YtcopcegamadkgaaDoor
open Go.RowKit

theorem ownsRow_below2 {w w' : World} {lo n z : Nat} {e : TypeId} {v : Value} {us : List Value} (ho : w.ownsRow lo e z v n us) (hb : Below w.heap.size w w') : w'.ownsRow lo e z v n us := by
  refine ⟨ho.1, ?_⟩
  rcases ho.2 with hn | ⟨g, cap, cur, rfl, hbg, hgg, rest⟩
  · exact .inl hn
  · exact .inr ⟨g, cap, cur, rfl, hbg, by rw [hb.block g (Array.getElem?_eq_some_iff.1 hgg).1]; exact hgg, rest⟩
theorem row_slice2 {w : World} {lo n : Nat} {e : TypeId} {v : Value} {us : List Value} (h : w.ownsRow lo e 1 v n us) : ∃ a c, v = .slice a n c ∧ n ≤ c ∧ c ≤ maxLen := by
  rcases h.2 with ⟨rfl, rfl⟩ | ⟨g, cap, cur, rfl, -, -, h1, h2, -⟩
  · exact ⟨none, 0, rfl, Nat.le_refl _, Nat.zero_le _⟩
  · exact ⟨_, _, rfl, h1, h2⟩

set_option maxHeartbeats 1000000 in
set_option maxRecDepth 100000 in
theorem specSuper_no (w : World) (g b s l c : Int) (h : supOk g b s l c = false) :
    Calls Tryd.prog 36 #[.agg #[.int .i64 g, .int .i64 b, .int .i64 s, .int .i64 l, .int .i64 c]] w fun e w' => ∃ v', e = .returned v' ∧ Own .u8 5 w' w.heap.size v' [] ∧ Below w.heap.size w w' := by
  have H : Hid (supOk g b s l c = false) := h
  clear h
  go_enter Tryd.func36, Tryd.ntmps36
  go_wp2_with fail
  refine (specOk_any _ g b s l c).mono ?_
  rintro e w1 ⟨rfl, b1⟩
  rw [H.out]
  have B1 : Hid (Below w.heap.size w w1) := ((Below.refl _ _).alloc (Nat.le_refl _) _).trans (b1.mono (by simp))
  clear b1
  go_wp2
  go_ret
  exact ⟨_, rfl, Own.mono (World.ownsRow_lit w1 #[] 0 (Nat.le_refl _) (Nat.zero_le _) rfl) B1.out.size, B1.out.alloc B1.out.size _⟩

set_option maxHeartbeats 2000000 in
set_option maxRecDepth 100000 in
theorem specSuper_yes (w : World) (g b s l c : Nat) (h : supOk g b s l c = true) (hg : g < 9223372036854775808) :
    Calls Tryd.prog 36 #[.agg #[.int .i64 g, .int .i64 b, .int .i64 s, .int .i64 l, .int .i64 c]] w fun e w' => ∃ v', e = .returned v' ∧ Own .u8 5 w' w.heap.size v' (supB g b s l c) ∧ Below w.heap.size w w' := by
  obtain ⟨i0, hi, hz0, hz1, hz2⟩ := info_parts Tryd.infoB
  have H : Hid (supOk g b s l c = true) := h
  have HG : Hid (g < 9223372036854775808 ∧ s < 9223372036854775808 ∧ l < 9223372036854775808 ∧ c < 9223372036854775808) := by
    unfold supOk at h
    simp only [Bool.and_eq_true, Bool.or_eq_true, decide_eq_true_eq] at h
    exact ⟨hg, by omega, by omega, by omega⟩
  clear h hg
  go_enter Tryd.func36, Tryd.ntmps36
  go_wp2_with fail
  refine (specOk_any _ g b s l c).mono ?_
  rintro e w1 ⟨rfl, b1⟩
  rw [H.out]
  have X1 : Hid (Bx5 w1 w.heap.size g b s l c) := (Bx5.new w g b s l c _).below b1 (by simp)
  have B1 : Hid (Below w.heap.size w w1) := ((Below.refl _ _).alloc (Nat.le_refl _) _).trans (b1.mono (by simp))
  have s1 : w.heap.size + 1 ≤ w1.heap.size := by have := b1.size; simpa using this
  clear b1
  have HV : Hid ((b : Int) % 256 = ((b % 256 : Nat) : Int)) := by show _ = _; omega
  go_wp2_with fail
  refine wp_region_held_drew (S := fun w' => Bx5 w' w.heap.size g b s l c) (by kernel_rfl) X1.out (fun hHeld => ?_)
  refine wpAnyH_take (i := 0) (oi := { dst := some 8, op := _, type := _, pos := _, after := _, guard := _ }) (v := (.pointer (some ⟨w.heap.size, 0, none⟩))) rfl (by kernel_rfl) (by kernel_rfl) (by kernel_rfl) (fun _ _ _ h => h) (Or.inl ⟨by rfl, fun w' hSw => ?_⟩) (by assumption) ?_
  · obtain ⟨-, y0, y1, y2, y3, y4⟩ := hSw
    go_simp
  simp only [Act.put, List.setIfInBounds_toArray, List.set_cons_zero, List.set_cons_succ]
  refine wpAnyH_take (i := 1) (oi := { dst := some 9, op := _, type := _, pos := _, after := _, guard := _ }) (v := (.int .i64 g)) rfl (by kernel_rfl) (by kernel_rfl) (by kernel_rfl) (fun _ _ _ h => h) (Or.inl ⟨by rfl, fun w' hSw => ?_⟩) (by assumption) ?_
  · obtain ⟨-, y0, y1, y2, y3, y4⟩ := hSw
    go_simp
  simp only [Act.put, List.setIfInBounds_toArray, List.set_cons_zero, List.set_cons_succ]
  refine wpAnyH_take (i := 3) (oi := { dst := some 11, op := _, type := _, pos := _, after := _, guard := _ }) (v := (.pointer (some ⟨w.heap.size, 1, none⟩))) rfl (by kernel_rfl) (by kernel_rfl) (by kernel_rfl) (fun _ _ _ h => h) (Or.inl ⟨by rfl, fun w' hSw => ?_⟩) (by assumption) ?_
  · obtain ⟨-, y0, y1, y2, y3, y4⟩ := hSw
    go_simp
  simp only [Act.put, List.setIfInBounds_toArray, List.set_cons_zero, List.set_cons_succ]
  refine wpAnyH_take (i := 4) (oi := { dst := some 12, op := _, type := _, pos := _, after := _, guard := _ }) (v := (.int .i64 b)) rfl (by kernel_rfl) (by kernel_rfl) (by kernel_rfl) (fun _ _ _ h => h) (Or.inl ⟨by rfl, fun w' hSw => ?_⟩) (by assumption) ?_
  · obtain ⟨-, y0, y1, y2, y3, y4⟩ := hSw
    go_simp
  simp only [Act.put, List.setIfInBounds_toArray, List.set_cons_zero, List.set_cons_succ]
  refine wpAnyH_take (i := 5) (oi := { dst := some 13, op := _, type := _, pos := _, after := _, guard := _ }) (v := (.int .u8 ((b : Int) % 256))) rfl (by kernel_rfl) (by kernel_rfl) (by kernel_rfl) (fun _ _ _ h => h) (Or.inl ⟨by rfl, fun w' hSw => ?_⟩) (by assumption) ?_
  · obtain ⟨-, y0, y1, y2, y3, y4⟩ := hSw
    go_simp
    rw [IntKind.wrap_u8]
  simp only [Act.put, List.setIfInBounds_toArray, List.set_cons_zero, List.set_cons_succ]
  refine wpAnyH_ready (rs := [2, 6]) (by kernel_rfl) (by simp) ?_
  refine AllReadyH.cons rfl (fun K hK => ?_) (AllReadyH.cons rfl (fun K hK => ?_) AllReadyH.nil)
  focus
    go_simp
    go_at_call 83
    refine (specBigS_any 8 _ g (by omega) HG.out.1).mono ?_
    rintro e w2 ⟨v2, rfl, o2, b2⟩
    have b2w : Below w1.heap.size w1 w2 := Below.trans (b := w1.drew) (below_drewN' w1 1) b2
    have X2 : Hid (Bx5 w2 w.heap.size g b s l c) := X1.out.below b2w (by omega)
    have B2 : Hid (Below w.heap.size w w2) := B1.out.trans (b2w.mono (by omega))
    clear b2w
    have O2 : Hid (w2.ownsRow (w.heap.size + 1) 5 1 v2 8 ((bigR g 8).map (Value.int .u8))) := by have h2 := o2.mono (show w.heap.size + 1 ≤ w1.heap.size from s1); unfold Own at h2; rw [bigR_len] at h2; exact h2
    refine hK.out _ _ X2.out (fun hHeld2 => ?_)
    clear hK K o2 b2
    try simp only [Act.put, List.setIfInBounds_toArray, List.set_cons_zero, List.set_cons_succ]
    refine wpAnyH_ready (rs := [6]) (by kernel_rfl) (by simp) ?_
    refine AllReadyH.cons (o := { dst := some 14, op := _, type := _, pos := _, after := _, guard := _ }) rfl (fun K hK => ?_) AllReadyH.nil
    go_simp
    have bA : Below (w.heap.size + 1) w2 (w2.alloc (.cells #[.int .u8 ((b : Int) % 256)] 5)) := (Below.refl _ _).alloc X2.out.1 _
    have XA : Hid (Bx5 (w2.alloc (.cells #[.int .u8 ((b : Int) % 256)] 5)) w.heap.size g b s l c) := X2.out.below bA (by omega)
    have BA : Hid (Below w.heap.size w (w2.alloc (.cells #[.int .u8 ((b : Int) % 256)] 5))) := B2.out.trans (bA.mono (by omega))
    have OA : Hid ((w2.alloc (.cells #[.int .u8 ((b : Int) % 256)] 5)).ownsRow (w.heap.size + 1) 5 1 v2 8 ((bigR g 8).map (Value.int .u8))) := O2.out.alloc _
    have NB : Hid (∀ j u, [Value.int .u8 ((b : Int) % 256)][j]? = some u → (w2.alloc (.cells #[.int .u8 ((b : Int) % 256)] 5)).cell? ((⟨w2.heap.size, 0, none⟩ : Addr).add j) = some u) := cell_one_new _ _ _
    refine hK.out _ _ XA.out (fun hHeldA => ?_)
    clear hK K hHeld2 X2 B2 O2 bA
    generalize w2.heap.size = GB at *
    generalize w2.alloc (.cells #[.int .u8 ((b : Int) % 256)] 5) = WA at *
    have sA : w.heap.size + 1 ≤ WA.heap.size := XA.out.1
    try simp only [Act.put, List.setIfInBounds_toArray, List.set_cons_zero, List.set_cons_succ]
    refine wpAnyH_ready (rs := [7]) (by kernel_rfl) (by simp) ?_
    refine AllReadyH.cons (o := { dst := some 15, op := _, type := _, pos := _, after := _, guard := _ }) rfl (fun K hK => ?_) AllReadyH.nil
    refine step_append rfl (.tmp 10) (.tmp 14) 24 rfl (w.heap.size + 1) 5 i0 (.int .u8 0) 1 1 Tryd.underlying24 hi hz0 hz1 hz2 rfl (by decide) v2 8 _ rfl OA.out ⟨GB, 0, none⟩ 1 1 [.int .u8 ((b : Int) % 256)] rfl rfl NB.out (by intro u hu; simp at hu; subst hu; rfl) (by unfold maxLen; omega) (by omega) sA ?_
    intro v3 w3 ho3 hg3
    have b3 : Below (w.heap.size + 1) WA w3 := (Below.refl _ _).grown hg3 sA (fun q hq => (World.ownsRow.lt OA.out q hq).1)
    have X3 : Hid (Bx5 w3 w.heap.size g b s l c) := XA.out.below b3 (by omega)
    have B3 : Hid (Below w.heap.size w w3) := BA.out.trans (b3.mono (by omega))
    have s3 : w.heap.size + 1 ≤ w3.heap.size := X3.out.1
    have O3 : Hid (w3.ownsRow (w.heap.size + 1) 5 1 v3 9 ((bigR g 8 ++ bigR b 1).map (Value.int .u8))) := by
      rw [HV.out] at ho3
      show World.ownsRow _ _ _ _ _ _ _
      rw [List.map_append]; exact ho3
    refine hK.out _ _ X3.out (fun hHeld3 => ?_)
    clear hK K ho3 hg3 b3
    try simp only [Act.put, List.setIfInBounds_toArray, List.set_cons_zero, List.set_cons_succ]
    refine wpAnyH_take (i := 8) (oi := { dst := some 3, op := _, type := _, pos := _, after := _, guard := _ }) (v := v3) rfl (by kernel_rfl) (by kernel_rfl) (by kernel_rfl) (fun _ _ _ h => h) (Or.inl ⟨by rfl, fun w' hSw => ?_⟩) (by assumption) ?_
    · go_simp
    try simp only [Act.put, List.setIfInBounds_toArray, List.set_cons_zero, List.set_cons_succ]
    refine wpAnyH_done (by kernel_rfl) ?_ _
    clear hHeld hHeldA hHeld3 XA BA OA NB sA
  rotate_left
  focus
    go_simp
    have bA0 : Below (w.heap.size + 1) w1 ((w1.alloc (.cells #[.int .u8 ((b : Int) % 256)] 5)).drew) := ((Below.refl _ _).alloc s1 _).drew
    have X2 : Hid (Bx5 ((w1.alloc (.cells #[.int .u8 ((b : Int) % 256)] 5)).drew) w.heap.size g b s l c) := X1.out.below bA0 (by omega)
    have B2 : Hid (Below w.heap.size w ((w1.alloc (.cells #[.int .u8 ((b : Int) % 256)] 5)).drew)) := B1.out.trans (bA0.mono (by omega))
    have N2 : Hid (∀ j u, [Value.int .u8 ((b : Int) % 256)][j]? = some u → ((w1.alloc (.cells #[.int .u8 ((b : Int) % 256)] 5)).drew).cell? ((⟨w1.heap.size, 0, none⟩ : Addr).add j) = some u) := cell_one_new w1 _ _
    have z2 : w1.heap.size < ((w1.alloc (.cells #[.int .u8 ((b : Int) % 256)] 5)).drew).heap.size := by simp
    refine hK.out _ _ X2.out (fun hHeld2 => ?_)
    clear hK K bA0
    generalize (w1.alloc (.cells #[.int .u8 ((b : Int) % 256)] 5)).drew = W2 at *
    try simp only [Act.put, List.setIfInBounds_toArray, List.set_cons_zero, List.set_cons_succ]
    refine wpAnyH_ready (rs := [2]) (by kernel_rfl) (by simp) ?_
    refine AllReadyH.cons (o := { dst := some 10, op := _, type := _, pos := _, after := _, guard := _ }) rfl (fun K hK => ?_) AllReadyH.nil
    go_simp
    go_at_call 83
    refine (specBigS_any 8 _ g (by omega) HG.out.1).mono ?_
    rintro e WA ⟨v2, rfl, o2, b2⟩
    have XA : Hid (Bx5 WA w.heap.size g b s l c) := X2.out.below b2 X2.out.1
    have BA : Hid (Below w.heap.size w WA) := B2.out.trans (b2.mono (by have := X2.out.1; omega))
    have OA : Hid (WA.ownsRow (w.heap.size + 1) 5 1 v2 8 ((bigR g 8).map (Value.int .u8))) := by have h2 := o2.mono (show w.heap.size + 1 ≤ W2.heap.size from X2.out.1); unfold Own at h2; rw [bigR_len] at h2; exact h2
    have NB : Hid (∀ j u, [Value.int .u8 ((b : Int) % 256)][j]? = some u → WA.cell? ((⟨w1.heap.size, 0, none⟩ : Addr).add j) = some u) := fun j u hj => by
      rw [b2.cell (p := (⟨w1.heap.size, 0, none⟩ : Addr).add j) (by rw [Addr.add_lit]; exact z2)]
      exact N2.out j u hj
    refine hK.out _ _ XA.out (fun hHeldA => ?_)
    clear hK K hHeld2 X2 B2 N2 o2 b2
    have sA : w.heap.size + 1 ≤ WA.heap.size := XA.out.1
    try simp only [Act.put, List.setIfInBounds_toArray, List.set_cons_zero, List.set_cons_succ]
    refine wpAnyH_ready (rs := [7]) (by kernel_rfl) (by simp) ?_
    refine AllReadyH.cons (o := { dst := some 15, op := _, type := _, pos := _, after := _, guard := _ }) rfl (fun K hK => ?_) AllReadyH.nil
    refine step_append rfl (.tmp 10) (.tmp 14) 24 rfl (w.heap.size + 1) 5 i0 (.int .u8 0) 1 1 Tryd.underlying24 hi hz0 hz1 hz2 rfl (by decide) v2 8 _ rfl OA.out ⟨w1.heap.size, 0, none⟩ 1 1 [.int .u8 ((b : Int) % 256)] rfl rfl NB.out (by intro u hu; simp at hu; subst hu; rfl) (by unfold maxLen; omega) (by omega) sA ?_
    intro v3 w3 ho3 hg3
    have b3 : Below (w.heap.size + 1) WA w3 := (Below.refl _ _).grown hg3 sA (fun q hq => (World.ownsRow.lt OA.out q hq).1)
    have X3 : Hid (Bx5 w3 w.heap.size g b s l c) := XA.out.below b3 (by omega)
    have B3 : Hid (Below w.heap.size w w3) := BA.out.trans (b3.mono (by omega))
    have s3 : w.heap.size + 1 ≤ w3.heap.size := X3.out.1
    have O3 : Hid (w3.ownsRow (w.heap.size + 1) 5 1 v3 9 ((bigR g 8 ++ bigR b 1).map (Value.int .u8))) := by
      rw [HV.out] at ho3
      show World.ownsRow _ _ _ _ _ _ _
      rw [List.map_append]; exact ho3
    refine hK.out _ _ X3.out (fun hHeld3 => ?_)
    clear hK K ho3 hg3 b3
    try simp only [Act.put, List.setIfInBounds_toArray, List.set_cons_zero, List.set_cons_succ]
    refine wpAnyH_take (i := 8) (oi := { dst := some 3, op := _, type := _, pos := _, after := _, guard := _ }) (v := v3) rfl (by kernel_rfl) (by kernel_rfl) (by kernel_rfl) (fun _ _ _ h => h) (Or.inl ⟨by rfl, fun w' hSw => ?_⟩) (by assumption) ?_
    · go_simp
    try simp only [Act.put, List.setIfInBounds_toArray, List.set_cons_zero, List.set_cons_succ]
    refine wpAnyH_done (by kernel_rfl) ?_ _
    clear hHeld hHeldA hHeld3 XA BA OA NB sA
  all_goals
    clear X1 B1 HV s1
    generalize hLg : bigR g 8 ++ bigR b 1 = L3 at *
    have HL3 : Hid (bigR g 8 ++ bigR b 1 = L3) := hLg
    clear hLg
    obtain ⟨-, x0, x1, x2, x3, x4⟩ := X3.out
    go_wp2_with fail
    refine (specBigS_any 4 _ s (by omega) HG.out.2.1).mono ?_
    rintro e w4 ⟨v4, rfl, o4, b4⟩
    obtain ⟨g4, c4, hv4⟩ := own_some o4 (by rw [bigR_len]; omega)
    rw [bigR_len] at hv4
    subst hv4
    have X4 : Hid (Bx5 w4 w.heap.size g b s l c) := X3.out.below b4 (by omega)
    have B4 : Hid (Below w.heap.size w w4) := B3.out.trans (b4.mono (by omega))
    have s4 : w.heap.size + 1 ≤ w4.heap.size := Nat.le_trans s3 b4.size
    have O4 : Hid (w4.ownsRow (w.heap.size + 1) 5 1 v3 9 (L3.map (Value.int .u8))) := ownsRow_below2 O3.out b4
    have N4 : Hid (∀ j u, ((bigR s 4).map (Value.int .u8))[j]? = some u → w4.cell? ((⟨g4, 0, none⟩ : Addr).add j) = some u) := World.ownsRow.cells o4 rfl
    clear x0 x1 x2 x3 x4 o4 b4 X3 B3 O3
    go_wp2_with (at_builtin; go_must (refine wpList_append_own _ rfl _ _ 24 rfl (w.heap.size + 1) 5 i0 (.int .u8 0) 1 1 Tryd.underlying24 hi hz0 hz1 hz2 rfl (by decide) _ _ _ rfl O4.out ⟨g4, 0, none⟩ 4 c4 ((bigR s 4).map (Value.int .u8)) rfl ?_ N4.out (ints_oneCell _ _) ?_ ?_ ?_ ?_))
    · rw [List.length_map, bigR_len]
    · unfold maxLen; omega
    · omega
    · exact s4
    intro v5 w5 ho5 hg5 _
    have b5 : Below (w.heap.size + 1) w4 w5 := (Below.refl _ _).grown hg5 s4 (fun q hq => (World.ownsRow.lt O4.out q hq).1)
    have X5 : Hid (Bx5 w5 w.heap.size g b s l c) := X4.out.below b5 (by omega)
    have B5 : Hid (Below w.heap.size w w5) := B4.out.trans (b5.mono (by omega))
    have s5 : w.heap.size + 1 ≤ w5.heap.size := Nat.le_trans s4 b5.size
    have O5 : Hid (w5.ownsRow (w.heap.size + 1) 5 1 v5 13 ((L3 ++ bigR s 4).map (Value.int .u8))) := by
      show World.ownsRow _ _ _ _ _ _ _
      rw [List.map_append]; exact ho5
    clear ho5 hg5 b5 X4 B4 O4 N4
    generalize hLg : L3 ++ bigR s 4 = L5 at *
    have HL5 : Hid (L3 ++ bigR s 4 = L5) := hLg
    clear hLg
    obtain ⟨-, x0, x1, x2, x3, x4⟩ := X5.out
    go_wp2_with fail
    refine (specBigS_any 4 _ l (by omega) HG.out.2.2.1).mono ?_
    rintro e w6 ⟨v6, rfl, o6, b6⟩
    obtain ⟨g6, c6, hv6⟩ := own_some o6 (by rw [bigR_len]; omega)
    rw [bigR_len] at hv6
    subst hv6
    have X6 : Hid (Bx5 w6 w.heap.size g b s l c) := X5.out.below b6 (by omega)
    have B6 : Hid (Below w.heap.size w w6) := B5.out.trans (b6.mono (by omega))
    have s6 : w.heap.size + 1 ≤ w6.heap.size := Nat.le_trans s5 b6.size
    have O6 : Hid (w6.ownsRow (w.heap.size + 1) 5 1 v5 13 (L5.map (Value.int .u8))) := ownsRow_below2 O5.out b6
    have N6 : Hid (∀ j u, ((bigR l 4).map (Value.int .u8))[j]? = some u → w6.cell? ((⟨g6, 0, none⟩ : Addr).add j) = some u) := World.ownsRow.cells o6 rfl
    clear x0 x1 x2 x3 x4 o6 b6 X5 B5 O5
    go_wp2_with (at_builtin; go_must (refine wpList_append_own _ rfl _ _ 24 rfl (w.heap.size + 1) 5 i0 (.int .u8 0) 1 1 Tryd.underlying24 hi hz0 hz1 hz2 rfl (by decide) _ _ _ rfl O6.out ⟨g6, 0, none⟩ 4 c6 ((bigR l 4).map (Value.int .u8)) rfl ?_ N6.out (ints_oneCell _ _) ?_ ?_ ?_ ?_))
    · rw [List.length_map, bigR_len]
    · unfold maxLen; omega
    · omega
    · exact s6
    intro v7 w7 ho7 hg7 _
    have b7 : Below (w.heap.size + 1) w6 w7 := (Below.refl _ _).grown hg7 s6 (fun q hq => (World.ownsRow.lt O6.out q hq).1)
    have X7 : Hid (Bx5 w7 w.heap.size g b s l c) := X6.out.below b7 (by omega)
    have B7 : Hid (Below w.heap.size w w7) := B6.out.trans (b7.mono (by omega))
    have s7 : w.heap.size + 1 ≤ w7.heap.size := Nat.le_trans s6 b7.size
    have O7 : Hid (w7.ownsRow (w.heap.size + 1) 5 1 v7 17 ((L5 ++ bigR l 4).map (Value.int .u8))) := by
      show World.ownsRow _ _ _ _ _ _ _
      rw [List.map_append]; exact ho7
    clear ho7 hg7 b7 X6 B6 O6 N6
    generalize hLg : L5 ++ bigR l 4 = L7 at *
    have HL7 : Hid (L5 ++ bigR l 4 = L7) := hLg
    clear hLg
    obtain ⟨-, x0, x1, x2, x3, x4⟩ := X7.out
    go_wp2_with fail
    refine (specBigS_any 4 _ c (by omega) HG.out.2.2.2).mono ?_
    rintro e w8 ⟨v8, rfl, o8, b8⟩
    obtain ⟨g8, c8, hv8⟩ := own_some o8 (by rw [bigR_len]; omega)
    rw [bigR_len] at hv8
    subst hv8
    have X8 : Hid (Bx5 w8 w.heap.size g b s l c) := X7.out.below b8 (by omega)
    have B8 : Hid (Below w.heap.size w w8) := B7.out.trans (b8.mono (by omega))
    have s8 : w.heap.size + 1 ≤ w8.heap.size := Nat.le_trans s7 b8.size
    have O8 : Hid (w8.ownsRow (w.heap.size + 1) 5 1 v7 17 (L7.map (Value.int .u8))) := ownsRow_below2 O7.out b8
    have N8 : Hid (∀ j u, ((bigR c 4).map (Value.int .u8))[j]? = some u → w8.cell? ((⟨g8, 0, none⟩ : Addr).add j) = some u) := World.ownsRow.cells o8 rfl
    clear x0 x1 x2 x3 x4 o8 b8 X7 B7 O7
    go_wp2_with (at_builtin; go_must (refine wpList_append_own _ rfl _ _ 24 rfl (w.heap.size + 1) 5 i0 (.int .u8 0) 1 1 Tryd.underlying24 hi hz0 hz1 hz2 rfl (by decide) _ _ _ rfl O8.out ⟨g8, 0, none⟩ 4 c8 ((bigR c 4).map (Value.int .u8)) rfl ?_ N8.out (ints_oneCell _ _) ?_ ?_ ?_ ?_))
    · rw [List.length_map, bigR_len]
    · unfold maxLen; omega
    · omega
    · exact s8
    intro v9 w9 ho9 hg9 _
    have b9 : Below (w.heap.size + 1) w8 w9 := (Below.refl _ _).grown hg9 s8 (fun q hq => (World.ownsRow.lt O8.out q hq).1)
    have X9 : Hid (Bx5 w9 w.heap.size g b s l c) := X8.out.below b9 (by omega)
    have B9 : Hid (Below w.heap.size w w9) := B8.out.trans (b9.mono (by omega))
    have s9 : w.heap.size + 1 ≤ w9.heap.size := Nat.le_trans s8 b9.size
    have O9 : Hid (w9.ownsRow (w.heap.size + 1) 5 1 v9 21 ((L7 ++ bigR c 4).map (Value.int .u8))) := by
      show World.ownsRow _ _ _ _ _ _ _
      rw [List.map_append]; exact ho9
    clear ho9 hg9 b9 X8 B8 O8 N8
    generalize hLg : L7 ++ bigR c 4 = L9 at *
    have HL9 : Hid (L7 ++ bigR c 4 = L9) := hLg
    clear hLg
    go_wp2
    go_loopw [3] (fun v wr => ∃ k : Nat, k ≤ 35 ∧ Hid (wr.ownsRow (w.heap.size + 1) 5 1 v (21 + k) ((L9 ++ List.replicate k 0).map (Value.int .u8))) ∧ Hid (Bx5 wr w.heap.size g b s l c) ∧ Hid (Below w.heap.size w wr)) (fun v _ => 56 - (match v with | .slice _ n _ => n | _ => 0))
    case atStart => exact ⟨0, by omega, by rw [List.replicate_zero, List.append_nil]; exact O9, X9, B9⟩
    case round =>
      clear O9 X9 B9
      obtain ⟨k, hk, O9, X9, B9⟩ := hrel
      have s9 : w.heap.size + 1 ≤ wr.heap.size := X9.out.1
      obtain ⟨a9, c9, hv9, -, -⟩ := row_slice2 O9.out
      subst hv9
      by_cases hlt : k < 35
      · have hI : ((21 + k : Nat) : Int) < 56 := by omega
        go_wp2_with (at_builtin; go_must (refine wpList_append_own _ rfl _ _ 24 rfl (w.heap.size + 1) 5 i0 (.int .u8 0) 1 1 Tryd.underlying24 hi hz0 hz1 hz2 rfl (by decide) _ _ _ rfl (O9.out.alloc _) ⟨wr.heap.size, 0, none⟩ 1 1 [.int .u8 0] rfl rfl (cell_one_new _ _ _) (by intro u hu; simp at hu; subst hu; rfl) ?_ ?_ ?_ ?_))
        · unfold maxLen; omega
        · omega
        · simp; omega
        intro v3 w3 ho3 hg3 _
        have b3 : Below (w.heap.size + 1) wr w3 := ((Below.refl _ _).alloc s9 _).grown hg3 (by simp; omega) (fun q hq => (World.ownsRow.lt O9.out q hq).1)
        have O10 : Hid (w3.ownsRow (w.heap.size + 1) 5 1 v3 (21 + (k + 1)) ((L9 ++ List.replicate (k + 1) 0).map (Value.int .u8))) := by
          show World.ownsRow _ _ _ _ _ _ _
          rw [← Nat.add_assoc, List.replicate_succ', ← List.append_assoc, List.map_append]
          simpa using ho3
        have X10 : Hid (Bx5 w3 w.heap.size g b s l c) := X9.out.below b3 (by omega)
        have B10 : Hid (Below w.heap.size w w3) := B9.out.trans (b3.mono (by omega))
        obtain ⟨a3, c3, hv3, -, -⟩ := row_slice2 O10.out
        clear ho3 hg3 b3 O9 X9 B9
        subst hv3
        go_wp2
        exact ⟨⟨k + 1, by omega, O10, X10, B10⟩, by simp; omega⟩
      · have hk35 : k = 35 := by omega
        subst hk35
        have O9' : Hid (wr.ownsRow (w.heap.size + 1) 5 1 (.slice a9 (21 + 35) c9) 56 ((L9 ++ List.replicate 35 0).map (Value.int .u8))) := O9.out
        clear O9
        generalize hLg : L9 ++ List.replicate 35 0 = L10 at *
        have HL10 : Hid (L9 ++ List.replicate 35 0 = L10) := hLg
        clear hLg
        obtain ⟨-, x0, x1, x2, x3, x4⟩ := X9.out
        go_wp2_with fail
        refine (specBigS_any 8 _ g (by omega) HG.out.1).mono ?_
        rintro e w11 ⟨v11, rfl, o11, b11⟩
        obtain ⟨g11, c11, hv11⟩ := own_some o11 (by rw [bigR_len]; omega)
        rw [bigR_len] at hv11
        subst hv11
        have B11 : Hid (Below w.heap.size w w11) := B9.out.trans (b11.mono (by omega))
        have s11 : w.heap.size + 1 ≤ w11.heap.size := Nat.le_trans s9 b11.size
        have O11 : Hid (w11.ownsRow (w.heap.size + 1) 5 1 (.slice a9 (21 + 35) c9) 56 (L10.map (Value.int .u8))) := ownsRow_below2 O9'.out b11
        have N11 : Hid (∀ j u, ((bigR g 8).map (Value.int .u8))[j]? = some u → w11.cell? ((⟨g11, 0, none⟩ : Addr).add j) = some u) := World.ownsRow.cells o11 rfl
        clear x0 x1 x2 x3 x4 o11 b11 O9'
        go_wp2_with (at_builtin; go_must (refine wpList_append_own _ rfl _ _ 24 rfl (w.heap.size + 1) 5 i0 (.int .u8 0) 1 1 Tryd.underlying24 hi hz0 hz1 hz2 rfl (by decide) _ _ _ rfl O11.out ⟨g11, 0, none⟩ 8 c11 ((bigR g 8).map (Value.int .u8)) rfl ?_ N11.out (ints_oneCell _ _) ?_ ?_ ?_ ?_))
        · rw [List.length_map, bigR_len]
        · unfold maxLen; omega
        · omega
        · exact s11
        intro v12 w12 ho12 hg12 _
        have B12 : Hid (Below w.heap.size w w12) := B11.out.grown hg12 (by omega) (fun q hq => by have := (World.ownsRow.lt O11.out q hq).1; omega)
        have O12 : Hid (Own .u8 5 w12 w.heap.size v12 (supB g b s l c)) := by
          have e : supB g b s l c = L10 ++ bigR g 8 := by
            rw [← HL10.out, ← HL9.out, ← HL7.out, ← HL5.out, ← HL3.out]; rfl
          have h12 : Own .u8 5 w12 (w.heap.size + 1) v12 (supB g b s l c) := own_of (q := 64) (ys := L10 ++ bigR g 8) (by rw [← e, supB_len]) e (by rw [List.map_append]; exact ho12)
          exact h12.mono (by omega)
        clear ho12 hg12
        go_wp2
        go_ret
        exact ⟨_, rfl, O12.out, B12.out⟩

theorem specSuper_any (w : World) (g b s l c : Int) (hg : g < 9223372036854775808) :
    Calls Tryd.prog 36 #[.agg #[.int .i64 g, .int .i64 b, .int .i64 s, .int .i64 l, .int .i64 c]] w fun e w' => ∃ v', e = .returned v' ∧ Own .u8 5 w' w.heap.size v' (sup g b s l c) ∧ Below w.heap.size w w' := by
  unfold sup
  by_cases h : supOk g b s l c = true
  · rw [if_pos h]
    obtain ⟨g, b, s, l, c, rfl, rfl, rfl, rfl, rfl⟩ := supOk_nat h
    exact specSuper_yes w g b s l c h (by omega)
  · rw [if_neg h]
    exact specSuper_no w g b s l c (by simpa using h)

end Go.Proofs.YtcopcegamadkgaaDoor

namespace Go.Proofs.YtcopcegamadkgaaDoor
open Go.RowKit

theorem bcell {W w1 : World} (hb : Below W.heap.size W w1) : (∀ b o, b < W.heap.size → w1.cell? ⟨b, o, none⟩ = W.cell? ⟨b, o, none⟩) ∧ (∀ b o, b < W.heap.size → w1.frozen? ⟨b, o, none⟩ = W.frozen? ⟨b, o, none⟩) :=
  ⟨fun b o h => hb.cell (p := ⟨b, o, none⟩) h, fun b o h => hb.frozen (p := ⟨b, o, none⟩) h⟩

theorem Own.setBelow {k : IntKind} {e : TypeId} {w : World} {base : Nat} {v : Value} {xs : List Int} (h : Own k e w base v xs) {a : Addr} (ha : a.block < base) (u : Value) : Own k e (w.setCell a u) base v xs := ownsRow_setCell_below h ha u

/-! ### the groups of eight bits -/
def g8 (xs : List Int) (q t : Nat) : Nat := numW 7 xs / 2 ^ (7 * xs.length - (8 * q + t)) % 2 ^ t
end Go.Proofs.YtcopcegamadkgaaDoor

namespace Go.Proofs.YtcopcegamadkgaaDoor
open Go.RowKit

/-- A row of another block is not the row that was written. -/
theorem own_ne {k : IntKind} {e e' : TypeId} {w w' : World} {B B' : Nat} {v v' : Value} {xs xs' : List Int} (h : Own k e w B v xs) (h' : Own k e' w' B' v' xs') (hlt : w.heap.size ≤ B') : v.ownBlock = none ∨ v.ownBlock ≠ v'.ownBlock := by
  cases hv : v.ownBlock with
  | none => exact .inl rfl
  | some g =>
    refine .inr fun e => ?_
    have h1 := (h.lt g hv).2
    have h2 := (h'.lt g e.symm).1
    omega

end Go.Proofs.YtcopcegamadkgaaDoor

namespace Go.Proofs.YtcopcegamadkgaaDoor
open Go.RowKit




/-- A local struct of one cell. -/
def Box (w : World) (b : Nat) (v : Value) : Prop := b < w.heap.size ∧ w.cell? ⟨b, 0, none⟩ = some v
theorem Box.below {w w' : World} {b : Nat} {v : Value} (h : Box w b v) (hb : Below w.heap.size w w') : Box w' b v :=
  ⟨Nat.lt_of_lt_of_le h.1 hb.size, (hb.cell (p := ⟨b, 0, none⟩) h.1).trans h.2⟩
theorem Box.other {w w' : World} {b : Nat} {v : Value} {row : Option Nat} (h : Box w b v) (hg : w.grownBy w' row) (hne : some b ≠ row) : Box w' b v :=
  ⟨Nat.lt_of_lt_of_le h.1 hg.size, hg.cell h.2 hne⟩
theorem Box.new (w : World) (v : Value) (t : TypeId) : Box (w.alloc (.cells #[v] t)) w.heap.size v := ⟨by simp, by simp⟩
theorem Box.drewN {w : World} {b : Nat} {v : Value} (h : Box w b v) (n : Nat) : Box (w.drewN n) b v := h

/-- A block made behind a row is not that row; nor one made ahead of it. -/
theorem own_box {k : IntKind} {e : TypeId} {w : World} {B b : Nat} {v : Value} {xs : List Int} (h : Own k e w B v xs) (hb : w.heap.size ≤ b) : some b ≠ v.ownBlock := by
  intro e; have := (h.lt b e.symm).2; omega
theorem box_own {k : IntKind} {e : TypeId} {w : World} {B b : Nat} {v : Value} {xs : List Int} (h : Own k e w B v xs) (hb : b < B) : some b ≠ v.ownBlock := by
  intro e; have := (h.lt b e.symm).1; omega

end Go.Proofs.YtcopcegamadkgaaDoor

namespace Go.Proofs.YtcopcegamadkgaaDoor
open Go.RowKit

def zeros (n : Nat) : List Int := List.replicate n 0
theorem zeros_len (n : Nat) : (zeros n).length = n := by simp [zeros]

/-- How many bytes a new disk has. -/
def ndl (k : Int) : Nat := if 1 ≤ k ∧ k ≤ 300 then k.toNat * 64 else 0

theorem box2_later {w w1 : World} {x y : Value} {t : TypeId} (hb : Below (w.alloc (.cells #[x, y] t)).heap.size (w.alloc (.cells #[x, y] t)) w1) :
    w1.cell? ⟨w.heap.size, 0, none⟩ = some x ∧ w1.cell? ⟨w.heap.size, 1, none⟩ = some y ∧ w1.frozen? ⟨w.heap.size, 0, none⟩ = false ∧ w1.frozen? ⟨w.heap.size, 1, none⟩ = false ∧ w.heap.size < w1.heap.size := by
  obtain ⟨hc, hf⟩ := bcell hb
  have hs := hb.size
  simp at hs
  refine ⟨?_, ?_, ?_, ?_, by omega⟩
  · rw [hc _ _ (by simp)]; simp
  · rw [hc _ _ (by simp)]; simp
  · rw [hf _ _ (by simp)]; simp
  · rw [hf _ _ (by simp)]; simp

set_option maxHeartbeats 400000 in
set_option maxRecDepth 100000 in
theorem implNewDisk_any (w : World) (k : Int) :
    Calls Tryd.prog 40 #[.int .i64 k] w fun e w' => ∃ v', e = .returned (.agg #[v', .slice none 0 0]) ∧ Own .u8 5 w' w.heap.size v' (zeros (ndl k)) ∧ Below w.heap.size w w' := by
  obtain ⟨i0, hi, hz0, hz1, hz2⟩ := info_parts Tryd.infoB
  by_cases h1 : k < 1
  · have e : ndl k = 0 := if_neg (by omega)
    rw [e]
    go_enter Tryd.func40, Tryd.ntmps40
    go_wp2
    exact bodyPost_ret (v := .agg #[.slice none 0 0, .slice none 0 0]) (by simp [results, Tryd.results40, go_sem]) rfl ⟨_, rfl, World.ownsRow_nil _ _ _ _, (Below.refl _ _).alloc (Nat.le_refl _) _⟩
  · by_cases h2 : 300 < k
    · have e : ndl k = 0 := if_neg (by omega)
      rw [e]
      go_enter Tryd.func40, Tryd.ntmps40
      go_wp2
      exact bodyPost_ret (v := .agg #[.slice none 0 0, .slice none 0 0]) (by simp [results, Tryd.results40, go_sem]) rfl ⟨_, rfl, World.ownsRow_nil _ _ _ _, (Below.refl _ _).alloc (Nat.le_refl _) _⟩
    · obtain ⟨n, rfl⟩ : ∃ n : Nat, k = (n : Int) := ⟨k.toNat, by omega⟩
      have e : ndl (n : Int) = n * 64 := by unfold ndl; rw [if_pos (by omega), Int.toNat_natCast]
      rw [e]
      clear e
      go_enter Tryd.func40, Tryd.ntmps40
      go_wp2_with (at_make; go_must (refine wpList_make_full _ rfl _ _ 24 rfl (w.heap.size + 1) 5 i0 (.int .u8 0) 1 Tryd.underlying24 hi hz0 hz1 _ _ _ _ (n * 64) rfl rfl ?a1 ?a2 ?b2 ?b3 ?b4 ?_))
      case b2 => omega
      case b3 => unfold maxLen; omega
      intro w1 hown hgrow
      have B1 : Below (w.alloc (.cells #[.slice none 0 0, .slice none 0 0] 27)).heap.size (w.alloc (.cells #[.slice none 0 0, .slice none 0 0] 27)) w1 := (Below.refl _ _).grown hgrow (Nat.le_refl _) (by simp)
      obtain ⟨c0, c1, f0, f1, z1⟩ := box2_later B1
      have HB : Hid (Below w.heap.size w w1) := ((Below.refl _ _).alloc (Nat.le_refl _) _).trans (B1.mono (by simp))
      have HO : Hid (Own .u8 5 w1 (w.heap.size + 1) (.slice (some ⟨w.heap.size + 1, 0, none⟩) (n * 64) (n * 64)) (List.replicate (n * 64) 0)) := own_zeros (by simpa using hown)
      clear hown hgrow B1
      go_wp2
      refine bodyPost_ret (v := .agg #[.slice (some ⟨w.heap.size + 1, 0, none⟩) (n * 64) (n * 64), .slice none 0 0]) (by simp [results, Tryd.results40, go_sem, c0, c1]) rfl ⟨_, rfl, ?_, ?_⟩
      · exact (Own.setBelow (Own.setBelow HO.out (a := ⟨w.heap.size, 0, none⟩) (by simp) _) (a := ⟨w.heap.size, 1, none⟩) (by simp) _).mono (by omega)
      · exact (HB.out.setCell (Nat.le_refl _) _).setCell (Nat.le_refl _) _


set_option maxHeartbeats 400000 in
theorem eqWriteS_nil (w : World) (ao bo : Option Addr) (ca cb : Nat) :
    Calls Tryd.prog 48 #[.slice ao 0 ca, .slice bo 0 cb] w fun e w' => e = .returned (.bool true) ∧ w' = w := by
  go_enter Tryd.func48, Tryd.ntmps48
  go_wp2
  go_rounds 1
  go_ret
  exact ⟨rfl, rfl⟩

set_option maxHeartbeats 400000 in
theorem markWriteS_nil (w : World) (ao : Option Addr) (ca : Nat) (k : Int) :
    Calls Tryd.prog 49 #[.slice ao 0 ca, .int .i64 k] w fun e w' => e = .returned (.int .i64 k) ∧ w' = w := by
  go_enter Tryd.func49, Tryd.ntmps49
  go_wp2
  go_rounds 1
  go_ret
  exact ⟨rfl, rfl⟩

set_option maxHeartbeats 400000 in
theorem heldWriteS_nil (w : World) (ao : Option Addr) (ca : Nat) (k : Int) :
    Calls Tryd.prog 51 #[.slice ao 0 ca, .int .i64 k] w fun e w' => e = .returned (.int .i64 k) ∧ w' = w := by
  go_enter Tryd.func51, Tryd.ntmps51
  go_wp2
  go_rounds 1
  go_ret
  exact ⟨rfl, rfl⟩

set_option maxHeartbeats 400000 in
theorem eqDisk_nil (w : World) (va vb : Value) (xs ys : List Int) (ao bo : Option Addr) (ca cb : Nat) (ha : Rd .u8 w va xs) (hb : Rd .u8 w vb ys) :
    Calls Tryd.prog 9 #[.agg #[va, .slice ao 0 ca], .agg #[vb, .slice bo 0 cb]] w fun e w' => e = .returned (.bool (decide (xs = ys))) ∧ Below w.heap.size w w' := by
  have B0 : Hid (Below w.heap.size w ((w.alloc (.cells #[va, .slice ao 0 ca] 27)).alloc (.cells #[vb, .slice bo 0 cb] 27))) := ((Below.refl _ _).alloc (Nat.le_refl _) _).alloc (by simp) _
  have RA : Hid (Rd .u8 ((w.alloc (.cells #[va, .slice ao 0 ca] 27)).alloc (.cells #[vb, .slice bo 0 cb] 27)) va xs) := ha.below B0.out
  have RB : Hid (Rd .u8 ((w.alloc (.cells #[va, .slice ao 0 ca] 27)).alloc (.cells #[vb, .slice bo 0 cb] 27)) vb ys) := hb.below B0.out
  clear ha hb
  go_enter Tryd.func9, Tryd.ntmps9
  go_wp2_with fail
  refine (eqByteS_any _ _ _ xs ys RA.out RB.out).mono ?_
  rintro e w1 ⟨rfl, q1, rfl⟩
  have BE : Hid (Below w.heap.size w (((w.alloc (.cells #[va, .slice ao 0 ca] 27)).alloc (.cells #[vb, .slice bo 0 cb] 27)).drewN q1)) := B0.out.trans ((below_drewN' _ q1).mono (by simp; omega))
  by_cases h : xs = ys
  · have hd : decide (xs = ys) = true := by simp [h]
    rw [hd]
    clear h
    go_wp2_with fail
    refine (eqWriteS_nil _ _ _ _ _).mono ?_
    rintro e w2 ⟨rfl, hw⟩
    subst hw
    go_wp2
    go_ret
    exact ⟨ret_bool hd.symm, BE.out⟩
  · have hd : decide (xs = ys) = false := by simp [h]
    rw [hd]
    clear h
    go_wp2
    go_ret
    exact ⟨ret_bool hd.symm, BE.out⟩

set_option maxHeartbeats 400000 in
theorem markDisk_nil (w : World) (base : Nat) (v : Value) (xs : List Int) (ao : Option Addr) (ca : Nat) (k : Int) (hown : Own .u8 5 w base v xs) (hk0 : 0 ≤ k) (hk1 : k ≤ 1099511627776) (hn : xs.length ≤ 1099511627776) :
    Calls Tryd.prog 10 #[.agg #[v, .slice ao 0 ca], .int .i64 k] w fun e w' => e = .returned (.int .i64 (k + xs.length)) ∧ Own .u8 5 w' base v (marks k xs.length) ∧ w.grownBy w' v.ownBlock := by
  have HO : Hid (Own .u8 5 (w.alloc (.cells #[v, .slice ao 0 ca] 27)) base v xs) := World.ownsRow.alloc hown _
  have NB : Hid (some w.heap.size ≠ v.ownBlock) := own_box hown (Nat.le_refl _)
  clear hown
  go_enter Tryd.func10, Tryd.ntmps10
  go_wp2_with fail
  refine (markByteS_any _ base _ xs k HO.out hk0 hk1 hn).mono ?_
  rintro e w1 ⟨rfl, o1, g1⟩
  have O1 : Hid (Own .u8 5 w1 base v (marks k xs.length)) := o1
  have G1 : Hid (w.grownBy w1 v.ownBlock) := ⟨g1.os, g1.tape, g1.output, by have := g1.size; simp at this; omega, fun j hj hne => (g1.block j (by simp; omega) hne).trans (Below.heap_alloc _ _ _ hj)⟩
  have c1 : w1.cell? ⟨w.heap.size, 1, none⟩ = some (.slice ao 0 ca) := g1.cell (a := ⟨w.heap.size, 1, none⟩) (by simp) NB.out
  clear o1 g1
  go_wp2_with fail
  refine (markWriteS_nil _ _ _ _).mono ?_
  rintro e w2 ⟨rfl, hw⟩
  subst hw
  go_wp2
  go_ret
  exact ⟨rfl, O1.out, G1.out⟩

set_option maxHeartbeats 400000 in
theorem heldDisk_nil (w : World) (v : Value) (n : Nat) (ao : Option Addr) (ca : Nat) (k : Int) (h : Rd .u8 w v (marks k n)) (hk0 : 0 ≤ k) (hk1 : k ≤ 1099511627776) (hn : n ≤ 1099511627776) :
    Calls Tryd.prog 11 #[.agg #[v, .slice ao 0 ca], .int .i64 k] w fun e w' => e = .returned (.int .i64 (k + n)) ∧ Below w.heap.size w w' := by
  have HR : Hid (Rd .u8 (w.alloc (.cells #[v, .slice ao 0 ca] 27)) v (marks k n)) := h.below ((Below.refl _ _).alloc (Nat.le_refl _) _)
  clear h
  go_enter Tryd.func11, Tryd.ntmps11
  go_wp2_with fail
  refine (heldByteS_any _ _ n k HR.out hk0 hk1 hn).mono ?_
  rintro e w1 ⟨rfl, hw⟩
  subst hw
  have h0 : ¬ (k + (n : Int)) < 0 := by omega
  go_wp2_with fail
  refine (heldWriteS_nil _ _ _ _).mono ?_
  rintro e w2 ⟨rfl, hw⟩
  subst hw
  go_wp2
  go_ret
  exact ⟨rfl, (Below.refl _ _).alloc (Nat.le_refl _) _⟩

end Go.Proofs.YtcopcegamadkgaaDoor

namespace Go.Proofs.YtcopcegamadkgaaDoor
open Go.RowKit

/-- A local struct of two cells. -/
def Box2 (w : World) (b : Nat) (x y : Value) : Prop := b < w.heap.size ∧ w.cell? ⟨b, 0, none⟩ = some x ∧ w.cell? ⟨b, 1, none⟩ = some y
theorem Box2.below {w w' : World} {b : Nat} {x y : Value} (h : Box2 w b x y) (hb : Below w.heap.size w w') : Box2 w' b x y :=
  ⟨Nat.lt_of_lt_of_le h.1 hb.size, (hb.cell (p := ⟨b, 0, none⟩) h.1).trans h.2.1, (hb.cell (p := ⟨b, 1, none⟩) h.1).trans h.2.2⟩
theorem Box2.other {w w' : World} {b : Nat} {x y : Value} {row : Option Nat} (h : Box2 w b x y) (hg : w.grownBy w' row) (hne : some b ≠ row) : Box2 w' b x y :=
  ⟨Nat.lt_of_lt_of_le h.1 hg.size, hg.cell h.2.1 hne, hg.cell h.2.2 hne⟩
theorem Box2.new (w : World) (x y : Value) (t : TypeId) : Box2 (w.alloc (.cells #[x, y] t)) w.heap.size x y := ⟨by simp, by simp, by simp⟩


end Go.Proofs.YtcopcegamadkgaaDoor

