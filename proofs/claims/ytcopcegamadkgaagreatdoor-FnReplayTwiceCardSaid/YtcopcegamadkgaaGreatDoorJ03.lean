import Derived.Test.YtcopcegamadkgaaGreatDoorJ02
import Derived.Lib.Bytealg
import Derived.Laws.Externs
import Derived.Test.YtcopcegamadkgaaGreatDoorJ01
import Derived.Defers
import Derived.Recover
set_option maxRecDepth 100000
set_option maxHeartbeats 16000000
namespace Go.Proofs.YtcopcegamadkgaaGreatDoor
open Go.RowKit
theorem sorted_nil (w : World) (ao : Option Addr) (cap : Nat) :
    Calls Tryz.prog 40 #[.slice ao 0 cap] w fun e w' => e = .returned (.bool true) ∧ w' = w := by
 go_enter Tryz.func40, Tryz.ntmps40
 go_wp2
 go_rounds 1
 go_ret
 exact ⟨rfl, rfl⟩
theorem sorted_any (w : World) (v : Value) (ns : List Nd) (h : RdN w v ns) (hn : ns.length ≤ 1048576) (hsz : ∀ i, (nAt ns i).path.size ≤ 1048576 ∧ (nAt ns i).data.size ≤ 1048576) :
    Calls Tryz.prog 40 #[v] w fun e w' => e = .returned (.bool (okSorted ns)) ∧ Below w.heap.size w w' := by
 obtain ⟨ao, cap, rfl, k1, k2, k3⟩ := h
 rcases k3 with rfl | ⟨b, o, rfl, hb, hc⟩
 · refine (sorted_nil w ao cap).mono ?_
   rintro e w' ⟨rfl, rfl⟩
   exact ⟨rfl, Below.refl _ _⟩
 · exact sorted_row w b o ns.length cap ns rfl hn hb hsz hc
theorem specTree_any (w : World) (v : Value) (ns : List Nd) (h : RdN w v ns) (hn : ns.length ≤ 1048576) (hsz : ∀ i, (nAt ns i).path.size ≤ 1048576 ∧ (nAt ns i).data.size ≤ 1048576) :
    Calls Tryz.prog 9 #[.agg #[v]] w fun e w' => e = .returned (.bool (okTree ns)) ∧ Below w.heap.size w w' := by
 obtain ⟨ao, cap, rfl, k1, k2⟩ := h.len
 have B0 : Hid (Below w.heap.size w (w.alloc (.cells #[.slice ao ns.length cap] 25))) := (Below.refl _ _).alloc (Nat.le_refl _) _
 have HR : Hid (RdN (w.alloc (.cells #[.slice ao ns.length cap] 25)) (.slice ao ns.length cap) ns) := h.below B0.out
 clear h
 by_cases h1 : ns.length ≤ 1000
 · have h1I : (ns.length : Int) ≤ 1000 := by omega
   have HE : Hid (okTree ns = okSorted ns) := by show _ = _; unfold okTree; rw [decide_eq_true h1]; rfl
   go_enter Tryz.func9, Tryz.ntmps9
   go_wp2_with fail
   refine (sorted_any _ _ ns HR.out hn hsz).mono ?_
   rintro e w1 ⟨rfl, b1⟩
   have B1 := hd9 (B0.out.trans (b1.mono (by simp)))
   clear b1
   go_wp2
   go_ret
   exact ⟨ret_b HE.out.symm, B1.out⟩
 · have h1I : ¬ (ns.length : Int) ≤ 1000 := by omega
   have HE : Hid (okTree ns = false) := by show _ = _; unfold okTree; rw [decide_eq_false h1]; rfl
   go_enter Tryz.func9, Tryz.ntmps9
   go_wp2
   go_ret
   exact ⟨ret_b HE.out.symm, B0.out⟩
theorem BoxN.all {w : World} {B : Nat} {n : Nd} (h : BoxN w B n) : w.cell? ⟨B, 0, none⟩ = some (.string n.path) ∧ w.cell? ⟨B, 1, none⟩ = some (.string n.data) ∧ w.cell? ⟨B, 2, none⟩ = some (.int .i64 n.ver) ∧ w.cell? ⟨B, 3, none⟩ = some (.int .i64 n.cver) ∧ w.cell? ⟨B, 4, none⟩ = some (.int .i64 n.cz) ∧ w.cell? ⟨B, 5, none⟩ = some (.int .i64 n.mz) ∧ w.cell? ⟨B, 6, none⟩ = some (.int .i64 n.pz) := ⟨h.c0, h.c1, h.c2, h.c3, h.c4, h.c5, h.c6⟩
theorem implTree_row (w : World) (b o n cap : Nat) (ns : List Nd) (hp : ns.length = n) (hn : n ≤ 1000) (hb : b < w.heap.size) (hsz : ∀ i, (nAt ns i).path.size ≤ 1048576 ∧ (nAt ns i).data.size ≤ 1048576)
    (hc : ∀ i, i < n → CellsN w b (o + i * 7) (nAt ns i)) :
    Calls Tryz.prog 33 #[.agg #[.slice (some ⟨b, o, none⟩) n cap]] w fun e w' => e = .returned (.bool (okSorted ns)) ∧ Below w.heap.size w w' := by
 have HC : Hid (∀ i, i < n → CellsN w b (o + i * 7) (nAt ns i)) := hc
 have HP : Hid (ns.length = n) := hp
 have HZ : Hid (∀ i, (nAt ns i).path.size ≤ 1048576 ∧ (nAt ns i).data.size ≤ 1048576) := hsz
 have h1I : ¬ (1000 : Int) < (n : Int) := by omega
 clear hc hp hsz
 have B0 : Hid (Below w.heap.size w (w.alloc (.cells #[.slice (some ⟨b, o, none⟩) n cap] 25))) := (Below.refl _ _).alloc (Nat.le_refl _) _
 have c00 : Hid ((w.alloc (.cells #[.slice (some ⟨b, o, none⟩) n cap] 25)).cell? ⟨w.heap.size, 0, none⟩ = some (.slice (some ⟨b, o, none⟩) n cap)) := by show _ = _; simp
 have z0 : w.heap.size < (w.alloc (.cells #[.slice (some ⟨b, o, none⟩) n cap] 25)).heap.size := by simp
 go_enter Tryz.func33, Tryz.ntmps33
 go_wp2
 generalize w.alloc (.cells #[.slice (some ⟨b, o, none⟩) n cap] 25) = w0 at *
 go_loopw [12] (fun i wr => ∃ k : Nat, k ≤ n ∧ i = .int .i64 k ∧ Hid (∀ t, t < k → okAt ns t = true) ∧ Hid (Below w0.heap.size w0 wr)) (fun i _ => n - (intOf i).toNat)
 case atStart => exact ⟨0, Nat.zero_le _, rfl, (fun t ht => by omega), Below.refl _ _⟩
 case round =>
  obtain ⟨k, hk, rfl, HA, HG⟩ := hrel
  have HG0 := hd9 (B0.out.trans (HG.out.mono (by omega)))
  by_cases hlt : k < n
  · have hltI : (k : Int) < (n : Int) := by omega
    have g0 : (0 : Int) ≤ (k : Int) := by omega
    have HLT : Hid (k < ns.length) := by rw [HP.out]; exact hlt
    obtain ⟨c0, c1, c2, c3, c4, c5, c6⟩ := (HC.out k hlt).below HG0.out hb
    have XN : Hid (BoxN (wr.alloc (.cells #[.string (nAt ns k).path, .string (nAt ns k).data, .int .i64 (nAt ns k).ver, .int .i64 (nAt ns k).cver, .int .i64 (nAt ns k).cz, .int .i64 (nAt ns k).mz, .int .i64 (nAt ns k).pz] 85)) wr.heap.size (nAt ns k)) := BoxN.new _ _ _
    have BN : Hid (Below wr.heap.size wr (wr.alloc (.cells #[.string (nAt ns k).path, .string (nAt ns k).data, .int .i64 (nAt ns k).ver, .int .i64 (nAt ns k).cver, .int .i64 (nAt ns k).cz, .int .i64 (nAt ns k).mz, .int .i64 (nAt ns k).pz] 85))) := (Below.refl _ _).alloc (Nat.le_refl _) _
    go_wp2
    clear c0 c1 c2 c3 c4 c5 c6
    generalize wr.alloc (.cells #[.string (nAt ns k).path, .string (nAt ns k).data, .int .i64 (nAt ns k).ver, .int .i64 (nAt ns k).cver, .int .i64 (nAt ns k).cz, .int .i64 (nAt ns k).mz, .int .i64 (nAt ns k).pz] 85) = wn at *
    have zr := HG.out.size
    obtain ⟨B, hB⟩ : ∃ B, B = wr.heap.size := ⟨_, rfl⟩
    rw [← hB] at XN
    rw [← hB]
    have HBn : Hid (∀ W, Below wn.heap.size wn W → Below w.heap.size w W) := fun W hW => (HG0.out.trans (BN.out.mono HG0.out.size)).trans (hW.mono (Nat.le_trans HG0.out.size BN.out.size))
    have HBz : Hid (∀ W, Below wn.heap.size wn W → Hid (Below w0.heap.size w0 W)) := fun W hW => (HG.out.trans (BN.out.mono HG.out.size)).trans (hW.mono (Nat.le_trans HG.out.size BN.out.size))
    have CT : Hid (∀ W, Below wn.heap.size wn W → W.cell? ⟨w.heap.size, 0, none⟩ = some (.slice (some ⟨b, o, none⟩) n cap)) := fun W hW => ((HBz.out W hW).out.cell (p := ⟨w.heap.size, 0, none⟩) z0).trans c00.out
    have HE : Hid (∀ q, Calls Tryz.prog 88 #[.agg #[.string (nAt ns k).path, .string (nAt ns k).data, .int .i64 (nAt ns k).ver, .int .i64 (nAt ns k).cver, .int .i64 (nAt ns k).cz, .int .i64 (nAt ns k).mz, .int .i64 (nAt ns k).pz]] (wn.drewN q) fun e w' => e = .returned (.bool (okNd (nAt ns k))) ∧ Hid (Below wn.heap.size wn w')) := by
     intro q
     refine (implNode_any _ (nAt ns k) (HZ.out k).2).mono ?_
     rintro e w' ⟨rfl, b'⟩
     exact ⟨rfl, (below_drewN' wn q).trans b'⟩
    have HD : Hid (Below wn.heap.size wn wn.drew) := below_drewN' wn 1
    have HHB : Hid (B = wr.heap.size) := hB
    clear hB BN
    cases hok : okNd (nAt ns k) with
    | false =>
     have HOK : Hid (okNd (nAt ns k) = false) := hok
     have HN : Hid (okSorted ns = false) := sorted_no HLT.out (by unfold okAt; rw [hok]; rfl)
     clear hok
     refine wp_region_held_drew (S := fun W => Hid (Below wn.heap.size wn W) ∧ (W.cell? ⟨B, 0, none⟩ = some (.string (nAt ns k).path) ∧ W.cell? ⟨B, 1, none⟩ = some (.string (nAt ns k).data) ∧ W.cell? ⟨B, 2, none⟩ = some (.int .i64 (nAt ns k).ver) ∧ W.cell? ⟨B, 3, none⟩ = some (.int .i64 (nAt ns k).cver) ∧ W.cell? ⟨B, 4, none⟩ = some (.int .i64 (nAt ns k).cz) ∧ W.cell? ⟨B, 5, none⟩ = some (.int .i64 (nAt ns k).mz) ∧ W.cell? ⟨B, 6, none⟩ = some (.int .i64 (nAt ns k).pz))) (by kernel_rfl) (⟨HD, (XN.out.below HD.out).all⟩) (fun hHeld => ?_)
     refine tkL9 (i := 0) (oi := ⟨some 17, _, _, _, _, _⟩) (v := ?v1) rfl (by kernel_rfl) (fun _ _ _ h => h) (by rfl) (by assumption) ?hy1 ?_
     case hy1 => intro w9 hS9; obtain ⟨-, hS9⟩ := hS9; go_simp; try with_reducible rfl
     try simp only [Act.put, sT9, sZ9, sS9]
     refine wpAnyH_ready (rs := [1]) (by kernel_rfl) (by simp) ?_
     refine AllReadyH.cons (o := ⟨some 18, _, _, _, _, _⟩) rfl (fun K hK => ?_) AllReadyH.nil
     go_simp
     refine (HE.out 1).mono ?_
     rintro e w' ⟨rfl, HB⟩
     rw [HOK.out]
     refine hK.out _ _ ((show (fun W => Hid (Below wn.heap.size wn W) ∧ (W.cell? ⟨B, 0, none⟩ = some (.string (nAt ns k).path) ∧ W.cell? ⟨B, 1, none⟩ = some (.string (nAt ns k).data) ∧ W.cell? ⟨B, 2, none⟩ = some (.int .i64 (nAt ns k).ver) ∧ W.cell? ⟨B, 3, none⟩ = some (.int .i64 (nAt ns k).cver) ∧ W.cell? ⟨B, 4, none⟩ = some (.int .i64 (nAt ns k).cz) ∧ W.cell? ⟨B, 5, none⟩ = some (.int .i64 (nAt ns k).mz) ∧ W.cell? ⟨B, 6, none⟩ = some (.int .i64 (nAt ns k).pz))) w' from ⟨HB, (XN.out.below HB.out).all⟩)) (fun _ => ?_)
     clear hK K hHeld
     have hHeld := (show (fun W => Hid (Below wn.heap.size wn W) ∧ (W.cell? ⟨B, 0, none⟩ = some (.string (nAt ns k).path) ∧ W.cell? ⟨B, 1, none⟩ = some (.string (nAt ns k).data) ∧ W.cell? ⟨B, 2, none⟩ = some (.int .i64 (nAt ns k).ver) ∧ W.cell? ⟨B, 3, none⟩ = some (.int .i64 (nAt ns k).cver) ∧ W.cell? ⟨B, 4, none⟩ = some (.int .i64 (nAt ns k).cz) ∧ W.cell? ⟨B, 5, none⟩ = some (.int .i64 (nAt ns k).mz) ∧ W.cell? ⟨B, 6, none⟩ = some (.int .i64 (nAt ns k).pz))) w' from ⟨HB, (XN.out.below HB.out).all⟩)
     try simp only [Act.put, sT9, sZ9, sS9]
     refine tkL9 (i := 2) (oi := ⟨some 19, _, _, _, _, _⟩) (v := ?v2) rfl (by kernel_rfl) (fun _ _ _ h => h) (by rfl) (by assumption) ?hy2 ?_
     case hy2 => intro w9 hS9; obtain ⟨-, hS9⟩ := hS9; go_simp; try with_reducible rfl
     try simp only [Act.put, sT9, sZ9, sS9]
     refine tkL9 (i := 3) (oi := ⟨some 20, _, _, _, _, _⟩) (v := ?v3) rfl (by kernel_rfl) (fun _ _ _ h => h) (by rfl) (by assumption) ?hy3 ?_
     case hy3 => intro w9 hS9; obtain ⟨-, hS9⟩ := hS9; go_simp; try with_reducible rfl
     try simp only [Act.put, sT9, sZ9, sS9]
     refine tkR9 (i := 4) (oi := ⟨some 21, _, _, _, _, _⟩) rfl (by kernel_rfl) (fun _ _ _ h => h) (by rfl) (by assumption) ?_
     try simp only [Act.put, sT9, sZ9, sS9]
     refine tkR9 (i := 5) (oi := ⟨some 22, _, _, _, _, _⟩) rfl (by kernel_rfl) (fun _ _ _ h => h) (by rfl) (by assumption) ?_
     try simp only [Act.put, sT9, sZ9, sS9]
     refine tkR9 (i := 6) (oi := ⟨some 23, _, _, _, _, _⟩) rfl (by kernel_rfl) (fun _ _ _ h => h) (by rfl) (by assumption) ?_
     try simp only [Act.put, sT9, sZ9, sS9]
     refine tkR9 (i := 7) (oi := ⟨some 24, _, _, _, _, _⟩) rfl (by kernel_rfl) (fun _ _ _ h => h) (by rfl) (by assumption) ?_
     try simp only [Act.put, sT9, sZ9, sS9]
     refine tkR9 (i := 8) (oi := ⟨some 25, _, _, _, _, _⟩) rfl (by kernel_rfl) (fun _ _ _ h => h) (by rfl) (by assumption) ?_
     try simp only [Act.put, sT9, sZ9, sS9]
     refine tkR9 (i := 9) (oi := ⟨some 26, _, _, _, _, _⟩) rfl (by kernel_rfl) (fun _ _ _ h => h) (by rfl) (by assumption) ?_
     try simp only [Act.put, sT9, sZ9, sS9]
     refine tkR9 (i := 10) (oi := ⟨some 27, _, _, _, _, _⟩) rfl (by kernel_rfl) (fun _ _ _ h => h) (by rfl) (by assumption) ?_
     try simp only [Act.put, sT9, sZ9, sS9]
     refine tkR9 (i := 11) (oi := ⟨some 28, _, _, _, _, _⟩) rfl (by kernel_rfl) (fun _ _ _ h => h) (by rfl) (by assumption) ?_
     try simp only [Act.put, sT9, sZ9, sS9]
     refine tkR9 (i := 12) (oi := ⟨some 29, _, _, _, _, _⟩) rfl (by kernel_rfl) (fun _ _ _ h => h) (by rfl) (by assumption) ?_
     try simp only [Act.put, sT9, sZ9, sS9]
     refine tkR9 (i := 13) (oi := ⟨some 30, _, _, _, _, _⟩) rfl (by kernel_rfl) (fun _ _ _ h => h) (by rfl) (by assumption) ?_
     try simp only [Act.put, sT9, sZ9, sS9]
     refine tkR9 (i := 14) (oi := ⟨some 31, _, _, _, _, _⟩) rfl (by kernel_rfl) (fun _ _ _ h => h) (by rfl) (by assumption) ?_
     try simp only [Act.put, sT9, sZ9, sS9]
     refine tkR9 (i := 15) (oi := ⟨some 32, _, _, _, _, _⟩) rfl (by kernel_rfl) (fun _ _ _ h => h) (by rfl) (by assumption) ?_
     try simp only [Act.put, sT9, sZ9, sS9]
     refine tkR9 (i := 16) (oi := ⟨some 33, _, _, _, _, _⟩) rfl (by kernel_rfl) (fun _ _ _ h => h) (by rfl) (by assumption) ?_
     try simp only [Act.put, sT9, sZ9, sS9]
     refine tkR9 (i := 17) (oi := ⟨some 34, _, _, _, _, _⟩) rfl (by kernel_rfl) (fun _ _ _ h => h) (by rfl) (by assumption) ?_
     try simp only [Act.put, sT9, sZ9, sS9]
     refine tkL9 (i := 18) (oi := ⟨some 35, _, _, _, _, _⟩) (v := ?v4) rfl (by kernel_rfl) (fun _ _ _ h => h) (by rfl) (by assumption) ?hy4 ?_
     case hy4 => intro w9 hS9; obtain ⟨-, hS9⟩ := hS9; go_simp; try with_reducible rfl
     try simp only [Act.put, sT9, sZ9, sS9]
     refine wpAnyH_done (by kernel_rfl) ?_ _
     clear hHeld
     go_wp2
     go_ret
     exact ⟨ret_b HN.out.symm, HBn.out _ HB.out⟩
    | true =>
     have HOK : Hid (okNd (nAt ns k) = true) := hok
     clear hok
     cases k with
     | zero =>
      have HT : Hid (okAt ns 0 = true) := by show _ = _; rw [okAt_zero]; exact HOK.out
      have g2 : (0 : Int) < (n : Int) := by omega
      refine wp_region_held_drew (S := fun W => Hid (Below wn.heap.size wn W) ∧ (W.cell? ⟨B, 0, none⟩ = some (.string (nAt ns 0).path) ∧ W.cell? ⟨B, 1, none⟩ = some (.string (nAt ns 0).data) ∧ W.cell? ⟨B, 2, none⟩ = some (.int .i64 (nAt ns 0).ver) ∧ W.cell? ⟨B, 3, none⟩ = some (.int .i64 (nAt ns 0).cver) ∧ W.cell? ⟨B, 4, none⟩ = some (.int .i64 (nAt ns 0).cz) ∧ W.cell? ⟨B, 5, none⟩ = some (.int .i64 (nAt ns 0).mz) ∧ W.cell? ⟨B, 6, none⟩ = some (.int .i64 (nAt ns 0).pz))) (by kernel_rfl) (⟨HD, (XN.out.below HD.out).all⟩) (fun hHeld => ?_)
      refine tkL9 (i := 0) (oi := ⟨some 17, _, _, _, _, _⟩) (v := ?v5) rfl (by kernel_rfl) (fun _ _ _ h => h) (by rfl) (by assumption) ?hy5 ?_
      case hy5 => intro w9 hS9; obtain ⟨-, hS9⟩ := hS9; go_simp; try with_reducible rfl
      try simp only [Act.put, sT9, sZ9, sS9]
      refine wpAnyH_ready (rs := [1]) (by kernel_rfl) (by simp) ?_
      refine AllReadyH.cons (o := ⟨some 18, _, _, _, _, _⟩) rfl (fun K hK => ?_) AllReadyH.nil
      go_simp
      refine (HE.out 1).mono ?_
      rintro e w' ⟨rfl, HB⟩
      rw [HOK.out]
      refine hK.out _ _ ((show (fun W => Hid (Below wn.heap.size wn W) ∧ (W.cell? ⟨B, 0, none⟩ = some (.string (nAt ns 0).path) ∧ W.cell? ⟨B, 1, none⟩ = some (.string (nAt ns 0).data) ∧ W.cell? ⟨B, 2, none⟩ = some (.int .i64 (nAt ns 0).ver) ∧ W.cell? ⟨B, 3, none⟩ = some (.int .i64 (nAt ns 0).cver) ∧ W.cell? ⟨B, 4, none⟩ = some (.int .i64 (nAt ns 0).cz) ∧ W.cell? ⟨B, 5, none⟩ = some (.int .i64 (nAt ns 0).mz) ∧ W.cell? ⟨B, 6, none⟩ = some (.int .i64 (nAt ns 0).pz))) w' from ⟨HB, (XN.out.below HB.out).all⟩)) (fun _ => ?_)
      clear hK K hHeld
      have hHeld := (show (fun W => Hid (Below wn.heap.size wn W) ∧ (W.cell? ⟨B, 0, none⟩ = some (.string (nAt ns 0).path) ∧ W.cell? ⟨B, 1, none⟩ = some (.string (nAt ns 0).data) ∧ W.cell? ⟨B, 2, none⟩ = some (.int .i64 (nAt ns 0).ver) ∧ W.cell? ⟨B, 3, none⟩ = some (.int .i64 (nAt ns 0).cver) ∧ W.cell? ⟨B, 4, none⟩ = some (.int .i64 (nAt ns 0).cz) ∧ W.cell? ⟨B, 5, none⟩ = some (.int .i64 (nAt ns 0).mz) ∧ W.cell? ⟨B, 6, none⟩ = some (.int .i64 (nAt ns 0).pz))) w' from ⟨HB, (XN.out.below HB.out).all⟩)
      try simp only [Act.put, sT9, sZ9, sS9]
      refine tkL9 (i := 2) (oi := ⟨some 19, _, _, _, _, _⟩) (v := ?v6) rfl (by kernel_rfl) (fun _ _ _ h => h) (by rfl) (by assumption) ?hy6 ?_
      case hy6 => intro w9 hS9; obtain ⟨-, hS9⟩ := hS9; go_simp; try with_reducible rfl
      try simp only [Act.put, sT9, sZ9, sS9]
      refine tkL9 (i := 3) (oi := ⟨some 20, _, _, _, _, _⟩) (v := ?v7) rfl (by kernel_rfl) (fun _ _ _ h => h) (by rfl) (by assumption) ?hy7 ?_
      case hy7 => intro w9 hS9; obtain ⟨-, hS9⟩ := hS9; go_simp; try with_reducible rfl
      try simp only [Act.put, sT9, sZ9, sS9]
      refine tkL9 (i := 4) (oi := ⟨some 21, _, _, _, _, _⟩) (v := ?v8) rfl (by kernel_rfl) (fun _ _ _ h => h) (by rfl) (by assumption) ?hy8 ?_
      case hy8 => intro w9 hS9; obtain ⟨-, hS9⟩ := hS9; go_simp; try with_reducible rfl
      try simp only [Act.put, sT9, sZ9, sS9]
      refine tkL9 (i := 5) (oi := ⟨some 22, _, _, _, _, _⟩) (v := ?v9) rfl (by kernel_rfl) (fun _ _ _ h => h) (by rfl) (by assumption) ?hy9 ?_
      case hy9 => intro w9 hS9; obtain ⟨-, hS9⟩ := hS9; go_simp; try with_reducible rfl
      try simp only [Act.put, sT9, sZ9, sS9]
      refine tkL9 (i := 6) (oi := ⟨some 23, _, _, _, _, _⟩) (v := ?v10) rfl (by kernel_rfl) (fun _ _ _ h => h) (by rfl) (by assumption) ?hy10 ?_
      case hy10 => intro w9 hS9; obtain ⟨-, hS9⟩ := hS9; go_simp; try with_reducible rfl
      try simp only [Act.put, sT9, sZ9, sS9]
      refine tkR9 (i := 7) (oi := ⟨some 24, _, _, _, _, _⟩) rfl (by kernel_rfl) (fun _ _ _ h => h) (by rfl) (by assumption) ?_
      try simp only [Act.put, sT9, sZ9, sS9]
      refine tkR9 (i := 8) (oi := ⟨some 25, _, _, _, _, _⟩) rfl (by kernel_rfl) (fun _ _ _ h => h) (by rfl) (by assumption) ?_
      try simp only [Act.put, sT9, sZ9, sS9]
      refine tkR9 (i := 9) (oi := ⟨some 26, _, _, _, _, _⟩) rfl (by kernel_rfl) (fun _ _ _ h => h) (by rfl) (by assumption) ?_
      try simp only [Act.put, sT9, sZ9, sS9]
      refine tkR9 (i := 10) (oi := ⟨some 27, _, _, _, _, _⟩) rfl (by kernel_rfl) (fun _ _ _ h => h) (by rfl) (by assumption) ?_
      try simp only [Act.put, sT9, sZ9, sS9]
      refine tkR9 (i := 11) (oi := ⟨some 28, _, _, _, _, _⟩) rfl (by kernel_rfl) (fun _ _ _ h => h) (by rfl) (by assumption) ?_
      try simp only [Act.put, sT9, sZ9, sS9]
      refine tkR9 (i := 12) (oi := ⟨some 29, _, _, _, _, _⟩) rfl (by kernel_rfl) (fun _ _ _ h => h) (by rfl) (by assumption) ?_
      try simp only [Act.put, sT9, sZ9, sS9]
      refine tkR9 (i := 13) (oi := ⟨some 30, _, _, _, _, _⟩) rfl (by kernel_rfl) (fun _ _ _ h => h) (by rfl) (by assumption) ?_
      try simp only [Act.put, sT9, sZ9, sS9]
      refine tkR9 (i := 14) (oi := ⟨some 31, _, _, _, _, _⟩) rfl (by kernel_rfl) (fun _ _ _ h => h) (by rfl) (by assumption) ?_
      try simp only [Act.put, sT9, sZ9, sS9]
      refine tkR9 (i := 15) (oi := ⟨some 32, _, _, _, _, _⟩) rfl (by kernel_rfl) (fun _ _ _ h => h) (by rfl) (by assumption) ?_
      try simp only [Act.put, sT9, sZ9, sS9]
      refine tkR9 (i := 16) (oi := ⟨some 33, _, _, _, _, _⟩) rfl (by kernel_rfl) (fun _ _ _ h => h) (by rfl) (by assumption) ?_
      try simp only [Act.put, sT9, sZ9, sS9]
      refine tkL9 (i := 17) (oi := ⟨some 34, _, _, _, _, _⟩) (v := ?v11) rfl (by kernel_rfl) (fun _ _ _ h => h) (by rfl) (by assumption) ?hy11 ?_
      case hy11 => intro w9 hS9; obtain ⟨-, hS9⟩ := hS9; go_simp; try with_reducible rfl
      try simp only [Act.put, sT9, sZ9, sS9]
      refine tkL9 (i := 18) (oi := ⟨some 35, _, _, _, _, _⟩) (v := ?v12) rfl (by kernel_rfl) (fun _ _ _ h => h) (by rfl) (by assumption) ?hy12 ?_
      case hy12 => intro w9 hS9; obtain ⟨-, hS9⟩ := hS9; go_simp; try with_reducible rfl
      try simp only [Act.put, sT9, sZ9, sS9]
      refine wpAnyH_done (by kernel_rfl) ?_ _
      clear hHeld
      go_wp2
      go_roundw
      case rel => exact ⟨0 + 1, by omega, by go_num, (fun t ht => by by_cases e : t = 0; (subst e; exact HT.out); exact HA.out t (by omega)), HBz.out _ HB.out⟩
      case measure => simp [intOf]; omega
     | succ j =>
      have g1 : (0 : Int) ≤ (j : Int) + 1 := by omega
      have g2 : (j : Int) + 1 < (n : Int) := by omega
      have g3 : (0 : Int) ≤ (j : Int) := by omega
      have g4 : (j : Int) < (n : Int) := by omega
      have g5 : (0 : Int) < (j : Int) + 1 := by omega
      have g6 : IntKind.i64.wrap (j : Int) = (j : Int) := by rw [IntKind.wrap_i64]; omega
      cases hcmp : ltP (nAt ns j).path (nAt ns (j + 1)).path with
      | true =>
       have HT : Hid (okAt ns (j + 1) = true) := by show _ = _; rw [okAt_succ, HOK.out, hcmp]; rfl
       have l1 : Op.bytesLess (nAt ns j).path.toList (nAt ns (j + 1)).path.toList = true := hcmp
       clear hcmp
       refine wp_region_held_drew (S := fun W => Hid (Below wn.heap.size wn W) ∧ (W.cell? ⟨B, 0, none⟩ = some (.string (nAt ns (j + 1)).path) ∧ W.cell? ⟨B, 1, none⟩ = some (.string (nAt ns (j + 1)).data) ∧ W.cell? ⟨B, 2, none⟩ = some (.int .i64 (nAt ns (j + 1)).ver) ∧ W.cell? ⟨B, 3, none⟩ = some (.int .i64 (nAt ns (j + 1)).cver) ∧ W.cell? ⟨B, 4, none⟩ = some (.int .i64 (nAt ns (j + 1)).cz) ∧ W.cell? ⟨B, 5, none⟩ = some (.int .i64 (nAt ns (j + 1)).mz) ∧ W.cell? ⟨B, 6, none⟩ = some (.int .i64 (nAt ns (j + 1)).pz)) ∧ W.cell? ⟨w.heap.size, 0, none⟩ = some (.slice (some ⟨b, o, none⟩) n cap) ∧ W.cell? ⟨b, o + j * 7, none⟩ = some (.string (nAt ns j).path)) (by kernel_rfl) (⟨HD, (XN.out.below HD.out).all, (CT.out _ HD.out), ((HC.out j (by omega)).below (HBn.out _ HD.out) hb).c0⟩) (fun hHeld => ?_)
       refine tkL9 (i := 0) (oi := ⟨some 17, _, _, _, _, _⟩) (v := ?v13) rfl (by kernel_rfl) (fun _ _ _ h => h) (by rfl) (by assumption) ?hy13 ?_
       case hy13 => intro w9 hS9; obtain ⟨-, hS9⟩ := hS9; go_simp; try with_reducible rfl
       try simp only [Act.put, sT9, sZ9, sS9]
       refine wpAnyH_ready (rs := [1]) (by kernel_rfl) (by simp) ?_
       refine AllReadyH.cons (o := ⟨some 18, _, _, _, _, _⟩) rfl (fun K hK => ?_) AllReadyH.nil
       go_simp
       refine (HE.out 1).mono ?_
       rintro e w' ⟨rfl, HB⟩
       rw [HOK.out]
       refine hK.out _ _ ((show (fun W => Hid (Below wn.heap.size wn W) ∧ (W.cell? ⟨B, 0, none⟩ = some (.string (nAt ns (j + 1)).path) ∧ W.cell? ⟨B, 1, none⟩ = some (.string (nAt ns (j + 1)).data) ∧ W.cell? ⟨B, 2, none⟩ = some (.int .i64 (nAt ns (j + 1)).ver) ∧ W.cell? ⟨B, 3, none⟩ = some (.int .i64 (nAt ns (j + 1)).cver) ∧ W.cell? ⟨B, 4, none⟩ = some (.int .i64 (nAt ns (j + 1)).cz) ∧ W.cell? ⟨B, 5, none⟩ = some (.int .i64 (nAt ns (j + 1)).mz) ∧ W.cell? ⟨B, 6, none⟩ = some (.int .i64 (nAt ns (j + 1)).pz)) ∧ W.cell? ⟨w.heap.size, 0, none⟩ = some (.slice (some ⟨b, o, none⟩) n cap) ∧ W.cell? ⟨b, o + j * 7, none⟩ = some (.string (nAt ns j).path)) w' from ⟨HB, (XN.out.below HB.out).all, (CT.out _ HB.out), ((HC.out j (by omega)).below (HBn.out _ HB.out) hb).c0⟩)) (fun _ => ?_)
       clear hK K hHeld
       have hHeld := (show (fun W => Hid (Below wn.heap.size wn W) ∧ (W.cell? ⟨B, 0, none⟩ = some (.string (nAt ns (j + 1)).path) ∧ W.cell? ⟨B, 1, none⟩ = some (.string (nAt ns (j + 1)).data) ∧ W.cell? ⟨B, 2, none⟩ = some (.int .i64 (nAt ns (j + 1)).ver) ∧ W.cell? ⟨B, 3, none⟩ = some (.int .i64 (nAt ns (j + 1)).cver) ∧ W.cell? ⟨B, 4, none⟩ = some (.int .i64 (nAt ns (j + 1)).cz) ∧ W.cell? ⟨B, 5, none⟩ = some (.int .i64 (nAt ns (j + 1)).mz) ∧ W.cell? ⟨B, 6, none⟩ = some (.int .i64 (nAt ns (j + 1)).pz)) ∧ W.cell? ⟨w.heap.size, 0, none⟩ = some (.slice (some ⟨b, o, none⟩) n cap) ∧ W.cell? ⟨b, o + j * 7, none⟩ = some (.string (nAt ns j).path)) w' from ⟨HB, (XN.out.below HB.out).all, (CT.out _ HB.out), ((HC.out j (by omega)).below (HBn.out _ HB.out) hb).c0⟩)
       try simp only [Act.put, sT9, sZ9, sS9]
       refine tkL9 (i := 2) (oi := ⟨some 19, _, _, _, _, _⟩) (v := ?v14) rfl (by kernel_rfl) (fun _ _ _ h => h) (by rfl) (by assumption) ?hy14 ?_
       case hy14 => intro w9 hS9; obtain ⟨-, hS9⟩ := hS9; go_simp; try with_reducible rfl
       try simp only [Act.put, sT9, sZ9, sS9]
       refine tkL9 (i := 3) (oi := ⟨some 20, _, _, _, _, _⟩) (v := ?v15) rfl (by kernel_rfl) (fun _ _ _ h => h) (by rfl) (by assumption) ?hy15 ?_
       case hy15 => intro w9 hS9; obtain ⟨-, hS9⟩ := hS9; go_simp; try with_reducible rfl
       try simp only [Act.put, sT9, sZ9, sS9]
       refine tkL9 (i := 4) (oi := ⟨some 21, _, _, _, _, _⟩) (v := ?v16) rfl (by kernel_rfl) (fun _ _ _ h => h) (by rfl) (by assumption) ?hy16 ?_
       case hy16 => intro w9 hS9; obtain ⟨-, hS9⟩ := hS9; go_simp; try with_reducible rfl
       try simp only [Act.put, sT9, sZ9, sS9]
       refine tkL9 (i := 5) (oi := ⟨some 22, _, _, _, _, _⟩) (v := ?v17) rfl (by kernel_rfl) (fun _ _ _ h => h) (by rfl) (by assumption) ?hy17 ?_
       case hy17 => intro w9 hS9; obtain ⟨-, hS9⟩ := hS9; go_simp; try with_reducible rfl
       try simp only [Act.put, sT9, sZ9, sS9]
       refine tkL9 (i := 6) (oi := ⟨some 23, _, _, _, _, _⟩) (v := ?v18) rfl (by kernel_rfl) (fun _ _ _ h => h) (by rfl) (by assumption) ?hy18 ?_
       case hy18 => intro w9 hS9; obtain ⟨-, hS9⟩ := hS9; go_simp; try with_reducible rfl
       try simp only [Act.put, sT9, sZ9, sS9]
       refine tkL9 (i := 7) (oi := ⟨some 24, _, _, _, _, _⟩) (v := ?v19) rfl (by kernel_rfl) (fun _ _ _ h => h) (by rfl) (by assumption) ?hy19 ?_
       case hy19 => intro w9 hS9; obtain ⟨-, hS9⟩ := hS9; go_simp; try with_reducible rfl
       try simp only [Act.put, sT9, sZ9, sS9]
       refine tkL9 (i := 8) (oi := ⟨some 25, _, _, _, _, _⟩) (v := ?v20) rfl (by kernel_rfl) (fun _ _ _ h => h) (by rfl) (by assumption) ?hy20 ?_
       case hy20 => intro w9 hS9; obtain ⟨-, hS9⟩ := hS9; go_simp; try with_reducible rfl
       try simp only [Act.put, sT9, sZ9, sS9]
       refine tkL9 (i := 9) (oi := ⟨some 26, _, _, _, _, _⟩) (v := ?v21) rfl (by kernel_rfl) (fun _ _ _ h => h) (by rfl) (by assumption) ?hy21 ?_
       case hy21 => intro w9 hS9; obtain ⟨-, hS9⟩ := hS9; go_simp; try with_reducible rfl
       try simp only [Act.put, sT9, sZ9, sS9]
       refine tkL9 (i := 10) (oi := ⟨some 27, _, _, _, _, _⟩) (v := ?v22) rfl (by kernel_rfl) (fun _ _ _ h => h) (by rfl) (by assumption) ?hy22 ?_
       case hy22 => intro w9 hS9; obtain ⟨-, hS9⟩ := hS9; go_simp; try with_reducible rfl
       try simp only [Act.put, sT9, sZ9, sS9]
       refine tkL9 (i := 11) (oi := ⟨some 28, _, _, _, _, _⟩) (v := ?v23) rfl (by kernel_rfl) (fun _ _ _ h => h) (by rfl) (by assumption) ?hy23 ?_
       case hy23 => intro w9 hS9; obtain ⟨-, hS9⟩ := hS9; go_simp; try with_reducible rfl
       try simp only [Act.put, sT9, sZ9, sS9]
       refine tkL9 (i := 12) (oi := ⟨some 29, _, _, _, _, _⟩) (v := ?v24) rfl (by kernel_rfl) (fun _ _ _ h => h) (by rfl) (by assumption) ?hy24 ?_
       case hy24 => intro w9 hS9; obtain ⟨-, hS9⟩ := hS9; go_simp; try with_reducible rfl
       try simp only [Act.put, sT9, sZ9, sS9]
       refine tkL9 (i := 13) (oi := ⟨some 30, _, _, _, _, _⟩) (v := ?v25) rfl (by kernel_rfl) (fun _ _ _ h => h) (by rfl) (by assumption) ?hy25 ?_
       case hy25 => intro w9 hS9; obtain ⟨-, hS9⟩ := hS9; go_simp; try with_reducible rfl
       try simp only [Act.put, sT9, sZ9, sS9]
       refine tkL9 (i := 14) (oi := ⟨some 31, _, _, _, _, _⟩) (v := ?v26) rfl (by kernel_rfl) (fun _ _ _ h => h) (by rfl) (by assumption) ?hy26 ?_
       case hy26 => intro w9 hS9; obtain ⟨-, hS9⟩ := hS9; go_simp; try with_reducible rfl
       try simp only [Act.put, sT9, sZ9, sS9]
       refine tkL9 (i := 15) (oi := ⟨some 32, _, _, _, _, _⟩) (v := ?v27) rfl (by kernel_rfl) (fun _ _ _ h => h) (by rfl) (by assumption) ?hy27 ?_
       case hy27 => intro w9 hS9; obtain ⟨-, hS9⟩ := hS9; go_simp; try with_reducible rfl
       try simp only [Act.put, sT9, sZ9, sS9]
       refine tkL9 (i := 16) (oi := ⟨some 33, _, _, _, _, _⟩) (v := ?v28) rfl (by kernel_rfl) (fun _ _ _ h => h) (by rfl) (by assumption) ?hy28 ?_
       case hy28 => intro w9 hS9; obtain ⟨-, hS9⟩ := hS9; go_simp; try with_reducible rfl
       try simp only [Act.put, sT9, sZ9, sS9]
       refine tkL9 (i := 17) (oi := ⟨some 34, _, _, _, _, _⟩) (v := ?v29) rfl (by kernel_rfl) (fun _ _ _ h => h) (by rfl) (by assumption) ?hy29 ?_
       case hy29 => intro w9 hS9; obtain ⟨-, hS9⟩ := hS9; go_simp; try with_reducible rfl
       try simp only [Act.put, sT9, sZ9, sS9]
       refine tkL9 (i := 18) (oi := ⟨some 35, _, _, _, _, _⟩) (v := ?v30) rfl (by kernel_rfl) (fun _ _ _ h => h) (by rfl) (by assumption) ?hy30 ?_
       case hy30 => intro w9 hS9; obtain ⟨-, hS9⟩ := hS9; go_simp; try with_reducible rfl
       try simp only [Act.put, sT9, sZ9, sS9]
       refine wpAnyH_done (by kernel_rfl) ?_ _
       clear hHeld
       go_wp2
       go_roundw
       case rel => exact ⟨(j + 1) + 1, by omega, by go_num, (fun t ht => by by_cases e : t = (j + 1); (subst e; exact HT.out); exact HA.out t (by omega)), HBz.out _ HB.out⟩
       case measure => simp [intOf]; omega
      | false =>
       have HN : Hid (okSorted ns = false) := sorted_no HLT.out (by rw [okAt_succ, hcmp, Bool.and_false])
       have l1 : Op.bytesLess (nAt ns j).path.toList (nAt ns (j + 1)).path.toList = false := hcmp
       clear hcmp
       refine wp_region_held_drew (S := fun W => Hid (Below wn.heap.size wn W) ∧ (W.cell? ⟨B, 0, none⟩ = some (.string (nAt ns (j + 1)).path) ∧ W.cell? ⟨B, 1, none⟩ = some (.string (nAt ns (j + 1)).data) ∧ W.cell? ⟨B, 2, none⟩ = some (.int .i64 (nAt ns (j + 1)).ver) ∧ W.cell? ⟨B, 3, none⟩ = some (.int .i64 (nAt ns (j + 1)).cver) ∧ W.cell? ⟨B, 4, none⟩ = some (.int .i64 (nAt ns (j + 1)).cz) ∧ W.cell? ⟨B, 5, none⟩ = some (.int .i64 (nAt ns (j + 1)).mz) ∧ W.cell? ⟨B, 6, none⟩ = some (.int .i64 (nAt ns (j + 1)).pz)) ∧ W.cell? ⟨w.heap.size, 0, none⟩ = some (.slice (some ⟨b, o, none⟩) n cap) ∧ W.cell? ⟨b, o + j * 7, none⟩ = some (.string (nAt ns j).path)) (by kernel_rfl) (⟨HD, (XN.out.below HD.out).all, (CT.out _ HD.out), ((HC.out j (by omega)).below (HBn.out _ HD.out) hb).c0⟩) (fun hHeld => ?_)
       refine tkL9 (i := 0) (oi := ⟨some 17, _, _, _, _, _⟩) (v := ?v31) rfl (by kernel_rfl) (fun _ _ _ h => h) (by rfl) (by assumption) ?hy31 ?_
       case hy31 => intro w9 hS9; obtain ⟨-, hS9⟩ := hS9; go_simp; try with_reducible rfl
       try simp only [Act.put, sT9, sZ9, sS9]
       refine wpAnyH_ready (rs := [1]) (by kernel_rfl) (by simp) ?_
       refine AllReadyH.cons (o := ⟨some 18, _, _, _, _, _⟩) rfl (fun K hK => ?_) AllReadyH.nil
       go_simp
       refine (HE.out 1).mono ?_
       rintro e w' ⟨rfl, HB⟩
       rw [HOK.out]
       refine hK.out _ _ ((show (fun W => Hid (Below wn.heap.size wn W) ∧ (W.cell? ⟨B, 0, none⟩ = some (.string (nAt ns (j + 1)).path) ∧ W.cell? ⟨B, 1, none⟩ = some (.string (nAt ns (j + 1)).data) ∧ W.cell? ⟨B, 2, none⟩ = some (.int .i64 (nAt ns (j + 1)).ver) ∧ W.cell? ⟨B, 3, none⟩ = some (.int .i64 (nAt ns (j + 1)).cver) ∧ W.cell? ⟨B, 4, none⟩ = some (.int .i64 (nAt ns (j + 1)).cz) ∧ W.cell? ⟨B, 5, none⟩ = some (.int .i64 (nAt ns (j + 1)).mz) ∧ W.cell? ⟨B, 6, none⟩ = some (.int .i64 (nAt ns (j + 1)).pz)) ∧ W.cell? ⟨w.heap.size, 0, none⟩ = some (.slice (some ⟨b, o, none⟩) n cap) ∧ W.cell? ⟨b, o + j * 7, none⟩ = some (.string (nAt ns j).path)) w' from ⟨HB, (XN.out.below HB.out).all, (CT.out _ HB.out), ((HC.out j (by omega)).below (HBn.out _ HB.out) hb).c0⟩)) (fun _ => ?_)
       clear hK K hHeld
       have hHeld := (show (fun W => Hid (Below wn.heap.size wn W) ∧ (W.cell? ⟨B, 0, none⟩ = some (.string (nAt ns (j + 1)).path) ∧ W.cell? ⟨B, 1, none⟩ = some (.string (nAt ns (j + 1)).data) ∧ W.cell? ⟨B, 2, none⟩ = some (.int .i64 (nAt ns (j + 1)).ver) ∧ W.cell? ⟨B, 3, none⟩ = some (.int .i64 (nAt ns (j + 1)).cver) ∧ W.cell? ⟨B, 4, none⟩ = some (.int .i64 (nAt ns (j + 1)).cz) ∧ W.cell? ⟨B, 5, none⟩ = some (.int .i64 (nAt ns (j + 1)).mz) ∧ W.cell? ⟨B, 6, none⟩ = some (.int .i64 (nAt ns (j + 1)).pz)) ∧ W.cell? ⟨w.heap.size, 0, none⟩ = some (.slice (some ⟨b, o, none⟩) n cap) ∧ W.cell? ⟨b, o + j * 7, none⟩ = some (.string (nAt ns j).path)) w' from ⟨HB, (XN.out.below HB.out).all, (CT.out _ HB.out), ((HC.out j (by omega)).below (HBn.out _ HB.out) hb).c0⟩)
       try simp only [Act.put, sT9, sZ9, sS9]
       refine tkL9 (i := 2) (oi := ⟨some 19, _, _, _, _, _⟩) (v := ?v32) rfl (by kernel_rfl) (fun _ _ _ h => h) (by rfl) (by assumption) ?hy32 ?_
       case hy32 => intro w9 hS9; obtain ⟨-, hS9⟩ := hS9; go_simp; try with_reducible rfl
       try simp only [Act.put, sT9, sZ9, sS9]
       refine tkL9 (i := 3) (oi := ⟨some 20, _, _, _, _, _⟩) (v := ?v33) rfl (by kernel_rfl) (fun _ _ _ h => h) (by rfl) (by assumption) ?hy33 ?_
       case hy33 => intro w9 hS9; obtain ⟨-, hS9⟩ := hS9; go_simp; try with_reducible rfl
       try simp only [Act.put, sT9, sZ9, sS9]
       refine tkL9 (i := 4) (oi := ⟨some 21, _, _, _, _, _⟩) (v := ?v34) rfl (by kernel_rfl) (fun _ _ _ h => h) (by rfl) (by assumption) ?hy34 ?_
       case hy34 => intro w9 hS9; obtain ⟨-, hS9⟩ := hS9; go_simp; try with_reducible rfl
       try simp only [Act.put, sT9, sZ9, sS9]
       refine tkL9 (i := 5) (oi := ⟨some 22, _, _, _, _, _⟩) (v := ?v35) rfl (by kernel_rfl) (fun _ _ _ h => h) (by rfl) (by assumption) ?hy35 ?_
       case hy35 => intro w9 hS9; obtain ⟨-, hS9⟩ := hS9; go_simp; try with_reducible rfl
       try simp only [Act.put, sT9, sZ9, sS9]
       refine tkL9 (i := 6) (oi := ⟨some 23, _, _, _, _, _⟩) (v := ?v36) rfl (by kernel_rfl) (fun _ _ _ h => h) (by rfl) (by assumption) ?hy36 ?_
       case hy36 => intro w9 hS9; obtain ⟨-, hS9⟩ := hS9; go_simp; try with_reducible rfl
       try simp only [Act.put, sT9, sZ9, sS9]
       refine tkL9 (i := 7) (oi := ⟨some 24, _, _, _, _, _⟩) (v := ?v37) rfl (by kernel_rfl) (fun _ _ _ h => h) (by rfl) (by assumption) ?hy37 ?_
       case hy37 => intro w9 hS9; obtain ⟨-, hS9⟩ := hS9; go_simp; try with_reducible rfl
       try simp only [Act.put, sT9, sZ9, sS9]
       refine tkL9 (i := 8) (oi := ⟨some 25, _, _, _, _, _⟩) (v := ?v38) rfl (by kernel_rfl) (fun _ _ _ h => h) (by rfl) (by assumption) ?hy38 ?_
       case hy38 => intro w9 hS9; obtain ⟨-, hS9⟩ := hS9; go_simp; try with_reducible rfl
       try simp only [Act.put, sT9, sZ9, sS9]
       refine tkL9 (i := 9) (oi := ⟨some 26, _, _, _, _, _⟩) (v := ?v39) rfl (by kernel_rfl) (fun _ _ _ h => h) (by rfl) (by assumption) ?hy39 ?_
       case hy39 => intro w9 hS9; obtain ⟨-, hS9⟩ := hS9; go_simp; try with_reducible rfl
       try simp only [Act.put, sT9, sZ9, sS9]
       refine tkL9 (i := 10) (oi := ⟨some 27, _, _, _, _, _⟩) (v := ?v40) rfl (by kernel_rfl) (fun _ _ _ h => h) (by rfl) (by assumption) ?hy40 ?_
       case hy40 => intro w9 hS9; obtain ⟨-, hS9⟩ := hS9; go_simp; try with_reducible rfl
       try simp only [Act.put, sT9, sZ9, sS9]
       refine tkL9 (i := 11) (oi := ⟨some 28, _, _, _, _, _⟩) (v := ?v41) rfl (by kernel_rfl) (fun _ _ _ h => h) (by rfl) (by assumption) ?hy41 ?_
       case hy41 => intro w9 hS9; obtain ⟨-, hS9⟩ := hS9; go_simp; try with_reducible rfl
       try simp only [Act.put, sT9, sZ9, sS9]
       refine tkL9 (i := 12) (oi := ⟨some 29, _, _, _, _, _⟩) (v := ?v42) rfl (by kernel_rfl) (fun _ _ _ h => h) (by rfl) (by assumption) ?hy42 ?_
       case hy42 => intro w9 hS9; obtain ⟨-, hS9⟩ := hS9; go_simp; try with_reducible rfl
       try simp only [Act.put, sT9, sZ9, sS9]
       refine tkL9 (i := 13) (oi := ⟨some 30, _, _, _, _, _⟩) (v := ?v43) rfl (by kernel_rfl) (fun _ _ _ h => h) (by rfl) (by assumption) ?hy43 ?_
       case hy43 => intro w9 hS9; obtain ⟨-, hS9⟩ := hS9; go_simp; try with_reducible rfl
       try simp only [Act.put, sT9, sZ9, sS9]
       refine tkL9 (i := 14) (oi := ⟨some 31, _, _, _, _, _⟩) (v := ?v44) rfl (by kernel_rfl) (fun _ _ _ h => h) (by rfl) (by assumption) ?hy44 ?_
       case hy44 => intro w9 hS9; obtain ⟨-, hS9⟩ := hS9; go_simp; try with_reducible rfl
       try simp only [Act.put, sT9, sZ9, sS9]
       refine tkL9 (i := 15) (oi := ⟨some 32, _, _, _, _, _⟩) (v := ?v45) rfl (by kernel_rfl) (fun _ _ _ h => h) (by rfl) (by assumption) ?hy45 ?_
       case hy45 => intro w9 hS9; obtain ⟨-, hS9⟩ := hS9; go_simp; try with_reducible rfl
       try simp only [Act.put, sT9, sZ9, sS9]
       refine tkL9 (i := 16) (oi := ⟨some 33, _, _, _, _, _⟩) (v := ?v46) rfl (by kernel_rfl) (fun _ _ _ h => h) (by rfl) (by assumption) ?hy46 ?_
       case hy46 => intro w9 hS9; obtain ⟨-, hS9⟩ := hS9; go_simp; try with_reducible rfl
       try simp only [Act.put, sT9, sZ9, sS9]
       refine tkL9 (i := 17) (oi := ⟨some 34, _, _, _, _, _⟩) (v := ?v47) rfl (by kernel_rfl) (fun _ _ _ h => h) (by rfl) (by assumption) ?hy47 ?_
       case hy47 => intro w9 hS9; obtain ⟨-, hS9⟩ := hS9; go_simp; try with_reducible rfl
       try simp only [Act.put, sT9, sZ9, sS9]
       refine tkL9 (i := 18) (oi := ⟨some 35, _, _, _, _, _⟩) (v := ?v48) rfl (by kernel_rfl) (fun _ _ _ h => h) (by rfl) (by assumption) ?hy48 ?_
       case hy48 => intro w9 hS9; obtain ⟨-, hS9⟩ := hS9; go_simp; try with_reducible rfl
       try simp only [Act.put, sT9, sZ9, sS9]
       refine wpAnyH_done (by kernel_rfl) ?_ _
       clear hHeld
       go_wp2
       go_ret
       exact ⟨ret_b HN.out.symm, HBn.out _ HB.out⟩
  · have HY : Hid (okSorted ns = true) := sorted_yes (fun t ht => HA.out t (by rw [HP.out] at ht; omega))
    go_wp2
    go_ret
    exact ⟨ret_b HY.out.symm, HG0.out⟩
theorem implTree_nil (w : World) (ao : Option Addr) (cap : Nat) :
    Calls Tryz.prog 33 #[.agg #[.slice ao 0 cap]] w fun e w' => e = .returned (.bool true) ∧ Below w.heap.size w w' := by
 go_enter Tryz.func33, Tryz.ntmps33
 go_wp2
 go_rounds 1
 go_ret
 exact ⟨rfl, (Below.refl _ _).alloc (Nat.le_refl _) _⟩
theorem implTree_long (w : World) (ao : Option Addr) (n cap : Nat) (h : 1000 < n) :
    Calls Tryz.prog 33 #[.agg #[.slice ao n cap]] w fun e w' => e = .returned (.bool false) ∧ Below w.heap.size w w' := by
 have h1I : (1000 : Int) < (n : Int) := by omega
 go_enter Tryz.func33, Tryz.ntmps33
 go_wp2
 go_ret
 exact ⟨rfl, (Below.refl _ _).alloc (Nat.le_refl _) _⟩
theorem implTree_any (w : World) (v : Value) (ns : List Nd) (h : RdN w v ns) (hsz : ∀ i, (nAt ns i).path.size ≤ 1048576 ∧ (nAt ns i).data.size ≤ 1048576) :
    Calls Tryz.prog 33 #[.agg #[v]] w fun e w' => e = .returned (.bool (okTree ns)) ∧ Below w.heap.size w w' := by
 obtain ⟨ao, cap, rfl, k1, k2, k3⟩ := h
 by_cases hl : 1000 < ns.length
 · have : okTree ns = false := by unfold okTree; rw [decide_eq_false (by omega)]; rfl
   rw [this]
   exact implTree_long w ao ns.length cap hl
 · have : okTree ns = okSorted ns := by unfold okTree; rw [decide_eq_true (by omega)]; rfl
   rw [this]
   rcases k3 with rfl | ⟨b, o, rfl, hb, hc⟩
   · exact implTree_nil w ao cap
   · exact implTree_row w b o ns.length cap ns rfl (by omega) hb hsz hc
end Go.Proofs.YtcopcegamadkgaaGreatDoor
namespace Go.Proofs.YtcopcegamadkgaaGreatDoor
open Go.RowKit Go.Shelf
theorem cmp_lt : ∀ a b : List UInt8, (Lib.compareBytes a b < 0) ↔ Op.bytesLess a b = true
 | [], [] => by simp [Lib.compareBytes, Op.bytesLess]
 | [], _ :: _ => by simp [Lib.compareBytes, Op.bytesLess]
 | _ :: _, [] => by simp [Lib.compareBytes, Op.bytesLess]
 | a :: l, b :: m => by
  unfold Lib.compareBytes Op.bytesLess
  by_cases h1 : a < b
  · simp [h1]
  · by_cases h2 : b < a
    · have h3 : ¬ a = b := fun e => by subst e; exact absurd h2 h1
      simp [h1, h2, h3]
    · have h3 : a = b := UInt8.le_antisymm (UInt8.not_lt.1 h2) (UInt8.not_lt.1 h1)
      subst h3
      simp [h1, cmp_lt l m]
theorem cmp_eq0 : ∀ a b : List UInt8, (Lib.compareBytes a b = 0) ↔ a = b
 | [], [] => by simp [Lib.compareBytes]
 | [], _ :: _ => by simp [Lib.compareBytes]
 | _ :: _, [] => by simp [Lib.compareBytes]
 | a :: l, b :: m => by
  unfold Lib.compareBytes
  by_cases h1 : a < b
  · have h3 : ¬ a = b := fun e => by subst e; exact absurd h1 (UInt8.lt_irrefl _)
    simp [h1, h3]
  · by_cases h2 : b < a
    · have h3 : ¬ a = b := fun e => by subst e; exact absurd h2 h1
      simp [h1, h2, h3]
    · have h3 : a = b := UInt8.le_antisymm (UInt8.not_lt.1 h2) (UInt8.not_lt.1 h1)
      subst h3
      simp [h1, cmp_eq0 l m]
def cmpP (a b : ByteArray) : Int := Lib.compareBytes a.data.toList b.data.toList
theorem cmpStr_any (w : World) (a b : ByteArray) :
    Calls Tryz.prog 194 #[.string a, .string b] w fun e w' => e = .returned (.int .i64 (cmpP a b)) ∧ w' = w := by
 go_enter Tryz.func194, Tryz.ntmps194
 go_wp2
 rw [run_callFunc_extern Tryz.func200 (by kernel_rfl) (by kernel_rfl) (by kernel_rfl) (e := Extern.BytealgCompare.compare) (by kernel_rfl), Lib.run_compareString]
 simp only [Result.andThen]
 rw [Oper.upon_value]
 go_wp2
 go_ret
 exact ⟨rfl, rfl⟩
theorem compare_any (w : World) (a b : ByteArray) :
    Calls Tryz.prog 184 #[.string a, .string b] w fun e w' => e = .returned (.int .i64 (cmpP a b)) ∧ w' = w := by
 go_enter Tryz.func184, Tryz.ntmps184
 go_wp2_with fail
 refine (cmpStr_any w a b).mono ?_
 rintro e w1 ⟨rfl, rfl⟩
 go_wp2
 go_ret
 exact ⟨rfl, rfl⟩
theorem find1_any (w : World) (n : Nd) (p : ByteArray) :
    Calls Tryz.prog 183 #[.agg #[.string n.path, .string n.data, .int .i64 n.ver, .int .i64 n.cver, .int .i64 n.cz, .int .i64 n.mz, .int .i64 n.pz], .string p] w fun e w' => e = .returned (.int .i64 (cmpP n.path p)) ∧ Below w.heap.size w w' := by
 have B0 : Hid (Below w.heap.size w (w.alloc (.cells #[.string n.path, .string n.data, .int .i64 n.ver, .int .i64 n.cver, .int .i64 n.cz, .int .i64 n.mz, .int .i64 n.pz] 85))) := (Below.refl _ _).alloc (Nat.le_refl _) _
 go_enter Tryz.func183, Tryz.ntmps183
 go_wp2_with fail
 generalize w.alloc (.cells #[.string n.path, .string n.data, .int .i64 n.ver, .int .i64 n.cver, .int .i64 n.cz, .int .i64 n.mz, .int .i64 n.pz] 85) = w0 at *
 refine (compare_any w0 n.path p).mono ?_
 rintro e w1 ⟨rfl, hw⟩
 obtain rfl : w0 = w1 := hw.symm
 go_wp2
 go_ret
 exact ⟨rfl, B0.out⟩
def Low (ns : List Nd) (p : ByteArray) (L : Nat) : Prop := L ≤ ns.length ∧ (∀ i, i < L → cmpP (nAt ns i).path p < 0) ∧ ∀ i, L ≤ i → i < ns.length → ¬ cmpP (nAt ns i).path p < 0
def fnd (ns : List Nd) (p : ByteArray) (L : Nat) : Bool := decide (L < ns.length) && (cmpP (nAt ns L).path p == 0)
theorem bs_row (w : World) (b o n cap L : Nat) (ns : List Nd) (p : ByteArray) (hp : ns.length = n) (hn : n ≤ 1000) (hb : b < w.heap.size) (hc : ∀ i, i < n → CellsN w b (o + i * 7) (nAt ns i)) (hL : Low ns p L) :
    Calls Tryz.prog 182 #[.slice (some ⟨b, o, none⟩) n cap, .string p, .func (.func 183) #[] #[]] w fun e w' => e = .returned (.tuple #[.int .i64 (L : Int), .bool (fnd ns p L)]) ∧ Below w.heap.size w w' := by
 obtain ⟨l1, l2, l3⟩ := hL
 have HC : Hid (∀ i, i < n → CellsN w b (o + i * 7) (nAt ns i)) := hc
 have HP : Hid (ns.length = n) := hp
 have H2 : Hid (∀ i, i < L → cmpP (nAt ns i).path p < 0) := l2
 have H3 : Hid (∀ i, L ≤ i → i < ns.length → ¬ cmpP (nAt ns i).path p < 0) := l3
 rw [hp] at l1
 clear hc hp l2 l3
 go_enter Tryz.func182, Tryz.ntmps182
 go_wp2
 go_loopw [9, 10] (fun vi vj wr => ∃ i j : Nat, i ≤ L ∧ L ≤ j ∧ j ≤ n ∧ vi = .int .i64 i ∧ vj = .int .i64 j ∧ Hid (Below w.heap.size w wr)) (fun i j _ => (intOf j - intOf i).toNat)
 case atStart => exact ⟨0, n, Nat.zero_le _, l1, Nat.le_refl _, rfl, rfl, Below.refl _ _⟩
 case round =>
  obtain ⟨i, j, hi, hj, hjn, rfl, rfl, HB⟩ := hrel
  by_cases hlt : i < j
  · have hltI : (i : Int) < (j : Int) := by omega
    obtain ⟨h, hh⟩ : ∃ h : Nat, h = (i + j) / 2 := ⟨_, rfl⟩
    have hI : ((i : Int) + (j : Int)) / 2 = (h : Int) := by omega
    have h1 : i ≤ h := by omega
    have h2 : h < j := by omega
    have h3 : h < n := by omega
    clear hh
    obtain ⟨c0, c1, c2, c3, c4, c5, c6⟩ := (HC.out h h3).below HB.out hb
    go_wp2_with fail
    refine (find1_any wr (nAt ns h) p).mono ?_
    rintro e w1 ⟨rfl, b1⟩
    have B1 := hd9 (HB.out.trans (b1.mono HB.out.size))
    clear b1 c0 c1 c2 c3 c4 c5 c6 HB
    by_cases hc : cmpP (nAt ns h).path p < 0
    · have hhL : h < L := by
       by_cases hh : h < L
       · exact hh
       · exact absurd hc (by have := H3.out h (by omega) (by rw [HP.out]; exact h3); omega)
      go_wp2
      exact ⟨⟨h + 1, j, by omega, hj, hjn, by go_num, rfl, B1⟩, by simp [intOf]; omega⟩
    · have hhL : L ≤ h := by
       by_cases hh : h < L
       · exact absurd (H2.out h hh) hc
       · omega
      go_wp2
      exact ⟨⟨i, h, hi, hhL, by omega, rfl, by go_num, B1⟩, by simp [intOf]; omega⟩
  · have hiL : i = L := by omega
    subst hiL
    have hnI : ¬ (i : Int) < (j : Int) := by omega
    by_cases hLn : i < n
    · have hLI : (i : Int) < (n : Int) := by omega
      have HF : Hid (fnd ns p i = (cmpP (nAt ns i).path p == 0)) := by show _ = _; unfold fnd; rw [HP.out, decide_eq_true hLn]; rfl
      obtain ⟨c0, c1, c2, c3, c4, c5, c6⟩ := (HC.out i hLn).below HB.out hb
      go_wp2_with fail
      refine (find1_any wr (nAt ns i) p).mono ?_
      rintro e w1 ⟨rfl, b1⟩
      have B1 := hd9 (HB.out.trans (b1.mono HB.out.size))
      clear b1 c0 c1 c2 c3 c4 c5 c6 HB
      go_wp2
      refine bodyPost_ret (v := .tuple #[.int .i64 (i : Int), .bool (cmpP (nAt ns i).path p == 0)]) (by simp [results, Tryz.results182, go_sem]) rfl ⟨by rw [HF.out], B1.out⟩
    · have hLI : ¬ (i : Int) < (n : Int) := by omega
      have HF : Hid (fnd ns p i = false) := by show _ = _; unfold fnd; rw [HP.out, decide_eq_false hLn]; rfl
      go_wp2
      refine bodyPost_ret (v := .tuple #[.int .i64 (i : Int), .bool false]) (by simp [results, Tryz.results182, go_sem]) rfl ⟨by rw [HF.out], HB.out⟩
theorem bs_nil (w : World) (ao : Option Addr) (cap : Nat) (p : ByteArray) :
    Calls Tryz.prog 182 #[.slice ao 0 cap, .string p, .func (.func 183) #[] #[]] w fun e w' => e = .returned (.tuple #[.int .i64 0, .bool false]) ∧ w' = w := by
 go_enter Tryz.func182, Tryz.ntmps182
 go_wp2
 go_rounds 1
 refine bodyPost_ret (v := .tuple #[.int .i64 0, .bool false]) (by simp [results, Tryz.results182, go_sem]) rfl ⟨rfl, rfl⟩
theorem findNode_any (w : World) (v : Value) (ns : List Nd) (p : ByteArray) (L : Nat) (h : RdN w v ns) (hn : ns.length ≤ 1000) (hL : Low ns p L) :
    Calls Tryz.prog 147 #[v, .string p] w fun e w' => e = .returned (.tuple #[.int .i64 (L : Int), .bool (fnd ns p L)]) ∧ Below w.heap.size w w' := by
 have H : Hid (Calls Tryz.prog 182 #[v, .string p, .func (.func 183) #[] #[]] w fun e w' => e = .returned (.tuple #[.int .i64 (L : Int), .bool (fnd ns p L)]) ∧ Below w.heap.size w w') := by
  obtain ⟨ao, cap, rfl, h1, h2, h3⟩ := h
  rcases h3 with rfl | ⟨b, o, rfl, hb, hc⟩
  · have hL0 : L = 0 := by have := hL.1; simpa using this
    subst hL0
    refine (bs_nil w ao cap p).mono ?_
    rintro e w' ⟨rfl, rfl⟩
    exact ⟨rfl, Below.refl _ _⟩
  · exact bs_row w b o ns.length cap L ns p rfl hn hb hc hL
 clear h hL
 go_enter Tryz.func147, Tryz.ntmps147
 go_wp2_with fail
 refine H.out.mono ?_
 rintro e w1 ⟨rfl, b1⟩
 have B1 : Hid (Below w.heap.size w w1) := b1
 clear b1 H
 go_wp2
 refine bodyPost_ret (v := .tuple #[.int .i64 (L : Int), .bool (fnd ns p L)]) (by simp [results, Tryz.results147, go_sem]) rfl ⟨rfl, B1.out⟩
end Go.Proofs.YtcopcegamadkgaaGreatDoor
namespace Go.Proofs.YtcopcegamadkgaaGreatDoor
open Go.RowKit
theorem ofInt_wrap64 (x : Nat) : (BitVec.ofInt 64 (wrap64 (x : Int))).toNat = x % 18446744073709551616 := by
 rw [BitVec.toNat_ofInt]
 unfold wrap64
 omega
theorem i64_join (x b : Nat) (hb : b < 256) : bits .or .i64 (wrap64 ((x : Int) * 256)) (b : Int) = wrap64 (((x * 256 + b : Nat) : Int)) := by
 show IntKind.i64.wrap ((BitVec.ofInt 64 (wrap64 ((x : Int) * 256)) ||| BitVec.ofInt 64 (b : Int)).toNat : Int) = _
 have e1 : (BitVec.ofInt 64 (wrap64 ((x : Int) * 256))).toNat = x * 256 % 18446744073709551616 := by
  have := ofInt_wrap64 (x * 256)
  rw [Int.natCast_mul] at this
  exact this
 have e2 : (BitVec.ofInt 64 (b : Int)).toNat = b := by
  rw [BitVec.ofInt_natCast, BitVec.toNat_ofNat]; exact Nat.mod_eq_of_lt (by omega)
 rw [BitVec.toNat_or, e1, e2, nat_join 8 (x * 256 % 18446744073709551616) b (by simp only [Nat.reducePow]; omega) (by simpa using hb), IntKind.wrap_i64]
 unfold wrap64
 omega
theorem wrap64_shl (x : Nat) : wrap64 (wrap64 (x : Int) * 256) = wrap64 ((x : Int) * 256) := by unfold wrap64; omega
def badChain : List PanicEntry := [{ v := .iface 204 (.agg #[]), recovered := false }]
theorem take_bad (w : World) (k n c m : Nat) (ao : Option Addr) (h0 : w.cell? ⟨k, 0, none⟩ = some (.slice ao n c)) (hm : n < m) :
    Calls Tryz.prog 141 #[.pointer (some ⟨k, 0, none⟩), .int .i64 m] w fun e w' => e = .panicked badChain ∧ w' = w := by
 have hI : (n : Int) < (m : Int) := by omega
 go_enter Tryz.func141, Tryz.ntmps141
 go_wp2
 exact ⟨rfl, rfl, rfl⟩
def TakePost (w : World) (k b o n c m : Nat) (e : Ending) (w' : World) : Prop := e = .returned (.slice (some ⟨b, o, none⟩) m c) ∧ ∃ o', (o' = o + m ∨ n = m) ∧ w' = w.setCell ⟨k, 0, none⟩ (.slice (some ⟨b, o', none⟩) (n - m) (c - m))
theorem take_ok (w : World) (k b o n c m : Nat) (h0 : w.cell? ⟨k, 0, none⟩ = some (.slice (some ⟨b, o, none⟩) n c)) (hz : w.frozen? ⟨k, 0, none⟩ = false) (hm : m ≤ n) (hm0 : 0 < m) (hc : n ≤ c) :
    Calls Tryz.prog 141 #[.pointer (some ⟨k, 0, none⟩), .int .i64 m] w fun e w' => TakePost w k b o n c m e w' := by
 have hI : ¬ (n : Int) < (m : Int) := by omega
 by_cases hcm : c = m
 · subst hcm
   go_enter Tryz.func141, Tryz.ntmps141
   go_wp2
   go_ret
   exact ⟨rfl, o, .inr (by omega), by rw [Nat.sub_self, show n - c = 0 by omega]⟩
 · have hcm' : m < c := by omega
   go_enter Tryz.func141, Tryz.ntmps141
   go_wp2
   go_ret
   exact ⟨rfl, o + m, .inl rfl, rfl⟩
def RS (w0 w : World) (k : Nat) (ys : List Int) : Prop :=
 w0.heap.size ≤ k ∧ k < w.heap.size ∧ w.frozen? ⟨k, 0, none⟩ = false ∧ Below w0.heap.size w0 w ∧ ∃ v, w.cell? ⟨k, 0, none⟩ = some v ∧ Rd .u8 w0 v ys
theorem RS.drewN {w0 w : World} {k : Nat} {ys : List Int} (h : RS w0 w k ys) (q : Nat) : RS w0 (w.drewN q) k ys :=
 ⟨h.1, h.2.1, h.2.2.1, h.2.2.2.1.trans ((below_drewN' w q).mono h.2.2.2.1.size), h.2.2.2.2⟩
theorem RS.keep {w0 w w' : World} {k B : Nat} {ys : List Int} (h : RS w0 w k ys) (hb : Below B w w') (hk : k < B) : RS w0 w' k ys := by
 obtain ⟨h1, h2, h3, h4, v, h5, h6⟩ := h
 exact ⟨h1, Nat.lt_of_lt_of_le h2 hb.size, (hb.frozen (p := ⟨k, 0, none⟩) hk).trans h3, h4.trans (hb.mono (by omega)), v, (hb.cell (p := ⟨k, 0, none⟩) hk).trans h5, h6⟩
theorem RS.set {w0 w : World} {k : Nat} {ys zs : List Int} {v : Value} (h : RS w0 w k ys) (hv : Rd .u8 w0 v zs) : RS w0 (w.setCell ⟨k, 0, none⟩ v) k zs := by
 obtain ⟨h1, h2, h3, h4, u, h5, h6⟩ := h
 refine ⟨h1, by simpa using h2, ?_, h4.setCell h1 _, v, World.cell?_setCell_same _ _ _ h5, hv⟩
 rw [World.frozen?_setCell]; exact h3
theorem Rd.split {k : IntKind} {w : World} {b o n c : Nat} {ys : List Int} (h : Rd k w (.slice (some ⟨b, o, none⟩) n c) ys) (m : Nat) (hm : m ≤ n) (hm0 : 0 < m) :
    Rd k w (.slice (some ⟨b, o, none⟩) m c) (ys.take m) ∧ ∀ o', (o' = o + m ∨ n = m) → Rd k w (.slice (some ⟨b, o', none⟩) (n - m) (c - m)) (ys.drop m) := by
 obtain ⟨ao, cap, e, h1, h2, h3⟩ := h
 simp only [Value.slice.injEq] at e
 obtain ⟨rfl, rfl, rfl⟩ := e
 rcases h3 with rfl | ⟨b', o', e', hb, hc⟩
 · simp at hm; omega
 · simp only [Option.some.injEq, Addr.mk.injEq, and_true] at e'
   obtain ⟨rfl, rfl⟩ := e'
   refine ⟨⟨some ⟨b, o, none⟩, c, by rw [List.length_take, Nat.min_eq_left hm], by rw [List.length_take]; omega, h2, .inr ⟨b, o, rfl, hb, fun i hi => ?_⟩⟩, fun o' ho' => ⟨some ⟨b, o', none⟩, c - m, by rw [List.length_drop], by rw [List.length_drop]; omega, by omega, ?_⟩⟩
   · rw [List.length_take] at hi
     rw [hc i (by omega)]
     simp [List.getD, List.getElem?_take_of_lt (show i < m by omega)]
   · rcases ho' with rfl | hnm
     · refine .inr ⟨b, o + m, rfl, hb, fun i hi => ?_⟩
       rw [List.length_drop] at hi
       rw [Nat.add_assoc, hc (m + i) (by omega)]
       simp [List.getD]
     · exact .inl (List.drop_eq_nil_of_le (by omega))
theorem take_any (w0 w : World) (k m : Nat) (ys : List Int) (h : RS w0 w k ys) (hm : m ≤ ys.length) (hm0 : 0 < m) :
    Calls Tryz.prog 141 #[.pointer (some ⟨k, 0, none⟩), .int .i64 m] w fun e w' => ∃ b o c v', e = .returned (.slice (some ⟨b, o, none⟩) m c) ∧ b < w0.heap.size ∧ (∀ i, i < m → w0.cell? ⟨b, o + i, none⟩ = some (.int .u8 (ys.getD i 0))) ∧ RS w0 w' k (ys.drop m) ∧ w' = w.setCell ⟨k, 0, none⟩ v' := by
 obtain ⟨h1, h2, h3, h4, v, h5, h6⟩ := h
 have h6' := h6
 obtain ⟨ao, c, rfl, g1, g2, g3⟩ := h6
 rcases g3 with rfl | ⟨b, o, rfl, hb, hc⟩
 · simp at hm; omega
 · refine (take_ok w k b o ys.length c m h5 h3 hm hm0 g1).mono ?_
   rintro e w' ⟨rfl, o', ho', rfl⟩
   exact ⟨b, o, c, _, rfl, hb, fun i hi => hc i (by omega), RS.set ⟨h1, h2, h3, h4, _, h5, h6'⟩ ((Rd.split h6' m hm hm0).2 o' ho'), rfl⟩
theorem take_none (w0 w : World) (k m : Nat) (ys : List Int) (h : RS w0 w k ys) (hm : ys.length < m) :
    Calls Tryz.prog 141 #[.pointer (some ⟨k, 0, none⟩), .int .i64 m] w fun e w' => e = .panicked badChain ∧ w' = w := by
 obtain ⟨-, -, -, -, v, h5, h6⟩ := h
 obtain ⟨ao, c, rfl, -, -, -⟩ := h6
 exact take_bad w k _ c m ao h5 hm
theorem number_none (w0 w : World) (k m : Nat) (ys : List Int) (h : RS w0 w k ys) (hm : ys.length < m) :
    Calls Tryz.prog 93 #[.pointer (some ⟨k, 0, none⟩), .int .i64 m] w fun e w' => e = .panicked badChain ∧ w' = w := by
 have H : Hid (Calls Tryz.prog 141 #[.pointer (some ⟨k, 0, none⟩), .int .i64 m] w fun e w' => e = .panicked badChain ∧ w' = w) := take_none w0 w k m ys h hm
 clear h hm
 go_enter Tryz.func93, Tryz.ntmps93
 go_wp2_with fail
 refine H.out.mono ?_
 rintro e w1 ⟨rfl, rfl⟩
 exact ⟨rfl, rfl, rfl⟩
theorem number_any (w0 w : World) (k m : Nat) (ys : List Int) (h : RS w0 w k ys) (hm : m ≤ ys.length) (hm0 : 0 < m) (hm8 : m ≤ 8) (hby : Byt ys) :
    Calls Tryz.prog 93 #[.pointer (some ⟨k, 0, none⟩), .int .i64 m] w fun e w' => e = .returned (.int .i64 (wrap64 ((numB (ys.take m) : Nat) : Int))) ∧ RS w0 w' k (ys.drop m) ∧ ∃ v' q, w' = (w.setCell ⟨k, 0, none⟩ v').drewN q := by
 have H : Hid (Calls Tryz.prog 141 #[.pointer (some ⟨k, 0, none⟩), .int .i64 m] w fun e w' => ∃ b o c v', e = .returned (.slice (some ⟨b, o, none⟩) m c) ∧ b < w0.heap.size ∧ (∀ i, i < m → w0.cell? ⟨b, o + i, none⟩ = some (.int .u8 (ys.getD i 0))) ∧ RS w0 w' k (ys.drop m) ∧ w' = w.setCell ⟨k, 0, none⟩ v') := take_any w0 w k m ys h hm hm0
 have HBY : Hid (Byt ys) := hby
 have HM : Hid (m ≤ ys.length) := hm
 clear h hby hm
 go_enter Tryz.func93, Tryz.ntmps93
 go_wp2_with fail
 refine H.out.mono ?_
 rintro e w1 ⟨b, o, c, v', rfl, hb, hc, hr, hw⟩
 have HC : Hid (∀ i, i < m → w0.cell? ⟨b, o + i, none⟩ = some (.int .u8 (ys.getD i 0))) := hc
 have HR : Hid (RS w0 w1 k (ys.drop m)) := hr
 have HW : Hid (w1 = w.setCell ⟨k, 0, none⟩ v') := hw
 clear hc hr hw
 go_wp2
 go_loopw [5, 12] (fun vn vi wr => ∃ (i : Nat) (z : Int), i ≤ m ∧ vi = .int .i64 i ∧ vn = .int .i64 z ∧ Hid (z = wrap64 ((numB (ys.take i) : Nat) : Int)) ∧ ∃ q, wr = w1.drewN q) (fun _ i _ => m - (intOf i).toNat)
 case atStart => exact ⟨0, 0, Nat.zero_le _, rfl, rfl, (by show (0 : Int) = _; unfold wrap64; rw [List.take_zero, numB_nil]; rfl), 0, rfl⟩
 case round =>
  obtain ⟨i, z, hi, rfl, rfl, HZ, q, rfl⟩ := hrel
  by_cases hlt : i < m
  · have hI : (i : Int) < (m : Int) := by omega
    obtain ⟨x, hx, hxe⟩ := byt_at HBY.out i
    have c1 : w1.cell? ⟨b, o + i, none⟩ = some (.int .u8 (x : Int)) := by rw [HR.out.2.2.2.1.cell (p := ⟨b, o + i, none⟩) hb, HC.out i hlt, hxe]
    have HXE : Hid (ys.getD i 0 = (x : Int)) := hxe
    have hxI : (x : Int) < 256 := by omega
    clear hxe
    have HN : Hid (bits .or .i64 (wrap64 (z * 256)) (x : Int) = wrap64 ((numB (ys.take (i + 1)) : Nat) : Int)) := by
     show _ = _
     have ht : ys.take (i + 1) = ys.take i ++ [(x : Int)] := by
      have hl : i < ys.length := by have := HM.out; omega
      have he := HXE.out
      simp only [List.getD, List.getElem?_eq_getElem hl, Option.getD_some] at he
      rw [List.take_succ_eq_append_getElem hl, he]
     rw [ht, numB_snoc, HZ.out, wrap64_shl, i64_join _ _ hx, Int.toNat_natCast]
    go_wp2
    exact ⟨⟨i + 1, _, by omega, by go_num, rfl, HN, q, rfl⟩, by simp [intOf]; omega⟩
  · have him : i = m := by omega
    subst him
    have HRQ : Hid (RS w0 (w1.drewN q) k (ys.drop i)) := HR.out.drewN q
    have HWQ : Hid (∃ v' q', w1.drewN q = (w.setCell ⟨k, 0, none⟩ v').drewN q') := ⟨v', q, by rw [HW.out]⟩
    go_wp2
    go_ret
    exact ⟨ret_int HZ.out, HRQ.out, HWQ.out⟩
def rdT : List Int → Option (ByteArray × List Int)
 | [] => none
 | y :: r => if y.toNat ≤ r.length then some (strOfNums (r.take y.toNat), r.drop y.toNat) else none
def num4 (ys : List Int) (i : Nat) : Int := ((numB ((ys.drop (4 * i)).take 4) : Nat) : Int)
def rdNd (ys : List Int) : Option (Nd × List Int) :=
 match rdT ys with
 | none => none
 | some (p, r1) =>
  match rdT r1 with
  | none => none
  | some (d, r2) => if 20 ≤ r2.length then some (⟨p, d, num4 r2 0, num4 r2 1, num4 r2 2, num4 r2 3, num4 r2 4⟩, r2.drop 20) else none
theorem byt_drop {ys : List Int} (h : Byt ys) (n : Nat) : Byt (ys.drop n) := fun x hx => h x (List.mem_of_mem_drop hx)
theorem rdT_some {ys r : List Int} {s : ByteArray} (h : rdT ys = some (s, r)) : ∃ y t, ys = y :: t ∧ y.toNat ≤ t.length ∧ s = strOfNums (t.take y.toNat) ∧ r = t.drop y.toNat := by
 cases ys with
 | nil => simp [rdT] at h
 | cons y t =>
  simp only [rdT] at h
  by_cases hy : y.toNat ≤ t.length
  · rw [if_pos hy] at h
    simp only [Option.some.injEq, Prod.mk.injEq] at h
    exact ⟨y, t, rfl, hy, h.1.symm, h.2.symm⟩
  · rw [if_neg hy] at h; cases h
theorem rdT_byt {ys r : List Int} {s : ByteArray} (h : rdT ys = some (s, r)) (hb : Byt ys) : Byt r ∧ r.length < ys.length ∧ s.size < 256 := by
 obtain ⟨y, t, rfl, h1, rfl, rfl⟩ := rdT_some h
 refine ⟨fun x hx => hb x (List.mem_cons_of_mem _ (List.mem_of_mem_drop hx)), by simp; omega, ?_⟩
 have := hb y (by simp)
 rw [strOfNums_size, List.length_take]
 omega
theorem rdNd_byt {ys r : List Int} {n : Nd} (h : rdNd ys = some (n, r)) (hb : Byt ys) : Byt r ∧ r.length < ys.length ∧ n.path.size < 256 ∧ n.data.size < 256 := by
 unfold rdNd at h
 cases h1 : rdT ys with
 | none => rw [h1] at h; cases h
 | some q =>
  obtain ⟨p, r1⟩ := q
  rw [h1] at h
  simp only at h
  cases h2 : rdT r1 with
  | none => rw [h2] at h; cases h
  | some q2 =>
   obtain ⟨d, r2⟩ := q2
   rw [h2] at h
   simp only at h
   by_cases h3 : 20 ≤ r2.length
   · rw [if_pos h3] at h
     simp only [Option.some.injEq, Prod.mk.injEq] at h
     obtain ⟨rfl, rfl⟩ := h
     have b1 := rdT_byt h1 hb
     have b2 := rdT_byt h2 b1.1
     refine ⟨byt_drop b2.1 _, ?_, b1.2.2, b2.2.2⟩
     rw [List.length_drop]; omega
   · rw [if_neg h3] at h; cases h
theorem take_zero (w : World) (k n c : Nat) (ao : Option Addr) (h0 : w.cell? ⟨k, 0, none⟩ = some (.slice ao n c)) (hz : w.frozen? ⟨k, 0, none⟩ = false) :
    Calls Tryz.prog 141 #[.pointer (some ⟨k, 0, none⟩), .int .i64 0] w fun e w' => e = .returned (.slice ao 0 c) ∧ w' = w.setCell ⟨k, 0, none⟩ (.slice ao n c) := by
 have hI : ¬ (n : Int) < 0 := by omega
 go_enter Tryz.func141, Tryz.ntmps141
 cases ao with
 | none =>
  go_wp2
  go_ret
  exact ⟨rfl, rfl⟩
 | some a =>
  go_wp2
  go_ret
  exact ⟨rfl, rfl⟩
theorem take_gen (w0 w : World) (k m : Nat) (ys : List Int) (h : RS w0 w k ys) (hm : m ≤ ys.length) :
    Calls Tryz.prog 141 #[.pointer (some ⟨k, 0, none⟩), .int .i64 m] w fun e w' => ∃ v1, e = .returned v1 ∧ Rd .u8 w0 v1 (ys.take m) ∧ RS w0 w' k (ys.drop m) ∧ w.grownBy w' (some k) := by
 have h' := h
 obtain ⟨h1, h2, h3, h4, v, h5, h6⟩ := h
 have h6' := h6
 obtain ⟨ao, c, rfl, g1, g2, g3⟩ := h6
 by_cases hm0 : m = 0
 · subst hm0
   refine (take_zero w k ys.length c ao h5 h3).mono ?_
   rintro e w' ⟨rfl, rfl⟩
   refine ⟨_, rfl, ⟨ao, c, by simp, Nat.zero_le _, g2, .inl (List.take_zero)⟩, ?_, grownBy_set _ _ _ _ _ (World.grownBy.refl _ _)⟩
   rw [List.drop_zero]
   exact RS.set h' h6'
 · rcases g3 with rfl | ⟨b, o, rfl, hb, hc⟩
   · simp at hm; omega
   · refine (take_ok w k b o ys.length c m h5 h3 hm (by omega) g1).mono ?_
     rintro e w' ⟨rfl, o', ho', rfl⟩
     have hs := Rd.split h6' m hm (by omega)
     exact ⟨_, rfl, hs.1, RS.set h' (hs.2 o' ho'), grownBy_set _ _ _ _ _ (World.grownBy.refl _ _)⟩
theorem oneByte_any (w0 w : World) (k : Nat) (y : Int) (r : List Int) (h : RS w0 w k (y :: r)) :
    Calls Tryz.prog 142 #[.pointer (some ⟨k, 0, none⟩)] w fun e w' => e = .returned (.int .u8 y) ∧ RS w0 w' k r ∧ w.grownBy w' (some k) := by
 have H : Hid (Calls Tryz.prog 141 #[.pointer (some ⟨k, 0, none⟩), .int .i64 1] w fun e w' => ∃ b o c, e = .returned (.slice (some ⟨b, o, none⟩) 1 c) ∧ w'.cell? ⟨b, o, none⟩ = some (.int .u8 y) ∧ Hid (RS w0 w' k r) ∧ Hid (w.grownBy w' (some k))) := by
  refine (take_any w0 w k 1 (y :: r) h (by simp) (by omega)).mono ?_
  rintro e w' ⟨b, o, c, v', rfl, hb, hc, hr, rfl⟩
  have h0 := hc 0 (by omega)
  refine ⟨b, o, c, rfl, ?_, (by show RS _ _ _ _; simpa using hr), grownBy_set _ _ _ _ _ (World.grownBy.refl _ _)⟩
  rw [hr.2.2.2.1.cell (p := ⟨b, o, none⟩) hb]
  simpa using h0
 clear h
 go_enter Tryz.func142, Tryz.ntmps142
 go_wp2_with fail
 refine H.out.mono ?_
 rintro e w1 ⟨b, o, c, rfl, hc, hr, hg⟩
 go_wp2
 go_ret
 exact ⟨rfl, hr.out, hg.out⟩
theorem oneByte_none (w0 w : World) (k : Nat) (h : RS w0 w k []) :
    Calls Tryz.prog 142 #[.pointer (some ⟨k, 0, none⟩)] w fun e w' => e = .panicked badChain ∧ w' = w := by
 have H : Hid (Calls Tryz.prog 141 #[.pointer (some ⟨k, 0, none⟩), .int .i64 1] w fun e w' => e = .panicked badChain ∧ w' = w) := take_none w0 w k 1 [] h (by simp)
 clear h
 go_enter Tryz.func142, Tryz.ntmps142
 go_wp2_with fail
 refine H.out.mono ?_
 rintro e w1 ⟨rfl, rfl⟩
 exact ⟨rfl, rfl, rfl⟩
def TxPost (w0 w : World) (k : Nat) (ys : List Int) (e : Ending) (w' : World) : Prop :=
 w.grownBy w' (some k) ∧ ((rdT ys = none ∧ e = .panicked badChain) ∨ ∃ s r, rdT ys = some (s, r) ∧ e = .returned (.string s) ∧ RS w0 w' k r)
theorem text_any (w0 w : World) (k : Nat) (ys : List Int) (h : RS w0 w k ys) (hby : Byt ys) :
    Calls Tryz.prog 144 #[.pointer (some ⟨k, 0, none⟩)] w fun e w' => TxPost w0 w k ys e w' := by
 have HS : Hid (RS w0 w k ys) := h
 clear h
 go_enter Tryz.func144, Tryz.ntmps144
 go_wp2_with fail
 cases ys with
 | nil =>
  refine (oneByte_none w0 w k HS.out).mono ?_
  rintro e w1 ⟨rfl, rfl⟩
  exact ⟨rfl, World.grownBy.refl _ _, .inl ⟨rfl, rfl⟩⟩
 | cons y r =>
  have hy := hby y (by simp)
  obtain ⟨m, rfl⟩ : ∃ m : Nat, y = (m : Int) := ⟨y.toNat, by omega⟩
  have hm : m < 256 := by omega
  clear hby hy
  refine (oneByte_any w0 w k m r HS.out).mono ?_
  rintro e w1 ⟨rfl, r1, g1⟩
  have R1 : Hid (RS w0 w1 k r) := r1
  have G1 : Hid (w.grownBy w1 (some k)) := g1
  clear r1 g1 HS
  have hmI : (m : Int) < 256 := by omega
  go_wp2_with fail
  by_cases hl : m ≤ r.length
  · refine (take_gen w0 w1 k m r R1.out hl).mono ?_
    rintro e w2 ⟨v2, rfl, rd2, r2, g2⟩
    have hcv := conv_any (rd2.below r2.2.2.2.1)
    have HP : Hid (TxPost w0 w k ((m : Int) :: r) (.returned (.string (strOfNums (r.take m)))) w2) := by
     refine ⟨G1.out.trans g2, .inr ⟨_, _, ?_, rfl, r2⟩⟩
     simp only [rdT, Int.toNat_natCast]
     rw [if_pos hl]
    clear rd2 r2 g2 R1 G1
    go_wp2
    go_ret
    exact HP.out
  · refine (take_none w0 w1 k m r R1.out (by omega)).mono ?_
    rintro e w2 ⟨rfl, rfl⟩
    refine ⟨rfl, G1.out, .inl ⟨?_, rfl⟩⟩
    simp only [rdT, Int.toNat_natCast]
    rw [if_neg hl]
def stP (b p : Nat) : Value := .agg #[.pointer (some ⟨b, p + 2, none⟩), .pointer (some ⟨b, p + 3, none⟩), .pointer (some ⟨b, p + 4, none⟩), .pointer (some ⟨b, p + 5, none⟩), .pointer (some ⟨b, p + 6, none⟩)]
theorem stats_any (w : World) (b p : Nat) :
    Calls Tryz.prog 181 #[.pointer (some ⟨b, p, none⟩)] w fun e w' => e = .returned (stP b p) ∧ Below w.heap.size w w' := by
 go_enter Tryz.func181, Tryz.ntmps181
 go_wp2
 refine wp_region_held_drew (S := fun _ => True) (by kernel_rfl) (trivial) (fun hHeld => ?_)
 refine tkL9 (i := 0) (oi := ⟨some 3, _, _, _, _, _⟩) (v := (.pointer (some ⟨b, p, none⟩))) rfl (by kernel_rfl) (fun _ _ _ h => h) (by rfl) (by assumption) ?hy1 ?_
 case hy1 => intro w9 hS9; go_simp; try with_reducible rfl
 try simp only [Act.put, sT9, sZ9, sS9]
 refine tkL9 (i := 1) (oi := ⟨some 4, _, _, _, _, _⟩) (v := (.pointer (some ⟨b, p, none⟩))) rfl (by kernel_rfl) (fun _ _ _ h => h) (by rfl) (by assumption) ?hy2 ?_
 case hy2 => intro w9 hS9; go_simp; try with_reducible rfl
 try simp only [Act.put, sT9, sZ9, sS9]
 refine tkL9 (i := 2) (oi := ⟨some 5, _, _, _, _, _⟩) (v := (.pointer (some ⟨b, p, none⟩))) rfl (by kernel_rfl) (fun _ _ _ h => h) (by rfl) (by assumption) ?hy3 ?_
 case hy3 => intro w9 hS9; go_simp; try with_reducible rfl
 try simp only [Act.put, sT9, sZ9, sS9]
 refine tkL9 (i := 3) (oi := ⟨some 6, _, _, _, _, _⟩) (v := (.pointer (some ⟨b, p + 2, none⟩))) rfl (by kernel_rfl) (fun _ _ _ h => h) (by rfl) (by assumption) ?hy4 ?_
 case hy4 => intro w9 hS9; go_simp; try with_reducible rfl
 try simp only [Act.put, sT9, sZ9, sS9]
 refine tkL9 (i := 4) (oi := ⟨some 7, _, _, _, _, _⟩) (v := (.pointer (some ⟨b, p, none⟩))) rfl (by kernel_rfl) (fun _ _ _ h => h) (by rfl) (by assumption) ?hy5 ?_
 case hy5 => intro w9 hS9; go_simp; try with_reducible rfl
 try simp only [Act.put, sT9, sZ9, sS9]
 refine tkL9 (i := 5) (oi := ⟨some 8, _, _, _, _, _⟩) (v := (.pointer (some ⟨b, p, none⟩))) rfl (by kernel_rfl) (fun _ _ _ h => h) (by rfl) (by assumption) ?hy6 ?_
 case hy6 => intro w9 hS9; go_simp; try with_reducible rfl
 try simp only [Act.put, sT9, sZ9, sS9]
 refine tkL9 (i := 6) (oi := ⟨some 9, _, _, _, _, _⟩) (v := (.pointer (some ⟨b, p, none⟩))) rfl (by kernel_rfl) (fun _ _ _ h => h) (by rfl) (by assumption) ?hy7 ?_
 case hy7 => intro w9 hS9; go_simp; try with_reducible rfl
 try simp only [Act.put, sT9, sZ9, sS9]
 refine tkL9 (i := 7) (oi := ⟨some 10, _, _, _, _, _⟩) (v := (.pointer (some ⟨b, p + 3, none⟩))) rfl (by kernel_rfl) (fun _ _ _ h => h) (by rfl) (by assumption) ?hy8 ?_
 case hy8 => intro w9 hS9; go_simp; try with_reducible rfl
 try simp only [Act.put, sT9, sZ9, sS9]
 refine tkL9 (i := 8) (oi := ⟨some 11, _, _, _, _, _⟩) (v := (.pointer (some ⟨b, p, none⟩))) rfl (by kernel_rfl) (fun _ _ _ h => h) (by rfl) (by assumption) ?hy9 ?_
 case hy9 => intro w9 hS9; go_simp; try with_reducible rfl
 try simp only [Act.put, sT9, sZ9, sS9]
 refine tkL9 (i := 9) (oi := ⟨some 12, _, _, _, _, _⟩) (v := (.pointer (some ⟨b, p, none⟩))) rfl (by kernel_rfl) (fun _ _ _ h => h) (by rfl) (by assumption) ?hy10 ?_
 case hy10 => intro w9 hS9; go_simp; try with_reducible rfl
 try simp only [Act.put, sT9, sZ9, sS9]
 refine tkL9 (i := 10) (oi := ⟨some 13, _, _, _, _, _⟩) (v := (.pointer (some ⟨b, p, none⟩))) rfl (by kernel_rfl) (fun _ _ _ h => h) (by rfl) (by assumption) ?hy11 ?_
 case hy11 => intro w9 hS9; go_simp; try with_reducible rfl
 try simp only [Act.put, sT9, sZ9, sS9]
 refine tkL9 (i := 11) (oi := ⟨some 14, _, _, _, _, _⟩) (v := (.pointer (some ⟨b, p + 4, none⟩))) rfl (by kernel_rfl) (fun _ _ _ h => h) (by rfl) (by assumption) ?hy12 ?_
 case hy12 => intro w9 hS9; go_simp; try with_reducible rfl
 try simp only [Act.put, sT9, sZ9, sS9]
 refine tkL9 (i := 12) (oi := ⟨some 15, _, _, _, _, _⟩) (v := (.pointer (some ⟨b, p, none⟩))) rfl (by kernel_rfl) (fun _ _ _ h => h) (by rfl) (by assumption) ?hy13 ?_
 case hy13 => intro w9 hS9; go_simp; try with_reducible rfl
 try simp only [Act.put, sT9, sZ9, sS9]
 refine tkL9 (i := 13) (oi := ⟨some 16, _, _, _, _, _⟩) (v := (.pointer (some ⟨b, p, none⟩))) rfl (by kernel_rfl) (fun _ _ _ h => h) (by rfl) (by assumption) ?hy14 ?_
 case hy14 => intro w9 hS9; go_simp; try with_reducible rfl
 try simp only [Act.put, sT9, sZ9, sS9]
 refine tkL9 (i := 14) (oi := ⟨some 17, _, _, _, _, _⟩) (v := (.pointer (some ⟨b, p, none⟩))) rfl (by kernel_rfl) (fun _ _ _ h => h) (by rfl) (by assumption) ?hy15 ?_
 case hy15 => intro w9 hS9; go_simp; try with_reducible rfl
 try simp only [Act.put, sT9, sZ9, sS9]
 refine tkL9 (i := 15) (oi := ⟨some 18, _, _, _, _, _⟩) (v := (.pointer (some ⟨b, p + 5, none⟩))) rfl (by kernel_rfl) (fun _ _ _ h => h) (by rfl) (by assumption) ?hy16 ?_
 case hy16 => intro w9 hS9; go_simp; try with_reducible rfl
 try simp only [Act.put, sT9, sZ9, sS9]
 refine tkL9 (i := 16) (oi := ⟨some 19, _, _, _, _, _⟩) (v := (.pointer (some ⟨b, p, none⟩))) rfl (by kernel_rfl) (fun _ _ _ h => h) (by rfl) (by assumption) ?hy17 ?_
 case hy17 => intro w9 hS9; go_simp; try with_reducible rfl
 try simp only [Act.put, sT9, sZ9, sS9]
 refine tkL9 (i := 17) (oi := ⟨some 20, _, _, _, _, _⟩) (v := (.pointer (some ⟨b, p, none⟩))) rfl (by kernel_rfl) (fun _ _ _ h => h) (by rfl) (by assumption) ?hy18 ?_
 case hy18 => intro w9 hS9; go_simp; try with_reducible rfl
 try simp only [Act.put, sT9, sZ9, sS9]
 refine tkL9 (i := 18) (oi := ⟨some 21, _, _, _, _, _⟩) (v := (.pointer (some ⟨b, p, none⟩))) rfl (by kernel_rfl) (fun _ _ _ h => h) (by rfl) (by assumption) ?hy19 ?_
 case hy19 => intro w9 hS9; go_simp; try with_reducible rfl
 try simp only [Act.put, sT9, sZ9, sS9]
 refine tkL9 (i := 19) (oi := ⟨some 22, _, _, _, _, _⟩) (v := (.pointer (some ⟨b, p + 6, none⟩))) rfl (by kernel_rfl) (fun _ _ _ h => h) (by rfl) (by assumption) ?hy20 ?_
 case hy20 => intro w9 hS9; go_simp; try with_reducible rfl
 try simp only [Act.put, sT9, sZ9, sS9]
 refine tkL9 (i := 20) (oi := ⟨some 23, _, _, _, _, _⟩) (v := (stP b p)) rfl (by kernel_rfl) (fun _ _ _ h => h) (by rfl) (by assumption) ?hy21 ?_
 case hy21 =>
  intro w9 hS9
  go_simp
  rfl
 try simp only [Act.put, sT9, sZ9, sS9]
 refine wpAnyH_ready (rs := [21]) (by kernel_rfl) (by simp) ?_
 refine AllReadyH.cons (o := ⟨none, _, _, _, _, _⟩) rfl (fun K hK => ?_) AllReadyH.nil
 unfold stP
 go_simp
 refine hK.out _ _ trivial (fun hx9 => ?_)
 clear hK K hHeld hx9
 refine wpAnyH_done (by kernel_rfl) ?_ _
 go_wp2
 refine bodyPost_ret (v := stP b p) (by simp [results, Tryz.results181, go_sem, stP]) rfl ⟨rfl, ?_⟩
 exact ((Below.refl _ _).alloc (Nat.le_refl _) _).trans ((below_drewN' _ 1).mono (by simp))
theorem cell_of {w : World} {b : Nat} {A : Array Value} {t : TypeId} {f : Nat × Nat} (h : w.heap[b]? = some (.cells A t f)) (q : Nat) : w.cell? ⟨b, q, none⟩ = A[q]? := by simp [World.cell?, h]
theorem ix_0 (W : World) (b : Nat) : (Instr.index 244 (.agg #[.pointer (some ⟨b, 2, none⟩), .pointer (some ⟨b, 3, none⟩), .pointer (some ⟨b, 4, none⟩), .pointer (some ⟨b, 5, none⟩), .pointer (some ⟨b, 6, none⟩)]) (.int .i64 0)).run Tryz.prog W = .ok (.pointer (some ⟨b, 2, none⟩)) W := by kernel_rfl
theorem ix_1 (W : World) (b : Nat) : (Instr.index 244 (.agg #[.pointer (some ⟨b, 2, none⟩), .pointer (some ⟨b, 3, none⟩), .pointer (some ⟨b, 4, none⟩), .pointer (some ⟨b, 5, none⟩), .pointer (some ⟨b, 6, none⟩)]) (.int .i64 1)).run Tryz.prog W = .ok (.pointer (some ⟨b, 3, none⟩)) W := by kernel_rfl
theorem ix_2 (W : World) (b : Nat) : (Instr.index 244 (.agg #[.pointer (some ⟨b, 2, none⟩), .pointer (some ⟨b, 3, none⟩), .pointer (some ⟨b, 4, none⟩), .pointer (some ⟨b, 5, none⟩), .pointer (some ⟨b, 6, none⟩)]) (.int .i64 2)).run Tryz.prog W = .ok (.pointer (some ⟨b, 4, none⟩)) W := by kernel_rfl
theorem ix_3 (W : World) (b : Nat) : (Instr.index 244 (.agg #[.pointer (some ⟨b, 2, none⟩), .pointer (some ⟨b, 3, none⟩), .pointer (some ⟨b, 4, none⟩), .pointer (some ⟨b, 5, none⟩), .pointer (some ⟨b, 6, none⟩)]) (.int .i64 3)).run Tryz.prog W = .ok (.pointer (some ⟨b, 5, none⟩)) W := by kernel_rfl
theorem ix_4 (W : World) (b : Nat) : (Instr.index 244 (.agg #[.pointer (some ⟨b, 2, none⟩), .pointer (some ⟨b, 3, none⟩), .pointer (some ⟨b, 4, none⟩), .pointer (some ⟨b, 5, none⟩), .pointer (some ⟨b, 6, none⟩)]) (.int .i64 4)).run Tryz.prog W = .ok (.pointer (some ⟨b, 6, none⟩)) W := by kernel_rfl
theorem grown_of {w w' : World} (h : Below w.heap.size w w') (row : Option Nat) : w.grownBy w' row := ⟨h.os, h.tape, h.output, h.size, fun k hk _ => h.block k hk⟩
theorem grown_alloc (w : World) (o : Obj) (row : Option Nat) : w.grownBy (w.alloc o) row := grown_of ((Below.refl _ _).alloc (Nat.le_refl _) o) row
theorem grown_new {w W : World} {row : Option Nat} {B : Nat} (h : w.grownBy W row) (hB : w.heap.size ≤ B) (i : Nat) (u : Value) : w.grownBy (W.setCell ⟨B, i, none⟩ u) row :=
 ⟨h.os, h.tape, h.output, by simpa using h.size, fun k hk hne => by
  rw [← h.block k hk hne]
  exact Below.heap_setCell _ _ _ _ (by show k ≠ B; omega)⟩
def NB (W : World) (B : Nat) (n : Nd) : Prop := BoxN W B n ∧ ∀ j, W.frozen? ⟨B, j, none⟩ = false
theorem NB.turn {W W' : World} {B : Nat} {n : Nd} {row : Option Nat} (h : NB W B n) (hg : W.grownBy W' row) (hne : some B ≠ row) : NB W' B n := by
 have hb := hg.block B h.1.lt hne
 have e : ∀ q, W'.cell? ⟨B, q, none⟩ = W.cell? ⟨B, q, none⟩ := fun q => World.cell?_of_block (a := ⟨B, q, none⟩) hb
 refine ⟨⟨Nat.lt_of_lt_of_le h.1.lt hg.size, (e _).trans h.1.c0, (e _).trans h.1.c1, (e _).trans h.1.c2, (e _).trans h.1.c3, (e _).trans h.1.c4, (e _).trans h.1.c5, (e _).trans h.1.c6⟩, fun j => ?_⟩
 rw [World.frozen?_of_block (a := ⟨B, j, none⟩) hb]; exact h.2 j
theorem NB.other {W : World} {B B' : Nat} {n : Nd} (h : NB W B n) (hne : B ≠ B') (i : Nat) (u : Value) : NB (W.setCell ⟨B', i, none⟩ u) B n := by
 have e : ∀ q, (W.setCell ⟨B', i, none⟩ u).cell? ⟨B, q, none⟩ = W.cell? ⟨B, q, none⟩ := fun q => World.cell?_setCell_other _ _ _ _ (by intro e; injection e with e; omega)
 refine ⟨⟨by simpa using h.1.lt, (e _).trans h.1.c0, (e _).trans h.1.c1, (e _).trans h.1.c2, (e _).trans h.1.c3, (e _).trans h.1.c4, (e _).trans h.1.c5, (e _).trans h.1.c6⟩, fun j => ?_⟩
 rw [World.frozen?_setCell]; exact h.2 j
theorem NB.put0 {W : World} {B : Nat} {n : Nd} (h : NB W B n) (s : ByteArray) : NB (W.setCell ⟨B, 0, none⟩ (Value.string s)) B { n with path := s } := by
 have e : ∀ q, q ≠ 0 → (W.setCell ⟨B, 0, none⟩ (Value.string s)).cell? ⟨B, q, none⟩ = W.cell? ⟨B, q, none⟩ := fun q hq => World.cell?_setCell_other _ _ _ _ (by intro e; injection e with _ e; omega)
 refine ⟨⟨by simpa using h.1.lt, World.cell?_setCell_same _ _ _ h.1.c0, (e 1 (by omega)).trans h.1.c1, (e 2 (by omega)).trans h.1.c2, (e 3 (by omega)).trans h.1.c3, (e 4 (by omega)).trans h.1.c4, (e 5 (by omega)).trans h.1.c5, (e 6 (by omega)).trans h.1.c6⟩, fun j => ?_⟩
 rw [World.frozen?_setCell]; exact h.2 j
theorem NB.put1 {W : World} {B : Nat} {n : Nd} (h : NB W B n) (s : ByteArray) : NB (W.setCell ⟨B, 1, none⟩ (Value.string s)) B { n with data := s } := by
 have e : ∀ q, q ≠ 1 → (W.setCell ⟨B, 1, none⟩ (Value.string s)).cell? ⟨B, q, none⟩ = W.cell? ⟨B, q, none⟩ := fun q hq => World.cell?_setCell_other _ _ _ _ (by intro e; injection e with _ e; omega)
 refine ⟨⟨by simpa using h.1.lt, (e 0 (by omega)).trans h.1.c0, World.cell?_setCell_same _ _ _ h.1.c1, (e 2 (by omega)).trans h.1.c2, (e 3 (by omega)).trans h.1.c3, (e 4 (by omega)).trans h.1.c4, (e 5 (by omega)).trans h.1.c5, (e 6 (by omega)).trans h.1.c6⟩, fun j => ?_⟩
 rw [World.frozen?_setCell]; exact h.2 j
theorem NB.put2 {W : World} {B : Nat} {n : Nd} (h : NB W B n) (s : Int) : NB (W.setCell ⟨B, 2, none⟩ (Value.int .i64 s)) B { n with ver := s } := by
 have e : ∀ q, q ≠ 2 → (W.setCell ⟨B, 2, none⟩ (Value.int .i64 s)).cell? ⟨B, q, none⟩ = W.cell? ⟨B, q, none⟩ := fun q hq => World.cell?_setCell_other _ _ _ _ (by intro e; injection e with _ e; omega)
 refine ⟨⟨by simpa using h.1.lt, (e 0 (by omega)).trans h.1.c0, (e 1 (by omega)).trans h.1.c1, World.cell?_setCell_same _ _ _ h.1.c2, (e 3 (by omega)).trans h.1.c3, (e 4 (by omega)).trans h.1.c4, (e 5 (by omega)).trans h.1.c5, (e 6 (by omega)).trans h.1.c6⟩, fun j => ?_⟩
 rw [World.frozen?_setCell]; exact h.2 j
theorem NB.put3 {W : World} {B : Nat} {n : Nd} (h : NB W B n) (s : Int) : NB (W.setCell ⟨B, 3, none⟩ (Value.int .i64 s)) B { n with cver := s } := by
 have e : ∀ q, q ≠ 3 → (W.setCell ⟨B, 3, none⟩ (Value.int .i64 s)).cell? ⟨B, q, none⟩ = W.cell? ⟨B, q, none⟩ := fun q hq => World.cell?_setCell_other _ _ _ _ (by intro e; injection e with _ e; omega)
 refine ⟨⟨by simpa using h.1.lt, (e 0 (by omega)).trans h.1.c0, (e 1 (by omega)).trans h.1.c1, (e 2 (by omega)).trans h.1.c2, World.cell?_setCell_same _ _ _ h.1.c3, (e 4 (by omega)).trans h.1.c4, (e 5 (by omega)).trans h.1.c5, (e 6 (by omega)).trans h.1.c6⟩, fun j => ?_⟩
 rw [World.frozen?_setCell]; exact h.2 j
theorem NB.put4 {W : World} {B : Nat} {n : Nd} (h : NB W B n) (s : Int) : NB (W.setCell ⟨B, 4, none⟩ (Value.int .i64 s)) B { n with cz := s } := by
 have e : ∀ q, q ≠ 4 → (W.setCell ⟨B, 4, none⟩ (Value.int .i64 s)).cell? ⟨B, q, none⟩ = W.cell? ⟨B, q, none⟩ := fun q hq => World.cell?_setCell_other _ _ _ _ (by intro e; injection e with _ e; omega)
 refine ⟨⟨by simpa using h.1.lt, (e 0 (by omega)).trans h.1.c0, (e 1 (by omega)).trans h.1.c1, (e 2 (by omega)).trans h.1.c2, (e 3 (by omega)).trans h.1.c3, World.cell?_setCell_same _ _ _ h.1.c4, (e 5 (by omega)).trans h.1.c5, (e 6 (by omega)).trans h.1.c6⟩, fun j => ?_⟩
 rw [World.frozen?_setCell]; exact h.2 j
theorem NB.put5 {W : World} {B : Nat} {n : Nd} (h : NB W B n) (s : Int) : NB (W.setCell ⟨B, 5, none⟩ (Value.int .i64 s)) B { n with mz := s } := by
 have e : ∀ q, q ≠ 5 → (W.setCell ⟨B, 5, none⟩ (Value.int .i64 s)).cell? ⟨B, q, none⟩ = W.cell? ⟨B, q, none⟩ := fun q hq => World.cell?_setCell_other _ _ _ _ (by intro e; injection e with _ e; omega)
 refine ⟨⟨by simpa using h.1.lt, (e 0 (by omega)).trans h.1.c0, (e 1 (by omega)).trans h.1.c1, (e 2 (by omega)).trans h.1.c2, (e 3 (by omega)).trans h.1.c3, (e 4 (by omega)).trans h.1.c4, World.cell?_setCell_same _ _ _ h.1.c5, (e 6 (by omega)).trans h.1.c6⟩, fun j => ?_⟩
 rw [World.frozen?_setCell]; exact h.2 j
theorem NB.put6 {W : World} {B : Nat} {n : Nd} (h : NB W B n) (s : Int) : NB (W.setCell ⟨B, 6, none⟩ (Value.int .i64 s)) B { n with pz := s } := by
 have e : ∀ q, q ≠ 6 → (W.setCell ⟨B, 6, none⟩ (Value.int .i64 s)).cell? ⟨B, q, none⟩ = W.cell? ⟨B, q, none⟩ := fun q hq => World.cell?_setCell_other _ _ _ _ (by intro e; injection e with _ e; omega)
 refine ⟨⟨by simpa using h.1.lt, (e 0 (by omega)).trans h.1.c0, (e 1 (by omega)).trans h.1.c1, (e 2 (by omega)).trans h.1.c2, (e 3 (by omega)).trans h.1.c3, (e 4 (by omega)).trans h.1.c4, (e 5 (by omega)).trans h.1.c5, World.cell?_setCell_same _ _ _ h.1.c6⟩, fun j => ?_⟩
 rw [World.frozen?_setCell]; exact h.2 j
theorem NB.new (w : World) (n : Nd) (t : TypeId) : NB (w.alloc (.cells #[.string n.path, .string n.data, .int .i64 n.ver, .int .i64 n.cver, .int .i64 n.cz, .int .i64 n.mz, .int .i64 n.pz] t)) w.heap.size n := ⟨BoxN.new w n t, fun j => (by go_simp)⟩
theorem RS.new {w0 w w' : World} {k : Nat} {ys : List Int} (h : RS w0 w k ys) (hb : Below w.heap.size w w') : RS w0 w' k ys := h.keep hb h.2.1
theorem RS.setOther {w0 w : World} {k B : Nat} {ys : List Int} (h : RS w0 w k ys) (hB : k ≠ B) (h0 : w0.heap.size ≤ B) (i : Nat) (u : Value) : RS w0 (w.setCell ⟨B, i, none⟩ u) k ys := by
 obtain ⟨h1, h2, h3, h4, v, h5, h6⟩ := h
 refine ⟨h1, by simpa using h2, by rw [World.frozen?_setCell]; exact h3, h4.setCell h0 _, v, ?_, h6⟩
 rw [World.cell?_setCell_other _ _ _ _ (by intro e; injection e with e; omega)]; exact h5
theorem wrap4 {ys : List Int} (h : Byt ys) : wrap64 ((numB (ys.take 4) : Nat) : Int) = ((numB (ys.take 4) : Nat) : Int) := by
 have hb := (bigR_numB (ys.take 4).length (ys.take 4) rfl (fun x hx => h x (List.mem_of_mem_take hx))).2
 have h1 : 256 ^ (ys.take 4).length ≤ 256 ^ 4 := Nat.pow_le_pow_right (by omega) (by rw [List.length_take]; omega)
 have h2 : numB (ys.take 4) < 4294967296 := Nat.lt_of_lt_of_le hb h1
 unfold wrap64
 omega
def ndV (n : Nd) : Value := .agg #[.string n.path, .string n.data, .int .i64 n.ver, .int .i64 n.cver, .int .i64 n.cz, .int .i64 n.mz, .int .i64 n.pz]
def ndK (p d : ByteArray) (a : Nat → Int) (k : Nat) : Nd := ⟨p, d, if 0 < k then a 0 else 0, if 1 < k then a 1 else 0, if 2 < k then a 2 else 0, if 3 < k then a 3 else 0, if 4 < k then a 4 else 0⟩
def NdPost (w0 w : World) (k : Nat) (ys : List Int) (e : Ending) (w' : World) : Prop :=
 w.grownBy w' (some k) ∧ ((rdNd ys = none ∧ e = .panicked badChain) ∨ ∃ n r, rdNd ys = some (n, r) ∧ e = .returned (ndV n) ∧ RS w0 w' k r)
theorem nodeImage_any (w0 w : World) (k : Nat) (ys : List Int) (h : RS w0 w k ys) (hby : Byt ys) :
    Calls Tryz.prog 143 #[.pointer (some ⟨k, 0, none⟩)] w fun e w' => NdPost w0 w k ys e w' := by
 have hk := h.2.1
 have hk0 := h.1
 have HBY : Hid (Byt ys) := hby
 have HS : Hid (RS w0 w k ys) := h
 clear h hby
 have A1 : Hid (RS w0 ((w.alloc (.cells #[.string ⟨#[]⟩, .string ⟨#[]⟩, .int .i64 0, .int .i64 0, .int .i64 0, .int .i64 0, .int .i64 0] 155)).alloc (.cells #[.string ⟨#[]⟩, .string ⟨#[]⟩, .int .i64 0, .int .i64 0, .int .i64 0, .int .i64 0, .int .i64 0] 155)) k ys) := (HS.out.new ((Below.refl _ _).alloc (Nat.le_refl _) _)).new ((Below.refl _ _).alloc (Nat.le_refl _) _)
 have N2 : Hid (NB ((w.alloc (.cells #[.string ⟨#[]⟩, .string ⟨#[]⟩, .int .i64 0, .int .i64 0, .int .i64 0, .int .i64 0, .int .i64 0] 155)).alloc (.cells #[.string ⟨#[]⟩, .string ⟨#[]⟩, .int .i64 0, .int .i64 0, .int .i64 0, .int .i64 0, .int .i64 0] 155)) w.heap.size nd0) := (NB.new w nd0 _).turn (grown_alloc _ _ none) (by simp)
 have N3 : Hid (NB ((w.alloc (.cells #[.string ⟨#[]⟩, .string ⟨#[]⟩, .int .i64 0, .int .i64 0, .int .i64 0, .int .i64 0, .int .i64 0] 155)).alloc (.cells #[.string ⟨#[]⟩, .string ⟨#[]⟩, .int .i64 0, .int .i64 0, .int .i64 0, .int .i64 0, .int .i64 0] 155)) (w.heap.size + 1) nd0) := by
  have := NB.new (w.alloc (.cells #[.string ⟨#[]⟩, .string ⟨#[]⟩, .int .i64 0, .int .i64 0, .int .i64 0, .int .i64 0, .int .i64 0] 155)) nd0 155
  rw [show (w.alloc (.cells #[.string ⟨#[]⟩, .string ⟨#[]⟩, .int .i64 0, .int .i64 0, .int .i64 0, .int .i64 0, .int .i64 0] 155)).heap.size = w.heap.size + 1 by simp] at this
  exact this
 have G1 : Hid (w.grownBy ((w.alloc (.cells #[.string ⟨#[]⟩, .string ⟨#[]⟩, .int .i64 0, .int .i64 0, .int .i64 0, .int .i64 0, .int .i64 0] 155)).alloc (.cells #[.string ⟨#[]⟩, .string ⟨#[]⟩, .int .i64 0, .int .i64 0, .int .i64 0, .int .i64 0, .int .i64 0] 155)) (some k)) := (grown_alloc _ _ _).trans (grown_alloc _ _ _)
 go_enter Tryz.func143, Tryz.ntmps143
 go_wp2_with fail
 generalize ((w.alloc (.cells #[.string ⟨#[]⟩, .string ⟨#[]⟩, .int .i64 0, .int .i64 0, .int .i64 0, .int .i64 0, .int .i64 0] 155)).alloc (.cells #[.string ⟨#[]⟩, .string ⟨#[]⟩, .int .i64 0, .int .i64 0, .int .i64 0, .int .i64 0, .int .i64 0] 155)) = w1 at *
 refine (text_any w0 w1 k ys A1.out HBY.out).mono ?_
 rintro e w2 ⟨g2, hp⟩
 rcases hp with ⟨hp, rfl⟩ | ⟨p, r1, hp, rfl, hr2⟩
 · exact ⟨rfl, G1.out.trans g2, .inl ⟨by unfold rdNd; rw [hp], rfl⟩⟩
 have HP1 : Hid (rdT ys = some (p, r1)) := hp
 have HB1 : Hid (Byt r1) := (rdT_byt hp HBY.out).1
 have G2 := hd9 (G1.out.trans g2)
 have N22 := hd9 (N2.out.turn g2 (by simp; omega))
 have N32 := hd9 (N3.out.turn g2 (by simp; omega))
 have R2 : Hid (RS w0 w2 k r1) := hr2
 clear hp g2 hr2 N2 N3 A1 G1
 have d0 := N32.out.1.c0
 have f0 := N32.out.2 0
 have N33 : Hid (NB (w2.setCell ⟨w.heap.size + 1, 0, none⟩ (.string p)) (w.heap.size + 1) { nd0 with path := p }) := N32.out.put0 p
 have N23 : Hid (NB (w2.setCell ⟨w.heap.size + 1, 0, none⟩ (.string p)) w.heap.size nd0) := N22.out.other (by omega) _ _
 have R3 : Hid (RS w0 (w2.setCell ⟨w.heap.size + 1, 0, none⟩ (.string p)) k r1) := R2.out.setOther (by omega) (by omega) _ _
 have G3 : Hid (w.grownBy (w2.setCell ⟨w.heap.size + 1, 0, none⟩ (.string p)) (some k)) := grown_new G2.out (by omega) _ _
 go_wp2_with fail
 clear d0 f0 N32 N22 R2 G2
 generalize w2.setCell ⟨w.heap.size + 1, 0, none⟩ (.string p) = w3 at *
 refine (text_any w0 w3 k r1 R3.out HB1.out).mono ?_
 rintro e w4 ⟨g4, hp⟩
 rcases hp with ⟨hp, rfl⟩ | ⟨d, r2, hp, rfl, hr4⟩
 · refine ⟨rfl, G3.out.trans g4, .inl ⟨?_, rfl⟩⟩
   unfold rdNd; rw [HP1.out]; simp only; rw [hp]
 have HP2 : Hid (rdT r1 = some (d, r2)) := hp
 have HB2 : Hid (Byt r2) := (rdT_byt hp HB1.out).1
 have G4 := hd9 (G3.out.trans g4)
 have N24 := hd9 (N23.out.turn g4 (by simp; omega))
 have N34 := hd9 (N33.out.turn g4 (by simp; omega))
 have R4 : Hid (RS w0 w4 k r2) := hr4
 clear hp g4 hr4 N23 N33 R3 G3
 have d1 := N34.out.1.c1
 have f1 := N34.out.2 1
 have N35 : Hid (NB (w4.setCell ⟨w.heap.size + 1, 1, none⟩ (.string d)) (w.heap.size + 1) (ndK p d (num4 r2) 0)) := N34.out.put1 d
 have N25 : Hid (NB (w4.setCell ⟨w.heap.size + 1, 1, none⟩ (.string d)) w.heap.size nd0) := N24.out.other (by omega) _ _
 have R5 : Hid (RS w0 (w4.setCell ⟨w.heap.size + 1, 1, none⟩ (.string d)) k r2) := R4.out.setOther (by omega) (by omega) _ _
 have G5 : Hid (w.grownBy (w4.setCell ⟨w.heap.size + 1, 1, none⟩ (.string d)) (some k)) := grown_new G4.out (by omega) _ _
 go_wp2_with fail
 clear d1 f1 N34 N24 R4 G4
 generalize w4.setCell ⟨w.heap.size + 1, 1, none⟩ (.string d) = w5 at *
 refine (stats_any w5 (w.heap.size + 1) 0).mono ?_
 rintro e w6 ⟨rfl, b6⟩
 have G6 : Hid (w.grownBy w6 (some k)) := G5.out.trans (grown_of b6 _)
 have N26 := hd9 (N25.out.turn (grown_of b6 none) (by simp))
 have N36 := hd9 (N35.out.turn (grown_of b6 none) (by simp))
 have R6 : Hid (RS w0 w6 k (r2.drop (4 * 0))) := by show RS _ _ _ _; rw [Nat.mul_zero, List.drop_zero]; exact R5.out.new b6
 clear b6 N25 N35 R5 G5
 unfold stP
 go_wp2
 go_loopw [15] (fun vi wr => ∃ i : Nat, i ≤ 5 ∧ vi = .int .i64 i ∧ Hid (4 * i ≤ r2.length) ∧ Hid (w.grownBy wr (some k)) ∧ Hid (NB wr w.heap.size nd0) ∧ Hid (NB wr (w.heap.size + 1) (ndK p d (num4 r2) i)) ∧ Hid (RS w0 wr k (r2.drop (4 * i)))) (fun i _ => 5 - (intOf i).toNat)
 case atStart => exact ⟨0, by omega, rfl, Nat.zero_le _, G6, N26, N36, R6⟩
 case round =>
  obtain ⟨i, hi, rfl, HL, HG, HN2, HN3, HR⟩ := hrel
  have hl := HL.out
  rcases (show i = 0 ∨ i = 1 ∨ i = 2 ∨ i = 3 ∨ i = 4 ∨ i = 5 by omega) with rfl | rfl | rfl | rfl | rfl | rfl
  · have hix := fun W => ix_0 W (w.heap.size + 1)
    go_wp2_with fail
    clear hix
    by_cases hlt : 4 ≤ r2.length
    rotate_left
    · refine (number_none w0 wr k 4 _ HR.out (by rw [List.length_drop]; omega)).mono ?_
      rintro e w7 ⟨rfl, rfl⟩
      refine ⟨rfl, HG.out, .inl ⟨?_, rfl⟩⟩
      unfold rdNd; rw [HP1.out]; simp only; rw [HP2.out]; simp only; rw [if_neg (by omega)]
    refine (number_any w0 wr k 4 _ HR.out (by rw [List.length_drop]; omega) (by omega) (by omega) (byt_drop HB2.out _)).mono ?_
    rintro e w7 ⟨rfl, r7, v7, q7, rfl⟩
    rw [wrap4 (byt_drop HB2.out _)]
    have g7 : wr.grownBy ((wr.setCell ⟨k, 0, none⟩ v7).drewN q7) (some k) := (grownBy_set _ _ _ _ _ (World.grownBy.refl _ _)).trans (grown_of (below_drewN' _ q7) _)
    have HG7 : Hid (w.grownBy ((wr.setCell ⟨k, 0, none⟩ v7).drewN q7) (some k)) := HG.out.trans g7
    have N27 : Hid (NB ((wr.setCell ⟨k, 0, none⟩ v7).drewN q7) w.heap.size nd0) := HN2.out.turn g7 (by simp; omega)
    have N37 : Hid (NB ((wr.setCell ⟨k, 0, none⟩ v7).drewN q7) (w.heap.size + 1) (ndK p d (num4 r2) 0)) := HN3.out.turn g7 (by simp; omega)
    have R7 : Hid (RS w0 ((wr.setCell ⟨k, 0, none⟩ v7).drewN q7) k (r2.drop (4 * 1))) := by rw [List.drop_drop] at r7; exact r7
    clear r7 g7 HG HN2 HN3 HR HL
    generalize (wr.setCell ⟨k, 0, none⟩ v7).drewN q7 = w7 at *
    have d0 := N37.out.1.c2
    have f0 := N37.out.2 2
    have N38 : Hid (NB (w7.setCell ⟨w.heap.size + 1, 2, none⟩ (.int .i64 (num4 r2 0))) (w.heap.size + 1) (ndK p d (num4 r2) 1)) := N37.out.put2 (num4 r2 0)
    have N28 : Hid (NB (w7.setCell ⟨w.heap.size + 1, 2, none⟩ (.int .i64 (num4 r2 0))) w.heap.size nd0) := N27.out.other (by omega) _ _
    have R8 : Hid (RS w0 (w7.setCell ⟨w.heap.size + 1, 2, none⟩ (.int .i64 (num4 r2 0))) k (r2.drop (4 * 1))) := R7.out.setOther (by omega) (by omega) _ _
    have G8 : Hid (w.grownBy (w7.setCell ⟨w.heap.size + 1, 2, none⟩ (.int .i64 (num4 r2 0))) (some k)) := grown_new HG7.out (by omega) _ _
    go_wp2
    exact ⟨⟨1, by omega, rfl, by show 4 * 1 ≤ _; omega, G8, N28, N38, R8⟩, by simp [intOf]⟩
  · have hix := fun W => ix_1 W (w.heap.size + 1)
    go_wp2_with fail
    clear hix
    by_cases hlt : 8 ≤ r2.length
    rotate_left
    · refine (number_none w0 wr k 4 _ HR.out (by rw [List.length_drop]; omega)).mono ?_
      rintro e w7 ⟨rfl, rfl⟩
      refine ⟨rfl, HG.out, .inl ⟨?_, rfl⟩⟩
      unfold rdNd; rw [HP1.out]; simp only; rw [HP2.out]; simp only; rw [if_neg (by omega)]
    refine (number_any w0 wr k 4 _ HR.out (by rw [List.length_drop]; omega) (by omega) (by omega) (byt_drop HB2.out _)).mono ?_
    rintro e w7 ⟨rfl, r7, v7, q7, rfl⟩
    rw [wrap4 (byt_drop HB2.out _)]
    have g7 : wr.grownBy ((wr.setCell ⟨k, 0, none⟩ v7).drewN q7) (some k) := (grownBy_set _ _ _ _ _ (World.grownBy.refl _ _)).trans (grown_of (below_drewN' _ q7) _)
    have HG7 : Hid (w.grownBy ((wr.setCell ⟨k, 0, none⟩ v7).drewN q7) (some k)) := HG.out.trans g7
    have N27 : Hid (NB ((wr.setCell ⟨k, 0, none⟩ v7).drewN q7) w.heap.size nd0) := HN2.out.turn g7 (by simp; omega)
    have N37 : Hid (NB ((wr.setCell ⟨k, 0, none⟩ v7).drewN q7) (w.heap.size + 1) (ndK p d (num4 r2) 1)) := HN3.out.turn g7 (by simp; omega)
    have R7 : Hid (RS w0 ((wr.setCell ⟨k, 0, none⟩ v7).drewN q7) k (r2.drop (4 * 2))) := by rw [List.drop_drop] at r7; exact r7
    clear r7 g7 HG HN2 HN3 HR HL
    generalize (wr.setCell ⟨k, 0, none⟩ v7).drewN q7 = w7 at *
    have d0 := N37.out.1.c3
    have f0 := N37.out.2 3
    have N38 : Hid (NB (w7.setCell ⟨w.heap.size + 1, 3, none⟩ (.int .i64 (num4 r2 1))) (w.heap.size + 1) (ndK p d (num4 r2) 2)) := N37.out.put3 (num4 r2 1)
    have N28 : Hid (NB (w7.setCell ⟨w.heap.size + 1, 3, none⟩ (.int .i64 (num4 r2 1))) w.heap.size nd0) := N27.out.other (by omega) _ _
    have R8 : Hid (RS w0 (w7.setCell ⟨w.heap.size + 1, 3, none⟩ (.int .i64 (num4 r2 1))) k (r2.drop (4 * 2))) := R7.out.setOther (by omega) (by omega) _ _
    have G8 : Hid (w.grownBy (w7.setCell ⟨w.heap.size + 1, 3, none⟩ (.int .i64 (num4 r2 1))) (some k)) := grown_new HG7.out (by omega) _ _
    go_wp2
    exact ⟨⟨2, by omega, rfl, by show 4 * 2 ≤ _; omega, G8, N28, N38, R8⟩, by simp [intOf]⟩
  · have hix := fun W => ix_2 W (w.heap.size + 1)
    go_wp2_with fail
    clear hix
    by_cases hlt : 12 ≤ r2.length
    rotate_left
    · refine (number_none w0 wr k 4 _ HR.out (by rw [List.length_drop]; omega)).mono ?_
      rintro e w7 ⟨rfl, rfl⟩
      refine ⟨rfl, HG.out, .inl ⟨?_, rfl⟩⟩
      unfold rdNd; rw [HP1.out]; simp only; rw [HP2.out]; simp only; rw [if_neg (by omega)]
    refine (number_any w0 wr k 4 _ HR.out (by rw [List.length_drop]; omega) (by omega) (by omega) (byt_drop HB2.out _)).mono ?_
    rintro e w7 ⟨rfl, r7, v7, q7, rfl⟩
    rw [wrap4 (byt_drop HB2.out _)]
    have g7 : wr.grownBy ((wr.setCell ⟨k, 0, none⟩ v7).drewN q7) (some k) := (grownBy_set _ _ _ _ _ (World.grownBy.refl _ _)).trans (grown_of (below_drewN' _ q7) _)
    have HG7 : Hid (w.grownBy ((wr.setCell ⟨k, 0, none⟩ v7).drewN q7) (some k)) := HG.out.trans g7
    have N27 : Hid (NB ((wr.setCell ⟨k, 0, none⟩ v7).drewN q7) w.heap.size nd0) := HN2.out.turn g7 (by simp; omega)
    have N37 : Hid (NB ((wr.setCell ⟨k, 0, none⟩ v7).drewN q7) (w.heap.size + 1) (ndK p d (num4 r2) 2)) := HN3.out.turn g7 (by simp; omega)
    have R7 : Hid (RS w0 ((wr.setCell ⟨k, 0, none⟩ v7).drewN q7) k (r2.drop (4 * 3))) := by rw [List.drop_drop] at r7; exact r7
    clear r7 g7 HG HN2 HN3 HR HL
    generalize (wr.setCell ⟨k, 0, none⟩ v7).drewN q7 = w7 at *
    have d0 := N37.out.1.c4
    have f0 := N37.out.2 4
    have N38 : Hid (NB (w7.setCell ⟨w.heap.size + 1, 4, none⟩ (.int .i64 (num4 r2 2))) (w.heap.size + 1) (ndK p d (num4 r2) 3)) := N37.out.put4 (num4 r2 2)
    have N28 : Hid (NB (w7.setCell ⟨w.heap.size + 1, 4, none⟩ (.int .i64 (num4 r2 2))) w.heap.size nd0) := N27.out.other (by omega) _ _
    have R8 : Hid (RS w0 (w7.setCell ⟨w.heap.size + 1, 4, none⟩ (.int .i64 (num4 r2 2))) k (r2.drop (4 * 3))) := R7.out.setOther (by omega) (by omega) _ _
    have G8 : Hid (w.grownBy (w7.setCell ⟨w.heap.size + 1, 4, none⟩ (.int .i64 (num4 r2 2))) (some k)) := grown_new HG7.out (by omega) _ _
    go_wp2
    exact ⟨⟨3, by omega, rfl, by show 4 * 3 ≤ _; omega, G8, N28, N38, R8⟩, by simp [intOf]⟩
  · have hix := fun W => ix_3 W (w.heap.size + 1)
    go_wp2_with fail
    clear hix
    by_cases hlt : 16 ≤ r2.length
    rotate_left
    · refine (number_none w0 wr k 4 _ HR.out (by rw [List.length_drop]; omega)).mono ?_
      rintro e w7 ⟨rfl, rfl⟩
      refine ⟨rfl, HG.out, .inl ⟨?_, rfl⟩⟩
      unfold rdNd; rw [HP1.out]; simp only; rw [HP2.out]; simp only; rw [if_neg (by omega)]
    refine (number_any w0 wr k 4 _ HR.out (by rw [List.length_drop]; omega) (by omega) (by omega) (byt_drop HB2.out _)).mono ?_
    rintro e w7 ⟨rfl, r7, v7, q7, rfl⟩
    rw [wrap4 (byt_drop HB2.out _)]
    have g7 : wr.grownBy ((wr.setCell ⟨k, 0, none⟩ v7).drewN q7) (some k) := (grownBy_set _ _ _ _ _ (World.grownBy.refl _ _)).trans (grown_of (below_drewN' _ q7) _)
    have HG7 : Hid (w.grownBy ((wr.setCell ⟨k, 0, none⟩ v7).drewN q7) (some k)) := HG.out.trans g7
    have N27 : Hid (NB ((wr.setCell ⟨k, 0, none⟩ v7).drewN q7) w.heap.size nd0) := HN2.out.turn g7 (by simp; omega)
    have N37 : Hid (NB ((wr.setCell ⟨k, 0, none⟩ v7).drewN q7) (w.heap.size + 1) (ndK p d (num4 r2) 3)) := HN3.out.turn g7 (by simp; omega)
    have R7 : Hid (RS w0 ((wr.setCell ⟨k, 0, none⟩ v7).drewN q7) k (r2.drop (4 * 4))) := by rw [List.drop_drop] at r7; exact r7
    clear r7 g7 HG HN2 HN3 HR HL
    generalize (wr.setCell ⟨k, 0, none⟩ v7).drewN q7 = w7 at *
    have d0 := N37.out.1.c5
    have f0 := N37.out.2 5
    have N38 : Hid (NB (w7.setCell ⟨w.heap.size + 1, 5, none⟩ (.int .i64 (num4 r2 3))) (w.heap.size + 1) (ndK p d (num4 r2) 4)) := N37.out.put5 (num4 r2 3)
    have N28 : Hid (NB (w7.setCell ⟨w.heap.size + 1, 5, none⟩ (.int .i64 (num4 r2 3))) w.heap.size nd0) := N27.out.other (by omega) _ _
    have R8 : Hid (RS w0 (w7.setCell ⟨w.heap.size + 1, 5, none⟩ (.int .i64 (num4 r2 3))) k (r2.drop (4 * 4))) := R7.out.setOther (by omega) (by omega) _ _
    have G8 : Hid (w.grownBy (w7.setCell ⟨w.heap.size + 1, 5, none⟩ (.int .i64 (num4 r2 3))) (some k)) := grown_new HG7.out (by omega) _ _
    go_wp2
    exact ⟨⟨4, by omega, rfl, by show 4 * 4 ≤ _; omega, G8, N28, N38, R8⟩, by simp [intOf]⟩
  · have hix := fun W => ix_4 W (w.heap.size + 1)
    go_wp2_with fail
    clear hix
    by_cases hlt : 20 ≤ r2.length
    rotate_left
    · refine (number_none w0 wr k 4 _ HR.out (by rw [List.length_drop]; omega)).mono ?_
      rintro e w7 ⟨rfl, rfl⟩
      refine ⟨rfl, HG.out, .inl ⟨?_, rfl⟩⟩
      unfold rdNd; rw [HP1.out]; simp only; rw [HP2.out]; simp only; rw [if_neg (by omega)]
    refine (number_any w0 wr k 4 _ HR.out (by rw [List.length_drop]; omega) (by omega) (by omega) (byt_drop HB2.out _)).mono ?_
    rintro e w7 ⟨rfl, r7, v7, q7, rfl⟩
    rw [wrap4 (byt_drop HB2.out _)]
    have g7 : wr.grownBy ((wr.setCell ⟨k, 0, none⟩ v7).drewN q7) (some k) := (grownBy_set _ _ _ _ _ (World.grownBy.refl _ _)).trans (grown_of (below_drewN' _ q7) _)
    have HG7 : Hid (w.grownBy ((wr.setCell ⟨k, 0, none⟩ v7).drewN q7) (some k)) := HG.out.trans g7
    have N27 : Hid (NB ((wr.setCell ⟨k, 0, none⟩ v7).drewN q7) w.heap.size nd0) := HN2.out.turn g7 (by simp; omega)
    have N37 : Hid (NB ((wr.setCell ⟨k, 0, none⟩ v7).drewN q7) (w.heap.size + 1) (ndK p d (num4 r2) 4)) := HN3.out.turn g7 (by simp; omega)
    have R7 : Hid (RS w0 ((wr.setCell ⟨k, 0, none⟩ v7).drewN q7) k (r2.drop (4 * 5))) := by rw [List.drop_drop] at r7; exact r7
    clear r7 g7 HG HN2 HN3 HR HL
    generalize (wr.setCell ⟨k, 0, none⟩ v7).drewN q7 = w7 at *
    have d0 := N37.out.1.c6
    have f0 := N37.out.2 6
    have N38 : Hid (NB (w7.setCell ⟨w.heap.size + 1, 6, none⟩ (.int .i64 (num4 r2 4))) (w.heap.size + 1) (ndK p d (num4 r2) 5)) := N37.out.put6 (num4 r2 4)
    have N28 : Hid (NB (w7.setCell ⟨w.heap.size + 1, 6, none⟩ (.int .i64 (num4 r2 4))) w.heap.size nd0) := N27.out.other (by omega) _ _
    have R8 : Hid (RS w0 (w7.setCell ⟨w.heap.size + 1, 6, none⟩ (.int .i64 (num4 r2 4))) k (r2.drop (4 * 5))) := R7.out.setOther (by omega) (by omega) _ _
    have G8 : Hid (w.grownBy (w7.setCell ⟨w.heap.size + 1, 6, none⟩ (.int .i64 (num4 r2 4))) (some k)) := grown_new HG7.out (by omega) _ _
    go_wp2
    exact ⟨⟨5, by omega, rfl, by show 4 * 5 ≤ _; omega, G8, N28, N38, R8⟩, by simp [intOf]⟩
  · obtain ⟨⟨-, y0, y1, y2, y3, y4, y5, y6⟩, -⟩ := HN3.out
    obtain ⟨⟨-, x0, x1, x2, x3, x4, x5, x6⟩, xf⟩ := HN2.out
    have hl20 : 20 ≤ r2.length := by omega
    have HRD : Hid (rdNd ys = some (ndK p d (num4 r2) 5, r2.drop 20)) := by
     show _ = _
     unfold rdNd; rw [HP1.out]; simp only; rw [HP2.out]; simp only; rw [if_pos hl20]
     rfl
    obtain ⟨nn, hnn⟩ : ∃ nn, nn = ndK p d (num4 r2) 5 := ⟨_, rfl⟩
    rw [← hnn] at y0 y1 y2 y3 y4 y5 y6 HRD
    clear hnn
    go_wp2
    refine bodyPost_ret (v := ndV nn) (by simp [results, Tryz.results143, go_sem, ndV, x0, x1, x2, x3, x4, x5, x6]) rfl ⟨?_, .inr ⟨nn, r2.drop 20, HRD.out, rfl, ?_⟩⟩
    · iterate 7 refine grown_new ?_ (Nat.le_refl _) _ _
      exact HG.out
    · iterate 7 refine RS.setOther ?_ (by omega) (by omega) _ _
      exact HR.out
theorem assert_bad (W : World) (v : Value) : (Instr.typeAssert (.iface 204 v) 20 204 true).run Tryz.prog W = .ok (.tuple #[v, .bool true]) W := by kernel_rfl
theorem end_nil (w : World) : Calls Tryz.prog 92 #[.nilIface] w fun e w' => e = .returned (.tuple #[]) ∧ w' = w := by
 go_enter Tryz.func92, Tryz.ntmps92
 go_wp2
 exact bodyPost_ret (results_none rfl _ _ _) rfl ⟨rfl, rfl⟩
theorem end_bad (w : World) : Calls Tryz.prog 92 #[.iface 204 (.agg #[])] w fun e w' => e = .returned (.tuple #[]) ∧ Below w.heap.size w w' := by
 have ha : ∀ (W : World) (v : Value), (Instr.typeAssert (.iface 204 v) 20 204 true).run Tryz.prog W = .ok (.tuple #[v, .bool true]) W := fun W v => assert_bad W v
 go_enter Tryz.func92, Tryz.ntmps92
 go_wp2
 go_end0
 exact ⟨rfl, (Below.refl _ _).alloc (Nat.le_refl _) _⟩
theorem catchX_bad (older : List PanicEntry) (w : World) :
    CallsD Tryz.prog 91 #[] (.panicking ({ v := .iface 204 (.agg #[]), recovered := false } :: older)) w fun e u' w' =>
     e = .returned (.tuple #[]) ∧ u' = .panicking ({ v := .iface 204 (.agg #[]), recovered := true } :: older) ∧ Below w.heap.size w w' := by
 refine callsD_of_wpS Tryz.func91 rfl fun c₀ cs hu => ?_
 apply wpS_region
 simp [wpOpsS, go_sem, recoverD, hu, Tryz.ntmps91]
 refine (end_bad w).mono ?_
 rintro e w' ⟨rfl, bw⟩
 simp_all [bodyPostS, results, Tryz.results91]
theorem catchX_idle (w : World) :
    CallsD Tryz.prog 91 #[] .returning w fun e u' w' => e = .returned (.tuple #[]) ∧ u' = .returning ∧ w' = w := by
 refine callsD_of_wpS Tryz.func91 rfl fun c₀ cs hu => ?_
 apply wpS_region
 simp [wpOpsS, go_sem, recoverD, hu, Tryz.ntmps91]
 refine (end_nil w).mono ?_
 rintro e w' ⟨rfl, rfl⟩
 cases c₀
 simp_all [bodyPostS, results, Tryz.results91]
def B1 (W : World) (k : Nat) (v : Value) : Prop := k < W.heap.size ∧ W.cell? ⟨k, 0, none⟩ = some v ∧ W.frozen? ⟨k, 0, none⟩ = false
theorem nrow_one (ns : List Nd) (n : Nd) : nrow (ns ++ [n]) = nrow ns ++ ndL n := by rw [nrow_append]; simp [nrow]
theorem ndL_cells (w : World) (n : Nd) (t : TypeId) : ∀ j u, (ndL n)[j]? = some u → (w.alloc (.cells #[.string n.path, .string n.data, .int .i64 n.ver, .int .i64 n.cver, .int .i64 n.cz, .int .i64 n.mz, .int .i64 n.pz] t)).cell? ((⟨w.heap.size, 0, none⟩ : Addr).add j) = some u := by
 intro j u hj
 rw [Addr.add_lit, Nat.zero_add, cell_of (heap_alloc_new w _) j, ← hj]
 simp [ndL]
theorem ndL_one (n : Nd) : ∀ u ∈ ndL n, u.oneCell' = true := by
 intro u hu
 simp only [ndL, List.mem_cons, List.mem_nil_iff, or_false] at hu
 rcases hu with rfl | rfl | rfl | rfl | rfl | rfl | rfl <;> rfl
theorem done_any (w0 w : World) (k : Nat) (ys : List Int) (h : RS w0 w k ys) :
    Calls Tryz.prog 96 #[.pointer (some ⟨k, 0, none⟩)] w fun e w' => e = .returned (.bool (decide (ys = []))) ∧ w' = w := by
 obtain ⟨-, -, -, -, v, h5, h6⟩ := h
 obtain ⟨ao, c, rfl, -⟩ := h6
 by_cases hy : ys = []
 · subst hy
   have h0 : ((List.length ([] : List Int) : Int) == 0) = true := rfl
   go_enter Tryz.func96, Tryz.ntmps96
   go_wp2
   go_ret
   exact ⟨rfl, rfl⟩
 · have hl : 0 < ys.length := List.length_pos_iff.2 hy
   have h0 : ((ys.length : Int) == 0) = false := beq_eq_false_iff_ne.2 (by omega)
   rw [decide_eq_false hy]
   go_enter Tryz.func96, Tryz.ntmps96
   go_wp2
   go_ret
   exact ⟨rfl, rfl⟩
theorem hmf (fn : Fn) (first cap : Array Value) (w : World) : (Instr.makeFunc fn first cap).run Tryz.prog w = .ok (.func fn first cap) w := rfl
theorem RS.turn {w0 W W' : World} {k : Nat} {r : List Int} {row : Option Nat} (h : RS w0 W k r) (hg : W.grownBy W' row) (hne : some k ≠ row) (hlo : ∀ g, row = some g → w0.heap.size ≤ g) : RS w0 W' k r := by
 obtain ⟨h1, h2, h3, h4, v, h5, h6⟩ := h
 have hb := hg.block k h2 hne
 exact ⟨h1, Nat.lt_of_lt_of_le h2 hg.size, (World.frozen?_of_block (a := ⟨k, 0, none⟩) hb).trans h3, h4.grown hg h4.size hlo, v, (World.cell?_of_block (a := ⟨k, 0, none⟩) hb).trans h5, h6⟩
end Go.Proofs.YtcopcegamadkgaaGreatDoor
namespace Go.Proofs.YtcopcegamadkgaaGreatDoor
open Go.RowKit Go.Shelf
def woN (ns : List Nd) (p : ByteArray) : List Nd := ns.filter fun n => !(n.path.toList == p.toList)
theorem woN_yes (ns : List Nd) (p : ByteArray) (k : Nat) (h : k < ns.length) (hc : ((nAt ns k).path.toList == p.toList) = true) : woN (ns.take (k + 1)) p = woN (ns.take k) p := by
 unfold woN
 rw [List.take_succ_eq_append_getElem h, List.filter_append, ← nAt_get h]
 simp [hc]
theorem woN_no (ns : List Nd) (p : ByteArray) (k : Nat) (h : k < ns.length) (hc : ((nAt ns k).path.toList == p.toList) = false) : woN (ns.take (k + 1)) p = woN (ns.take k) p ++ [nAt ns k] := by
 unfold woN
 rw [List.take_succ_eq_append_getElem h, List.filter_append, ← nAt_get h]
 simp [hc]
theorem woN_len (ns : List Nd) (p : ByteArray) : (woN ns p).length ≤ ns.length := List.length_filter_le _ _
theorem without_any (w : World) (v : Value) (ns : List Nd) (p : ByteArray) (h : RdN w v ns) (hn : ns.length ≤ 1000000) :
    Calls Tryz.prog 30 #[v, .string p] w fun e w' => ∃ v', e = .returned v' ∧ OwnN 85 w' w.heap.size v' (woN ns p) ∧ Below w.heap.size w w' := by
 obtain ⟨i0, hi, hz0, hz1, hz2⟩ := info_parts Tryz.infoN
 obtain ⟨ao, ca, rfl, _, _⟩ := h.len
 have HR : Hid (RdN w (.slice ao ns.length ca) ns) := h
 have O0 : Hid (OwnN 85 (w.alloc (.cells #[] 85)) w.heap.size (.slice (some ⟨w.heap.size, 0, none⟩) 0 0) (woN (ns.take 0) p)) := World.ownsRow_lit w #[] 0 (Nat.le_refl _) (Nat.zero_le _) rfl
 have B0 : Hid (Below w.heap.size w (w.alloc (.cells #[] 85))) := (Below.refl _ _).alloc (Nat.le_refl _) _
 generalize hnn : ns.length = n at *
 have HP : Hid (ns.length = n) := hnn
 clear h hnn
 go_enter Tryz.func30, Tryz.ntmps30
 go_wp2
 go_loopw [5, 6] (fun vo vk wr => ∃ k : Nat, k ≤ n ∧ vk = .int .i64 k ∧ Hid (OwnN 85 wr w.heap.size vo (woN (ns.take k) p)) ∧ Hid (Below w.heap.size w wr)) (fun _ i _ => n - (intOf i).toNat)
 case atStart => exact ⟨0, Nat.zero_le _, rfl, O0, B0⟩
 case round =>
  obtain ⟨k, hk, rfl, HW, HB⟩ := hrel
  have sB := HB.out.size
  by_cases hlt : k < n
  · have hltI : (k : Int) < (n : Int) := by omega
    obtain ⟨b, o, hao, hb, hc⟩ : ∃ b o, ao = some ⟨b, o, none⟩ ∧ b < w.heap.size ∧ CellsN w b (o + k * 7) (nAt ns k) := by
     obtain ⟨ao', cap', e', -, -, h3⟩ := HR.out
     simp only [Value.slice.injEq] at e'
     obtain ⟨rfl, -, -⟩ := e'
     rcases h3 with h3 | ⟨b, o, rfl, hb, hc⟩
     · have := HP.out; rw [h3] at this; simp at this; omega
     · exact ⟨b, o, rfl, hb, hc k (by rw [HP.out]; exact hlt)⟩
    subst hao
    obtain ⟨c0, c1, c2, c3, c4, c5, c6⟩ := hc.below HB.out hb
    clear hc
    have hll : (woN (ns.take k) p).length ≤ 1000000 := by
     have := woN_len (ns.take k) p
     rw [List.length_take] at this
     omega
    cases hA : ((nAt ns k).path.toList == p.toList) with
    | true =>
     have HS : Hid (woN (ns.take (k + 1)) p = woN (ns.take k) p) := woN_yes ns p k (by rw [HP.out]; exact hlt) hA
     go_wp2
     exact ⟨⟨k + 1, by omega, by go_num, (by rw [HS.out]; exact HW), HB⟩, by simp [intOf]; omega⟩
    | false =>
     have HS : Hid (woN (ns.take (k + 1)) p = woN (ns.take k) p ++ [nAt ns k]) := woN_no ns p k (by rw [HP.out]; exact hlt) hA
     generalize woN (ns.take k) p = Lk at *
     generalize nAt ns k = m at *
     have OR : Hid (wr.ownsRow w.heap.size 85 7 u5 Lk.length (nrow Lk)) := HW.out
     go_wp2_with (at_builtin; go_must (refine wpList_append_own _ rfl _ _ 23 rfl w.heap.size 85 i0 (.agg #[.string ByteArray.empty, .string ByteArray.empty, .int .i64 0, .int .i64 0, .int .i64 0, .int .i64 0, .int .i64 0]) 7 72 Tryz.underlying23 hi hz0 hz1 hz2 rfl (by decide) _ _ _ rfl (OR.out.alloc _) ⟨wr.heap.size, 0, none⟩ 1 1 (ndL m) rfl rfl (ndL_cells wr m _) (ndL_one m) ?_ ?_ ?_ ?_))
     · unfold maxLen; omega
     · omega
     · simp; omega
     intro v5 w5 ho5 hg5 _
     have O5 : Hid (OwnN 85 w5 w.heap.size v5 (woN (ns.take (k + 1)) p)) := by
      rw [HS.out]
      unfold OwnN
      rw [List.length_append, nrow_one]
      exact ho5
     have B5 : Hid (Below w.heap.size w w5) := (HB.out.alloc sB _).grown hg5 (by simp; omega) (fun q hq => (World.ownsRow.lt OR.out q hq).1)
     clear ho5 hg5 OR HW HB HS c0 c1 c2 c3 c4 c5 c6
     go_wp2
     exact ⟨⟨k + 1, by omega, by go_num, O5, B5⟩, by simp [intOf]; omega⟩
  · have hkn : k = n := by omega
    subst hkn
    go_wp2
    go_ret
    refine ⟨_, rfl, ?_, HB.out⟩
    have := HW.out
    rw [List.take_of_length_le (by rw [HP.out]; exact Nat.le_refl _)] at this
    exact this
end Go.Proofs.YtcopcegamadkgaaGreatDoor


