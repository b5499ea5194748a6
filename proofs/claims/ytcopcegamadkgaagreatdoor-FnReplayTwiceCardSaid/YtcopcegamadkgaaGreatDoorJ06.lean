import Derived.Test.YtcopcegamadkgaaGreatDoorJ05
import Derived.Test.YtcopcegamadkgaaGreatDoorJ03
import Derived.Test.YtcopcegamadkgaaGreatDoorChecked
import Derived.Test.YtcopcegamadkgaaGreatDoorJ01
import Derived.Deep.QuietTactic
import Derived.BigQuiet
import Derived.Deep.RegionWith
import Derived.Test.YtcopcegamadkgaaGreatDoorJ02
import Derived.Test.YtcopcegamadkgaaGreatDoorJ04
set_option maxRecDepth 100000
set_option maxHeartbeats 16000000
namespace Go.Proofs.YtcopcegamadkgaaGreatDoor
open Go.RowKit
theorem specTxn_row (w : World) (z : Int) (b o n cap : Nat) (ns : List Ef) (hz1 : ¬ z < 1) (hz2 : ¬ 2147483647 < z) (hp : ns.length = n) (hn : n ≤ 1000) (hb : b < w.heap.size) (hsz : ∀ i, (eAt ns i).nd.path.size ≤ 1048576 ∧ (eAt ns i).nd.data.size ≤ 1048576)
    (hc : ∀ i, i < n → CellsE w b (o + i * 8) (eAt ns i)) :
    Calls Tryz.prog 86 #[.agg #[.int .i64 z, .slice (some ⟨b, o, none⟩) n cap]] w fun e w' => e = .returned (.bool (okEs ns)) ∧ Below w.heap.size w w' := by
 have HC : Hid (∀ i, i < n → CellsE w b (o + i * 8) (eAt ns i)) := hc
 have HP : Hid (ns.length = n) := hp
 have HZ : Hid (∀ i, (eAt ns i).nd.path.size ≤ 1048576 ∧ (eAt ns i).nd.data.size ≤ 1048576) := hsz
 have h1I : ¬ (1000 : Int) < (n : Int) := by omega
 clear hc hp hsz
 have B0 : Hid (Below w.heap.size w (w.alloc (.cells #[.int .i64 z, .slice (some ⟨b, o, none⟩) n cap] 78))) := (Below.refl _ _).alloc (Nat.le_refl _) _
 have c01 : Hid ((w.alloc (.cells #[.int .i64 z, .slice (some ⟨b, o, none⟩) n cap] 78)).cell? ⟨w.heap.size, 1, none⟩ = some (.slice (some ⟨b, o, none⟩) n cap)) := by show _ = _; simp
 have z0 : w.heap.size < (w.alloc (.cells #[.int .i64 z, .slice (some ⟨b, o, none⟩) n cap] 78)).heap.size := by simp
 go_enter Tryz.func86, Tryz.ntmps86
 go_wp2
 generalize w.alloc (.cells #[.int .i64 z, .slice (some ⟨b, o, none⟩) n cap] 78) = w0 at *
 go_loopw [3] (fun i wr => ∃ k : Nat, k ≤ n ∧ i = .int .i64 k ∧ Hid (∀ t, t < k → okEAt ns t = true) ∧ Hid (Below w0.heap.size w0 wr)) (fun i _ => n - (intOf i).toNat)
 case atStart => exact ⟨0, Nat.zero_le _, rfl, (fun t ht => by omega), Below.refl _ _⟩
 case round =>
  obtain ⟨k, hk, rfl, HA, HG⟩ := hrel
  have HG0 := hd9 (B0.out.trans (HG.out.mono (by omega)))
  have cT := (HG.out.cell (p := ⟨w.heap.size, 1, none⟩) z0).trans c01.out
  by_cases hlt : k < n
  · have hltI : (k : Int) < (n : Int) := by omega
    have g0 : (0 : Int) ≤ (k : Int) := by omega
    have HLT : Hid (k < ns.length) := by rw [HP.out]; exact hlt
    obtain ⟨c0, c1, c2, c3, c4, c5, c6, c7⟩ := (HC.out k hlt).below HG0.out hb
    have XN : Hid (BoxE (wr.alloc (.cells #[.bool (eAt ns k).del, .string (eAt ns k).nd.path, .string (eAt ns k).nd.data, .int .i64 (eAt ns k).nd.ver, .int .i64 (eAt ns k).nd.cver, .int .i64 (eAt ns k).nd.cz, .int .i64 (eAt ns k).nd.mz, .int .i64 (eAt ns k).nd.pz] 139)) wr.heap.size (eAt ns k)) := BoxE.new _ _ _
    have BN : Hid (Below wr.heap.size wr (wr.alloc (.cells #[.bool (eAt ns k).del, .string (eAt ns k).nd.path, .string (eAt ns k).nd.data, .int .i64 (eAt ns k).nd.ver, .int .i64 (eAt ns k).nd.cver, .int .i64 (eAt ns k).nd.cz, .int .i64 (eAt ns k).nd.mz, .int .i64 (eAt ns k).nd.pz] 139))) := (Below.refl _ _).alloc (Nat.le_refl _) _
    go_wp2
    clear c0 c1 c2 c3 c4 c5 c6 c7 cT
    generalize wr.alloc (.cells #[.bool (eAt ns k).del, .string (eAt ns k).nd.path, .string (eAt ns k).nd.data, .int .i64 (eAt ns k).nd.ver, .int .i64 (eAt ns k).nd.cver, .int .i64 (eAt ns k).nd.cz, .int .i64 (eAt ns k).nd.mz, .int .i64 (eAt ns k).nd.pz] 139) = wn at *
    have zr := HG.out.size
    obtain ⟨B, hB⟩ : ∃ B, B = wr.heap.size := ⟨_, rfl⟩
    rw [← hB] at XN
    rw [← hB]
    have HBn : Hid (∀ W, Below wn.heap.size wn W → Below w.heap.size w W) := fun W hW => (HG0.out.trans (BN.out.mono HG0.out.size)).trans (hW.mono (Nat.le_trans HG0.out.size BN.out.size))
    have HBz : Hid (∀ W, Below wn.heap.size wn W → Hid (Below w0.heap.size w0 W)) := fun W hW => (HG.out.trans (BN.out.mono HG.out.size)).trans (hW.mono (Nat.le_trans HG.out.size BN.out.size))
    have CT : Hid (∀ W, Below wn.heap.size wn W → W.cell? ⟨w.heap.size, 1, none⟩ = some (.slice (some ⟨b, o, none⟩) n cap)) := fun W hW => ((HBz.out W hW).out.cell (p := ⟨w.heap.size, 1, none⟩) z0).trans c01.out
    have HE : Hid (∀ q, Calls Tryz.prog 99 #[.agg #[.string (eAt ns k).nd.path, .string (eAt ns k).nd.data, .int .i64 (eAt ns k).nd.ver, .int .i64 (eAt ns k).nd.cver, .int .i64 (eAt ns k).nd.cz, .int .i64 (eAt ns k).nd.mz, .int .i64 (eAt ns k).nd.pz]] (wn.drewN q) fun e w' => e = .returned (.bool (okNd (eAt ns k).nd)) ∧ Hid (Below wn.heap.size wn w')) := by
     intro q
     refine (specNode_any _ (eAt ns k).nd (HZ.out k).1 (HZ.out k).2).mono ?_
     rintro e w' ⟨rfl, b'⟩
     exact ⟨rfl, (below_drewN' wn q).trans b'⟩
    have HD : Hid (Below wn.heap.size wn wn.drew) := below_drewN' wn 1
    have HHB : Hid (B = wr.heap.size) := hB
    clear hB BN
    cases hok : okNd (eAt ns k).nd with
    | false =>
     have HOK : Hid (okNd (eAt ns k).nd = false) := hok
     have HN : Hid (okEs ns = false) := es_no HLT.out (by unfold okEAt; rw [okEf_nd hok]; rfl)
     clear hok
     refine wp_region_held_drew (S := fun W => Hid (Below wn.heap.size wn W) ∧ (W.cell? ⟨B, 0, none⟩ = some (.bool (eAt ns k).del) ∧ W.cell? ⟨B, 1, none⟩ = some (.string (eAt ns k).nd.path) ∧ W.cell? ⟨B, 2, none⟩ = some (.string (eAt ns k).nd.data) ∧ W.cell? ⟨B, 3, none⟩ = some (.int .i64 (eAt ns k).nd.ver) ∧ W.cell? ⟨B, 4, none⟩ = some (.int .i64 (eAt ns k).nd.cver) ∧ W.cell? ⟨B, 5, none⟩ = some (.int .i64 (eAt ns k).nd.cz) ∧ W.cell? ⟨B, 6, none⟩ = some (.int .i64 (eAt ns k).nd.mz) ∧ W.cell? ⟨B, 7, none⟩ = some (.int .i64 (eAt ns k).nd.pz))) (by kernel_rfl) (⟨HD, (XN.out.below HD.out).all⟩) (fun hHeld => ?_)
     refine tkL9 (i := 0) (oi := ⟨some 31, _, _, _, _, _⟩) (v := ?v53) rfl (by kernel_rfl) (fun _ _ _ h => h) (by rfl) (by assumption) ?hy53 ?_
     case hy53 => intro w9 hS9; obtain ⟨-, hS9⟩ := hS9; go_simp; try with_reducible rfl
     try simp only [Act.put, sT9, sZ9, sS9]
     refine tkL9 (i := 1) (oi := ⟨some 32, _, _, _, _, _⟩) (v := ?v54) rfl (by kernel_rfl) (fun _ _ _ h => h) (by rfl) (by assumption) ?hy54 ?_
     case hy54 => intro w9 hS9; obtain ⟨-, hS9⟩ := hS9; go_simp; try with_reducible rfl
     try simp only [Act.put, sT9, sZ9, sS9]
     refine wpAnyH_ready (rs := [2]) (by kernel_rfl) (by simp) ?_
     refine AllReadyH.cons (o := ⟨some 33, _, _, _, _, _⟩) rfl (fun K hK => ?_) AllReadyH.nil
     go_simp
     refine (HE.out 1).mono ?_
     rintro e w' ⟨rfl, HB⟩
     rw [HOK.out]
     refine hK.out _ _ (⟨HB, (XN.out.below HB.out).all⟩) (fun hx9 => ?_)
     clear hK K hHeld
     have hHeld := hx9
     clear hx9
     try simp only [Act.put, sT9, sZ9, sS9]
     refine tkL9 (i := 3) (oi := ⟨some 34, _, _, _, _, _⟩) (v := ?v55) rfl (by kernel_rfl) (fun _ _ _ h => h) (by rfl) (by assumption) ?hy55 ?_
     case hy55 => intro w9 hS9; obtain ⟨-, hS9⟩ := hS9; go_simp; try with_reducible rfl
     try simp only [Act.put, sT9, sZ9, sS9]
     refine tkL9 (i := 4) (oi := ⟨some 35, _, _, _, _, _⟩) (v := ?v56) rfl (by kernel_rfl) (fun _ _ _ h => h) (by rfl) (by assumption) ?hy56 ?_
     case hy56 => intro w9 hS9; obtain ⟨-, hS9⟩ := hS9; go_simp; try with_reducible rfl
     try simp only [Act.put, sT9, sZ9, sS9]
     refine tkR9 (i := 5) (oi := ⟨some 36, _, _, _, _, _⟩) rfl (by kernel_rfl) (fun _ _ _ h => h) (by rfl) (by assumption) ?_
     try simp only [Act.put, sT9, sZ9, sS9]
     refine tkR9 (i := 6) (oi := ⟨some 37, _, _, _, _, _⟩) rfl (by kernel_rfl) (fun _ _ _ h => h) (by rfl) (by assumption) ?_
     try simp only [Act.put, sT9, sZ9, sS9]
     refine tkR9 (i := 7) (oi := ⟨some 38, _, _, _, _, _⟩) rfl (by kernel_rfl) (fun _ _ _ h => h) (by rfl) (by assumption) ?_
     try simp only [Act.put, sT9, sZ9, sS9]
     refine tkR9 (i := 8) (oi := ⟨some 39, _, _, _, _, _⟩) rfl (by kernel_rfl) (fun _ _ _ h => h) (by rfl) (by assumption) ?_
     try simp only [Act.put, sT9, sZ9, sS9]
     refine tkR9 (i := 9) (oi := ⟨some 40, _, _, _, _, _⟩) rfl (by kernel_rfl) (fun _ _ _ h => h) (by rfl) (by assumption) ?_
     try simp only [Act.put, sT9, sZ9, sS9]
     refine tkR9 (i := 10) (oi := ⟨some 41, _, _, _, _, _⟩) rfl (by kernel_rfl) (fun _ _ _ h => h) (by rfl) (by assumption) ?_
     try simp only [Act.put, sT9, sZ9, sS9]
     refine tkR9 (i := 11) (oi := ⟨some 42, _, _, _, _, _⟩) rfl (by kernel_rfl) (fun _ _ _ h => h) (by rfl) (by assumption) ?_
     try simp only [Act.put, sT9, sZ9, sS9]
     refine tkR9 (i := 12) (oi := ⟨some 43, _, _, _, _, _⟩) rfl (by kernel_rfl) (fun _ _ _ h => h) (by rfl) (by assumption) ?_
     try simp only [Act.put, sT9, sZ9, sS9]
     refine tkR9 (i := 13) (oi := ⟨some 44, _, _, _, _, _⟩) rfl (by kernel_rfl) (fun _ _ _ h => h) (by rfl) (by assumption) ?_
     try simp only [Act.put, sT9, sZ9, sS9]
     refine tkR9 (i := 14) (oi := ⟨some 45, _, _, _, _, _⟩) rfl (by kernel_rfl) (fun _ _ _ h => h) (by rfl) (by assumption) ?_
     try simp only [Act.put, sT9, sZ9, sS9]
     refine tkR9 (i := 15) (oi := ⟨some 46, _, _, _, _, _⟩) rfl (by kernel_rfl) (fun _ _ _ h => h) (by rfl) (by assumption) ?_
     try simp only [Act.put, sT9, sZ9, sS9]
     refine tkR9 (i := 16) (oi := ⟨some 47, _, _, _, _, _⟩) rfl (by kernel_rfl) (fun _ _ _ h => h) (by rfl) (by assumption) ?_
     try simp only [Act.put, sT9, sZ9, sS9]
     refine tkR9 (i := 17) (oi := ⟨some 48, _, _, _, _, _⟩) rfl (by kernel_rfl) (fun _ _ _ h => h) (by rfl) (by assumption) ?_
     try simp only [Act.put, sT9, sZ9, sS9]
     refine tkR9 (i := 18) (oi := ⟨some 49, _, _, _, _, _⟩) rfl (by kernel_rfl) (fun _ _ _ h => h) (by rfl) (by assumption) ?_
     try simp only [Act.put, sT9, sZ9, sS9]
     refine tkR9 (i := 19) (oi := ⟨some 50, _, _, _, _, _⟩) rfl (by kernel_rfl) (fun _ _ _ h => h) (by rfl) (by assumption) ?_
     try simp only [Act.put, sT9, sZ9, sS9]
     refine tkR9 (i := 20) (oi := ⟨some 51, _, _, _, _, _⟩) rfl (by kernel_rfl) (fun _ _ _ h => h) (by rfl) (by assumption) ?_
     try simp only [Act.put, sT9, sZ9, sS9]
     refine tkL9 (i := 21) (oi := ⟨some 52, _, _, _, _, _⟩) (v := ?v57) rfl (by kernel_rfl) (fun _ _ _ h => h) (by rfl) (by assumption) ?hy57 ?_
     case hy57 => intro w9 hS9; obtain ⟨-, hS9⟩ := hS9; go_simp; try with_reducible rfl
     try simp only [Act.put, sT9, sZ9, sS9]
     refine wpAnyH_done (by kernel_rfl) ?_ _
     clear hHeld
     go_wp2
     go_ret
     exact ⟨ret_b HN.out.symm, HBn.out _ HB.out⟩
    | true =>
     have HOK : Hid (okNd (eAt ns k).nd = true) := hok
     clear hok
     cases k with
     | zero =>
      have g2 : (0 : Int) < (n : Int) := by omega
      refine wp_region_held_drew (S := fun W => Hid (Below wn.heap.size wn W) ∧ (W.cell? ⟨B, 0, none⟩ = some (.bool (eAt ns 0).del) ∧ W.cell? ⟨B, 1, none⟩ = some (.string (eAt ns 0).nd.path) ∧ W.cell? ⟨B, 2, none⟩ = some (.string (eAt ns 0).nd.data) ∧ W.cell? ⟨B, 3, none⟩ = some (.int .i64 (eAt ns 0).nd.ver) ∧ W.cell? ⟨B, 4, none⟩ = some (.int .i64 (eAt ns 0).nd.cver) ∧ W.cell? ⟨B, 5, none⟩ = some (.int .i64 (eAt ns 0).nd.cz) ∧ W.cell? ⟨B, 6, none⟩ = some (.int .i64 (eAt ns 0).nd.mz) ∧ W.cell? ⟨B, 7, none⟩ = some (.int .i64 (eAt ns 0).nd.pz))) (by kernel_rfl) (⟨HD, (XN.out.below HD.out).all⟩) (fun hHeld => ?_)
      refine tkL9 (i := 0) (oi := ⟨some 31, _, _, _, _, _⟩) (v := ?v58) rfl (by kernel_rfl) (fun _ _ _ h => h) (by rfl) (by assumption) ?hy58 ?_
      case hy58 => intro w9 hS9; obtain ⟨-, hS9⟩ := hS9; go_simp; try with_reducible rfl
      try simp only [Act.put, sT9, sZ9, sS9]
      refine tkL9 (i := 1) (oi := ⟨some 32, _, _, _, _, _⟩) (v := ?v59) rfl (by kernel_rfl) (fun _ _ _ h => h) (by rfl) (by assumption) ?hy59 ?_
      case hy59 => intro w9 hS9; obtain ⟨-, hS9⟩ := hS9; go_simp; try with_reducible rfl
      try simp only [Act.put, sT9, sZ9, sS9]
      refine wpAnyH_ready (rs := [2]) (by kernel_rfl) (by simp) ?_
      refine AllReadyH.cons (o := ⟨some 33, _, _, _, _, _⟩) rfl (fun K hK => ?_) AllReadyH.nil
      go_simp
      refine (HE.out 1).mono ?_
      rintro e w' ⟨rfl, HB⟩
      rw [HOK.out]
      refine hK.out _ _ (⟨HB, (XN.out.below HB.out).all⟩) (fun hx9 => ?_)
      clear hK K hHeld
      have hHeld := hx9
      clear hx9
      try simp only [Act.put, sT9, sZ9, sS9]
      refine tkL9 (i := 3) (oi := ⟨some 34, _, _, _, _, _⟩) (v := ?v60) rfl (by kernel_rfl) (fun _ _ _ h => h) (by rfl) (by assumption) ?hy60 ?_
      case hy60 => intro w9 hS9; obtain ⟨-, hS9⟩ := hS9; go_simp; try with_reducible rfl
      try simp only [Act.put, sT9, sZ9, sS9]
      refine tkL9 (i := 4) (oi := ⟨some 35, _, _, _, _, _⟩) (v := ?v61) rfl (by kernel_rfl) (fun _ _ _ h => h) (by rfl) (by assumption) ?hy61 ?_
      case hy61 => intro w9 hS9; obtain ⟨-, hS9⟩ := hS9; go_simp; try with_reducible rfl
      try simp only [Act.put, sT9, sZ9, sS9]
      refine tkL9 (i := 5) (oi := ⟨some 36, _, _, _, _, _⟩) (v := ?v62) rfl (by kernel_rfl) (fun _ _ _ h => h) (by rfl) (by assumption) ?hy62 ?_
      case hy62 => intro w9 hS9; obtain ⟨-, hS9⟩ := hS9; go_simp; try with_reducible rfl
      try simp only [Act.put, sT9, sZ9, sS9]
      refine tkL9 (i := 6) (oi := ⟨some 37, _, _, _, _, _⟩) (v := ?v63) rfl (by kernel_rfl) (fun _ _ _ h => h) (by rfl) (by assumption) ?hy63 ?_
      case hy63 => intro w9 hS9; obtain ⟨-, hS9⟩ := hS9; go_simp; try with_reducible rfl
      try simp only [Act.put, sT9, sZ9, sS9]
      refine tkL9 (i := 7) (oi := ⟨some 38, _, _, _, _, _⟩) (v := ?v64) rfl (by kernel_rfl) (fun _ _ _ h => h) (by rfl) (by assumption) ?hy64 ?_
      case hy64 => intro w9 hS9; obtain ⟨-, hS9⟩ := hS9; go_simp; try with_reducible rfl
      try simp only [Act.put, sT9, sZ9, sS9]
      refine tkR9 (i := 8) (oi := ⟨some 39, _, _, _, _, _⟩) rfl (by kernel_rfl) (fun _ _ _ h => h) (by rfl) (by assumption) ?_
      try simp only [Act.put, sT9, sZ9, sS9]
      refine tkR9 (i := 9) (oi := ⟨some 40, _, _, _, _, _⟩) rfl (by kernel_rfl) (fun _ _ _ h => h) (by rfl) (by assumption) ?_
      try simp only [Act.put, sT9, sZ9, sS9]
      refine tkR9 (i := 10) (oi := ⟨some 41, _, _, _, _, _⟩) rfl (by kernel_rfl) (fun _ _ _ h => h) (by rfl) (by assumption) ?_
      try simp only [Act.put, sT9, sZ9, sS9]
      refine tkR9 (i := 11) (oi := ⟨some 42, _, _, _, _, _⟩) rfl (by kernel_rfl) (fun _ _ _ h => h) (by rfl) (by assumption) ?_
      try simp only [Act.put, sT9, sZ9, sS9]
      refine tkR9 (i := 12) (oi := ⟨some 43, _, _, _, _, _⟩) rfl (by kernel_rfl) (fun _ _ _ h => h) (by rfl) (by assumption) ?_
      try simp only [Act.put, sT9, sZ9, sS9]
      refine tkR9 (i := 13) (oi := ⟨some 44, _, _, _, _, _⟩) rfl (by kernel_rfl) (fun _ _ _ h => h) (by rfl) (by assumption) ?_
      try simp only [Act.put, sT9, sZ9, sS9]
      refine tkR9 (i := 14) (oi := ⟨some 45, _, _, _, _, _⟩) rfl (by kernel_rfl) (fun _ _ _ h => h) (by rfl) (by assumption) ?_
      try simp only [Act.put, sT9, sZ9, sS9]
      refine tkR9 (i := 15) (oi := ⟨some 46, _, _, _, _, _⟩) rfl (by kernel_rfl) (fun _ _ _ h => h) (by rfl) (by assumption) ?_
      try simp only [Act.put, sT9, sZ9, sS9]
      refine tkR9 (i := 16) (oi := ⟨some 47, _, _, _, _, _⟩) rfl (by kernel_rfl) (fun _ _ _ h => h) (by rfl) (by assumption) ?_
      try simp only [Act.put, sT9, sZ9, sS9]
      refine tkR9 (i := 17) (oi := ⟨some 48, _, _, _, _, _⟩) rfl (by kernel_rfl) (fun _ _ _ h => h) (by rfl) (by assumption) ?_
      try simp only [Act.put, sT9, sZ9, sS9]
      refine tkR9 (i := 18) (oi := ⟨some 49, _, _, _, _, _⟩) rfl (by kernel_rfl) (fun _ _ _ h => h) (by rfl) (by assumption) ?_
      try simp only [Act.put, sT9, sZ9, sS9]
      refine tkR9 (i := 19) (oi := ⟨some 50, _, _, _, _, _⟩) rfl (by kernel_rfl) (fun _ _ _ h => h) (by rfl) (by assumption) ?_
      try simp only [Act.put, sT9, sZ9, sS9]
      refine tkL9 (i := 20) (oi := ⟨some 51, _, _, _, _, _⟩) (v := ?v65) rfl (by kernel_rfl) (fun _ _ _ h => h) (by rfl) (by assumption) ?hy65 ?_
      case hy65 => intro w9 hS9; obtain ⟨-, hS9⟩ := hS9; go_simp; try with_reducible rfl
      try simp only [Act.put, sT9, sZ9, sS9]
      refine tkL9 (i := 21) (oi := ⟨some 52, _, _, _, _, _⟩) (v := ?v66) rfl (by kernel_rfl) (fun _ _ _ h => h) (by rfl) (by assumption) ?hy66 ?_
      case hy66 => intro w9 hS9; obtain ⟨-, hS9⟩ := hS9; go_simp; try with_reducible rfl
      try simp only [Act.put, sT9, sZ9, sS9]
      refine wpAnyH_done (by kernel_rfl) ?_ _
      clear hHeld
      obtain ⟨-, b0, b1, b2, b3, b4, b5, b6, b7⟩ := XN.out.below HB.out
      cases hdel : (eAt ns 0).del with
      | false =>
       have HT : Hid (okEAt ns 0 = true) := by show _ = _; rw [okEAt_zero, okEf_false hdel, HOK.out]
       rw [hdel] at b0
       clear hdel
       go_wp2
       go_roundw
       case rel => exact ⟨0 + 1, by omega, by go_num, (fun t ht => by by_cases e : t = 0; (subst e; exact HT.out); exact HA.out t (by omega)), HBz.out _ HB.out⟩
       case measure => simp [intOf]; omega
      | true =>
       have HEF : Hid (okEf (eAt ns 0) = (okNd (eAt ns 0).nd && blank (eAt ns 0).nd)) := okEf_true hdel
       rw [hdel] at b0
       clear hdel
       have hpp : ((eAt ns 0).nd.path.toList == (eAt ns 0).nd.path.toList) = true := by simp
       cases h_dat : ((eAt ns 0).nd.data.toList == []) with
       | false =>
        have HN : Hid (okEs ns = false) := es_no HLT.out (by rw [okEAt_zero, HEF.out]; unfold blank; rw [h_dat]; simp)
        go_wp2
        go_ret
        exact ⟨ret_b HN.out.symm, HBn.out _ HB.out⟩
       | true =>
        cases h_ver : ((eAt ns 0).nd.ver == 0) with
        | false =>
         have HN : Hid (okEs ns = false) := es_no HLT.out (by rw [okEAt_zero, HEF.out]; unfold blank; rw [h_ver]; simp)
         go_wp2
         go_ret
         exact ⟨ret_b HN.out.symm, HBn.out _ HB.out⟩
        | true =>
         cases h_cver : ((eAt ns 0).nd.cver == 0) with
         | false =>
          have HN : Hid (okEs ns = false) := es_no HLT.out (by rw [okEAt_zero, HEF.out]; unfold blank; rw [h_cver]; simp)
          go_wp2
          go_ret
          exact ⟨ret_b HN.out.symm, HBn.out _ HB.out⟩
         | true =>
          cases h_cz : ((eAt ns 0).nd.cz == 0) with
          | false =>
           have HN : Hid (okEs ns = false) := es_no HLT.out (by rw [okEAt_zero, HEF.out]; unfold blank; rw [h_cz]; simp)
           go_wp2
           go_ret
           exact ⟨ret_b HN.out.symm, HBn.out _ HB.out⟩
          | true =>
           cases h_mz : ((eAt ns 0).nd.mz == 0) with
           | false =>
            have HN : Hid (okEs ns = false) := es_no HLT.out (by rw [okEAt_zero, HEF.out]; unfold blank; rw [h_mz]; simp)
            go_wp2
            go_ret
            exact ⟨ret_b HN.out.symm, HBn.out _ HB.out⟩
           | true =>
            cases h_pz : ((eAt ns 0).nd.pz == 0) with
            | false =>
             have HN : Hid (okEs ns = false) := es_no HLT.out (by rw [okEAt_zero, HEF.out]; unfold blank; rw [h_pz]; simp)
             go_wp2
             go_ret
             exact ⟨ret_b HN.out.symm, HBn.out _ HB.out⟩
            | true =>
             have HT : Hid (okEAt ns 0 = true) := by show _ = _; rw [okEAt_zero, HEF.out, HOK.out]; unfold blank; rw [h_dat, h_ver, h_cver, h_cz, h_mz, h_pz]; rfl
             go_wp2
             go_roundw
             case rel => exact ⟨0 + 1, by omega, by go_num, (fun t ht => by by_cases e : t = 0; (subst e; exact HT.out); exact HA.out t (by omega)), HBz.out _ HB.out⟩
             case measure => simp [intOf]; omega
     | succ j =>
      have g1 : (0 : Int) ≤ (j : Int) + 1 := by omega
      have g2 : (j : Int) + 1 < (n : Int) := by omega
      have g3 : (0 : Int) ≤ (j : Int) := by omega
      have g4 : (j : Int) < (n : Int) := by omega
      have g5 : (0 : Int) < (j : Int) + 1 := by omega
      have g6 : IntKind.i64.wrap (j : Int) = (j : Int) := by rw [IntKind.wrap_i64]; omega
      cases hcmp : ltP (eAt ns j).nd.path (eAt ns (j + 1)).nd.path with
      | true =>
       obtain ⟨l1, l2⟩ := ltP_yes hcmp
       have HLP : Hid (ltP (eAt ns j).nd.path (eAt ns (j + 1)).nd.path = true) := hcmp
       clear hcmp
       refine wp_region_held_drew (S := fun W => Hid (Below wn.heap.size wn W) ∧ (W.cell? ⟨B, 0, none⟩ = some (.bool (eAt ns (j + 1)).del) ∧ W.cell? ⟨B, 1, none⟩ = some (.string (eAt ns (j + 1)).nd.path) ∧ W.cell? ⟨B, 2, none⟩ = some (.string (eAt ns (j + 1)).nd.data) ∧ W.cell? ⟨B, 3, none⟩ = some (.int .i64 (eAt ns (j + 1)).nd.ver) ∧ W.cell? ⟨B, 4, none⟩ = some (.int .i64 (eAt ns (j + 1)).nd.cver) ∧ W.cell? ⟨B, 5, none⟩ = some (.int .i64 (eAt ns (j + 1)).nd.cz) ∧ W.cell? ⟨B, 6, none⟩ = some (.int .i64 (eAt ns (j + 1)).nd.mz) ∧ W.cell? ⟨B, 7, none⟩ = some (.int .i64 (eAt ns (j + 1)).nd.pz)) ∧ W.cell? ⟨w.heap.size, 1, none⟩ = some (.slice (some ⟨b, o, none⟩) n cap) ∧ W.cell? ⟨b, o + j * 8 + 1, none⟩ = some (.string (eAt ns j).nd.path)) (by kernel_rfl) (⟨HD, (XN.out.below HD.out).all, (CT.out _ HD.out), ((HC.out j (by omega)).below (HBn.out _ HD.out) hb).c1⟩) (fun hHeld => ?_)
       refine tkL9 (i := 0) (oi := ⟨some 31, _, _, _, _, _⟩) (v := ?v67) rfl (by kernel_rfl) (fun _ _ _ h => h) (by rfl) (by assumption) ?hy67 ?_
       case hy67 => intro w9 hS9; obtain ⟨-, hS9⟩ := hS9; go_simp; try with_reducible rfl
       try simp only [Act.put, sT9, sZ9, sS9]
       refine tkL9 (i := 1) (oi := ⟨some 32, _, _, _, _, _⟩) (v := ?v68) rfl (by kernel_rfl) (fun _ _ _ h => h) (by rfl) (by assumption) ?hy68 ?_
       case hy68 => intro w9 hS9; obtain ⟨-, hS9⟩ := hS9; go_simp; try with_reducible rfl
       try simp only [Act.put, sT9, sZ9, sS9]
       refine wpAnyH_ready (rs := [2]) (by kernel_rfl) (by simp) ?_
       refine AllReadyH.cons (o := ⟨some 33, _, _, _, _, _⟩) rfl (fun K hK => ?_) AllReadyH.nil
       go_simp
       refine (HE.out 1).mono ?_
       rintro e w' ⟨rfl, HB⟩
       rw [HOK.out]
       refine hK.out _ _ (⟨HB, (XN.out.below HB.out).all, (CT.out _ HB.out), ((HC.out j (by omega)).below (HBn.out _ HB.out) hb).c1⟩) (fun hx9 => ?_)
       clear hK K hHeld
       have hHeld := hx9
       clear hx9
       try simp only [Act.put, sT9, sZ9, sS9]
       refine tkL9 (i := 3) (oi := ⟨some 34, _, _, _, _, _⟩) (v := ?v69) rfl (by kernel_rfl) (fun _ _ _ h => h) (by rfl) (by assumption) ?hy69 ?_
       case hy69 => intro w9 hS9; obtain ⟨-, hS9⟩ := hS9; go_simp; try with_reducible rfl
       try simp only [Act.put, sT9, sZ9, sS9]
       refine tkL9 (i := 4) (oi := ⟨some 35, _, _, _, _, _⟩) (v := ?v70) rfl (by kernel_rfl) (fun _ _ _ h => h) (by rfl) (by assumption) ?hy70 ?_
       case hy70 => intro w9 hS9; obtain ⟨-, hS9⟩ := hS9; go_simp; try with_reducible rfl
       try simp only [Act.put, sT9, sZ9, sS9]
       refine tkL9 (i := 5) (oi := ⟨some 36, _, _, _, _, _⟩) (v := ?v71) rfl (by kernel_rfl) (fun _ _ _ h => h) (by rfl) (by assumption) ?hy71 ?_
       case hy71 => intro w9 hS9; obtain ⟨-, hS9⟩ := hS9; go_simp; try with_reducible rfl
       try simp only [Act.put, sT9, sZ9, sS9]
       refine tkL9 (i := 6) (oi := ⟨some 37, _, _, _, _, _⟩) (v := ?v72) rfl (by kernel_rfl) (fun _ _ _ h => h) (by rfl) (by assumption) ?hy72 ?_
       case hy72 => intro w9 hS9; obtain ⟨-, hS9⟩ := hS9; go_simp; try with_reducible rfl
       try simp only [Act.put, sT9, sZ9, sS9]
       refine tkL9 (i := 7) (oi := ⟨some 38, _, _, _, _, _⟩) (v := ?v73) rfl (by kernel_rfl) (fun _ _ _ h => h) (by rfl) (by assumption) ?hy73 ?_
       case hy73 => intro w9 hS9; obtain ⟨-, hS9⟩ := hS9; go_simp; try with_reducible rfl
       try simp only [Act.put, sT9, sZ9, sS9]
       refine tkL9 (i := 8) (oi := ⟨some 39, _, _, _, _, _⟩) (v := ?v74) rfl (by kernel_rfl) (fun _ _ _ h => h) (by rfl) (by assumption) ?hy74 ?_
       case hy74 => intro w9 hS9; obtain ⟨-, hS9⟩ := hS9; go_simp; try with_reducible rfl
       try simp only [Act.put, sT9, sZ9, sS9]
       refine tkL9 (i := 9) (oi := ⟨some 40, _, _, _, _, _⟩) (v := ?v75) rfl (by kernel_rfl) (fun _ _ _ h => h) (by rfl) (by assumption) ?hy75 ?_
       case hy75 => intro w9 hS9; obtain ⟨-, hS9⟩ := hS9; go_simp; try with_reducible rfl
       try simp only [Act.put, sT9, sZ9, sS9]
       refine tkL9 (i := 10) (oi := ⟨some 41, _, _, _, _, _⟩) (v := ?v76) rfl (by kernel_rfl) (fun _ _ _ h => h) (by rfl) (by assumption) ?hy76 ?_
       case hy76 => intro w9 hS9; obtain ⟨-, hS9⟩ := hS9; go_simp; try with_reducible rfl
       try simp only [Act.put, sT9, sZ9, sS9]
       refine tkL9 (i := 11) (oi := ⟨some 42, _, _, _, _, _⟩) (v := ?v77) rfl (by kernel_rfl) (fun _ _ _ h => h) (by rfl) (by assumption) ?hy77 ?_
       case hy77 => intro w9 hS9; obtain ⟨-, hS9⟩ := hS9; go_simp; try with_reducible rfl
       try simp only [Act.put, sT9, sZ9, sS9]
       refine tkL9 (i := 12) (oi := ⟨some 43, _, _, _, _, _⟩) (v := ?v78) rfl (by kernel_rfl) (fun _ _ _ h => h) (by rfl) (by assumption) ?hy78 ?_
       case hy78 => intro w9 hS9; obtain ⟨-, hS9⟩ := hS9; go_simp; try with_reducible rfl
       try simp only [Act.put, sT9, sZ9, sS9]
       refine tkL9 (i := 13) (oi := ⟨some 44, _, _, _, _, _⟩) (v := ?v79) rfl (by kernel_rfl) (fun _ _ _ h => h) (by rfl) (by assumption) ?hy79 ?_
       case hy79 => intro w9 hS9; obtain ⟨-, hS9⟩ := hS9; go_simp; try with_reducible rfl
       try simp only [Act.put, sT9, sZ9, sS9]
       refine tkL9 (i := 14) (oi := ⟨some 45, _, _, _, _, _⟩) (v := ?v80) rfl (by kernel_rfl) (fun _ _ _ h => h) (by rfl) (by assumption) ?hy80 ?_
       case hy80 => intro w9 hS9; obtain ⟨-, hS9⟩ := hS9; go_simp; try with_reducible rfl
       try simp only [Act.put, sT9, sZ9, sS9]
       refine tkL9 (i := 15) (oi := ⟨some 46, _, _, _, _, _⟩) (v := ?v81) rfl (by kernel_rfl) (fun _ _ _ h => h) (by rfl) (by assumption) ?hy81 ?_
       case hy81 => intro w9 hS9; obtain ⟨-, hS9⟩ := hS9; go_simp; try with_reducible rfl
       try simp only [Act.put, sT9, sZ9, sS9]
       refine tkL9 (i := 16) (oi := ⟨some 47, _, _, _, _, _⟩) (v := ?v82) rfl (by kernel_rfl) (fun _ _ _ h => h) (by rfl) (by assumption) ?hy82 ?_
       case hy82 => intro w9 hS9; obtain ⟨-, hS9⟩ := hS9; go_simp; try with_reducible rfl
       try simp only [Act.put, sT9, sZ9, sS9]
       refine tkL9 (i := 17) (oi := ⟨some 48, _, _, _, _, _⟩) (v := ?v83) rfl (by kernel_rfl) (fun _ _ _ h => h) (by rfl) (by assumption) ?hy83 ?_
       case hy83 => intro w9 hS9; obtain ⟨-, hS9⟩ := hS9; go_simp; try with_reducible rfl
       try simp only [Act.put, sT9, sZ9, sS9]
       refine tkL9 (i := 18) (oi := ⟨some 49, _, _, _, _, _⟩) (v := ?v84) rfl (by kernel_rfl) (fun _ _ _ h => h) (by rfl) (by assumption) ?hy84 ?_
       case hy84 => intro w9 hS9; obtain ⟨-, hS9⟩ := hS9; go_simp; try with_reducible rfl
       try simp only [Act.put, sT9, sZ9, sS9]
       refine tkL9 (i := 19) (oi := ⟨some 50, _, _, _, _, _⟩) (v := ?v85) rfl (by kernel_rfl) (fun _ _ _ h => h) (by rfl) (by assumption) ?hy85 ?_
       case hy85 => intro w9 hS9; obtain ⟨-, hS9⟩ := hS9; go_simp; try with_reducible rfl
       try simp only [Act.put, sT9, sZ9, sS9]
       refine tkL9 (i := 20) (oi := ⟨some 51, _, _, _, _, _⟩) (v := ?v86) rfl (by kernel_rfl) (fun _ _ _ h => h) (by rfl) (by assumption) ?hy86 ?_
       case hy86 => intro w9 hS9; obtain ⟨-, hS9⟩ := hS9; go_simp; try with_reducible rfl
       try simp only [Act.put, sT9, sZ9, sS9]
       refine tkL9 (i := 21) (oi := ⟨some 52, _, _, _, _, _⟩) (v := ?v87) rfl (by kernel_rfl) (fun _ _ _ h => h) (by rfl) (by assumption) ?hy87 ?_
       case hy87 => intro w9 hS9; obtain ⟨-, hS9⟩ := hS9; go_simp; try with_reducible rfl
       try simp only [Act.put, sT9, sZ9, sS9]
       refine wpAnyH_done (by kernel_rfl) ?_ _
       clear hHeld
       obtain ⟨-, b0, b1, b2, b3, b4, b5, b6, b7⟩ := XN.out.below HB.out
       cases hdel : (eAt ns (j + 1)).del with
       | false =>
        have HT : Hid (okEAt ns (j + 1) = true) := by show _ = _; rw [okEAt_succ, okEf_false hdel, HOK.out]; simp [HLP.out]
        rw [hdel] at b0
        clear hdel
        go_wp2
        go_roundw
        case rel => exact ⟨(j + 1) + 1, by omega, by go_num, (fun t ht => by by_cases e : t = (j + 1); (subst e; exact HT.out); exact HA.out t (by omega)), HBz.out _ HB.out⟩
        case measure => simp [intOf]; omega
       | true =>
        have HEF : Hid (okEf (eAt ns (j + 1)) = (okNd (eAt ns (j + 1)).nd && blank (eAt ns (j + 1)).nd)) := okEf_true hdel
        rw [hdel] at b0
        clear hdel
        have hpp : ((eAt ns (j + 1)).nd.path.toList == (eAt ns (j + 1)).nd.path.toList) = true := by simp
        cases h_dat : ((eAt ns (j + 1)).nd.data.toList == []) with
        | false =>
         have HN : Hid (okEs ns = false) := es_no HLT.out (by rw [okEAt_succ, HEF.out]; unfold blank; rw [h_dat]; simp)
         go_wp2
         go_ret
         exact ⟨ret_b HN.out.symm, HBn.out _ HB.out⟩
        | true =>
         cases h_ver : ((eAt ns (j + 1)).nd.ver == 0) with
         | false =>
          have HN : Hid (okEs ns = false) := es_no HLT.out (by rw [okEAt_succ, HEF.out]; unfold blank; rw [h_ver]; simp)
          go_wp2
          go_ret
          exact ⟨ret_b HN.out.symm, HBn.out _ HB.out⟩
         | true =>
          cases h_cver : ((eAt ns (j + 1)).nd.cver == 0) with
          | false =>
           have HN : Hid (okEs ns = false) := es_no HLT.out (by rw [okEAt_succ, HEF.out]; unfold blank; rw [h_cver]; simp)
           go_wp2
           go_ret
           exact ⟨ret_b HN.out.symm, HBn.out _ HB.out⟩
          | true =>
           cases h_cz : ((eAt ns (j + 1)).nd.cz == 0) with
           | false =>
            have HN : Hid (okEs ns = false) := es_no HLT.out (by rw [okEAt_succ, HEF.out]; unfold blank; rw [h_cz]; simp)
            go_wp2
            go_ret
            exact ⟨ret_b HN.out.symm, HBn.out _ HB.out⟩
           | true =>
            cases h_mz : ((eAt ns (j + 1)).nd.mz == 0) with
            | false =>
             have HN : Hid (okEs ns = false) := es_no HLT.out (by rw [okEAt_succ, HEF.out]; unfold blank; rw [h_mz]; simp)
             go_wp2
             go_ret
             exact ⟨ret_b HN.out.symm, HBn.out _ HB.out⟩
            | true =>
             cases h_pz : ((eAt ns (j + 1)).nd.pz == 0) with
             | false =>
              have HN : Hid (okEs ns = false) := es_no HLT.out (by rw [okEAt_succ, HEF.out]; unfold blank; rw [h_pz]; simp)
              go_wp2
              go_ret
              exact ⟨ret_b HN.out.symm, HBn.out _ HB.out⟩
             | true =>
              have HT : Hid (okEAt ns (j + 1) = true) := by show _ = _; rw [okEAt_succ, HEF.out, HOK.out]; unfold blank; rw [h_dat, h_ver, h_cver, h_cz, h_mz, h_pz]; simp [HLP.out]
              go_wp2
              go_roundw
              case rel => exact ⟨(j + 1) + 1, by omega, by go_num, (fun t ht => by by_cases e : t = (j + 1); (subst e; exact HT.out); exact HA.out t (by omega)), HBz.out _ HB.out⟩
              case measure => simp [intOf]; omega
      | false =>
       have HN : Hid (okEs ns = false) := es_no HLT.out (by rw [okEAt_succ, hcmp, Bool.and_false])
       rcases ltP_no hcmp with l1 | ⟨l1, l2⟩
       · clear hcmp
         refine wp_region_held_drew (S := fun W => Hid (Below wn.heap.size wn W) ∧ (W.cell? ⟨B, 0, none⟩ = some (.bool (eAt ns (j + 1)).del) ∧ W.cell? ⟨B, 1, none⟩ = some (.string (eAt ns (j + 1)).nd.path) ∧ W.cell? ⟨B, 2, none⟩ = some (.string (eAt ns (j + 1)).nd.data) ∧ W.cell? ⟨B, 3, none⟩ = some (.int .i64 (eAt ns (j + 1)).nd.ver) ∧ W.cell? ⟨B, 4, none⟩ = some (.int .i64 (eAt ns (j + 1)).nd.cver) ∧ W.cell? ⟨B, 5, none⟩ = some (.int .i64 (eAt ns (j + 1)).nd.cz) ∧ W.cell? ⟨B, 6, none⟩ = some (.int .i64 (eAt ns (j + 1)).nd.mz) ∧ W.cell? ⟨B, 7, none⟩ = some (.int .i64 (eAt ns (j + 1)).nd.pz)) ∧ W.cell? ⟨w.heap.size, 1, none⟩ = some (.slice (some ⟨b, o, none⟩) n cap) ∧ W.cell? ⟨b, o + j * 8 + 1, none⟩ = some (.string (eAt ns j).nd.path)) (by kernel_rfl) (⟨HD, (XN.out.below HD.out).all, (CT.out _ HD.out), ((HC.out j (by omega)).below (HBn.out _ HD.out) hb).c1⟩) (fun hHeld => ?_)
         refine tkL9 (i := 0) (oi := ⟨some 31, _, _, _, _, _⟩) (v := ?v88) rfl (by kernel_rfl) (fun _ _ _ h => h) (by rfl) (by assumption) ?hy88 ?_
         case hy88 => intro w9 hS9; obtain ⟨-, hS9⟩ := hS9; go_simp; try with_reducible rfl
         try simp only [Act.put, sT9, sZ9, sS9]
         refine tkL9 (i := 1) (oi := ⟨some 32, _, _, _, _, _⟩) (v := ?v89) rfl (by kernel_rfl) (fun _ _ _ h => h) (by rfl) (by assumption) ?hy89 ?_
         case hy89 => intro w9 hS9; obtain ⟨-, hS9⟩ := hS9; go_simp; try with_reducible rfl
         try simp only [Act.put, sT9, sZ9, sS9]
         refine wpAnyH_ready (rs := [2]) (by kernel_rfl) (by simp) ?_
         refine AllReadyH.cons (o := ⟨some 33, _, _, _, _, _⟩) rfl (fun K hK => ?_) AllReadyH.nil
         go_simp
         refine (HE.out 1).mono ?_
         rintro e w' ⟨rfl, HB⟩
         rw [HOK.out]
         refine hK.out _ _ (⟨HB, (XN.out.below HB.out).all, (CT.out _ HB.out), ((HC.out j (by omega)).below (HBn.out _ HB.out) hb).c1⟩) (fun hx9 => ?_)
         clear hK K hHeld
         have hHeld := hx9
         clear hx9
         try simp only [Act.put, sT9, sZ9, sS9]
         refine tkL9 (i := 3) (oi := ⟨some 34, _, _, _, _, _⟩) (v := ?v90) rfl (by kernel_rfl) (fun _ _ _ h => h) (by rfl) (by assumption) ?hy90 ?_
         case hy90 => intro w9 hS9; obtain ⟨-, hS9⟩ := hS9; go_simp; try with_reducible rfl
         try simp only [Act.put, sT9, sZ9, sS9]
         refine tkL9 (i := 4) (oi := ⟨some 35, _, _, _, _, _⟩) (v := ?v91) rfl (by kernel_rfl) (fun _ _ _ h => h) (by rfl) (by assumption) ?hy91 ?_
         case hy91 => intro w9 hS9; obtain ⟨-, hS9⟩ := hS9; go_simp; try with_reducible rfl
         try simp only [Act.put, sT9, sZ9, sS9]
         refine tkL9 (i := 5) (oi := ⟨some 36, _, _, _, _, _⟩) (v := ?v92) rfl (by kernel_rfl) (fun _ _ _ h => h) (by rfl) (by assumption) ?hy92 ?_
         case hy92 => intro w9 hS9; obtain ⟨-, hS9⟩ := hS9; go_simp; try with_reducible rfl
         try simp only [Act.put, sT9, sZ9, sS9]
         refine tkL9 (i := 6) (oi := ⟨some 37, _, _, _, _, _⟩) (v := ?v93) rfl (by kernel_rfl) (fun _ _ _ h => h) (by rfl) (by assumption) ?hy93 ?_
         case hy93 => intro w9 hS9; obtain ⟨-, hS9⟩ := hS9; go_simp; try with_reducible rfl
         try simp only [Act.put, sT9, sZ9, sS9]
         refine tkL9 (i := 7) (oi := ⟨some 38, _, _, _, _, _⟩) (v := ?v94) rfl (by kernel_rfl) (fun _ _ _ h => h) (by rfl) (by assumption) ?hy94 ?_
         case hy94 => intro w9 hS9; obtain ⟨-, hS9⟩ := hS9; go_simp; try with_reducible rfl
         try simp only [Act.put, sT9, sZ9, sS9]
         refine tkL9 (i := 8) (oi := ⟨some 39, _, _, _, _, _⟩) (v := ?v95) rfl (by kernel_rfl) (fun _ _ _ h => h) (by rfl) (by assumption) ?hy95 ?_
         case hy95 => intro w9 hS9; obtain ⟨-, hS9⟩ := hS9; go_simp; try with_reducible rfl
         try simp only [Act.put, sT9, sZ9, sS9]
         refine tkL9 (i := 9) (oi := ⟨some 40, _, _, _, _, _⟩) (v := ?v96) rfl (by kernel_rfl) (fun _ _ _ h => h) (by rfl) (by assumption) ?hy96 ?_
         case hy96 => intro w9 hS9; obtain ⟨-, hS9⟩ := hS9; go_simp; try with_reducible rfl
         try simp only [Act.put, sT9, sZ9, sS9]
         refine tkL9 (i := 10) (oi := ⟨some 41, _, _, _, _, _⟩) (v := ?v97) rfl (by kernel_rfl) (fun _ _ _ h => h) (by rfl) (by assumption) ?hy97 ?_
         case hy97 => intro w9 hS9; obtain ⟨-, hS9⟩ := hS9; go_simp; try with_reducible rfl
         try simp only [Act.put, sT9, sZ9, sS9]
         refine tkL9 (i := 11) (oi := ⟨some 42, _, _, _, _, _⟩) (v := ?v98) rfl (by kernel_rfl) (fun _ _ _ h => h) (by rfl) (by assumption) ?hy98 ?_
         case hy98 => intro w9 hS9; obtain ⟨-, hS9⟩ := hS9; go_simp; try with_reducible rfl
         try simp only [Act.put, sT9, sZ9, sS9]
         refine tkL9 (i := 12) (oi := ⟨some 43, _, _, _, _, _⟩) (v := ?v99) rfl (by kernel_rfl) (fun _ _ _ h => h) (by rfl) (by assumption) ?hy99 ?_
         case hy99 => intro w9 hS9; obtain ⟨-, hS9⟩ := hS9; go_simp; try with_reducible rfl
         try simp only [Act.put, sT9, sZ9, sS9]
         refine tkL9 (i := 13) (oi := ⟨some 44, _, _, _, _, _⟩) (v := ?v100) rfl (by kernel_rfl) (fun _ _ _ h => h) (by rfl) (by assumption) ?hy100 ?_
         case hy100 => intro w9 hS9; obtain ⟨-, hS9⟩ := hS9; go_simp; try with_reducible rfl
         try simp only [Act.put, sT9, sZ9, sS9]
         refine tkL9 (i := 14) (oi := ⟨some 45, _, _, _, _, _⟩) (v := ?v101) rfl (by kernel_rfl) (fun _ _ _ h => h) (by rfl) (by assumption) ?hy101 ?_
         case hy101 => intro w9 hS9; obtain ⟨-, hS9⟩ := hS9; go_simp; try with_reducible rfl
         try simp only [Act.put, sT9, sZ9, sS9]
         refine tkL9 (i := 15) (oi := ⟨some 46, _, _, _, _, _⟩) (v := ?v102) rfl (by kernel_rfl) (fun _ _ _ h => h) (by rfl) (by assumption) ?hy102 ?_
         case hy102 => intro w9 hS9; obtain ⟨-, hS9⟩ := hS9; go_simp; try with_reducible rfl
         try simp only [Act.put, sT9, sZ9, sS9]
         refine tkL9 (i := 16) (oi := ⟨some 47, _, _, _, _, _⟩) (v := ?v103) rfl (by kernel_rfl) (fun _ _ _ h => h) (by rfl) (by assumption) ?hy103 ?_
         case hy103 => intro w9 hS9; obtain ⟨-, hS9⟩ := hS9; go_simp; try with_reducible rfl
         try simp only [Act.put, sT9, sZ9, sS9]
         refine tkL9 (i := 17) (oi := ⟨some 48, _, _, _, _, _⟩) (v := ?v104) rfl (by kernel_rfl) (fun _ _ _ h => h) (by rfl) (by assumption) ?hy104 ?_
         case hy104 => intro w9 hS9; obtain ⟨-, hS9⟩ := hS9; go_simp; try with_reducible rfl
         try simp only [Act.put, sT9, sZ9, sS9]
         refine tkL9 (i := 18) (oi := ⟨some 49, _, _, _, _, _⟩) (v := ?v105) rfl (by kernel_rfl) (fun _ _ _ h => h) (by rfl) (by assumption) ?hy105 ?_
         case hy105 => intro w9 hS9; obtain ⟨-, hS9⟩ := hS9; go_simp; try with_reducible rfl
         try simp only [Act.put, sT9, sZ9, sS9]
         refine tkL9 (i := 19) (oi := ⟨some 50, _, _, _, _, _⟩) (v := ?v106) rfl (by kernel_rfl) (fun _ _ _ h => h) (by rfl) (by assumption) ?hy106 ?_
         case hy106 => intro w9 hS9; obtain ⟨-, hS9⟩ := hS9; go_simp; try with_reducible rfl
         try simp only [Act.put, sT9, sZ9, sS9]
         refine tkL9 (i := 20) (oi := ⟨some 51, _, _, _, _, _⟩) (v := ?v107) rfl (by kernel_rfl) (fun _ _ _ h => h) (by rfl) (by assumption) ?hy107 ?_
         case hy107 => intro w9 hS9; obtain ⟨-, hS9⟩ := hS9; go_simp; try with_reducible rfl
         try simp only [Act.put, sT9, sZ9, sS9]
         refine tkL9 (i := 21) (oi := ⟨some 52, _, _, _, _, _⟩) (v := ?v108) rfl (by kernel_rfl) (fun _ _ _ h => h) (by rfl) (by assumption) ?hy108 ?_
         case hy108 => intro w9 hS9; obtain ⟨-, hS9⟩ := hS9; go_simp; try with_reducible rfl
         try simp only [Act.put, sT9, sZ9, sS9]
         refine wpAnyH_done (by kernel_rfl) ?_ _
         clear hHeld
         go_wp2
         go_ret
         exact ⟨ret_b HN.out.symm, HBn.out _ HB.out⟩
       · clear hcmp
         refine wp_region_held_drew (S := fun W => Hid (Below wn.heap.size wn W) ∧ (W.cell? ⟨B, 0, none⟩ = some (.bool (eAt ns (j + 1)).del) ∧ W.cell? ⟨B, 1, none⟩ = some (.string (eAt ns (j + 1)).nd.path) ∧ W.cell? ⟨B, 2, none⟩ = some (.string (eAt ns (j + 1)).nd.data) ∧ W.cell? ⟨B, 3, none⟩ = some (.int .i64 (eAt ns (j + 1)).nd.ver) ∧ W.cell? ⟨B, 4, none⟩ = some (.int .i64 (eAt ns (j + 1)).nd.cver) ∧ W.cell? ⟨B, 5, none⟩ = some (.int .i64 (eAt ns (j + 1)).nd.cz) ∧ W.cell? ⟨B, 6, none⟩ = some (.int .i64 (eAt ns (j + 1)).nd.mz) ∧ W.cell? ⟨B, 7, none⟩ = some (.int .i64 (eAt ns (j + 1)).nd.pz)) ∧ W.cell? ⟨w.heap.size, 1, none⟩ = some (.slice (some ⟨b, o, none⟩) n cap) ∧ W.cell? ⟨b, o + j * 8 + 1, none⟩ = some (.string (eAt ns j).nd.path)) (by kernel_rfl) (⟨HD, (XN.out.below HD.out).all, (CT.out _ HD.out), ((HC.out j (by omega)).below (HBn.out _ HD.out) hb).c1⟩) (fun hHeld => ?_)
         refine tkL9 (i := 0) (oi := ⟨some 31, _, _, _, _, _⟩) (v := ?v109) rfl (by kernel_rfl) (fun _ _ _ h => h) (by rfl) (by assumption) ?hy109 ?_
         case hy109 => intro w9 hS9; obtain ⟨-, hS9⟩ := hS9; go_simp; try with_reducible rfl
         try simp only [Act.put, sT9, sZ9, sS9]
         refine tkL9 (i := 1) (oi := ⟨some 32, _, _, _, _, _⟩) (v := ?v110) rfl (by kernel_rfl) (fun _ _ _ h => h) (by rfl) (by assumption) ?hy110 ?_
         case hy110 => intro w9 hS9; obtain ⟨-, hS9⟩ := hS9; go_simp; try with_reducible rfl
         try simp only [Act.put, sT9, sZ9, sS9]
         refine wpAnyH_ready (rs := [2]) (by kernel_rfl) (by simp) ?_
         refine AllReadyH.cons (o := ⟨some 33, _, _, _, _, _⟩) rfl (fun K hK => ?_) AllReadyH.nil
         go_simp
         refine (HE.out 1).mono ?_
         rintro e w' ⟨rfl, HB⟩
         rw [HOK.out]
         refine hK.out _ _ (⟨HB, (XN.out.below HB.out).all, (CT.out _ HB.out), ((HC.out j (by omega)).below (HBn.out _ HB.out) hb).c1⟩) (fun hx9 => ?_)
         clear hK K hHeld
         have hHeld := hx9
         clear hx9
         try simp only [Act.put, sT9, sZ9, sS9]
         refine tkL9 (i := 3) (oi := ⟨some 34, _, _, _, _, _⟩) (v := ?v111) rfl (by kernel_rfl) (fun _ _ _ h => h) (by rfl) (by assumption) ?hy111 ?_
         case hy111 => intro w9 hS9; obtain ⟨-, hS9⟩ := hS9; go_simp; try with_reducible rfl
         try simp only [Act.put, sT9, sZ9, sS9]
         refine tkL9 (i := 4) (oi := ⟨some 35, _, _, _, _, _⟩) (v := ?v112) rfl (by kernel_rfl) (fun _ _ _ h => h) (by rfl) (by assumption) ?hy112 ?_
         case hy112 => intro w9 hS9; obtain ⟨-, hS9⟩ := hS9; go_simp; try with_reducible rfl
         try simp only [Act.put, sT9, sZ9, sS9]
         refine tkL9 (i := 5) (oi := ⟨some 36, _, _, _, _, _⟩) (v := ?v113) rfl (by kernel_rfl) (fun _ _ _ h => h) (by rfl) (by assumption) ?hy113 ?_
         case hy113 => intro w9 hS9; obtain ⟨-, hS9⟩ := hS9; go_simp; try with_reducible rfl
         try simp only [Act.put, sT9, sZ9, sS9]
         refine tkL9 (i := 6) (oi := ⟨some 37, _, _, _, _, _⟩) (v := ?v114) rfl (by kernel_rfl) (fun _ _ _ h => h) (by rfl) (by assumption) ?hy114 ?_
         case hy114 => intro w9 hS9; obtain ⟨-, hS9⟩ := hS9; go_simp; try with_reducible rfl
         try simp only [Act.put, sT9, sZ9, sS9]
         refine tkL9 (i := 7) (oi := ⟨some 38, _, _, _, _, _⟩) (v := ?v115) rfl (by kernel_rfl) (fun _ _ _ h => h) (by rfl) (by assumption) ?hy115 ?_
         case hy115 => intro w9 hS9; obtain ⟨-, hS9⟩ := hS9; go_simp; try with_reducible rfl
         try simp only [Act.put, sT9, sZ9, sS9]
         refine tkL9 (i := 8) (oi := ⟨some 39, _, _, _, _, _⟩) (v := ?v116) rfl (by kernel_rfl) (fun _ _ _ h => h) (by rfl) (by assumption) ?hy116 ?_
         case hy116 => intro w9 hS9; obtain ⟨-, hS9⟩ := hS9; go_simp; try with_reducible rfl
         try simp only [Act.put, sT9, sZ9, sS9]
         refine tkL9 (i := 9) (oi := ⟨some 40, _, _, _, _, _⟩) (v := ?v117) rfl (by kernel_rfl) (fun _ _ _ h => h) (by rfl) (by assumption) ?hy117 ?_
         case hy117 => intro w9 hS9; obtain ⟨-, hS9⟩ := hS9; go_simp; try with_reducible rfl
         try simp only [Act.put, sT9, sZ9, sS9]
         refine tkL9 (i := 10) (oi := ⟨some 41, _, _, _, _, _⟩) (v := ?v118) rfl (by kernel_rfl) (fun _ _ _ h => h) (by rfl) (by assumption) ?hy118 ?_
         case hy118 => intro w9 hS9; obtain ⟨-, hS9⟩ := hS9; go_simp; try with_reducible rfl
         try simp only [Act.put, sT9, sZ9, sS9]
         refine tkL9 (i := 11) (oi := ⟨some 42, _, _, _, _, _⟩) (v := ?v119) rfl (by kernel_rfl) (fun _ _ _ h => h) (by rfl) (by assumption) ?hy119 ?_
         case hy119 => intro w9 hS9; obtain ⟨-, hS9⟩ := hS9; go_simp; try with_reducible rfl
         try simp only [Act.put, sT9, sZ9, sS9]
         refine tkL9 (i := 12) (oi := ⟨some 43, _, _, _, _, _⟩) (v := ?v120) rfl (by kernel_rfl) (fun _ _ _ h => h) (by rfl) (by assumption) ?hy120 ?_
         case hy120 => intro w9 hS9; obtain ⟨-, hS9⟩ := hS9; go_simp; try with_reducible rfl
         try simp only [Act.put, sT9, sZ9, sS9]
         refine tkL9 (i := 13) (oi := ⟨some 44, _, _, _, _, _⟩) (v := ?v121) rfl (by kernel_rfl) (fun _ _ _ h => h) (by rfl) (by assumption) ?hy121 ?_
         case hy121 => intro w9 hS9; obtain ⟨-, hS9⟩ := hS9; go_simp; try with_reducible rfl
         try simp only [Act.put, sT9, sZ9, sS9]
         refine tkL9 (i := 14) (oi := ⟨some 45, _, _, _, _, _⟩) (v := ?v122) rfl (by kernel_rfl) (fun _ _ _ h => h) (by rfl) (by assumption) ?hy122 ?_
         case hy122 => intro w9 hS9; obtain ⟨-, hS9⟩ := hS9; go_simp; try with_reducible rfl
         try simp only [Act.put, sT9, sZ9, sS9]
         refine tkL9 (i := 15) (oi := ⟨some 46, _, _, _, _, _⟩) (v := ?v123) rfl (by kernel_rfl) (fun _ _ _ h => h) (by rfl) (by assumption) ?hy123 ?_
         case hy123 => intro w9 hS9; obtain ⟨-, hS9⟩ := hS9; go_simp; try with_reducible rfl
         try simp only [Act.put, sT9, sZ9, sS9]
         refine tkL9 (i := 16) (oi := ⟨some 47, _, _, _, _, _⟩) (v := ?v124) rfl (by kernel_rfl) (fun _ _ _ h => h) (by rfl) (by assumption) ?hy124 ?_
         case hy124 => intro w9 hS9; obtain ⟨-, hS9⟩ := hS9; go_simp; try with_reducible rfl
         try simp only [Act.put, sT9, sZ9, sS9]
         refine tkL9 (i := 17) (oi := ⟨some 48, _, _, _, _, _⟩) (v := ?v125) rfl (by kernel_rfl) (fun _ _ _ h => h) (by rfl) (by assumption) ?hy125 ?_
         case hy125 => intro w9 hS9; obtain ⟨-, hS9⟩ := hS9; go_simp; try with_reducible rfl
         try simp only [Act.put, sT9, sZ9, sS9]
         refine tkL9 (i := 18) (oi := ⟨some 49, _, _, _, _, _⟩) (v := ?v126) rfl (by kernel_rfl) (fun _ _ _ h => h) (by rfl) (by assumption) ?hy126 ?_
         case hy126 => intro w9 hS9; obtain ⟨-, hS9⟩ := hS9; go_simp; try with_reducible rfl
         try simp only [Act.put, sT9, sZ9, sS9]
         refine tkL9 (i := 19) (oi := ⟨some 50, _, _, _, _, _⟩) (v := ?v127) rfl (by kernel_rfl) (fun _ _ _ h => h) (by rfl) (by assumption) ?hy127 ?_
         case hy127 => intro w9 hS9; obtain ⟨-, hS9⟩ := hS9; go_simp; try with_reducible rfl
         try simp only [Act.put, sT9, sZ9, sS9]
         refine tkL9 (i := 20) (oi := ⟨some 51, _, _, _, _, _⟩) (v := ?v128) rfl (by kernel_rfl) (fun _ _ _ h => h) (by rfl) (by assumption) ?hy128 ?_
         case hy128 => intro w9 hS9; obtain ⟨-, hS9⟩ := hS9; go_simp; try with_reducible rfl
         try simp only [Act.put, sT9, sZ9, sS9]
         refine tkL9 (i := 21) (oi := ⟨some 52, _, _, _, _, _⟩) (v := ?v129) rfl (by kernel_rfl) (fun _ _ _ h => h) (by rfl) (by assumption) ?hy129 ?_
         case hy129 => intro w9 hS9; obtain ⟨-, hS9⟩ := hS9; go_simp; try with_reducible rfl
         try simp only [Act.put, sT9, sZ9, sS9]
         refine wpAnyH_done (by kernel_rfl) ?_ _
         clear hHeld
         go_wp2
         go_ret
         exact ⟨ret_b HN.out.symm, HBn.out _ HB.out⟩
  · have HY : Hid (okEs ns = true) := es_yes (fun t ht => HA.out t (by rw [HP.out] at ht; omega))
    go_wp2
    go_ret
    exact ⟨ret_b HY.out.symm, HG0.out⟩
theorem specTxn_nil (w : World) (z : Int) (ao : Option Addr) (cap : Nat) (hz1 : ¬ z < 1) (hz2 : ¬ 2147483647 < z) :
    Calls Tryz.prog 86 #[.agg #[.int .i64 z, .slice ao 0 cap]] w fun e w' => e = .returned (.bool true) ∧ Below w.heap.size w w' := by
 go_enter Tryz.func86, Tryz.ntmps86
 go_wp2
 go_rounds 1
 go_ret
 exact ⟨rfl, (Below.refl _ _).alloc (Nat.le_refl _) _⟩
theorem specTxn_no (w : World) (z : Int) (ao : Option Addr) (n cap : Nat) (h : z < 1 ∨ 2147483647 < z ∨ 1000 < n) :
    Calls Tryz.prog 86 #[.agg #[.int .i64 z, .slice ao n cap]] w fun e w' => e = .returned (.bool false) ∧ Below w.heap.size w w' := by
 by_cases h1 : z < 1
 · clear h
   go_enter Tryz.func86, Tryz.ntmps86
   go_wp2
   go_ret
   exact ⟨rfl, (Below.refl _ _).alloc (Nat.le_refl _) _⟩
 · by_cases h2 : 2147483647 < z
   · clear h
     go_enter Tryz.func86, Tryz.ntmps86
     go_wp2
     go_ret
     exact ⟨rfl, (Below.refl _ _).alloc (Nat.le_refl _) _⟩
   · have h3 : (1000 : Int) < (n : Int) := by omega
     clear h
     go_enter Tryz.func86, Tryz.ntmps86
     go_wp2
     go_ret
     exact ⟨rfl, (Below.refl _ _).alloc (Nat.le_refl _) _⟩
theorem specTxn_any (w : World) (z : Int) (v : Value) (ns : List Ef) (h : RdE w v ns) (hsz : ∀ i, (eAt ns i).nd.path.size ≤ 1048576 ∧ (eAt ns i).nd.data.size ≤ 1048576) :
    Calls Tryz.prog 86 #[.agg #[.int .i64 z, v]] w fun e w' => e = .returned (.bool (okTxn z ns)) ∧ Below w.heap.size w w' := by
 obtain ⟨ao, cap, rfl, k1, k2, k3⟩ := h
 by_cases hl : z < 1 ∨ 2147483647 < z ∨ 1000 < ns.length
 · have : okTxn z ns = false := by
    unfold okTxn
    rcases hl with hl | hl | hl
    · rw [decide_eq_false (show ¬ 1 ≤ z by omega)]; rfl
    · rw [decide_eq_false (show ¬ z ≤ 2147483647 by omega)]; simp
    · rw [decide_eq_false (show ¬ ns.length ≤ 1000 by omega)]; simp
   rw [this]
   exact specTxn_no w z ao ns.length cap hl
 · have : okTxn z ns = okEs ns := by unfold okTxn; rw [decide_eq_true (show 1 ≤ z by omega), decide_eq_true (show z ≤ 2147483647 by omega), decide_eq_true (show ns.length ≤ 1000 by omega)]; rfl
   rw [this]
   rcases k3 with rfl | ⟨b, o, rfl, hb, hc⟩
   · exact specTxn_nil w z ao cap (by omega) (by omega)
   · exact specTxn_row w z b o ns.length cap ns (by omega) (by omega) rfl (by omega) hb hsz hc
end Go.Proofs.YtcopcegamadkgaaGreatDoor
namespace Go.Proofs.YtcopcegamadkgaaGreatDoor
open Go.RowKit Go.Shelf
def BxX (w : World) (B : Nat) (t : TypeId) (z : Int) (v : Value) : Prop := w.heap[B]? = some (.cells #[.int .i64 z, v] t (0, 0))
theorem BxX.lt {w : World} {B : Nat} {t : TypeId} {z : Int} {v : Value} (h : BxX w B t z v) : B < w.heap.size := (Array.getElem?_eq_some_iff.1 h).1
theorem BxX.new (w : World) (t : TypeId) (z : Int) (v : Value) : BxX (w.alloc (.cells #[.int .i64 z, v] t)) w.heap.size t z v := heap_alloc_new w _
theorem BxX.later {w w' : World} {B : Nat} {t : TypeId} {z : Int} {v : Value} (hb : Below w.heap.size w w') (h : BxX w B t z v) : BxX w' B t z v := (hb.block _ h.lt).trans h
theorem BxX.cells {w : World} {B : Nat} {t : TypeId} {z : Int} {v : Value} (h : BxX w B t z v) : w.cell? ⟨B, 0, none⟩ = some (.int .i64 z) ∧ w.cell? ⟨B, 1, none⟩ = some v := ⟨(cell_of h _).trans rfl, (cell_of h _).trans rfl⟩
structure ApB (s : Nat) (v : Value) (z : Int) (vx : Value) (W : World) : Prop where
 t : Boxed W s 25 v
 x : BxX W (s + 1) 78 z vx
 r : Boxed W (s + 2) 25 (.slice none 0 0)
theorem ApB.new (w : World) (v : Value) (z : Int) (vx : Value) : ApB w.heap.size v z vx (((w.alloc (.cells #[v] 25)).alloc (.cells #[.int .i64 z, vx] 78)).alloc (.cells #[.slice none 0 0] 25)) := by
 have s1 : (w.alloc (.cells #[v] 25)).heap.size = w.heap.size + 1 := by simp
 have s2 : ((w.alloc (.cells #[v] 25)).alloc (.cells #[.int .i64 z, vx] 78)).heap.size = w.heap.size + 2 := by simp
 have h2 := BxX.new (w.alloc (.cells #[v] 25)) 78 z vx
 rw [s1] at h2
 have h3 := Boxed.new ((w.alloc (.cells #[v] 25)).alloc (.cells #[.int .i64 z, vx] 78)) 25 (.slice none 0 0)
 rw [s2] at h3
 exact ⟨((Boxed.new w _ _).alloc _).alloc _, h2.later ((Below.refl _ _).alloc (Nat.le_refl _) _), h3⟩
theorem ApB.below {s m : Nat} {v : Value} {z : Int} {vx : Value} {W W' : World} (h : ApB s v z vx W) (hb : Below m W W') (hm : s + 3 ≤ m) : ApB s v z vx W' :=
 ⟨(hb.block _ (by omega)).trans h.t, (hb.block _ (by omega)).trans h.x, (hb.block _ (by omega)).trans h.r⟩
theorem ApB.size {s : Nat} {v : Value} {z : Int} {vx : Value} {W : World} (h : ApB s v z vx W) : s + 3 ≤ W.heap.size := by have := h.r.lt; omega
theorem specApply_any (w : World) (v : Value) (ns : List Nd) (z : Int) (vx : Value) (es : List Ef) (h : RdN w v ns) (hx : RdE w vx es) (hn : ns.length ≤ 1048576)
    (hsz : ∀ i, (nAt ns i).path.size ≤ 1048576 ∧ (nAt ns i).data.size ≤ 1048576) (hsx : ∀ i, (eAt es i).nd.path.size ≤ 1048576 ∧ (eAt es i).nd.data.size ≤ 1048576) :
    Calls Tryz.prog 32 #[.agg #[v], .agg #[.int .i64 z, vx]] w fun e w' => ∃ v', e = .returned (.agg #[v']) ∧ OwnN 85 w' w.heap.size v' (resA ns z es) ∧ Below w.heap.size w w' := by
 obtain ⟨ao, ca, rfl, _, _⟩ := h.len
 obtain ⟨xo, cx, rfl, _, _⟩ := hx.len
 have HR : Hid (RdN w (.slice ao ns.length ca) ns) := h
 have HX : Hid (RdE w (.slice xo es.length cx) es) := hx
 have HZ : Hid (∀ i, (nAt ns i).path.size ≤ 1048576 ∧ (nAt ns i).data.size ≤ 1048576) := hsz
 have HZX : Hid (∀ i, (eAt es i).nd.path.size ≤ 1048576 ∧ (eAt es i).nd.data.size ≤ 1048576) := hsx
 have B0 : Hid (Below w.heap.size w (((w.alloc (.cells #[.slice ao ns.length ca] 25)).alloc (.cells #[.int .i64 z, .slice xo es.length cx] 78)).alloc (.cells #[.slice none 0 0] 25))) := (((Below.refl _ _).alloc (Nat.le_refl _) _).alloc (by simp) _).alloc (by simp; omega) _
 have X0 : Hid (ApB w.heap.size (.slice ao ns.length ca) z (.slice xo es.length cx) (((w.alloc (.cells #[.slice ao ns.length ca] 25)).alloc (.cells #[.int .i64 z, .slice xo es.length cx] 78)).alloc (.cells #[.slice none 0 0] 25))) := ApB.new _ _ _ _
 clear h hx hsz hsx
 go_enter Tryz.func32, Tryz.ntmps32
 go_wp2_with fail
 generalize ((w.alloc (.cells #[.slice ao ns.length ca] 25)).alloc (.cells #[.int .i64 z, .slice xo es.length cx] 78)).alloc (.cells #[.slice none 0 0] 25) = w0 at *
 refine (specTree_any _ _ ns (HR.out.below B0.out) hn HZ.out).mono ?_
 rintro e w1 ⟨rfl, b1⟩
 have B1 := hd9 (B0.out.trans (b1.mono B0.out.size))
 have X1 := hd9 (X0.out.below b1 X0.out.size)
 clear b1 X0 B0
 by_cases hok : okTree ns = true
 rotate_left
 · have hok' : okTree ns = false := by simpa using hok
   have HT : Hid (resA ns z es = []) := by show _ = _; unfold resA; rw [hok']; rfl
   rw [hok']
   clear hok hok'
   have c0 := X1.out.r.cell
   have f0 := X1.out.r.frozen
   go_wp2
   refine bodyPost_ret (v := .agg #[.slice none 0 0]) (by simp [results, Tryz.results32, go_sem, c0]) rfl ⟨_, rfl, (by rw [HT.out]; exact World.ownsRow_nil _ _ _ _), ?_⟩
   repeat (first | exact B1.out | refine Below.setCell ?_ (by simp; try omega) _)
 rw [hok]
 have cx0 := X1.out.x.cells
 go_wp2_with fail
 clear cx0
 refine (specTxn_any _ _ _ es (HX.out.below B1.out) HZX.out).mono ?_
 rintro e w2 ⟨rfl, b2⟩
 have B2 := hd9 (B1.out.trans (b2.mono B1.out.size))
 have X2 := hd9 (X1.out.below b2 X1.out.size)
 clear b2 X1 B1
 by_cases hpp : okTxn z es = true
 rotate_left
 · have hpp' : okTxn z es = false := by simpa using hpp
   have HT : Hid (resA ns z es = []) := by show _ = _; unfold resA; rw [hpp']; simp
   rw [hpp']
   clear hpp hpp' hok
   have c0 := X2.out.r.cell
   have f0 := X2.out.r.frozen
   go_wp2
   refine bodyPost_ret (v := .agg #[.slice none 0 0]) (by simp [results, Tryz.results32, go_sem, c0]) rfl ⟨_, rfl, (by rw [HT.out]; exact World.ownsRow_nil _ _ _ _), ?_⟩
   repeat (first | exact B2.out | refine Below.setCell ?_ (by simp; try omega) _)
 have hn1 : ns.length ≤ 1000 := okTree_len hok
 have he1 : es.length ≤ 1000 := (okTxn_es hpp).2
 have HT : Hid (resA ns z es = apL ns es) := by show _ = _; unfold resA; rw [hok, hpp]; rfl
 have HA : Hid (Asc ns) := okTree_asc hok
 have HE : Hid (AscE es) := okEs_asc (okTxn_es hpp).1
 have HW0 : Hid (woN ns { data := #[] } = ns) := wo_empty (fun k hk => okTree_nd hok k hk) _ (by rw [ByteArray.toList_eq])
 rw [hpp]
 clear hok hpp
 have ct := X2.out.t.cell
 go_wp2_with fail
 clear ct
 refine (without_any _ _ ns _ (HR.out.below B2.out) (by omega)).mono ?_
 rintro e w3 ⟨v3, rfl, o3, b3⟩
 have B3 := hd9 (B2.out.trans (b3.mono B2.out.size))
 have X3 := hd9 (X2.out.below b3 X2.out.size)
 have O3 : Hid (OwnN 85 w3 (w.heap.size + 3) v3 (apL ns (es.take 0))) := by
  have := o3.mono X2.out.size
  rw [HW0.out] at this
  exact this
 clear o3 b3 X2 B2 HW0
 generalize hen : es.length = n at *
 have HP : Hid (es.length = n) := hen
 clear hen
 go_wp2
 go_loopw [5, 6] (fun vo vk wr => ∃ k : Nat, k ≤ n ∧ vk = .int .i64 k ∧ Hid (OwnN 85 wr (w.heap.size + 3) vo (apL ns (es.take k))) ∧ Hid (Below w.heap.size w wr) ∧ Hid (ApB w.heap.size (.slice ao ns.length ca) z (.slice xo n cx) wr)) (fun _ i _ => n - (intOf i).toNat)
 case atStart => exact ⟨0, Nat.zero_le _, rfl, O3, B3, X3⟩
 case round =>
  obtain ⟨k, hk, rfl, HW, HB, HBX⟩ := hrel
  have sB := HBX.out.size
  obtain ⟨y0, y1⟩ := HBX.out.x.cells
  by_cases hlt : k < n
  · have hltI : (k : Int) < (n : Int) := by omega
    obtain ⟨b, o, hao, hb, hc⟩ : ∃ b o, xo = some ⟨b, o, none⟩ ∧ b < w.heap.size ∧ CellsE w b (o + k * 8) (eAt es k) := by
     obtain ⟨ao', cap', e', -, -, h3⟩ := HX.out
     simp only [Value.slice.injEq] at e'
     obtain ⟨rfl, -, -⟩ := e'
     rcases h3 with h3 | ⟨b, o, rfl, hb, hc⟩
     · have := HP.out; rw [h3] at this; simp at this; omega
     · exact ⟨b, o, rfl, hb, hc k (by rw [HP.out]; exact hlt)⟩
    subst hao
    obtain ⟨c0, c1, c2, c3, c4, c5, c6, c7⟩ := hc.below HB.out hb
    clear hc
    have hll : (apL ns (es.take k)).length ≤ 100000 := by
     have := apL_len HA.out HE.out k
     omega
    have HS : Hid (apL ns (es.take (k + 1)) = apQ (apL ns (es.take k)) (eAt es k)) := apL_succ ns es k (by rw [HP.out]; exact hlt)
    have HQ : Hid (apQ (apL ns (es.take k)) (eAt es k) = if (eAt es k).del then woN (apL ns (es.take k)) (eAt es k).nd.path else wiN (apL ns (es.take k)) (eAt es k).nd) := rfl
    cases hA : (eAt es k).del with
    | true =>
     rw [hA] at c0
     go_wp2_with fail
     refine (without_any _ _ _ _ HW.out.rd (by omega)).mono ?_
     rintro e w4 ⟨v4, rfl, o4, b4⟩
     have B4 := hd9 (HB.out.trans (b4.mono HB.out.size))
     have X4 := hd9 (HBX.out.below b4 sB)
     have O4 : Hid (OwnN 85 w4 (w.heap.size + 3) v4 (apL ns (es.take (k + 1)))) := by
      rw [HS.out, HQ.out, hA]
      exact o4.mono sB
     clear o4 b4 HS HQ hA HW HB HBX c0 c1 c2 c3 c4 c5 c6 c7 y0 y1
     go_wp2
     exact ⟨⟨k + 1, by omega, by go_num, O4, B4, X4⟩, by simp [intOf]; omega⟩
    | false =>
     rw [hA] at c0
     go_wp2_with fail
     refine (with_any _ _ _ _ HW.out.rd hll).mono ?_
     rintro e w4 ⟨v4, rfl, o4, b4⟩
     have B4 := hd9 (HB.out.trans (b4.mono HB.out.size))
     have X4 := hd9 (HBX.out.below b4 sB)
     have O4 : Hid (OwnN 85 w4 (w.heap.size + 3) v4 (apL ns (es.take (k + 1)))) := by
      rw [HS.out, HQ.out, hA]
      exact o4.mono sB
     clear o4 b4 HS HQ hA HW HB HBX c0 c1 c2 c3 c4 c5 c6 c7 y0 y1
     go_wp2
     exact ⟨⟨k + 1, by omega, by go_num, O4, B4, X4⟩, by simp [intOf]; omega⟩
  · have hkn : k = n := by omega
    subst hkn
    have c0 := HBX.out.r.cell
    have f0 := HBX.out.r.frozen
    have HF : Hid (OwnN 85 wr (w.heap.size + 3) u5 (resA ns z es)) := by
     have := HW.out
     rw [List.take_of_length_le (by rw [HP.out]; exact Nat.le_refl _)] at this
     rw [HT.out]
     exact this
    clear HW
    obtain ⟨a5, c5, rfl⟩ := HF.out.slice
    go_wp2
    refine bodyPost_ret (v := .agg #[.slice a5 (resA ns z es).length c5]) (by simp [results, Tryz.results32, go_sem, c0]) rfl ⟨_, rfl, ?_, ?_⟩
    · refine OwnN.mono ?_ (show w.heap.size ≤ w.heap.size + 3 by omega)
      repeat (first | exact HF.out | refine OwnN.setBelow ?_ (by simp; try omega) _)
    · repeat (first | exact HB.out | refine Below.setCell ?_ (by simp; try omega) _)
end Go.Proofs.YtcopcegamadkgaaGreatDoor
namespace Go.Proofs.YtcopcegamadkgaaGreatDoor
open Go.RowKit
def Node7 (w : World) (B : Nat) (p d : ByteArray) (a b c e f : Int) : Prop :=
 w.heap[B]? = some (.cells #[.string p, .string d, .int .i64 a, .int .i64 b, .int .i64 c, .int .i64 e, .int .i64 f] 85 (0, 0))
theorem Node7.lt {w : World} {B : Nat} {p d : ByteArray} {a b c e f : Int} (h : Node7 w B p d a b c e f) : B < w.heap.size := (Array.getElem?_eq_some_iff.1 h).1
def slashT : ByteArray := ⟨#[47]⟩
def empty : ByteArray := ⟨#[]⟩
theorem specNewTree_any (w : World) : Calls Tryz.prog 74 #[] w fun e w' => e = .returned (.agg #[.slice (some ⟨w.heap.size + 1, 0, none⟩) 1 1]) ∧ Node7 w' (w.heap.size + 1) slashT empty 0 0 0 0 0 ∧ Below w.heap.size w w' := by
 go_enter Tryz.func74, Tryz.ntmps74
 go_wp2
 refine bodyPost_ret (v := .agg #[.slice (some ⟨w.heap.size + 1, 0, none⟩) 1 1]) (by simp [results, Tryz.results74, go_sem]) rfl ⟨rfl, ?_, ((Below.refl _ _).alloc (Nat.le_refl _) _).alloc (by simp) _⟩
 have := heap_alloc_new (w.alloc (.cells #[.slice (some ⟨w.heap.size + 1, 0, none⟩) 1 1] 25)) (.cells #[.string slashT, .string empty, .int .i64 0, .int .i64 0, .int .i64 0, .int .i64 0, .int .i64 0] 85)
 rw [World.size_alloc] at this
 exact this
def m1 : ByteArray := ⟨#[109, 49]⟩
def m2 : ByteArray := ⟨#[109, 50]⟩
theorem gset (w : World) (B j : Nat) (u : Value) : w.grownBy (w.setCell ⟨B, j, none⟩ u) (some B) := ⟨rfl, rfl, rfl, by simp, fun k _ hne => Below.heap_setCell _ _ _ _ (fun e => hne (by rw [e]))⟩
def rootN : Nd := ⟨slashT, empty, 0, 0, 0, 0, 0⟩
theorem OwnN.setO {w : World} {lo b j : Nat} {v : Value} {ns : List Nd} (h : OwnN 85 w lo v ns) (hn : v.ownBlock ≠ some b) (u : Value) : OwnN 85 (w.setCell ⟨b, j, none⟩ u) lo v ns := World.ownsRow.kept h (grownBy_set _ _ _ _ _ (World.grownBy.refl _ _)) (.inr hn)
theorem OwnE.slice9 {e : TypeId} {w : World} {lo : Nat} {v : Value} {es : List Ef} (h : OwnE e w lo v es) : ∃ a c, v = .slice a es.length c := by
 obtain ⟨a, c, h0, _⟩ := (OwnE.rd h).len
 exact ⟨a, c, h0⟩
theorem OwnN.slice9 {e : TypeId} {w : World} {lo : Nat} {v : Value} {ns : List Nd} (h : OwnN e w lo v ns) : ∃ a c, v = .slice a ns.length c := by
 obtain ⟨a, c, h0, _⟩ := h.rd.len
 exact ⟨a, c, h0⟩
end Go.Proofs.YtcopcegamadkgaaGreatDoor
namespace Go.Proofs.YtcopcegamadkgaaGreatDoor
open Go.RowKit Go.Shelf
theorem ownN_root {w : World} {B lo : Nat} (h : Node7 w B slashT empty 0 0 0 0 0) (hl : lo ≤ B) : OwnN 85 w lo (.slice (some ⟨B, 0, none⟩) 1 1) [rootN] :=
 ⟨rfl, .inr ⟨B, 1, _, rfl, hl, h, Nat.le_refl _, by unfold maxLen; omega, rfl, rfl⟩⟩
def Sr.gop (s : Sr) (ns : List Nd) (i : Nat) : Op5 × Sr := if i < 3 then (⟨1, ((s.op ns).2.near ns).1, ⟨#[120]⟩, 0, false⟩, ((s.op ns).2.near ns).2) else s.op ns
def Sr.grow (s : Sr) : Nat → List Nd × Nat × Sr
 | 0 => ([rootN], 0, s)
 | i + 1 =>
  if (doO (s.grow i).1 ((s.grow i).2.2.gop (s.grow i).1 i).1 (((s.grow i).2.1 + 1 : Nat) : Int)).1 = 0
  then ((doO (s.grow i).1 ((s.grow i).2.2.gop (s.grow i).1 i).1 (((s.grow i).2.1 + 1 : Nat) : Int)).2.1, (s.grow i).2.1 + 1, ((s.grow i).2.2.gop (s.grow i).1 i).2)
  else ((s.grow i).1, (s.grow i).2.1, ((s.grow i).2.2.gop (s.grow i).1 i).2)
theorem snd_root : Snd [rootN] := okTree_snd.1 (by decide)
theorem Sr.grow_inv (s : Sr) : ∀ i, i ≤ 1000000 → Snd (s.grow i).1 ∧ (s.grow i).1.length ≤ i + 1 ∧ (s.grow i).2.1 ≤ i
 | 0, _ => ⟨snd_root, by simp [Sr.grow], by simp [Sr.grow]⟩
 | i + 1, h => by
  obtain ⟨h1, h2, h3⟩ := s.grow_inv i (by omega)
  unfold Sr.grow
  split
  · refine ⟨doO_snd h1 _ (by unfold okS; simp; omega), ?_, ?_⟩
    · exact Nat.le_trans (doO_len h1.1 _ _) (by omega)
    · show (s.grow i).2.1 + 1 ≤ i + 1; omega
  · exact ⟨h1, by show (s.grow i).1.length ≤ _; omega, by show (s.grow i).2.1 ≤ _; omega⟩
theorem snd_sz {ns : List Nd} (h : Snd ns) (i : Nat) : (nAt ns i).path.size ≤ 1000 ∧ (nAt ns i).data.size ≤ 1000 := by
 by_cases hi : i < ns.length
 · have := okNd_all (h.2.1 _ (List.getElem_mem hi))
   rw [nAt_get hi]; omega
 · have : nAt ns i = nd0 := by unfold nAt; simp [List.getD, List.getElem?_eq_none (show ns.length ≤ i by omega)]
   rw [this]; simp [nd0]
theorem Sr.near_size (s : Sr) {ns : List Nd} (h : Snd ns) : (s.near ns).1.size ≤ 2000 := by
 unfold Sr.near
 split
 · have := s.path_len
   show s.path.1.toArray.size ≤ _
   simp; omega
 · split
   · have := (snd_sz h (s.next ns.length).1).1
     show (nAt ns (s.next ns.length).1).path.size ≤ _; omega
   · have := (snd_sz h (s.next ns.length).1).1
     have e0 : (⟨#[]⟩ : ByteArray).size = 0 := rfl
     have e1 : (⟨#[47]⟩ : ByteArray).size = 1 := rfl
     have e2 : ∀ x, (⟨#[x]⟩ : ByteArray).size = 1 := fun _ => rfl
     split
     · simp only [ByteArray.size_append]
       rw [e0, e1, e2]; omega
     · simp only [ByteArray.size_append]
       rw [e1, e2]; omega
theorem Sr.op_size (s : Sr) {ns : List Nd} (h : Snd ns) : (s.op ns).1.path.size ≤ 2000 ∧ (s.op ns).1.data.size ≤ 64 := by
 unfold Sr.op
 have z : (⟨#[]⟩ : ByteArray).size = 0 := rfl
 split
 · exact ⟨Sr.near_size _ h, Sr.data_len _⟩
 · split
   · exact ⟨Sr.near_size _ h, by rw [z]; omega⟩
   · split
     · exact ⟨Sr.near_size _ h, Sr.data_len _⟩
     · exact ⟨Sr.near_size _ h, by rw [z]; omega⟩
theorem Sr.gop_size (s : Sr) {ns : List Nd} (h : Snd ns) (i : Nat) : (s.gop ns i).1.path.size ≤ 2000 ∧ (s.gop ns i).1.data.size ≤ 64 := by
 unfold Sr.gop
 split
 · exact ⟨Sr.near_size _ h, by show (⟨#[120]⟩ : ByteArray).size ≤ 64; decide⟩
 · exact s.op_size h
theorem runO_one (z : Int) (o : Op5) (ns : List Nd) : runO z [o] ns 0 [] = if (doO ns o z).1 ≠ 0 then ((doO ns o z).1, 0, ns, []) else (0, 1, (doO ns o z).2.1, [(doO ns o z).2.2]) := rfl
theorem dif_sz {A B : List Nd} (hA : Snd A) (hB : Snd B) (i : Nat) : (eAt (dif A B) i).nd.path.size ≤ 1048576 ∧ (eAt (dif A B) i).nd.data.size ≤ 1048576 := by
 by_cases hi : i < (dif A B).length
 · have h := dif_ok A B hA.2.1 hB.2.1 _ (List.getElem_mem hi)
   rw [eAt_get hi]
   unfold okEf at h
   simp only [Bool.and_eq_true] at h
   have := okNd_all h.1
   omega
 · have : eAt (dif A B) i = ef0 := by unfold eAt; simp [List.getD, List.getElem?_eq_none (show (dif A B).length ≤ i by omega)]
   rw [this]; simp [ef0, nd0]
structure GR (W : World) (k B TB : Nat) (v : Value) (ns : List Nd) (s : Sr) (w : World) : Prop where
 src : SRX w k B s
 tch : Tch k W w
 own : OwnN 85 w W.heap.size v ns
 ct : w.cell? ⟨TB, 0, none⟩ = some v
 ft : w.frozen? ⟨TB, 0, none⟩ = false
 cr : w.cell? ⟨W.heap.size, 0, none⟩ = some (.slice none 0 0)
 fr : w.frozen? ⟨W.heap.size, 0, none⟩ = false
 tb : W.heap.size < TB
 lt : TB < w.heap.size
 vt : v.ownBlock ≠ some TB
 vr : v.ownBlock ≠ some W.heap.size
theorem GR.next {W w w' : World} {k B TB : Nat} {v : Value} {ns : List Nd} {s s' : Sr} (h : GR W k B TB v ns s w) (hs : SRX w' k B s') (t : Tch k w w') (hk : k < W.heap.size) : GR W k B TB v ns s' w' := by
 have a := t.2 W.heap.size (by omega) (by have := h.lt; have := h.tb; omega)
 have b := t.2 TB (by have := h.tb; omega) h.lt
 exact ⟨hs, h.tch.trans t, rowTch h.own t hk, (World.cell?_of_block (w := w) (a := ⟨TB, 0, none⟩) b).trans h.ct, (World.frozen?_of_block (w := w) b).trans h.ft, (World.cell?_of_block (w := w) (a := ⟨W.heap.size, 0, none⟩) a).trans h.cr, (World.frozen?_of_block (w := w) a).trans h.fr, h.tb, Nat.lt_of_lt_of_le h.lt t.size, h.vt, h.vr⟩
theorem GR.below {W w w' : World} {k B TB : Nat} {v : Value} {ns : List Nd} {s : Sr} (h : GR W k B TB v ns s w) (hb : Below w.heap.size w w') (hk : k < W.heap.size) : GR W k B TB v ns s w' :=
 h.next (h.src.keep (hb.mono h.src.lt)) (Tch.of hb) hk
theorem GR.far {W w w' : World} {k B TB m : Nat} {v : Value} {ns : List Nd} {s : Sr} (h : GR W k B TB v ns s w) (hb : Below m w w') (hm : TB < m) (hB : B ≤ TB) (hv : ∀ g, v.ownBlock = some g → g < m) : GR W k B TB v ns s w' := by
 have htb := h.tb
 refine ⟨h.src.keep (hb.mono (by omega)), h.tch.then (hb.mono (by omega)), ?_, (hb.cell (p := ⟨TB, 0, none⟩) hm).trans h.ct, (hb.frozen (p := ⟨TB, 0, none⟩) hm).trans h.ft, (hb.cell (p := ⟨W.heap.size, 0, none⟩) (show W.heap.size < m by omega)).trans h.cr, (hb.frozen (p := ⟨W.heap.size, 0, none⟩) (show W.heap.size < m by omega)).trans h.fr, h.tb, Nat.lt_of_lt_of_le h.lt hb.size, h.vt, h.vr⟩
 refine ⟨h.own.1, ?_⟩
 rcases h.own.2 with hn | ⟨g, cap, cur, rfl, hbg, hgg, rest⟩
 · exact .inl hn
 · exact .inr ⟨g, cap, cur, rfl, hbg, by rw [hb.block g (hv g rfl)]; exact hgg, rest⟩
theorem GR.put {W w : World} {k B TB lo : Nat} {v v' : Value} {ns ns' : List Nd} {s : Sr} (h : GR W k B TB v ns s w) (o : OwnN 85 w lo v' ns') (hlo : TB < lo) (hB : B ≤ TB) : GR W k B TB v' ns' s (w.setCell ⟨TB, 0, none⟩ v') := by
 have htb := h.tb
 have hne : v'.ownBlock ≠ some TB := fun e => by have := (World.ownsRow.lt o _ e).1; omega
 have hne2 : v'.ownBlock ≠ some W.heap.size := fun e => by have := (World.ownsRow.lt o _ e).1; omega
 refine ⟨h.src.keep ((Below.refl _ _).setCell hB _), h.tch.then ((Below.refl _ _).setCell (by show _ ≤ TB; omega) _), (OwnN.setO o hne _).mono (by omega), World.cell?_setCell_same _ _ _ h.ct, by rw [World.frozen?_setCell]; exact h.ft, (World.cell?_setCell_other _ _ _ _ (by intro e; injection e with e; omega)).trans h.cr, by rw [World.frozen?_setCell]; exact h.fr, h.tb, by simpa using h.lt, hne, hne2⟩
theorem rdO_one (w : World) (o : Op5) (t : TypeId) : RdO (w.alloc (.cells #[.int .i64 o.kind, .string o.path, .string o.data, .int .i64 o.ver, .bool o.seq] t)) (.slice (some ⟨w.heap.size, 0, none⟩) 1 1) [o] := by
 refine ⟨_, 1, rfl, Nat.le_refl _, by unfold maxLen; omega, .inr ⟨w.heap.size, 0, rfl, by simp, fun i hi => ?_⟩⟩
 obtain rfl : i = 0 := by simp at hi; omega
 have hc := fun j => cell_of (heap_alloc_new w (.cells #[.int .i64 o.kind, .string o.path, .string o.data, .int .i64 o.ver, .bool o.seq] t)) j
 refine ⟨?_, ?_, ?_, ?_, ?_⟩ <;> simp [hc, oAt]
theorem grow_x (W : World) (k B n : Nat) (s : Sr) (h : SRX W k B s) (hn : n ≤ 60) :
    Calls Tryz.prog 24 #[.pointer (some ⟨k, 0, none⟩), .int .i64 (n : Int)] W fun e w' => ∃ v, e = .returned (.tuple #[.agg #[v], .int .i64 ((s.grow n).2.1 : Int)]) ∧ OwnN 85 w' W.heap.size v (s.grow n).1 ∧ SRX w' k B (s.grow n).2.2 ∧ Tch k W w' := by
 have hk1 := h.kB
 have hk2 := h.lt
 have hkW : k < W.heap.size := by omega
 have HS : Hid (SRX W k B s) := h
 have HINV : Hid (∀ i, i ≤ 60 → Snd (s.grow i).1 ∧ (s.grow i).1.length ≤ i + 1 ∧ (s.grow i).2.1 ≤ i) := fun i hi => s.grow_inv i (by omega)
 have BR : Hid (Below W.heap.size W (W.alloc (.cells #[.slice none 0 0] 25))) := (Below.refl _ _).alloc (Nat.le_refl _) _
 clear h
 go_enter Tryz.func24, Tryz.ntmps24
 go_wp2_with fail
 refine (specNewTree_any _).mono ?_
 rintro e w1 ⟨rfl, n1, b1⟩
 have hsz : (W.alloc (.cells #[.slice none 0 0] 25)).heap.size = W.heap.size + 1 := by simp
 rw [hsz] at n1 b1 ⊢
 have s1 := n1.lt
 have c1 := (b1.cell (p := ⟨W.heap.size, 0, none⟩) (show W.heap.size < _ by omega)).trans (show (W.alloc (.cells #[.slice none 0 0] 25)).cell? ⟨W.heap.size, 0, none⟩ = some (.slice none 0 0) by simp)
 have f1 := (b1.frozen (p := ⟨W.heap.size, 0, none⟩) (show W.heap.size < _ by omega)).trans (show (W.alloc (.cells #[.slice none 0 0] 25)).frozen? ⟨W.heap.size, 0, none⟩ = false by simp)
 have bA : Below w1.heap.size w1 (w1.alloc (.cells #[.slice (some ⟨W.heap.size + 1 + 1, 0, none⟩) 1 1] 25)) := (Below.refl _ _).alloc (Nat.le_refl _) _
 have bW : Below W.heap.size W w1 := BR.out.trans (b1.mono (by omega))
 have G1 : Hid (GR W k B w1.heap.size (.slice (some ⟨W.heap.size + 1 + 1, 0, none⟩) 1 1) [rootN] s (w1.alloc (.cells #[.slice (some ⟨W.heap.size + 1 + 1, 0, none⟩) 1 1] 25))) := by
  refine ⟨HS.out.keep ((bW.trans (bA.mono (by omega))).mono hk2), Tch.of (bW.trans (bA.mono (by omega))), (ownN_root n1 (by omega)).below bA, by simp, by simp, (bA.cell (p := ⟨W.heap.size, 0, none⟩) (show W.heap.size < _ by omega)).trans c1, (bA.frozen (p := ⟨W.heap.size, 0, none⟩) (show W.heap.size < _ by omega)).trans f1, by omega, by simp, ?_, ?_⟩
  · simp [Value.ownBlock]; omega
  · simp [Value.ownBlock]; omega
 clear n1 b1 c1 f1 bA bW BR hsz
 go_wp2
 generalize w1.alloc (.cells #[.slice (some ⟨W.heap.size + 1 + 1, 0, none⟩) 1 1] 25) = w2 at *
 generalize w1.heap.size = TB at *
 go_loopw [7, 8] (fun z i wr => ∃ (j : Nat) (v : Value), j ≤ n ∧ i = .int .i64 j ∧ z = .int .i64 ((s.grow j).2.1 : Int) ∧ Hid (GR W k B TB v (s.grow j).1 (s.grow j).2.2 wr)) (fun _ i _ => n - (intOf i).toNat)
 case atStart => exact ⟨0, _, Nat.zero_le _, rfl, rfl, G1⟩
 case round =>
  clear G1
  obtain ⟨j, v, hj, rfl, rfl, HG⟩ := hrel
  obtain ⟨av, cv, rfl⟩ := HG.out.own.slice
  by_cases hlt : j < n
  · have hltI : (j : Int) < (n : Int) := by omega
    obtain ⟨hsnd, hlen, hzj⟩ := HINV.out j (by omega)
    have HSN : Hid (Snd (s.grow j).1) := hsnd
    have HST : Hid (s.grow (j + 1) = if (doO (s.grow j).1 ((s.grow j).2.2.gop (s.grow j).1 j).1 (((s.grow j).2.1 + 1 : Nat) : Int)).1 = 0
     then ((doO (s.grow j).1 ((s.grow j).2.2.gop (s.grow j).1 j).1 (((s.grow j).2.1 + 1 : Nat) : Int)).2.1, (s.grow j).2.1 + 1, ((s.grow j).2.2.gop (s.grow j).1 j).2)
     else ((s.grow j).1, (s.grow j).2.1, ((s.grow j).2.2.gop (s.grow j).1 j).2)) := rfl
    have HGS := (s.grow j).2.2.gop_size hsnd j
    have e1 : (((s.grow j).2.1 + 1 : Nat) : Int) = ((s.grow j).2.1 : Int) + 1 := by omega
    rw [e1] at HST
    have HPK : Hid (∀ o : Op5, okPrep (s.grow j).1 [o] (((s.grow j).2.1 : Int) + 1) = true) := by
     intro o
     unfold okPrep
     rw [okTree_snd.2 hsnd]
     simp
     omega
    have HND : Hid (∀ o : Op5, Snd (doO (s.grow j).1 o (((s.grow j).2.1 : Int) + 1)).2.1 ∧ (doO (s.grow j).1 o (((s.grow j).2.1 : Int) + 1)).2.1.length ≤ j + 2) := fun o => ⟨doO_snd hsnd o (by unfold okS; simp; omega), Nat.le_trans (doO_len hsnd.1 _ _) (by omega)⟩
    clear hsnd e1
    generalize s.grow j = q at *
    have ct := HG.out.ct
    go_wp2_with fail
    clear ct
    refine (op_x _ k B W.heap.size q.2.2 _ q.1 HG.out.src HG.out.own hkW (by omega) (fun i _ => (snd_sz HSN.out i).1)).mono ?_
    rintro e w3 ⟨rfl, s3, t3⟩
    have G3 := hd9 (HG.out.next s3 t3 hkW)
    have HGP : Hid (q.2.2.gop q.1 j = if j < 3 then (⟨1, ((q.2.2.op q.1).2.near q.1).1, ⟨#[120]⟩, 0, false⟩, ((q.2.2.op q.1).2.near q.1).2) else q.2.2.op q.1) := rfl
    have hBT : B ≤ TB := by have := HG.out.tb; omega
    clear s3 t3 HG
    generalize q.2.2.op q.1 = oq at *
    have bA : Below w3.heap.size w3 (w3.alloc (.cells #[.int .i64 oq.1.kind, .string oq.1.path, .string oq.1.data, .int .i64 oq.1.ver, .bool oq.1.seq] 123)) := (Below.refl _ _).alloc (Nat.le_refl _) _
    have G4 := hd9 (G3.out.below bA hkW)
    have X4 : Hid (BoxO (w3.alloc (.cells #[.int .i64 oq.1.kind, .string oq.1.path, .string oq.1.data, .int .i64 oq.1.ver, .bool oq.1.seq] 123)) w3.heap.size oq.1) := BoxO.new _ _ _
    have F4 : Hid (∀ i, (w3.alloc (.cells #[.int .i64 oq.1.kind, .string oq.1.path, .string oq.1.data, .int .i64 oq.1.ver, .bool oq.1.seq] 123)).frozen? ⟨w3.heap.size, i, none⟩ = false) := fun i => by simp
    have hOB : TB < w3.heap.size := G3.out.lt
    have HVB : Hid (∀ g, Value.ownBlock (.slice av q.1.length cv) = some g → g < w3.heap.size) := fun g e => (World.ownsRow.lt G3.out.own g e).2
    clear bA G3
    have ct := G4.out.ct
    by_cases h3 : j < 3
    · have h3I : (j : Int) < 3 := by omega
      rw [if_pos h3] at HGP
      go_wp2_with fail
      clear ct
      generalize w3.alloc (.cells #[.int .i64 oq.1.kind, .string oq.1.path, .string oq.1.data, .int .i64 oq.1.ver, .bool oq.1.seq] 123) = w4 at *
      generalize w3.heap.size = OB at *
      refine (near_x _ k B W.heap.size oq.2 _ q.1 G4.out.src G4.out.own hkW (by omega) (fun i _ => (snd_sz HSN.out i).1)).mono ?_
      rintro e w5 ⟨rfl, s5, t5⟩
      have G5 := hd9 (G4.out.next s5 t5 hkW)
      have hkO : OB ≠ k := by have := G4.out.tb; omega
      have X5 : Hid (BoxO w5 OB oq.1) := by
       obtain ⟨xl, c0, c1, c2, c3, c4⟩ := X4.out
       have b := t5.2 OB hkO xl
       exact ⟨Nat.lt_of_lt_of_le xl t5.size, (World.cell?_of_block (w := w4) (a := ⟨OB, 0, none⟩) b).trans c0, (World.cell?_of_block (w := w4) (a := ⟨OB, 1, none⟩) b).trans c1, (World.cell?_of_block (w := w4) (a := ⟨OB, 2, none⟩) b).trans c2, (World.cell?_of_block (w := w4) (a := ⟨OB, 3, none⟩) b).trans c3, (World.cell?_of_block (w := w4) (a := ⟨OB, 4, none⟩) b).trans c4⟩
      have F5 : Hid (∀ i, w5.frozen? ⟨OB, i, none⟩ = false) := fun i => (World.frozen?_of_block (w := w4) (t5.2 OB hkO X4.out.1)).trans (F4.out i)
      clear s5 t5 G4 X4 F4
      generalize oq.2.near q.1 = pq at *
      obtain ⟨xl, c0, c1, c2, c3, c4⟩ := X5.out
      have f0 := F5.out 0
      have f1 := F5.out 1
      have f2 := F5.out 2
      have f3 := F5.out 3
      have f4 := F5.out 4
      have ct := G5.out.ct
      have hnTB : TB ≠ OB := by omega
      go_wp2_with fail
      have bS : Below OB w5 (((((w5.setCell ⟨OB, 0, none⟩ (.int .i64 1)).setCell ⟨OB, 1, none⟩ (.string pq.1)).setCell ⟨OB, 2, none⟩ (.string ⟨#[120]⟩)).setCell ⟨OB, 3, none⟩ (.int .i64 0)).setCell ⟨OB, 4, none⟩ (.bool false)) := by
       iterate 5 refine Below.setCell ?_ (by show OB ≤ OB; exact Nat.le_refl _) _
       exact Below.refl _ _
      have G6 : Hid (GR W k B TB (.slice av q.1.length cv) q.1 pq.2 (((((w5.setCell ⟨OB, 0, none⟩ (.int .i64 1)).setCell ⟨OB, 1, none⟩ (.string pq.1)).setCell ⟨OB, 2, none⟩ (.string ⟨#[120]⟩)).setCell ⟨OB, 3, none⟩ (.int .i64 0)).setCell ⟨OB, 4, none⟩ (.bool false))) := G5.out.far bS hOB hBT HVB.out
      have hs6 : (((((w5.setCell ⟨OB, 0, none⟩ (.int .i64 1)).setCell ⟨OB, 1, none⟩ (.string pq.1)).setCell ⟨OB, 2, none⟩ (.string ⟨#[120]⟩)).setCell ⟨OB, 3, none⟩ (.int .i64 0)).setCell ⟨OB, 4, none⟩ (.bool false)).heap.size = w5.heap.size := by simp
      rw [← hs6]
      clear bS xl c0 c1 c2 c3 c4 f0 f1 f2 f3 f4 ct G5 X5 F5
      generalize ((((w5.setCell ⟨OB, 0, none⟩ (.int .i64 1)).setCell ⟨OB, 1, none⟩ (.string pq.1)).setCell ⟨OB, 2, none⟩ (.string ⟨#[120]⟩)).setCell ⟨OB, 3, none⟩ (.int .i64 0)).setCell ⟨OB, 4, none⟩ (.bool false) = w6 at *
      have HGO : Hid (q.2.2.gop q.1 j = (⟨1, pq.1, ⟨#[120]⟩, 0, false⟩, pq.2)) := HGP.out
      have hsz1 : (⟨1, pq.1, ⟨#[120]⟩, 0, false⟩ : Op5).path.size ≤ 2000 ∧ (⟨1, pq.1, ⟨#[120]⟩, 0, false⟩ : Op5).data.size ≤ 64 := by
       rw [HGO.out] at HGS; exact HGS
      rw [HGO.out] at HST
      have HDD : Hid (Snd (doO q.1 ⟨1, pq.1, ⟨#[120]⟩, 0, false⟩ ((q.2.1 : Int) + 1)).2.1 ∧ (doO q.1 ⟨1, pq.1, ⟨#[120]⟩, 0, false⟩ ((q.2.1 : Int) + 1)).2.1.length ≤ j + 2) := HND.out ⟨1, pq.1, ⟨#[120]⟩, 0, false⟩
      have CP := fun W' v' (hv : RdN W' v' q.1) (vo : Value) (ho : RdO W' vo [⟨1, pq.1, ⟨#[120]⟩, 0, false⟩]) => specPrep_ok W' v' vo q.1 [⟨1, pq.1, ⟨#[120]⟩, 0, false⟩] ((q.2.1 : Int) + 1) hv ho (fun i hi => by
       obtain rfl : i = 0 := by simp at hi; omega
       show (⟨1, pq.1, ⟨#[120]⟩, 0, false⟩ : Op5).path.size ≤ _ ∧ (⟨1, pq.1, ⟨#[120]⟩, 0, false⟩ : Op5).data.size ≤ _
       omega) (HPK.out _)
      have HRO : Hid (runO ((q.2.1 : Int) + 1) [⟨1, pq.1, ⟨#[120]⟩, 0, false⟩] q.1 0 [] = if (doO q.1 ⟨1, pq.1, ⟨#[120]⟩, 0, false⟩ ((q.2.1 : Int) + 1)).1 ≠ 0 then ((doO q.1 ⟨1, pq.1, ⟨#[120]⟩, 0, false⟩ ((q.2.1 : Int) + 1)).1, 0, q.1, []) else (0, 1, (doO q.1 ⟨1, pq.1, ⟨#[120]⟩, 0, false⟩ ((q.2.1 : Int) + 1)).2.1, [(doO q.1 ⟨1, pq.1, ⟨#[120]⟩, 0, false⟩ ((q.2.1 : Int) + 1)).2.2])) := runO_one _ _ _
      have RO := rdO_one w6 ⟨1, pq.1, ⟨#[120]⟩, 0, false⟩ 123
      have b7 : Below w6.heap.size w6 (w6.alloc (.cells #[.int .i64 (⟨1, pq.1, ⟨#[120]⟩, 0, false⟩ : Op5).kind, .string (⟨1, pq.1, ⟨#[120]⟩, 0, false⟩ : Op5).path, .string (⟨1, pq.1, ⟨#[120]⟩, 0, false⟩ : Op5).data, .int .i64 (⟨1, pq.1, ⟨#[120]⟩, 0, false⟩ : Op5).ver, .bool (⟨1, pq.1, ⟨#[120]⟩, 0, false⟩ : Op5).seq] 123)) := (Below.refl _ _).alloc (Nat.le_refl _) _
      have G7 := hd9 (G6.out.below b7 hkW)
      try dsimp only at RO b7 G7
      have CC := CP _ _ G7.out.own.rd _ RO
      clear CP RO b7
      generalize w6.alloc (.cells #[_, _, _, _, _] 123) = w7 at *
      refine CC.mono ?_
      rintro e w8 ⟨b8, hres⟩
      clear CC
      rw [HRO.out] at hres
      have G8 := hd9 (G7.out.below b8 hkW)
      clear G6 G7 b8 HRO HGO HND HPK
      generalize doO q.1 ⟨1, pq.1, ⟨#[120]⟩, 0, false⟩ ((q.2.1 : Int) + 1) = dd at *
      by_cases hd : dd.1 = 0
      · rw [if_neg (by simpa using hd)] at hres
        rw [if_pos hd] at HST
        rcases hres with ⟨hne, -⟩ | ⟨-, vn, ve, rfl, on, oe⟩
        · exact absurd rfl hne
        obtain ⟨ea, ec, rfl, _, _⟩ := (OwnE.rd oe).len
        obtain ⟨na, nl, nc, rfl⟩ : ∃ a n c, vn = .slice a n c := by
         rcases on.2 with ⟨rfl, -⟩ | ⟨g, cap, cur, rfl, -⟩
         · exact ⟨_, _, _, rfl⟩
         · exact ⟨_, _, _, rfl⟩
        have bA : Below w8.heap.size w8 (w8.alloc (.cells #[.int .i64 0, .int .i64 0, .slice na nl nc, .int .i64 ((q.2.1 : Int) + 1), .slice ea (dif q.1 dd.2.1).length ec] 128)) := (Below.refl _ _).alloc (Nat.le_refl _) _
        have G9 := hd9 (G8.out.below bA hkW)
        have E9 : Hid (RdE (w8.alloc (.cells #[.int .i64 0, .int .i64 0, .slice na nl nc, .int .i64 ((q.2.1 : Int) + 1), .slice ea (dif q.1 dd.2.1).length ec] 128)) (.slice ea (dif q.1 dd.2.1).length ec) (dif q.1 dd.2.1)) := (OwnE.rd oe).below bA
        have HSZ9 : Hid (∀ i, (eAt (dif q.1 dd.2.1) i).nd.path.size ≤ 1048576 ∧ (eAt (dif q.1 dd.2.1) i).nd.data.size ≤ 1048576) := dif_sz HSN.out HDD.out.1
        have HRA : Hid (resA q.1 ((q.2.1 : Int) + 1) (dif q.1 dd.2.1) = dd.2.1) := resA_dif HSN.out HDD.out.1 (by have := HDD.out.2; omega) (by omega)
        have ct := G9.out.ct
        clear on oe bA G8
        generalize dif q.1 dd.2.1 = DF at *
        go_wp2_with fail
        clear ct
        refine (specApply_any _ _ q.1 ((q.2.1 : Int) + 1) _ DF G9.out.own.rd E9.out (by omega) (fun i => by have := snd_sz HSN.out i; omega) HSZ9.out).mono ?_
        rintro e w10 ⟨v10, rfl, o10, b10⟩
        rw [HRA.out] at o10
        have G10 := hd9 (G9.out.below b10 hkW)
        have HL9 : TB < (w8.alloc (.cells #[.int .i64 0, .int .i64 0, .slice na nl nc, .int .i64 ((q.2.1 : Int) + 1), .slice ea DF.length ec] 128)).heap.size := G9.out.lt
        have G11 : Hid (GR W k B TB v10 dd.2.1 pq.2 (w10.setCell ⟨TB, 0, none⟩ v10)) := G10.out.put o10 HL9 hBT
        have ct := G10.out.ct
        have ft := G10.out.ft
        obtain ⟨a10, c10, rfl⟩ := OwnN.slice9 o10
        clear o10 b10 G9 E9 G10 HL9 HRA HSZ9
        go_wp2
        go_roundw
        case rel => exact ⟨j + 1, _, by omega, by go_num, by rw [HST.out]; go_num, by rw [HST.out]; exact G11⟩
        case measure => simp [intOf]; omega
      · rw [if_pos (by simpa using hd)] at hres
        rw [if_neg hd] at HST
        rcases hres with ⟨-, rfl⟩ | ⟨heq, -⟩
        rotate_left
        · exact absurd heq hd
        have bA : Below w8.heap.size w8 (w8.alloc (.cells #[.int .i64 dd.1, .int .i64 0, .slice none 0 0, .int .i64 0, .slice none 0 0] 128)) := (Below.refl _ _).alloc (Nat.le_refl _) _
        have G9 := hd9 (G8.out.below bA hkW)
        have hdb : (dd.1 == 0) = false := by simpa using hd
        clear bA G8
        go_wp2
        go_roundw
        case rel => exact ⟨j + 1, _, by omega, by go_num, by rw [HST.out], by rw [HST.out]; exact G9⟩
        case measure => simp [intOf]; omega
    · have h3I : ¬ (j : Int) < 3 := by omega
      rw [if_neg h3] at HGP
      obtain ⟨xl, c0, c1, c2, c3, c4⟩ := X4.out
      have HG6 : Hid (GR W k B TB (.slice av q.1.length cv) q.1 oq.2 (w3.alloc (.cells #[.int .i64 oq.1.kind, .string oq.1.path, .string oq.1.data, .int .i64 oq.1.ver, .bool oq.1.seq] 123))) := G4.out
      go_wp2_with fail
      have G6 := HG6
      clear ct xl c0 c1 c2 c3 c4 G4 X4 F4 HG6
      have hs6 : (w3.alloc (.cells #[.int .i64 oq.1.kind, .string oq.1.path, .string oq.1.data, .int .i64 oq.1.ver, .bool oq.1.seq] 123)).heap.size = w3.heap.size + 1 := by simp
      rw [← hs6]
      generalize w3.alloc (.cells #[.int .i64 oq.1.kind, .string oq.1.path, .string oq.1.data, .int .i64 oq.1.ver, .bool oq.1.seq] 123) = w6 at *
      have HGO : Hid (q.2.2.gop q.1 j = (oq.1, oq.2)) := HGP.out
      have hsz1 : (oq.1 : Op5).path.size ≤ 2000 ∧ (oq.1 : Op5).data.size ≤ 64 := by
       rw [HGO.out] at HGS; exact HGS
      rw [HGO.out] at HST
      have HDD : Hid (Snd (doO q.1 oq.1 ((q.2.1 : Int) + 1)).2.1 ∧ (doO q.1 oq.1 ((q.2.1 : Int) + 1)).2.1.length ≤ j + 2) := HND.out oq.1
      have CP := fun W' v' (hv : RdN W' v' q.1) (vo : Value) (ho : RdO W' vo [oq.1]) => specPrep_ok W' v' vo q.1 [oq.1] ((q.2.1 : Int) + 1) hv ho (fun i hi => by
       obtain rfl : i = 0 := by simp at hi; omega
       show (oq.1 : Op5).path.size ≤ _ ∧ (oq.1 : Op5).data.size ≤ _
       omega) (HPK.out _)
      have HRO : Hid (runO ((q.2.1 : Int) + 1) [oq.1] q.1 0 [] = if (doO q.1 oq.1 ((q.2.1 : Int) + 1)).1 ≠ 0 then ((doO q.1 oq.1 ((q.2.1 : Int) + 1)).1, 0, q.1, []) else (0, 1, (doO q.1 oq.1 ((q.2.1 : Int) + 1)).2.1, [(doO q.1 oq.1 ((q.2.1 : Int) + 1)).2.2])) := runO_one _ _ _
      have RO := rdO_one w6 oq.1 123
      have b7 : Below w6.heap.size w6 (w6.alloc (.cells #[.int .i64 (oq.1 : Op5).kind, .string (oq.1 : Op5).path, .string (oq.1 : Op5).data, .int .i64 (oq.1 : Op5).ver, .bool (oq.1 : Op5).seq] 123)) := (Below.refl _ _).alloc (Nat.le_refl _) _
      have G7 := hd9 (G6.out.below b7 hkW)
      try dsimp only at RO b7 G7
      have CC := CP _ _ G7.out.own.rd _ RO
      clear CP RO b7
      generalize w6.alloc (.cells #[_, _, _, _, _] 123) = w7 at *
      refine CC.mono ?_
      rintro e w8 ⟨b8, hres⟩
      clear CC
      rw [HRO.out] at hres
      have G8 := hd9 (G7.out.below b8 hkW)
      clear G6 G7 b8 HRO HGO HND HPK
      generalize doO q.1 oq.1 ((q.2.1 : Int) + 1) = dd at *
      by_cases hd : dd.1 = 0
      · rw [if_neg (by simpa using hd)] at hres
        rw [if_pos hd] at HST
        rcases hres with ⟨hne, -⟩ | ⟨-, vn, ve, rfl, on, oe⟩
        · exact absurd rfl hne
        obtain ⟨ea, ec, rfl, _, _⟩ := (OwnE.rd oe).len
        obtain ⟨na, nl, nc, rfl⟩ : ∃ a n c, vn = .slice a n c := by
         rcases on.2 with ⟨rfl, -⟩ | ⟨g, cap, cur, rfl, -⟩
         · exact ⟨_, _, _, rfl⟩
         · exact ⟨_, _, _, rfl⟩
        have bA : Below w8.heap.size w8 (w8.alloc (.cells #[.int .i64 0, .int .i64 0, .slice na nl nc, .int .i64 ((q.2.1 : Int) + 1), .slice ea (dif q.1 dd.2.1).length ec] 128)) := (Below.refl _ _).alloc (Nat.le_refl _) _
        have G9 := hd9 (G8.out.below bA hkW)
        have E9 : Hid (RdE (w8.alloc (.cells #[.int .i64 0, .int .i64 0, .slice na nl nc, .int .i64 ((q.2.1 : Int) + 1), .slice ea (dif q.1 dd.2.1).length ec] 128)) (.slice ea (dif q.1 dd.2.1).length ec) (dif q.1 dd.2.1)) := (OwnE.rd oe).below bA
        have HSZ9 : Hid (∀ i, (eAt (dif q.1 dd.2.1) i).nd.path.size ≤ 1048576 ∧ (eAt (dif q.1 dd.2.1) i).nd.data.size ≤ 1048576) := dif_sz HSN.out HDD.out.1
        have HRA : Hid (resA q.1 ((q.2.1 : Int) + 1) (dif q.1 dd.2.1) = dd.2.1) := resA_dif HSN.out HDD.out.1 (by have := HDD.out.2; omega) (by omega)
        have ct := G9.out.ct
        clear on oe bA G8
        generalize dif q.1 dd.2.1 = DF at *
        go_wp2_with fail
        clear ct
        refine (specApply_any _ _ q.1 ((q.2.1 : Int) + 1) _ DF G9.out.own.rd E9.out (by omega) (fun i => by have := snd_sz HSN.out i; omega) HSZ9.out).mono ?_
        rintro e w10 ⟨v10, rfl, o10, b10⟩
        rw [HRA.out] at o10
        have G10 := hd9 (G9.out.below b10 hkW)
        have HL9 : TB < (w8.alloc (.cells #[.int .i64 0, .int .i64 0, .slice na nl nc, .int .i64 ((q.2.1 : Int) + 1), .slice ea DF.length ec] 128)).heap.size := G9.out.lt
        have G11 : Hid (GR W k B TB v10 dd.2.1 oq.2 (w10.setCell ⟨TB, 0, none⟩ v10)) := G10.out.put o10 HL9 hBT
        have ct := G10.out.ct
        have ft := G10.out.ft
        obtain ⟨a10, c10, rfl⟩ := OwnN.slice9 o10
        clear o10 b10 G9 E9 G10 HL9 HRA HSZ9
        go_wp2
        go_roundw
        case rel => exact ⟨j + 1, _, by omega, by go_num, by rw [HST.out]; go_num, by rw [HST.out]; exact G11⟩
        case measure => simp [intOf]; omega
      · rw [if_pos (by simpa using hd)] at hres
        rw [if_neg hd] at HST
        rcases hres with ⟨-, rfl⟩ | ⟨heq, -⟩
        rotate_left
        · exact absurd heq hd
        have bA : Below w8.heap.size w8 (w8.alloc (.cells #[.int .i64 dd.1, .int .i64 0, .slice none 0 0, .int .i64 0, .slice none 0 0] 128)) := (Below.refl _ _).alloc (Nat.le_refl _) _
        have G9 := hd9 (G8.out.below bA hkW)
        have hdb : (dd.1 == 0) = false := by simpa using hd
        clear bA G8
        go_wp2
        go_roundw
        case rel => exact ⟨j + 1, _, by omega, by go_num, by rw [HST.out], by rw [HST.out]; exact G9⟩
        case measure => simp [intOf]; omega
  · have hjn : j = n := by omega
    subst hjn
    have ct := HG.out.ct
    have cr := HG.out.cr
    have fr := HG.out.fr
    have hne : TB ≠ W.heap.size := by have := HG.out.tb; omega
    have F : Hid (OwnN 85 (wr.setCell ⟨W.heap.size, 0, none⟩ (.slice av (s.grow j).1.length cv)) W.heap.size (.slice av (s.grow j).1.length cv) (s.grow j).1 ∧ SRX (wr.setCell ⟨W.heap.size, 0, none⟩ (.slice av (s.grow j).1.length cv)) k B (s.grow j).2.2 ∧ Tch k W (wr.setCell ⟨W.heap.size, 0, none⟩ (.slice av (s.grow j).1.length cv))) :=
     ⟨OwnN.setO HG.out.own HG.out.vr _, HG.out.src.keep ((Below.refl _ _).setCell hk2 _), HG.out.tch.then ((Below.refl _ _).setCell (by show W.heap.size ≤ W.heap.size; exact Nat.le_refl _) _)⟩
    clear HG
    go_wp2
    exact bodyPost_ret (v := .tuple #[.agg #[.slice av (s.grow j).1.length cv], .int .i64 ((s.grow j).2.1 : Int)]) (by simp [results, Tryz.results24, go_sem, cr]) rfl ⟨_, rfl, F.out.1, F.out.2.1, F.out.2.2⟩
def prC (ns : List Nd) (o : Op5) : Int := if okPrep ns [o] 1 = true then (doO ns o 1).1 else 9
def Sr.tries (ns : List Nd) : Nat → Op5 × Sr → Op5 × Sr
 | 0, q => q
 | n + 1, q => if prC ns q.1 = 0 then q else Sr.tries ns n (q.2.op ns)
def Sr.rop (s : Sr) (ns : List Nd) (n : Nat) : Op5 × Sr :=
 if 1 < n then (if ((s.op ns).2.next 4).1 = 0 then ((s.op ns).1, ((s.op ns).2.next 4).2) else Sr.tries ns 4 ((s.op ns).1, ((s.op ns).2.next 4).2)) else s.op ns
def Sr.rops (s : Sr) (ns : List Nd) (n : Nat) : Nat → List Op5 × Sr
 | 0 => ([], s)
 | j + 1 => ((s.rops ns n j).1 ++ [((s.rops ns n j).2.rop ns n).1], ((s.rops ns n j).2.rop ns n).2)
def Sr.reqN (s : Sr) : Nat × Sr := if (s.next 3).1 = 0 then (1 + ((s.next 3).2.next 5).1, ((s.next 3).2.next 5).2) else (1, (s.next 3).2)
def Sr.req (s : Sr) (ns : List Nd) : List Op5 × Sr := s.reqN.2.rops ns s.reqN.1 s.reqN.1
theorem Sr.reqN_le (s : Sr) : 1 ≤ s.reqN.1 ∧ s.reqN.1 ≤ 5 := by
 unfold Sr.reqN
 split
 · have := (s.next 3).2.next_lt 5 (by omega)
   exact ⟨by show 1 ≤ 1 + _; omega, by show 1 + _ ≤ 5; omega⟩
 · exact ⟨Nat.le_refl _, by show (1 : Nat) ≤ 5; omega⟩
theorem Sr.rops_len (s : Sr) (ns : List Nd) (n : Nat) : ∀ j, (s.rops ns n j).1.length = j
 | 0 => rfl
 | j + 1 => by
  show (_ ++ [_]).length = _
  rw [List.length_append, s.rops_len ns n j]; rfl
theorem Sr.req_len (s : Sr) (ns : List Nd) : 1 ≤ (s.req ns).1.length ∧ (s.req ns).1.length ≤ 5 := by
 unfold Sr.req
 rw [Sr.rops_len]
 exact s.reqN_le
def SzO (o : Op5) : Prop := o.path.size ≤ 2000 ∧ o.data.size ≤ 64
def SzT (ns : List Nd) : Prop := ∀ i, (nAt ns i).path.size ≤ 1000 ∧ (nAt ns i).data.size ≤ 1000
theorem Sr.near_sz (s : Sr) {ns : List Nd} (h : SzT ns) : (s.near ns).1.size ≤ 2000 := by
 unfold Sr.near
 split
 · have := s.path_len
   show s.path.1.toArray.size ≤ _
   simp; omega
 · split
   · have := (h (s.next ns.length).1).1
     show (nAt ns (s.next ns.length).1).path.size ≤ _; omega
   · have := (h (s.next ns.length).1).1
     have e0 : (⟨#[]⟩ : ByteArray).size = 0 := rfl
     have e1 : (⟨#[47]⟩ : ByteArray).size = 1 := rfl
     have e2 : ∀ x, (⟨#[x]⟩ : ByteArray).size = 1 := fun _ => rfl
     split
     · simp only [ByteArray.size_append]
       rw [e0, e1, e2]; omega
     · simp only [ByteArray.size_append]
       rw [e1, e2]; omega
theorem Sr.op_sz (s : Sr) {ns : List Nd} (h : SzT ns) : SzO (s.op ns).1 := by
 unfold Sr.op
 have z : (⟨#[]⟩ : ByteArray).size = 0 := rfl
 split
 · exact ⟨Sr.near_sz _ h, Sr.data_len _⟩
 · split
   · exact ⟨Sr.near_sz _ h, by rw [z]; omega⟩
   · split
     · exact ⟨Sr.near_sz _ h, Sr.data_len _⟩
     · exact ⟨Sr.near_sz _ h, by rw [z]; omega⟩
theorem Sr.tries_sz {ns : List Nd} (h : SzT ns) : ∀ (n : Nat) (q : Op5 × Sr), SzO q.1 → SzO (Sr.tries ns n q).1
 | 0, _, hq => hq
 | n + 1, q, hq => by
  unfold Sr.tries
  split
  · exact hq
  · exact Sr.tries_sz h n _ (q.2.op_sz h)
theorem Sr.rop_sz (s : Sr) {ns : List Nd} (h : SzT ns) (n : Nat) : SzO (s.rop ns n).1 := by
 unfold Sr.rop
 split
 · split
   · exact s.op_sz h
   · exact Sr.tries_sz h 4 _ (s.op_sz h)
 · exact s.op_sz h
theorem Sr.rops_sz (s : Sr) {ns : List Nd} (h : SzT ns) (n : Nat) : ∀ j, ∀ o ∈ (s.rops ns n j).1, SzO o
 | 0, o, ho => by simp [Sr.rops] at ho
 | j + 1, o, ho => by
  rcases List.mem_append.1 (show o ∈ (s.rops ns n j).1 ++ [_] from ho) with h1 | h1
  · exact s.rops_sz h n j o h1
  · simp only [List.mem_singleton] at h1
    rw [h1]; exact Sr.rop_sz _ h n
theorem prep1 (w : World) (v vo : Value) (ns : List Nd) (o : Op5) (h : RdN w v ns) (ho : RdO w vo [o]) (hn : ns.length ≤ 1048576) (hsz : SzT ns) (hos : SzO o) :
    Calls Tryz.prog 77 #[.agg #[v], .agg #[vo], .int .i64 1] w fun e w' => ∃ (i : Int) (a1 : Option Addr) (n1 c1 : Nat) (z : Int) (a2 : Option Addr) (n2 c2 : Nat), e = .returned (.agg #[.int .i64 (prC ns o), .int .i64 i, .slice a1 n1 c1, .int .i64 z, .slice a2 n2 c2]) ∧ Below w.heap.size w w' := by
 cases hb : okPrep ns [o] 1 with
 | false =>
  refine (specPrep_bad w v vo ns [o] 1 h ho hn (fun i => by have := hsz i; omega) hb).mono ?_
  rintro e w' ⟨rfl, b⟩
  have e1 : prC ns o = 9 := by unfold prC; rw [if_neg (by rw [hb]; simp)]
  rw [e1]
  exact ⟨_, _, _, _, _, _, _, _, rfl, b⟩
 | true =>
  have e1 : prC ns o = (doO ns o 1).1 := by unfold prC; rw [if_pos hb]
  refine (specPrep_ok w v vo ns [o] 1 h ho (fun i hi => by
   obtain rfl : i = 0 := by simp at hi; omega
   show o.path.size ≤ _ ∧ o.data.size ≤ _
   have := hos.1; have := hos.2; omega) hb).mono ?_
  rintro e w' ⟨b, hres⟩
  rw [runO_one] at hres
  rw [e1]
  by_cases hd : (doO ns o 1).1 = 0
  · rw [if_neg (by simpa using hd)] at hres
    rcases hres with ⟨hne, -⟩ | ⟨-, vn, ve, rfl, on, oe⟩
    · exact absurd rfl hne
    obtain ⟨ea, ec, rfl, _, _⟩ := (OwnE.rd oe).len
    obtain ⟨na, nl, nc, rfl⟩ : ∃ a n c, vn = .slice a n c := by
     rcases on.2 with ⟨rfl, -⟩ | ⟨g, cap, cur, rfl, -⟩
     · exact ⟨_, _, _, rfl⟩
     · exact ⟨_, _, _, rfl⟩
    rw [hd]
    exact ⟨_, _, _, _, _, _, _, _, rfl, b⟩
  · rw [if_pos (by simpa using hd)] at hres
    rcases hres with ⟨-, rfl⟩ | ⟨heq, -⟩
    · exact ⟨_, _, _, _, _, _, _, _, rfl, b⟩
    · exact absurd heq hd
theorem own_full {e : TypeId} {w : World} {base : Nat} {v : Value} {xs : List Int} (h : Own .u8 e w base v xs) (hn : 0 < xs.length) : ∃ g c, v = .slice (some ⟨g, 0, none⟩) xs.length c := by
 rcases h.2 with ⟨-, h0⟩ | ⟨g, cap, cur, rfl, -⟩
 · omega
 · exact ⟨g, cap, rfl⟩
theorem u8_oneCell (xs : List Int) : ∀ u ∈ xs.map (Value.int .u8), u.oneCell' = true := by
 intro u hu
 obtain ⟨x, -, rfl⟩ := List.mem_map.1 hu
 rfl
theorem BoxN.belowM {w w' : World} {B m : Nat} {n : Nd} (h : BoxN w B n) (hb : Below m w w') (hl : B < m) : BoxN w' B n :=
 ⟨Nat.lt_of_lt_of_le h.lt hb.size, (hb.cell (p := ⟨B, _, none⟩) hl).trans h.c0, (hb.cell (p := ⟨B, _, none⟩) hl).trans h.c1, (hb.cell (p := ⟨B, _, none⟩) hl).trans h.c2, (hb.cell (p := ⟨B, _, none⟩) hl).trans h.c3,
  (hb.cell (p := ⟨B, _, none⟩) hl).trans h.c4, (hb.cell (p := ⟨B, _, none⟩) hl).trans h.c5, (hb.cell (p := ⟨B, _, none⟩) hl).trans h.c6⟩
theorem sNode_any (w : World) (n : Nd) (hn : okNd n = true) :
    Calls Tryz.prog 137 #[.agg #[.string n.path, .string n.data, .int .i64 n.ver, .int .i64 n.cver, .int .i64 n.cz, .int .i64 n.mz, .int .i64 n.pz]] w fun e w' => ∃ v', e = .returned v' ∧ Own .u8 5 w' w.heap.size v' (nodeB n) ∧ Below w.heap.size w w' := by
 obtain ⟨i0, hi, hz0, hz1, hz2⟩ := info_parts Tryz.infoB
 obtain ⟨p1, p2, p3, p4, p5, p6, p7⟩ := okNd_all hn
 clear hn
 obtain ⟨z0, hz0'⟩ : ∃ z : Nat, n.ver = (z : Int) := ⟨n.ver.toNat, by omega⟩
 have HZ0 : Hid (n.ver = (z0 : Int)) := hz0'
 have hb0 : z0 ≤ 2147483647 := by omega
 obtain ⟨z1, hz1'⟩ : ∃ z : Nat, n.cver = (z : Int) := ⟨n.cver.toNat, by omega⟩
 have HZ1 : Hid (n.cver = (z1 : Int)) := hz1'
 have hb1 : z1 ≤ 2147483647 := by omega
 obtain ⟨z2, hz2'⟩ : ∃ z : Nat, n.cz = (z : Int) := ⟨n.cz.toNat, by omega⟩
 have HZ2 : Hid (n.cz = (z2 : Int)) := hz2'
 have hb2 : z2 ≤ 2147483647 := by omega
 obtain ⟨z3, hz3'⟩ : ∃ z : Nat, n.mz = (z : Int) := ⟨n.mz.toNat, by omega⟩
 have HZ3 : Hid (n.mz = (z3 : Int)) := hz3'
 have hb3 : z3 ≤ 2147483647 := by omega
 obtain ⟨z4, hz4'⟩ : ∃ z : Nat, n.pz = (z : Int) := ⟨n.pz.toNat, by omega⟩
 have HZ4 : Hid (n.pz = (z4 : Int)) := hz4'
 have hb4 : z4 ≤ 2147483647 := by omega
 have HZ : Hid (nodeB n = txB n.path ++ txB n.data ++ bigR z0 4 ++ bigR z1 4 ++ bigR z2 4 ++ bigR z3 4 ++ bigR z4 4) := by
  show _ = _
  unfold nodeB stB
  simp [hz0', hz1', hz2', hz3', hz4']
 clear hz0' hz1' hz2' hz3' hz4' p3 p4 p5 p6 p7
 have X0 : Hid (BoxN (w.alloc (.cells #[.string n.path, .string n.data, .int .i64 n.ver, .int .i64 n.cver, .int .i64 n.cz, .int .i64 n.mz, .int .i64 n.pz] 85)) w.heap.size n) := BoxN.new _ _ _
 have B0 : Hid (Below w.heap.size w (w.alloc (.cells #[.string n.path, .string n.data, .int .i64 n.ver, .int .i64 n.cver, .int .i64 n.cz, .int .i64 n.mz, .int .i64 n.pz] 85))) := (Below.refl _ _).alloc (Nat.le_refl _) _
 go_enter Tryz.func137, Tryz.ntmps137
 go_wp2
 generalize w.alloc (.cells #[.string n.path, .string n.data, .int .i64 n.ver, .int .i64 n.cver, .int .i64 n.cz, .int .i64 n.mz, .int .i64 n.pz] 85) = w0 at *
 have s0 : w.heap.size + 1 ≤ w0.heap.size := X0.out.lt
 refine wp_region_held_drew (S := fun W => BoxN W w.heap.size n) (by kernel_rfl) (X0.out.below (below_drewN' w0 1)) (fun hHeld => ?_)
 refine tkL9 (i := 0) (oi := ⟨some 4, _, _, _, _, _⟩) (v := (.pointer (some ⟨w.heap.size, 0, none⟩))) rfl (by kernel_rfl) (fun _ _ _ h => h) (by rfl) (by assumption) ?hy1 ?_
 case hy1 => intro w9 hS9; obtain ⟨-, y0, y1, y2, y3, y4, y5, y6⟩ := hS9; go_simp; try with_reducible rfl
 try simp only [Act.put, sT9, sZ9, sS9]
 refine tkL9 (i := 1) (oi := ⟨some 5, _, _, _, _, _⟩) (v := (.string n.path)) rfl (by kernel_rfl) (fun _ _ _ h => h) (by rfl) (by assumption) ?hy2 ?_
 case hy2 => intro w9 hS9; obtain ⟨-, y0, y1, y2, y3, y4, y5, y6⟩ := hS9; go_simp; try with_reducible rfl
 try simp only [Act.put, sT9, sZ9, sS9]
 refine tkL9 (i := 3) (oi := ⟨some 7, _, _, _, _, _⟩) (v := (.pointer (some ⟨w.heap.size, 1, none⟩))) rfl (by kernel_rfl) (fun _ _ _ h => h) (by rfl) (by assumption) ?hy3 ?_
 case hy3 => intro w9 hS9; obtain ⟨-, y0, y1, y2, y3, y4, y5, y6⟩ := hS9; go_simp; try with_reducible rfl
 try simp only [Act.put, sT9, sZ9, sS9]
 refine tkL9 (i := 4) (oi := ⟨some 8, _, _, _, _, _⟩) (v := (.string n.data)) rfl (by kernel_rfl) (fun _ _ _ h => h) (by rfl) (by assumption) ?hy4 ?_
 case hy4 => intro w9 hS9; obtain ⟨-, y0, y1, y2, y3, y4, y5, y6⟩ := hS9; go_simp; try with_reducible rfl
 try simp only [Act.put, sT9, sZ9, sS9]
 refine wpAnyH_ready (rs := [2]) (by kernel_rfl) (by simp) ?_
 refine AllReadyH.cons (o := ⟨some 6, _, _, _, _, _⟩) rfl (fun K hK => ?_) AllReadyH.nil
 go_simp
 refine (specText_any _ n.path (by omega)).mono ?_
 rintro e w1 ⟨v1, rfl, o1, b1⟩
 have X1 : Hid (BoxN w1 w.heap.size n) := (X0.out.below (below_drewN' w0 1)).below b1
 have B1 : Hid (Below w.heap.size w w1) := (B0.out.trans ((below_drewN' w0 1).mono B0.out.size)).trans (b1.mono (by show w.heap.size ≤ w0.heap.size; omega))
 have O1 : Hid (Own .u8 5 w1 (w.heap.size + 1) v1 (txB n.path)) := o1.mono s0
 clear o1 b1
 refine hK.out _ _ (X1.out) (fun hx9 => ?_)
 clear hK K hHeld
 have hHeld := hx9
 clear hx9
 try simp only [Act.put, sT9, sZ9, sS9]
 refine wpAnyH_ready (rs := [5]) (by kernel_rfl) (by simp) ?_
 refine AllReadyH.cons (o := ⟨some 9, _, _, _, _, _⟩) rfl (fun K hK => ?_) AllReadyH.nil
 go_simp
 refine (specText_any _ n.data (by omega)).mono ?_
 rintro e w2 ⟨v2, rfl, o2, b2⟩
 have s1 : w.heap.size + 1 ≤ w1.heap.size := X1.out.lt
 have X2 := hd9 (X1.out.below b2)
 have B2 := hd9 (B1.out.trans (b2.mono (by omega)))
 obtain ⟨g2, c2, hv2⟩ := own_full o2 (by rw [txB_len]; omega)
 rw [txB_len] at hv2
 subst hv2
 have O2 : Hid (w2.ownsRow (w.heap.size + 1) 5 1 v1 (1 + n.path.size) ((txB n.path).map (Value.int .u8))) := by have := O1.out.below b2; unfold Own at this; rw [txB_len] at this; exact this
 have N2 : Hid (∀ j u, ((txB n.data).map (Value.int .u8))[j]? = some u → w2.cell? ((⟨g2, 0, none⟩ : Addr).add j) = some u) := World.ownsRow.cells o2 rfl
 have s2 : w.heap.size + 1 ≤ w2.heap.size := X2.out.lt
 clear o2 b2 O1 X1 B1
 refine hK.out _ _ (X2.out) (fun hx9 => ?_)
 clear hK K hHeld
 have hHeld := hx9
 clear hx9
 try simp only [Act.put, sT9, sZ9, sS9]
 refine wpAnyH_ready (rs := [6]) (by kernel_rfl) (by simp) ?_
 refine AllReadyH.cons (o := ⟨some 10, _, _, _, _, _⟩) rfl (fun K hK => ?_) AllReadyH.nil
 refine step_append rfl (.tmp 6) (.tmp 9) 22 rfl (w.heap.size + 1) 5 i0 (.int .u8 0) 1 1 Tryz.underlying22 hi hz0 hz1 hz2 rfl (by decide) v1 (1 + n.path.size) _ rfl O2.out ⟨g2, 0, none⟩ (1 + n.data.size) c2 ((txB n.data).map (Value.int .u8)) rfl (by rw [List.length_map, txB_len, Nat.mul_one]) N2.out (u8_oneCell _) (by unfold maxLen; omega) (by omega) s2 ?_
 intro v3 w3 ho3 hg3
 have b3 : Below (w.heap.size + 1) w2 w3 := (Below.refl _ _).grown hg3 s2 (fun q hq => (World.ownsRow.lt O2.out q hq).1)
 have X3 : Hid (BoxN w3 w.heap.size n) := X2.out.belowM b3 (by omega)
 have B3 := hd9 (B2.out.trans (b3.mono (by omega)))
 have O3 : Hid (w3.ownsRow (w.heap.size + 1) 5 1 v3 (1 + n.path.size + (1 + n.data.size)) ((txB n.path ++ txB n.data).map (Value.int .u8))) := by show World.ownsRow _ _ _ _ _ _ _; rw [List.map_append]; exact ho3
 clear ho3 hg3 b3 O2 N2 X2 B2
 refine hK.out _ _ (X3.out) (fun hx9 => ?_)
 clear hK K hHeld
 have hHeld := hx9
 clear hx9
 try simp only [Act.put, sT9, sZ9, sS9]
 refine tkL9 (i := 7) (oi := ⟨some 3, _, _, _, _, _⟩) (v := v3) rfl (by kernel_rfl) (fun _ _ _ h => h) (by rfl) (by assumption) ?hy5 ?_
 case hy5 => intro w9 hS9; go_simp
 try simp only [Act.put, sT9, sZ9, sS9]
 refine wpAnyH_done (by kernel_rfl) ?_ _
 clear hHeld
 obtain ⟨M, hM⟩ : ∃ M, M = 1 + n.path.size + (1 + n.data.size) := ⟨_, rfl⟩
 obtain ⟨L3, hL3⟩ : ∃ L, L = txB n.path ++ txB n.data := ⟨_, rfl⟩
 have hM2 : M ≤ 200 := by omega
 have HL3 : Hid (L3.length = M) := by show _ = _; rw [hL3, hM, List.length_append, txB_len, txB_len]
 rw [← hM, ← hL3] at O3
 rw [← hL3] at HZ
 clear hM hL3
 have s3 : w.heap.size + 1 ≤ w3.heap.size := X3.out.lt
 obtain ⟨-, y0, y1, y2, y3, y4, y5, y6⟩ := X3.out
 rw [HZ0.out] at y2
 go_wp2_with fail
 refine (specBig_any 4 _ z0 (by omega) (by omega)).mono ?_
 rintro e w4 ⟨v4, rfl, o4, b4⟩
 obtain ⟨g4, c4, hv4⟩ := own_full o4 (by rw [bigR_len]; omega)
 rw [bigR_len] at hv4
 subst hv4
 have X4 := hd9 (X3.out.below b4)
 have B4 := hd9 (B3.out.trans (b4.mono (by omega)))
 have s4 : w.heap.size + 1 ≤ w4.heap.size := X4.out.lt
 have O4 : Hid (w4.ownsRow (w.heap.size + 1) 5 1 v3 M (L3.map (Value.int .u8))) := by
  refine World.ownsRow.kept O3.out (row := none) ⟨b4.os, b4.tape, b4.output, b4.size, fun k hk _ => b4.block k hk⟩ ?_
  cases hq : v3.ownBlock with
  | none => exact .inl rfl
  | some g => exact .inr (by simp)
 have N4 : Hid (∀ j u, ((bigR z0 4).map (Value.int .u8))[j]? = some u → w4.cell? ((⟨g4, 0, none⟩ : Addr).add j) = some u) := World.ownsRow.cells o4 rfl
 clear y0 y1 y2 y3 y4 y5 y6 o4 b4 X3 B3 O3
 go_wp2_with (at_builtin; go_must (refine wpList_append_own _ rfl _ _ 22 rfl (w.heap.size + 1) 5 i0 (.int .u8 0) 1 1 Tryz.underlying22 hi hz0 hz1 hz2 rfl (by decide) _ _ _ rfl O4.out ⟨g4, 0, none⟩ 4 c4 ((bigR z0 4).map (Value.int .u8)) rfl ?_ N4.out (u8_oneCell _) ?_ ?_ ?_ ?_))
 · rw [List.length_map, bigR_len]
 · unfold maxLen; omega
 · omega
 · exact s4
 intro v5 w5 ho5 hg5 _
 have b5 : Below (w.heap.size + 1) w4 w5 := (Below.refl _ _).grown hg5 s4 (fun q hq => (World.ownsRow.lt O4.out q hq).1)
 have X5 : Hid (BoxN w5 w.heap.size n) := X4.out.belowM b5 (by omega)
 have B5 := hd9 (B4.out.trans (b5.mono (by omega)))
 have s5 : w.heap.size + 1 ≤ w5.heap.size := X5.out.lt
 obtain ⟨L5, hL5⟩ : ∃ L, L = L3 ++ bigR z0 4 := ⟨_, rfl⟩
 have O5 : Hid (w5.ownsRow (w.heap.size + 1) 5 1 v5 (M + 4) (L5.map (Value.int .u8))) := by
  show World.ownsRow _ _ _ _ _ _ _
  rw [hL5, List.map_append]; exact ho5
 have HL5 : Hid (L5.length = M + 4) := by show _ = _; rw [hL5, List.length_append, HL3.out, bigR_len]
 rw [← hL5] at HZ
 clear ho5 hg5 b5 X4 B4 O4 N4 hL5
 obtain ⟨-, y0, y1, y2, y3, y4, y5, y6⟩ := X5.out
 rw [HZ1.out] at y3
 go_wp2_with fail
 refine (specBig_any 4 _ z1 (by omega) (by omega)).mono ?_
 rintro e w6 ⟨v6, rfl, o6, b6⟩
 obtain ⟨g6, c6, hv6⟩ := own_full o6 (by rw [bigR_len]; omega)
 rw [bigR_len] at hv6
 subst hv6
 have X6 := hd9 (X5.out.below b6)
 have B6 := hd9 (B5.out.trans (b6.mono (by omega)))
 have s6 : w.heap.size + 1 ≤ w6.heap.size := X6.out.lt
 have O6 : Hid (w6.ownsRow (w.heap.size + 1) 5 1 v5 (M + 4) (L5.map (Value.int .u8))) := by
  refine World.ownsRow.kept O5.out (row := none) ⟨b6.os, b6.tape, b6.output, b6.size, fun k hk _ => b6.block k hk⟩ ?_
  cases hq : v5.ownBlock with
  | none => exact .inl rfl
  | some g => exact .inr (by simp)
 have N6 : Hid (∀ j u, ((bigR z1 4).map (Value.int .u8))[j]? = some u → w6.cell? ((⟨g6, 0, none⟩ : Addr).add j) = some u) := World.ownsRow.cells o6 rfl
 clear y0 y1 y2 y3 y4 y5 y6 o6 b6 X5 B5 O5
 go_wp2_with (at_builtin; go_must (refine wpList_append_own _ rfl _ _ 22 rfl (w.heap.size + 1) 5 i0 (.int .u8 0) 1 1 Tryz.underlying22 hi hz0 hz1 hz2 rfl (by decide) _ _ _ rfl O6.out ⟨g6, 0, none⟩ 4 c6 ((bigR z1 4).map (Value.int .u8)) rfl ?_ N6.out (u8_oneCell _) ?_ ?_ ?_ ?_))
 · rw [List.length_map, bigR_len]
 · unfold maxLen; omega
 · omega
 · exact s6
 intro v7 w7 ho7 hg7 _
 have b7 : Below (w.heap.size + 1) w6 w7 := (Below.refl _ _).grown hg7 s6 (fun q hq => (World.ownsRow.lt O6.out q hq).1)
 have X7 : Hid (BoxN w7 w.heap.size n) := X6.out.belowM b7 (by omega)
 have B7 := hd9 (B6.out.trans (b7.mono (by omega)))
 have s7 : w.heap.size + 1 ≤ w7.heap.size := X7.out.lt
 obtain ⟨L7, hL7⟩ : ∃ L, L = L5 ++ bigR z1 4 := ⟨_, rfl⟩
 have O7 : Hid (w7.ownsRow (w.heap.size + 1) 5 1 v7 (M + 8) (L7.map (Value.int .u8))) := by
  show World.ownsRow _ _ _ _ _ _ _
  rw [hL7, List.map_append]; exact ho7
 have HL7 : Hid (L7.length = M + 8) := by show _ = _; rw [hL7, List.length_append, HL5.out, bigR_len]
 rw [← hL7] at HZ
 clear ho7 hg7 b7 X6 B6 O6 N6 hL7
 obtain ⟨-, y0, y1, y2, y3, y4, y5, y6⟩ := X7.out
 rw [HZ2.out] at y4
 go_wp2_with fail
 refine (specBig_any 4 _ z2 (by omega) (by omega)).mono ?_
 rintro e w8 ⟨v8, rfl, o8, b8⟩
 obtain ⟨g8, c8, hv8⟩ := own_full o8 (by rw [bigR_len]; omega)
 rw [bigR_len] at hv8
 subst hv8
 have X8 := hd9 (X7.out.below b8)
 have B8 := hd9 (B7.out.trans (b8.mono (by omega)))
 have s8 : w.heap.size + 1 ≤ w8.heap.size := X8.out.lt
 have O8 : Hid (w8.ownsRow (w.heap.size + 1) 5 1 v7 (M + 8) (L7.map (Value.int .u8))) := by
  refine World.ownsRow.kept O7.out (row := none) ⟨b8.os, b8.tape, b8.output, b8.size, fun k hk _ => b8.block k hk⟩ ?_
  cases hq : v7.ownBlock with
  | none => exact .inl rfl
  | some g => exact .inr (by simp)
 have N8 : Hid (∀ j u, ((bigR z2 4).map (Value.int .u8))[j]? = some u → w8.cell? ((⟨g8, 0, none⟩ : Addr).add j) = some u) := World.ownsRow.cells o8 rfl
 clear y0 y1 y2 y3 y4 y5 y6 o8 b8 X7 B7 O7
 go_wp2_with (at_builtin; go_must (refine wpList_append_own _ rfl _ _ 22 rfl (w.heap.size + 1) 5 i0 (.int .u8 0) 1 1 Tryz.underlying22 hi hz0 hz1 hz2 rfl (by decide) _ _ _ rfl O8.out ⟨g8, 0, none⟩ 4 c8 ((bigR z2 4).map (Value.int .u8)) rfl ?_ N8.out (u8_oneCell _) ?_ ?_ ?_ ?_))
 · rw [List.length_map, bigR_len]
 · unfold maxLen; omega
 · omega
 · exact s8
 intro v9 w9 ho9 hg9 _
 have b9 : Below (w.heap.size + 1) w8 w9 := (Below.refl _ _).grown hg9 s8 (fun q hq => (World.ownsRow.lt O8.out q hq).1)
 have X9 : Hid (BoxN w9 w.heap.size n) := X8.out.belowM b9 (by omega)
 have B9 := hd9 (B8.out.trans (b9.mono (by omega)))
 have s9 : w.heap.size + 1 ≤ w9.heap.size := X9.out.lt
 obtain ⟨L9, hL9⟩ : ∃ L, L = L7 ++ bigR z2 4 := ⟨_, rfl⟩
 have O9 : Hid (w9.ownsRow (w.heap.size + 1) 5 1 v9 (M + 12) (L9.map (Value.int .u8))) := by
  show World.ownsRow _ _ _ _ _ _ _
  rw [hL9, List.map_append]; exact ho9
 have HL9 : Hid (L9.length = M + 12) := by show _ = _; rw [hL9, List.length_append, HL7.out, bigR_len]
 rw [← hL9] at HZ
 clear ho9 hg9 b9 X8 B8 O8 N8 hL9
 obtain ⟨-, y0, y1, y2, y3, y4, y5, y6⟩ := X9.out
 rw [HZ3.out] at y5
 go_wp2_with fail
 refine (specBig_any 4 _ z3 (by omega) (by omega)).mono ?_
 rintro e w10 ⟨v10, rfl, o10, b10⟩
 obtain ⟨g10, c10, hv10⟩ := own_full o10 (by rw [bigR_len]; omega)
 rw [bigR_len] at hv10
 subst hv10
 have X10 := hd9 (X9.out.below b10)
 have B10 := hd9 (B9.out.trans (b10.mono (by omega)))
 have s10 : w.heap.size + 1 ≤ w10.heap.size := X10.out.lt
 have O10 : Hid (w10.ownsRow (w.heap.size + 1) 5 1 v9 (M + 12) (L9.map (Value.int .u8))) := by
  refine World.ownsRow.kept O9.out (row := none) ⟨b10.os, b10.tape, b10.output, b10.size, fun k hk _ => b10.block k hk⟩ ?_
  cases hq : v9.ownBlock with
  | none => exact .inl rfl
  | some g => exact .inr (by simp)
 have N10 : Hid (∀ j u, ((bigR z3 4).map (Value.int .u8))[j]? = some u → w10.cell? ((⟨g10, 0, none⟩ : Addr).add j) = some u) := World.ownsRow.cells o10 rfl
 clear y0 y1 y2 y3 y4 y5 y6 o10 b10 X9 B9 O9
 go_wp2_with (at_builtin; go_must (refine wpList_append_own _ rfl _ _ 22 rfl (w.heap.size + 1) 5 i0 (.int .u8 0) 1 1 Tryz.underlying22 hi hz0 hz1 hz2 rfl (by decide) _ _ _ rfl O10.out ⟨g10, 0, none⟩ 4 c10 ((bigR z3 4).map (Value.int .u8)) rfl ?_ N10.out (u8_oneCell _) ?_ ?_ ?_ ?_))
 · rw [List.length_map, bigR_len]
 · unfold maxLen; omega
 · omega
 · exact s10
 intro v11 w11 ho11 hg11 _
 have b11 : Below (w.heap.size + 1) w10 w11 := (Below.refl _ _).grown hg11 s10 (fun q hq => (World.ownsRow.lt O10.out q hq).1)
 have X11 : Hid (BoxN w11 w.heap.size n) := X10.out.belowM b11 (by omega)
 have B11 := hd9 (B10.out.trans (b11.mono (by omega)))
 have s11 : w.heap.size + 1 ≤ w11.heap.size := X11.out.lt
 obtain ⟨L11, hL11⟩ : ∃ L, L = L9 ++ bigR z3 4 := ⟨_, rfl⟩
 have O11 : Hid (w11.ownsRow (w.heap.size + 1) 5 1 v11 (M + 16) (L11.map (Value.int .u8))) := by
  show World.ownsRow _ _ _ _ _ _ _
  rw [hL11, List.map_append]; exact ho11
 have HL11 : Hid (L11.length = M + 16) := by show _ = _; rw [hL11, List.length_append, HL9.out, bigR_len]
 rw [← hL11] at HZ
 clear ho11 hg11 b11 X10 B10 O10 N10 hL11
 obtain ⟨-, y0, y1, y2, y3, y4, y5, y6⟩ := X11.out
 rw [HZ4.out] at y6
 go_wp2_with fail
 refine (specBig_any 4 _ z4 (by omega) (by omega)).mono ?_
 rintro e w12 ⟨v12, rfl, o12, b12⟩
 obtain ⟨g12, c12, hv12⟩ := own_full o12 (by rw [bigR_len]; omega)
 rw [bigR_len] at hv12
 subst hv12
 have X12 := hd9 (X11.out.below b12)
 have B12 := hd9 (B11.out.trans (b12.mono (by omega)))
 have s12 : w.heap.size + 1 ≤ w12.heap.size := X12.out.lt
 have O12 : Hid (w12.ownsRow (w.heap.size + 1) 5 1 v11 (M + 16) (L11.map (Value.int .u8))) := by
  refine World.ownsRow.kept O11.out (row := none) ⟨b12.os, b12.tape, b12.output, b12.size, fun k hk _ => b12.block k hk⟩ ?_
  cases hq : v11.ownBlock with
  | none => exact .inl rfl
  | some g => exact .inr (by simp)
 have N12 : Hid (∀ j u, ((bigR z4 4).map (Value.int .u8))[j]? = some u → w12.cell? ((⟨g12, 0, none⟩ : Addr).add j) = some u) := World.ownsRow.cells o12 rfl
 clear y0 y1 y2 y3 y4 y5 y6 o12 b12 X11 B11 O11
 go_wp2_with (at_builtin; go_must (refine wpList_append_own _ rfl _ _ 22 rfl (w.heap.size + 1) 5 i0 (.int .u8 0) 1 1 Tryz.underlying22 hi hz0 hz1 hz2 rfl (by decide) _ _ _ rfl O12.out ⟨g12, 0, none⟩ 4 c12 ((bigR z4 4).map (Value.int .u8)) rfl ?_ N12.out (u8_oneCell _) ?_ ?_ ?_ ?_))
 · rw [List.length_map, bigR_len]
 · unfold maxLen; omega
 · omega
 · exact s12
 intro v13 w13 ho13 hg13 _
 have b13 : Below (w.heap.size + 1) w12 w13 := (Below.refl _ _).grown hg13 s12 (fun q hq => (World.ownsRow.lt O12.out q hq).1)
 have X13 : Hid (BoxN w13 w.heap.size n) := X12.out.belowM b13 (by omega)
 have B13 := hd9 (B12.out.trans (b13.mono (by omega)))
 have s13 : w.heap.size + 1 ≤ w13.heap.size := X13.out.lt
 obtain ⟨L13, hL13⟩ : ∃ L, L = L11 ++ bigR z4 4 := ⟨_, rfl⟩
 have O13 : Hid (w13.ownsRow (w.heap.size + 1) 5 1 v13 (M + 20) (L13.map (Value.int .u8))) := by
  show World.ownsRow _ _ _ _ _ _ _
  rw [hL13, List.map_append]; exact ho13
 have HL13 : Hid (L13.length = M + 20) := by show _ = _; rw [hL13, List.length_append, HL11.out, bigR_len]
 rw [← hL13] at HZ
 clear ho13 hg13 b13 X12 B12 O12 N12 hL13
 go_wp2
 go_ret
 exact ⟨_, rfl, (own_of HL13.out HZ.out O13.out).mono (Nat.le_succ _), B13.out⟩
def mkB (e : Ef) : Int := if e.del then 2 else 1
def effB (e : Ef) : List Int := if e.del then [2] ++ txB e.nd.path else [1] ++ nodeB e.nd
def effsB (es : List Ef) : List Int := es.flatMap effB
def txnB (z : Int) (es : List Ef) : List Int := if okTxn z es then bigR z.toNat 4 ++ bigR es.length 2 ++ effsB es else []
theorem okEf_nd' {e : Ef} (h : okEf e = true) : okNd e.nd = true := by
 unfold okEf at h
 simp only [Bool.and_eq_true] at h
 exact h.1
theorem effB_len {e : Ef} (h : okEf e = true) : (effB e).length ≤ 189 ∧ 0 < (effB e).length := by
 have h1 := okNd_all (okEf_nd' h)
 unfold effB
 split
 · rw [List.length_append, txB_len]; simp; omega
 · rw [List.length_append, nodeB_len]; simp; omega
theorem effsB_succ (es : List Ef) (k : Nat) (h : k < es.length) : effsB (es.take k) ++ effB (eAt es k) = effsB (es.take (k + 1)) := by
 unfold effsB
 rw [List.take_succ_eq_append_getElem h, List.flatMap_append, eAt_get h]
 simp
theorem effsB_all (es : List Ef) (k : Nat) (h : es.length ≤ k) : effsB (es.take k) = effsB es := by rw [List.take_of_length_le h]
theorem effsB_len {es : List Ef} (h : ∀ k, k < es.length → okEf (eAt es k) = true) : ∀ k, k ≤ es.length → (effsB (es.take k)).length ≤ k * 189
 | 0, _ => by simp [effsB]
 | k + 1, hk => by
  have h1 := effsB_len h k (by omega)
  have h2 := effB_len (h k (by omega))
  rw [← effsB_succ es k (by omega), List.length_append]
  omega
theorem okTxn_all {z : Int} {es : List Ef} (h : okTxn z es = true) : 1 ≤ z ∧ z ≤ 2147483647 ∧ es.length ≤ 1000 ∧ ∀ k, k < es.length → okEf (eAt es k) = true := by
 unfold okTxn okEs at h
 simp only [Bool.and_eq_true, decide_eq_true_eq] at h
 refine ⟨h.1.1.1, h.1.1.2, h.1.2, fun k hk => ?_⟩
 have := List.all_eq_true.1 h.2 k (by simpa using hk)
 unfold okEAt at this
 simp only [Bool.and_eq_true] at this
 exact this.1
theorem txnB_len (z : Int) (es : List Ef) : (txnB z es).length ≤ 189006 := by
 unfold txnB
 split
 · rename_i h
   obtain ⟨-, -, h1, h2⟩ := okTxn_all h
   have h3 := effsB_len h2 es.length (Nat.le_refl _)
   rw [effsB_all es _ (Nat.le_refl _)] at h3
   simp only [List.length_append, bigR_len]
   omega
 · simp
def BoxX (w : World) (B : Nat) (z : Int) (v : Value) : Prop := B < w.heap.size ∧ w.cell? ⟨B, 0, none⟩ = some (.int .i64 z) ∧ w.cell? ⟨B, 1, none⟩ = some v
theorem BoxX.below {w w' : World} {b : Nat} {x : Int} {y : Value} (h : BoxX w b x y) (hb : Below w.heap.size w w') : BoxX w' b x y :=
 ⟨Nat.lt_of_lt_of_le h.1 hb.size, (hb.cell (p := ⟨b, 0, none⟩) h.1).trans h.2.1, (hb.cell (p := ⟨b, 1, none⟩) h.1).trans h.2.2⟩
theorem BoxX.new (w : World) (x : Int) (y : Value) (t : TypeId) : BoxX (w.alloc (.cells #[.int .i64 x, y] t)) w.heap.size x y := ⟨by simp, by simp, by simp⟩
theorem BoxX.belowM {w w' : World} {b m : Nat} {x : Int} {y : Value} (h : BoxX w b x y) (hb : Below m w w') (hl : b < m) : BoxX w' b x y :=
 ⟨Nat.lt_of_lt_of_le h.1 hb.size, (hb.cell (p := ⟨b, 0, none⟩) hl).trans h.2.1, (hb.cell (p := ⟨b, 1, none⟩) hl).trans h.2.2⟩
theorem sTxn_any (w : World) (z : Int) (v : Value) (ns : List Ef) (h : RdE w v ns) (hsz : ∀ i, (eAt ns i).nd.path.size ≤ 1048576 ∧ (eAt ns i).nd.data.size ≤ 1048576) :
    Calls Tryz.prog 79 #[.agg #[.int .i64 z, v]] w fun e w' => ∃ v', e = .returned v' ∧ Own .u8 5 w' w.heap.size v' (txnB z ns) ∧ Below w.heap.size w w' := by
 obtain ⟨i0, hi, hz0, hz1, hz2⟩ := info_parts Tryz.infoB
 obtain ⟨ao, ca, rfl, _, _⟩ := h.len
 have HR : Hid (RdE w (.slice ao ns.length ca) ns) := h
 have HZ : Hid (∀ i, (eAt ns i).nd.path.size ≤ 1048576 ∧ (eAt ns i).nd.data.size ≤ 1048576) := hsz
 generalize hnn : ns.length = n at *
 have HP : Hid (ns.length = n) := hnn
 have B0 : Hid (Below w.heap.size w (w.alloc (.cells #[.int .i64 z, .slice ao n ca] 78))) := (Below.refl _ _).alloc (Nat.le_refl _) _
 have X0 : Hid (BoxX (w.alloc (.cells #[.int .i64 z, .slice ao n ca] 78)) w.heap.size z (.slice ao n ca)) := BoxX.new _ _ _ _
 clear h hsz hnn
 go_enter Tryz.func79, Tryz.ntmps79
 go_wp2_with fail
 generalize w.alloc (.cells #[.int .i64 z, .slice ao n ca] 78) = w0 at *
 refine (specTxn_any _ _ _ ns (HR.out.below B0.out) HZ.out).mono ?_
 rintro e w1 ⟨rfl, b1⟩
 have B1 := hd9 (B0.out.trans (b1.mono B0.out.size))
 have X1 := hd9 (X0.out.below b1)
 clear b1 X0 B0
 have s1 : w.heap.size + 1 ≤ w1.heap.size := X1.out.1
 by_cases hok : okTxn z ns = true
 rotate_left
 · have hok' : okTxn z ns = false := by simpa using hok
   have HT : Hid (txnB z ns = []) := by show _ = _; unfold txnB; rw [if_neg hok]
   have O2 : Hid (Own .u8 5 (w1.alloc (.cells #[] 5)) w.heap.size (.slice (some ⟨w1.heap.size, 0, none⟩) 0 0) []) := Own.mono (World.ownsRow_lit w1 #[] 0 (Nat.le_refl _) (Nat.zero_le _) rfl) B1.out.size
   have B2 : Hid (Below w.heap.size w (w1.alloc (.cells #[] 5))) := B1.out.alloc B1.out.size _
   rw [hok']
   clear hok hok'
   go_wp2
   go_ret
   exact ⟨_, rfl, (by rw [HT.out]; exact O2.out), B2.out⟩
 obtain ⟨g1, g2, g3, g4⟩ := okTxn_all hok
 rw [HP.out] at g3 g4
 obtain ⟨Z, rfl⟩ : ∃ Z : Nat, z = (Z : Int) := ⟨z.toNat, by omega⟩
 have HT : Hid (txnB Z ns = bigR Z 4 ++ bigR n 2 ++ effsB ns) := by show _ = _; unfold txnB; rw [if_pos hok, HP.out, Int.toNat_natCast]
 have HOK : Hid (∀ k, k < n → okEf (eAt ns k) = true) := g4
 have HLN : Hid (∀ k, k ≤ n → (effsB (ns.take k)).length ≤ k * 189) := fun k hk => effsB_len (fun k hk => g4 k (by rw [← HP.out]; exact hk)) k (by rw [HP.out]; exact hk)
 rw [hok]
 clear hok g4
 go_wp2
 refine wp_region_held_drew (S := fun W => BoxX W w.heap.size (Z : Int) (.slice ao n ca)) (by kernel_rfl) (X1.out.below (below_drewN' w1 1)) (fun hHeld => ?_)
 refine tkL9 (i := 0) (oi := ⟨some 9, _, _, _, _, _⟩) (v := (.pointer (some ⟨w.heap.size, 0, none⟩))) rfl (by kernel_rfl) (fun _ _ _ h => h) (by rfl) (by assumption) ?hy1 ?_
 case hy1 => intro w9 hS9; obtain ⟨-, y0, y1⟩ := hS9; go_simp; try with_reducible rfl
 try simp only [Act.put, sT9, sZ9, sS9]
 refine tkL9 (i := 1) (oi := ⟨some 10, _, _, _, _, _⟩) (v := (.int .i64 (Z : Int))) rfl (by kernel_rfl) (fun _ _ _ h => h) (by rfl) (by assumption) ?hy2 ?_
 case hy2 => intro w9 hS9; obtain ⟨-, y0, y1⟩ := hS9; go_simp; try with_reducible rfl
 try simp only [Act.put, sT9, sZ9, sS9]
 refine tkL9 (i := 3) (oi := ⟨some 12, _, _, _, _, _⟩) (v := (.pointer (some ⟨w.heap.size, 1, none⟩))) rfl (by kernel_rfl) (fun _ _ _ h => h) (by rfl) (by assumption) ?hy3 ?_
 case hy3 => intro w9 hS9; obtain ⟨-, y0, y1⟩ := hS9; go_simp; try with_reducible rfl
 try simp only [Act.put, sT9, sZ9, sS9]
 refine tkL9 (i := 4) (oi := ⟨some 13, _, _, _, _, _⟩) (v := (.slice ao n ca)) rfl (by kernel_rfl) (fun _ _ _ h => h) (by rfl) (by assumption) ?hy4 ?_
 case hy4 => intro w9 hS9; obtain ⟨-, y0, y1⟩ := hS9; go_simp; try with_reducible rfl
 try simp only [Act.put, sT9, sZ9, sS9]
 refine tkL9 (i := 5) (oi := ⟨some 14, _, _, _, _, _⟩) (v := (.int .i64 (n : Int))) rfl (by kernel_rfl) (fun _ _ _ h => h) (by rfl) (by assumption) ?hy5 ?_
 case hy5 => intro w9 hS9; obtain ⟨-, y0, y1⟩ := hS9; go_simp; try with_reducible rfl
 try simp only [Act.put, sT9, sZ9, sS9]
 refine wpAnyH_ready (rs := [2]) (by kernel_rfl) (by simp) ?_
 refine AllReadyH.cons (o := ⟨some 11, _, _, _, _, _⟩) rfl (fun K hK => ?_) AllReadyH.nil
 go_simp
 refine (specBig_any 4 _ Z (by omega) (by omega)).mono ?_
 rintro e w2 ⟨v2, rfl, o2, b2⟩
 have D2 : Hid (Below (w.heap.size + 1) w1 w2) := ((below_drewN' w1 1).mono s1).trans (b2.mono s1)
 have X2 : Hid (BoxX w2 w.heap.size (Z : Int) (.slice ao n ca)) := X1.out.belowM D2.out (Nat.lt_succ_self _)
 have O2 : Hid (Own .u8 5 w2 (w.heap.size + 1) v2 (bigR Z 4)) := o2.mono s1
 clear o2 b2
 refine hK.out _ _ (X2.out) (fun hx9 => ?_)
 clear hK K hHeld
 have hHeld := hx9
 clear hx9
 try simp only [Act.put, sT9, sZ9, sS9]
 refine wpAnyH_ready (rs := [6]) (by kernel_rfl) (by simp) ?_
 refine AllReadyH.cons (o := ⟨some 15, _, _, _, _, _⟩) rfl (fun K hK => ?_) AllReadyH.nil
 go_simp
 refine (specBig_any 2 _ n (by omega) (by omega)).mono ?_
 rintro e w3 ⟨v3, rfl, o3, b3⟩
 have s2 : w.heap.size + 1 ≤ w2.heap.size := X2.out.1
 have D3 := hd9 (D2.out.trans (b3.mono s2))
 have X3 := hd9 (X2.out.below b3)
 obtain ⟨g3, c3, hv3⟩ := own_full o3 (by rw [bigR_len]; omega)
 rw [bigR_len] at hv3
 subst hv3
 have O3 : Hid (w3.ownsRow (w.heap.size + 1) 5 1 v2 4 ((bigR Z 4).map (Value.int .u8))) := by have := O2.out.below b3; unfold Own at this; rw [bigR_len] at this; exact this
 have N3 : Hid (∀ j u, ((bigR n 2).map (Value.int .u8))[j]? = some u → w3.cell? ((⟨g3, 0, none⟩ : Addr).add j) = some u) := World.ownsRow.cells o3 rfl
 have s3 : w.heap.size + 1 ≤ w3.heap.size := X3.out.1
 clear o3 b3 O2 X2 D2
 refine hK.out _ _ (X3.out) (fun hx9 => ?_)
 clear hK K hHeld
 have hHeld := hx9
 clear hx9
 try simp only [Act.put, sT9, sZ9, sS9]
 refine wpAnyH_ready (rs := [7]) (by kernel_rfl) (by simp) ?_
 refine AllReadyH.cons (o := ⟨some 16, _, _, _, _, _⟩) rfl (fun K hK => ?_) AllReadyH.nil
 refine step_append rfl (.tmp 11) (.tmp 15) 22 rfl (w.heap.size + 1) 5 i0 (.int .u8 0) 1 1 Tryz.underlying22 hi hz0 hz1 hz2 rfl (by decide) v2 4 _ rfl O3.out ⟨g3, 0, none⟩ 2 c3 ((bigR n 2).map (Value.int .u8)) rfl (by rw [List.length_map, bigR_len]) N3.out (u8_oneCell _) (by unfold maxLen; omega) (by omega) s3 ?_
 intro v4 w4 ho4 hg4
 have b4 : Below (w.heap.size + 1) w3 w4 := (Below.refl _ _).grown hg4 s3 (fun q hq => (World.ownsRow.lt O3.out q hq).1)
 have X4 : Hid (BoxX w4 w.heap.size (Z : Int) (.slice ao n ca)) := X3.out.belowM b4 (Nat.lt_succ_self _)
 have D4 := hd9 (D3.out.trans b4)
 have O4 : Hid (Own .u8 5 w4 (w.heap.size + 1) v4 (bigR Z 4 ++ bigR n 2)) := by refine own_of (q := 6) (ys := bigR Z 4 ++ bigR n 2) (by rw [List.length_append, bigR_len, bigR_len]) rfl ?_; rw [List.map_append]; exact ho4
 clear ho4 hg4 b4 O3 N3 X3 D3
 refine hK.out _ _ (X4.out) (fun hx9 => ?_)
 clear hK K hHeld
 have hHeld := hx9
 clear hx9
 try simp only [Act.put, sT9, sZ9, sS9]
 refine tkL9 (i := 8) (oi := ⟨some 3, _, _, _, _, _⟩) (v := v4) rfl (by kernel_rfl) (fun _ _ _ h => h) (by rfl) (by assumption) ?hy6 ?_
 case hy6 => intro w9 hS9; go_simp
 try simp only [Act.put, sT9, sZ9, sS9]
 refine wpAnyH_done (by kernel_rfl) ?_ _
 clear hHeld
 obtain ⟨H, hH⟩ : ∃ H, H = bigR Z 4 ++ bigR n 2 := ⟨_, rfl⟩
 have HH : Hid (H.length = 6) := by show _ = _; rw [hH, List.length_append, bigR_len, bigR_len]
 rw [← hH] at O4 HT
 have O5 : Hid (Own .u8 5 w4 (w.heap.size + 1) v4 (H ++ effsB (ns.take 0))) := by show Own _ _ _ _ _ _; rw [List.take_zero, show effsB [] = [] from rfl, List.append_nil]; exact O4.out
 clear hH O4 X4
 go_wp2
 go_loopw [3, 4] (fun vo vk wr => ∃ k : Nat, k ≤ n ∧ vk = .int .i64 k ∧ Hid (Own .u8 5 wr (w.heap.size + 1) vo (H ++ effsB (ns.take k))) ∧ Hid (Below (w.heap.size + 1) w1 wr)) (fun _ i _ => n - (intOf i).toNat)
 case atStart => exact ⟨0, Nat.zero_le _, rfl, O5, D4⟩
 case round =>
  obtain ⟨k, hk, rfl, HW, HD⟩ := hrel
  have sD : w.heap.size + 1 ≤ wr.heap.size := Nat.le_trans s1 HD.out.size
  obtain ⟨-, y0, y1⟩ := X1.out.belowM HD.out (Nat.lt_succ_self _)
  by_cases hlt : k < n
  · have hltI : (k : Int) < (n : Int) := by omega
    obtain ⟨b, o, hao, hb, hc⟩ : ∃ b o, ao = some ⟨b, o, none⟩ ∧ b < w.heap.size ∧ CellsE w b (o + k * 8) (eAt ns k) := by
     obtain ⟨ao', cap', e', -, -, h3⟩ := HR.out
     simp only [Value.slice.injEq] at e'
     obtain ⟨rfl, -, -⟩ := e'
     rcases h3 with h3 | ⟨b, o, rfl, hb, hc⟩
     · have := HP.out; rw [h3] at this; simp at this; omega
     · exact ⟨b, o, rfl, hb, hc k (by rw [HP.out]; exact hlt)⟩
    subst hao
    have HCk : Hid (CellsE w1 b (o + k * 8) (eAt ns k)) := hc.below B1.out hb
    clear hc
    have hb1 : b < w.heap.size + 1 := Nat.lt_succ_of_lt hb
    have hef := HOK.out k hlt
    have hle := effB_len hef
    have HND : Hid (okNd (eAt ns k).nd = true) := okEf_nd' hef
    have hpz := (okNd_all HND.out).1
    have HSU : Hid (effsB (ns.take k) ++ effB (eAt ns k) = effsB (ns.take (k + 1))) := effsB_succ ns k (by rw [HP.out]; exact hlt)
    have HLE : Hid ((H ++ effsB (ns.take k)).length ≤ 6 + 189000) := by show _ ≤ _; have := HLN.out k hk; rw [List.length_append, HH.out]; omega
    obtain ⟨L, hL⟩ : ∃ L, L = H ++ effsB (ns.take k) := ⟨_, rfl⟩
    have HL2 : Hid (L ++ effB (eAt ns k) = H ++ effsB (ns.take (k + 1))) := by show _ = _; rw [hL, List.append_assoc, HSU.out]
    rw [← hL] at HW HLE
    clear hL HSU hef hle
    have hLE := HLE.out
    have OW : Hid (wr.ownsRow (w.heap.size + 1) 5 1 u3 L.length (L.map (Value.int .u8))) := HW.out
    obtain ⟨c0, c1, c2, c3, c4, c5, c6, c7⟩ := HCk.out.below HD.out hb1
    cases hdel : (eAt ns k).del with
    | true =>
     rw [hdel] at c0
     have HEF : Hid (effB (eAt ns k) = [2] ++ txB (eAt ns k).nd.path) := by show _ = _; unfold effB; rw [hdel]; rfl
     clear hdel
     go_wp2_with (at_builtin; go_must (refine wpList_append_own _ rfl _ _ 22 rfl (w.heap.size + 1) 5 i0 (.int .u8 0) 1 1 Tryz.underlying22 hi hz0 hz1 hz2 rfl (by decide) _ _ _ rfl (OW.out.alloc _) ⟨wr.heap.size, 0, none⟩ 1 1 [.int .u8 2] rfl rfl (cell_one_new _ _ _) (by intro u hu; simp at hu; subst hu; rfl) ?_ ?_ ?_ ?_))
     · unfold maxLen; omega
     · omega
     · simp; omega
     intro v5 w5 ho5 hg5 _
     have b5 : Below (w.heap.size + 1) wr w5 := ((Below.refl _ _).alloc sD _).grown hg5 (by simp; omega) (fun q hq => (World.ownsRow.lt OW.out q hq).1)
     have O5 : Hid (Own .u8 5 w5 (w.heap.size + 1) v5 (L ++ [2])) := by
      refine own_of (q := L.length + 1) (ys := L ++ [2]) (by simp) rfl ?_
      rw [List.map_append]; exact ho5
     have D5 := hd9 (HD.out.trans b5)
     clear ho5 hg5 b5 c0 c1 c2 c3 c4 c5 c6 c7 y0 y1 OW HW HD
     have s5 : w.heap.size + 1 ≤ w5.heap.size := Nat.le_trans s1 D5.out.size
     obtain ⟨-, y0, y1⟩ := X1.out.belowM D5.out (Nat.lt_succ_self _)
     obtain ⟨c0, c1, c2, c3, c4, c5, c6, c7⟩ := HCk.out.below D5.out hb1
     go_wp2_with fail
     refine (specText_any _ (eAt ns k).nd.path (by omega)).mono ?_
     rintro e w6 ⟨v6, rfl, o6, b6⟩
     clear c0 c1 c2 c3 c4 c5 c6 c7 y0 y1
     obtain ⟨N, hN⟩ : ∃ N, N = txB (eAt ns k).nd.path := ⟨_, rfl⟩
     have hNl : 0 < N.length ∧ N.length ≤ 188 := by
      have := okNd_all HND.out
      rw [hN, txB_len]; omega
     rw [← hN] at o6 HEF
     have HL3 : Hid (L ++ [2] ++ N = H ++ effsB (ns.take (k + 1))) := by show _ = _; rw [← HL2.out, HEF.out, List.append_assoc]
     generalize hm : N.length = m at *
     have HM : Hid (N.length = m) := hm
     obtain ⟨g6, q6, hv6⟩ := own_full o6 (by omega)
     rw [hm] at hv6
     subst hv6
     have O6 : Hid (w6.ownsRow (w.heap.size + 1) 5 1 v5 (L.length + 1) ((L ++ [2]).map (Value.int .u8))) := by have := O5.out.below b6; unfold Own at this; rw [List.length_append] at this; exact this
     have N6 : Hid (∀ j u, (N.map (Value.int .u8))[j]? = some u → w6.cell? ((⟨g6, 0, none⟩ : Addr).add j) = some u) := World.ownsRow.cells o6 rfl
     have D6 := hd9 (D5.out.trans (b6.mono s5))
     have s6 : w.heap.size + 1 ≤ w6.heap.size := Nat.le_trans s1 D6.out.size
     clear o6 b6 O5 D5 hN hm HEF
     go_wp2_with (at_builtin; go_must (refine wpList_append_own _ rfl _ _ 22 rfl (w.heap.size + 1) 5 i0 (.int .u8 0) 1 1 Tryz.underlying22 hi hz0 hz1 hz2 rfl (by decide) _ _ _ rfl O6.out ⟨g6, 0, none⟩ m q6 (N.map (Value.int .u8)) rfl ?_ N6.out (u8_oneCell _) ?_ ?_ ?_ ?_))
     · rw [List.length_map, HM.out, Nat.mul_one]
     · unfold maxLen; omega
     · omega
     · exact s6
     intro v7 w7 ho7 hg7 _
     have O7 : Hid (Own .u8 5 w7 (w.heap.size + 1) v7 (H ++ effsB (ns.take (k + 1)))) := by
      refine own_of (q := L.length + 1 + m) (ys := L ++ [2] ++ N) (by rw [List.length_append, List.length_append, HM.out]; rfl) HL3.out.symm ?_
      rw [List.map_append, List.map_append, List.append_assoc]; exact ho7
     have D7 : Hid (Below (w.heap.size + 1) w1 w7) := D6.out.grown hg7 s6 (fun q hq => (World.ownsRow.lt O6.out q hq).1)
     clear ho7 hg7 O6 N6 D6
     go_wp2
     exact ⟨⟨k + 1, by omega, by go_num, O7, D7⟩, by simp [intOf]; omega⟩
    | false =>
     rw [hdel] at c0
     have HEF : Hid (effB (eAt ns k) = [1] ++ nodeB (eAt ns k).nd) := by show _ = _; unfold effB; rw [hdel]; rfl
     clear hdel
     go_wp2_with (at_builtin; go_must (refine wpList_append_own _ rfl _ _ 22 rfl (w.heap.size + 1) 5 i0 (.int .u8 0) 1 1 Tryz.underlying22 hi hz0 hz1 hz2 rfl (by decide) _ _ _ rfl (OW.out.alloc _) ⟨wr.heap.size, 0, none⟩ 1 1 [.int .u8 1] rfl rfl (cell_one_new _ _ _) (by intro u hu; simp at hu; subst hu; rfl) ?_ ?_ ?_ ?_))
     · unfold maxLen; omega
     · omega
     · simp; omega
     intro v5 w5 ho5 hg5 _
     have b5 : Below (w.heap.size + 1) wr w5 := ((Below.refl _ _).alloc sD _).grown hg5 (by simp; omega) (fun q hq => (World.ownsRow.lt OW.out q hq).1)
     have O5 : Hid (Own .u8 5 w5 (w.heap.size + 1) v5 (L ++ [1])) := by
      refine own_of (q := L.length + 1) (ys := L ++ [1]) (by simp) rfl ?_
      rw [List.map_append]; exact ho5
     have D5 := hd9 (HD.out.trans b5)
     clear ho5 hg5 b5 c0 c1 c2 c3 c4 c5 c6 c7 y0 y1 OW HW HD
     have s5 : w.heap.size + 1 ≤ w5.heap.size := Nat.le_trans s1 D5.out.size
     obtain ⟨-, y0, y1⟩ := X1.out.belowM D5.out (Nat.lt_succ_self _)
     obtain ⟨c0, c1, c2, c3, c4, c5, c6, c7⟩ := HCk.out.below D5.out hb1
     go_wp2_with fail
     refine (sNode_any _ (eAt ns k).nd HND.out).mono ?_
     rintro e w6 ⟨v6, rfl, o6, b6⟩
     clear c0 c1 c2 c3 c4 c5 c6 c7 y0 y1
     obtain ⟨N, hN⟩ : ∃ N, N = nodeB (eAt ns k).nd := ⟨_, rfl⟩
     have hNl : 0 < N.length ∧ N.length ≤ 188 := by
      have := okNd_all HND.out
      rw [hN, nodeB_len]; omega
     rw [← hN] at o6 HEF
     have HL3 : Hid (L ++ [1] ++ N = H ++ effsB (ns.take (k + 1))) := by show _ = _; rw [← HL2.out, HEF.out, List.append_assoc]
     generalize hm : N.length = m at *
     have HM : Hid (N.length = m) := hm
     obtain ⟨g6, q6, hv6⟩ := own_full o6 (by omega)
     rw [hm] at hv6
     subst hv6
     have O6 : Hid (w6.ownsRow (w.heap.size + 1) 5 1 v5 (L.length + 1) ((L ++ [1]).map (Value.int .u8))) := by have := O5.out.below b6; unfold Own at this; rw [List.length_append] at this; exact this
     have N6 : Hid (∀ j u, (N.map (Value.int .u8))[j]? = some u → w6.cell? ((⟨g6, 0, none⟩ : Addr).add j) = some u) := World.ownsRow.cells o6 rfl
     have D6 := hd9 (D5.out.trans (b6.mono s5))
     have s6 : w.heap.size + 1 ≤ w6.heap.size := Nat.le_trans s1 D6.out.size
     clear o6 b6 O5 D5 hN hm HEF
     go_wp2_with (at_builtin; go_must (refine wpList_append_own _ rfl _ _ 22 rfl (w.heap.size + 1) 5 i0 (.int .u8 0) 1 1 Tryz.underlying22 hi hz0 hz1 hz2 rfl (by decide) _ _ _ rfl O6.out ⟨g6, 0, none⟩ m q6 (N.map (Value.int .u8)) rfl ?_ N6.out (u8_oneCell _) ?_ ?_ ?_ ?_))
     · rw [List.length_map, HM.out, Nat.mul_one]
     · unfold maxLen; omega
     · omega
     · exact s6
     intro v7 w7 ho7 hg7 _
     have O7 : Hid (Own .u8 5 w7 (w.heap.size + 1) v7 (H ++ effsB (ns.take (k + 1)))) := by
      refine own_of (q := L.length + 1 + m) (ys := L ++ [1] ++ N) (by rw [List.length_append, List.length_append, HM.out]; rfl) HL3.out.symm ?_
      rw [List.map_append, List.map_append, List.append_assoc]; exact ho7
     have D7 : Hid (Below (w.heap.size + 1) w1 w7) := D6.out.grown hg7 s6 (fun q hq => (World.ownsRow.lt O6.out q hq).1)
     clear ho7 hg7 O6 N6 D6
     go_wp2
     exact ⟨⟨k + 1, by omega, by go_num, O7, D7⟩, by simp [intOf]; omega⟩
  · have hkn : k = n := by omega
    subst hkn
    go_wp2
    go_ret
    refine ⟨_, rfl, ?_, B1.out.trans (HD.out.mono (Nat.le_succ _))⟩
    rw [HT.out, ← effsB_all ns k (by rw [HP.out]; exact Nat.le_refl _)]
    exact HW.out.mono (Nat.le_succ _)
end Go.Proofs.YtcopcegamadkgaaGreatDoor
namespace Go.Proofs.YtcopcegamadkgaaGreatDoor
open Go.RowKit
theorem Tryz.infoI : (Tryz.prog.info? 2).map (fun i => (i.zero, i.size, i.bytes)) = some (some (.int .i64 0), 1, 8) := by kernel_rfl
def bitsL (W : Nat) (xs : List Int) (q : Nat) : List Int := (List.range q).map (fun i => ((dig W 1 xs i : Nat) : Int))
theorem bitsL_len (W : Nat) (xs : List Int) (q : Nat) : (bitsL W xs q).length = q := by simp [bitsL]
theorem bitsL_getD (W : Nat) (xs : List Int) (q i : Nat) (h : i < q) : (bitsL W xs q).getD i 0 = ((dig W 1 xs i : Nat) : Int) := by simp [bitsL, List.getD, h]
theorem bitsL_succ (W : Nat) (xs : List Int) (q : Nat) : bitsL W xs (q + 1) = bitsL W xs q ++ [((dig W 1 xs q : Nat) : Int)] := range_snoc _ q
theorem bit_at (W : Nat) (xs : List Int) (k j x i : Nat) (hk : k < xs.length) (hj : j < W) (hx : xs.getD k 0 = (x : Int)) (hi : i + 1 + j = W * k + W) : dig W 1 xs i = x / 2 ^ j % 2 := by
 have e0 : W * (k + 1) = W * k + W := Nat.mul_succ W k
 rw [dig_take W 1 xs (k + 1) i hk (by rw [e0]; omega), numW_take_succ W xs k hk, hx, Int.toNat_natCast]
 rw [show W * (k + 1) - 1 * (i + 1) = j by rw [e0]; omega]
 have e : 2 ^ W = 2 ^ (W - j - 1) * 2 * 2 ^ j := by rw [← Nat.pow_succ, ← Nat.pow_add]; congr 1; omega
 rw [e, ← Nat.mul_assoc, Nat.add_comm, Nat.add_mul_div_right _ _ (pow_pos2 j), ← Nat.mul_assoc, Nat.pow_one, Nat.add_mul_mod_self_right]
 rw [Nat.mul_comm (2 ^ (W - j - 1) * 2) (2 ^ j), Nat.mod_mul_right_div_self, Nat.mod_mod_of_dvd _ (Nat.dvd_mul_left 2 _)]
theorem i64_low1 (n : Int) : bits .and .i64 n 1 = n % 2 := by
 have h1 : (BitVec.ofInt 64 1).toNat = 2 ^ 1 - 1 := by decide
 have key : (BitVec.ofInt 64 n &&& BitVec.ofInt 64 1).toNat = (n % ((2 ^ 64 : Nat) : Int)).toNat % 2 ^ 1 := by
  rw [BitVec.toNat_and, BitVec.toNat_ofInt, h1, Nat.and_two_pow_sub_one_eq_mod]
 show IntKind.i64.wrap ((BitVec.ofInt 64 n &&& BitVec.ofInt 64 1).toNat : Nat) = n % 2
 rw [key, IntKind.wrap_i64]
 omega
theorem shr_bit (x j : Nat) (hx : x < 256) : bits .and .i64 (wrap64 ((x : Int) / 2 ^ j)) 1 = ((x / 2 ^ j % 2 : Nat) : Int) := by
 have h := Nat.div_le_self x (2 ^ j)
 rw [i64_low1, shr_cast]
 generalize x / 2 ^ j = y at *
 rw [IntWalk.wrap64_in _ ⟨by omega, by omega⟩]
 omega
theorem l2Bits_row (w : World) (b o n cap W : Nat) (xs : List Int) (hx : xs.length = n) (hb : b < w.heap.size) (hc : ∀ i, i < n → w.cell? ⟨b, o + i, none⟩ = some (.int .u8 (xs.getD i 0))) (hby : Byt xs) (hn : n ≤ 1099511627776) (hW : W ≤ 8) :
    Calls Tryz.prog 100 #[.slice (some ⟨b, o, none⟩) n cap, .int .i64 W] w fun e w' => ∃ v', e = .returned v' ∧ Own .i64 2 w' w.heap.size v' (bitsL W xs (W * n)) ∧ Below w.heap.size w w' := by
 obtain ⟨i0, hi, hz0, hz1, hz2⟩ := info_parts Tryz.infoI
 have HC : Hid (∀ i, i < n → w.cell? ⟨b, o + i, none⟩ = some (.int .u8 (xs.getD i 0))) := hc
 have HX : Hid (xs.length = n) := hx
 clear hc hx
 go_enter Tryz.func100, Tryz.ntmps100
 go_wp2
 go_loopw [5, 6] (fun v i wr => ∃ k : Nat, k ≤ n ∧ i = .int .i64 k ∧ wr.ownsRow w.heap.size 2 1 v (W * k) ((bitsL W xs (W * k)).map (Value.int .i64)) ∧ Below w.heap.size w wr) (fun _ i _ => n - (intOf i).toNat)
 case atStart => exact ⟨0, Nat.zero_le _, rfl, World.ownsRow_lit w #[] 0 (Nat.le_refl _) (Nat.zero_le _) rfl, (Below.refl _ _).alloc (Nat.le_refl _) _⟩
 case round =>
  obtain ⟨k, hk, rfl, ho, hg⟩ := hrel
  by_cases hlt : k < n
  · obtain ⟨x, hx, hxe⟩ := byt_at hby k
    have hltI : (k : Int) < (n : Int) := by omega
    have HXE : Hid (xs.getD k 0 = (x : Int)) := hxe
    have hsrc : w.cell? ⟨b, o + k, none⟩ = some (.int .u8 (x : Int)) := by rw [← hxe]; exact HC.out k hlt
    have HS : Hid (w.cell? ⟨b, o + k, none⟩ = some (.int .u8 (x : Int))) := hsrc
    clear hxe hsrc
    go_wp2
    go_loopw [5, 7] (fun v j wr => ∃ t : Nat, t ≤ W ∧ j = .int .i64 ((W : Int) - 1 - t) ∧ wr.ownsRow w.heap.size 2 1 v (W * k + t) ((bitsL W xs (W * k + t)).map (Value.int .i64)) ∧ Below w.heap.size w wr) (fun _ j _ => (intOf j + 1).toNat)
    case atStart => exact ⟨0, Nat.zero_le _, by go_num, ho, hg⟩
    case round =>
     clear ho hg
     obtain ⟨t, ht, rfl, ho, hg⟩ := hrel
     by_cases htl : t < W
     · obtain ⟨j, hj⟩ : ∃ j, t + 1 + j = W := ⟨W - 1 - t, by omega⟩
       have HJ : Hid (t + 1 + j = W) := hj
       have ej : (W : Int) - 1 - (t : Int) = (j : Int) := by omega
       rw [ej]
       have hj0 : (0 : Int) ≤ (j : Int) := by omega
       have hj8 : j < 8 := by omega
       clear hj ej
       have hsrc : wr.cell? ⟨b, o + k, none⟩ = some (.int .u8 (x : Int)) := (hg.cell (p := ⟨b, o + k, none⟩) hb).trans HS.out
       have HB : Hid (bits .and .i64 (wrap64 ((x : Int) / 2 ^ j)) 1 = ((dig W 1 xs (W * k + t) : Nat) : Int)) := by
        show _ = _
        have hj := HJ.out
        rw [bit_at W xs k j x (W * k + t) (by rw [HX.out]; exact hlt) (by omega) HXE.out (by omega), shr_bit x j hx]
       have HL : Hid (W * k + t + 1 ≤ 8796093022208) := by
        have : W * k ≤ 8 * k := Nat.mul_le_mul_right _ hW
        show _ ≤ _
        omega
       go_wp2_with (at_builtin; go_must (refine wpList_append_own _ rfl _ _ 162 rfl w.heap.size 2 i0 (.int .i64 0) 1 8 Tryz.underlying162 hi hz0 hz1 hz2 rfl (by decide) _ _ _ rfl (ho.alloc _) ⟨wr.heap.size, 0, none⟩ 1 1 [.int .i64 (bits .and .i64 (wrap64 ((x : Int) / 2 ^ j)) 1)] rfl rfl (cell_one_new _ _ _) (by intro u hu; simp at hu; subst hu; rfl) ?c3 ?c4 ?c5 ?_))
       case c3 => have := HL.out; unfold maxLen; omega
       case c4 => have := HL.out; omega
       case c5 => have := hg.size; simp; omega
       intro v2 w2 ho2 hg2 _
       have HO2 : Hid (w2.ownsRow w.heap.size 2 1 v2 (W * k + (t + 1)) ((bitsL W xs (W * k + (t + 1))).map (Value.int .i64))) := by
        rw [HB.out] at ho2; show World.ownsRow _ _ _ _ _ _ _; rw [← Nat.add_assoc, bitsL_succ, List.map_append]; exact ho2
       have HG2 : Hid (Below w.heap.size w w2) := (hg.alloc (hg.size) _).grown hg2 (by have := hg.size; simp; omega) (fun q hq => (ho.lt q hq).1)
       clear ho2 hg2 ho hg HB
       go_wp2
       go_roundw
       case rel => exact ⟨t + 1, by omega, by have := HJ.out; go_num, HO2.out, HG2.out⟩
       case measure => simp [intOf]
     · have htW : t = W := by omega
       subst htW
       have et : (t : Int) - 1 - (t : Int) = -1 := by omega
       rw [et]
       go_wp2
       go_roundw
       case rel => exact ⟨k + 1, by omega, by go_num, by rw [Nat.mul_succ]; exact ho, hg⟩
       case measure => simp [intOf]; omega
  · have hkn : k = n := by omega
    subst hkn
    go_wp2
    go_ret
    exact ⟨_, rfl, own_of (bitsL_len _ _ _) rfl ho, hg⟩
theorem l2Bits_nil (w : World) (ao : Option Addr) (cap W : Nat) :
    Calls Tryz.prog 100 #[.slice ao 0 cap, .int .i64 W] w fun e w' => ∃ v', e = .returned v' ∧ Own .i64 2 w' w.heap.size v' [] ∧ Below w.heap.size w w' := by
 go_enter Tryz.func100, Tryz.ntmps100
 go_wp2
 go_rounds 1
 go_ret
 exact ⟨_, rfl, World.ownsRow_lit w #[] 0 (Nat.le_refl _) (Nat.zero_le _) rfl, (Below.refl _ _).alloc (Nat.le_refl _) _⟩
theorem l2Bits_any (w : World) (v : Value) (xs : List Int) (W : Nat) (h : Rd .u8 w v xs) (hby : Byt xs) (hn : xs.length ≤ 1099511627776) (hW : W ≤ 8) :
    Calls Tryz.prog 100 #[v, .int .i64 W] w fun e w' => ∃ v', e = .returned v' ∧ Own .i64 2 w' w.heap.size v' (bitsL W xs (W * xs.length)) ∧ Below w.heap.size w w' := by
 obtain ⟨ao, cap, rfl, h1, h2, h3⟩ := h
 rcases h3 with rfl | ⟨b, o, rfl, hb, hc⟩
 · exact l2Bits_nil w ao cap W
 · exact l2Bits_row w b o xs.length cap W xs rfl hb hc hby hn hW
def gv (xs : List Int) (q t : Nat) : Nat :=
 if 7 * q + t ≤ 8 * xs.length then numW 8 xs / 2 ^ (8 * xs.length - (7 * q + t)) % 2 ^ t else numW 8 xs % 2 ^ (8 * xs.length - 7 * q) * 2 ^ (7 * q + t - 8 * xs.length)
theorem gv_zero (xs : List Int) (q : Nat) (h : 7 * q ≤ 8 * xs.length) : gv xs q 0 = 0 := by
 unfold gv; rw [if_pos (by omega)]; simp [Nat.mod_one]
theorem gv_in (xs : List Int) (q t : Nat) (h : 7 * q + t < 8 * xs.length) : gv xs q (t + 1) = 2 * gv xs q t + dig 8 1 xs (7 * q + t) := by
 unfold gv dig
 rw [if_pos (by omega), if_pos (by omega)]
 have e : 8 * xs.length - (7 * q + t) = 8 * xs.length - (7 * q + (t + 1)) + 1 := by omega
 rw [e, show 2 ^ (8 * xs.length - (7 * q + (t + 1)) + 1) = 2 ^ (8 * xs.length - (7 * q + (t + 1))) * 2 from Nat.pow_succ _ _, ← Nat.div_div_eq_div_mul, show 8 * xs.length - 1 * (7 * q + t + 1) = 8 * xs.length - (7 * q + (t + 1)) by omega, Nat.pow_one]
 generalize numW 8 xs / 2 ^ (8 * xs.length - (7 * q + (t + 1))) = X
 rw [Nat.pow_succ, Nat.mul_comm (2 ^ t) 2, Nat.mod_mul]
 omega
theorem gv_out (xs : List Int) (q t : Nat) (h0 : 7 * q ≤ 8 * xs.length) (h : 8 * xs.length ≤ 7 * q + t) : gv xs q (t + 1) = 2 * gv xs q t := by
 unfold gv
 rw [if_neg (by omega)]
 by_cases e : 7 * q + t = 8 * xs.length
 · rw [if_pos (by omega), show 8 * xs.length - (7 * q + t) = 0 by omega, show 8 * xs.length - 7 * q = t by omega, show 7 * q + (t + 1) - 8 * xs.length = 1 by omega]
   simp; omega
 · rw [if_neg (by omega), show 7 * q + (t + 1) - 8 * xs.length = 7 * q + t - 8 * xs.length + 1 by omega, Nat.pow_succ]
   rw [← Nat.mul_assoc, Nat.mul_comm _ 2]
theorem gv_lt (xs : List Int) (q t : Nat) (h0 : 7 * q ≤ 8 * xs.length) : gv xs q t < 2 ^ t := by
 unfold gv
 by_cases h : 7 * q + t ≤ 8 * xs.length
 · rw [if_pos h]; exact Nat.mod_lt _ (pow_pos2 t)
 · rw [if_neg h]
   have h1 : numW 8 xs % 2 ^ (8 * xs.length - 7 * q) < 2 ^ (8 * xs.length - 7 * q) := Nat.mod_lt _ (pow_pos2 _)
   have h2 := shift_lt h1 t (by omega)
   rw [show 7 * q + t - 8 * xs.length = t - (8 * xs.length - 7 * q) by omega]
   exact h2
theorem gv_le (xs : List Int) (q t : Nat) (h0 : 7 * q ≤ 8 * xs.length) (ht : t ≤ 7) : gv xs q t ≤ 127 := by
 have h := gv_lt xs q t h0
 have h2 : 2 ^ t ≤ 2 ^ 7 := Nat.pow_le_pow_right (by omega) ht
 simp only [Nat.reducePow] at h2
 omega
def pkS (xs : List Int) (q : Nat) : List Int := (List.range q).map (fun j => ((128 + gv xs j 7 : Nat) : Int))
theorem pkS_len (xs : List Int) (q : Nat) : (pkS xs q).length = q := by simp [pkS]
theorem pkS_succ (xs : List Int) (q : Nat) : pkS xs (q + 1) = pkS xs q ++ [((128 + gv xs q 7 : Nat) : Int)] := range_snoc _ q
theorem pkS_full (xs : List Int) (q : Nat) (h : 7 * q ≤ 8 * xs.length) : pkS xs q = pkE xs q := by
 unfold pkS pkE
 apply List.map_congr_left
 intro j hj
 have hj := List.mem_range.1 hj
 unfold gv dig
 rw [if_pos (by omega), show 7 * j + 7 = 7 * (j + 1) by omega]
theorem pkS_all (xs : List Int) (q : Nat) (h : 8 * xs.length ≤ 7 * q) (h1 : 7 * q < 8 * xs.length + 7) : pkS xs q = pk xs := by
 by_cases e : 7 * q = 8 * xs.length
 · rw [pkS_full xs q (by omega), pk_even (by omega)]
 · obtain ⟨p, rfl⟩ : ∃ p, q = p + 1 := ⟨q - 1, by omega⟩
   rw [pkS_succ, pkS_full xs p (by omega), pk_odd (q := p) (A := 8 * xs.length - 7 * p) (by omega) (by omega) (by omega)]
   unfold gv
   rw [if_neg (by omega), show 7 * p + 7 - 8 * xs.length = 7 - (8 * xs.length - 7 * p) by omega]
end Go.Proofs.YtcopcegamadkgaaGreatDoor


