import Derived.Test.YtgjenbgclpmjmaaDoorJ04
import Derived.Test.YtgjenbgclpmjmaaDoorJ03
import Derived.Lib.SmallJoins
import Derived.Deep.Slices
import Derived.Deep.DeepHandedRow
import Derived.ShutString
import Derived.ChangeOld
import Derived.ChangeMaps5
import Derived.Test.YtgjenbgclpmjmaaDoorCards
import Derived.Test.YtgjenbgclpmjmaaDoorTie
import Derived.Lib.LaidIn
namespace Go.Proofs.YtgjenbgclpmjmaaDoor
open Go.RowKit

set_option maxHeartbeats 8000000 in
set_option maxRecDepth 100000 in
theorem specTxn_row (w : World) (z : Int) (b o n cap : Nat) (ns : List Ef) (hz1 : ¬ z < 1) (hz2 : ¬ 2147483647 < z) (hp : ns.length = n) (hn : n ≤ 1000) (hb : b < w.heap.size) (hsz : ∀ i, (eAt ns i).nd.path.size ≤ 1048576 ∧ (eAt ns i).nd.data.size ≤ 1048576)
    (hc : ∀ i, i < n → CellsE w b (o + i * 8) (eAt ns i)) :
    Calls Tryd.prog 20 #[.agg #[.int .i64 z, .slice (some ⟨b, o, none⟩) n cap]] w fun e w' => e = .returned (.bool (okEs ns)) ∧ Below w.heap.size w w' := by
  have HC : Hid (∀ i, i < n → CellsE w b (o + i * 8) (eAt ns i)) := hc
  have HP : Hid (ns.length = n) := hp
  have HZ : Hid (∀ i, (eAt ns i).nd.path.size ≤ 1048576 ∧ (eAt ns i).nd.data.size ≤ 1048576) := hsz
  have h1I : ¬ (1000 : Int) < (n : Int) := by omega
  clear hc hp hsz
  have B0 : Hid (Below w.heap.size w (w.alloc (.cells #[.int .i64 z, .slice (some ⟨b, o, none⟩) n cap] 41))) := (Below.refl _ _).alloc (Nat.le_refl _) _
  have c01 : Hid ((w.alloc (.cells #[.int .i64 z, .slice (some ⟨b, o, none⟩) n cap] 41)).cell? ⟨w.heap.size, 1, none⟩ = some (.slice (some ⟨b, o, none⟩) n cap)) := by show _ = _; simp
  have z0 : w.heap.size < (w.alloc (.cells #[.int .i64 z, .slice (some ⟨b, o, none⟩) n cap] 41)).heap.size := by simp
  go_enter Tryd.func20, Tryd.ntmps20
  go_wp2
  generalize w.alloc (.cells #[.int .i64 z, .slice (some ⟨b, o, none⟩) n cap] 41) = w0 at *
  go_loopw [3] (fun i wr => ∃ k : Nat, k ≤ n ∧ i = .int .i64 k ∧ Hid (∀ t, t < k → okEAt ns t = true) ∧ Hid (Below w0.heap.size w0 wr)) (fun i _ => n - (intOf i).toNat)
  case atStart => exact ⟨0, Nat.zero_le _, rfl, (fun t ht => by omega), Below.refl _ _⟩
  case round =>
    obtain ⟨k, hk, rfl, HA, HG⟩ := hrel
    have HG0 : Hid (Below w.heap.size w wr) := B0.out.trans (HG.out.mono (by omega))
    have cT := (HG.out.cell (p := ⟨w.heap.size, 1, none⟩) z0).trans c01.out
    by_cases hlt : k < n
    · have hltI : (k : Int) < (n : Int) := by omega
      have g0 : (0 : Int) ≤ (k : Int) := by omega
      have HLT : Hid (k < ns.length) := by rw [HP.out]; exact hlt
      obtain ⟨c0, c1, c2, c3, c4, c5, c6, c7⟩ := (HC.out k hlt).below HG0.out hb
      have XN : Hid (BoxE (wr.alloc (.cells #[.bool (eAt ns k).del, .string (eAt ns k).nd.path, .string (eAt ns k).nd.data, .int .i64 (eAt ns k).nd.ver, .int .i64 (eAt ns k).nd.cver, .int .i64 (eAt ns k).nd.cz, .int .i64 (eAt ns k).nd.mz, .int .i64 (eAt ns k).nd.pz] 86)) wr.heap.size (eAt ns k)) := BoxE.new _ _ _
      have BN : Hid (Below wr.heap.size wr (wr.alloc (.cells #[.bool (eAt ns k).del, .string (eAt ns k).nd.path, .string (eAt ns k).nd.data, .int .i64 (eAt ns k).nd.ver, .int .i64 (eAt ns k).nd.cver, .int .i64 (eAt ns k).nd.cz, .int .i64 (eAt ns k).nd.mz, .int .i64 (eAt ns k).nd.pz] 86))) := (Below.refl _ _).alloc (Nat.le_refl _) _
      go_wp2
      clear c0 c1 c2 c3 c4 c5 c6 c7 cT
      generalize wr.alloc (.cells #[.bool (eAt ns k).del, .string (eAt ns k).nd.path, .string (eAt ns k).nd.data, .int .i64 (eAt ns k).nd.ver, .int .i64 (eAt ns k).nd.cver, .int .i64 (eAt ns k).nd.cz, .int .i64 (eAt ns k).nd.mz, .int .i64 (eAt ns k).nd.pz] 86) = wn at *
      have zr := HG.out.size
      obtain ⟨B, hB⟩ : ∃ B, B = wr.heap.size := ⟨_, rfl⟩
      rw [← hB] at XN
      rw [← hB]
      have HBn : Hid (∀ W, Below wn.heap.size wn W → Below w.heap.size w W) := fun W hW => (HG0.out.trans (BN.out.mono HG0.out.size)).trans (hW.mono (Nat.le_trans HG0.out.size BN.out.size))
      have HBz : Hid (∀ W, Below wn.heap.size wn W → Hid (Below w0.heap.size w0 W)) := fun W hW => (HG.out.trans (BN.out.mono HG.out.size)).trans (hW.mono (Nat.le_trans HG.out.size BN.out.size))
      have CT : Hid (∀ W, Below wn.heap.size wn W → W.cell? ⟨w.heap.size, 1, none⟩ = some (.slice (some ⟨b, o, none⟩) n cap)) := fun W hW => ((HBz.out W hW).out.cell (p := ⟨w.heap.size, 1, none⟩) z0).trans c01.out
      have HE : Hid (∀ q, Calls Tryd.prog 63 #[.agg #[.string (eAt ns k).nd.path, .string (eAt ns k).nd.data, .int .i64 (eAt ns k).nd.ver, .int .i64 (eAt ns k).nd.cver, .int .i64 (eAt ns k).nd.cz, .int .i64 (eAt ns k).nd.mz, .int .i64 (eAt ns k).nd.pz]] (wn.drewN q) fun e w' => e = .returned (.bool (okNd (eAt ns k).nd)) ∧ Hid (Below wn.heap.size wn w')) := by
        intro q
        refine (specNode_any _ (eAt ns k).nd (HZ.out k).1 (HZ.out k).2).mono ?_
        rintro e w' ⟨rfl, b'⟩
        exact ⟨rfl, (below_drewN' wn q).trans b'⟩
      have HD : Hid (Below wn.heap.size wn wn.drew) := below_drewN' wn 1
      have HHB : Hid (B = wr.heap.size) := hB
      clear hB BN
      cases hok : okNd (eAt ns k).nd with
      | false =>
        have HOK : Hid (okNd (eAt ns k).nd = false) := hok
        have HN : Hid (okEs ns = false) := es_no HLT.out (by unfold okEAt; rw [okEf_nd hok]; rfl)
        clear hok
        refine wp_region_held_drew (S := fun W => Hid (Below wn.heap.size wn W) ∧ (W.cell? ⟨B, 0, none⟩ = some (.bool (eAt ns k).del) ∧ W.cell? ⟨B, 1, none⟩ = some (.string (eAt ns k).nd.path) ∧ W.cell? ⟨B, 2, none⟩ = some (.string (eAt ns k).nd.data) ∧ W.cell? ⟨B, 3, none⟩ = some (.int .i64 (eAt ns k).nd.ver) ∧ W.cell? ⟨B, 4, none⟩ = some (.int .i64 (eAt ns k).nd.cver) ∧ W.cell? ⟨B, 5, none⟩ = some (.int .i64 (eAt ns k).nd.cz) ∧ W.cell? ⟨B, 6, none⟩ = some (.int .i64 (eAt ns k).nd.mz) ∧ W.cell? ⟨B, 7, none⟩ = some (.int .i64 (eAt ns k).nd.pz))) (by kernel_rfl) (⟨HD, (XN.out.below HD.out).all⟩) (fun hHeld => ?_)
        refine wpAnyH_take (i := 0) (oi := { dst := some 31, op := _, type := _, pos := _, after := _, guard := _ }) (v := ?v53) rfl (by kernel_rfl) (by kernel_rfl) (by kernel_rfl) (fun _ _ _ h => h) (Or.inl ⟨by rfl, ?hy53⟩) (by assumption) ?rest53
        case hy53 =>
          intro w9 hS9
          obtain ⟨-, hS9⟩ := hS9
          go_simp
          try with_reducible rfl
        try simp only [Act.put, List.setIfInBounds_toArray, List.set_cons_zero, List.set_cons_succ]
        refine wpAnyH_take (i := 1) (oi := { dst := some 32, op := _, type := _, pos := _, after := _, guard := _ }) (v := ?v54) rfl (by kernel_rfl) (by kernel_rfl) (by kernel_rfl) (fun _ _ _ h => h) (Or.inl ⟨by rfl, ?hy54⟩) (by assumption) ?rest54
        case hy54 =>
          intro w9 hS9
          obtain ⟨-, hS9⟩ := hS9
          go_simp
          try with_reducible rfl
        try simp only [Act.put, List.setIfInBounds_toArray, List.set_cons_zero, List.set_cons_succ]
        refine wpAnyH_ready (rs := [2]) (by kernel_rfl) (by simp) ?_
        refine AllReadyH.cons (o := { dst := some 33, op := _, type := _, pos := _, after := _, guard := _ }) rfl (fun K hK => ?_) AllReadyH.nil
        go_simp
        refine (HE.out 1).mono ?_
        rintro e w' ⟨rfl, HB⟩
        rw [HOK.out]
        refine hK.out _ _ ((show (fun W => Hid (Below wn.heap.size wn W) ∧ (W.cell? ⟨B, 0, none⟩ = some (.bool (eAt ns k).del) ∧ W.cell? ⟨B, 1, none⟩ = some (.string (eAt ns k).nd.path) ∧ W.cell? ⟨B, 2, none⟩ = some (.string (eAt ns k).nd.data) ∧ W.cell? ⟨B, 3, none⟩ = some (.int .i64 (eAt ns k).nd.ver) ∧ W.cell? ⟨B, 4, none⟩ = some (.int .i64 (eAt ns k).nd.cver) ∧ W.cell? ⟨B, 5, none⟩ = some (.int .i64 (eAt ns k).nd.cz) ∧ W.cell? ⟨B, 6, none⟩ = some (.int .i64 (eAt ns k).nd.mz) ∧ W.cell? ⟨B, 7, none⟩ = some (.int .i64 (eAt ns k).nd.pz))) w' from ⟨HB, (XN.out.below HB.out).all⟩)) (fun hx9 => ?_)
        clear hK K hHeld hx9
        have hHeld := (show (fun W => Hid (Below wn.heap.size wn W) ∧ (W.cell? ⟨B, 0, none⟩ = some (.bool (eAt ns k).del) ∧ W.cell? ⟨B, 1, none⟩ = some (.string (eAt ns k).nd.path) ∧ W.cell? ⟨B, 2, none⟩ = some (.string (eAt ns k).nd.data) ∧ W.cell? ⟨B, 3, none⟩ = some (.int .i64 (eAt ns k).nd.ver) ∧ W.cell? ⟨B, 4, none⟩ = some (.int .i64 (eAt ns k).nd.cver) ∧ W.cell? ⟨B, 5, none⟩ = some (.int .i64 (eAt ns k).nd.cz) ∧ W.cell? ⟨B, 6, none⟩ = some (.int .i64 (eAt ns k).nd.mz) ∧ W.cell? ⟨B, 7, none⟩ = some (.int .i64 (eAt ns k).nd.pz))) w' from ⟨HB, (XN.out.below HB.out).all⟩)
        try simp only [Act.put, List.setIfInBounds_toArray, List.set_cons_zero, List.set_cons_succ]
        refine wpAnyH_take (i := 3) (oi := { dst := some 34, op := _, type := _, pos := _, after := _, guard := _ }) (v := ?v55) rfl (by kernel_rfl) (by kernel_rfl) (by kernel_rfl) (fun _ _ _ h => h) (Or.inl ⟨by rfl, ?hy55⟩) (by assumption) ?rest55
        case hy55 =>
          intro w9 hS9
          obtain ⟨-, hS9⟩ := hS9
          go_simp
          try with_reducible rfl
        try simp only [Act.put, List.setIfInBounds_toArray, List.set_cons_zero, List.set_cons_succ]
        refine wpAnyH_take (i := 4) (oi := { dst := some 35, op := _, type := _, pos := _, after := _, guard := _ }) (v := ?v56) rfl (by kernel_rfl) (by kernel_rfl) (by kernel_rfl) (fun _ _ _ h => h) (Or.inl ⟨by rfl, ?hy56⟩) (by assumption) ?rest56
        case hy56 =>
          intro w9 hS9
          obtain ⟨-, hS9⟩ := hS9
          go_simp
          try with_reducible rfl
        try simp only [Act.put, List.setIfInBounds_toArray, List.set_cons_zero, List.set_cons_succ]
        refine wpAnyH_take (i := 5) (oi := { dst := some 36, op := _, type := _, pos := _, after := _, guard := _ }) (v := undef) rfl (by kernel_rfl) (by kernel_rfl) (by kernel_rfl) (fun _ _ _ h => h) (Or.inr ⟨by rfl, rfl⟩) (by assumption) ?_
        try simp only [Act.put, List.setIfInBounds_toArray, List.set_cons_zero, List.set_cons_succ]
        refine wpAnyH_take (i := 6) (oi := { dst := some 37, op := _, type := _, pos := _, after := _, guard := _ }) (v := undef) rfl (by kernel_rfl) (by kernel_rfl) (by kernel_rfl) (fun _ _ _ h => h) (Or.inr ⟨by rfl, rfl⟩) (by assumption) ?_
        try simp only [Act.put, List.setIfInBounds_toArray, List.set_cons_zero, List.set_cons_succ]
        refine wpAnyH_take (i := 7) (oi := { dst := some 38, op := _, type := _, pos := _, after := _, guard := _ }) (v := undef) rfl (by kernel_rfl) (by kernel_rfl) (by kernel_rfl) (fun _ _ _ h => h) (Or.inr ⟨by rfl, rfl⟩) (by assumption) ?_
        try simp only [Act.put, List.setIfInBounds_toArray, List.set_cons_zero, List.set_cons_succ]
        refine wpAnyH_take (i := 8) (oi := { dst := some 39, op := _, type := _, pos := _, after := _, guard := _ }) (v := undef) rfl (by kernel_rfl) (by kernel_rfl) (by kernel_rfl) (fun _ _ _ h => h) (Or.inr ⟨by rfl, rfl⟩) (by assumption) ?_
        try simp only [Act.put, List.setIfInBounds_toArray, List.set_cons_zero, List.set_cons_succ]
        refine wpAnyH_take (i := 9) (oi := { dst := some 40, op := _, type := _, pos := _, after := _, guard := _ }) (v := undef) rfl (by kernel_rfl) (by kernel_rfl) (by kernel_rfl) (fun _ _ _ h => h) (Or.inr ⟨by rfl, rfl⟩) (by assumption) ?_
        try simp only [Act.put, List.setIfInBounds_toArray, List.set_cons_zero, List.set_cons_succ]
        refine wpAnyH_take (i := 10) (oi := { dst := some 41, op := _, type := _, pos := _, after := _, guard := _ }) (v := undef) rfl (by kernel_rfl) (by kernel_rfl) (by kernel_rfl) (fun _ _ _ h => h) (Or.inr ⟨by rfl, rfl⟩) (by assumption) ?_
        try simp only [Act.put, List.setIfInBounds_toArray, List.set_cons_zero, List.set_cons_succ]
        refine wpAnyH_take (i := 11) (oi := { dst := some 42, op := _, type := _, pos := _, after := _, guard := _ }) (v := undef) rfl (by kernel_rfl) (by kernel_rfl) (by kernel_rfl) (fun _ _ _ h => h) (Or.inr ⟨by rfl, rfl⟩) (by assumption) ?_
        try simp only [Act.put, List.setIfInBounds_toArray, List.set_cons_zero, List.set_cons_succ]
        refine wpAnyH_take (i := 12) (oi := { dst := some 43, op := _, type := _, pos := _, after := _, guard := _ }) (v := undef) rfl (by kernel_rfl) (by kernel_rfl) (by kernel_rfl) (fun _ _ _ h => h) (Or.inr ⟨by rfl, rfl⟩) (by assumption) ?_
        try simp only [Act.put, List.setIfInBounds_toArray, List.set_cons_zero, List.set_cons_succ]
        refine wpAnyH_take (i := 13) (oi := { dst := some 44, op := _, type := _, pos := _, after := _, guard := _ }) (v := undef) rfl (by kernel_rfl) (by kernel_rfl) (by kernel_rfl) (fun _ _ _ h => h) (Or.inr ⟨by rfl, rfl⟩) (by assumption) ?_
        try simp only [Act.put, List.setIfInBounds_toArray, List.set_cons_zero, List.set_cons_succ]
        refine wpAnyH_take (i := 14) (oi := { dst := some 45, op := _, type := _, pos := _, after := _, guard := _ }) (v := undef) rfl (by kernel_rfl) (by kernel_rfl) (by kernel_rfl) (fun _ _ _ h => h) (Or.inr ⟨by rfl, rfl⟩) (by assumption) ?_
        try simp only [Act.put, List.setIfInBounds_toArray, List.set_cons_zero, List.set_cons_succ]
        refine wpAnyH_take (i := 15) (oi := { dst := some 46, op := _, type := _, pos := _, after := _, guard := _ }) (v := undef) rfl (by kernel_rfl) (by kernel_rfl) (by kernel_rfl) (fun _ _ _ h => h) (Or.inr ⟨by rfl, rfl⟩) (by assumption) ?_
        try simp only [Act.put, List.setIfInBounds_toArray, List.set_cons_zero, List.set_cons_succ]
        refine wpAnyH_take (i := 16) (oi := { dst := some 47, op := _, type := _, pos := _, after := _, guard := _ }) (v := undef) rfl (by kernel_rfl) (by kernel_rfl) (by kernel_rfl) (fun _ _ _ h => h) (Or.inr ⟨by rfl, rfl⟩) (by assumption) ?_
        try simp only [Act.put, List.setIfInBounds_toArray, List.set_cons_zero, List.set_cons_succ]
        refine wpAnyH_take (i := 17) (oi := { dst := some 48, op := _, type := _, pos := _, after := _, guard := _ }) (v := undef) rfl (by kernel_rfl) (by kernel_rfl) (by kernel_rfl) (fun _ _ _ h => h) (Or.inr ⟨by rfl, rfl⟩) (by assumption) ?_
        try simp only [Act.put, List.setIfInBounds_toArray, List.set_cons_zero, List.set_cons_succ]
        refine wpAnyH_take (i := 18) (oi := { dst := some 49, op := _, type := _, pos := _, after := _, guard := _ }) (v := undef) rfl (by kernel_rfl) (by kernel_rfl) (by kernel_rfl) (fun _ _ _ h => h) (Or.inr ⟨by rfl, rfl⟩) (by assumption) ?_
        try simp only [Act.put, List.setIfInBounds_toArray, List.set_cons_zero, List.set_cons_succ]
        refine wpAnyH_take (i := 19) (oi := { dst := some 50, op := _, type := _, pos := _, after := _, guard := _ }) (v := undef) rfl (by kernel_rfl) (by kernel_rfl) (by kernel_rfl) (fun _ _ _ h => h) (Or.inr ⟨by rfl, rfl⟩) (by assumption) ?_
        try simp only [Act.put, List.setIfInBounds_toArray, List.set_cons_zero, List.set_cons_succ]
        refine wpAnyH_take (i := 20) (oi := { dst := some 51, op := _, type := _, pos := _, after := _, guard := _ }) (v := undef) rfl (by kernel_rfl) (by kernel_rfl) (by kernel_rfl) (fun _ _ _ h => h) (Or.inr ⟨by rfl, rfl⟩) (by assumption) ?_
        try simp only [Act.put, List.setIfInBounds_toArray, List.set_cons_zero, List.set_cons_succ]
        refine wpAnyH_take (i := 21) (oi := { dst := some 52, op := _, type := _, pos := _, after := _, guard := _ }) (v := ?v57) rfl (by kernel_rfl) (by kernel_rfl) (by kernel_rfl) (fun _ _ _ h => h) (Or.inl ⟨by rfl, ?hy57⟩) (by assumption) ?rest57
        case hy57 =>
          intro w9 hS9
          obtain ⟨-, hS9⟩ := hS9
          go_simp
          try with_reducible rfl
        try simp only [Act.put, List.setIfInBounds_toArray, List.set_cons_zero, List.set_cons_succ]
        refine wpAnyH_done (by kernel_rfl) ?_ _
        clear hHeld
        go_wp2
        go_ret
        exact ⟨ret_b HN.out.symm, HBn.out _ HB.out⟩
      | true =>
        have HOK : Hid (okNd (eAt ns k).nd = true) := hok
        clear hok
        cases k with
        | zero =>
          have g2 : (0 : Int) < (n : Int) := by omega
          refine wp_region_held_drew (S := fun W => Hid (Below wn.heap.size wn W) ∧ (W.cell? ⟨B, 0, none⟩ = some (.bool (eAt ns 0).del) ∧ W.cell? ⟨B, 1, none⟩ = some (.string (eAt ns 0).nd.path) ∧ W.cell? ⟨B, 2, none⟩ = some (.string (eAt ns 0).nd.data) ∧ W.cell? ⟨B, 3, none⟩ = some (.int .i64 (eAt ns 0).nd.ver) ∧ W.cell? ⟨B, 4, none⟩ = some (.int .i64 (eAt ns 0).nd.cver) ∧ W.cell? ⟨B, 5, none⟩ = some (.int .i64 (eAt ns 0).nd.cz) ∧ W.cell? ⟨B, 6, none⟩ = some (.int .i64 (eAt ns 0).nd.mz) ∧ W.cell? ⟨B, 7, none⟩ = some (.int .i64 (eAt ns 0).nd.pz))) (by kernel_rfl) (⟨HD, (XN.out.below HD.out).all⟩) (fun hHeld => ?_)
          refine wpAnyH_take (i := 0) (oi := { dst := some 31, op := _, type := _, pos := _, after := _, guard := _ }) (v := ?v58) rfl (by kernel_rfl) (by kernel_rfl) (by kernel_rfl) (fun _ _ _ h => h) (Or.inl ⟨by rfl, ?hy58⟩) (by assumption) ?rest58
          case hy58 =>
            intro w9 hS9
            obtain ⟨-, hS9⟩ := hS9
            go_simp
            try with_reducible rfl
          try simp only [Act.put, List.setIfInBounds_toArray, List.set_cons_zero, List.set_cons_succ]
          refine wpAnyH_take (i := 1) (oi := { dst := some 32, op := _, type := _, pos := _, after := _, guard := _ }) (v := ?v59) rfl (by kernel_rfl) (by kernel_rfl) (by kernel_rfl) (fun _ _ _ h => h) (Or.inl ⟨by rfl, ?hy59⟩) (by assumption) ?rest59
          case hy59 =>
            intro w9 hS9
            obtain ⟨-, hS9⟩ := hS9
            go_simp
            try with_reducible rfl
          try simp only [Act.put, List.setIfInBounds_toArray, List.set_cons_zero, List.set_cons_succ]
          refine wpAnyH_ready (rs := [2]) (by kernel_rfl) (by simp) ?_
          refine AllReadyH.cons (o := { dst := some 33, op := _, type := _, pos := _, after := _, guard := _ }) rfl (fun K hK => ?_) AllReadyH.nil
          go_simp
          refine (HE.out 1).mono ?_
          rintro e w' ⟨rfl, HB⟩
          rw [HOK.out]
          refine hK.out _ _ ((show (fun W => Hid (Below wn.heap.size wn W) ∧ (W.cell? ⟨B, 0, none⟩ = some (.bool (eAt ns 0).del) ∧ W.cell? ⟨B, 1, none⟩ = some (.string (eAt ns 0).nd.path) ∧ W.cell? ⟨B, 2, none⟩ = some (.string (eAt ns 0).nd.data) ∧ W.cell? ⟨B, 3, none⟩ = some (.int .i64 (eAt ns 0).nd.ver) ∧ W.cell? ⟨B, 4, none⟩ = some (.int .i64 (eAt ns 0).nd.cver) ∧ W.cell? ⟨B, 5, none⟩ = some (.int .i64 (eAt ns 0).nd.cz) ∧ W.cell? ⟨B, 6, none⟩ = some (.int .i64 (eAt ns 0).nd.mz) ∧ W.cell? ⟨B, 7, none⟩ = some (.int .i64 (eAt ns 0).nd.pz))) w' from ⟨HB, (XN.out.below HB.out).all⟩)) (fun hx9 => ?_)
          clear hK K hHeld hx9
          have hHeld := (show (fun W => Hid (Below wn.heap.size wn W) ∧ (W.cell? ⟨B, 0, none⟩ = some (.bool (eAt ns 0).del) ∧ W.cell? ⟨B, 1, none⟩ = some (.string (eAt ns 0).nd.path) ∧ W.cell? ⟨B, 2, none⟩ = some (.string (eAt ns 0).nd.data) ∧ W.cell? ⟨B, 3, none⟩ = some (.int .i64 (eAt ns 0).nd.ver) ∧ W.cell? ⟨B, 4, none⟩ = some (.int .i64 (eAt ns 0).nd.cver) ∧ W.cell? ⟨B, 5, none⟩ = some (.int .i64 (eAt ns 0).nd.cz) ∧ W.cell? ⟨B, 6, none⟩ = some (.int .i64 (eAt ns 0).nd.mz) ∧ W.cell? ⟨B, 7, none⟩ = some (.int .i64 (eAt ns 0).nd.pz))) w' from ⟨HB, (XN.out.below HB.out).all⟩)
          try simp only [Act.put, List.setIfInBounds_toArray, List.set_cons_zero, List.set_cons_succ]
          refine wpAnyH_take (i := 3) (oi := { dst := some 34, op := _, type := _, pos := _, after := _, guard := _ }) (v := ?v60) rfl (by kernel_rfl) (by kernel_rfl) (by kernel_rfl) (fun _ _ _ h => h) (Or.inl ⟨by rfl, ?hy60⟩) (by assumption) ?rest60
          case hy60 =>
            intro w9 hS9
            obtain ⟨-, hS9⟩ := hS9
            go_simp
            try with_reducible rfl
          try simp only [Act.put, List.setIfInBounds_toArray, List.set_cons_zero, List.set_cons_succ]
          refine wpAnyH_take (i := 4) (oi := { dst := some 35, op := _, type := _, pos := _, after := _, guard := _ }) (v := ?v61) rfl (by kernel_rfl) (by kernel_rfl) (by kernel_rfl) (fun _ _ _ h => h) (Or.inl ⟨by rfl, ?hy61⟩) (by assumption) ?rest61
          case hy61 =>
            intro w9 hS9
            obtain ⟨-, hS9⟩ := hS9
            go_simp
            try with_reducible rfl
          try simp only [Act.put, List.setIfInBounds_toArray, List.set_cons_zero, List.set_cons_succ]
          refine wpAnyH_take (i := 5) (oi := { dst := some 36, op := _, type := _, pos := _, after := _, guard := _ }) (v := ?v62) rfl (by kernel_rfl) (by kernel_rfl) (by kernel_rfl) (fun _ _ _ h => h) (Or.inl ⟨by rfl, ?hy62⟩) (by assumption) ?rest62
          case hy62 =>
            intro w9 hS9
            obtain ⟨-, hS9⟩ := hS9
            go_simp
            try with_reducible rfl
          try simp only [Act.put, List.setIfInBounds_toArray, List.set_cons_zero, List.set_cons_succ]
          refine wpAnyH_take (i := 6) (oi := { dst := some 37, op := _, type := _, pos := _, after := _, guard := _ }) (v := ?v63) rfl (by kernel_rfl) (by kernel_rfl) (by kernel_rfl) (fun _ _ _ h => h) (Or.inl ⟨by rfl, ?hy63⟩) (by assumption) ?rest63
          case hy63 =>
            intro w9 hS9
            obtain ⟨-, hS9⟩ := hS9
            go_simp
            try with_reducible rfl
          try simp only [Act.put, List.setIfInBounds_toArray, List.set_cons_zero, List.set_cons_succ]
          refine wpAnyH_take (i := 7) (oi := { dst := some 38, op := _, type := _, pos := _, after := _, guard := _ }) (v := ?v64) rfl (by kernel_rfl) (by kernel_rfl) (by kernel_rfl) (fun _ _ _ h => h) (Or.inl ⟨by rfl, ?hy64⟩) (by assumption) ?rest64
          case hy64 =>
            intro w9 hS9
            obtain ⟨-, hS9⟩ := hS9
            go_simp
            try with_reducible rfl
          try simp only [Act.put, List.setIfInBounds_toArray, List.set_cons_zero, List.set_cons_succ]
          refine wpAnyH_take (i := 8) (oi := { dst := some 39, op := _, type := _, pos := _, after := _, guard := _ }) (v := undef) rfl (by kernel_rfl) (by kernel_rfl) (by kernel_rfl) (fun _ _ _ h => h) (Or.inr ⟨by rfl, rfl⟩) (by assumption) ?_
          try simp only [Act.put, List.setIfInBounds_toArray, List.set_cons_zero, List.set_cons_succ]
          refine wpAnyH_take (i := 9) (oi := { dst := some 40, op := _, type := _, pos := _, after := _, guard := _ }) (v := undef) rfl (by kernel_rfl) (by kernel_rfl) (by kernel_rfl) (fun _ _ _ h => h) (Or.inr ⟨by rfl, rfl⟩) (by assumption) ?_
          try simp only [Act.put, List.setIfInBounds_toArray, List.set_cons_zero, List.set_cons_succ]
          refine wpAnyH_take (i := 10) (oi := { dst := some 41, op := _, type := _, pos := _, after := _, guard := _ }) (v := undef) rfl (by kernel_rfl) (by kernel_rfl) (by kernel_rfl) (fun _ _ _ h => h) (Or.inr ⟨by rfl, rfl⟩) (by assumption) ?_
          try simp only [Act.put, List.setIfInBounds_toArray, List.set_cons_zero, List.set_cons_succ]
          refine wpAnyH_take (i := 11) (oi := { dst := some 42, op := _, type := _, pos := _, after := _, guard := _ }) (v := undef) rfl (by kernel_rfl) (by kernel_rfl) (by kernel_rfl) (fun _ _ _ h => h) (Or.inr ⟨by rfl, rfl⟩) (by assumption) ?_
          try simp only [Act.put, List.setIfInBounds_toArray, List.set_cons_zero, List.set_cons_succ]
          refine wpAnyH_take (i := 12) (oi := { dst := some 43, op := _, type := _, pos := _, after := _, guard := _ }) (v := undef) rfl (by kernel_rfl) (by kernel_rfl) (by kernel_rfl) (fun _ _ _ h => h) (Or.inr ⟨by rfl, rfl⟩) (by assumption) ?_
          try simp only [Act.put, List.setIfInBounds_toArray, List.set_cons_zero, List.set_cons_succ]
          refine wpAnyH_take (i := 13) (oi := { dst := some 44, op := _, type := _, pos := _, after := _, guard := _ }) (v := undef) rfl (by kernel_rfl) (by kernel_rfl) (by kernel_rfl) (fun _ _ _ h => h) (Or.inr ⟨by rfl, rfl⟩) (by assumption) ?_
          try simp only [Act.put, List.setIfInBounds_toArray, List.set_cons_zero, List.set_cons_succ]
          refine wpAnyH_take (i := 14) (oi := { dst := some 45, op := _, type := _, pos := _, after := _, guard := _ }) (v := undef) rfl (by kernel_rfl) (by kernel_rfl) (by kernel_rfl) (fun _ _ _ h => h) (Or.inr ⟨by rfl, rfl⟩) (by assumption) ?_
          try simp only [Act.put, List.setIfInBounds_toArray, List.set_cons_zero, List.set_cons_succ]
          refine wpAnyH_take (i := 15) (oi := { dst := some 46, op := _, type := _, pos := _, after := _, guard := _ }) (v := undef) rfl (by kernel_rfl) (by kernel_rfl) (by kernel_rfl) (fun _ _ _ h => h) (Or.inr ⟨by rfl, rfl⟩) (by assumption) ?_
          try simp only [Act.put, List.setIfInBounds_toArray, List.set_cons_zero, List.set_cons_succ]
          refine wpAnyH_take (i := 16) (oi := { dst := some 47, op := _, type := _, pos := _, after := _, guard := _ }) (v := undef) rfl (by kernel_rfl) (by kernel_rfl) (by kernel_rfl) (fun _ _ _ h => h) (Or.inr ⟨by rfl, rfl⟩) (by assumption) ?_
          try simp only [Act.put, List.setIfInBounds_toArray, List.set_cons_zero, List.set_cons_succ]
          refine wpAnyH_take (i := 17) (oi := { dst := some 48, op := _, type := _, pos := _, after := _, guard := _ }) (v := undef) rfl (by kernel_rfl) (by kernel_rfl) (by kernel_rfl) (fun _ _ _ h => h) (Or.inr ⟨by rfl, rfl⟩) (by assumption) ?_
          try simp only [Act.put, List.setIfInBounds_toArray, List.set_cons_zero, List.set_cons_succ]
          refine wpAnyH_take (i := 18) (oi := { dst := some 49, op := _, type := _, pos := _, after := _, guard := _ }) (v := undef) rfl (by kernel_rfl) (by kernel_rfl) (by kernel_rfl) (fun _ _ _ h => h) (Or.inr ⟨by rfl, rfl⟩) (by assumption) ?_
          try simp only [Act.put, List.setIfInBounds_toArray, List.set_cons_zero, List.set_cons_succ]
          refine wpAnyH_take (i := 19) (oi := { dst := some 50, op := _, type := _, pos := _, after := _, guard := _ }) (v := undef) rfl (by kernel_rfl) (by kernel_rfl) (by kernel_rfl) (fun _ _ _ h => h) (Or.inr ⟨by rfl, rfl⟩) (by assumption) ?_
          try simp only [Act.put, List.setIfInBounds_toArray, List.set_cons_zero, List.set_cons_succ]
          refine wpAnyH_take (i := 20) (oi := { dst := some 51, op := _, type := _, pos := _, after := _, guard := _ }) (v := ?v65) rfl (by kernel_rfl) (by kernel_rfl) (by kernel_rfl) (fun _ _ _ h => h) (Or.inl ⟨by rfl, ?hy65⟩) (by assumption) ?rest65
          case hy65 =>
            intro w9 hS9
            obtain ⟨-, hS9⟩ := hS9
            go_simp
            try with_reducible rfl
          try simp only [Act.put, List.setIfInBounds_toArray, List.set_cons_zero, List.set_cons_succ]
          refine wpAnyH_take (i := 21) (oi := { dst := some 52, op := _, type := _, pos := _, after := _, guard := _ }) (v := ?v66) rfl (by kernel_rfl) (by kernel_rfl) (by kernel_rfl) (fun _ _ _ h => h) (Or.inl ⟨by rfl, ?hy66⟩) (by assumption) ?rest66
          case hy66 =>
            intro w9 hS9
            obtain ⟨-, hS9⟩ := hS9
            go_simp
            try with_reducible rfl
          try simp only [Act.put, List.setIfInBounds_toArray, List.set_cons_zero, List.set_cons_succ]
          refine wpAnyH_done (by kernel_rfl) ?_ _
          clear hHeld
          obtain ⟨-, b0, b1, b2, b3, b4, b5, b6, b7⟩ := XN.out.below HB.out
          cases hdel : (eAt ns 0).del with
          | false =>
            have HT : Hid (okEAt ns 0 = true) := by show _ = _; rw [okEAt_zero, okEf_false hdel, HOK.out]
            rw [hdel] at b0
            clear hdel
            go_wp2
            go_roundw
            case rel => exact ⟨0 + 1, by omega, by go_num, (fun t ht => by by_cases e : t = 0; (subst e; exact HT.out); exact HA.out t (by omega)), HBz.out _ HB.out⟩
            case measure => simp [intOf]; omega
          | true =>
            have HEF : Hid (okEf (eAt ns 0) = (okNd (eAt ns 0).nd && blank (eAt ns 0).nd)) := okEf_true hdel
            rw [hdel] at b0
            clear hdel
            have hpp : ((eAt ns 0).nd.path.toList == (eAt ns 0).nd.path.toList) = true := by simp
            cases h_dat : ((eAt ns 0).nd.data.toList == []) with
            | false =>
              have HN : Hid (okEs ns = false) := es_no HLT.out (by rw [okEAt_zero, HEF.out]; unfold blank; rw [h_dat]; simp)
              go_wp2
              go_ret
              exact ⟨ret_b HN.out.symm, HBn.out _ HB.out⟩
            | true =>
              cases h_ver : ((eAt ns 0).nd.ver == 0) with
              | false =>
                have HN : Hid (okEs ns = false) := es_no HLT.out (by rw [okEAt_zero, HEF.out]; unfold blank; rw [h_ver]; simp)
                go_wp2
                go_ret
                exact ⟨ret_b HN.out.symm, HBn.out _ HB.out⟩
              | true =>
                cases h_cver : ((eAt ns 0).nd.cver == 0) with
                | false =>
                  have HN : Hid (okEs ns = false) := es_no HLT.out (by rw [okEAt_zero, HEF.out]; unfold blank; rw [h_cver]; simp)
                  go_wp2
                  go_ret
                  exact ⟨ret_b HN.out.symm, HBn.out _ HB.out⟩
                | true =>
                  cases h_cz : ((eAt ns 0).nd.cz == 0) with
                  | false =>
                    have HN : Hid (okEs ns = false) := es_no HLT.out (by rw [okEAt_zero, HEF.out]; unfold blank; rw [h_cz]; simp)
                    go_wp2
                    go_ret
                    exact ⟨ret_b HN.out.symm, HBn.out _ HB.out⟩
                  | true =>
                    cases h_mz : ((eAt ns 0).nd.mz == 0) with
                    | false =>
                      have HN : Hid (okEs ns = false) := es_no HLT.out (by rw [okEAt_zero, HEF.out]; unfold blank; rw [h_mz]; simp)
                      go_wp2
                      go_ret
                      exact ⟨ret_b HN.out.symm, HBn.out _ HB.out⟩
                    | true =>
                      cases h_pz : ((eAt ns 0).nd.pz == 0) with
                      | false =>
                        have HN : Hid (okEs ns = false) := es_no HLT.out (by rw [okEAt_zero, HEF.out]; unfold blank; rw [h_pz]; simp)
                        go_wp2
                        go_ret
                        exact ⟨ret_b HN.out.symm, HBn.out _ HB.out⟩
                      | true =>
                        have HT : Hid (okEAt ns 0 = true) := by show _ = _; rw [okEAt_zero, HEF.out, HOK.out]; unfold blank; rw [h_dat, h_ver, h_cver, h_cz, h_mz, h_pz]; rfl
                        go_wp2
                        go_roundw
                        case rel => exact ⟨0 + 1, by omega, by go_num, (fun t ht => by by_cases e : t = 0; (subst e; exact HT.out); exact HA.out t (by omega)), HBz.out _ HB.out⟩
                        case measure => simp [intOf]; omega
        | succ j =>
          have g1 : (0 : Int) ≤ (j : Int) + 1 := by omega
          have g2 : (j : Int) + 1 < (n : Int) := by omega
          have g3 : (0 : Int) ≤ (j : Int) := by omega
          have g4 : (j : Int) < (n : Int) := by omega
          have g5 : (0 : Int) < (j : Int) + 1 := by omega
          have g6 : IntKind.i64.wrap (j : Int) = (j : Int) := by rw [IntKind.wrap_i64]; omega
          cases hcmp : ltP (eAt ns j).nd.path (eAt ns (j + 1)).nd.path with
          | true =>
            obtain ⟨l1, l2⟩ := ltP_yes hcmp
            have HLP : Hid (ltP (eAt ns j).nd.path (eAt ns (j + 1)).nd.path = true) := hcmp
            clear hcmp
            refine wp_region_held_drew (S := fun W => Hid (Below wn.heap.size wn W) ∧ (W.cell? ⟨B, 0, none⟩ = some (.bool (eAt ns (j + 1)).del) ∧ W.cell? ⟨B, 1, none⟩ = some (.string (eAt ns (j + 1)).nd.path) ∧ W.cell? ⟨B, 2, none⟩ = some (.string (eAt ns (j + 1)).nd.data) ∧ W.cell? ⟨B, 3, none⟩ = some (.int .i64 (eAt ns (j + 1)).nd.ver) ∧ W.cell? ⟨B, 4, none⟩ = some (.int .i64 (eAt ns (j + 1)).nd.cver) ∧ W.cell? ⟨B, 5, none⟩ = some (.int .i64 (eAt ns (j + 1)).nd.cz) ∧ W.cell? ⟨B, 6, none⟩ = some (.int .i64 (eAt ns (j + 1)).nd.mz) ∧ W.cell? ⟨B, 7, none⟩ = some (.int .i64 (eAt ns (j + 1)).nd.pz)) ∧ W.cell? ⟨w.heap.size, 1, none⟩ = some (.slice (some ⟨b, o, none⟩) n cap) ∧ W.cell? ⟨b, o + j * 8 + 1, none⟩ = some (.string (eAt ns j).nd.path)) (by kernel_rfl) (⟨HD, (XN.out.below HD.out).all, (CT.out _ HD.out), ((HC.out j (by omega)).below (HBn.out _ HD.out) hb).c1⟩) (fun hHeld => ?_)
            refine wpAnyH_take (i := 0) (oi := { dst := some 31, op := _, type := _, pos := _, after := _, guard := _ }) (v := ?v67) rfl (by kernel_rfl) (by kernel_rfl) (by kernel_rfl) (fun _ _ _ h => h) (Or.inl ⟨by rfl, ?hy67⟩) (by assumption) ?rest67
            case hy67 =>
              intro w9 hS9
              obtain ⟨-, hS9⟩ := hS9
              go_simp
              try with_reducible rfl
            try simp only [Act.put, List.setIfInBounds_toArray, List.set_cons_zero, List.set_cons_succ]
            refine wpAnyH_take (i := 1) (oi := { dst := some 32, op := _, type := _, pos := _, after := _, guard := _ }) (v := ?v68) rfl (by kernel_rfl) (by kernel_rfl) (by kernel_rfl) (fun _ _ _ h => h) (Or.inl ⟨by rfl, ?hy68⟩) (by assumption) ?rest68
            case hy68 =>
              intro w9 hS9
              obtain ⟨-, hS9⟩ := hS9
              go_simp
              try with_reducible rfl
            try simp only [Act.put, List.setIfInBounds_toArray, List.set_cons_zero, List.set_cons_succ]
            refine wpAnyH_ready (rs := [2]) (by kernel_rfl) (by simp) ?_
            refine AllReadyH.cons (o := { dst := some 33, op := _, type := _, pos := _, after := _, guard := _ }) rfl (fun K hK => ?_) AllReadyH.nil
            go_simp
            refine (HE.out 1).mono ?_
            rintro e w' ⟨rfl, HB⟩
            rw [HOK.out]
            refine hK.out _ _ ((show (fun W => Hid (Below wn.heap.size wn W) ∧ (W.cell? ⟨B, 0, none⟩ = some (.bool (eAt ns (j + 1)).del) ∧ W.cell? ⟨B, 1, none⟩ = some (.string (eAt ns (j + 1)).nd.path) ∧ W.cell? ⟨B, 2, none⟩ = some (.string (eAt ns (j + 1)).nd.data) ∧ W.cell? ⟨B, 3, none⟩ = some (.int .i64 (eAt ns (j + 1)).nd.ver) ∧ W.cell? ⟨B, 4, none⟩ = some (.int .i64 (eAt ns (j + 1)).nd.cver) ∧ W.cell? ⟨B, 5, none⟩ = some (.int .i64 (eAt ns (j + 1)).nd.cz) ∧ W.cell? ⟨B, 6, none⟩ = some (.int .i64 (eAt ns (j + 1)).nd.mz) ∧ W.cell? ⟨B, 7, none⟩ = some (.int .i64 (eAt ns (j + 1)).nd.pz)) ∧ W.cell? ⟨w.heap.size, 1, none⟩ = some (.slice (some ⟨b, o, none⟩) n cap) ∧ W.cell? ⟨b, o + j * 8 + 1, none⟩ = some (.string (eAt ns j).nd.path)) w' from ⟨HB, (XN.out.below HB.out).all, (CT.out _ HB.out), ((HC.out j (by omega)).below (HBn.out _ HB.out) hb).c1⟩)) (fun hx9 => ?_)
            clear hK K hHeld hx9
            have hHeld := (show (fun W => Hid (Below wn.heap.size wn W) ∧ (W.cell? ⟨B, 0, none⟩ = some (.bool (eAt ns (j + 1)).del) ∧ W.cell? ⟨B, 1, none⟩ = some (.string (eAt ns (j + 1)).nd.path) ∧ W.cell? ⟨B, 2, none⟩ = some (.string (eAt ns (j + 1)).nd.data) ∧ W.cell? ⟨B, 3, none⟩ = some (.int .i64 (eAt ns (j + 1)).nd.ver) ∧ W.cell? ⟨B, 4, none⟩ = some (.int .i64 (eAt ns (j + 1)).nd.cver) ∧ W.cell? ⟨B, 5, none⟩ = some (.int .i64 (eAt ns (j + 1)).nd.cz) ∧ W.cell? ⟨B, 6, none⟩ = some (.int .i64 (eAt ns (j + 1)).nd.mz) ∧ W.cell? ⟨B, 7, none⟩ = some (.int .i64 (eAt ns (j + 1)).nd.pz)) ∧ W.cell? ⟨w.heap.size, 1, none⟩ = some (.slice (some ⟨b, o, none⟩) n cap) ∧ W.cell? ⟨b, o + j * 8 + 1, none⟩ = some (.string (eAt ns j).nd.path)) w' from ⟨HB, (XN.out.below HB.out).all, (CT.out _ HB.out), ((HC.out j (by omega)).below (HBn.out _ HB.out) hb).c1⟩)
            try simp only [Act.put, List.setIfInBounds_toArray, List.set_cons_zero, List.set_cons_succ]
            refine wpAnyH_take (i := 3) (oi := { dst := some 34, op := _, type := _, pos := _, after := _, guard := _ }) (v := ?v69) rfl (by kernel_rfl) (by kernel_rfl) (by kernel_rfl) (fun _ _ _ h => h) (Or.inl ⟨by rfl, ?hy69⟩) (by assumption) ?rest69
            case hy69 =>
              intro w9 hS9
              obtain ⟨-, hS9⟩ := hS9
              go_simp
              try with_reducible rfl
            try simp only [Act.put, List.setIfInBounds_toArray, List.set_cons_zero, List.set_cons_succ]
            refine wpAnyH_take (i := 4) (oi := { dst := some 35, op := _, type := _, pos := _, after := _, guard := _ }) (v := ?v70) rfl (by kernel_rfl) (by kernel_rfl) (by kernel_rfl) (fun _ _ _ h => h) (Or.inl ⟨by rfl, ?hy70⟩) (by assumption) ?rest70
            case hy70 =>
              intro w9 hS9
              obtain ⟨-, hS9⟩ := hS9
              go_simp
              try with_reducible rfl
            try simp only [Act.put, List.setIfInBounds_toArray, List.set_cons_zero, List.set_cons_succ]
            refine wpAnyH_take (i := 5) (oi := { dst := some 36, op := _, type := _, pos := _, after := _, guard := _ }) (v := ?v71) rfl (by kernel_rfl) (by kernel_rfl) (by kernel_rfl) (fun _ _ _ h => h) (Or.inl ⟨by rfl, ?hy71⟩) (by assumption) ?rest71
            case hy71 =>
              intro w9 hS9
              obtain ⟨-, hS9⟩ := hS9
              go_simp
              try with_reducible rfl
            try simp only [Act.put, List.setIfInBounds_toArray, List.set_cons_zero, List.set_cons_succ]
            refine wpAnyH_take (i := 6) (oi := { dst := some 37, op := _, type := _, pos := _, after := _, guard := _ }) (v := ?v72) rfl (by kernel_rfl) (by kernel_rfl) (by kernel_rfl) (fun _ _ _ h => h) (Or.inl ⟨by rfl, ?hy72⟩) (by assumption) ?rest72
            case hy72 =>
              intro w9 hS9
              obtain ⟨-, hS9⟩ := hS9
              go_simp
              try with_reducible rfl
            try simp only [Act.put, List.setIfInBounds_toArray, List.set_cons_zero, List.set_cons_succ]
            refine wpAnyH_take (i := 7) (oi := { dst := some 38, op := _, type := _, pos := _, after := _, guard := _ }) (v := ?v73) rfl (by kernel_rfl) (by kernel_rfl) (by kernel_rfl) (fun _ _ _ h => h) (Or.inl ⟨by rfl, ?hy73⟩) (by assumption) ?rest73
            case hy73 =>
              intro w9 hS9
              obtain ⟨-, hS9⟩ := hS9
              go_simp
              try with_reducible rfl
            try simp only [Act.put, List.setIfInBounds_toArray, List.set_cons_zero, List.set_cons_succ]
            refine wpAnyH_take (i := 8) (oi := { dst := some 39, op := _, type := _, pos := _, after := _, guard := _ }) (v := ?v74) rfl (by kernel_rfl) (by kernel_rfl) (by kernel_rfl) (fun _ _ _ h => h) (Or.inl ⟨by rfl, ?hy74⟩) (by assumption) ?rest74
            case hy74 =>
              intro w9 hS9
              obtain ⟨-, hS9⟩ := hS9
              go_simp
              try with_reducible rfl
            try simp only [Act.put, List.setIfInBounds_toArray, List.set_cons_zero, List.set_cons_succ]
            refine wpAnyH_take (i := 9) (oi := { dst := some 40, op := _, type := _, pos := _, after := _, guard := _ }) (v := ?v75) rfl (by kernel_rfl) (by kernel_rfl) (by kernel_rfl) (fun _ _ _ h => h) (Or.inl ⟨by rfl, ?hy75⟩) (by assumption) ?rest75
            case hy75 =>
              intro w9 hS9
              obtain ⟨-, hS9⟩ := hS9
              go_simp
              try with_reducible rfl
            try simp only [Act.put, List.setIfInBounds_toArray, List.set_cons_zero, List.set_cons_succ]
            refine wpAnyH_take (i := 10) (oi := { dst := some 41, op := _, type := _, pos := _, after := _, guard := _ }) (v := ?v76) rfl (by kernel_rfl) (by kernel_rfl) (by kernel_rfl) (fun _ _ _ h => h) (Or.inl ⟨by rfl, ?hy76⟩) (by assumption) ?rest76
            case hy76 =>
              intro w9 hS9
              obtain ⟨-, hS9⟩ := hS9
              go_simp
              try with_reducible rfl
            try simp only [Act.put, List.setIfInBounds_toArray, List.set_cons_zero, List.set_cons_succ]
            refine wpAnyH_take (i := 11) (oi := { dst := some 42, op := _, type := _, pos := _, after := _, guard := _ }) (v := ?v77) rfl (by kernel_rfl) (by kernel_rfl) (by kernel_rfl) (fun _ _ _ h => h) (Or.inl ⟨by rfl, ?hy77⟩) (by assumption) ?rest77
            case hy77 =>
              intro w9 hS9
              obtain ⟨-, hS9⟩ := hS9
              go_simp
              try with_reducible rfl
            try simp only [Act.put, List.setIfInBounds_toArray, List.set_cons_zero, List.set_cons_succ]
            refine wpAnyH_take (i := 12) (oi := { dst := some 43, op := _, type := _, pos := _, after := _, guard := _ }) (v := ?v78) rfl (by kernel_rfl) (by kernel_rfl) (by kernel_rfl) (fun _ _ _ h => h) (Or.inl ⟨by rfl, ?hy78⟩) (by assumption) ?rest78
            case hy78 =>
              intro w9 hS9
              obtain ⟨-, hS9⟩ := hS9
              go_simp
              try with_reducible rfl
            try simp only [Act.put, List.setIfInBounds_toArray, List.set_cons_zero, List.set_cons_succ]
            refine wpAnyH_take (i := 13) (oi := { dst := some 44, op := _, type := _, pos := _, after := _, guard := _ }) (v := ?v79) rfl (by kernel_rfl) (by kernel_rfl) (by kernel_rfl) (fun _ _ _ h => h) (Or.inl ⟨by rfl, ?hy79⟩) (by assumption) ?rest79
            case hy79 =>
              intro w9 hS9
              obtain ⟨-, hS9⟩ := hS9
              go_simp
              try with_reducible rfl
            try simp only [Act.put, List.setIfInBounds_toArray, List.set_cons_zero, List.set_cons_succ]
            refine wpAnyH_take (i := 14) (oi := { dst := some 45, op := _, type := _, pos := _, after := _, guard := _ }) (v := ?v80) rfl (by kernel_rfl) (by kernel_rfl) (by kernel_rfl) (fun _ _ _ h => h) (Or.inl ⟨by rfl, ?hy80⟩) (by assumption) ?rest80
            case hy80 =>
              intro w9 hS9
              obtain ⟨-, hS9⟩ := hS9
              go_simp
              try with_reducible rfl
            try simp only [Act.put, List.setIfInBounds_toArray, List.set_cons_zero, List.set_cons_succ]
            refine wpAnyH_take (i := 15) (oi := { dst := some 46, op := _, type := _, pos := _, after := _, guard := _ }) (v := ?v81) rfl (by kernel_rfl) (by kernel_rfl) (by kernel_rfl) (fun _ _ _ h => h) (Or.inl ⟨by rfl, ?hy81⟩) (by assumption) ?rest81
            case hy81 =>
              intro w9 hS9
              obtain ⟨-, hS9⟩ := hS9
              go_simp
              try with_reducible rfl
            try simp only [Act.put, List.setIfInBounds_toArray, List.set_cons_zero, List.set_cons_succ]
            refine wpAnyH_take (i := 16) (oi := { dst := some 47, op := _, type := _, pos := _, after := _, guard := _ }) (v := ?v82) rfl (by kernel_rfl) (by kernel_rfl) (by kernel_rfl) (fun _ _ _ h => h) (Or.inl ⟨by rfl, ?hy82⟩) (by assumption) ?rest82
            case hy82 =>
              intro w9 hS9
              obtain ⟨-, hS9⟩ := hS9
              go_simp
              try with_reducible rfl
            try simp only [Act.put, List.setIfInBounds_toArray, List.set_cons_zero, List.set_cons_succ]
            refine wpAnyH_take (i := 17) (oi := { dst := some 48, op := _, type := _, pos := _, after := _, guard := _ }) (v := ?v83) rfl (by kernel_rfl) (by kernel_rfl) (by kernel_rfl) (fun _ _ _ h => h) (Or.inl ⟨by rfl, ?hy83⟩) (by assumption) ?rest83
            case hy83 =>
              intro w9 hS9
              obtain ⟨-, hS9⟩ := hS9
              go_simp
              try with_reducible rfl
            try simp only [Act.put, List.setIfInBounds_toArray, List.set_cons_zero, List.set_cons_succ]
            refine wpAnyH_take (i := 18) (oi := { dst := some 49, op := _, type := _, pos := _, after := _, guard := _ }) (v := ?v84) rfl (by kernel_rfl) (by kernel_rfl) (by kernel_rfl) (fun _ _ _ h => h) (Or.inl ⟨by rfl, ?hy84⟩) (by assumption) ?rest84
            case hy84 =>
              intro w9 hS9
              obtain ⟨-, hS9⟩ := hS9
              go_simp
              try with_reducible rfl
            try simp only [Act.put, List.setIfInBounds_toArray, List.set_cons_zero, List.set_cons_succ]
            refine wpAnyH_take (i := 19) (oi := { dst := some 50, op := _, type := _, pos := _, after := _, guard := _ }) (v := ?v85) rfl (by kernel_rfl) (by kernel_rfl) (by kernel_rfl) (fun _ _ _ h => h) (Or.inl ⟨by rfl, ?hy85⟩) (by assumption) ?rest85
            case hy85 =>
              intro w9 hS9
              obtain ⟨-, hS9⟩ := hS9
              go_simp
              try with_reducible rfl
            try simp only [Act.put, List.setIfInBounds_toArray, List.set_cons_zero, List.set_cons_succ]
            refine wpAnyH_take (i := 20) (oi := { dst := some 51, op := _, type := _, pos := _, after := _, guard := _ }) (v := ?v86) rfl (by kernel_rfl) (by kernel_rfl) (by kernel_rfl) (fun _ _ _ h => h) (Or.inl ⟨by rfl, ?hy86⟩) (by assumption) ?rest86
            case hy86 =>
              intro w9 hS9
              obtain ⟨-, hS9⟩ := hS9
              go_simp
              try with_reducible rfl
            try simp only [Act.put, List.setIfInBounds_toArray, List.set_cons_zero, List.set_cons_succ]
            refine wpAnyH_take (i := 21) (oi := { dst := some 52, op := _, type := _, pos := _, after := _, guard := _ }) (v := ?v87) rfl (by kernel_rfl) (by kernel_rfl) (by kernel_rfl) (fun _ _ _ h => h) (Or.inl ⟨by rfl, ?hy87⟩) (by assumption) ?rest87
            case hy87 =>
              intro w9 hS9
              obtain ⟨-, hS9⟩ := hS9
              go_simp
              try with_reducible rfl
            try simp only [Act.put, List.setIfInBounds_toArray, List.set_cons_zero, List.set_cons_succ]
            refine wpAnyH_done (by kernel_rfl) ?_ _
            clear hHeld
            obtain ⟨-, b0, b1, b2, b3, b4, b5, b6, b7⟩ := XN.out.below HB.out
            cases hdel : (eAt ns (j + 1)).del with
            | false =>
              have HT : Hid (okEAt ns (j + 1) = true) := by show _ = _; rw [okEAt_succ, okEf_false hdel, HOK.out]; simp [HLP.out]
              rw [hdel] at b0
              clear hdel
              go_wp2
              go_roundw
              case rel => exact ⟨(j + 1) + 1, by omega, by go_num, (fun t ht => by by_cases e : t = (j + 1); (subst e; exact HT.out); exact HA.out t (by omega)), HBz.out _ HB.out⟩
              case measure => simp [intOf]; omega
            | true =>
              have HEF : Hid (okEf (eAt ns (j + 1)) = (okNd (eAt ns (j + 1)).nd && blank (eAt ns (j + 1)).nd)) := okEf_true hdel
              rw [hdel] at b0
              clear hdel
              have hpp : ((eAt ns (j + 1)).nd.path.toList == (eAt ns (j + 1)).nd.path.toList) = true := by simp
              cases h_dat : ((eAt ns (j + 1)).nd.data.toList == []) with
              | false =>
                have HN : Hid (okEs ns = false) := es_no HLT.out (by rw [okEAt_succ, HEF.out]; unfold blank; rw [h_dat]; simp)
                go_wp2
                go_ret
                exact ⟨ret_b HN.out.symm, HBn.out _ HB.out⟩
              | true =>
                cases h_ver : ((eAt ns (j + 1)).nd.ver == 0) with
                | false =>
                  have HN : Hid (okEs ns = false) := es_no HLT.out (by rw [okEAt_succ, HEF.out]; unfold blank; rw [h_ver]; simp)
                  go_wp2
                  go_ret
                  exact ⟨ret_b HN.out.symm, HBn.out _ HB.out⟩
                | true =>
                  cases h_cver : ((eAt ns (j + 1)).nd.cver == 0) with
                  | false =>
                    have HN : Hid (okEs ns = false) := es_no HLT.out (by rw [okEAt_succ, HEF.out]; unfold blank; rw [h_cver]; simp)
                    go_wp2
                    go_ret
                    exact ⟨ret_b HN.out.symm, HBn.out _ HB.out⟩
                  | true =>
                    cases h_cz : ((eAt ns (j + 1)).nd.cz == 0) with
                    | false =>
                      have HN : Hid (okEs ns = false) := es_no HLT.out (by rw [okEAt_succ, HEF.out]; unfold blank; rw [h_cz]; simp)
                      go_wp2
                      go_ret
                      exact ⟨ret_b HN.out.symm, HBn.out _ HB.out⟩
                    | true =>
                      cases h_mz : ((eAt ns (j + 1)).nd.mz == 0) with
                      | false =>
                        have HN : Hid (okEs ns = false) := es_no HLT.out (by rw [okEAt_succ, HEF.out]; unfold blank; rw [h_mz]; simp)
                        go_wp2
                        go_ret
                        exact ⟨ret_b HN.out.symm, HBn.out _ HB.out⟩
                      | true =>
                        cases h_pz : ((eAt ns (j + 1)).nd.pz == 0) with
                        | false =>
                          have HN : Hid (okEs ns = false) := es_no HLT.out (by rw [okEAt_succ, HEF.out]; unfold blank; rw [h_pz]; simp)
                          go_wp2
                          go_ret
                          exact ⟨ret_b HN.out.symm, HBn.out _ HB.out⟩
                        | true =>
                          have HT : Hid (okEAt ns (j + 1) = true) := by show _ = _; rw [okEAt_succ, HEF.out, HOK.out]; unfold blank; rw [h_dat, h_ver, h_cver, h_cz, h_mz, h_pz]; simp [HLP.out]
                          go_wp2
                          go_roundw
                          case rel => exact ⟨(j + 1) + 1, by omega, by go_num, (fun t ht => by by_cases e : t = (j + 1); (subst e; exact HT.out); exact HA.out t (by omega)), HBz.out _ HB.out⟩
                          case measure => simp [intOf]; omega
          | false =>
            have HN : Hid (okEs ns = false) := es_no HLT.out (by rw [okEAt_succ, hcmp, Bool.and_false])
            rcases ltP_no hcmp with l1 | ⟨l1, l2⟩
            · clear hcmp
              refine wp_region_held_drew (S := fun W => Hid (Below wn.heap.size wn W) ∧ (W.cell? ⟨B, 0, none⟩ = some (.bool (eAt ns (j + 1)).del) ∧ W.cell? ⟨B, 1, none⟩ = some (.string (eAt ns (j + 1)).nd.path) ∧ W.cell? ⟨B, 2, none⟩ = some (.string (eAt ns (j + 1)).nd.data) ∧ W.cell? ⟨B, 3, none⟩ = some (.int .i64 (eAt ns (j + 1)).nd.ver) ∧ W.cell? ⟨B, 4, none⟩ = some (.int .i64 (eAt ns (j + 1)).nd.cver) ∧ W.cell? ⟨B, 5, none⟩ = some (.int .i64 (eAt ns (j + 1)).nd.cz) ∧ W.cell? ⟨B, 6, none⟩ = some (.int .i64 (eAt ns (j + 1)).nd.mz) ∧ W.cell? ⟨B, 7, none⟩ = some (.int .i64 (eAt ns (j + 1)).nd.pz)) ∧ W.cell? ⟨w.heap.size, 1, none⟩ = some (.slice (some ⟨b, o, none⟩) n cap) ∧ W.cell? ⟨b, o + j * 8 + 1, none⟩ = some (.string (eAt ns j).nd.path)) (by kernel_rfl) (⟨HD, (XN.out.below HD.out).all, (CT.out _ HD.out), ((HC.out j (by omega)).below (HBn.out _ HD.out) hb).c1⟩) (fun hHeld => ?_)
              refine wpAnyH_take (i := 0) (oi := { dst := some 31, op := _, type := _, pos := _, after := _, guard := _ }) (v := ?v88) rfl (by kernel_rfl) (by kernel_rfl) (by kernel_rfl) (fun _ _ _ h => h) (Or.inl ⟨by rfl, ?hy88⟩) (by assumption) ?rest88
              case hy88 =>
                intro w9 hS9
                obtain ⟨-, hS9⟩ := hS9
                go_simp
                try with_reducible rfl
              try simp only [Act.put, List.setIfInBounds_toArray, List.set_cons_zero, List.set_cons_succ]
              refine wpAnyH_take (i := 1) (oi := { dst := some 32, op := _, type := _, pos := _, after := _, guard := _ }) (v := ?v89) rfl (by kernel_rfl) (by kernel_rfl) (by kernel_rfl) (fun _ _ _ h => h) (Or.inl ⟨by rfl, ?hy89⟩) (by assumption) ?rest89
              case hy89 =>
                intro w9 hS9
                obtain ⟨-, hS9⟩ := hS9
                go_simp
                try with_reducible rfl
              try simp only [Act.put, List.setIfInBounds_toArray, List.set_cons_zero, List.set_cons_succ]
              refine wpAnyH_ready (rs := [2]) (by kernel_rfl) (by simp) ?_
              refine AllReadyH.cons (o := { dst := some 33, op := _, type := _, pos := _, after := _, guard := _ }) rfl (fun K hK => ?_) AllReadyH.nil
              go_simp
              refine (HE.out 1).mono ?_
              rintro e w' ⟨rfl, HB⟩
              rw [HOK.out]
              refine hK.out _ _ ((show (fun W => Hid (Below wn.heap.size wn W) ∧ (W.cell? ⟨B, 0, none⟩ = some (.bool (eAt ns (j + 1)).del) ∧ W.cell? ⟨B, 1, none⟩ = some (.string (eAt ns (j + 1)).nd.path) ∧ W.cell? ⟨B, 2, none⟩ = some (.string (eAt ns (j + 1)).nd.data) ∧ W.cell? ⟨B, 3, none⟩ = some (.int .i64 (eAt ns (j + 1)).nd.ver) ∧ W.cell? ⟨B, 4, none⟩ = some (.int .i64 (eAt ns (j + 1)).nd.cver) ∧ W.cell? ⟨B, 5, none⟩ = some (.int .i64 (eAt ns (j + 1)).nd.cz) ∧ W.cell? ⟨B, 6, none⟩ = some (.int .i64 (eAt ns (j + 1)).nd.mz) ∧ W.cell? ⟨B, 7, none⟩ = some (.int .i64 (eAt ns (j + 1)).nd.pz)) ∧ W.cell? ⟨w.heap.size, 1, none⟩ = some (.slice (some ⟨b, o, none⟩) n cap) ∧ W.cell? ⟨b, o + j * 8 + 1, none⟩ = some (.string (eAt ns j).nd.path)) w' from ⟨HB, (XN.out.below HB.out).all, (CT.out _ HB.out), ((HC.out j (by omega)).below (HBn.out _ HB.out) hb).c1⟩)) (fun hx9 => ?_)
              clear hK K hHeld hx9
              have hHeld := (show (fun W => Hid (Below wn.heap.size wn W) ∧ (W.cell? ⟨B, 0, none⟩ = some (.bool (eAt ns (j + 1)).del) ∧ W.cell? ⟨B, 1, none⟩ = some (.string (eAt ns (j + 1)).nd.path) ∧ W.cell? ⟨B, 2, none⟩ = some (.string (eAt ns (j + 1)).nd.data) ∧ W.cell? ⟨B, 3, none⟩ = some (.int .i64 (eAt ns (j + 1)).nd.ver) ∧ W.cell? ⟨B, 4, none⟩ = some (.int .i64 (eAt ns (j + 1)).nd.cver) ∧ W.cell? ⟨B, 5, none⟩ = some (.int .i64 (eAt ns (j + 1)).nd.cz) ∧ W.cell? ⟨B, 6, none⟩ = some (.int .i64 (eAt ns (j + 1)).nd.mz) ∧ W.cell? ⟨B, 7, none⟩ = some (.int .i64 (eAt ns (j + 1)).nd.pz)) ∧ W.cell? ⟨w.heap.size, 1, none⟩ = some (.slice (some ⟨b, o, none⟩) n cap) ∧ W.cell? ⟨b, o + j * 8 + 1, none⟩ = some (.string (eAt ns j).nd.path)) w' from ⟨HB, (XN.out.below HB.out).all, (CT.out _ HB.out), ((HC.out j (by omega)).below (HBn.out _ HB.out) hb).c1⟩)
              try simp only [Act.put, List.setIfInBounds_toArray, List.set_cons_zero, List.set_cons_succ]
              refine wpAnyH_take (i := 3) (oi := { dst := some 34, op := _, type := _, pos := _, after := _, guard := _ }) (v := ?v90) rfl (by kernel_rfl) (by kernel_rfl) (by kernel_rfl) (fun _ _ _ h => h) (Or.inl ⟨by rfl, ?hy90⟩) (by assumption) ?rest90
              case hy90 =>
                intro w9 hS9
                obtain ⟨-, hS9⟩ := hS9
                go_simp
                try with_reducible rfl
              try simp only [Act.put, List.setIfInBounds_toArray, List.set_cons_zero, List.set_cons_succ]
              refine wpAnyH_take (i := 4) (oi := { dst := some 35, op := _, type := _, pos := _, after := _, guard := _ }) (v := ?v91) rfl (by kernel_rfl) (by kernel_rfl) (by kernel_rfl) (fun _ _ _ h => h) (Or.inl ⟨by rfl, ?hy91⟩) (by assumption) ?rest91
              case hy91 =>
                intro w9 hS9
                obtain ⟨-, hS9⟩ := hS9
                go_simp
                try with_reducible rfl
              try simp only [Act.put, List.setIfInBounds_toArray, List.set_cons_zero, List.set_cons_succ]
              refine wpAnyH_take (i := 5) (oi := { dst := some 36, op := _, type := _, pos := _, after := _, guard := _ }) (v := ?v92) rfl (by kernel_rfl) (by kernel_rfl) (by kernel_rfl) (fun _ _ _ h => h) (Or.inl ⟨by rfl, ?hy92⟩) (by assumption) ?rest92
              case hy92 =>
                intro w9 hS9
                obtain ⟨-, hS9⟩ := hS9
                go_simp
                try with_reducible rfl
              try simp only [Act.put, List.setIfInBounds_toArray, List.set_cons_zero, List.set_cons_succ]
              refine wpAnyH_take (i := 6) (oi := { dst := some 37, op := _, type := _, pos := _, after := _, guard := _ }) (v := ?v93) rfl (by kernel_rfl) (by kernel_rfl) (by kernel_rfl) (fun _ _ _ h => h) (Or.inl ⟨by rfl, ?hy93⟩) (by assumption) ?rest93
              case hy93 =>
                intro w9 hS9
                obtain ⟨-, hS9⟩ := hS9
                go_simp
                try with_reducible rfl
              try simp only [Act.put, List.setIfInBounds_toArray, List.set_cons_zero, List.set_cons_succ]
              refine wpAnyH_take (i := 7) (oi := { dst := some 38, op := _, type := _, pos := _, after := _, guard := _ }) (v := ?v94) rfl (by kernel_rfl) (by kernel_rfl) (by kernel_rfl) (fun _ _ _ h => h) (Or.inl ⟨by rfl, ?hy94⟩) (by assumption) ?rest94
              case hy94 =>
                intro w9 hS9
                obtain ⟨-, hS9⟩ := hS9
                go_simp
                try with_reducible rfl
              try simp only [Act.put, List.setIfInBounds_toArray, List.set_cons_zero, List.set_cons_succ]
              refine wpAnyH_take (i := 8) (oi := { dst := some 39, op := _, type := _, pos := _, after := _, guard := _ }) (v := ?v95) rfl (by kernel_rfl) (by kernel_rfl) (by kernel_rfl) (fun _ _ _ h => h) (Or.inl ⟨by rfl, ?hy95⟩) (by assumption) ?rest95
              case hy95 =>
                intro w9 hS9
                obtain ⟨-, hS9⟩ := hS9
                go_simp
                try with_reducible rfl
              try simp only [Act.put, List.setIfInBounds_toArray, List.set_cons_zero, List.set_cons_succ]
              refine wpAnyH_take (i := 9) (oi := { dst := some 40, op := _, type := _, pos := _, after := _, guard := _ }) (v := ?v96) rfl (by kernel_rfl) (by kernel_rfl) (by kernel_rfl) (fun _ _ _ h => h) (Or.inl ⟨by rfl, ?hy96⟩) (by assumption) ?rest96
              case hy96 =>
                intro w9 hS9
                obtain ⟨-, hS9⟩ := hS9
                go_simp
                try with_reducible rfl
              try simp only [Act.put, List.setIfInBounds_toArray, List.set_cons_zero, List.set_cons_succ]
              refine wpAnyH_take (i := 10) (oi := { dst := some 41, op := _, type := _, pos := _, after := _, guard := _ }) (v := ?v97) rfl (by kernel_rfl) (by kernel_rfl) (by kernel_rfl) (fun _ _ _ h => h) (Or.inl ⟨by rfl, ?hy97⟩) (by assumption) ?rest97
              case hy97 =>
                intro w9 hS9
                obtain ⟨-, hS9⟩ := hS9
                go_simp
                try with_reducible rfl
              try simp only [Act.put, List.setIfInBounds_toArray, List.set_cons_zero, List.set_cons_succ]
              refine wpAnyH_take (i := 11) (oi := { dst := some 42, op := _, type := _, pos := _, after := _, guard := _ }) (v := ?v98) rfl (by kernel_rfl) (by kernel_rfl) (by kernel_rfl) (fun _ _ _ h => h) (Or.inl ⟨by rfl, ?hy98⟩) (by assumption) ?rest98
              case hy98 =>
                intro w9 hS9
                obtain ⟨-, hS9⟩ := hS9
                go_simp
                try with_reducible rfl
              try simp only [Act.put, List.setIfInBounds_toArray, List.set_cons_zero, List.set_cons_succ]
              refine wpAnyH_take (i := 12) (oi := { dst := some 43, op := _, type := _, pos := _, after := _, guard := _ }) (v := ?v99) rfl (by kernel_rfl) (by kernel_rfl) (by kernel_rfl) (fun _ _ _ h => h) (Or.inl ⟨by rfl, ?hy99⟩) (by assumption) ?rest99
              case hy99 =>
                intro w9 hS9
                obtain ⟨-, hS9⟩ := hS9
                go_simp
                try with_reducible rfl
              try simp only [Act.put, List.setIfInBounds_toArray, List.set_cons_zero, List.set_cons_succ]
              refine wpAnyH_take (i := 13) (oi := { dst := some 44, op := _, type := _, pos := _, after := _, guard := _ }) (v := ?v100) rfl (by kernel_rfl) (by kernel_rfl) (by kernel_rfl) (fun _ _ _ h => h) (Or.inl ⟨by rfl, ?hy100⟩) (by assumption) ?rest100
              case hy100 =>
                intro w9 hS9
                obtain ⟨-, hS9⟩ := hS9
                go_simp
                try with_reducible rfl
              try simp only [Act.put, List.setIfInBounds_toArray, List.set_cons_zero, List.set_cons_succ]
              refine wpAnyH_take (i := 14) (oi := { dst := some 45, op := _, type := _, pos := _, after := _, guard := _ }) (v := ?v101) rfl (by kernel_rfl) (by kernel_rfl) (by kernel_rfl) (fun _ _ _ h => h) (Or.inl ⟨by rfl, ?hy101⟩) (by assumption) ?rest101
              case hy101 =>
                intro w9 hS9
                obtain ⟨-, hS9⟩ := hS9
                go_simp
                try with_reducible rfl
              try simp only [Act.put, List.setIfInBounds_toArray, List.set_cons_zero, List.set_cons_succ]
              refine wpAnyH_take (i := 15) (oi := { dst := some 46, op := _, type := _, pos := _, after := _, guard := _ }) (v := ?v102) rfl (by kernel_rfl) (by kernel_rfl) (by kernel_rfl) (fun _ _ _ h => h) (Or.inl ⟨by rfl, ?hy102⟩) (by assumption) ?rest102
              case hy102 =>
                intro w9 hS9
                obtain ⟨-, hS9⟩ := hS9
                go_simp
                try with_reducible rfl
              try simp only [Act.put, List.setIfInBounds_toArray, List.set_cons_zero, List.set_cons_succ]
              refine wpAnyH_take (i := 16) (oi := { dst := some 47, op := _, type := _, pos := _, after := _, guard := _ }) (v := ?v103) rfl (by kernel_rfl) (by kernel_rfl) (by kernel_rfl) (fun _ _ _ h => h) (Or.inl ⟨by rfl, ?hy103⟩) (by assumption) ?rest103
              case hy103 =>
                intro w9 hS9
                obtain ⟨-, hS9⟩ := hS9
                go_simp
                try with_reducible rfl
              try simp only [Act.put, List.setIfInBounds_toArray, List.set_cons_zero, List.set_cons_succ]
              refine wpAnyH_take (i := 17) (oi := { dst := some 48, op := _, type := _, pos := _, after := _, guard := _ }) (v := ?v104) rfl (by kernel_rfl) (by kernel_rfl) (by kernel_rfl) (fun _ _ _ h => h) (Or.inl ⟨by rfl, ?hy104⟩) (by assumption) ?rest104
              case hy104 =>
                intro w9 hS9
                obtain ⟨-, hS9⟩ := hS9
                go_simp
                try with_reducible rfl
              try simp only [Act.put, List.setIfInBounds_toArray, List.set_cons_zero, List.set_cons_succ]
              refine wpAnyH_take (i := 18) (oi := { dst := some 49, op := _, type := _, pos := _, after := _, guard := _ }) (v := ?v105) rfl (by kernel_rfl) (by kernel_rfl) (by kernel_rfl) (fun _ _ _ h => h) (Or.inl ⟨by rfl, ?hy105⟩) (by assumption) ?rest105
              case hy105 =>
                intro w9 hS9
                obtain ⟨-, hS9⟩ := hS9
                go_simp
                try with_reducible rfl
              try simp only [Act.put, List.setIfInBounds_toArray, List.set_cons_zero, List.set_cons_succ]
              refine wpAnyH_take (i := 19) (oi := { dst := some 50, op := _, type := _, pos := _, after := _, guard := _ }) (v := ?v106) rfl (by kernel_rfl) (by kernel_rfl) (by kernel_rfl) (fun _ _ _ h => h) (Or.inl ⟨by rfl, ?hy106⟩) (by assumption) ?rest106
              case hy106 =>
                intro w9 hS9
                obtain ⟨-, hS9⟩ := hS9
                go_simp
                try with_reducible rfl
              try simp only [Act.put, List.setIfInBounds_toArray, List.set_cons_zero, List.set_cons_succ]
              refine wpAnyH_take (i := 20) (oi := { dst := some 51, op := _, type := _, pos := _, after := _, guard := _ }) (v := ?v107) rfl (by kernel_rfl) (by kernel_rfl) (by kernel_rfl) (fun _ _ _ h => h) (Or.inl ⟨by rfl, ?hy107⟩) (by assumption) ?rest107
              case hy107 =>
                intro w9 hS9
                obtain ⟨-, hS9⟩ := hS9
                go_simp
                try with_reducible rfl
              try simp only [Act.put, List.setIfInBounds_toArray, List.set_cons_zero, List.set_cons_succ]
              refine wpAnyH_take (i := 21) (oi := { dst := some 52, op := _, type := _, pos := _, after := _, guard := _ }) (v := ?v108) rfl (by kernel_rfl) (by kernel_rfl) (by kernel_rfl) (fun _ _ _ h => h) (Or.inl ⟨by rfl, ?hy108⟩) (by assumption) ?rest108
              case hy108 =>
                intro w9 hS9
                obtain ⟨-, hS9⟩ := hS9
                go_simp
                try with_reducible rfl
              try simp only [Act.put, List.setIfInBounds_toArray, List.set_cons_zero, List.set_cons_succ]
              refine wpAnyH_done (by kernel_rfl) ?_ _
              clear hHeld
              go_wp2
              go_ret
              exact ⟨ret_b HN.out.symm, HBn.out _ HB.out⟩
            · clear hcmp
              refine wp_region_held_drew (S := fun W => Hid (Below wn.heap.size wn W) ∧ (W.cell? ⟨B, 0, none⟩ = some (.bool (eAt ns (j + 1)).del) ∧ W.cell? ⟨B, 1, none⟩ = some (.string (eAt ns (j + 1)).nd.path) ∧ W.cell? ⟨B, 2, none⟩ = some (.string (eAt ns (j + 1)).nd.data) ∧ W.cell? ⟨B, 3, none⟩ = some (.int .i64 (eAt ns (j + 1)).nd.ver) ∧ W.cell? ⟨B, 4, none⟩ = some (.int .i64 (eAt ns (j + 1)).nd.cver) ∧ W.cell? ⟨B, 5, none⟩ = some (.int .i64 (eAt ns (j + 1)).nd.cz) ∧ W.cell? ⟨B, 6, none⟩ = some (.int .i64 (eAt ns (j + 1)).nd.mz) ∧ W.cell? ⟨B, 7, none⟩ = some (.int .i64 (eAt ns (j + 1)).nd.pz)) ∧ W.cell? ⟨w.heap.size, 1, none⟩ = some (.slice (some ⟨b, o, none⟩) n cap) ∧ W.cell? ⟨b, o + j * 8 + 1, none⟩ = some (.string (eAt ns j).nd.path)) (by kernel_rfl) (⟨HD, (XN.out.below HD.out).all, (CT.out _ HD.out), ((HC.out j (by omega)).below (HBn.out _ HD.out) hb).c1⟩) (fun hHeld => ?_)
              refine wpAnyH_take (i := 0) (oi := { dst := some 31, op := _, type := _, pos := _, after := _, guard := _ }) (v := ?v109) rfl (by kernel_rfl) (by kernel_rfl) (by kernel_rfl) (fun _ _ _ h => h) (Or.inl ⟨by rfl, ?hy109⟩) (by assumption) ?rest109
              case hy109 =>
                intro w9 hS9
                obtain ⟨-, hS9⟩ := hS9
                go_simp
                try with_reducible rfl
              try simp only [Act.put, List.setIfInBounds_toArray, List.set_cons_zero, List.set_cons_succ]
              refine wpAnyH_take (i := 1) (oi := { dst := some 32, op := _, type := _, pos := _, after := _, guard := _ }) (v := ?v110) rfl (by kernel_rfl) (by kernel_rfl) (by kernel_rfl) (fun _ _ _ h => h) (Or.inl ⟨by rfl, ?hy110⟩) (by assumption) ?rest110
              case hy110 =>
                intro w9 hS9
                obtain ⟨-, hS9⟩ := hS9
                go_simp
                try with_reducible rfl
              try simp only [Act.put, List.setIfInBounds_toArray, List.set_cons_zero, List.set_cons_succ]
              refine wpAnyH_ready (rs := [2]) (by kernel_rfl) (by simp) ?_
              refine AllReadyH.cons (o := { dst := some 33, op := _, type := _, pos := _, after := _, guard := _ }) rfl (fun K hK => ?_) AllReadyH.nil
              go_simp
              refine (HE.out 1).mono ?_
              rintro e w' ⟨rfl, HB⟩
              rw [HOK.out]
              refine hK.out _ _ ((show (fun W => Hid (Below wn.heap.size wn W) ∧ (W.cell? ⟨B, 0, none⟩ = some (.bool (eAt ns (j + 1)).del) ∧ W.cell? ⟨B, 1, none⟩ = some (.string (eAt ns (j + 1)).nd.path) ∧ W.cell? ⟨B, 2, none⟩ = some (.string (eAt ns (j + 1)).nd.data) ∧ W.cell? ⟨B, 3, none⟩ = some (.int .i64 (eAt ns (j + 1)).nd.ver) ∧ W.cell? ⟨B, 4, none⟩ = some (.int .i64 (eAt ns (j + 1)).nd.cver) ∧ W.cell? ⟨B, 5, none⟩ = some (.int .i64 (eAt ns (j + 1)).nd.cz) ∧ W.cell? ⟨B, 6, none⟩ = some (.int .i64 (eAt ns (j + 1)).nd.mz) ∧ W.cell? ⟨B, 7, none⟩ = some (.int .i64 (eAt ns (j + 1)).nd.pz)) ∧ W.cell? ⟨w.heap.size, 1, none⟩ = some (.slice (some ⟨b, o, none⟩) n cap) ∧ W.cell? ⟨b, o + j * 8 + 1, none⟩ = some (.string (eAt ns j).nd.path)) w' from ⟨HB, (XN.out.below HB.out).all, (CT.out _ HB.out), ((HC.out j (by omega)).below (HBn.out _ HB.out) hb).c1⟩)) (fun hx9 => ?_)
              clear hK K hHeld hx9
              have hHeld := (show (fun W => Hid (Below wn.heap.size wn W) ∧ (W.cell? ⟨B, 0, none⟩ = some (.bool (eAt ns (j + 1)).del) ∧ W.cell? ⟨B, 1, none⟩ = some (.string (eAt ns (j + 1)).nd.path) ∧ W.cell? ⟨B, 2, none⟩ = some (.string (eAt ns (j + 1)).nd.data) ∧ W.cell? ⟨B, 3, none⟩ = some (.int .i64 (eAt ns (j + 1)).nd.ver) ∧ W.cell? ⟨B, 4, none⟩ = some (.int .i64 (eAt ns (j + 1)).nd.cver) ∧ W.cell? ⟨B, 5, none⟩ = some (.int .i64 (eAt ns (j + 1)).nd.cz) ∧ W.cell? ⟨B, 6, none⟩ = some (.int .i64 (eAt ns (j + 1)).nd.mz) ∧ W.cell? ⟨B, 7, none⟩ = some (.int .i64 (eAt ns (j + 1)).nd.pz)) ∧ W.cell? ⟨w.heap.size, 1, none⟩ = some (.slice (some ⟨b, o, none⟩) n cap) ∧ W.cell? ⟨b, o + j * 8 + 1, none⟩ = some (.string (eAt ns j).nd.path)) w' from ⟨HB, (XN.out.below HB.out).all, (CT.out _ HB.out), ((HC.out j (by omega)).below (HBn.out _ HB.out) hb).c1⟩)
              try simp only [Act.put, List.setIfInBounds_toArray, List.set_cons_zero, List.set_cons_succ]
              refine wpAnyH_take (i := 3) (oi := { dst := some 34, op := _, type := _, pos := _, after := _, guard := _ }) (v := ?v111) rfl (by kernel_rfl) (by kernel_rfl) (by kernel_rfl) (fun _ _ _ h => h) (Or.inl ⟨by rfl, ?hy111⟩) (by assumption) ?rest111
              case hy111 =>
                intro w9 hS9
                obtain ⟨-, hS9⟩ := hS9
                go_simp
                try with_reducible rfl
              try simp only [Act.put, List.setIfInBounds_toArray, List.set_cons_zero, List.set_cons_succ]
              refine wpAnyH_take (i := 4) (oi := { dst := some 35, op := _, type := _, pos := _, after := _, guard := _ }) (v := ?v112) rfl (by kernel_rfl) (by kernel_rfl) (by kernel_rfl) (fun _ _ _ h => h) (Or.inl ⟨by rfl, ?hy112⟩) (by assumption) ?rest112
              case hy112 =>
                intro w9 hS9
                obtain ⟨-, hS9⟩ := hS9
                go_simp
                try with_reducible rfl
              try simp only [Act.put, List.setIfInBounds_toArray, List.set_cons_zero, List.set_cons_succ]
              refine wpAnyH_take (i := 5) (oi := { dst := some 36, op := _, type := _, pos := _, after := _, guard := _ }) (v := ?v113) rfl (by kernel_rfl) (by kernel_rfl) (by kernel_rfl) (fun _ _ _ h => h) (Or.inl ⟨by rfl, ?hy113⟩) (by assumption) ?rest113
              case hy113 =>
                intro w9 hS9
                obtain ⟨-, hS9⟩ := hS9
                go_simp
                try with_reducible rfl
              try simp only [Act.put, List.setIfInBounds_toArray, List.set_cons_zero, List.set_cons_succ]
              refine wpAnyH_take (i := 6) (oi := { dst := some 37, op := _, type := _, pos := _, after := _, guard := _ }) (v := ?v114) rfl (by kernel_rfl) (by kernel_rfl) (by kernel_rfl) (fun _ _ _ h => h) (Or.inl ⟨by rfl, ?hy114⟩) (by assumption) ?rest114
              case hy114 =>
                intro w9 hS9
                obtain ⟨-, hS9⟩ := hS9
                go_simp
                try with_reducible rfl
              try simp only [Act.put, List.setIfInBounds_toArray, List.set_cons_zero, List.set_cons_succ]
              refine wpAnyH_take (i := 7) (oi := { dst := some 38, op := _, type := _, pos := _, after := _, guard := _ }) (v := ?v115) rfl (by kernel_rfl) (by kernel_rfl) (by kernel_rfl) (fun _ _ _ h => h) (Or.inl ⟨by rfl, ?hy115⟩) (by assumption) ?rest115
              case hy115 =>
                intro w9 hS9
                obtain ⟨-, hS9⟩ := hS9
                go_simp
                try with_reducible rfl
              try simp only [Act.put, List.setIfInBounds_toArray, List.set_cons_zero, List.set_cons_succ]
              refine wpAnyH_take (i := 8) (oi := { dst := some 39, op := _, type := _, pos := _, after := _, guard := _ }) (v := ?v116) rfl (by kernel_rfl) (by kernel_rfl) (by kernel_rfl) (fun _ _ _ h => h) (Or.inl ⟨by rfl, ?hy116⟩) (by assumption) ?rest116
              case hy116 =>
                intro w9 hS9
                obtain ⟨-, hS9⟩ := hS9
                go_simp
                try with_reducible rfl
              try simp only [Act.put, List.setIfInBounds_toArray, List.set_cons_zero, List.set_cons_succ]
              refine wpAnyH_take (i := 9) (oi := { dst := some 40, op := _, type := _, pos := _, after := _, guard := _ }) (v := ?v117) rfl (by kernel_rfl) (by kernel_rfl) (by kernel_rfl) (fun _ _ _ h => h) (Or.inl ⟨by rfl, ?hy117⟩) (by assumption) ?rest117
              case hy117 =>
                intro w9 hS9
                obtain ⟨-, hS9⟩ := hS9
                go_simp
                try with_reducible rfl
              try simp only [Act.put, List.setIfInBounds_toArray, List.set_cons_zero, List.set_cons_succ]
              refine wpAnyH_take (i := 10) (oi := { dst := some 41, op := _, type := _, pos := _, after := _, guard := _ }) (v := ?v118) rfl (by kernel_rfl) (by kernel_rfl) (by kernel_rfl) (fun _ _ _ h => h) (Or.inl ⟨by rfl, ?hy118⟩) (by assumption) ?rest118
              case hy118 =>
                intro w9 hS9
                obtain ⟨-, hS9⟩ := hS9
                go_simp
                try with_reducible rfl
              try simp only [Act.put, List.setIfInBounds_toArray, List.set_cons_zero, List.set_cons_succ]
              refine wpAnyH_take (i := 11) (oi := { dst := some 42, op := _, type := _, pos := _, after := _, guard := _ }) (v := ?v119) rfl (by kernel_rfl) (by kernel_rfl) (by kernel_rfl) (fun _ _ _ h => h) (Or.inl ⟨by rfl, ?hy119⟩) (by assumption) ?rest119
              case hy119 =>
                intro w9 hS9
                obtain ⟨-, hS9⟩ := hS9
                go_simp
                try with_reducible rfl
              try simp only [Act.put, List.setIfInBounds_toArray, List.set_cons_zero, List.set_cons_succ]
              refine wpAnyH_take (i := 12) (oi := { dst := some 43, op := _, type := _, pos := _, after := _, guard := _ }) (v := ?v120) rfl (by kernel_rfl) (by kernel_rfl) (by kernel_rfl) (fun _ _ _ h => h) (Or.inl ⟨by rfl, ?hy120⟩) (by assumption) ?rest120
              case hy120 =>
                intro w9 hS9
                obtain ⟨-, hS9⟩ := hS9
                go_simp
                try with_reducible rfl
              try simp only [Act.put, List.setIfInBounds_toArray, List.set_cons_zero, List.set_cons_succ]
              refine wpAnyH_take (i := 13) (oi := { dst := some 44, op := _, type := _, pos := _, after := _, guard := _ }) (v := ?v121) rfl (by kernel_rfl) (by kernel_rfl) (by kernel_rfl) (fun _ _ _ h => h) (Or.inl ⟨by rfl, ?hy121⟩) (by assumption) ?rest121
              case hy121 =>
                intro w9 hS9
                obtain ⟨-, hS9⟩ := hS9
                go_simp
                try with_reducible rfl
              try simp only [Act.put, List.setIfInBounds_toArray, List.set_cons_zero, List.set_cons_succ]
              refine wpAnyH_take (i := 14) (oi := { dst := some 45, op := _, type := _, pos := _, after := _, guard := _ }) (v := ?v122) rfl (by kernel_rfl) (by kernel_rfl) (by kernel_rfl) (fun _ _ _ h => h) (Or.inl ⟨by rfl, ?hy122⟩) (by assumption) ?rest122
              case hy122 =>
                intro w9 hS9
                obtain ⟨-, hS9⟩ := hS9
                go_simp
                try with_reducible rfl
              try simp only [Act.put, List.setIfInBounds_toArray, List.set_cons_zero, List.set_cons_succ]
              refine wpAnyH_take (i := 15) (oi := { dst := some 46, op := _, type := _, pos := _, after := _, guard := _ }) (v := ?v123) rfl (by kernel_rfl) (by kernel_rfl) (by kernel_rfl) (fun _ _ _ h => h) (Or.inl ⟨by rfl, ?hy123⟩) (by assumption) ?rest123
              case hy123 =>
                intro w9 hS9
                obtain ⟨-, hS9⟩ := hS9
                go_simp
                try with_reducible rfl
              try simp only [Act.put, List.setIfInBounds_toArray, List.set_cons_zero, List.set_cons_succ]
              refine wpAnyH_take (i := 16) (oi := { dst := some 47, op := _, type := _, pos := _, after := _, guard := _ }) (v := ?v124) rfl (by kernel_rfl) (by kernel_rfl) (by kernel_rfl) (fun _ _ _ h => h) (Or.inl ⟨by rfl, ?hy124⟩) (by assumption) ?rest124
              case hy124 =>
                intro w9 hS9
                obtain ⟨-, hS9⟩ := hS9
                go_simp
                try with_reducible rfl
              try simp only [Act.put, List.setIfInBounds_toArray, List.set_cons_zero, List.set_cons_succ]
              refine wpAnyH_take (i := 17) (oi := { dst := some 48, op := _, type := _, pos := _, after := _, guard := _ }) (v := ?v125) rfl (by kernel_rfl) (by kernel_rfl) (by kernel_rfl) (fun _ _ _ h => h) (Or.inl ⟨by rfl, ?hy125⟩) (by assumption) ?rest125
              case hy125 =>
                intro w9 hS9
                obtain ⟨-, hS9⟩ := hS9
                go_simp
                try with_reducible rfl
              try simp only [Act.put, List.setIfInBounds_toArray, List.set_cons_zero, List.set_cons_succ]
              refine wpAnyH_take (i := 18) (oi := { dst := some 49, op := _, type := _, pos := _, after := _, guard := _ }) (v := ?v126) rfl (by kernel_rfl) (by kernel_rfl) (by kernel_rfl) (fun _ _ _ h => h) (Or.inl ⟨by rfl, ?hy126⟩) (by assumption) ?rest126
              case hy126 =>
                intro w9 hS9
                obtain ⟨-, hS9⟩ := hS9
                go_simp
                try with_reducible rfl
              try simp only [Act.put, List.setIfInBounds_toArray, List.set_cons_zero, List.set_cons_succ]
              refine wpAnyH_take (i := 19) (oi := { dst := some 50, op := _, type := _, pos := _, after := _, guard := _ }) (v := ?v127) rfl (by kernel_rfl) (by kernel_rfl) (by kernel_rfl) (fun _ _ _ h => h) (Or.inl ⟨by rfl, ?hy127⟩) (by assumption) ?rest127
              case hy127 =>
                intro w9 hS9
                obtain ⟨-, hS9⟩ := hS9
                go_simp
                try with_reducible rfl
              try simp only [Act.put, List.setIfInBounds_toArray, List.set_cons_zero, List.set_cons_succ]
              refine wpAnyH_take (i := 20) (oi := { dst := some 51, op := _, type := _, pos := _, after := _, guard := _ }) (v := ?v128) rfl (by kernel_rfl) (by kernel_rfl) (by kernel_rfl) (fun _ _ _ h => h) (Or.inl ⟨by rfl, ?hy128⟩) (by assumption) ?rest128
              case hy128 =>
                intro w9 hS9
                obtain ⟨-, hS9⟩ := hS9
                go_simp
                try with_reducible rfl
              try simp only [Act.put, List.setIfInBounds_toArray, List.set_cons_zero, List.set_cons_succ]
              refine wpAnyH_take (i := 21) (oi := { dst := some 52, op := _, type := _, pos := _, after := _, guard := _ }) (v := ?v129) rfl (by kernel_rfl) (by kernel_rfl) (by kernel_rfl) (fun _ _ _ h => h) (Or.inl ⟨by rfl, ?hy129⟩) (by assumption) ?rest129
              case hy129 =>
                intro w9 hS9
                obtain ⟨-, hS9⟩ := hS9
                go_simp
                try with_reducible rfl
              try simp only [Act.put, List.setIfInBounds_toArray, List.set_cons_zero, List.set_cons_succ]
              refine wpAnyH_done (by kernel_rfl) ?_ _
              clear hHeld
              go_wp2
              go_ret
              exact ⟨ret_b HN.out.symm, HBn.out _ HB.out⟩
    · have HY : Hid (okEs ns = true) := es_yes (fun t ht => HA.out t (by rw [HP.out] at ht; omega))
      go_wp2
      go_ret
      exact ⟨ret_b HY.out.symm, HG0.out⟩

set_option maxHeartbeats 1000000 in
theorem specTxn_nil (w : World) (z : Int) (ao : Option Addr) (cap : Nat) (hz1 : ¬ z < 1) (hz2 : ¬ 2147483647 < z) :
    Calls Tryd.prog 20 #[.agg #[.int .i64 z, .slice ao 0 cap]] w fun e w' => e = .returned (.bool true) ∧ Below w.heap.size w w' := by
  go_enter Tryd.func20, Tryd.ntmps20
  go_wp2
  go_rounds 1
  go_ret
  exact ⟨rfl, (Below.refl _ _).alloc (Nat.le_refl _) _⟩

set_option maxHeartbeats 1000000 in
theorem specTxn_no (w : World) (z : Int) (ao : Option Addr) (n cap : Nat) (h : z < 1 ∨ 2147483647 < z ∨ 1000 < n) :
    Calls Tryd.prog 20 #[.agg #[.int .i64 z, .slice ao n cap]] w fun e w' => e = .returned (.bool false) ∧ Below w.heap.size w w' := by
  by_cases h1 : z < 1
  · clear h
    go_enter Tryd.func20, Tryd.ntmps20
    go_wp2
    go_ret
    exact ⟨rfl, (Below.refl _ _).alloc (Nat.le_refl _) _⟩
  · by_cases h2 : 2147483647 < z
    · clear h
      go_enter Tryd.func20, Tryd.ntmps20
      go_wp2
      go_ret
      exact ⟨rfl, (Below.refl _ _).alloc (Nat.le_refl _) _⟩
    · have h3 : (1000 : Int) < (n : Int) := by omega
      clear h
      go_enter Tryd.func20, Tryd.ntmps20
      go_wp2
      go_ret
      exact ⟨rfl, (Below.refl _ _).alloc (Nat.le_refl _) _⟩

theorem specTxn_any (w : World) (z : Int) (v : Value) (ns : List Ef) (h : RdE w v ns) (hsz : ∀ i, (eAt ns i).nd.path.size ≤ 1048576 ∧ (eAt ns i).nd.data.size ≤ 1048576) :
    Calls Tryd.prog 20 #[.agg #[.int .i64 z, v]] w fun e w' => e = .returned (.bool (okTxn z ns)) ∧ Below w.heap.size w w' := by
  obtain ⟨ao, cap, rfl, k1, k2, k3⟩ := h
  by_cases hl : z < 1 ∨ 2147483647 < z ∨ 1000 < ns.length
  · have : okTxn z ns = false := by
      unfold okTxn
      rcases hl with hl | hl | hl
      · rw [decide_eq_false (show ¬ 1 ≤ z by omega)]; rfl
      · rw [decide_eq_false (show ¬ z ≤ 2147483647 by omega)]; simp
      · rw [decide_eq_false (show ¬ ns.length ≤ 1000 by omega)]; simp
    rw [this]
    exact specTxn_no w z ao ns.length cap hl
  · have : okTxn z ns = okEs ns := by unfold okTxn; rw [decide_eq_true (show 1 ≤ z by omega), decide_eq_true (show z ≤ 2147483647 by omega), decide_eq_true (show ns.length ≤ 1000 by omega)]; rfl
    rw [this]
    rcases k3 with rfl | ⟨b, o, rfl, hb, hc⟩
    · exact specTxn_nil w z ao cap (by omega) (by omega)
    · exact specTxn_row w z b o ns.length cap ns (by omega) (by omega) rfl (by omega) hb hsz hc

end Go.Proofs.YtgjenbgclpmjmaaDoor

namespace Go.Proofs.YtgjenbgclpmjmaaDoor
open Go.RowKit Go.Shelf

/-- A local transaction. -/
def BoxX (w : World) (B : Nat) (z : Int) (v : Value) : Prop := B < w.heap.size ∧ w.cell? ⟨B, 0, none⟩ = some (.int .i64 z) ∧ w.cell? ⟨B, 1, none⟩ = some v
theorem BoxX.below {w w' : World} {b : Nat} {x : Int} {y : Value} (h : BoxX w b x y) (hb : Below w.heap.size w w') : BoxX w' b x y :=
  ⟨Nat.lt_of_lt_of_le h.1 hb.size, (hb.cell (p := ⟨b, 0, none⟩) h.1).trans h.2.1, (hb.cell (p := ⟨b, 1, none⟩) h.1).trans h.2.2⟩
theorem BoxX.new (w : World) (x : Int) (y : Value) (t : TypeId) : BoxX (w.alloc (.cells #[.int .i64 x, y] t)) w.heap.size x y := ⟨by simp, by simp, by simp⟩

/-- What came in: a transaction of the laws' own type. -/
def InX (w : World) (v : Value) (ns : List Ef) : Prop := RdE w v ns ∧ ∀ i, (eAt ns i).nd.path.size ≤ maxLen ∧ (eAt ns i).nd.data.size ≤ maxLen

set_option maxHeartbeats 2000000 in
set_option maxRecDepth 100000 in
theorem lawTxn_walk (w : World) (z : Int) (v : Value) (ns : List Ef) (h : InX w v ns) :
    Calls Tryd.prog 5 #[.agg #[.int .i64 z, v]] w fun e w' => e = .returned (.bool true) ∧ Below w.heap.size w w' := by
  obtain ⟨hr, hsz⟩ := h
  obtain ⟨ao, ca, rfl, _, _⟩ := hr.len
  have B0 : Hid (Below w.heap.size w (w.alloc (.cells #[.int .i64 z, .slice ao ns.length ca] 36))) := (Below.refl _ _).alloc (Nat.le_refl _) _
  have X0 : Hid (BoxX (w.alloc (.cells #[.int .i64 z, .slice ao ns.length ca] 36)) w.heap.size z (.slice ao ns.length ca)) := BoxX.new _ _ _ _
  have HR : Hid (RdE w (.slice ao ns.length ca) ns) := hr
  have HZ : Hid (∀ i, (eAt ns i).nd.path.size ≤ maxLen ∧ (eAt ns i).nd.data.size ≤ maxLen) := hsz
  clear hr hsz
  go_enter Tryd.func5, Tryd.ntmps5
  go_wp2_with fail
  generalize w.alloc (.cells #[.int .i64 z, .slice ao ns.length ca] 36) = w0 at *
  refine (szTxn_any _ _ _ ns (HR.out.below B0.out) HZ.out 1048576 (by omega) (by omega)).mono ?_
  rintro e w1 ⟨r, rfl, hsz, b1⟩
  have B1 : Hid (Below w.heap.size w w1) := B0.out.trans (b1.mono B0.out.size)
  have X1 : Hid (BoxX w1 w.heap.size z (.slice ao ns.length ca)) := X0.out.below b1
  clear b1 X0 B0
  by_cases hneg : r < 0
  · clear hsz
    go_wp2
    go_ret
    exact ⟨rfl, B1.out⟩
  · have hsz' : r + ns.length + totE ns = 1048576 := by omega
    have hn : ns.length ≤ 1048576 := by omega
    have hd : Hid (∀ i, (eAt ns i).nd.path.size ≤ 1048576 ∧ (eAt ns i).nd.data.size ≤ 1048576) := fun i => by have := totE_ge ns i; omega
    clear hsz hsz'
    obtain ⟨-, c0, c1⟩ := X1.out
    go_wp2_with fail
    refine (toTxn_any _ _ _ ns (HR.out.below B1.out) hn).mono ?_
    rintro e w2 ⟨a2, k2, rfl, o2, b2⟩
    have Q2 : Hid (RdE w2 (.slice a2 ns.length k2) ns) := o2.rd
    have B2 : Hid (Below w.heap.size w w2) := B1.out.trans (b2.mono B1.out.size)
    have X2 : Hid (BoxX w2 w.heap.size z (.slice ao ns.length ca)) := X1.out.below b2
    clear o2 b2 c0 c1 X1
    go_wp2_with fail
    refine (specTxn_any _ _ _ ns Q2.out hd.out).mono ?_
    rintro e w3 ⟨rfl, b3⟩
    have B3 : Hid (Below w.heap.size w w3) := B2.out.trans (b3.mono B2.out.size)
    have X3 : Hid (BoxX w3 w.heap.size z (.slice ao ns.length ca)) := X2.out.below b3
    clear b3 Q2 X2
    obtain ⟨-, c0, c1⟩ := X3.out
    go_wp2_with fail
    refine (toTxn_any _ _ _ ns (HR.out.below B3.out) hn).mono ?_
    rintro e w4 ⟨a4, k4, rfl, o4, b4⟩
    have Q4 : Hid (RdE w4 (.slice a4 ns.length k4) ns) := o4.rd
    have B4 : Hid (Below w.heap.size w w4) := B3.out.trans (b4.mono B3.out.size)
    have X4 : Hid (BoxX w4 w.heap.size z (.slice ao ns.length ca)) := X3.out.below b4
    clear o4 b4 c0 c1 X3
    go_wp2_with fail
    have BA : Hid (Below w4.heap.size w4 (w4.alloc (.cells #[.int .i64 z, .slice a4 ns.length k4] 41))) := (Below.refl _ _).alloc (Nat.le_refl _) _
    have Y5 : Hid (BoxX (w4.alloc (.cells #[.int .i64 z, .slice a4 ns.length k4] 41)) w4.heap.size z (.slice a4 ns.length k4)) := BoxX.new _ _ _ _
    generalize w4.alloc (.cells #[.int .i64 z, .slice a4 ns.length k4] 41) = w5 at *
    have B5 : Hid (Below w.heap.size w w5) := B4.out.trans (BA.out.mono B4.out.size)
    have X5 : Hid (BoxX w5 w.heap.size z (.slice ao ns.length ca)) := X4.out.below BA.out
    have Q5 : Hid (RdE w5 (.slice a4 ns.length k4) ns) := Q4.out.below BA.out
    clear X4 Q4 BA
    refine (implTxn_any _ _ _ ns Q5.out hd.out).mono ?_
    rintro e w6 ⟨rfl, b6⟩
    have B6 : Hid (Below w.heap.size w w6) := B5.out.trans (b6.mono B5.out.size)
    have X6 : Hid (BoxX w6 w.heap.size z (.slice ao ns.length ca)) := X5.out.below b6
    have Y6 : Hid (BoxX w6 w4.heap.size z (.slice a4 ns.length k4)) := Y5.out.below b6
    have Q6 : Hid (RdE w6 (.slice a4 ns.length k4) ns) := Q5.out.below b6
    clear b6 X5 Y5 Q5 B5
    generalize okTxn z ns = vv at *
    have hvv : (vv != vv) = false := by simp
    obtain ⟨-, c0, c1⟩ := X6.out
    obtain ⟨-, d0, d1⟩ := Y6.out
    have HT : Hid (∀ q, Calls Tryd.prog 21 #[.agg #[.int .i64 z, .slice ao ns.length ca]] (w6.drewN q) fun e w' => ∃ a c, e = .returned (.agg #[.int .i64 z, .slice a ns.length c]) ∧ Hid (RdE w' (.slice a ns.length c) ns) ∧ Hid (RdE w' (.slice a4 ns.length k4) ns) ∧ (w'.cell? ⟨w4.heap.size, 0, none⟩ = some (.int .i64 z) ∧ w'.cell? ⟨w4.heap.size, 1, none⟩ = some (.slice a4 ns.length k4)) ∧ Hid (Below w.heap.size w w')) := by
      intro q
      refine (toTxn_any _ _ _ ns ((HR.out.below B6.out).below (below_drewN' w6 q)) hn).mono ?_
      rintro e w' ⟨a, c, rfl, o', b'⟩
      have b6' : Below w6.heap.size w6 w' := (below_drewN' w6 q).trans b'
      exact ⟨a, c, rfl, o'.rd, Q6.out.below b6', (Y6.out.below b6').2, B6.out.trans (b6'.mono B6.out.size)⟩
    go_wp2
    go_region_with (first | (go_at_call 21; refine (HT.out 1).mono ?_; rintro e w' ⟨a, c, rfl, r1, r2, ⟨k0, k1⟩, bw⟩) | (go_at_call 23; refine (eqTxn_same _ _ _ _ ns r2.out r1.out hn).mono ?_; rintro e w'' ⟨rfl, b''⟩))
    all_goals
      have HB : Hid (Below w.heap.size w w'') := bw.out.trans (b''.mono bw.out.size)
      clear b'' k0 k1
      go_wp2
      go_ret
      exact ⟨rfl, HB.out⟩

end Go.Proofs.YtgjenbgclpmjmaaDoor

namespace Go.Proofs.YtgjenbgclpmjmaaDoor
open Go.RowKit Go.Shelf

theorem BxE.new (w : World) (e : Ef) : BxE (w.alloc (.cells #[.string e.nd.path, .string e.nd.data, .int .i64 e.nd.ver, .int .i64 e.nd.cver, .int .i64 e.nd.cz, .int .i64 e.nd.mz, .int .i64 e.nd.pz, .int .u8 (mkB e)] 104)) w.heap.size e := by
  have := heap_alloc_new w (.cells #[.string e.nd.path, .string e.nd.data, .int .i64 e.nd.ver, .int .i64 e.nd.cver, .int .i64 e.nd.cz, .int .i64 e.nd.mz, .int .i64 e.nd.pz, .int .u8 (mkB e)] 104)
  exact ⟨⟨⟨_, _, _, this, by decide⟩, (cell_of this _).trans rfl, (cell_of this _).trans rfl, (cell_of this _).trans rfl, (cell_of this _).trans rfl, (cell_of this _).trans rfl, (cell_of this _).trans rfl, (cell_of this _).trans rfl⟩, (cell_of this _).trans rfl⟩

set_option maxHeartbeats 1000000 in
set_option maxRecDepth 100000 in
theorem encTxn_row (w : World) (z : Int) (b o n cap : Nat) (ns : List Ef) (hp : ns.length = n) (hb : b < w.heap.size) (hc : ∀ i, i < n → CellsE w b (o + i * 8) (eAt ns i)) (hR : RdE w (.slice (some ⟨b, o, none⟩) n cap) ns)
    (hsz : ∀ i, (eAt ns i).nd.path.size ≤ 1048576 ∧ (eAt ns i).nd.data.size ≤ 1048576) :
    Calls Tryd.prog 47 #[.agg #[.int .i64 z, .slice (some ⟨b, o, none⟩) n cap]] w fun e w' => ∃ v', e = .returned v' ∧ Own .u8 5 w' w.heap.size v' (txnB z ns) ∧ Below w.heap.size w w' := by
  have HC : Hid (∀ i, i < n → CellsE w b (o + i * 8) (eAt ns i)) := hc
  have HP : Hid (ns.length = n) := hp
  have HR : Hid (RdE w (.slice (some ⟨b, o, none⟩) n cap) ns) := hR
  have HZ : Hid (∀ i, (eAt ns i).nd.path.size ≤ 1048576 ∧ (eAt ns i).nd.data.size ≤ 1048576) := hsz
  have B0 : Hid (Below w.heap.size w (w.alloc (.cells #[.int .i64 z, .slice (some ⟨b, o, none⟩) n cap] 41))) := (Below.refl _ _).alloc (Nat.le_refl _) _
  have X0 : Hid (BoxX (w.alloc (.cells #[.int .i64 z, .slice (some ⟨b, o, none⟩) n cap] 41)) w.heap.size z (.slice (some ⟨b, o, none⟩) n cap)) := BoxX.new _ _ _ _
  clear hc hp hR hsz
  go_enter Tryd.func47, Tryd.ntmps47
  go_wp2_with fail
  generalize w.alloc (.cells #[.int .i64 z, .slice (some ⟨b, o, none⟩) n cap] 41) = w0 at *
  refine (implTxn_any _ _ _ ns (HR.out.below B0.out) HZ.out).mono ?_
  rintro e w1 ⟨rfl, b1⟩
  have B1 : Hid (Below w.heap.size w w1) := B0.out.trans (b1.mono B0.out.size)
  have X1 : Hid (BoxX w1 w.heap.size z (.slice (some ⟨b, o, none⟩) n cap)) := X0.out.below b1
  clear b1 X0 B0
  by_cases hok : okTxn z ns = true
  rotate_left
  · have hok' : okTxn z ns = false := by simpa using hok
    have HT : Hid (txnB z ns = []) := by show _ = _; unfold txnB; rw [if_neg hok]
    rw [hok']
    clear hok hok'
    go_wp2
    go_ret
    exact ⟨_, rfl, (by rw [HT.out]; exact World.ownsRow_nil _ _ _ _), B1.out⟩
  obtain ⟨g1, g2, g3, g4⟩ := okTxn_all hok
  rw [HP.out] at g3 g4
  obtain ⟨Z, rfl⟩ : ∃ Z : Nat, z = (Z : Int) := ⟨z.toNat, by omega⟩
  have HT : Hid (txnB Z ns = bigR Z 4 ++ bigR n 2 ++ effsB ns) := by show _ = _; unfold txnB; rw [if_pos hok, HP.out, Int.toNat_natCast]
  have HOK : Hid (∀ k, k < n → okEf (eAt ns k) = true) := g4
  have HLN : Hid (∀ k, k ≤ n → (effsB (ns.take k)).length ≤ k * 189) := fun k hk => effsB_len (fun k hk => g4 k (by rw [← HP.out]; exact hk)) k (by rw [HP.out]; exact hk)
  rw [hok]
  clear hok g4
  obtain ⟨z1, c0, c1⟩ := X1.out
  have s1 : w.heap.size + 1 ≤ w1.heap.size := z1
  have D1 : Hid (Below (w.heap.size + 1) w1 w1) := Below.refl _ _
  have C1 : Hid (w1.cell? ⟨w.heap.size, 1, none⟩ = some (.slice (some ⟨b, o, none⟩) n cap)) := c1
  go_wp2_with fail
  refine (implNumber_any w1 (w.heap.size + 1) (.slice none 0 0) [] Z 4 (World.ownsRow_nil _ _ _ _) s1 (by simp) (by omega)).mono ?_
  rintro e w2 ⟨v2, rfl, o2, b2, -⟩
  have O2 : Hid (Own .u8 5 w2 (w.heap.size + 1) v2 (bigR Z 4)) := o2
  have D2 : Hid (Below (w.heap.size + 1) w1 w2) := b2
  clear o2 b2 c0 c1 D1
  have c1 := (D2.out.cell (p := ⟨w.heap.size, 1, none⟩) (Nat.lt_succ_self _)).trans C1.out
  have s2 : w.heap.size + 1 ≤ w2.heap.size := Nat.le_trans s1 D2.out.size
  go_wp2_with fail
  refine (implNumber_any w2 (w.heap.size + 1) v2 (bigR Z 4) n 2 O2.out s2 (by rw [bigR_len]; omega) (by omega)).mono ?_
  rintro e w3 ⟨v3, rfl, o3, b3, -⟩
  obtain ⟨H, hH⟩ : ∃ H, H = bigR Z 4 ++ bigR n 2 := ⟨_, rfl⟩
  have HH : Hid (H.length = 6) := by show _ = _; rw [hH, List.length_append, bigR_len, bigR_len]
  rw [← hH] at o3 HT
  have O3 : Hid (Own .u8 5 w3 (w.heap.size + 1) v3 (H ++ effsB (ns.take 0))) := by show Own _ _ _ _ _ _; rw [List.take_zero, show effsB [] = [] from rfl, List.append_nil]; exact o3
  have D3 : Hid (Below (w.heap.size + 1) w1 w3) := D2.out.trans b3
  clear o3 b3 hH O2 D2 c1
  have c1 := (D3.out.cell (p := ⟨w.heap.size, 1, none⟩) (Nat.lt_succ_self _)).trans C1.out
  go_wp2
  go_loopw [3, 21] (fun vi vk wr => ∃ k : Nat, k ≤ n ∧ vk = .int .i64 k ∧ Hid (Own .u8 5 wr (w.heap.size + 1) vi (H ++ effsB (ns.take k))) ∧ Hid (Below (w.heap.size + 1) w1 wr)) (fun _ i _ => n - (intOf i).toNat)
  case atStart => exact ⟨0, Nat.zero_le _, rfl, O3, D3⟩
  case round =>
    clear c1
    obtain ⟨k, hk, rfl, HW, HD⟩ := hrel
    have sD : w.heap.size + 1 ≤ wr.heap.size := Nat.le_trans s1 HD.out.size
    by_cases hlt : k < n
    · have hltI : (k : Int) < (n : Int) := by omega
      obtain ⟨c0, c1, c2, c3, c4, c5, c6, c7⟩ := ((HC.out k hlt).below B1.out hb).below HD.out (Nat.lt_succ_of_lt hb)
      go_wp2_with fail
      clear c0 c1 c2 c3 c4 c5 c6 c7
      refine (imageOf_any _ (eAt ns k)).mono ?_
      rintro e w4 ⟨rfl, b4⟩
      have D4 : Hid (Below (w.heap.size + 1) w1 w4) := (HD.out.alloc sD _).trans (b4.mono (by simp; omega))
      have O4 : Hid (Own .u8 5 w4 (w.heap.size + 1) u3 (H ++ effsB (ns.take k))) := (HW.out.below ((Below.refl _ _).alloc (Nat.le_refl _) _)).below b4
      have s4 : w.heap.size + 1 ≤ w4.heap.size := Nat.le_trans s1 D4.out.size
      clear b4 HW HD
      go_wp2_with fail
      refine (encEff_any _ (w.heap.size + 1) u3 (H ++ effsB (ns.take k)) w4.heap.size (eAt ns k) ?e1 ?e2 ?e3 ?e4 (HOK.out k hlt)).mono ?_
      case e1 => exact O4.out.below ((Below.refl _ _).alloc (Nat.le_refl _) _)
      case e2 => simp; omega
      case e3 => have := HLN.out k hk; rw [List.length_append, HH.out]; omega
      case e4 => exact BxE.new _ _
      rintro e w5 ⟨v5, rfl, o5, b5, -⟩
      have O5 : Hid (Own .u8 5 w5 (w.heap.size + 1) v5 (H ++ effsB (ns.take (k + 1)))) := by
        rw [List.append_assoc, effsB_succ ns k (by rw [HP.out]; exact hlt)] at o5; exact o5
      have D5 : Hid (Below (w.heap.size + 1) w1 w5) := (D4.out.alloc s4 _).trans b5
      clear o5 b5 O4 D4
      go_wp2
      exact ⟨⟨k + 1, by omega, by go_num, O5, D5⟩, by simp [intOf]; omega⟩
    · have hkn : k = n := by omega
      subst hkn
      go_wp2
      go_ret
      refine ⟨_, rfl, ?_, B1.out.trans (HD.out.mono (Nat.le_succ _))⟩
      rw [HT.out, ← effsB_all ns k (by rw [HP.out]; exact Nat.le_refl _)]
      exact HW.out.mono (Nat.le_succ _)

set_option maxHeartbeats 1000000 in
set_option maxRecDepth 100000 in
theorem encTxn_nil (w : World) (z : Int) (ao : Option Addr) (cap : Nat) (hc : cap ≤ maxLen) :
    Calls Tryd.prog 47 #[.agg #[.int .i64 z, .slice ao 0 cap]] w fun e w' => ∃ v', e = .returned v' ∧ Own .u8 5 w' w.heap.size v' (txnB z []) ∧ Below w.heap.size w w' := by
  have HR : Hid (RdE w (.slice ao 0 cap) []) := ⟨ao, cap, rfl, Nat.zero_le _, hc, .inl rfl⟩
  have B0 : Hid (Below w.heap.size w (w.alloc (.cells #[.int .i64 z, .slice ao 0 cap] 41))) := (Below.refl _ _).alloc (Nat.le_refl _) _
  have X0 : Hid (BoxX (w.alloc (.cells #[.int .i64 z, .slice ao 0 cap] 41)) w.heap.size z (.slice ao 0 cap)) := BoxX.new _ _ _ _
  clear hc
  go_enter Tryd.func47, Tryd.ntmps47
  go_wp2_with fail
  generalize w.alloc (.cells #[.int .i64 z, .slice ao 0 cap] 41) = w0 at *
  refine (implTxn_any _ _ _ [] (HR.out.below B0.out) (fun i => by simp [eAt, ef0, nd0])).mono ?_
  rintro e w1 ⟨rfl, b1⟩
  have B1 : Hid (Below w.heap.size w w1) := B0.out.trans (b1.mono B0.out.size)
  have X1 : Hid (BoxX w1 w.heap.size z (.slice ao 0 cap)) := X0.out.below b1
  clear b1 X0 B0
  by_cases hok : okTxn z [] = true
  rotate_left
  · have hok' : okTxn z [] = false := by simpa using hok
    have HT : Hid (txnB z [] = []) := by show _ = _; unfold txnB; rw [if_neg hok]
    rw [hok']
    clear hok hok'
    go_wp2
    go_ret
    exact ⟨_, rfl, (by rw [HT.out]; exact World.ownsRow_nil _ _ _ _), B1.out⟩
  obtain ⟨g1, g2, -, -⟩ := okTxn_all hok
  obtain ⟨Z, rfl⟩ : ∃ Z : Nat, z = (Z : Int) := ⟨z.toNat, by omega⟩
  have HT : Hid (txnB Z [] = bigR Z 4 ++ bigR 0 2) := by show _ = _; unfold txnB; rw [if_pos hok, Int.toNat_natCast]; simp [effsB]
  rw [hok]
  clear hok
  obtain ⟨z1, c0, c1⟩ := X1.out
  have s1 : w.heap.size + 1 ≤ w1.heap.size := z1
  have C1 : Hid (w1.cell? ⟨w.heap.size, 1, none⟩ = some (.slice ao 0 cap)) := c1
  go_wp2_with fail
  refine (implNumber_any w1 (w.heap.size + 1) (.slice none 0 0) [] Z 4 (World.ownsRow_nil _ _ _ _) s1 (by simp) (by omega)).mono ?_
  rintro e w2 ⟨v2, rfl, o2, b2, -⟩
  have O2 : Hid (Own .u8 5 w2 (w.heap.size + 1) v2 (bigR Z 4)) := o2
  have D2 : Hid (Below (w.heap.size + 1) w1 w2) := b2
  clear o2 b2 c0 c1
  have c1 := (D2.out.cell (p := ⟨w.heap.size, 1, none⟩) (Nat.lt_succ_self _)).trans C1.out
  have s2 : w.heap.size + 1 ≤ w2.heap.size := Nat.le_trans s1 D2.out.size
  go_wp2_with fail
  refine (implNumber_any w2 (w.heap.size + 1) v2 (bigR Z 4) 0 2 O2.out s2 (by rw [bigR_len]; omega) (by omega)).mono ?_
  rintro e w3 ⟨v3, rfl, o3, b3, -⟩
  have O3 : Hid (Own .u8 5 w3 w.heap.size v3 (txnB Z [])) := by rw [HT.out]; exact o3.mono (Nat.le_succ _)
  have D3 : Hid (Below (w.heap.size + 1) w1 w3) := D2.out.trans b3
  clear o3 b3 O2 D2 c1
  have c1 := (D3.out.cell (p := ⟨w.heap.size, 1, none⟩) (Nat.lt_succ_self _)).trans C1.out
  go_wp2
  go_rounds 1
  go_ret
  exact ⟨_, rfl, O3.out, B1.out.trans (D3.out.mono (Nat.le_succ _))⟩

theorem encTxn_any (w : World) (z : Int) (v : Value) (ns : List Ef) (h : RdE w v ns) (hsz : ∀ i, (eAt ns i).nd.path.size ≤ 1048576 ∧ (eAt ns i).nd.data.size ≤ 1048576) :
    Calls Tryd.prog 47 #[.agg #[.int .i64 z, v]] w fun e w' => ∃ v', e = .returned v' ∧ Own .u8 5 w' w.heap.size v' (txnB z ns) ∧ Below w.heap.size w w' := by
  have h0 := h
  obtain ⟨ao, cap, rfl, h1, h2, h3⟩ := h
  rcases h3 with rfl | ⟨b, o, rfl, hb, hc⟩
  · exact encTxn_nil w z ao cap h2
  · exact encTxn_row w z b o ns.length cap ns rfl hb hc h0 hsz

end Go.Proofs.YtgjenbgclpmjmaaDoor

namespace Go.Proofs.YtgjenbgclpmjmaaDoor
open Go.RowKit Go.Shelf

theorem BoxX.belowM {w w' : World} {b m : Nat} {x : Int} {y : Value} (h : BoxX w b x y) (hb : Below m w w') (hl : b < m) : BoxX w' b x y :=
  ⟨Nat.lt_of_lt_of_le h.1 hb.size, (hb.cell (p := ⟨b, 0, none⟩) hl).trans h.2.1, (hb.cell (p := ⟨b, 1, none⟩) hl).trans h.2.2⟩

set_option maxHeartbeats 2000000 in
set_option maxRecDepth 100000 in
theorem sTxn_any (w : World) (z : Int) (v : Value) (ns : List Ef) (h : RdE w v ns) (hsz : ∀ i, (eAt ns i).nd.path.size ≤ 1048576 ∧ (eAt ns i).nd.data.size ≤ 1048576) :
    Calls Tryd.prog 46 #[.agg #[.int .i64 z, v]] w fun e w' => ∃ v', e = .returned v' ∧ Own .u8 5 w' w.heap.size v' (txnB z ns) ∧ Below w.heap.size w w' := by
  obtain ⟨i0, hi, hz0, hz1, hz2⟩ := info_parts Tryd.infoB
  obtain ⟨ao, ca, rfl, _, _⟩ := h.len
  have HR : Hid (RdE w (.slice ao ns.length ca) ns) := h
  have HZ : Hid (∀ i, (eAt ns i).nd.path.size ≤ 1048576 ∧ (eAt ns i).nd.data.size ≤ 1048576) := hsz
  generalize hnn : ns.length = n at *
  have HP : Hid (ns.length = n) := hnn
  have B0 : Hid (Below w.heap.size w (w.alloc (.cells #[.int .i64 z, .slice ao n ca] 41))) := (Below.refl _ _).alloc (Nat.le_refl _) _
  have X0 : Hid (BoxX (w.alloc (.cells #[.int .i64 z, .slice ao n ca] 41)) w.heap.size z (.slice ao n ca)) := BoxX.new _ _ _ _
  clear h hsz hnn
  go_enter Tryd.func46, Tryd.ntmps46
  go_wp2_with fail
  generalize w.alloc (.cells #[.int .i64 z, .slice ao n ca] 41) = w0 at *
  refine (specTxn_any _ _ _ ns (HR.out.below B0.out) HZ.out).mono ?_
  rintro e w1 ⟨rfl, b1⟩
  have B1 : Hid (Below w.heap.size w w1) := B0.out.trans (b1.mono B0.out.size)
  have X1 : Hid (BoxX w1 w.heap.size z (.slice ao n ca)) := X0.out.below b1
  clear b1 X0 B0
  have s1 : w.heap.size + 1 ≤ w1.heap.size := X1.out.1
  by_cases hok : okTxn z ns = true
  rotate_left
  · have hok' : okTxn z ns = false := by simpa using hok
    have HT : Hid (txnB z ns = []) := by show _ = _; unfold txnB; rw [if_neg hok]
    have O2 : Hid (Own .u8 5 (w1.alloc (.cells #[] 5)) w.heap.size (.slice (some ⟨w1.heap.size, 0, none⟩) 0 0) []) := Own.mono (World.ownsRow_lit w1 #[] 0 (Nat.le_refl _) (Nat.zero_le _) rfl) B1.out.size
    have B2 : Hid (Below w.heap.size w (w1.alloc (.cells #[] 5))) := B1.out.alloc B1.out.size _
    rw [hok']
    clear hok hok'
    go_wp2
    go_ret
    exact ⟨_, rfl, (by rw [HT.out]; exact O2.out), B2.out⟩
  obtain ⟨g1, g2, g3, g4⟩ := okTxn_all hok
  rw [HP.out] at g3 g4
  obtain ⟨Z, rfl⟩ : ∃ Z : Nat, z = (Z : Int) := ⟨z.toNat, by omega⟩
  have HT : Hid (txnB Z ns = bigR Z 4 ++ bigR n 2 ++ effsB ns) := by show _ = _; unfold txnB; rw [if_pos hok, HP.out, Int.toNat_natCast]
  have HOK : Hid (∀ k, k < n → okEf (eAt ns k) = true) := g4
  have HLN : Hid (∀ k, k ≤ n → (effsB (ns.take k)).length ≤ k * 189) := fun k hk => effsB_len (fun k hk => g4 k (by rw [← HP.out]; exact hk)) k (by rw [HP.out]; exact hk)
  rw [hok]
  clear hok g4
  go_wp2
  refine wp_region_held_drew (S := fun W => BoxX W w.heap.size (Z : Int) (.slice ao n ca)) (by kernel_rfl) (X1.out.below (below_drewN' w1 1)) (fun hHeld => ?_)
  refine wpAnyH_take (i := 0) (oi := { dst := some 9, op := _, type := _, pos := _, after := _, guard := _ }) (v := (.pointer (some ⟨w.heap.size, 0, none⟩))) rfl (by kernel_rfl) (by kernel_rfl) (by kernel_rfl) (fun _ _ _ h => h) (Or.inl ⟨by rfl, ?hy1⟩) (by assumption) ?rest1
  case hy1 =>
    intro w9 hS9
    obtain ⟨-, y0, y1⟩ := hS9
    go_simp
    try with_reducible rfl
  try simp only [Act.put, List.setIfInBounds_toArray, List.set_cons_zero, List.set_cons_succ]
  refine wpAnyH_take (i := 1) (oi := { dst := some 10, op := _, type := _, pos := _, after := _, guard := _ }) (v := (.int .i64 (Z : Int))) rfl (by kernel_rfl) (by kernel_rfl) (by kernel_rfl) (fun _ _ _ h => h) (Or.inl ⟨by rfl, ?hy2⟩) (by assumption) ?rest2
  case hy2 =>
    intro w9 hS9
    obtain ⟨-, y0, y1⟩ := hS9
    go_simp
    try with_reducible rfl
  try simp only [Act.put, List.setIfInBounds_toArray, List.set_cons_zero, List.set_cons_succ]
  refine wpAnyH_take (i := 3) (oi := { dst := some 12, op := _, type := _, pos := _, after := _, guard := _ }) (v := (.pointer (some ⟨w.heap.size, 1, none⟩))) rfl (by kernel_rfl) (by kernel_rfl) (by kernel_rfl) (fun _ _ _ h => h) (Or.inl ⟨by rfl, ?hy3⟩) (by assumption) ?rest3
  case hy3 =>
    intro w9 hS9
    obtain ⟨-, y0, y1⟩ := hS9
    go_simp
    try with_reducible rfl
  try simp only [Act.put, List.setIfInBounds_toArray, List.set_cons_zero, List.set_cons_succ]
  refine wpAnyH_take (i := 4) (oi := { dst := some 13, op := _, type := _, pos := _, after := _, guard := _ }) (v := (.slice ao n ca)) rfl (by kernel_rfl) (by kernel_rfl) (by kernel_rfl) (fun _ _ _ h => h) (Or.inl ⟨by rfl, ?hy4⟩) (by assumption) ?rest4
  case hy4 =>
    intro w9 hS9
    obtain ⟨-, y0, y1⟩ := hS9
    go_simp
    try with_reducible rfl
  try simp only [Act.put, List.setIfInBounds_toArray, List.set_cons_zero, List.set_cons_succ]
  refine wpAnyH_take (i := 5) (oi := { dst := some 14, op := _, type := _, pos := _, after := _, guard := _ }) (v := (.int .i64 (n : Int))) rfl (by kernel_rfl) (by kernel_rfl) (by kernel_rfl) (fun _ _ _ h => h) (Or.inl ⟨by rfl, ?hy5⟩) (by assumption) ?rest5
  case hy5 =>
    intro w9 hS9
    obtain ⟨-, y0, y1⟩ := hS9
    go_simp
    try with_reducible rfl
  try simp only [Act.put, List.setIfInBounds_toArray, List.set_cons_zero, List.set_cons_succ]
  refine wpAnyH_ready (rs := [2]) (by kernel_rfl) (by simp) ?_
  refine AllReadyH.cons (o := { dst := some 11, op := _, type := _, pos := _, after := _, guard := _ }) rfl (fun K hK => ?_) AllReadyH.nil
  go_simp
  refine (specBig_any 4 _ Z (by omega) (by omega)).mono ?_
  rintro e w2 ⟨v2, rfl, o2, b2⟩
  have D2 : Hid (Below (w.heap.size + 1) w1 w2) := ((below_drewN' w1 1).mono s1).trans (b2.mono s1)
  have X2 : Hid (BoxX w2 w.heap.size (Z : Int) (.slice ao n ca)) := X1.out.belowM D2.out (Nat.lt_succ_self _)
  have O2 : Hid (Own .u8 5 w2 (w.heap.size + 1) v2 (bigR Z 4)) := o2.mono s1
  clear o2 b2
  refine hK.out _ _ (X2.out) (fun hx9 => ?_)
  clear hK K hHeld hx9
  have hHeld := X2.out
  try simp only [Act.put, List.setIfInBounds_toArray, List.set_cons_zero, List.set_cons_succ]
  refine wpAnyH_ready (rs := [6]) (by kernel_rfl) (by simp) ?_
  refine AllReadyH.cons (o := { dst := some 15, op := _, type := _, pos := _, after := _, guard := _ }) rfl (fun K hK => ?_) AllReadyH.nil
  go_simp
  refine (specBig_any 2 _ n (by omega) (by omega)).mono ?_
  rintro e w3 ⟨v3, rfl, o3, b3⟩
  have s2 : w.heap.size + 1 ≤ w2.heap.size := X2.out.1
  have D3 : Hid (Below (w.heap.size + 1) w1 w3) := D2.out.trans (b3.mono s2)
  have X3 : Hid (BoxX w3 w.heap.size (Z : Int) (.slice ao n ca)) := X2.out.below b3
  obtain ⟨g3, c3, hv3⟩ := own_full o3 (by rw [bigR_len]; omega)
  rw [bigR_len] at hv3
  subst hv3
  have O3 : Hid (w3.ownsRow (w.heap.size + 1) 5 1 v2 4 ((bigR Z 4).map (Value.int .u8))) := by have := O2.out.below b3; unfold Own at this; rw [bigR_len] at this; exact this
  have N3 : Hid (∀ j u, ((bigR n 2).map (Value.int .u8))[j]? = some u → w3.cell? ((⟨g3, 0, none⟩ : Addr).add j) = some u) := World.ownsRow.cells o3 rfl
  have s3 : w.heap.size + 1 ≤ w3.heap.size := X3.out.1
  clear o3 b3 O2 X2 D2
  refine hK.out _ _ (X3.out) (fun hx9 => ?_)
  clear hK K hHeld hx9
  have hHeld := X3.out
  try simp only [Act.put, List.setIfInBounds_toArray, List.set_cons_zero, List.set_cons_succ]
  refine wpAnyH_ready (rs := [7]) (by kernel_rfl) (by simp) ?_
  refine AllReadyH.cons (o := { dst := some 16, op := _, type := _, pos := _, after := _, guard := _ }) rfl (fun K hK => ?_) AllReadyH.nil
  refine step_append rfl (.tmp 11) (.tmp 15) 45 rfl (w.heap.size + 1) 5 i0 (.int .u8 0) 1 1 Tryd.underlying45 hi hz0 hz1 hz2 rfl (by decide) v2 4 _ rfl O3.out ⟨g3, 0, none⟩ 2 c3 ((bigR n 2).map (Value.int .u8)) rfl (by rw [List.length_map, bigR_len]) N3.out (u8_oneCell _) (by unfold maxLen; omega) (by omega) s3 ?_
  intro v4 w4 ho4 hg4
  have b4 : Below (w.heap.size + 1) w3 w4 := (Below.refl _ _).grown hg4 s3 (fun q hq => (World.ownsRow.lt O3.out q hq).1)
  have X4 : Hid (BoxX w4 w.heap.size (Z : Int) (.slice ao n ca)) := X3.out.belowM b4 (Nat.lt_succ_self _)
  have D4 : Hid (Below (w.heap.size + 1) w1 w4) := D3.out.trans b4
  have O4 : Hid (Own .u8 5 w4 (w.heap.size + 1) v4 (bigR Z 4 ++ bigR n 2)) := by refine own_of (q := 6) (ys := bigR Z 4 ++ bigR n 2) (by rw [List.length_append, bigR_len, bigR_len]) rfl ?_; rw [List.map_append]; exact ho4
  clear ho4 hg4 b4 O3 N3 X3 D3
  refine hK.out _ _ (X4.out) (fun hx9 => ?_)
  clear hK K hHeld hx9
  have hHeld := X4.out
  try simp only [Act.put, List.setIfInBounds_toArray, List.set_cons_zero, List.set_cons_succ]
  refine wpAnyH_take (i := 8) (oi := { dst := some 3, op := _, type := _, pos := _, after := _, guard := _ }) (v := v4) rfl (by kernel_rfl) (by kernel_rfl) (by kernel_rfl) (fun _ _ _ h => h) (Or.inl ⟨by rfl, ?hy6⟩) (by assumption) ?rest6
  case hy6 =>
    intro w9 hS9
    go_simp
  try simp only [Act.put, List.setIfInBounds_toArray, List.set_cons_zero, List.set_cons_succ]
  refine wpAnyH_done (by kernel_rfl) ?_ _
  clear hHeld
  obtain ⟨H, hH⟩ : ∃ H, H = bigR Z 4 ++ bigR n 2 := ⟨_, rfl⟩
  have HH : Hid (H.length = 6) := by show _ = _; rw [hH, List.length_append, bigR_len, bigR_len]
  rw [← hH] at O4 HT
  have O5 : Hid (Own .u8 5 w4 (w.heap.size + 1) v4 (H ++ effsB (ns.take 0))) := by show Own _ _ _ _ _ _; rw [List.take_zero, show effsB [] = [] from rfl, List.append_nil]; exact O4.out
  clear hH O4 X4
  go_wp2
  go_loopw [3, 4] (fun vo vk wr => ∃ k : Nat, k ≤ n ∧ vk = .int .i64 k ∧ Hid (Own .u8 5 wr (w.heap.size + 1) vo (H ++ effsB (ns.take k))) ∧ Hid (Below (w.heap.size + 1) w1 wr)) (fun _ i _ => n - (intOf i).toNat)
  case atStart => exact ⟨0, Nat.zero_le _, rfl, O5, D4⟩
  case round =>
    obtain ⟨k, hk, rfl, HW, HD⟩ := hrel
    have sD : w.heap.size + 1 ≤ wr.heap.size := Nat.le_trans s1 HD.out.size
    obtain ⟨-, y0, y1⟩ := X1.out.belowM HD.out (Nat.lt_succ_self _)
    by_cases hlt : k < n
    · have hltI : (k : Int) < (n : Int) := by omega
      obtain ⟨b, o, hao, hb, hc⟩ : ∃ b o, ao = some ⟨b, o, none⟩ ∧ b < w.heap.size ∧ CellsE w b (o + k * 8) (eAt ns k) := by
        obtain ⟨ao', cap', e', -, -, h3⟩ := HR.out
        simp only [Value.slice.injEq] at e'
        obtain ⟨rfl, -, -⟩ := e'
        rcases h3 with h3 | ⟨b, o, rfl, hb, hc⟩
        · have := HP.out; rw [h3] at this; simp at this; omega
        · exact ⟨b, o, rfl, hb, hc k (by rw [HP.out]; exact hlt)⟩
      subst hao
      have HCk : Hid (CellsE w1 b (o + k * 8) (eAt ns k)) := hc.below B1.out hb
      clear hc
      have hb1 : b < w.heap.size + 1 := Nat.lt_succ_of_lt hb
      have hef := HOK.out k hlt
      have hle := effB_len hef
      have HND : Hid (okNd (eAt ns k).nd = true) := okEf_nd' hef
      have hpz := (okNd_all HND.out).1
      have HSU : Hid (effsB (ns.take k) ++ effB (eAt ns k) = effsB (ns.take (k + 1))) := effsB_succ ns k (by rw [HP.out]; exact hlt)
      have HLE : Hid ((H ++ effsB (ns.take k)).length ≤ 6 + 189000) := by show _ ≤ _; have := HLN.out k hk; rw [List.length_append, HH.out]; omega
      obtain ⟨L, hL⟩ : ∃ L, L = H ++ effsB (ns.take k) := ⟨_, rfl⟩
      have HL2 : Hid (L ++ effB (eAt ns k) = H ++ effsB (ns.take (k + 1))) := by show _ = _; rw [hL, List.append_assoc, HSU.out]
      rw [← hL] at HW HLE
      clear hL HSU hef hle
      have hLE := HLE.out
      have OW : Hid (wr.ownsRow (w.heap.size + 1) 5 1 u3 L.length (L.map (Value.int .u8))) := HW.out
      obtain ⟨c0, c1, c2, c3, c4, c5, c6, c7⟩ := HCk.out.below HD.out hb1
      cases hdel : (eAt ns k).del with
      | true =>
        rw [hdel] at c0
        have HEF : Hid (effB (eAt ns k) = [2] ++ txB (eAt ns k).nd.path) := by show _ = _; unfold effB; rw [hdel]; rfl
        clear hdel
        go_wp2_with (at_builtin; go_must (refine wpList_append_own _ rfl _ _ 45 rfl (w.heap.size + 1) 5 i0 (.int .u8 0) 1 1 Tryd.underlying45 hi hz0 hz1 hz2 rfl (by decide) _ _ _ rfl (OW.out.alloc _) ⟨wr.heap.size, 0, none⟩ 1 1 [.int .u8 2] rfl rfl (cell_one_new _ _ _) (by intro u hu; simp at hu; subst hu; rfl) ?_ ?_ ?_ ?_))
        · unfold maxLen; omega
        · omega
        · simp; omega
        intro v5 w5 ho5 hg5 _
        have b5 : Below (w.heap.size + 1) wr w5 := ((Below.refl _ _).alloc sD _).grown hg5 (by simp; omega) (fun q hq => (World.ownsRow.lt OW.out q hq).1)
        have O5 : Hid (Own .u8 5 w5 (w.heap.size + 1) v5 (L ++ [2])) := by
          refine own_of (q := L.length + 1) (ys := L ++ [2]) (by simp) rfl ?_
          rw [List.map_append]; exact ho5
        have D5 : Hid (Below (w.heap.size + 1) w1 w5) := HD.out.trans b5
        clear ho5 hg5 b5 c0 c1 c2 c3 c4 c5 c6 c7 y0 y1 OW HW HD
        have s5 : w.heap.size + 1 ≤ w5.heap.size := Nat.le_trans s1 D5.out.size
        obtain ⟨-, y0, y1⟩ := X1.out.belowM D5.out (Nat.lt_succ_self _)
        obtain ⟨c0, c1, c2, c3, c4, c5, c6, c7⟩ := HCk.out.below D5.out hb1
        go_wp2_with fail
        refine (specText_any _ (eAt ns k).nd.path (by omega)).mono ?_
        rintro e w6 ⟨v6, rfl, o6, b6⟩
        clear c0 c1 c2 c3 c4 c5 c6 c7 y0 y1
        obtain ⟨N, hN⟩ : ∃ N, N = txB (eAt ns k).nd.path := ⟨_, rfl⟩
        have hNl : 0 < N.length ∧ N.length ≤ 188 := by
          have := okNd_all HND.out
          rw [hN, txB_len]; omega
        rw [← hN] at o6 HEF
        have HL3 : Hid (L ++ [2] ++ N = H ++ effsB (ns.take (k + 1))) := by show _ = _; rw [← HL2.out, HEF.out, List.append_assoc]
        generalize hm : N.length = m at *
        have HM : Hid (N.length = m) := hm
        obtain ⟨g6, q6, hv6⟩ := own_full o6 (by omega)
        rw [hm] at hv6
        subst hv6
        have O6 : Hid (w6.ownsRow (w.heap.size + 1) 5 1 v5 (L.length + 1) ((L ++ [2]).map (Value.int .u8))) := by have := O5.out.below b6; unfold Own at this; rw [List.length_append] at this; exact this
        have N6 : Hid (∀ j u, (N.map (Value.int .u8))[j]? = some u → w6.cell? ((⟨g6, 0, none⟩ : Addr).add j) = some u) := World.ownsRow.cells o6 rfl
        have D6 : Hid (Below (w.heap.size + 1) w1 w6) := D5.out.trans (b6.mono s5)
        have s6 : w.heap.size + 1 ≤ w6.heap.size := Nat.le_trans s1 D6.out.size
        clear o6 b6 O5 D5 hN hm HEF
        go_wp2_with (at_builtin; go_must (refine wpList_append_own _ rfl _ _ 45 rfl (w.heap.size + 1) 5 i0 (.int .u8 0) 1 1 Tryd.underlying45 hi hz0 hz1 hz2 rfl (by decide) _ _ _ rfl O6.out ⟨g6, 0, none⟩ m q6 (N.map (Value.int .u8)) rfl ?_ N6.out (u8_oneCell _) ?_ ?_ ?_ ?_))
        · rw [List.length_map, HM.out, Nat.mul_one]
        · unfold maxLen; omega
        · omega
        · exact s6
        intro v7 w7 ho7 hg7 _
        have O7 : Hid (Own .u8 5 w7 (w.heap.size + 1) v7 (H ++ effsB (ns.take (k + 1)))) := by
          refine own_of (q := L.length + 1 + m) (ys := L ++ [2] ++ N) (by rw [List.length_append, List.length_append, HM.out]; rfl) HL3.out.symm ?_
          rw [List.map_append, List.map_append, List.append_assoc]; exact ho7
        have D7 : Hid (Below (w.heap.size + 1) w1 w7) := D6.out.grown hg7 s6 (fun q hq => (World.ownsRow.lt O6.out q hq).1)
        clear ho7 hg7 O6 N6 D6
        go_wp2
        exact ⟨⟨k + 1, by omega, by go_num, O7, D7⟩, by simp [intOf]; omega⟩
      | false =>
        rw [hdel] at c0
        have HEF : Hid (effB (eAt ns k) = [1] ++ nodeB (eAt ns k).nd) := by show _ = _; unfold effB; rw [hdel]; rfl
        clear hdel
        go_wp2_with (at_builtin; go_must (refine wpList_append_own _ rfl _ _ 45 rfl (w.heap.size + 1) 5 i0 (.int .u8 0) 1 1 Tryd.underlying45 hi hz0 hz1 hz2 rfl (by decide) _ _ _ rfl (OW.out.alloc _) ⟨wr.heap.size, 0, none⟩ 1 1 [.int .u8 1] rfl rfl (cell_one_new _ _ _) (by intro u hu; simp at hu; subst hu; rfl) ?_ ?_ ?_ ?_))
        · unfold maxLen; omega
        · omega
        · simp; omega
        intro v5 w5 ho5 hg5 _
        have b5 : Below (w.heap.size + 1) wr w5 := ((Below.refl _ _).alloc sD _).grown hg5 (by simp; omega) (fun q hq => (World.ownsRow.lt OW.out q hq).1)
        have O5 : Hid (Own .u8 5 w5 (w.heap.size + 1) v5 (L ++ [1])) := by
          refine own_of (q := L.length + 1) (ys := L ++ [1]) (by simp) rfl ?_
          rw [List.map_append]; exact ho5
        have D5 : Hid (Below (w.heap.size + 1) w1 w5) := HD.out.trans b5
        clear ho5 hg5 b5 c0 c1 c2 c3 c4 c5 c6 c7 y0 y1 OW HW HD
        have s5 : w.heap.size + 1 ≤ w5.heap.size := Nat.le_trans s1 D5.out.size
        obtain ⟨-, y0, y1⟩ := X1.out.belowM D5.out (Nat.lt_succ_self _)
        obtain ⟨c0, c1, c2, c3, c4, c5, c6, c7⟩ := HCk.out.below D5.out hb1
        go_wp2_with fail
        refine (sNode_any _ (eAt ns k).nd HND.out).mono ?_
        rintro e w6 ⟨v6, rfl, o6, b6⟩
        clear c0 c1 c2 c3 c4 c5 c6 c7 y0 y1
        obtain ⟨N, hN⟩ : ∃ N, N = nodeB (eAt ns k).nd := ⟨_, rfl⟩
        have hNl : 0 < N.length ∧ N.length ≤ 188 := by
          have := okNd_all HND.out
          rw [hN, nodeB_len]; omega
        rw [← hN] at o6 HEF
        have HL3 : Hid (L ++ [1] ++ N = H ++ effsB (ns.take (k + 1))) := by show _ = _; rw [← HL2.out, HEF.out, List.append_assoc]
        generalize hm : N.length = m at *
        have HM : Hid (N.length = m) := hm
        obtain ⟨g6, q6, hv6⟩ := own_full o6 (by omega)
        rw [hm] at hv6
        subst hv6
        have O6 : Hid (w6.ownsRow (w.heap.size + 1) 5 1 v5 (L.length + 1) ((L ++ [1]).map (Value.int .u8))) := by have := O5.out.below b6; unfold Own at this; rw [List.length_append] at this; exact this
        have N6 : Hid (∀ j u, (N.map (Value.int .u8))[j]? = some u → w6.cell? ((⟨g6, 0, none⟩ : Addr).add j) = some u) := World.ownsRow.cells o6 rfl
        have D6 : Hid (Below (w.heap.size + 1) w1 w6) := D5.out.trans (b6.mono s5)
        have s6 : w.heap.size + 1 ≤ w6.heap.size := Nat.le_trans s1 D6.out.size
        clear o6 b6 O5 D5 hN hm HEF
        go_wp2_with (at_builtin; go_must (refine wpList_append_own _ rfl _ _ 45 rfl (w.heap.size + 1) 5 i0 (.int .u8 0) 1 1 Tryd.underlying45 hi hz0 hz1 hz2 rfl (by decide) _ _ _ rfl O6.out ⟨g6, 0, none⟩ m q6 (N.map (Value.int .u8)) rfl ?_ N6.out (u8_oneCell _) ?_ ?_ ?_ ?_))
        · rw [List.length_map, HM.out, Nat.mul_one]
        · unfold maxLen; omega
        · omega
        · exact s6
        intro v7 w7 ho7 hg7 _
        have O7 : Hid (Own .u8 5 w7 (w.heap.size + 1) v7 (H ++ effsB (ns.take (k + 1)))) := by
          refine own_of (q := L.length + 1 + m) (ys := L ++ [1] ++ N) (by rw [List.length_append, List.length_append, HM.out]; rfl) HL3.out.symm ?_
          rw [List.map_append, List.map_append, List.append_assoc]; exact ho7
        have D7 : Hid (Below (w.heap.size + 1) w1 w7) := D6.out.grown hg7 s6 (fun q hq => (World.ownsRow.lt O6.out q hq).1)
        clear ho7 hg7 O6 N6 D6
        go_wp2
        exact ⟨⟨k + 1, by omega, by go_num, O7, D7⟩, by simp [intOf]; omega⟩
    · have hkn : k = n := by omega
      subst hkn
      go_wp2
      go_ret
      refine ⟨_, rfl, ?_, B1.out.trans (HD.out.mono (Nat.le_succ _))⟩
      rw [HT.out, ← effsB_all ns k (by rw [HP.out]; exact Nat.le_refl _)]
      exact HW.out.mono (Nat.le_succ _)

end Go.Proofs.YtgjenbgclpmjmaaDoor

namespace Go.Proofs.YtgjenbgclpmjmaaDoor
open Go.RowKit Go.Shelf

set_option maxHeartbeats 2000000 in
set_option maxRecDepth 100000 in
theorem markEffectS_row (w : World) (lo g n cap k : Nat) (us : List Value) (ho : w.ownsRow lo 86 8 (.slice (some ⟨g, 0, none⟩) n cap) n us) (hk : k ≤ 100000000) (hn : n ≤ 1048576) :
    Calls Tryd.prog 94 #[.slice (some ⟨g, 0, none⟩) n cap, .int .i64 k] w fun e w' => e = .returned (.int .i64 ((k + 8 * n : Nat) : Int)) ∧ RowW w lo g n cap 8 86 w' := by
  have R0 : Hid (RowW w lo g n cap 8 86 w) := ⟨⟨us, ho⟩, Below.refl _ _, KT.refl _ _⟩
  clear ho
  go_enter Tryd.func94, Tryd.ntmps94
  go_wp2
  go_loopw [1, 5] (fun vk vi wr => ∃ j K : Nat, j ≤ n ∧ K = k + 8 * j ∧ vi = .int .i64 j ∧ vk = .int .i64 K ∧ Hid (RowW w lo g n cap 8 86 wr)) (fun _ i _ => n - (intOf i).toNat)
  case atStart => exact ⟨0, k, Nat.zero_le _, by omega, rfl, rfl, R0⟩
  case round =>
    obtain ⟨j, K, hj, hK, rfl, rfl, HR⟩ := hrel
    have HKE : Hid (K = k + 8 * j) := hK
    by_cases hlt : j < n
    · have hltI : (j : Int) < (n : Int) := by omega
      have hK2 : K ≤ 1000000000 := by omega
      clear hK
      have hm1 : Hid (∀ W, Calls Tryd.prog 85 #[.int .i64 ((K : Int) + 1)] W fun e w' => e = .returned (.string (mtx (K + 1))) ∧ Below W.heap.size W w') := by
        intro W
        have hm := markText_any W (K + 1) (by omega)
        rw [show ((K + 1 : Nat) : Int) = (K : Int) + 1 by omega] at hm
        exact hm
      have hm2 : Hid (∀ W, Calls Tryd.prog 85 #[.int .i64 ((K : Int) + 1 + 1)] W fun e w' => e = .returned (.string (mtx (K + 2))) ∧ Below W.heap.size W w') := by
        intro W
        have hm := markText_any W (K + 2) (by omega)
        rw [show ((K + 2 : Nat) : Int) = (K : Int) + 1 + 1 by omega] at hm
        exact hm
      obtain ⟨x0, d0, f0⟩ := HR.out.cell (j * 8) (by omega)
      go_wp2_with fail
      refine (hm1.out _).mono ?_
      rintro e w1 ⟨rfl, b1⟩
      have R1 : Hid (RowW w lo g n cap 8 86 w1) := (HR.out.set _ _).below b1
      clear b1 HR d0 f0 hm1
      obtain ⟨x1, d1, f1⟩ := R1.out.cell (j * 8 + 1) (by omega)
      go_wp2_with fail
      refine (hm2.out _).mono ?_
      rintro e w3 ⟨rfl, b3⟩
      have R3 : Hid (RowW w lo g n cap 8 86 w3) := (R1.out.set _ _).below b3
      clear b3 R1 d1 f1 hm2
      obtain ⟨x2, d2, f2⟩ := R3.out.cell (j * 8 + 2) (by omega)
      obtain ⟨x3, d3, f3⟩ := R3.out.cell (j * 8 + 3) (by omega)
      obtain ⟨x4, d4, f4⟩ := R3.out.cell (j * 8 + 4) (by omega)
      obtain ⟨x5, d5, f5⟩ := R3.out.cell (j * 8 + 5) (by omega)
      obtain ⟨x6, d6, f6⟩ := R3.out.cell (j * 8 + 6) (by omega)
      obtain ⟨x7, d7, f7⟩ := R3.out.cell (j * 8 + 7) (by omega)
      go_wp2
      refine ⟨⟨j + 1, K + 8, by omega, by have := HKE.out; omega, by go_num, by go_num, ?_⟩, by simp [intOf]; omega⟩
      exact ((((((R3.out.set _ _).set _ _).set _ _).set _ _).set _ _).set _ _)
    · have hjn : j = n := by omega
      subst hjn
      subst hK
      go_wp2
      go_ret
      exact ⟨rfl, HR.out⟩

set_option maxHeartbeats 400000 in
theorem markEffectS_nil (w : World) (ao : Option Addr) (cap k : Nat) : Calls Tryd.prog 94 #[.slice ao 0 cap, .int .i64 k] w fun e w' => e = .returned (.int .i64 k) ∧ w' = w := by
  go_enter Tryd.func94, Tryd.ntmps94
  go_wp2
  go_rounds 1
  go_ret
  exact ⟨rfl, rfl⟩

theorem markEffectS_any (w : World) (lo k : Nat) (v : Value) (ns : List Ef) (h : OwnE 86 w lo v ns) (hk : k ≤ 100000000) (hn : ns.length ≤ 1048576) :
    Calls Tryd.prog 94 #[v, .int .i64 k] w fun e w' => e = .returned (.int .i64 ((k + 8 * ns.length : Nat) : Int)) ∧ Below lo w w' ∧ KT 86 w w' := by
  have h0 := h
  rcases h.2 with ⟨rfl, h1⟩ | ⟨g, cap, cur, rfl, rest⟩
  · refine (markEffectS_nil w none 0 k).mono ?_
    rintro e w' ⟨rfl, rfl⟩
    rw [h1]
    exact ⟨rfl, Below.refl _ _, KT.refl _ _⟩
  · refine (markEffectS_row w lo g ns.length cap k _ h0 hk hn).mono ?_
    rintro e w' ⟨rfl, -, h2, h3⟩
    exact ⟨rfl, h2, h3⟩

set_option maxHeartbeats 400000 in
theorem markTxn_any (w : World) (lo k : Nat) (z : Int) (v : Value) (ns : List Ef) (h : OwnE 86 w lo v ns) (hl : lo ≤ w.heap.size) (hk : k ≤ 100000000) (hn : ns.length ≤ 1048576) :
    Calls Tryd.prog 48 #[.agg #[.int .i64 z, v], .int .i64 k] w fun e w' => e = .returned (.int .i64 ((k + 8 * ns.length : Nat) : Int)) ∧ Below lo w w' ∧ KT 86 w w' := by
  have H : Hid (OwnE 86 w lo v ns) := h
  clear h
  go_enter Tryd.func48, Tryd.ntmps48
  go_wp2_with fail
  refine (markEffectS_any _ lo k v ns (H.out.below ((Below.refl _ _).alloc (Nat.le_refl _) _)) hk hn).mono ?_
  rintro e w1 ⟨rfl, b1, k1⟩
  have B1 : Hid (Below lo w w1) := ((Below.refl _ _).alloc hl _).trans b1
  have K1 : Hid (KT 86 w w1) := ((KT.refl _ _).alloc _).trans k1
  clear b1 k1
  go_wp2
  go_ret
  exact ⟨rfl, B1.out, K1.out⟩

end Go.Proofs.YtgjenbgclpmjmaaDoor

namespace Go.Proofs.YtgjenbgclpmjmaaDoor
open Go.RowKit Go.Shelf

/-- A local transaction, of a type. -/
def BxX (w : World) (B : Nat) (t : TypeId) (z : Int) (v : Value) : Prop := w.heap[B]? = some (.cells #[.int .i64 z, v] t (0, 0))
theorem BxX.lt {w : World} {B : Nat} {t : TypeId} {z : Int} {v : Value} (h : BxX w B t z v) : B < w.heap.size := (Array.getElem?_eq_some_iff.1 h).1
theorem BxX.new (w : World) (t : TypeId) (z : Int) (v : Value) : BxX (w.alloc (.cells #[.int .i64 z, v] t)) w.heap.size t z v := heap_alloc_new w _
theorem BxX.later {w w' : World} {B : Nat} {t : TypeId} {z : Int} {v : Value} (hb : Below w.heap.size w w') (h : BxX w B t z v) : BxX w' B t z v := (hb.block _ h.lt).trans h
theorem BxX.cells {w : World} {B : Nat} {t : TypeId} {z : Int} {v : Value} (h : BxX w B t z v) : w.cell? ⟨B, 0, none⟩ = some (.int .i64 z) ∧ w.cell? ⟨B, 1, none⟩ = some v := ⟨(cell_of h _).trans rfl, (cell_of h _).trans rfl⟩
theorem OwnE.keepQ {w w' : World} {lo : Nat} {v : Value} {ns : List Ef} {t : TypeId} (h : OwnE 86 w lo v ns) (hk : KT t w w') (ht : 86 ≠ t) : OwnE 86 w' lo v ns := by
  refine ⟨h.1, ?_⟩
  rcases h.2 with hn | ⟨g, cap, cur, rfl, hbg, hgg, rest⟩
  · exact .inl hn
  · exact .inr ⟨g, cap, cur, rfl, hbg, hk.box hgg ht, rest⟩
theorem OwnE.belowQ {w w' : World} {lo m : Nat} {v : Value} {ns : List Ef} (h : OwnE 86 w lo v ns) (hb : Below m w w') (hlt : ∀ g, v.ownBlock = some g → g < m) : OwnE 86 w' lo v ns := by
  refine ⟨h.1, ?_⟩
  rcases h.2 with hn | ⟨g, cap, cur, rfl, hbg, hgg, rest⟩
  · exact .inl hn
  · exact .inr ⟨g, cap, cur, rfl, hbg, (hb.block g (hlt g rfl)).trans hgg, rest⟩

end Go.Proofs.YtgjenbgclpmjmaaDoor

namespace Go.Proofs.YtgjenbgclpmjmaaDoor
open Go.RowKit Go.Shelf

set_option maxHeartbeats 2000000 in
set_option maxRecDepth 100000 in
theorem lawEncTxn_walk (w : World) (z : Int) (v : Value) (ns : List Ef) (h : InX w v ns) :
    Calls Tryd.prog 10 #[.agg #[.int .i64 z, v]] w fun e w' => e = .returned (.bool true) ∧ Below w.heap.size w w' := by
  obtain ⟨hr, hsz⟩ := h
  obtain ⟨ao, ca, rfl, _, _⟩ := hr.len
  have B0 : Hid (Below w.heap.size w (w.alloc (.cells #[.int .i64 z, .slice ao ns.length ca] 36))) := (Below.refl _ _).alloc (Nat.le_refl _) _
  have X0 : Hid (BxX (w.alloc (.cells #[.int .i64 z, .slice ao ns.length ca] 36)) w.heap.size 36 z (.slice ao ns.length ca)) := BxX.new _ _ _ _
  have HR : Hid (RdE w (.slice ao ns.length ca) ns) := hr
  have HZ : Hid (∀ i, (eAt ns i).nd.path.size ≤ maxLen ∧ (eAt ns i).nd.data.size ≤ maxLen) := hsz
  clear hr hsz
  go_enter Tryd.func10, Tryd.ntmps10
  go_wp2_with fail
  generalize w.alloc (.cells #[.int .i64 z, .slice ao ns.length ca] 36) = w0 at *
  refine (szTxn_any _ _ _ ns (HR.out.below B0.out) HZ.out 1048576 (by omega) (by omega)).mono ?_
  rintro e w1 ⟨r, rfl, hsz, b1⟩
  have B1 : Hid (Below w.heap.size w w1) := B0.out.trans (b1.mono B0.out.size)
  have X1 : Hid (BxX w1 w.heap.size 36 z (.slice ao ns.length ca)) := BxX.later b1 X0.out
  clear b1 X0 B0
  by_cases hneg : r < 0
  · clear hsz
    go_wp2
    go_ret
    exact ⟨rfl, B1.out⟩
  have hsz' : r + ns.length + totE ns = 1048576 := by omega
  have hn : ns.length ≤ 1048576 := by omega
  have hd : Hid (∀ i, (eAt ns i).nd.path.size ≤ 1048576 ∧ (eAt ns i).nd.data.size ≤ 1048576) := fun i => by have := totE_ge ns i; omega
  clear hsz hsz'
  have hls := txnB_len z ns
  obtain ⟨L, hL⟩ : ∃ L, L = txnB z ns := ⟨_, rfl⟩
  rw [← hL] at hls
  have HL : Hid (txnB z ns = L) := hL.symm
  clear hL
  obtain ⟨c0, c1⟩ := X1.out.cells
  go_wp2_with fail
  refine (toTxn_any _ _ _ ns (HR.out.below B1.out) hn).mono ?_
  rintro e w2 ⟨a2, k2, rfl, o2, b2⟩
  have Q2 : Hid (RdE w2 (.slice a2 ns.length k2) ns) := o2.rd
  have B2 : Hid (Below w.heap.size w w2) := B1.out.trans (b2.mono B1.out.size)
  have X2 : Hid (BxX w2 w.heap.size 36 z (.slice ao ns.length ca)) := BxX.later b2 X1.out
  clear o2 b2 c0 c1 X1
  go_wp2_with fail
  refine (sTxn_any _ _ _ ns Q2.out hd.out).mono ?_
  rw [HL.out]
  rintro e w3 ⟨v3, rfl, o3, b3⟩
  have s2 := B2.out.size
  have O3 : Hid (Own .u8 5 w3 w2.heap.size v3 L) := o3
  have B3 : Hid (Below w.heap.size w w3) := B2.out.trans (b3.mono s2)
  have X3 : Hid (BxX w3 w.heap.size 36 z (.slice ao ns.length ca)) := BxX.later b3 X2.out
  clear b3 o3 Q2 X2
  obtain ⟨c0, c1⟩ := X3.out.cells
  go_wp2_with fail
  refine (toTxn_any _ _ _ ns (HR.out.below B3.out) hn).mono ?_
  rintro e w4 ⟨a4, k4, rfl, o4, b4⟩
  have s3 := B3.out.size
  have Q4 : Hid (OwnE 86 w4 w3.heap.size (.slice a4 ns.length k4) ns) := o4
  have B4 : Hid (Below w.heap.size w w4) := B3.out.trans (b4.mono s3)
  have X4 : Hid (BxX w4 w.heap.size 36 z (.slice ao ns.length ca)) := BxX.later b4 X3.out
  have O34 : Hid (Own .u8 5 w4 w2.heap.size v3 L) := O3.out.below b4
  have s34 := b4.size
  clear o4 b4 c0 c1 X3 O3
  go_wp2_with fail
  have BA : Hid (Below w4.heap.size w4 (w4.alloc (.cells #[.int .i64 z, .slice a4 ns.length k4] 41))) := (Below.refl _ _).alloc (Nat.le_refl _) _
  have Y5 : Hid (BxX (w4.alloc (.cells #[.int .i64 z, .slice a4 ns.length k4] 41)) w4.heap.size 41 z (.slice a4 ns.length k4)) := BxX.new _ _ _ _
  generalize w4.alloc (.cells #[.int .i64 z, .slice a4 ns.length k4] 41) = w5 at *
  have Y5lt := Y5.out.lt
  have s4 := B4.out.size
  have s45 := BA.out.size
  have B5 : Hid (Below w.heap.size w w5) := B4.out.trans (BA.out.mono s4)
  have X5 : Hid (BxX w5 w.heap.size 36 z (.slice ao ns.length ca)) := BxX.later BA.out X4.out
  have Q5 : Hid (OwnE 86 w5 w3.heap.size (.slice a4 ns.length k4) ns) := Q4.out.below BA.out
  have O35 : Hid (Own .u8 5 w5 w2.heap.size v3 L) := O34.out.below BA.out
  clear X4 Q4 BA O34
  refine (encTxn_any _ _ _ ns Q5.out.rd hd.out).mono ?_
  rw [HL.out]
  rintro e w6 ⟨v6, rfl, o6, b6⟩
  have s5 := B5.out.size
  have O6 : Hid (Own .u8 5 w6 w5.heap.size v6 L) := o6
  have B6 : Hid (Below w.heap.size w w6) := B5.out.trans (b6.mono s5)
  have X6 : Hid (BxX w6 w.heap.size 36 z (.slice ao ns.length ca)) := BxX.later b6 X5.out
  have Y6 : Hid (BxX w6 w4.heap.size 41 z (.slice a4 ns.length k4)) := BxX.later b6 Y5.out
  have Q6 : Hid (OwnE 86 w6 w3.heap.size (.slice a4 ns.length k4) ns) := Q5.out.below b6
  have O36 : Hid (Own .u8 5 w6 w2.heap.size v3 L) := O35.out.below b6
  have N36 : Hid (v3.ownBlock = none ∨ v3.ownBlock ≠ v6.ownBlock) := own_apart O35.out O6.out (Nat.le_refl _)
  have s56 := b6.size
  clear o6 b6 X5 Y5 Q5 B5 O35
  go_wp2_with fail
  refine (eqByteS_any _ _ _ L L O6.out.rd O36.out.rd).mono ?_
  rintro e w7 ⟨rfl, q7, rfl⟩
  rw [show decide (L = L) = true by simp]
  have D7 : Hid (Below w6.heap.size w6 (w6.drewN q7)) := below_drewN' w6 q7
  generalize w6.drewN q7 = w7 at *
  have O7 : Hid (Own .u8 5 w7 w5.heap.size v6 L) := O6.out.below D7.out
  have O37 : Hid (Own .u8 5 w7 w2.heap.size v3 L) := O36.out.below D7.out
  have B7 : Hid (Below w.heap.size w w7) := B6.out.trans (D7.out.mono B6.out.size)
  have X7 : Hid (BxX w7 w.heap.size 36 z (.slice ao ns.length ca)) := BxX.later D7.out X6.out
  have Y7 : Hid (BxX w7 w4.heap.size 41 z (.slice a4 ns.length k4)) := BxX.later D7.out Y6.out
  have Q7 : Hid (OwnE 86 w7 w3.heap.size (.slice a4 ns.length k4) ns) := Q6.out.below D7.out
  have s67 := D7.out.size
  clear D7 O6 O36 B6 X6 Y6 Q6
  obtain ⟨c0, c1⟩ := X7.out.cells
  obtain ⟨d0, d1⟩ := Y7.out.cells
  have HT : Hid (∀ q, Calls Tryd.prog 21 #[.agg #[.int .i64 z, .slice ao ns.length ca]] (w7.drewN q) fun e w' => ∃ a c, e = .returned (.agg #[.int .i64 z, .slice a ns.length c]) ∧ Hid (RdE w' (.slice a ns.length c) ns) ∧ Hid (RdE w' (.slice a4 ns.length k4) ns) ∧ (w'.cell? ⟨w4.heap.size, 0, none⟩ = some (.int .i64 z) ∧ w'.cell? ⟨w4.heap.size, 1, none⟩ = some (.slice a4 ns.length k4)) ∧ Hid (Below w7.heap.size w7 w')) := by
    intro q
    refine (toTxn_any _ _ _ ns ((HR.out.below B7.out).below (below_drewN' w7 q)) hn).mono ?_
    rintro e w' ⟨a, c, rfl, o', b'⟩
    have b7' : Below w7.heap.size w7 w' := (below_drewN' w7 q).trans b'
    exact ⟨a, c, rfl, o'.rd, Q7.out.rd.below b7', (BxX.later b7' Y7.out).cells, b7'⟩
  go_wp2
  go_region_with (first | (go_at_call 21; refine (HT.out 1).mono ?_; rintro e w' ⟨a, c, rfl, r1, r2, ⟨k0, k1⟩, bw⟩) | (go_at_call 23; refine (eqTxn_same _ _ _ _ ns r2.out r1.out hn).mono ?_; rintro e w'' ⟨rfl, b''⟩))
  all_goals
    have b8 : Below w7.heap.size w7 w'' := bw.out.trans (b''.mono bw.out.size)
    have O8 : Hid (Own .u8 5 w'' w5.heap.size v6 L) := O7.out.below b8
    have O38 : Hid (Own .u8 5 w'' w2.heap.size v3 L) := O37.out.below b8
    have B8 : Hid (Below w.heap.size w w'') := B7.out.trans (b8.mono B7.out.size)
    have X8 : Hid (BxX w'' w.heap.size 36 z (.slice ao ns.length ca)) := BxX.later b8 X7.out
    have Y8 : Hid (BxX w'' w4.heap.size 41 z (.slice a4 ns.length k4)) := BxX.later b8 Y7.out
    have Q8 : Hid (OwnE 86 w'' w3.heap.size (.slice a4 ns.length k4) ns) := Q7.out.below b8
    have s78 := b8.size
    clear b8 b'' bw k0 k1 r1 r2 O7 O37 B7 X7 Y7 Q7 HT c0 c1 d0 d1
    obtain ⟨d0, d1⟩ := Y8.out.cells
    go_wp2_with fail
    refine (markTxn_any _ w3.heap.size 1 _ _ ns Q8.out (by omega) (by omega) hn).mono ?_
    rintro e w9 ⟨rfl, b9, k9⟩
    have O9 : Hid (Own .u8 5 w9 w5.heap.size v6 L) := O8.out.keepT k9 (by decide)
    have O39 : Hid (Own .u8 5 w9 w2.heap.size v3 L) := O38.out.keepT k9 (by decide)
    have B9 : Hid (Below w.heap.size w w9) := B8.out.trans (b9.mono s3)
    have X9 : Hid (BxX w9 w.heap.size 36 z (.slice ao ns.length ca)) := k9.box X8.out (by decide)
    have s9 := b9.size
    clear b9 k9 O8 O38 B8 X8 Y8 Q8 d0 d1
    have hk9 : ¬ ((1 + 8 * ns.length : Nat) : Int) < 0 := by omega
    go_wp2_with fail
    refine (eqByteS_any _ _ _ L L O9.out.rd O39.out.rd).mono ?_
    rintro e w10 ⟨rfl, q10, rfl⟩
    rw [show decide (L = L) = true by simp]
    go_wp2_with fail
    refine (markByteS_any _ _ _ L 1 (O9.out.drewN q10) (by omega) (by omega) (by omega)).mono ?_
    rintro e w11 ⟨rfl, o11, g11⟩
    have b11 : Below w5.heap.size w9 w11 := ((below_drewN' w9 q10).mono (by omega)).grown g11 (by show _ ≤ w9.heap.size; omega) (fun k hk => (O9.out.lt k hk).1)
    have X11 : Hid (BxX w11 w.heap.size 36 z (.slice ao ns.length ca)) := by
      have hlt : w.heap.size < w5.heap.size := by have := Y5lt; omega
      exact (b11.block _ hlt).trans X9.out
    have B11 : Hid (Below w.heap.size w w11) := B9.out.trans (b11.mono s5)
    have O311 : Hid (Own .u8 5 w11 w2.heap.size v3 L) := (O39.out.drewN q10).other g11 N36.out
    have O11 : Hid (Own .u8 5 w11 w5.heap.size v6 (marks 1 L.length)) := o11
    have s11 := b11.size
    clear o11 g11 b11 O9 O39 X9 B9
    generalize hm : L.length = m at *
    have HM : Hid (L.length = m) := hm
    clear hm
    go_wp2_with fail
    refine (heldByteS_any _ _ m 1 O11.out.rd (by omega) (by omega) (by omega)).mono ?_
    rintro e w12 ⟨rfl, rfl⟩
    have hq0 : ¬ (1 + (m : Int)) < 0 := by omega
    obtain ⟨c0, c1⟩ := X11.out.cells
    go_wp2_with fail
    refine (toTxn_any _ _ _ ns (HR.out.below B11.out) hn).mono ?_
    rintro e w13 ⟨a13, k13, rfl, o13, b13⟩
    have Q13 : Hid (RdE w13 (.slice a13 ns.length k13) ns) := o13.rd
    have B13 : Hid (Below w.heap.size w w13) := B11.out.trans (b13.mono B11.out.size)
    have O313 : Hid (Own .u8 5 w13 w2.heap.size v3 L) := O311.out.below b13
    clear o13 b13 O311 O11 X11 B11 c0 c1
    go_wp2_with fail
    refine (encTxn_any _ _ _ ns Q13.out hd.out).mono ?_
    rw [HL.out]
    rintro e w14 ⟨v14, rfl, o14, b14⟩
    have O14 : Hid (Own .u8 5 w14 w13.heap.size v14 L) := o14
    have O314 : Hid (Own .u8 5 w14 w2.heap.size v3 L) := O313.out.below b14
    have B14 : Hid (Below w.heap.size w w14) := B13.out.trans (b14.mono B13.out.size)
    clear o14 b14 O313 Q13 B13
    go_wp2_with fail
    refine (eqByteS_any _ _ _ L L O14.out.rd O314.out.rd).mono ?_
    rintro e w15 ⟨rfl, q15, rfl⟩
    rw [show decide (L = L) = true by simp]
    have B15 : Hid (Below w.heap.size w (w14.drewN q15)) := B14.out.trans ((below_drewN' w14 q15).mono B14.out.size)
    go_wp2
    go_ret
    exact ⟨rfl, B15.out⟩

end Go.Proofs.YtgjenbgclpmjmaaDoor

namespace Go.Proofs.YtgjenbgclpmjmaaDoor
open Go.ChangeShapes Go.WideShapes Go.ChangeAt Go.RowKit

theorem cells_T : Tryd.prog.cellsOf 25 = 1 := by kernel_rfl
theorem cells_N : Tryd.prog.cellsOf 125 = 7 := by kernel_rfl
theorem cells_I : Tryd.prog.cellsOf 2 = 1 := by kernel_rfl
theorem cells_St : Tryd.prog.cellsOf 9 = 1 := by kernel_rfl
theorem cells_Ns : Tryd.prog.cellsOf 23 = 1 := by kernel_rfl
theorem addr_none (b o i : Nat) : (⟨b, o, none⟩ : Addr).add i = ⟨b, o + i, none⟩ := Addr.add_lit ..

section
variable {H : Type} {enc : TypeId × Value → H} {W : World} {base : Nat} {held : Bool}

set_option maxRecDepth 100000 in
theorem open_node_cells {m : Nat} {cs : List Value} {y : DataW H × List MemPlace} (h : DataW.trod enc Tryd.prog W base (fun _ => true) held m 125 cs = some y) :
    ∃ n : Nd, cs = ndL n ∧ n.path.size ≤ maxLen ∧ n.data.size ≤ maxLen := by
  obtain ⟨xs, k, -, -, hl, hlen, hfs⟩ := DataW.trod_struct Tryd.underlying125 h
  rw [cells_N] at hl
  match xs, hlen with
  | [y0, y1, y2, y3, y4, y5, y6], _ =>
    match cs, hl with
    | [c0, c1, c2, c3, c4, c5, c6], _ =>
      have h0 : DataW.trod enc Tryd.prog W base (fun _ => true) held k 9 [c0] = some y0 := by
        have := hfs 0 _ rfl
        simpa [cells_I, cells_St] using this
      have h1 : DataW.trod enc Tryd.prog W base (fun _ => true) held k 9 [c1] = some y1 := by
        have := hfs 1 _ rfl
        simpa [cells_I, cells_St] using this
      have h2 : DataW.trod enc Tryd.prog W base (fun _ => true) held k 2 [c2] = some y2 := by
        have := hfs 2 _ rfl
        simpa [cells_I, cells_St] using this
      have h3 : DataW.trod enc Tryd.prog W base (fun _ => true) held k 2 [c3] = some y3 := by
        have := hfs 3 _ rfl
        simpa [cells_I, cells_St] using this
      have h4 : DataW.trod enc Tryd.prog W base (fun _ => true) held k 2 [c4] = some y4 := by
        have := hfs 4 _ rfl
        simpa [cells_I, cells_St] using this
      have h5 : DataW.trod enc Tryd.prog W base (fun _ => true) held k 2 [c5] = some y5 := by
        have := hfs 5 _ rfl
        simpa [cells_I, cells_St] using this
      have h6 : DataW.trod enc Tryd.prog W base (fun _ => true) held k 2 [c6] = some y6 := by
        have := hfs 6 _ rfl
        simpa [cells_I, cells_St] using this
      obtain ⟨p, e0, -, l0⟩ := DataW.trod_string Tryd.underlying9 h0
      obtain ⟨q, e1, -, l1⟩ := DataW.trod_string Tryd.underlying9 h1
      obtain ⟨a2, e2, -, -⟩ := DataW.trod_int Tryd.underlying2 h2
      obtain ⟨a3, e3, -, -⟩ := DataW.trod_int Tryd.underlying2 h3
      obtain ⟨a4, e4, -, -⟩ := DataW.trod_int Tryd.underlying2 h4
      obtain ⟨a5, e5, -, -⟩ := DataW.trod_int Tryd.underlying2 h5
      obtain ⟨a6, e6, -, -⟩ := DataW.trod_int Tryd.underlying2 h6
      simp only [List.cons.injEq, and_true] at e0 e1 e2 e3 e4 e5 e6
      subst e0 e1 e2 e3 e4 e5 e6
      exact ⟨⟨p, q, a2, a3, a4, a5, a6⟩, rfl, l0, l1⟩

theorem nAt_mk {n : Nat} (Z : Nat → Nd) (i : Nat) (h : i < n) : nAt ((List.range n).map Z) i = Z i := by unfold nAt; simp [List.getD, h]
theorem nAt_out {ns : List Nd} {i : Nat} (h : ns.length ≤ i) : nAt ns i = nd0 := by unfold nAt; rw [List.getD, List.getElem?_eq_none h]; rfl

set_option maxRecDepth 100000 in
theorem open_nodes_cell {m : Nat} {c : Value} {y : DataW H × List MemPlace} (h : DataW.trod enc Tryd.prog W base (fun _ => true) held m 23 [c] = some y) : ∃ ns, InT W c ns := by
  rcases Deep.open_slice Tryd.underlying23 h with ⟨hcs, _⟩ | ⟨a, len, cap, m, q, D, Pl, hcs, hb, hl, hm, hme, _, hall⟩
  · simp at hcs
    subst hcs
    exact ⟨[], ⟨none, 0, rfl, Nat.le_refl _, Nat.zero_le _, .inl rfl⟩, fun i => ⟨Nat.zero_le _, Nat.zero_le _⟩⟩
  · simp at hcs
    subst hcs
    rw [cells_N] at hall
    simp only [if_true] at hme
    subst hme
    by_cases h0 : len = 0
    · subst h0
      exact ⟨[], ⟨some a, m, rfl, Nat.zero_le _, hm, .inl rfl⟩, fun i => ⟨Nat.zero_le _, Nat.zero_le _⟩⟩
    have hex : ∀ i, i < len → ∃ n : Nd, (∀ j, j < 7 → W.cell? ((a.add (i * 7)).add j) = (ndL n)[j]?) ∧ n.path.size ≤ maxLen ∧ n.data.size ≤ maxLen := by
      intro i hi
      obtain ⟨cs', hc, ht⟩ := hall i (by omega)
      obtain ⟨n, rfl, l0, l1⟩ := open_node_cells ht
      have hs := (World.cells?_some hc).2
      refine ⟨n, fun j hj => ?_, l0, l1⟩
      rw [hs.2 j (by omega)]
    haveI : Inhabited Nd := ⟨nd0⟩
    obtain ⟨Z, hZ⟩ := Deep.choose_lt (α := Nd) hex
    obtain ⟨b, off, spot⟩ := a
    have hspot : spot = none := by
      have := World.cell?_spot ((hZ 0 (by omega)).1 0 (by omega))
      simpa [Addr.add] using this
    subst hspot
    have hblt : b < W.heap.size := by
      have := World.block_lt_of_cell? W _ ((hZ 0 (by omega)).1 0 (by omega))
      simpa [Addr.add] using this
    refine ⟨(List.range len).map Z, ⟨some ⟨b, off, none⟩, m, by simp, by simpa using hl, hm, .inr ⟨b, off, rfl, hblt, fun i hi => ?_⟩⟩, fun i => ?_⟩
    · have hi' : i < len := by simpa using hi
      rw [nAt_mk Z i hi']
      have c := (hZ i hi').1
      have c' : ∀ j, j < 7 → W.cell? ⟨b, off + i * 7 + j, none⟩ = (ndL (Z i))[j]? := fun j hj => by have := c j hj; rwa [addr_none, addr_none] at this
      exact ⟨c' 0 (by omega), c' 1 (by omega), c' 2 (by omega), c' 3 (by omega), c' 4 (by omega), c' 5 (by omega), c' 6 (by omega)⟩
    · by_cases hi : i < len
      · rw [nAt_mk Z i hi]; exact (hZ i hi).2
      · rw [nAt_out (by simp; omega)]; exact ⟨Nat.zero_le _, Nat.zero_le _⟩

theorem array1 {α : Type} {cs : Array α} (h : cs.size = 1) : ∃ c0, cs = #[c0] := by
  obtain ⟨l⟩ := cs
  match l, h with
  | [c0], _ => exact ⟨c0, rfl⟩

set_option maxRecDepth 100000 in
/-- A tree that came in. -/
theorem open_tree {b0 : Nat} {v : Value} {d : DataW H} {p : List MemPlace} (hv : Value.okWide Tryd.prog W .any b0 25 v) (h : DataW.Trod enc Tryd.prog W base (fun _ => true) held 25 v d p) :
    ∃ c ns, v = .agg #[c] ∧ InT W c ns := by
  obtain ⟨cs, rfl, hsz⟩ := okWide_struct Tryd.underlying25 hv
  obtain ⟨c0, rfl⟩ := array1 (hsz.trans cells_T)
  obtain ⟨fuel, hf⟩ := h
  obtain ⟨xs, n, -, -, hl, hlen, hfs⟩ := DataW.trod_struct Tryd.underlying25 hf
  match xs, hlen with
  | [y0], _ =>
    have h0 : DataW.trod enc Tryd.prog W base (fun _ => true) held n 23 [c0] = some y0 := by
      have := hfs 0 _ rfl
      simpa [cells_Ns, Value.cells] using this
    obtain ⟨ns, hn⟩ := open_nodes_cell h0
    exact ⟨c0, ns, rfl, hn⟩
end

end Go.Proofs.YtgjenbgclpmjmaaDoor

namespace Go.Proofs.YtgjenbgclpmjmaaDoor
open Go.ChangeShapes Go.WideShapes Go.ChangeAt Go.RowKit

theorem cells_X : Tryd.prog.cellsOf 36 = 2 := by kernel_rfl
theorem cells_E : Tryd.prog.cellsOf 130 = 8 := by kernel_rfl
theorem cells_B : Tryd.prog.cellsOf 4 = 1 := by kernel_rfl

section
variable {H : Type} {enc : TypeId × Value → H} {W : World} {base : Nat} {held : Bool}

set_option maxRecDepth 100000 in
theorem open_effect_cells {m : Nat} {cs : List Value} {y : DataW H × List MemPlace} (h : DataW.trod enc Tryd.prog W base (fun _ => true) held m 130 cs = some y) :
    ∃ n : Ef, cs = efL n ∧ n.nd.path.size ≤ maxLen ∧ n.nd.data.size ≤ maxLen := by
  obtain ⟨xs, k, -, -, hl, hlen, hfs⟩ := DataW.trod_struct Tryd.underlying130 h
  rw [cells_E] at hl
  match xs, hlen with
  | [y0, y1], _ =>
    match cs, hl with
    | [c0, c1, c2, c3, c4, c5, c6, c7], _ =>
      have h0 : DataW.trod enc Tryd.prog W base (fun _ => true) held k 4 [c0] = some y0 := by
        have := hfs 0 _ rfl
        simpa [cells_B, cells_N] using this
      have h1 : DataW.trod enc Tryd.prog W base (fun _ => true) held k 125 [c1, c2, c3, c4, c5, c6, c7] = some y1 := by
        have := hfs 1 _ rfl
        simpa [cells_B, cells_N] using this
      obtain ⟨d, e0, -⟩ := DataW.trod_bool Tryd.underlying4 h0
      obtain ⟨n, e1, l0, l1⟩ := open_node_cells h1
      simp only [List.cons.injEq, and_true] at e0
      subst e0
      refine ⟨⟨d, n⟩, ?_, l0, l1⟩
      rw [e1]
      rfl

theorem eAt_mk {n : Nat} (Z : Nat → Ef) (i : Nat) (h : i < n) : eAt ((List.range n).map Z) i = Z i := by unfold eAt; simp [List.getD, h]
theorem eAt_out {ns : List Ef} {i : Nat} (h : ns.length ≤ i) : eAt ns i = ef0 := by unfold eAt; rw [List.getD, List.getElem?_eq_none h]; rfl

set_option maxRecDepth 100000 in
theorem open_effects_cell {m : Nat} {c : Value} {y : DataW H × List MemPlace} (h : DataW.trod enc Tryd.prog W base (fun _ => true) held m 34 [c] = some y) : ∃ ns, InX W c ns := by
  rcases Deep.open_slice Tryd.underlying34 h with ⟨hcs, _⟩ | ⟨a, len, cap, m, q, D, Pl, hcs, hb, hl, hm, hme, _, hall⟩
  · simp at hcs
    subst hcs
    exact ⟨[], ⟨none, 0, rfl, Nat.le_refl _, Nat.zero_le _, .inl rfl⟩, fun i => ⟨Nat.zero_le _, Nat.zero_le _⟩⟩
  · simp at hcs
    subst hcs
    rw [cells_E] at hall
    simp only [if_true] at hme
    subst hme
    by_cases h0 : len = 0
    · subst h0
      exact ⟨[], ⟨some a, m, rfl, Nat.zero_le _, hm, .inl rfl⟩, fun i => ⟨Nat.zero_le _, Nat.zero_le _⟩⟩
    have hex : ∀ i, i < len → ∃ n   : Ef, (∀ j, j < 8 → W.cell? ((a.add (i * 8)).add j) = (efL n)[j]?) ∧ n.nd.path.size ≤ maxLen ∧ n.nd.data.size ≤ maxLen := by
      intro i hi
      obtain ⟨cs', hc, ht⟩ := hall i (by omega)
      obtain ⟨n, rfl, l0, l1⟩ := open_effect_cells ht
      have hs := (World.cells?_some hc).2
      refine ⟨n, fun j hj => ?_, l0, l1⟩
      rw [hs.2 j (by omega)]
    haveI : Inhabited Ef := ⟨ef0⟩
    obtain ⟨Z, hZ⟩ := Deep.choose_lt (α := Ef) hex
    obtain ⟨b, off, spot⟩ := a
    have hspot : spot = none := by
      have := World.cell?_spot ((hZ 0 (by omega)).1 0 (by omega))
      simpa [Addr.add] using this
    subst hspot
    have hblt : b < W.heap.size := by
      have := World.block_lt_of_cell? W _ ((hZ 0 (by omega)).1 0 (by omega))
      simpa [Addr.add] using this
    refine ⟨(List.range len).map Z, ⟨some ⟨b, off, none⟩, m, by simp, by simpa using hl, hm, .inr ⟨b, off, rfl, hblt, fun i hi => ?_⟩⟩, fun i => ?_⟩
    · have hi' : i < len := by simpa using hi
      rw [eAt_mk Z i hi']
      have c := (hZ i hi').1
      have c' : ∀ j, j < 8 → W.cell? ⟨b, off + i * 8 + j, none⟩ = (efL (Z i))[j]? := fun j hj => by have := c j hj; rwa [addr_none, addr_none] at this
      exact ⟨c' 0 (by omega), c' 1 (by omega), c' 2 (by omega), c' 3 (by omega), c' 4 (by omega), c' 5 (by omega), c' 6 (by omega), c' 7 (by omega)⟩
    · by_cases hi : i < len
      · rw [eAt_mk Z i hi]; exact (hZ i hi).2
      · rw [eAt_out (by simp; omega)]; exact ⟨Nat.zero_le _, Nat.zero_le _⟩

set_option maxRecDepth 100000 in
/-- A transaction that came in. -/
theorem open_txn {b0 : Nat} {v : Value} {d : DataW H} {p : List MemPlace} (hv : Value.okWide Tryd.prog W .any b0 36 v) (h : DataW.Trod enc Tryd.prog W base (fun _ => true) held 36 v d p) :
    ∃ z c ns, v = .agg #[.int .i64 z, c] ∧ InX W c ns := by
  obtain ⟨c0, c1, y0, y1, m, rfl, _, _, h0, h1⟩ := Go.Joins.open_agg2 Tryd.underlying36 (by kernel_rfl) cells_X hv h
  obtain ⟨z, e0, -, -⟩ := DataW.trod_int Tryd.underlying2 h0
  simp only [List.cons.injEq, and_true] at e0
  subst e0
  obtain ⟨ns, hn⟩ := open_effects_cell h1
  exact ⟨z, c1, ns, rfl, hn⟩
end

end Go.Proofs.YtgjenbgclpmjmaaDoor

namespace Go.Proofs.YtgjenbgclpmjmaaDoor
open Go.ChangeShapes Go.WideShapes Go.ChangeAt Go.RowKit

theorem knob : ownKnob Tryd.prog.godebug = none := by kernel_rfl
theorem laidOut : laidOutB Tryd.prog = true := by kernel_rfl

def gFirst (P : Program) : Nat := (P.globalNamed "unicode/utf8.first").getD 0
def gAccept (P : Program) : Nat := (P.globalNamed "unicode/utf8.acceptRanges").getD 0

/-- The witness: the two tables as they are laid. -/
def laidWorld (P : Program) (os : Os) : World :=
  let w0 := World.holding P os ⟨#[], #[], []⟩
  let put (h : Array Obj) (g : Nat) (cs : Array Value) : Array Obj := h.modify g fun
    | .cells _ t frozen => .cells cs t frozen
    | o => o
  let h1 := put w0.heap (gFirst P) (Go.Pinned.utf8FirstZ.map fun (z : Nat) => Value.int .u8 (z : Int)).toArray
  let h2 := put h1 (gAccept P) ((([128, 191, 160, 191, 128, 159, 144, 191, 128, 143] : List Int) ++ List.replicate 22 0).map fun (z : Int) => Value.int .u8 z).toArray
  { w0 with heap := h2 }
theorem laid_met (os : Os) (args : Array Value) : laidMet Tryd.prog [("unicode/utf8.acceptRanges", Rows.laid_unicode_utf8_acceptRanges), ("unicode/utf8.first", Rows.laid_unicode_utf8_first)] ((laidWorld Tryd.prog os).forCall (fun _ _ => 0) ⟨#[], args, []⟩).memory :=
  (LaidIn.of_run (l := [("unicode/utf8.acceptRanges", Rows.laid_unicode_utf8_acceptRanges), ("unicode/utf8.first", Rows.laid_unicode_utf8_first)]) [gAccept Tryd.prog, gFirst Tryd.prog] 8 (by kernel_rfl) (by kernel_rfl) (by kernel_rfl) (by kernel_rfl)).met

end Go.Proofs.YtgjenbgclpmjmaaDoor

