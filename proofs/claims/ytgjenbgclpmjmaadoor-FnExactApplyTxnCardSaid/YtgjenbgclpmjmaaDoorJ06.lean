import Derived.Test.YtgjenbgclpmjmaaDoorJ05
import Derived.Test.YtgjenbgclpmjmaaDoorJ04
import Derived.Test.YtgjenbgclpmjmaaDoorJ03
import Derived.Test.YtgjenbgclpmjmaaDoorJ01
namespace Go.Proofs.YtgjenbgclpmjmaaDoor
open Go.RowKit

set_option maxHeartbeats 8000000 in
set_option maxRecDepth 100000 in
theorem specTxn_row (w : World) (z : Int) (b o n cap : Nat) (ns : List Ef) (hz1 : ¬ z < 1) (hz2 : ¬ 2147483647 < z) (hp : ns.length = n) (hn : n ≤ 1000) (hb : b < w.heap.size) (hsz : ∀ i, (eAt ns i).nd.path.size ≤ 1048576 ∧ (eAt ns i).nd.data.size ≤ 1048576)
    (hc : ∀ i, i < n → CellsE w b (o + i * 8) (eAt ns i)) :
    Calls Tryd.prog 20 #[.agg #[.int .i64 z, .slice (some ⟨b, o, none⟩) n cap]] w fun e w' => e = .returned (.bool (okEs ns)) ∧ Below w.heap.size w w' := by
  have HC : Hid (∀ i, i < n → CellsE w b (o + i * 8) (eAt ns i)) := hc
  have HP : Hid (ns.length = n) := hp
  have HZ : Hid (∀ i, (eAt ns i).nd.path.size ≤ 1048576 ∧ (eAt ns i).nd.data.size ≤ 1048576) := hsz
  have h1I : ¬ (1000 : Int) < (n : Int) := by omega
  clear hc hp hsz
  have B0 : Hid (Below w.heap.size w (w.alloc (.cells #[.int .i64 z, .slice (some ⟨b, o, none⟩) n cap] 41))) := (Below.refl _ _).alloc (Nat.le_refl _) _
  have c01 : Hid ((w.alloc (.cells #[.int .i64 z, .slice (some ⟨b, o, none⟩) n cap] 41)).cell? ⟨w.heap.size, 1, none⟩ = some (.slice (some ⟨b, o, none⟩) n cap)) := by show _ = _; simp
  have z0 : w.heap.size < (w.alloc (.cells #[.int .i64 z, .slice (some ⟨b, o, none⟩) n cap] 41)).heap.size := by simp
  go_enter Tryd.func20, Tryd.ntmps20
  go_wp2
  generalize w.alloc (.cells #[.int .i64 z, .slice (some ⟨b, o, none⟩) n cap] 41) = w0 at *
  go_loopw [3] (fun i wr => ∃ k : Nat, k ≤ n ∧ i = .int .i64 k ∧ Hid (∀ t, t < k → okEAt ns t = true) ∧ Hid (Below w0.heap.size w0 wr)) (fun i _ => n - (intOf i).toNat)
  case atStart => exact ⟨0, Nat.zero_le _, rfl, (fun t ht => by omega), Below.refl _ _⟩
  case round =>
    obtain ⟨k, hk, rfl, HA, HG⟩ := hrel
    have HG0 : Hid (Below w.heap.size w wr) := B0.out.trans (HG.out.mono (by omega))
    have cT := (HG.out.cell (p := ⟨w.heap.size, 1, none⟩) z0).trans c01.out
    by_cases hlt : k < n
    · have hltI : (k : Int) < (n : Int) := by omega
      have g0 : (0 : Int) ≤ (k : Int) := by omega
      have HLT : Hid (k < ns.length) := by rw [HP.out]; exact hlt
      obtain ⟨c0, c1, c2, c3, c4, c5, c6, c7⟩ := (HC.out k hlt).below HG0.out hb
      have XN : Hid (BoxE (wr.alloc (.cells #[.bool (eAt ns k).del, .string (eAt ns k).nd.path, .string (eAt ns k).nd.data, .int .i64 (eAt ns k).nd.ver, .int .i64 (eAt ns k).nd.cver, .int .i64 (eAt ns k).nd.cz, .int .i64 (eAt ns k).nd.mz, .int .i64 (eAt ns k).nd.pz] 86)) wr.heap.size (eAt ns k)) := BoxE.new _ _ _
      have BN : Hid (Below wr.heap.size wr (wr.alloc (.cells #[.bool (eAt ns k).del, .string (eAt ns k).nd.path, .string (eAt ns k).nd.data, .int .i64 (eAt ns k).nd.ver, .int .i64 (eAt ns k).nd.cver, .int .i64 (eAt ns k).nd.cz, .int .i64 (eAt ns k).nd.mz, .int .i64 (eAt ns k).nd.pz] 86))) := (Below.refl _ _).alloc (Nat.le_refl _) _
      go_wp2
      clear c0 c1 c2 c3 c4 c5 c6 c7 cT
      generalize wr.alloc (.cells #[.bool (eAt ns k).del, .string (eAt ns k).nd.path, .string (eAt ns k).nd.data, .int .i64 (eAt ns k).nd.ver, .int .i64 (eAt ns k).nd.cver, .int .i64 (eAt ns k).nd.cz, .int .i64 (eAt ns k).nd.mz, .int .i64 (eAt ns k).nd.pz] 86) = wn at *
      have zr := HG.out.size
      obtain ⟨B, hB⟩ : ∃ B, B = wr.heap.size := ⟨_, rfl⟩
      rw [← hB] at XN
      rw [← hB]
      have HBn : Hid (∀ W, Below wn.heap.size wn W → Below w.heap.size w W) := fun W hW => (HG0.out.trans (BN.out.mono HG0.out.size)).trans (hW.mono (Nat.le_trans HG0.out.size BN.out.size))
      have HBz : Hid (∀ W, Below wn.heap.size wn W → Hid (Below w0.heap.size w0 W)) := fun W hW => (HG.out.trans (BN.out.mono HG.out.size)).trans (hW.mono (Nat.le_trans HG.out.size BN.out.size))
      have CT : Hid (∀ W, Below wn.heap.size wn W → W.cell? ⟨w.heap.size, 1, none⟩ = some (.slice (some ⟨b, o, none⟩) n cap)) := fun W hW => ((HBz.out W hW).out.cell (p := ⟨w.heap.size, 1, none⟩) z0).trans c01.out
      have HE : Hid (∀ q, Calls Tryd.prog 63 #[.agg #[.string (eAt ns k).nd.path, .string (eAt ns k).nd.data, .int .i64 (eAt ns k).nd.ver, .int .i64 (eAt ns k).nd.cver, .int .i64 (eAt ns k).nd.cz, .int .i64 (eAt ns k).nd.mz, .int .i64 (eAt ns k).nd.pz]] (wn.drewN q) fun e w' => e = .returned (.bool (okNd (eAt ns k).nd)) ∧ Hid (Below wn.heap.size wn w')) := by
        intro q
        refine (specNode_any _ (eAt ns k).nd (HZ.out k).1 (HZ.out k).2).mono ?_
        rintro e w' ⟨rfl, b'⟩
        exact ⟨rfl, (below_drewN' wn q).trans b'⟩
      have HD : Hid (Below wn.heap.size wn wn.drew) := below_drewN' wn 1
      have HHB : Hid (B = wr.heap.size) := hB
      clear hB BN
      cases hok : okNd (eAt ns k).nd with
      | false =>
        have HOK : Hid (okNd (eAt ns k).nd = false) := hok
        have HN : Hid (okEs ns = false) := es_no HLT.out (by unfold okEAt; rw [okEf_nd hok]; rfl)
        clear hok
        refine wp_region_held_drew (S := fun W => Hid (Below wn.heap.size wn W) ∧ (W.cell? ⟨B, 0, none⟩ = some (.bool (eAt ns k).del) ∧ W.cell? ⟨B, 1, none⟩ = some (.string (eAt ns k).nd.path) ∧ W.cell? ⟨B, 2, none⟩ = some (.string (eAt ns k).nd.data) ∧ W.cell? ⟨B, 3, none⟩ = some (.int .i64 (eAt ns k).nd.ver) ∧ W.cell? ⟨B, 4, none⟩ = some (.int .i64 (eAt ns k).nd.cver) ∧ W.cell? ⟨B, 5, none⟩ = some (.int .i64 (eAt ns k).nd.cz) ∧ W.cell? ⟨B, 6, none⟩ = some (.int .i64 (eAt ns k).nd.mz) ∧ W.cell? ⟨B, 7, none⟩ = some (.int .i64 (eAt ns k).nd.pz))) (by kernel_rfl) (⟨HD, (XN.out.below HD.out).all⟩) (fun hHeld => ?_)
        refine wpAnyH_take (i := 0) (oi := { dst := some 31, op := _, type := _, pos := _, after := _, guard := _ }) (v := ?v53) rfl (by kernel_rfl) (by kernel_rfl) (by kernel_rfl) (fun _ _ _ h => h) (Or.inl ⟨by rfl, ?hy53⟩) (by assumption) ?rest53
        case hy53 =>
          intro w9 hS9
          obtain ⟨-, hS9⟩ := hS9
          go_simp
          try with_reducible rfl
        try simp only [Act.put, List.setIfInBounds_toArray, List.set_cons_zero, List.set_cons_succ]
        refine wpAnyH_take (i := 1) (oi := { dst := some 32, op := _, type := _, pos := _, after := _, guard := _ }) (v := ?v54) rfl (by kernel_rfl) (by kernel_rfl) (by kernel_rfl) (fun _ _ _ h => h) (Or.inl ⟨by rfl, ?hy54⟩) (by assumption) ?rest54
        case hy54 =>
          intro w9 hS9
          obtain ⟨-, hS9⟩ := hS9
          go_simp
          try with_reducible rfl
        try simp only [Act.put, List.setIfInBounds_toArray, List.set_cons_zero, List.set_cons_succ]
        refine wpAnyH_ready (rs := [2]) (by kernel_rfl) (by simp) ?_
        refine AllReadyH.cons (o := { dst := some 33, op := _, type := _, pos := _, after := _, guard := _ }) rfl (fun K hK => ?_) AllReadyH.nil
        go_simp
        refine (HE.out 1).mono ?_
        rintro e w' ⟨rfl, HB⟩
        rw [HOK.out]
        refine hK.out _ _ ((show (fun W => Hid (Below wn.heap.size wn W) ∧ (W.cell? ⟨B, 0, none⟩ = some (.bool (eAt ns k).del) ∧ W.cell? ⟨B, 1, none⟩ = some (.string (eAt ns k).nd.path) ∧ W.cell? ⟨B, 2, none⟩ = some (.string (eAt ns k).nd.data) ∧ W.cell? ⟨B, 3, none⟩ = some (.int .i64 (eAt ns k).nd.ver) ∧ W.cell? ⟨B, 4, none⟩ = some (.int .i64 (eAt ns k).nd.cver) ∧ W.cell? ⟨B, 5, none⟩ = some (.int .i64 (eAt ns k).nd.cz) ∧ W.cell? ⟨B, 6, none⟩ = some (.int .i64 (eAt ns k).nd.mz) ∧ W.cell? ⟨B, 7, none⟩ = some (.int .i64 (eAt ns k).nd.pz))) w' from ⟨HB, (XN.out.below HB.out).all⟩)) (fun hx9 => ?_)
        clear hK K hHeld hx9
        have hHeld := (show (fun W => Hid (Below wn.heap.size wn W) ∧ (W.cell? ⟨B, 0, none⟩ = some (.bool (eAt ns k).del) ∧ W.cell? ⟨B, 1, none⟩ = some (.string (eAt ns k).nd.path) ∧ W.cell? ⟨B, 2, none⟩ = some (.string (eAt ns k).nd.data) ∧ W.cell? ⟨B, 3, none⟩ = some (.int .i64 (eAt ns k).nd.ver) ∧ W.cell? ⟨B, 4, none⟩ = some (.int .i64 (eAt ns k).nd.cver) ∧ W.cell? ⟨B, 5, none⟩ = some (.int .i64 (eAt ns k).nd.cz) ∧ W.cell? ⟨B, 6, none⟩ = some (.int .i64 (eAt ns k).nd.mz) ∧ W.cell? ⟨B, 7, none⟩ = some (.int .i64 (eAt ns k).nd.pz))) w' from ⟨HB, (XN.out.below HB.out).all⟩)
        try simp only [Act.put, List.setIfInBounds_toArray, List.set_cons_zero, List.set_cons_succ]
        refine wpAnyH_take (i := 3) (oi := { dst := some 34, op := _, type := _, pos := _, after := _, guard := _ }) (v := ?v55) rfl (by kernel_rfl) (by kernel_rfl) (by kernel_rfl) (fun _ _ _ h => h) (Or.inl ⟨by rfl, ?hy55⟩) (by assumption) ?rest55
        case hy55 =>
          intro w9 hS9
          obtain ⟨-, hS9⟩ := hS9
          go_simp
          try with_reducible rfl
        try simp only [Act.put, List.setIfInBounds_toArray, List.set_cons_zero, List.set_cons_succ]
        refine wpAnyH_take (i := 4) (oi := { dst := some 35, op := _, type := _, pos := _, after := _, guard := _ }) (v := ?v56) rfl (by kernel_rfl) (by kernel_rfl) (by kernel_rfl) (fun _ _ _ h => h) (Or.inl ⟨by rfl, ?hy56⟩) (by assumption) ?rest56
        case hy56 =>
          intro w9 hS9
          obtain ⟨-, hS9⟩ := hS9
          go_simp
          try with_reducible rfl
        try simp only [Act.put, List.setIfInBounds_toArray, List.set_cons_zero, List.set_cons_succ]
        refine wpAnyH_take (i := 5) (oi := { dst := some 36, op := _, type := _, pos := _, after := _, guard := _ }) (v := undef) rfl (by kernel_rfl) (by kernel_rfl) (by kernel_rfl) (fun _ _ _ h => h) (Or.inr ⟨by rfl, rfl⟩) (by assumption) ?_
        try simp only [Act.put, List.setIfInBounds_toArray, List.set_cons_zero, List.set_cons_succ]
        refine wpAnyH_take (i := 6) (oi := { dst := some 37, op := _, type := _, pos := _, after := _, guard := _ }) (v := undef) rfl (by kernel_rfl) (by kernel_rfl) (by kernel_rfl) (fun _ _ _ h => h) (Or.inr ⟨by rfl, rfl⟩) (by assumption) ?_
        try simp only [Act.put, List.setIfInBounds_toArray, List.set_cons_zero, List.set_cons_succ]
        refine wpAnyH_take (i := 7) (oi := { dst := some 38, op := _, type := _, pos := _, after := _, guard := _ }) (v := undef) rfl (by kernel_rfl) (by kernel_rfl) (by kernel_rfl) (fun _ _ _ h => h) (Or.inr ⟨by rfl, rfl⟩) (by assumption) ?_
        try simp only [Act.put, List.setIfInBounds_toArray, List.set_cons_zero, List.set_cons_succ]
        refine wpAnyH_take (i := 8) (oi := { dst := some 39, op := _, type := _, pos := _, after := _, guard := _ }) (v := undef) rfl (by kernel_rfl) (by kernel_rfl) (by kernel_rfl) (fun _ _ _ h => h) (Or.inr ⟨by rfl, rfl⟩) (by assumption) ?_
        try simp only [Act.put, List.setIfInBounds_toArray, List.set_cons_zero, List.set_cons_succ]
        refine wpAnyH_take (i := 9) (oi := { dst := some 40, op := _, type := _, pos := _, after := _, guard := _ }) (v := undef) rfl (by kernel_rfl) (by kernel_rfl) (by kernel_rfl) (fun _ _ _ h => h) (Or.inr ⟨by rfl, rfl⟩) (by assumption) ?_
        try simp only [Act.put, List.setIfInBounds_toArray, List.set_cons_zero, List.set_cons_succ]
        refine wpAnyH_take (i := 10) (oi := { dst := some 41, op := _, type := _, pos := _, after := _, guard := _ }) (v := undef) rfl (by kernel_rfl) (by kernel_rfl) (by kernel_rfl) (fun _ _ _ h => h) (Or.inr ⟨by rfl, rfl⟩) (by assumption) ?_
        try simp only [Act.put, List.setIfInBounds_toArray, List.set_cons_zero, List.set_cons_succ]
        refine wpAnyH_take (i := 11) (oi := { dst := some 42, op := _, type := _, pos := _, after := _, guard := _ }) (v := undef) rfl (by kernel_rfl) (by kernel_rfl) (by kernel_rfl) (fun _ _ _ h => h) (Or.inr ⟨by rfl, rfl⟩) (by assumption) ?_
        try simp only [Act.put, List.setIfInBounds_toArray, List.set_cons_zero, List.set_cons_succ]
        refine wpAnyH_take (i := 12) (oi := { dst := some 43, op := _, type := _, pos := _, after := _, guard := _ }) (v := undef) rfl (by kernel_rfl) (by kernel_rfl) (by kernel_rfl) (fun _ _ _ h => h) (Or.inr ⟨by rfl, rfl⟩) (by assumption) ?_
        try simp only [Act.put, List.setIfInBounds_toArray, List.set_cons_zero, List.set_cons_succ]
        refine wpAnyH_take (i := 13) (oi := { dst := some 44, op := _, type := _, pos := _, after := _, guard := _ }) (v := undef) rfl (by kernel_rfl) (by kernel_rfl) (by kernel_rfl) (fun _ _ _ h => h) (Or.inr ⟨by rfl, rfl⟩) (by assumption) ?_
        try simp only [Act.put, List.setIfInBounds_toArray, List.set_cons_zero, List.set_cons_succ]
        refine wpAnyH_take (i := 14) (oi := { dst := some 45, op := _, type := _, pos := _, after := _, guard := _ }) (v := undef) rfl (by kernel_rfl) (by kernel_rfl) (by kernel_rfl) (fun _ _ _ h => h) (Or.inr ⟨by rfl, rfl⟩) (by assumption) ?_
        try simp only [Act.put, List.setIfInBounds_toArray, List.set_cons_zero, List.set_cons_succ]
        refine wpAnyH_take (i := 15) (oi := { dst := some 46, op := _, type := _, pos := _, after := _, guard := _ }) (v := undef) rfl (by kernel_rfl) (by kernel_rfl) (by kernel_rfl) (fun _ _ _ h => h) (Or.inr ⟨by rfl, rfl⟩) (by assumption) ?_
        try simp only [Act.put, List.setIfInBounds_toArray, List.set_cons_zero, List.set_cons_succ]
        refine wpAnyH_take (i := 16) (oi := { dst := some 47, op := _, type := _, pos := _, after := _, guard := _ }) (v := undef) rfl (by kernel_rfl) (by kernel_rfl) (by kernel_rfl) (fun _ _ _ h => h) (Or.inr ⟨by rfl, rfl⟩) (by assumption) ?_
        try simp only [Act.put, List.setIfInBounds_toArray, List.set_cons_zero, List.set_cons_succ]
        refine wpAnyH_take (i := 17) (oi := { dst := some 48, op := _, type := _, pos := _, after := _, guard := _ }) (v := undef) rfl (by kernel_rfl) (by kernel_rfl) (by kernel_rfl) (fun _ _ _ h => h) (Or.inr ⟨by rfl, rfl⟩) (by assumption) ?_
        try simp only [Act.put, List.setIfInBounds_toArray, List.set_cons_zero, List.set_cons_succ]
        refine wpAnyH_take (i := 18) (oi := { dst := some 49, op := _, type := _, pos := _, after := _, guard := _ }) (v := undef) rfl (by kernel_rfl) (by kernel_rfl) (by kernel_rfl) (fun _ _ _ h => h) (Or.inr ⟨by rfl, rfl⟩) (by assumption) ?_
        try simp only [Act.put, List.setIfInBounds_toArray, List.set_cons_zero, List.set_cons_succ]
        refine wpAnyH_take (i := 19) (oi := { dst := some 50, op := _, type := _, pos := _, after := _, guard := _ }) (v := undef) rfl (by kernel_rfl) (by kernel_rfl) (by kernel_rfl) (fun _ _ _ h => h) (Or.inr ⟨by rfl, rfl⟩) (by assumption) ?_
        try simp only [Act.put, List.setIfInBounds_toArray, List.set_cons_zero, List.set_cons_succ]
        refine wpAnyH_take (i := 20) (oi := { dst := some 51, op := _, type := _, pos := _, after := _, guard := _ }) (v := undef) rfl (by kernel_rfl) (by kernel_rfl) (by kernel_rfl) (fun _ _ _ h => h) (Or.inr ⟨by rfl, rfl⟩) (by assumption) ?_
        try simp only [Act.put, List.setIfInBounds_toArray, List.set_cons_zero, List.set_cons_succ]
        refine wpAnyH_take (i := 21) (oi := { dst := some 52, op := _, type := _, pos := _, after := _, guard := _ }) (v := ?v57) rfl (by kernel_rfl) (by kernel_rfl) (by kernel_rfl) (fun _ _ _ h => h) (Or.inl ⟨by rfl, ?hy57⟩) (by assumption) ?rest57
        case hy57 =>
          intro w9 hS9
          obtain ⟨-, hS9⟩ := hS9
          go_simp
          try with_reducible rfl
        try simp only [Act.put, List.setIfInBounds_toArray, List.set_cons_zero, List.set_cons_succ]
        refine wpAnyH_done (by kernel_rfl) ?_ _
        clear hHeld
        go_wp2
        go_ret
        exact ⟨ret_b HN.out.symm, HBn.out _ HB.out⟩
      | true =>
        have HOK : Hid (okNd (eAt ns k).nd = true) := hok
        clear hok
        cases k with
        | zero =>
          have g2 : (0 : Int) < (n : Int) := by omega
          refine wp_region_held_drew (S := fun W => Hid (Below wn.heap.size wn W) ∧ (W.cell? ⟨B, 0, none⟩ = some (.bool (eAt ns 0).del) ∧ W.cell? ⟨B, 1, none⟩ = some (.string (eAt ns 0).nd.path) ∧ W.cell? ⟨B, 2, none⟩ = some (.string (eAt ns 0).nd.data) ∧ W.cell? ⟨B, 3, none⟩ = some (.int .i64 (eAt ns 0).nd.ver) ∧ W.cell? ⟨B, 4, none⟩ = some (.int .i64 (eAt ns 0).nd.cver) ∧ W.cell? ⟨B, 5, none⟩ = some (.int .i64 (eAt ns 0).nd.cz) ∧ W.cell? ⟨B, 6, none⟩ = some (.int .i64 (eAt ns 0).nd.mz) ∧ W.cell? ⟨B, 7, none⟩ = some (.int .i64 (eAt ns 0).nd.pz))) (by kernel_rfl) (⟨HD, (XN.out.below HD.out).all⟩) (fun hHeld => ?_)
          refine wpAnyH_take (i := 0) (oi := { dst := some 31, op := _, type := _, pos := _, after := _, guard := _ }) (v := ?v58) rfl (by kernel_rfl) (by kernel_rfl) (by kernel_rfl) (fun _ _ _ h => h) (Or.inl ⟨by rfl, ?hy58⟩) (by assumption) ?rest58
          case hy58 =>
            intro w9 hS9
            obtain ⟨-, hS9⟩ := hS9
            go_simp
            try with_reducible rfl
          try simp only [Act.put, List.setIfInBounds_toArray, List.set_cons_zero, List.set_cons_succ]
          refine wpAnyH_take (i := 1) (oi := { dst := some 32, op := _, type := _, pos := _, after := _, guard := _ }) (v := ?v59) rfl (by kernel_rfl) (by kernel_rfl) (by kernel_rfl) (fun _ _ _ h => h) (Or.inl ⟨by rfl, ?hy59⟩) (by assumption) ?rest59
          case hy59 =>
            intro w9 hS9
            obtain ⟨-, hS9⟩ := hS9
            go_simp
            try with_reducible rfl
          try simp only [Act.put, List.setIfInBounds_toArray, List.set_cons_zero, List.set_cons_succ]
          refine wpAnyH_ready (rs := [2]) (by kernel_rfl) (by simp) ?_
          refine AllReadyH.cons (o := { dst := some 33, op := _, type := _, pos := _, after := _, guard := _ }) rfl (fun K hK => ?_) AllReadyH.nil
          go_simp
          refine (HE.out 1).mono ?_
          rintro e w' ⟨rfl, HB⟩
          rw [HOK.out]
          refine hK.out _ _ ((show (fun W => Hid (Below wn.heap.size wn W) ∧ (W.cell? ⟨B, 0, none⟩ = some (.bool (eAt ns 0).del) ∧ W.cell? ⟨B, 1, none⟩ = some (.string (eAt ns 0).nd.path) ∧ W.cell? ⟨B, 2, none⟩ = some (.string (eAt ns 0).nd.data) ∧ W.cell? ⟨B, 3, none⟩ = some (.int .i64 (eAt ns 0).nd.ver) ∧ W.cell? ⟨B, 4, none⟩ = some (.int .i64 (eAt ns 0).nd.cver) ∧ W.cell? ⟨B, 5, none⟩ = some (.int .i64 (eAt ns 0).nd.cz) ∧ W.cell? ⟨B, 6, none⟩ = some (.int .i64 (eAt ns 0).nd.mz) ∧ W.cell? ⟨B, 7, none⟩ = some (.int .i64 (eAt ns 0).nd.pz))) w' from ⟨HB, (XN.out.below HB.out).all⟩)) (fun hx9 => ?_)
          clear hK K hHeld hx9
          have hHeld := (show (fun W => Hid (Below wn.heap.size wn W) ∧ (W.cell? ⟨B, 0, none⟩ = some (.bool (eAt ns 0).del) ∧ W.cell? ⟨B, 1, none⟩ = some (.string (eAt ns 0).nd.path) ∧ W.cell? ⟨B, 2, none⟩ = some (.string (eAt ns 0).nd.data) ∧ W.cell? ⟨B, 3, none⟩ = some (.int .i64 (eAt ns 0).nd.ver) ∧ W.cell? ⟨B, 4, none⟩ = some (.int .i64 (eAt ns 0).nd.cver) ∧ W.cell? ⟨B, 5, none⟩ = some (.int .i64 (eAt ns 0).nd.cz) ∧ W.cell? ⟨B, 6, none⟩ = some (.int .i64 (eAt ns 0).nd.mz) ∧ W.cell? ⟨B, 7, none⟩ = some (.int .i64 (eAt ns 0).nd.pz))) w' from ⟨HB, (XN.out.below HB.out).all⟩)
          try simp only [Act.put, List.setIfInBounds_toArray, List.set_cons_zero, List.set_cons_succ]
          refine wpAnyH_take (i := 3) (oi := { dst := some 34, op := _, type := _, pos := _, after := _, guard := _ }) (v := ?v60) rfl (by kernel_rfl) (by kernel_rfl) (by kernel_rfl) (fun _ _ _ h => h) (Or.inl ⟨by rfl, ?hy60⟩) (by assumption) ?rest60
          case hy60 =>
            intro w9 hS9
            obtain ⟨-, hS9⟩ := hS9
            go_simp
            try with_reducible rfl
          try simp only [Act.put, List.setIfInBounds_toArray, List.set_cons_zero, List.set_cons_succ]
          refine wpAnyH_take (i := 4) (oi := { dst := some 35, op := _, type := _, pos := _, after := _, guard := _ }) (v := ?v61) rfl (by kernel_rfl) (by kernel_rfl) (by kernel_rfl) (fun _ _ _ h => h) (Or.inl ⟨by rfl, ?hy61⟩) (by assumption) ?rest61
          case hy61 =>
            intro w9 hS9
            obtain ⟨-, hS9⟩ := hS9
            go_simp
            try with_reducible rfl
          try simp only [Act.put, List.setIfInBounds_toArray, List.set_cons_zero, List.set_cons_succ]
          refine wpAnyH_take (i := 5) (oi := { dst := some 36, op := _, type := _, pos := _, after := _, guard := _ }) (v := ?v62) rfl (by kernel_rfl) (by kernel_rfl) (by kernel_rfl) (fun _ _ _ h => h) (Or.inl ⟨by rfl, ?hy62⟩) (by assumption) ?rest62
          case hy62 =>
            intro w9 hS9
            obtain ⟨-, hS9⟩ := hS9
            go_simp
            try with_reducible rfl
          try simp only [Act.put, List.setIfInBounds_toArray, List.set_cons_zero, List.set_cons_succ]
          refine wpAnyH_take (i := 6) (oi := { dst := some 37, op := _, type := _, pos := _, after := _, guard := _ }) (v := ?v63) rfl (by kernel_rfl) (by kernel_rfl) (by kernel_rfl) (fun _ _ _ h => h) (Or.inl ⟨by rfl, ?hy63⟩) (by assumption) ?rest63
          case hy63 =>
            intro w9 hS9
            obtain ⟨-, hS9⟩ := hS9
            go_simp
            try with_reducible rfl
          try simp only [Act.put, List.setIfInBounds_toArray, List.set_cons_zero, List.set_cons_succ]
          refine wpAnyH_take (i := 7) (oi := { dst := some 38, op := _, type := _, pos := _, after := _, guard := _ }) (v := ?v64) rfl (by kernel_rfl) (by kernel_rfl) (by kernel_rfl) (fun _ _ _ h => h) (Or.inl ⟨by rfl, ?hy64⟩) (by assumption) ?rest64
          case hy64 =>
            intro w9 hS9
            obtain ⟨-, hS9⟩ := hS9
            go_simp
            try with_reducible rfl
          try simp only [Act.put, List.setIfInBounds_toArray, List.set_cons_zero, List.set_cons_succ]
          refine wpAnyH_take (i := 8) (oi := { dst := some 39, op := _, type := _, pos := _, after := _, guard := _ }) (v := undef) rfl (by kernel_rfl) (by kernel_rfl) (by kernel_rfl) (fun _ _ _ h => h) (Or.inr ⟨by rfl, rfl⟩) (by assumption) ?_
          try simp only [Act.put, List.setIfInBounds_toArray, List.set_cons_zero, List.set_cons_succ]
          refine wpAnyH_take (i := 9) (oi := { dst := some 40, op := _, type := _, pos := _, after := _, guard := _ }) (v := undef) rfl (by kernel_rfl) (by kernel_rfl) (by kernel_rfl) (fun _ _ _ h => h) (Or.inr ⟨by rfl, rfl⟩) (by assumption) ?_
          try simp only [Act.put, List.setIfInBounds_toArray, List.set_cons_zero, List.set_cons_succ]
          refine wpAnyH_take (i := 10) (oi := { dst := some 41, op := _, type := _, pos := _, after := _, guard := _ }) (v := undef) rfl (by kernel_rfl) (by kernel_rfl) (by kernel_rfl) (fun _ _ _ h => h) (Or.inr ⟨by rfl, rfl⟩) (by assumption) ?_
          try simp only [Act.put, List.setIfInBounds_toArray, List.set_cons_zero, List.set_cons_succ]
          refine wpAnyH_take (i := 11) (oi := { dst := some 42, op := _, type := _, pos := _, after := _, guard := _ }) (v := undef) rfl (by kernel_rfl) (by kernel_rfl) (by kernel_rfl) (fun _ _ _ h => h) (Or.inr ⟨by rfl, rfl⟩) (by assumption) ?_
          try simp only [Act.put, List.setIfInBounds_toArray, List.set_cons_zero, List.set_cons_succ]
          refine wpAnyH_take (i := 12) (oi := { dst := some 43, op := _, type := _, pos := _, after := _, guard := _ }) (v := undef) rfl (by kernel_rfl) (by kernel_rfl) (by kernel_rfl) (fun _ _ _ h => h) (Or.inr ⟨by rfl, rfl⟩) (by assumption) ?_
          try simp only [Act.put, List.setIfInBounds_toArray, List.set_cons_zero, List.set_cons_succ]
          refine wpAnyH_take (i := 13) (oi := { dst := some 44, op := _, type := _, pos := _, after := _, guard := _ }) (v := undef) rfl (by kernel_rfl) (by kernel_rfl) (by kernel_rfl) (fun _ _ _ h => h) (Or.inr ⟨by rfl, rfl⟩) (by assumption) ?_
          try simp only [Act.put, List.setIfInBounds_toArray, List.set_cons_zero, List.set_cons_succ]
          refine wpAnyH_take (i := 14) (oi := { dst := some 45, op := _, type := _, pos := _, after := _, guard := _ }) (v := undef) rfl (by kernel_rfl) (by kernel_rfl) (by kernel_rfl) (fun _ _ _ h => h) (Or.inr ⟨by rfl, rfl⟩) (by assumption) ?_
          try simp only [Act.put, List.setIfInBounds_toArray, List.set_cons_zero, List.set_cons_succ]
          refine wpAnyH_take (i := 15) (oi := { dst := some 46, op := _, type := _, pos := _, after := _, guard := _ }) (v := undef) rfl (by kernel_rfl) (by kernel_rfl) (by kernel_rfl) (fun _ _ _ h => h) (Or.inr ⟨by rfl, rfl⟩) (by assumption) ?_
          try simp only [Act.put, List.setIfInBounds_toArray, List.set_cons_zero, List.set_cons_succ]
          refine wpAnyH_take (i := 16) (oi := { dst := some 47, op := _, type := _, pos := _, after := _, guard := _ }) (v := undef) rfl (by kernel_rfl) (by kernel_rfl) (by kernel_rfl) (fun _ _ _ h => h) (Or.inr ⟨by rfl, rfl⟩) (by assumption) ?_
          try simp only [Act.put, List.setIfInBounds_toArray, List.set_cons_zero, List.set_cons_succ]
          refine wpAnyH_take (i := 17) (oi := { dst := some 48, op := _, type := _, pos := _, after := _, guard := _ }) (v := undef) rfl (by kernel_rfl) (by kernel_rfl) (by kernel_rfl) (fun _ _ _ h => h) (Or.inr ⟨by rfl, rfl⟩) (by assumption) ?_
          try simp only [Act.put, List.setIfInBounds_toArray, List.set_cons_zero, List.set_cons_succ]
          refine wpAnyH_take (i := 18) (oi := { dst := some 49, op := _, type := _, pos := _, after := _, guard := _ }) (v := undef) rfl (by kernel_rfl) (by kernel_rfl) (by kernel_rfl) (fun _ _ _ h => h) (Or.inr ⟨by rfl, rfl⟩) (by assumption) ?_
          try simp only [Act.put, List.setIfInBounds_toArray, List.set_cons_zero, List.set_cons_succ]
          refine wpAnyH_take (i := 19) (oi := { dst := some 50, op := _, type := _, pos := _, after := _, guard := _ }) (v := undef) rfl (by kernel_rfl) (by kernel_rfl) (by kernel_rfl) (fun _ _ _ h => h) (Or.inr ⟨by rfl, rfl⟩) (by assumption) ?_
          try simp only [Act.put, List.setIfInBounds_toArray, List.set_cons_zero, List.set_cons_succ]
          refine wpAnyH_take (i := 20) (oi := { dst := some 51, op := _, type := _, pos := _, after := _, guard := _ }) (v := ?v65) rfl (by kernel_rfl) (by kernel_rfl) (by kernel_rfl) (fun _ _ _ h => h) (Or.inl ⟨by rfl, ?hy65⟩) (by assumption) ?rest65
          case hy65 =>
            intro w9 hS9
            obtain ⟨-, hS9⟩ := hS9
            go_simp
            try with_reducible rfl
          try simp only [Act.put, List.setIfInBounds_toArray, List.set_cons_zero, List.set_cons_succ]
          refine wpAnyH_take (i := 21) (oi := { dst := some 52, op := _, type := _, pos := _, after := _, guard := _ }) (v := ?v66) rfl (by kernel_rfl) (by kernel_rfl) (by kernel_rfl) (fun _ _ _ h => h) (Or.inl ⟨by rfl, ?hy66⟩) (by assumption) ?rest66
          case hy66 =>
            intro w9 hS9
            obtain ⟨-, hS9⟩ := hS9
            go_simp
            try with_reducible rfl
          try simp only [Act.put, List.setIfInBounds_toArray, List.set_cons_zero, List.set_cons_succ]
          refine wpAnyH_done (by kernel_rfl) ?_ _
          clear hHeld
          obtain ⟨-, b0, b1, b2, b3, b4, b5, b6, b7⟩ := XN.out.below HB.out
          cases hdel : (eAt ns 0).del with
          | false =>
            have HT : Hid (okEAt ns 0 = true) := by show _ = _; rw [okEAt_zero, okEf_false hdel, HOK.out]
            rw [hdel] at b0
            clear hdel
            go_wp2
            go_roundw
            case rel => exact ⟨0 + 1, by omega, by go_num, (fun t ht => by by_cases e : t = 0; (subst e; exact HT.out); exact HA.out t (by omega)), HBz.out _ HB.out⟩
            case measure => simp [intOf]; omega
          | true =>
            have HEF : Hid (okEf (eAt ns 0) = (okNd (eAt ns 0).nd && blank (eAt ns 0).nd)) := okEf_true hdel
            rw [hdel] at b0
            clear hdel
            have hpp : ((eAt ns 0).nd.path.toList == (eAt ns 0).nd.path.toList) = true := by simp
            cases h_dat : ((eAt ns 0).nd.data.toList == []) with
            | false =>
              have HN : Hid (okEs ns = false) := es_no HLT.out (by rw [okEAt_zero, HEF.out]; unfold blank; rw [h_dat]; simp)
              go_wp2
              go_ret
              exact ⟨ret_b HN.out.symm, HBn.out _ HB.out⟩
            | true =>
              cases h_ver : ((eAt ns 0).nd.ver == 0) with
              | false =>
                have HN : Hid (okEs ns = false) := es_no HLT.out (by rw [okEAt_zero, HEF.out]; unfold blank; rw [h_ver]; simp)
                go_wp2
                go_ret
                exact ⟨ret_b HN.out.symm, HBn.out _ HB.out⟩
              | true =>
                cases h_cver : ((eAt ns 0).nd.cver == 0) with
                | false =>
                  have HN : Hid (okEs ns = false) := es_no HLT.out (by rw [okEAt_zero, HEF.out]; unfold blank; rw [h_cver]; simp)
                  go_wp2
                  go_ret
                  exact ⟨ret_b HN.out.symm, HBn.out _ HB.out⟩
                | true =>
                  cases h_cz : ((eAt ns 0).nd.cz == 0) with
                  | false =>
                    have HN : Hid (okEs ns = false) := es_no HLT.out (by rw [okEAt_zero, HEF.out]; unfold blank; rw [h_cz]; simp)
                    go_wp2
                    go_ret
                    exact ⟨ret_b HN.out.symm, HBn.out _ HB.out⟩
                  | true =>
                    cases h_mz : ((eAt ns 0).nd.mz == 0) with
                    | false =>
                      have HN : Hid (okEs ns = false) := es_no HLT.out (by rw [okEAt_zero, HEF.out]; unfold blank; rw [h_mz]; simp)
                      go_wp2
                      go_ret
                      exact ⟨ret_b HN.out.symm, HBn.out _ HB.out⟩
                    | true =>
                      cases h_pz : ((eAt ns 0).nd.pz == 0) with
                      | false =>
                        have HN : Hid (okEs ns = false) := es_no HLT.out (by rw [okEAt_zero, HEF.out]; unfold blank; rw [h_pz]; simp)
                        go_wp2
                        go_ret
                        exact ⟨ret_b HN.out.symm, HBn.out _ HB.out⟩
                      | true =>
                        have HT : Hid (okEAt ns 0 = true) := by show _ = _; rw [okEAt_zero, HEF.out, HOK.out]; unfold blank; rw [h_dat, h_ver, h_cver, h_cz, h_mz, h_pz]; rfl
                        go_wp2
                        go_roundw
                        case rel => exact ⟨0 + 1, by omega, by go_num, (fun t ht => by by_cases e : t = 0; (subst e; exact HT.out); exact HA.out t (by omega)), HBz.out _ HB.out⟩
                        case measure => simp [intOf]; omega
        | succ j =>
          have g1 : (0 : Int) ≤ (j : Int) + 1 := by omega
          have g2 : (j : Int) + 1 < (n : Int) := by omega
          have g3 : (0 : Int) ≤ (j : Int) := by omega
          have g4 : (j : Int) < (n : Int) := by omega
          have g5 : (0 : Int) < (j : Int) + 1 := by omega
          have g6 : IntKind.i64.wrap (j : Int) = (j : Int) := by rw [IntKind.wrap_i64]; omega
          cases hcmp : ltP (eAt ns j).nd.path (eAt ns (j + 1)).nd.path with
          | true =>
            obtain ⟨l1, l2⟩ := ltP_yes hcmp
            have HLP : Hid (ltP (eAt ns j).nd.path (eAt ns (j + 1)).nd.path = true) := hcmp
            clear hcmp
            refine wp_region_held_drew (S := fun W => Hid (Below wn.heap.size wn W) ∧ (W.cell? ⟨B, 0, none⟩ = some (.bool (eAt ns (j + 1)).del) ∧ W.cell? ⟨B, 1, none⟩ = some (.string (eAt ns (j + 1)).nd.path) ∧ W.cell? ⟨B, 2, none⟩ = some (.string (eAt ns (j + 1)).nd.data) ∧ W.cell? ⟨B, 3, none⟩ = some (.int .i64 (eAt ns (j + 1)).nd.ver) ∧ W.cell? ⟨B, 4, none⟩ = some (.int .i64 (eAt ns (j + 1)).nd.cver) ∧ W.cell? ⟨B, 5, none⟩ = some (.int .i64 (eAt ns (j + 1)).nd.cz) ∧ W.cell? ⟨B, 6, none⟩ = some (.int .i64 (eAt ns (j + 1)).nd.mz) ∧ W.cell? ⟨B, 7, none⟩ = some (.int .i64 (eAt ns (j + 1)).nd.pz)) ∧ W.cell? ⟨w.heap.size, 1, none⟩ = some (.slice (some ⟨b, o, none⟩) n cap) ∧ W.cell? ⟨b, o + j * 8 + 1, none⟩ = some (.string (eAt ns j).nd.path)) (by kernel_rfl) (⟨HD, (XN.out.below HD.out).all, (CT.out _ HD.out), ((HC.out j (by omega)).below (HBn.out _ HD.out) hb).c1⟩) (fun hHeld => ?_)
            refine wpAnyH_take (i := 0) (oi := { dst := some 31, op := _, type := _, pos := _, after := _, guard := _ }) (v := ?v67) rfl (by kernel_rfl) (by kernel_rfl) (by kernel_rfl) (fun _ _ _ h => h) (Or.inl ⟨by rfl, ?hy67⟩) (by assumption) ?rest67
            case hy67 =>
              intro w9 hS9
              obtain ⟨-, hS9⟩ := hS9
              go_simp
              try with_reducible rfl
            try simp only [Act.put, List.setIfInBounds_toArray, List.set_cons_zero, List.set_cons_succ]
            refine wpAnyH_take (i := 1) (oi := { dst := some 32, op := _, type := _, pos := _, after := _, guard := _ }) (v := ?v68) rfl (by kernel_rfl) (by kernel_rfl) (by kernel_rfl) (fun _ _ _ h => h) (Or.inl ⟨by rfl, ?hy68⟩) (by assumption) ?rest68
            case hy68 =>
              intro w9 hS9
              obtain ⟨-, hS9⟩ := hS9
              go_simp
              try with_reducible rfl
            try simp only [Act.put, List.setIfInBounds_toArray, List.set_cons_zero, List.set_cons_succ]
            refine wpAnyH_ready (rs := [2]) (by kernel_rfl) (by simp) ?_
            refine AllReadyH.cons (o := { dst := some 33, op := _, type := _, pos := _, after := _, guard := _ }) rfl (fun K hK => ?_) AllReadyH.nil
            go_simp
            refine (HE.out 1).mono ?_
            rintro e w' ⟨rfl, HB⟩
            rw [HOK.out]
            refine hK.out _ _ ((show (fun W => Hid (Below wn.heap.size wn W) ∧ (W.cell? ⟨B, 0, none⟩ = some (.bool (eAt ns (j + 1)).del) ∧ W.cell? ⟨B, 1, none⟩ = some (.string (eAt ns (j + 1)).nd.path) ∧ W.cell? ⟨B, 2, none⟩ = some (.string (eAt ns (j + 1)).nd.data) ∧ W.cell? ⟨B, 3, none⟩ = some (.int .i64 (eAt ns (j + 1)).nd.ver) ∧ W.cell? ⟨B, 4, none⟩ = some (.int .i64 (eAt ns (j + 1)).nd.cver) ∧ W.cell? ⟨B, 5, none⟩ = some (.int .i64 (eAt ns (j + 1)).nd.cz) ∧ W.cell? ⟨B, 6, none⟩ = some (.int .i64 (eAt ns (j + 1)).nd.mz) ∧ W.cell? ⟨B, 7, none⟩ = some (.int .i64 (eAt ns (j + 1)).nd.pz)) ∧ W.cell? ⟨w.heap.size, 1, none⟩ = some (.slice (some ⟨b, o, none⟩) n cap) ∧ W.cell? ⟨b, o + j * 8 + 1, none⟩ = some (.string (eAt ns j).nd.path)) w' from ⟨HB, (XN.out.below HB.out).all, (CT.out _ HB.out), ((HC.out j (by omega)).below (HBn.out _ HB.out) hb).c1⟩)) (fun hx9 => ?_)
            clear hK K hHeld hx9
            have hHeld := (show (fun W => Hid (Below wn.heap.size wn W) ∧ (W.cell? ⟨B, 0, none⟩ = some (.bool (eAt ns (j + 1)).del) ∧ W.cell? ⟨B, 1, none⟩ = some (.string (eAt ns (j + 1)).nd.path) ∧ W.cell? ⟨B, 2, none⟩ = some (.string (eAt ns (j + 1)).nd.data) ∧ W.cell? ⟨B, 3, none⟩ = some (.int .i64 (eAt ns (j + 1)).nd.ver) ∧ W.cell? ⟨B, 4, none⟩ = some (.int .i64 (eAt ns (j + 1)).nd.cver) ∧ W.cell? ⟨B, 5, none⟩ = some (.int .i64 (eAt ns (j + 1)).nd.cz) ∧ W.cell? ⟨B, 6, none⟩ = some (.int .i64 (eAt ns (j + 1)).nd.mz) ∧ W.cell? ⟨B, 7, none⟩ = some (.int .i64 (eAt ns (j + 1)).nd.pz)) ∧ W.cell? ⟨w.heap.size, 1, none⟩ = some (.slice (some ⟨b, o, none⟩) n cap) ∧ W.cell? ⟨b, o + j * 8 + 1, none⟩ = some (.string (eAt ns j).nd.path)) w' from ⟨HB, (XN.out.below HB.out).all, (CT.out _ HB.out), ((HC.out j (by omega)).below (HBn.out _ HB.out) hb).c1⟩)
            try simp only [Act.put, List.setIfInBounds_toArray, List.set_cons_zero, List.set_cons_succ]
            refine wpAnyH_take (i := 3) (oi := { dst := some 34, op := _, type := _, pos := _, after := _, guard := _ }) (v := ?v69) rfl (by kernel_rfl) (by kernel_rfl) (by kernel_rfl) (fun _ _ _ h => h) (Or.inl ⟨by rfl, ?hy69⟩) (by assumption) ?rest69
            case hy69 =>
              intro w9 hS9
              obtain ⟨-, hS9⟩ := hS9
              go_simp
              try with_reducible rfl
            try simp only [Act.put, List.setIfInBounds_toArray, List.set_cons_zero, List.set_cons_succ]
            refine wpAnyH_take (i := 4) (oi := { dst := some 35, op := _, type := _, pos := _, after := _, guard := _ }) (v := ?v70) rfl (by kernel_rfl) (by kernel_rfl) (by kernel_rfl) (fun _ _ _ h => h) (Or.inl ⟨by rfl, ?hy70⟩) (by assumption) ?rest70
            case hy70 =>
              intro w9 hS9
              obtain ⟨-, hS9⟩ := hS9
              go_simp
              try with_reducible rfl
            try simp only [Act.put, List.setIfInBounds_toArray, List.set_cons_zero, List.set_cons_succ]
            refine wpAnyH_take (i := 5) (oi := { dst := some 36, op := _, type := _, pos := _, after := _, guard := _ }) (v := ?v71) rfl (by kernel_rfl) (by kernel_rfl) (by kernel_rfl) (fun _ _ _ h => h) (Or.inl ⟨by rfl, ?hy71⟩) (by assumption) ?rest71
            case hy71 =>
              intro w9 hS9
              obtain ⟨-, hS9⟩ := hS9
              go_simp
              try with_reducible rfl
            try simp only [Act.put, List.setIfInBounds_toArray, List.set_cons_zero, List.set_cons_succ]
            refine wpAnyH_take (i := 6) (oi := { dst := some 37, op := _, type := _, pos := _, after := _, guard := _ }) (v := ?v72) rfl (by kernel_rfl) (by kernel_rfl) (by kernel_rfl) (fun _ _ _ h => h) (Or.inl ⟨by rfl, ?hy72⟩) (by assumption) ?rest72
            case hy72 =>
              intro w9 hS9
              obtain ⟨-, hS9⟩ := hS9
              go_simp
              try with_reducible rfl
            try simp only [Act.put, List.setIfInBounds_toArray, List.set_cons_zero, List.set_cons_succ]
            refine wpAnyH_take (i := 7) (oi := { dst := some 38, op := _, type := _, pos := _, after := _, guard := _ }) (v := ?v73) rfl (by kernel_rfl) (by kernel_rfl) (by kernel_rfl) (fun _ _ _ h => h) (Or.inl ⟨by rfl, ?hy73⟩) (by assumption) ?rest73
            case hy73 =>
              intro w9 hS9
              obtain ⟨-, hS9⟩ := hS9
              go_simp
              try with_reducible rfl
            try simp only [Act.put, List.setIfInBounds_toArray, List.set_cons_zero, List.set_cons_succ]
            refine wpAnyH_take (i := 8) (oi := { dst := some 39, op := _, type := _, pos := _, after := _, guard := _ }) (v := ?v74) rfl (by kernel_rfl) (by kernel_rfl) (by kernel_rfl) (fun _ _ _ h => h) (Or.inl ⟨by rfl, ?hy74⟩) (by assumption) ?rest74
            case hy74 =>
              intro w9 hS9
              obtain ⟨-, hS9⟩ := hS9
              go_simp
              try with_reducible rfl
            try simp only [Act.put, List.setIfInBounds_toArray, List.set_cons_zero, List.set_cons_succ]
            refine wpAnyH_take (i := 9) (oi := { dst := some 40, op := _, type := _, pos := _, after := _, guard := _ }) (v := ?v75) rfl (by kernel_rfl) (by kernel_rfl) (by kernel_rfl) (fun _ _ _ h => h) (Or.inl ⟨by rfl, ?hy75⟩) (by assumption) ?rest75
            case hy75 =>
              intro w9 hS9
              obtain ⟨-, hS9⟩ := hS9
              go_simp
              try with_reducible rfl
            try simp only [Act.put, List.setIfInBounds_toArray, List.set_cons_zero, List.set_cons_succ]
            refine wpAnyH_take (i := 10) (oi := { dst := some 41, op := _, type := _, pos := _, after := _, guard := _ }) (v := ?v76) rfl (by kernel_rfl) (by kernel_rfl) (by kernel_rfl) (fun _ _ _ h => h) (Or.inl ⟨by rfl, ?hy76⟩) (by assumption) ?rest76
            case hy76 =>
              intro w9 hS9
              obtain ⟨-, hS9⟩ := hS9
              go_simp
              try with_reducible rfl
            try simp only [Act.put, List.setIfInBounds_toArray, List.set_cons_zero, List.set_cons_succ]
            refine wpAnyH_take (i := 11) (oi := { dst := some 42, op := _, type := _, pos := _, after := _, guard := _ }) (v := ?v77) rfl (by kernel_rfl) (by kernel_rfl) (by kernel_rfl) (fun _ _ _ h => h) (Or.inl ⟨by rfl, ?hy77⟩) (by assumption) ?rest77
            case hy77 =>
              intro w9 hS9
              obtain ⟨-, hS9⟩ := hS9
              go_simp
              try with_reducible rfl
            try simp only [Act.put, List.setIfInBounds_toArray, List.set_cons_zero, List.set_cons_succ]
            refine wpAnyH_take (i := 12) (oi := { dst := some 43, op := _, type := _, pos := _, after := _, guard := _ }) (v := ?v78) rfl (by kernel_rfl) (by kernel_rfl) (by kernel_rfl) (fun _ _ _ h => h) (Or.inl ⟨by rfl, ?hy78⟩) (by assumption) ?rest78
            case hy78 =>
              intro w9 hS9
              obtain ⟨-, hS9⟩ := hS9
              go_simp
              try with_reducible rfl
            try simp only [Act.put, List.setIfInBounds_toArray, List.set_cons_zero, List.set_cons_succ]
            refine wpAnyH_take (i := 13) (oi := { dst := some 44, op := _, type := _, pos := _, after := _, guard := _ }) (v := ?v79) rfl (by kernel_rfl) (by kernel_rfl) (by kernel_rfl) (fun _ _ _ h => h) (Or.inl ⟨by rfl, ?hy79⟩) (by assumption) ?rest79
            case hy79 =>
              intro w9 hS9
              obtain ⟨-, hS9⟩ := hS9
              go_simp
              try with_reducible rfl
            try simp only [Act.put, List.setIfInBounds_toArray, List.set_cons_zero, List.set_cons_succ]
            refine wpAnyH_take (i := 14) (oi := { dst := some 45, op := _, type := _, pos := _, after := _, guard := _ }) (v := ?v80) rfl (by kernel_rfl) (by kernel_rfl) (by kernel_rfl) (fun _ _ _ h => h) (Or.inl ⟨by rfl, ?hy80⟩) (by assumption) ?rest80
            case hy80 =>
              intro w9 hS9
              obtain ⟨-, hS9⟩ := hS9
              go_simp
              try with_reducible rfl
            try simp only [Act.put, List.setIfInBounds_toArray, List.set_cons_zero, List.set_cons_succ]
            refine wpAnyH_take (i := 15) (oi := { dst := some 46, op := _, type := _, pos := _, after := _, guard := _ }) (v := ?v81) rfl (by kernel_rfl) (by kernel_rfl) (by kernel_rfl) (fun _ _ _ h => h) (Or.inl ⟨by rfl, ?hy81⟩) (by assumption) ?rest81
            case hy81 =>
              intro w9 hS9
              obtain ⟨-, hS9⟩ := hS9
              go_simp
              try with_reducible rfl
            try simp only [Act.put, List.setIfInBounds_toArray, List.set_cons_zero, List.set_cons_succ]
            refine wpAnyH_take (i := 16) (oi := { dst := some 47, op := _, type := _, pos := _, after := _, guard := _ }) (v := ?v82) rfl (by kernel_rfl) (by kernel_rfl) (by kernel_rfl) (fun _ _ _ h => h) (Or.inl ⟨by rfl, ?hy82⟩) (by assumption) ?rest82
            case hy82 =>
              intro w9 hS9
              obtain ⟨-, hS9⟩ := hS9
              go_simp
              try with_reducible rfl
            try simp only [Act.put, List.setIfInBounds_toArray, List.set_cons_zero, List.set_cons_succ]
            refine wpAnyH_take (i := 17) (oi := { dst := some 48, op := _, type := _, pos := _, after := _, guard := _ }) (v := ?v83) rfl (by kernel_rfl) (by kernel_rfl) (by kernel_rfl) (fun _ _ _ h => h) (Or.inl ⟨by rfl, ?hy83⟩) (by assumption) ?rest83
            case hy83 =>
              intro w9 hS9
              obtain ⟨-, hS9⟩ := hS9
              go_simp
              try with_reducible rfl
            try simp only [Act.put, List.setIfInBounds_toArray, List.set_cons_zero, List.set_cons_succ]
            refine wpAnyH_take (i := 18) (oi := { dst := some 49, op := _, type := _, pos := _, after := _, guard := _ }) (v := ?v84) rfl (by kernel_rfl) (by kernel_rfl) (by kernel_rfl) (fun _ _ _ h => h) (Or.inl ⟨by rfl, ?hy84⟩) (by assumption) ?rest84
            case hy84 =>
              intro w9 hS9
              obtain ⟨-, hS9⟩ := hS9
              go_simp
              try with_reducible rfl
            try simp only [Act.put, List.setIfInBounds_toArray, List.set_cons_zero, List.set_cons_succ]
            refine wpAnyH_take (i := 19) (oi := { dst := some 50, op := _, type := _, pos := _, after := _, guard := _ }) (v := ?v85) rfl (by kernel_rfl) (by kernel_rfl) (by kernel_rfl) (fun _ _ _ h => h) (Or.inl ⟨by rfl, ?hy85⟩) (by assumption) ?rest85
            case hy85 =>
              intro w9 hS9
              obtain ⟨-, hS9⟩ := hS9
              go_simp
              try with_reducible rfl
            try simp only [Act.put, List.setIfInBounds_toArray, List.set_cons_zero, List.set_cons_succ]
            refine wpAnyH_take (i := 20) (oi := { dst := some 51, op := _, type := _, pos := _, after := _, guard := _ }) (v := ?v86) rfl (by kernel_rfl) (by kernel_rfl) (by kernel_rfl) (fun _ _ _ h => h) (Or.inl ⟨by rfl, ?hy86⟩) (by assumption) ?rest86
            case hy86 =>
              intro w9 hS9
              obtain ⟨-, hS9⟩ := hS9
              go_simp
              try with_reducible rfl
            try simp only [Act.put, List.setIfInBounds_toArray, List.set_cons_zero, List.set_cons_succ]
            refine wpAnyH_take (i := 21) (oi := { dst := some 52, op := _, type := _, pos := _, after := _, guard := _ }) (v := ?v87) rfl (by kernel_rfl) (by kernel_rfl) (by kernel_rfl) (fun _ _ _ h => h) (Or.inl ⟨by rfl, ?hy87⟩) (by assumption) ?rest87
            case hy87 =>
              intro w9 hS9
              obtain ⟨-, hS9⟩ := hS9
              go_simp
              try with_reducible rfl
            try simp only [Act.put, List.setIfInBounds_toArray, List.set_cons_zero, List.set_cons_succ]
            refine wpAnyH_done (by kernel_rfl) ?_ _
            clear hHeld
            obtain ⟨-, b0, b1, b2, b3, b4, b5, b6, b7⟩ := XN.out.below HB.out
            cases hdel : (eAt ns (j + 1)).del with
            | false =>
              have HT : Hid (okEAt ns (j + 1) = true) := by show _ = _; rw [okEAt_succ, okEf_false hdel, HOK.out]; simp [HLP.out]
              rw [hdel] at b0
              clear hdel
              go_wp2
              go_roundw
              case rel => exact ⟨(j + 1) + 1, by omega, by go_num, (fun t ht => by by_cases e : t = (j + 1); (subst e; exact HT.out); exact HA.out t (by omega)), HBz.out _ HB.out⟩
              case measure => simp [intOf]; omega
            | true =>
              have HEF : Hid (okEf (eAt ns (j + 1)) = (okNd (eAt ns (j + 1)).nd && blank (eAt ns (j + 1)).nd)) := okEf_true hdel
              rw [hdel] at b0
              clear hdel
              have hpp : ((eAt ns (j + 1)).nd.path.toList == (eAt ns (j + 1)).nd.path.toList) = true := by simp
              cases h_dat : ((eAt ns (j + 1)).nd.data.toList == []) with
              | false =>
                have HN : Hid (okEs ns = false) := es_no HLT.out (by rw [okEAt_succ, HEF.out]; unfold blank; rw [h_dat]; simp)
                go_wp2
                go_ret
                exact ⟨ret_b HN.out.symm, HBn.out _ HB.out⟩
              | true =>
                cases h_ver : ((eAt ns (j + 1)).nd.ver == 0) with
                | false =>
                  have HN : Hid (okEs ns = false) := es_no HLT.out (by rw [okEAt_succ, HEF.out]; unfold blank; rw [h_ver]; simp)
                  go_wp2
                  go_ret
                  exact ⟨ret_b HN.out.symm, HBn.out _ HB.out⟩
                | true =>
                  cases h_cver : ((eAt ns (j + 1)).nd.cver == 0) with
                  | false =>
                    have HN : Hid (okEs ns = false) := es_no HLT.out (by rw [okEAt_succ, HEF.out]; unfold blank; rw [h_cver]; simp)
                    go_wp2
                    go_ret
                    exact ⟨ret_b HN.out.symm, HBn.out _ HB.out⟩
                  | true =>
                    cases h_cz : ((eAt ns (j + 1)).nd.cz == 0) with
                    | false =>
                      have HN : Hid (okEs ns = false) := es_no HLT.out (by rw [okEAt_succ, HEF.out]; unfold blank; rw [h_cz]; simp)
                      go_wp2
                      go_ret
                      exact ⟨ret_b HN.out.symm, HBn.out _ HB.out⟩
                    | true =>
                      cases h_mz : ((eAt ns (j + 1)).nd.mz == 0) with
                      | false =>
                        have HN : Hid (okEs ns = false) := es_no HLT.out (by rw [okEAt_succ, HEF.out]; unfold blank; rw [h_mz]; simp)
                        go_wp2
                        go_ret
                        exact ⟨ret_b HN.out.symm, HBn.out _ HB.out⟩
                      | true =>
                        cases h_pz : ((eAt ns (j + 1)).nd.pz == 0) with
                        | false =>
                          have HN : Hid (okEs ns = false) := es_no HLT.out (by rw [okEAt_succ, HEF.out]; unfold blank; rw [h_pz]; simp)
                          go_wp2
                          go_ret
                          exact ⟨ret_b HN.out.symm, HBn.out _ HB.out⟩
                        | true =>
                          have HT : Hid (okEAt ns (j + 1) = true) := by show _ = _; rw [okEAt_succ, HEF.out, HOK.out]; unfold blank; rw [h_dat, h_ver, h_cver, h_cz, h_mz, h_pz]; simp [HLP.out]
                          go_wp2
                          go_roundw
                          case rel => exact ⟨(j + 1) + 1, by omega, by go_num, (fun t ht => by by_cases e : t = (j + 1); (subst e; exact HT.out); exact HA.out t (by omega)), HBz.out _ HB.out⟩
                          case measure => simp [intOf]; omega
          | false =>
            have HN : Hid (okEs ns = false) := es_no HLT.out (by rw [okEAt_succ, hcmp, Bool.and_false])
            rcases ltP_no hcmp with l1 | ⟨l1, l2⟩
            · clear hcmp
              refine wp_region_held_drew (S := fun W => Hid (Below wn.heap.size wn W) ∧ (W.cell? ⟨B, 0, none⟩ = some (.bool (eAt ns (j + 1)).del) ∧ W.cell? ⟨B, 1, none⟩ = some (.string (eAt ns (j + 1)).nd.path) ∧ W.cell? ⟨B, 2, none⟩ = some (.string (eAt ns (j + 1)).nd.data) ∧ W.cell? ⟨B, 3, none⟩ = some (.int .i64 (eAt ns (j + 1)).nd.ver) ∧ W.cell? ⟨B, 4, none⟩ = some (.int .i64 (eAt ns (j + 1)).nd.cver) ∧ W.cell? ⟨B, 5, none⟩ = some (.int .i64 (eAt ns (j + 1)).nd.cz) ∧ W.cell? ⟨B, 6, none⟩ = some (.int .i64 (eAt ns (j + 1)).nd.mz) ∧ W.cell? ⟨B, 7, none⟩ = some (.int .i64 (eAt ns (j + 1)).nd.pz)) ∧ W.cell? ⟨w.heap.size, 1, none⟩ = some (.slice (some ⟨b, o, none⟩) n cap) ∧ W.cell? ⟨b, o + j * 8 + 1, none⟩ = some (.string (eAt ns j).nd.path)) (by kernel_rfl) (⟨HD, (XN.out.below HD.out).all, (CT.out _ HD.out), ((HC.out j (by omega)).below (HBn.out _ HD.out) hb).c1⟩) (fun hHeld => ?_)
              refine wpAnyH_take (i := 0) (oi := { dst := some 31, op := _, type := _, pos := _, after := _, guard := _ }) (v := ?v88) rfl (by kernel_rfl) (by kernel_rfl) (by kernel_rfl) (fun _ _ _ h => h) (Or.inl ⟨by rfl, ?hy88⟩) (by assumption) ?rest88
              case hy88 =>
                intro w9 hS9
                obtain ⟨-, hS9⟩ := hS9
                go_simp
                try with_reducible rfl
              try simp only [Act.put, List.setIfInBounds_toArray, List.set_cons_zero, List.set_cons_succ]
              refine wpAnyH_take (i := 1) (oi := { dst := some 32, op := _, type := _, pos := _, after := _, guard := _ }) (v := ?v89) rfl (by kernel_rfl) (by kernel_rfl) (by kernel_rfl) (fun _ _ _ h => h) (Or.inl ⟨by rfl, ?hy89⟩) (by assumption) ?rest89
              case hy89 =>
                intro w9 hS9
                obtain ⟨-, hS9⟩ := hS9
                go_simp
                try with_reducible rfl
              try simp only [Act.put, List.setIfInBounds_toArray, List.set_cons_zero, List.set_cons_succ]
              refine wpAnyH_ready (rs := [2]) (by kernel_rfl) (by simp) ?_
              refine AllReadyH.cons (o := { dst := some 33, op := _, type := _, pos := _, after := _, guard := _ }) rfl (fun K hK => ?_) AllReadyH.nil
              go_simp
              refine (HE.out 1).mono ?_
              rintro e w' ⟨rfl, HB⟩
              rw [HOK.out]
              refine hK.out _ _ ((show (fun W => Hid (Below wn.heap.size wn W) ∧ (W.cell? ⟨B, 0, none⟩ = some (.bool (eAt ns (j + 1)).del) ∧ W.cell? ⟨B, 1, none⟩ = some (.string (eAt ns (j + 1)).nd.path) ∧ W.cell? ⟨B, 2, none⟩ = some (.string (eAt ns (j + 1)).nd.data) ∧ W.cell? ⟨B, 3, none⟩ = some (.int .i64 (eAt ns (j + 1)).nd.ver) ∧ W.cell? ⟨B, 4, none⟩ = some (.int .i64 (eAt ns (j + 1)).nd.cver) ∧ W.cell? ⟨B, 5, none⟩ = some (.int .i64 (eAt ns (j + 1)).nd.cz) ∧ W.cell? ⟨B, 6, none⟩ = some (.int .i64 (eAt ns (j + 1)).nd.mz) ∧ W.cell? ⟨B, 7, none⟩ = some (.int .i64 (eAt ns (j + 1)).nd.pz)) ∧ W.cell? ⟨w.heap.size, 1, none⟩ = some (.slice (some ⟨b, o, none⟩) n cap) ∧ W.cell? ⟨b, o + j * 8 + 1, none⟩ = some (.string (eAt ns j).nd.path)) w' from ⟨HB, (XN.out.below HB.out).all, (CT.out _ HB.out), ((HC.out j (by omega)).below (HBn.out _ HB.out) hb).c1⟩)) (fun hx9 => ?_)
              clear hK K hHeld hx9
              have hHeld := (show (fun W => Hid (Below wn.heap.size wn W) ∧ (W.cell? ⟨B, 0, none⟩ = some (.bool (eAt ns (j + 1)).del) ∧ W.cell? ⟨B, 1, none⟩ = some (.string (eAt ns (j + 1)).nd.path) ∧ W.cell? ⟨B, 2, none⟩ = some (.string (eAt ns (j + 1)).nd.data) ∧ W.cell? ⟨B, 3, none⟩ = some (.int .i64 (eAt ns (j + 1)).nd.ver) ∧ W.cell? ⟨B, 4, none⟩ = some (.int .i64 (eAt ns (j + 1)).nd.cver) ∧ W.cell? ⟨B, 5, none⟩ = some (.int .i64 (eAt ns (j + 1)).nd.cz) ∧ W.cell? ⟨B, 6, none⟩ = some (.int .i64 (eAt ns (j + 1)).nd.mz) ∧ W.cell? ⟨B, 7, none⟩ = some (.int .i64 (eAt ns (j + 1)).nd.pz)) ∧ W.cell? ⟨w.heap.size, 1, none⟩ = some (.slice (some ⟨b, o, none⟩) n cap) ∧ W.cell? ⟨b, o + j * 8 + 1, none⟩ = some (.string (eAt ns j).nd.path)) w' from ⟨HB, (XN.out.below HB.out).all, (CT.out _ HB.out), ((HC.out j (by omega)).below (HBn.out _ HB.out) hb).c1⟩)
              try simp only [Act.put, List.setIfInBounds_toArray, List.set_cons_zero, List.set_cons_succ]
              refine wpAnyH_take (i := 3) (oi := { dst := some 34, op := _, type := _, pos := _, after := _, guard := _ }) (v := ?v90) rfl (by kernel_rfl) (by kernel_rfl) (by kernel_rfl) (fun _ _ _ h => h) (Or.inl ⟨by rfl, ?hy90⟩) (by assumption) ?rest90
              case hy90 =>
                intro w9 hS9
                obtain ⟨-, hS9⟩ := hS9
                go_simp
                try with_reducible rfl
              try simp only [Act.put, List.setIfInBounds_toArray, List.set_cons_zero, List.set_cons_succ]
              refine wpAnyH_take (i := 4) (oi := { dst := some 35, op := _, type := _, pos := _, after := _, guard := _ }) (v := ?v91) rfl (by kernel_rfl) (by kernel_rfl) (by kernel_rfl) (fun _ _ _ h => h) (Or.inl ⟨by rfl, ?hy91⟩) (by assumption) ?rest91
              case hy91 =>
                intro w9 hS9
                obtain ⟨-, hS9⟩ := hS9
                go_simp
                try with_reducible rfl
              try simp only [Act.put, List.setIfInBounds_toArray, List.set_cons_zero, List.set_cons_succ]
              refine wpAnyH_take (i := 5) (oi := { dst := some 36, op := _, type := _, pos := _, after := _, guard := _ }) (v := ?v92) rfl (by kernel_rfl) (by kernel_rfl) (by kernel_rfl) (fun _ _ _ h => h) (Or.inl ⟨by rfl, ?hy92⟩) (by assumption) ?rest92
              case hy92 =>
                intro w9 hS9
                obtain ⟨-, hS9⟩ := hS9
                go_simp
                try with_reducible rfl
              try simp only [Act.put, List.setIfInBounds_toArray, List.set_cons_zero, List.set_cons_succ]
              refine wpAnyH_take (i := 6) (oi := { dst := some 37, op := _, type := _, pos := _, after := _, guard := _ }) (v := ?v93) rfl (by kernel_rfl) (by kernel_rfl) (by kernel_rfl) (fun _ _ _ h => h) (Or.inl ⟨by rfl, ?hy93⟩) (by assumption) ?rest93
              case hy93 =>
                intro w9 hS9
                obtain ⟨-, hS9⟩ := hS9
                go_simp
                try with_reducible rfl
              try simp only [Act.put, List.setIfInBounds_toArray, List.set_cons_zero, List.set_cons_succ]
              refine wpAnyH_take (i := 7) (oi := { dst := some 38, op := _, type := _, pos := _, after := _, guard := _ }) (v := ?v94) rfl (by kernel_rfl) (by kernel_rfl) (by kernel_rfl) (fun _ _ _ h => h) (Or.inl ⟨by rfl, ?hy94⟩) (by assumption) ?rest94
              case hy94 =>
                intro w9 hS9
                obtain ⟨-, hS9⟩ := hS9
                go_simp
                try with_reducible rfl
              try simp only [Act.put, List.setIfInBounds_toArray, List.set_cons_zero, List.set_cons_succ]
              refine wpAnyH_take (i := 8) (oi := { dst := some 39, op := _, type := _, pos := _, after := _, guard := _ }) (v := ?v95) rfl (by kernel_rfl) (by kernel_rfl) (by kernel_rfl) (fun _ _ _ h => h) (Or.inl ⟨by rfl, ?hy95⟩) (by assumption) ?rest95
              case hy95 =>
                intro w9 hS9
                obtain ⟨-, hS9⟩ := hS9
                go_simp
                try with_reducible rfl
              try simp only [Act.put, List.setIfInBounds_toArray, List.set_cons_zero, List.set_cons_succ]
              refine wpAnyH_take (i := 9) (oi := { dst := some 40, op := _, type := _, pos := _, after := _, guard := _ }) (v := ?v96) rfl (by kernel_rfl) (by kernel_rfl) (by kernel_rfl) (fun _ _ _ h => h) (Or.inl ⟨by rfl, ?hy96⟩) (by assumption) ?rest96
              case hy96 =>
                intro w9 hS9
                obtain ⟨-, hS9⟩ := hS9
                go_simp
                try with_reducible rfl
              try simp only [Act.put, List.setIfInBounds_toArray, List.set_cons_zero, List.set_cons_succ]
              refine wpAnyH_take (i := 10) (oi := { dst := some 41, op := _, type := _, pos := _, after := _, guard := _ }) (v := ?v97) rfl (by kernel_rfl) (by kernel_rfl) (by kernel_rfl) (fun _ _ _ h => h) (Or.inl ⟨by rfl, ?hy97⟩) (by assumption) ?rest97
              case hy97 =>
                intro w9 hS9
                obtain ⟨-, hS9⟩ := hS9
                go_simp
                try with_reducible rfl
              try simp only [Act.put, List.setIfInBounds_toArray, List.set_cons_zero, List.set_cons_succ]
              refine wpAnyH_take (i := 11) (oi := { dst := some 42, op := _, type := _, pos := _, after := _, guard := _ }) (v := ?v98) rfl (by kernel_rfl) (by kernel_rfl) (by kernel_rfl) (fun _ _ _ h => h) (Or.inl ⟨by rfl, ?hy98⟩) (by assumption) ?rest98
              case hy98 =>
                intro w9 hS9
                obtain ⟨-, hS9⟩ := hS9
                go_simp
                try with_reducible rfl
              try simp only [Act.put, List.setIfInBounds_toArray, List.set_cons_zero, List.set_cons_succ]
              refine wpAnyH_take (i := 12) (oi := { dst := some 43, op := _, type := _, pos := _, after := _, guard := _ }) (v := ?v99) rfl (by kernel_rfl) (by kernel_rfl) (by kernel_rfl) (fun _ _ _ h => h) (Or.inl ⟨by rfl, ?hy99⟩) (by assumption) ?rest99
              case hy99 =>
                intro w9 hS9
                obtain ⟨-, hS9⟩ := hS9
                go_simp
                try with_reducible rfl
              try simp only [Act.put, List.setIfInBounds_toArray, List.set_cons_zero, List.set_cons_succ]
              refine wpAnyH_take (i := 13) (oi := { dst := some 44, op := _, type := _, pos := _, after := _, guard := _ }) (v := ?v100) rfl (by kernel_rfl) (by kernel_rfl) (by kernel_rfl) (fun _ _ _ h => h) (Or.inl ⟨by rfl, ?hy100⟩) (by assumption) ?rest100
              case hy100 =>
                intro w9 hS9
                obtain ⟨-, hS9⟩ := hS9
                go_simp
                try with_reducible rfl
              try simp only [Act.put, List.setIfInBounds_toArray, List.set_cons_zero, List.set_cons_succ]
              refine wpAnyH_take (i := 14) (oi := { dst := some 45, op := _, type := _, pos := _, after := _, guard := _ }) (v := ?v101) rfl (by kernel_rfl) (by kernel_rfl) (by kernel_rfl) (fun _ _ _ h => h) (Or.inl ⟨by rfl, ?hy101⟩) (by assumption) ?rest101
              case hy101 =>
                intro w9 hS9
                obtain ⟨-, hS9⟩ := hS9
                go_simp
                try with_reducible rfl
              try simp only [Act.put, List.setIfInBounds_toArray, List.set_cons_zero, List.set_cons_succ]
              refine wpAnyH_take (i := 15) (oi := { dst := some 46, op := _, type := _, pos := _, after := _, guard := _ }) (v := ?v102) rfl (by kernel_rfl) (by kernel_rfl) (by kernel_rfl) (fun _ _ _ h => h) (Or.inl ⟨by rfl, ?hy102⟩) (by assumption) ?rest102
              case hy102 =>
                intro w9 hS9
                obtain ⟨-, hS9⟩ := hS9
                go_simp
                try with_reducible rfl
              try simp only [Act.put, List.setIfInBounds_toArray, List.set_cons_zero, List.set_cons_succ]
              refine wpAnyH_take (i := 16) (oi := { dst := some 47, op := _, type := _, pos := _, after := _, guard := _ }) (v := ?v103) rfl (by kernel_rfl) (by kernel_rfl) (by kernel_rfl) (fun _ _ _ h => h) (Or.inl ⟨by rfl, ?hy103⟩) (by assumption) ?rest103
              case hy103 =>
                intro w9 hS9
                obtain ⟨-, hS9⟩ := hS9
                go_simp
                try with_reducible rfl
              try simp only [Act.put, List.setIfInBounds_toArray, List.set_cons_zero, List.set_cons_succ]
              refine wpAnyH_take (i := 17) (oi := { dst := some 48, op := _, type := _, pos := _, after := _, guard := _ }) (v := ?v104) rfl (by kernel_rfl) (by kernel_rfl) (by kernel_rfl) (fun _ _ _ h => h) (Or.inl ⟨by rfl, ?hy104⟩) (by assumption) ?rest104
              case hy104 =>
                intro w9 hS9
                obtain ⟨-, hS9⟩ := hS9
                go_simp
                try with_reducible rfl
              try simp only [Act.put, List.setIfInBounds_toArray, List.set_cons_zero, List.set_cons_succ]
              refine wpAnyH_take (i := 18) (oi := { dst := some 49, op := _, type := _, pos := _, after := _, guard := _ }) (v := ?v105) rfl (by kernel_rfl) (by kernel_rfl) (by kernel_rfl) (fun _ _ _ h => h) (Or.inl ⟨by rfl, ?hy105⟩) (by assumption) ?rest105
              case hy105 =>
                intro w9 hS9
                obtain ⟨-, hS9⟩ := hS9
                go_simp
                try with_reducible rfl
              try simp only [Act.put, List.setIfInBounds_toArray, List.set_cons_zero, List.set_cons_succ]
              refine wpAnyH_take (i := 19) (oi := { dst := some 50, op := _, type := _, pos := _, after := _, guard := _ }) (v := ?v106) rfl (by kernel_rfl) (by kernel_rfl) (by kernel_rfl) (fun _ _ _ h => h) (Or.inl ⟨by rfl, ?hy106⟩) (by assumption) ?rest106
              case hy106 =>
                intro w9 hS9
                obtain ⟨-, hS9⟩ := hS9
                go_simp
                try with_reducible rfl
              try simp only [Act.put, List.setIfInBounds_toArray, List.set_cons_zero, List.set_cons_succ]
              refine wpAnyH_take (i := 20) (oi := { dst := some 51, op := _, type := _, pos := _, after := _, guard := _ }) (v := ?v107) rfl (by kernel_rfl) (by kernel_rfl) (by kernel_rfl) (fun _ _ _ h => h) (Or.inl ⟨by rfl, ?hy107⟩) (by assumption) ?rest107
              case hy107 =>
                intro w9 hS9
                obtain ⟨-, hS9⟩ := hS9
                go_simp
                try with_reducible rfl
              try simp only [Act.put, List.setIfInBounds_toArray, List.set_cons_zero, List.set_cons_succ]
              refine wpAnyH_take (i := 21) (oi := { dst := some 52, op := _, type := _, pos := _, after := _, guard := _ }) (v := ?v108) rfl (by kernel_rfl) (by kernel_rfl) (by kernel_rfl) (fun _ _ _ h => h) (Or.inl ⟨by rfl, ?hy108⟩) (by assumption) ?rest108
              case hy108 =>
                intro w9 hS9
                obtain ⟨-, hS9⟩ := hS9
                go_simp
                try with_reducible rfl
              try simp only [Act.put, List.setIfInBounds_toArray, List.set_cons_zero, List.set_cons_succ]
              refine wpAnyH_done (by kernel_rfl) ?_ _
              clear hHeld
              go_wp2
              go_ret
              exact ⟨ret_b HN.out.symm, HBn.out _ HB.out⟩
            · clear hcmp
              refine wp_region_held_drew (S := fun W => Hid (Below wn.heap.size wn W) ∧ (W.cell? ⟨B, 0, none⟩ = some (.bool (eAt ns (j + 1)).del) ∧ W.cell? ⟨B, 1, none⟩ = some (.string (eAt ns (j + 1)).nd.path) ∧ W.cell? ⟨B, 2, none⟩ = some (.string (eAt ns (j + 1)).nd.data) ∧ W.cell? ⟨B, 3, none⟩ = some (.int .i64 (eAt ns (j + 1)).nd.ver) ∧ W.cell? ⟨B, 4, none⟩ = some (.int .i64 (eAt ns (j + 1)).nd.cver) ∧ W.cell? ⟨B, 5, none⟩ = some (.int .i64 (eAt ns (j + 1)).nd.cz) ∧ W.cell? ⟨B, 6, none⟩ = some (.int .i64 (eAt ns (j + 1)).nd.mz) ∧ W.cell? ⟨B, 7, none⟩ = some (.int .i64 (eAt ns (j + 1)).nd.pz)) ∧ W.cell? ⟨w.heap.size, 1, none⟩ = some (.slice (some ⟨b, o, none⟩) n cap) ∧ W.cell? ⟨b, o + j * 8 + 1, none⟩ = some (.string (eAt ns j).nd.path)) (by kernel_rfl) (⟨HD, (XN.out.below HD.out).all, (CT.out _ HD.out), ((HC.out j (by omega)).below (HBn.out _ HD.out) hb).c1⟩) (fun hHeld => ?_)
              refine wpAnyH_take (i := 0) (oi := { dst := some 31, op := _, type := _, pos := _, after := _, guard := _ }) (v := ?v109) rfl (by kernel_rfl) (by kernel_rfl) (by kernel_rfl) (fun _ _ _ h => h) (Or.inl ⟨by rfl, ?hy109⟩) (by assumption) ?rest109
              case hy109 =>
                intro w9 hS9
                obtain ⟨-, hS9⟩ := hS9
                go_simp
                try with_reducible rfl
              try simp only [Act.put, List.setIfInBounds_toArray, List.set_cons_zero, List.set_cons_succ]
              refine wpAnyH_take (i := 1) (oi := { dst := some 32, op := _, type := _, pos := _, after := _, guard := _ }) (v := ?v110) rfl (by kernel_rfl) (by kernel_rfl) (by kernel_rfl) (fun _ _ _ h => h) (Or.inl ⟨by rfl, ?hy110⟩) (by assumption) ?rest110
              case hy110 =>
                intro w9 hS9
                obtain ⟨-, hS9⟩ := hS9
                go_simp
                try with_reducible rfl
              try simp only [Act.put, List.setIfInBounds_toArray, List.set_cons_zero, List.set_cons_succ]
              refine wpAnyH_ready (rs := [2]) (by kernel_rfl) (by simp) ?_
              refine AllReadyH.cons (o := { dst := some 33, op := _, type := _, pos := _, after := _, guard := _ }) rfl (fun K hK => ?_) AllReadyH.nil
              go_simp
              refine (HE.out 1).mono ?_
              rintro e w' ⟨rfl, HB⟩
              rw [HOK.out]
              refine hK.out _ _ ((show (fun W => Hid (Below wn.heap.size wn W) ∧ (W.cell? ⟨B, 0, none⟩ = some (.bool (eAt ns (j + 1)).del) ∧ W.cell? ⟨B, 1, none⟩ = some (.string (eAt ns (j + 1)).nd.path) ∧ W.cell? ⟨B, 2, none⟩ = some (.string (eAt ns (j + 1)).nd.data) ∧ W.cell? ⟨B, 3, none⟩ = some (.int .i64 (eAt ns (j + 1)).nd.ver) ∧ W.cell? ⟨B, 4, none⟩ = some (.int .i64 (eAt ns (j + 1)).nd.cver) ∧ W.cell? ⟨B, 5, none⟩ = some (.int .i64 (eAt ns (j + 1)).nd.cz) ∧ W.cell? ⟨B, 6, none⟩ = some (.int .i64 (eAt ns (j + 1)).nd.mz) ∧ W.cell? ⟨B, 7, none⟩ = some (.int .i64 (eAt ns (j + 1)).nd.pz)) ∧ W.cell? ⟨w.heap.size, 1, none⟩ = some (.slice (some ⟨b, o, none⟩) n cap) ∧ W.cell? ⟨b, o + j * 8 + 1, none⟩ = some (.string (eAt ns j).nd.path)) w' from ⟨HB, (XN.out.below HB.out).all, (CT.out _ HB.out), ((HC.out j (by omega)).below (HBn.out _ HB.out) hb).c1⟩)) (fun hx9 => ?_)
              clear hK K hHeld hx9
              have hHeld := (show (fun W => Hid (Below wn.heap.size wn W) ∧ (W.cell? ⟨B, 0, none⟩ = some (.bool (eAt ns (j + 1)).del) ∧ W.cell? ⟨B, 1, none⟩ = some (.string (eAt ns (j + 1)).nd.path) ∧ W.cell? ⟨B, 2, none⟩ = some (.string (eAt ns (j + 1)).nd.data) ∧ W.cell? ⟨B, 3, none⟩ = some (.int .i64 (eAt ns (j + 1)).nd.ver) ∧ W.cell? ⟨B, 4, none⟩ = some (.int .i64 (eAt ns (j + 1)).nd.cver) ∧ W.cell? ⟨B, 5, none⟩ = some (.int .i64 (eAt ns (j + 1)).nd.cz) ∧ W.cell? ⟨B, 6, none⟩ = some (.int .i64 (eAt ns (j + 1)).nd.mz) ∧ W.cell? ⟨B, 7, none⟩ = some (.int .i64 (eAt ns (j + 1)).nd.pz)) ∧ W.cell? ⟨w.heap.size, 1, none⟩ = some (.slice (some ⟨b, o, none⟩) n cap) ∧ W.cell? ⟨b, o + j * 8 + 1, none⟩ = some (.string (eAt ns j).nd.path)) w' from ⟨HB, (XN.out.below HB.out).all, (CT.out _ HB.out), ((HC.out j (by omega)).below (HBn.out _ HB.out) hb).c1⟩)
              try simp only [Act.put, List.setIfInBounds_toArray, List.set_cons_zero, List.set_cons_succ]
              refine wpAnyH_take (i := 3) (oi := { dst := some 34, op := _, type := _, pos := _, after := _, guard := _ }) (v := ?v111) rfl (by kernel_rfl) (by kernel_rfl) (by kernel_rfl) (fun _ _ _ h => h) (Or.inl ⟨by rfl, ?hy111⟩) (by assumption) ?rest111
              case hy111 =>
                intro w9 hS9
                obtain ⟨-, hS9⟩ := hS9
                go_simp
                try with_reducible rfl
              try simp only [Act.put, List.setIfInBounds_toArray, List.set_cons_zero, List.set_cons_succ]
              refine wpAnyH_take (i := 4) (oi := { dst := some 35, op := _, type := _, pos := _, after := _, guard := _ }) (v := ?v112) rfl (by kernel_rfl) (by kernel_rfl) (by kernel_rfl) (fun _ _ _ h => h) (Or.inl ⟨by rfl, ?hy112⟩) (by assumption) ?rest112
              case hy112 =>
                intro w9 hS9
                obtain ⟨-, hS9⟩ := hS9
                go_simp
                try with_reducible rfl
              try simp only [Act.put, List.setIfInBounds_toArray, List.set_cons_zero, List.set_cons_succ]
              refine wpAnyH_take (i := 5) (oi := { dst := some 36, op := _, type := _, pos := _, after := _, guard := _ }) (v := ?v113) rfl (by kernel_rfl) (by kernel_rfl) (by kernel_rfl) (fun _ _ _ h => h) (Or.inl ⟨by rfl, ?hy113⟩) (by assumption) ?rest113
              case hy113 =>
                intro w9 hS9
                obtain ⟨-, hS9⟩ := hS9
                go_simp
                try with_reducible rfl
              try simp only [Act.put, List.setIfInBounds_toArray, List.set_cons_zero, List.set_cons_succ]
              refine wpAnyH_take (i := 6) (oi := { dst := some 37, op := _, type := _, pos := _, after := _, guard := _ }) (v := ?v114) rfl (by kernel_rfl) (by kernel_rfl) (by kernel_rfl) (fun _ _ _ h => h) (Or.inl ⟨by rfl, ?hy114⟩) (by assumption) ?rest114
              case hy114 =>
                intro w9 hS9
                obtain ⟨-, hS9⟩ := hS9
                go_simp
                try with_reducible rfl
              try simp only [Act.put, List.setIfInBounds_toArray, List.set_cons_zero, List.set_cons_succ]
              refine wpAnyH_take (i := 7) (oi := { dst := some 38, op := _, type := _, pos := _, after := _, guard := _ }) (v := ?v115) rfl (by kernel_rfl) (by kernel_rfl) (by kernel_rfl) (fun _ _ _ h => h) (Or.inl ⟨by rfl, ?hy115⟩) (by assumption) ?rest115
              case hy115 =>
                intro w9 hS9
                obtain ⟨-, hS9⟩ := hS9
                go_simp
                try with_reducible rfl
              try simp only [Act.put, List.setIfInBounds_toArray, List.set_cons_zero, List.set_cons_succ]
              refine wpAnyH_take (i := 8) (oi := { dst := some 39, op := _, type := _, pos := _, after := _, guard := _ }) (v := ?v116) rfl (by kernel_rfl) (by kernel_rfl) (by kernel_rfl) (fun _ _ _ h => h) (Or.inl ⟨by rfl, ?hy116⟩) (by assumption) ?rest116
              case hy116 =>
                intro w9 hS9
                obtain ⟨-, hS9⟩ := hS9
                go_simp
                try with_reducible rfl
              try simp only [Act.put, List.setIfInBounds_toArray, List.set_cons_zero, List.set_cons_succ]
              refine wpAnyH_take (i := 9) (oi := { dst := some 40, op := _, type := _, pos := _, after := _, guard := _ }) (v := ?v117) rfl (by kernel_rfl) (by kernel_rfl) (by kernel_rfl) (fun _ _ _ h => h) (Or.inl ⟨by rfl, ?hy117⟩) (by assumption) ?rest117
              case hy117 =>
                intro w9 hS9
                obtain ⟨-, hS9⟩ := hS9
                go_simp
                try with_reducible rfl
              try simp only [Act.put, List.setIfInBounds_toArray, List.set_cons_zero, List.set_cons_succ]
              refine wpAnyH_take (i := 10) (oi := { dst := some 41, op := _, type := _, pos := _, after := _, guard := _ }) (v := ?v118) rfl (by kernel_rfl) (by kernel_rfl) (by kernel_rfl) (fun _ _ _ h => h) (Or.inl ⟨by rfl, ?hy118⟩) (by assumption) ?rest118
              case hy118 =>
                intro w9 hS9
                obtain ⟨-, hS9⟩ := hS9
                go_simp
                try with_reducible rfl
              try simp only [Act.put, List.setIfInBounds_toArray, List.set_cons_zero, List.set_cons_succ]
              refine wpAnyH_take (i := 11) (oi := { dst := some 42, op := _, type := _, pos := _, after := _, guard := _ }) (v := ?v119) rfl (by kernel_rfl) (by kernel_rfl) (by kernel_rfl) (fun _ _ _ h => h) (Or.inl ⟨by rfl, ?hy119⟩) (by assumption) ?rest119
              case hy119 =>
                intro w9 hS9
                obtain ⟨-, hS9⟩ := hS9
                go_simp
                try with_reducible rfl
              try simp only [Act.put, List.setIfInBounds_toArray, List.set_cons_zero, List.set_cons_succ]
              refine wpAnyH_take (i := 12) (oi := { dst := some 43, op := _, type := _, pos := _, after := _, guard := _ }) (v := ?v120) rfl (by kernel_rfl) (by kernel_rfl) (by kernel_rfl) (fun _ _ _ h => h) (Or.inl ⟨by rfl, ?hy120⟩) (by assumption) ?rest120
              case hy120 =>
                intro w9 hS9
                obtain ⟨-, hS9⟩ := hS9
                go_simp
                try with_reducible rfl
              try simp only [Act.put, List.setIfInBounds_toArray, List.set_cons_zero, List.set_cons_succ]
              refine wpAnyH_take (i := 13) (oi := { dst := some 44, op := _, type := _, pos := _, after := _, guard := _ }) (v := ?v121) rfl (by kernel_rfl) (by kernel_rfl) (by kernel_rfl) (fun _ _ _ h => h) (Or.inl ⟨by rfl, ?hy121⟩) (by assumption) ?rest121
              case hy121 =>
                intro w9 hS9
                obtain ⟨-, hS9⟩ := hS9
                go_simp
                try with_reducible rfl
              try simp only [Act.put, List.setIfInBounds_toArray, List.set_cons_zero, List.set_cons_succ]
              refine wpAnyH_take (i := 14) (oi := { dst := some 45, op := _, type := _, pos := _, after := _, guard := _ }) (v := ?v122) rfl (by kernel_rfl) (by kernel_rfl) (by kernel_rfl) (fun _ _ _ h => h) (Or.inl ⟨by rfl, ?hy122⟩) (by assumption) ?rest122
              case hy122 =>
                intro w9 hS9
                obtain ⟨-, hS9⟩ := hS9
                go_simp
                try with_reducible rfl
              try simp only [Act.put, List.setIfInBounds_toArray, List.set_cons_zero, List.set_cons_succ]
              refine wpAnyH_take (i := 15) (oi := { dst := some 46, op := _, type := _, pos := _, after := _, guard := _ }) (v := ?v123) rfl (by kernel_rfl) (by kernel_rfl) (by kernel_rfl) (fun _ _ _ h => h) (Or.inl ⟨by rfl, ?hy123⟩) (by assumption) ?rest123
              case hy123 =>
                intro w9 hS9
                obtain ⟨-, hS9⟩ := hS9
                go_simp
                try with_reducible rfl
              try simp only [Act.put, List.setIfInBounds_toArray, List.set_cons_zero, List.set_cons_succ]
              refine wpAnyH_take (i := 16) (oi := { dst := some 47, op := _, type := _, pos := _, after := _, guard := _ }) (v := ?v124) rfl (by kernel_rfl) (by kernel_rfl) (by kernel_rfl) (fun _ _ _ h => h) (Or.inl ⟨by rfl, ?hy124⟩) (by assumption) ?rest124
              case hy124 =>
                intro w9 hS9
                obtain ⟨-, hS9⟩ := hS9
                go_simp
                try with_reducible rfl
              try simp only [Act.put, List.setIfInBounds_toArray, List.set_cons_zero, List.set_cons_succ]
              refine wpAnyH_take (i := 17) (oi := { dst := some 48, op := _, type := _, pos := _, after := _, guard := _ }) (v := ?v125) rfl (by kernel_rfl) (by kernel_rfl) (by kernel_rfl) (fun _ _ _ h => h) (Or.inl ⟨by rfl, ?hy125⟩) (by assumption) ?rest125
              case hy125 =>
                intro w9 hS9
                obtain ⟨-, hS9⟩ := hS9
                go_simp
                try with_reducible rfl
              try simp only [Act.put, List.setIfInBounds_toArray, List.set_cons_zero, List.set_cons_succ]
              refine wpAnyH_take (i := 18) (oi := { dst := some 49, op := _, type := _, pos := _, after := _, guard := _ }) (v := ?v126) rfl (by kernel_rfl) (by kernel_rfl) (by kernel_rfl) (fun _ _ _ h => h) (Or.inl ⟨by rfl, ?hy126⟩) (by assumption) ?rest126
              case hy126 =>
                intro w9 hS9
                obtain ⟨-, hS9⟩ := hS9
                go_simp
                try with_reducible rfl
              try simp only [Act.put, List.setIfInBounds_toArray, List.set_cons_zero, List.set_cons_succ]
              refine wpAnyH_take (i := 19) (oi := { dst := some 50, op := _, type := _, pos := _, after := _, guard := _ }) (v := ?v127) rfl (by kernel_rfl) (by kernel_rfl) (by kernel_rfl) (fun _ _ _ h => h) (Or.inl ⟨by rfl, ?hy127⟩) (by assumption) ?rest127
              case hy127 =>
                intro w9 hS9
                obtain ⟨-, hS9⟩ := hS9
                go_simp
                try with_reducible rfl
              try simp only [Act.put, List.setIfInBounds_toArray, List.set_cons_zero, List.set_cons_succ]
              refine wpAnyH_take (i := 20) (oi := { dst := some 51, op := _, type := _, pos := _, after := _, guard := _ }) (v := ?v128) rfl (by kernel_rfl) (by kernel_rfl) (by kernel_rfl) (fun _ _ _ h => h) (Or.inl ⟨by rfl, ?hy128⟩) (by assumption) ?rest128
              case hy128 =>
                intro w9 hS9
                obtain ⟨-, hS9⟩ := hS9
                go_simp
                try with_reducible rfl
              try simp only [Act.put, List.setIfInBounds_toArray, List.set_cons_zero, List.set_cons_succ]
              refine wpAnyH_take (i := 21) (oi := { dst := some 52, op := _, type := _, pos := _, after := _, guard := _ }) (v := ?v129) rfl (by kernel_rfl) (by kernel_rfl) (by kernel_rfl) (fun _ _ _ h => h) (Or.inl ⟨by rfl, ?hy129⟩) (by assumption) ?rest129
              case hy129 =>
                intro w9 hS9
                obtain ⟨-, hS9⟩ := hS9
                go_simp
                try with_reducible rfl
              try simp only [Act.put, List.setIfInBounds_toArray, List.set_cons_zero, List.set_cons_succ]
              refine wpAnyH_done (by kernel_rfl) ?_ _
              clear hHeld
              go_wp2
              go_ret
              exact ⟨ret_b HN.out.symm, HBn.out _ HB.out⟩
    · have HY : Hid (okEs ns = true) := es_yes (fun t ht => HA.out t (by rw [HP.out] at ht; omega))
      go_wp2
      go_ret
      exact ⟨ret_b HY.out.symm, HG0.out⟩

set_option maxHeartbeats 1000000 in
theorem specTxn_nil (w : World) (z : Int) (ao : Option Addr) (cap : Nat) (hz1 : ¬ z < 1) (hz2 : ¬ 2147483647 < z) :
    Calls Tryd.prog 20 #[.agg #[.int .i64 z, .slice ao 0 cap]] w fun e w' => e = .returned (.bool true) ∧ Below w.heap.size w w' := by
  go_enter Tryd.func20, Tryd.ntmps20
  go_wp2
  go_rounds 1
  go_ret
  exact ⟨rfl, (Below.refl _ _).alloc (Nat.le_refl _) _⟩

set_option maxHeartbeats 1000000 in
theorem specTxn_no (w : World) (z : Int) (ao : Option Addr) (n cap : Nat) (h : z < 1 ∨ 2147483647 < z ∨ 1000 < n) :
    Calls Tryd.prog 20 #[.agg #[.int .i64 z, .slice ao n cap]] w fun e w' => e = .returned (.bool false) ∧ Below w.heap.size w w' := by
  by_cases h1 : z < 1
  · clear h
    go_enter Tryd.func20, Tryd.ntmps20
    go_wp2
    go_ret
    exact ⟨rfl, (Below.refl _ _).alloc (Nat.le_refl _) _⟩
  · by_cases h2 : 2147483647 < z
    · clear h
      go_enter Tryd.func20, Tryd.ntmps20
      go_wp2
      go_ret
      exact ⟨rfl, (Below.refl _ _).alloc (Nat.le_refl _) _⟩
    · have h3 : (1000 : Int) < (n : Int) := by omega
      clear h
      go_enter Tryd.func20, Tryd.ntmps20
      go_wp2
      go_ret
      exact ⟨rfl, (Below.refl _ _).alloc (Nat.le_refl _) _⟩

theorem specTxn_any (w : World) (z : Int) (v : Value) (ns : List Ef) (h : RdE w v ns) (hsz : ∀ i, (eAt ns i).nd.path.size ≤ 1048576 ∧ (eAt ns i).nd.data.size ≤ 1048576) :
    Calls Tryd.prog 20 #[.agg #[.int .i64 z, v]] w fun e w' => e = .returned (.bool (okTxn z ns)) ∧ Below w.heap.size w w' := by
  obtain ⟨ao, cap, rfl, k1, k2, k3⟩ := h
  by_cases hl : z < 1 ∨ 2147483647 < z ∨ 1000 < ns.length
  · have : okTxn z ns = false := by
      unfold okTxn
      rcases hl with hl | hl | hl
      · rw [decide_eq_false (show ¬ 1 ≤ z by omega)]; rfl
      · rw [decide_eq_false (show ¬ z ≤ 2147483647 by omega)]; simp
      · rw [decide_eq_false (show ¬ ns.length ≤ 1000 by omega)]; simp
    rw [this]
    exact specTxn_no w z ao ns.length cap hl
  · have : okTxn z ns = okEs ns := by unfold okTxn; rw [decide_eq_true (show 1 ≤ z by omega), decide_eq_true (show z ≤ 2147483647 by omega), decide_eq_true (show ns.length ≤ 1000 by omega)]; rfl
    rw [this]
    rcases k3 with rfl | ⟨b, o, rfl, hb, hc⟩
    · exact specTxn_nil w z ao cap (by omega) (by omega)
    · exact specTxn_row w z b o ns.length cap ns (by omega) (by omega) rfl (by omega) hb hsz hc

end Go.Proofs.YtgjenbgclpmjmaaDoor

namespace Go.Proofs.YtgjenbgclpmjmaaDoor
open Go.RowKit Go.Shelf

/-- A local transaction, of a type. -/
def BxX (w : World) (B : Nat) (t : TypeId) (z : Int) (v : Value) : Prop := w.heap[B]? = some (.cells #[.int .i64 z, v] t (0, 0))
theorem BxX.lt {w : World} {B : Nat} {t : TypeId} {z : Int} {v : Value} (h : BxX w B t z v) : B < w.heap.size := (Array.getElem?_eq_some_iff.1 h).1
theorem BxX.new (w : World) (t : TypeId) (z : Int) (v : Value) : BxX (w.alloc (.cells #[.int .i64 z, v] t)) w.heap.size t z v := heap_alloc_new w _
theorem BxX.later {w w' : World} {B : Nat} {t : TypeId} {z : Int} {v : Value} (hb : Below w.heap.size w w') (h : BxX w B t z v) : BxX w' B t z v := (hb.block _ h.lt).trans h
theorem BxX.cells {w : World} {B : Nat} {t : TypeId} {z : Int} {v : Value} (h : BxX w B t z v) : w.cell? ⟨B, 0, none⟩ = some (.int .i64 z) ∧ w.cell? ⟨B, 1, none⟩ = some v := ⟨(cell_of h _).trans rfl, (cell_of h _).trans rfl⟩
theorem OwnE.keepQ {w w' : World} {lo : Nat} {v : Value} {ns : List Ef} {t : TypeId} (h : OwnE 86 w lo v ns) (hk : KT t w w') (ht : 86 ≠ t) : OwnE 86 w' lo v ns := by
  refine ⟨h.1, ?_⟩
  rcases h.2 with hn | ⟨g, cap, cur, rfl, hbg, hgg, rest⟩
  · exact .inl hn
  · exact .inr ⟨g, cap, cur, rfl, hbg, hk.box hgg ht, rest⟩
theorem OwnE.belowQ {w w' : World} {lo m : Nat} {v : Value} {ns : List Ef} (h : OwnE 86 w lo v ns) (hb : Below m w w') (hlt : ∀ g, v.ownBlock = some g → g < m) : OwnE 86 w' lo v ns := by
  refine ⟨h.1, ?_⟩
  rcases h.2 with hn | ⟨g, cap, cur, rfl, hbg, hgg, rest⟩
  · exact .inl hn
  · exact .inr ⟨g, cap, cur, rfl, hbg, (hb.block g (hlt g rfl)).trans hgg, rest⟩

end Go.Proofs.YtgjenbgclpmjmaaDoor

namespace Go.Proofs.YtgjenbgclpmjmaaDoor
open Go.RowKit Go.Shelf

/-- The boxes of a call of ApplyTxn. -/
structure ApB (s : Nat) (v : Value) (z : Int) (vx : Value) (W : World) : Prop where
  t : Boxed W s 30 v
  x : BxX W (s + 1) 41 z vx
  r : Boxed W (s + 2) 30 (.slice none 0 0)
theorem ApB.new (w : World) (v : Value) (z : Int) (vx : Value) : ApB w.heap.size v z vx (((w.alloc (.cells #[v] 30)).alloc (.cells #[.int .i64 z, vx] 41)).alloc (.cells #[.slice none 0 0] 30)) := by
  have s1 : (w.alloc (.cells #[v] 30)).heap.size = w.heap.size + 1 := by simp
  have s2 : ((w.alloc (.cells #[v] 30)).alloc (.cells #[.int .i64 z, vx] 41)).heap.size = w.heap.size + 2 := by simp
  have h2 := BxX.new (w.alloc (.cells #[v] 30)) 41 z vx
  rw [s1] at h2
  have h3 := Boxed.new ((w.alloc (.cells #[v] 30)).alloc (.cells #[.int .i64 z, vx] 41)) 30 (.slice none 0 0)
  rw [s2] at h3
  exact ⟨((Boxed.new w _ _).alloc _).alloc _, h2.later ((Below.refl _ _).alloc (Nat.le_refl _) _), h3⟩
theorem ApB.below {s m : Nat} {v : Value} {z : Int} {vx : Value} {W W' : World} (h : ApB s v z vx W) (hb : Below m W W') (hm : s + 3 ≤ m) : ApB s v z vx W' :=
  ⟨(hb.block _ (by omega)).trans h.t, (hb.block _ (by omega)).trans h.x, (hb.block _ (by omega)).trans h.r⟩
theorem ApB.size {s : Nat} {v : Value} {z : Int} {vx : Value} {W : World} (h : ApB s v z vx W) : s + 3 ≤ W.heap.size := by have := h.r.lt; omega

set_option maxHeartbeats 1000000 in
set_option maxRecDepth 100000 in
theorem specApply_any (w : World) (v : Value) (ns : List Nd) (z : Int) (vx : Value) (es : List Ef) (h : RdN w v ns) (hx : RdE w vx es) (hn : ns.length ≤ 1048576)
    (hsz : ∀ i, (nAt ns i).path.size ≤ 1048576 ∧ (nAt ns i).data.size ≤ 1048576) (hsx : ∀ i, (eAt es i).nd.path.size ≤ 1048576 ∧ (eAt es i).nd.data.size ≤ 1048576) :
    Calls Tryd.prog 49 #[.agg #[v], .agg #[.int .i64 z, vx]] w fun e w' => ∃ v', e = .returned (.agg #[v']) ∧ OwnN 81 w' w.heap.size v' (resA ns z es) ∧ Below w.heap.size w w' := by
  obtain ⟨ao, ca, rfl, _, _⟩ := h.len
  obtain ⟨xo, cx, rfl, _, _⟩ := hx.len
  have HR : Hid (RdN w (.slice ao ns.length ca) ns) := h
  have HX : Hid (RdE w (.slice xo es.length cx) es) := hx
  have HZ : Hid (∀ i, (nAt ns i).path.size ≤ 1048576 ∧ (nAt ns i).data.size ≤ 1048576) := hsz
  have HZX : Hid (∀ i, (eAt es i).nd.path.size ≤ 1048576 ∧ (eAt es i).nd.data.size ≤ 1048576) := hsx
  have B0 : Hid (Below w.heap.size w (((w.alloc (.cells #[.slice ao ns.length ca] 30)).alloc (.cells #[.int .i64 z, .slice xo es.length cx] 41)).alloc (.cells #[.slice none 0 0] 30))) := (((Below.refl _ _).alloc (Nat.le_refl _) _).alloc (by simp) _).alloc (by simp; omega) _
  have X0 : Hid (ApB w.heap.size (.slice ao ns.length ca) z (.slice xo es.length cx) (((w.alloc (.cells #[.slice ao ns.length ca] 30)).alloc (.cells #[.int .i64 z, .slice xo es.length cx] 41)).alloc (.cells #[.slice none 0 0] 30))) := ApB.new _ _ _ _
  clear h hx hsz hsx
  go_enter Tryd.func49, Tryd.ntmps49
  go_wp2_with fail
  generalize ((w.alloc (.cells #[.slice ao ns.length ca] 30)).alloc (.cells #[.int .i64 z, .slice xo es.length cx] 41)).alloc (.cells #[.slice none 0 0] 30) = w0 at *
  refine (specTree_any _ _ ns (HR.out.below B0.out) hn HZ.out).mono ?_
  rintro e w1 ⟨rfl, b1⟩
  have B1 : Hid (Below w.heap.size w w1) := B0.out.trans (b1.mono B0.out.size)
  have X1 : Hid (ApB w.heap.size (.slice ao ns.length ca) z (.slice xo es.length cx) w1) := X0.out.below b1 X0.out.size
  clear b1 X0 B0
  by_cases hok : okTree ns = true
  rotate_left
  · have hok' : okTree ns = false := by simpa using hok
    have HT : Hid (resA ns z es = []) := by show _ = _; unfold resA; rw [hok']; rfl
    rw [hok']
    clear hok hok'
    have c0 := X1.out.r.cell
    have f0 := X1.out.r.frozen
    go_wp2
    refine bodyPost_ret (v := .agg #[.slice none 0 0]) (by simp [results, Tryd.results49, go_sem, c0]) rfl ⟨_, rfl, (by rw [HT.out]; exact World.ownsRow_nil _ _ _ _), ?_⟩
    repeat (first | exact B1.out | refine Below.setCell ?_ (by simp; try omega) _)
  rw [hok]
  have cx0 := X1.out.x.cells
  go_wp2_with fail
  clear cx0
  refine (specTxn_any _ _ _ es (HX.out.below B1.out) HZX.out).mono ?_
  rintro e w2 ⟨rfl, b2⟩
  have B2 : Hid (Below w.heap.size w w2) := B1.out.trans (b2.mono B1.out.size)
  have X2 : Hid (ApB w.heap.size (.slice ao ns.length ca) z (.slice xo es.length cx) w2) := X1.out.below b2 X1.out.size
  clear b2 X1 B1
  by_cases hpp : okTxn z es = true
  rotate_left
  · have hpp' : okTxn z es = false := by simpa using hpp
    have HT : Hid (resA ns z es = []) := by show _ = _; unfold resA; rw [hpp']; simp
    rw [hpp']
    clear hpp hpp' hok
    have c0 := X2.out.r.cell
    have f0 := X2.out.r.frozen
    go_wp2
    refine bodyPost_ret (v := .agg #[.slice none 0 0]) (by simp [results, Tryd.results49, go_sem, c0]) rfl ⟨_, rfl, (by rw [HT.out]; exact World.ownsRow_nil _ _ _ _), ?_⟩
    repeat (first | exact B2.out | refine Below.setCell ?_ (by simp; try omega) _)
  have hn1 : ns.length ≤ 1000 := okTree_len hok
  have he1 : es.length ≤ 1000 := (okTxn_es hpp).2
  have HT : Hid (resA ns z es = apL ns es) := by show _ = _; unfold resA; rw [hok, hpp]; rfl
  have HA : Hid (Asc ns) := okTree_asc hok
  have HE : Hid (AscE es) := okEs_asc (okTxn_es hpp).1
  have HW0 : Hid (woN ns { data := #[] } = ns) := wo_empty (fun k hk => okTree_nd hok k hk) _ (by rw [ByteArray.toList_eq])
  rw [hpp]
  clear hok hpp
  have ct := X2.out.t.cell
  go_wp2_with fail
  clear ct
  refine (without_any _ _ ns _ (HR.out.below B2.out) (by omega)).mono ?_
  rintro e w3 ⟨v3, rfl, o3, b3⟩
  have B3 : Hid (Below w.heap.size w w3) := B2.out.trans (b3.mono B2.out.size)
  have X3 : Hid (ApB w.heap.size (.slice ao ns.length ca) z (.slice xo es.length cx) w3) := X2.out.below b3 X2.out.size
  have O3 : Hid (OwnN 81 w3 (w.heap.size + 3) v3 (apL ns (es.take 0))) := by
    have := o3.mono X2.out.size
    rw [HW0.out] at this
    exact this
  clear o3 b3 X2 B2 HW0
  generalize hen : es.length = n at *
  have HP : Hid (es.length = n) := hen
  clear hen
  go_wp2
  go_loopw [5, 6] (fun vo vk wr => ∃ k : Nat, k ≤ n ∧ vk = .int .i64 k ∧ Hid (OwnN 81 wr (w.heap.size + 3) vo (apL ns (es.take k))) ∧ Hid (Below w.heap.size w wr) ∧ Hid (ApB w.heap.size (.slice ao ns.length ca) z (.slice xo n cx) wr)) (fun _ i _ => n - (intOf i).toNat)
  case atStart => exact ⟨0, Nat.zero_le _, rfl, O3, B3, X3⟩
  case round =>
    obtain ⟨k, hk, rfl, HW, HB, HBX⟩ := hrel
    have sB := HBX.out.size
    obtain ⟨y0, y1⟩ := HBX.out.x.cells
    by_cases hlt : k < n
    · have hltI : (k : Int) < (n : Int) := by omega
      obtain ⟨b, o, hao, hb, hc⟩ : ∃ b o, xo = some ⟨b, o, none⟩ ∧ b < w.heap.size ∧ CellsE w b (o + k * 8) (eAt es k) := by
        obtain ⟨ao', cap', e', -, -, h3⟩ := HX.out
        simp only [Value.slice.injEq] at e'
        obtain ⟨rfl, -, -⟩ := e'
        rcases h3 with h3 | ⟨b, o, rfl, hb, hc⟩
        · have := HP.out; rw [h3] at this; simp at this; omega
        · exact ⟨b, o, rfl, hb, hc k (by rw [HP.out]; exact hlt)⟩
      subst hao
      obtain ⟨c0, c1, c2, c3, c4, c5, c6, c7⟩ := hc.below HB.out hb
      clear hc
      have hll : (apL ns (es.take k)).length ≤ 100000 := by
        have := apL_len HA.out HE.out k
        omega
      have HS : Hid (apL ns (es.take (k + 1)) = apQ (apL ns (es.take k)) (eAt es k)) := apL_succ ns es k (by rw [HP.out]; exact hlt)
      have HQ : Hid (apQ (apL ns (es.take k)) (eAt es k) = if (eAt es k).del then woN (apL ns (es.take k)) (eAt es k).nd.path else wiN (apL ns (es.take k)) (eAt es k).nd) := rfl
      cases hA : (eAt es k).del with
      | true =>
        rw [hA] at c0
        go_wp2_with fail
        refine (without_any _ _ _ _ HW.out.rd (by omega)).mono ?_
        rintro e w4 ⟨v4, rfl, o4, b4⟩
        have B4 : Hid (Below w.heap.size w w4) := HB.out.trans (b4.mono HB.out.size)
        have X4 : Hid (ApB w.heap.size (.slice ao ns.length ca) z (.slice (some ⟨b, o, none⟩) n cx) w4) := HBX.out.below b4 sB
        have O4 : Hid (OwnN 81 w4 (w.heap.size + 3) v4 (apL ns (es.take (k + 1)))) := by
          rw [HS.out, HQ.out, hA]
          exact o4.mono sB
        clear o4 b4 HS HQ hA HW HB HBX c0 c1 c2 c3 c4 c5 c6 c7 y0 y1
        go_wp2
        exact ⟨⟨k + 1, by omega, by go_num, O4, B4, X4⟩, by simp [intOf]; omega⟩
      | false =>
        rw [hA] at c0
        go_wp2_with fail
        refine (with_any _ _ _ _ HW.out.rd hll).mono ?_
        rintro e w4 ⟨v4, rfl, o4, b4⟩
        have B4 : Hid (Below w.heap.size w w4) := HB.out.trans (b4.mono HB.out.size)
        have X4 : Hid (ApB w.heap.size (.slice ao ns.length ca) z (.slice (some ⟨b, o, none⟩) n cx) w4) := HBX.out.below b4 sB
        have O4 : Hid (OwnN 81 w4 (w.heap.size + 3) v4 (apL ns (es.take (k + 1)))) := by
          rw [HS.out, HQ.out, hA]
          exact o4.mono sB
        clear o4 b4 HS HQ hA HW HB HBX c0 c1 c2 c3 c4 c5 c6 c7 y0 y1
        go_wp2
        exact ⟨⟨k + 1, by omega, by go_num, O4, B4, X4⟩, by simp [intOf]; omega⟩
    · have hkn : k = n := by omega
      subst hkn
      have c0 := HBX.out.r.cell
      have f0 := HBX.out.r.frozen
      have HF : Hid (OwnN 81 wr (w.heap.size + 3) u5 (resA ns z es)) := by
        have := HW.out
        rw [List.take_of_length_le (by rw [HP.out]; exact Nat.le_refl _)] at this
        rw [HT.out]
        exact this
      clear HW
      obtain ⟨a5, c5, rfl⟩ := HF.out.slice
      go_wp2
      refine bodyPost_ret (v := .agg #[.slice a5 (resA ns z es).length c5]) (by simp [results, Tryd.results49, go_sem, c0]) rfl ⟨_, rfl, ?_, ?_⟩
      · refine OwnN.mono ?_ (show w.heap.size ≤ w.heap.size + 3 by omega)
        repeat (first | exact HF.out | refine OwnN.setBelow ?_ (by simp; try omega) _)
      · repeat (first | exact HB.out | refine Below.setCell ?_ (by simp; try omega) _)

end Go.Proofs.YtgjenbgclpmjmaaDoor

namespace Go.Proofs.YtgjenbgclpmjmaaDoor
open Go.RowKit Go.Shelf

/-- A slice without an address has no room. -/
def NilOk (v : Value) : Prop := ∀ n c, v = .slice none n c → n = 0 ∧ c = 0
theorem OwnN.nilOk {e : TypeId} {w : World} {lo : Nat} {v : Value} {ns : List Nd} (h : OwnN e w lo v ns) : NilOk v := by
  intro n c hv
  rcases h.2 with ⟨rfl, _⟩ | ⟨g, cap, cur, rfl, _⟩
  · simp only [Value.slice.injEq, true_and] at hv
    exact ⟨hv.1.symm, hv.2.symm⟩
  · simp at hv
theorem nrow_take {R : List Nd} {L j : Nat} {u : Value} (h : (nrow (R.take L))[j]? = some u) : (nrow R)[j]? = some u := by
  have e : nrow R = nrow (R.take L) ++ nrow (R.drop L) := by rw [← nrow_append, List.take_append_drop]
  rw [e, List.getElem?_append_left (List.getElem?_eq_some_iff.1 h).1]
  exact h
theorem RdN.rowCells {w : World} {ao : Option Addr} {c : Nat} {R : List Nd} (h : RdN w (.slice ao R.length c) R) : ∀ ad, ao = some ad → ∀ j u, (nrow R)[j]? = some u → w.cell? (ad.add j) = some u := by
  obtain ⟨ao', c', e, -, -, h3⟩ := h
  simp only [Value.slice.injEq] at e
  obtain ⟨rfl, -, rfl⟩ := e
  intro ad had j u hu
  rcases h3 with rfl | ⟨b, o, rfl, hb, hc⟩
  · simp [nrow] at hu
  · obtain rfl := Option.some.inj had
    have hj : j < R.length * 7 := by have := (List.getElem?_eq_some_iff.1 hu).1; rw [nrow_length] at this; exact this
    have h7 : j % 7 < 7 := Nat.mod_lt _ (by decide)
    have hr := nrow_get R (j / 7) (j % 7) (by omega) h7
    rw [show j / 7 * 7 + j % 7 = j by omega, hu] at hr
    have hcc := hc (j / 7) (by omega)
    rw [Addr.add_lit]
    have e : o + j = o + j / 7 * 7 + j % 7 := by omega
    rw [e]
    clear e hu hj
    generalize j % 7 = r at *
    match r, h7 with
    | 0, _ => rw [Nat.add_zero, hcc.c0]; exact hr.symm
    | 1, _ => rw [hcc.c1]; exact hr.symm
    | 2, _ => rw [hcc.c2]; exact hr.symm
    | 3, _ => rw [hcc.c3]; exact hr.symm
    | 4, _ => rw [hcc.c4]; exact hr.symm
    | 5, _ => rw [hcc.c5]; exact hr.symm
    | 6, _ => rw [hcc.c6]; exact hr.symm
theorem ndL_ones (R : List Nd) : ∀ u ∈ nrow R, u.oneCell' = true := by
  intro u hu
  unfold nrow at hu
  obtain ⟨n, _, hn⟩ := List.mem_flatMap.1 hu
  exact ndL_one n u hn
theorem run_head (ao : Option Addr) (n c L : Nat) (h1 : L ≤ n) (h2 : n ≤ c) (W : World) : (Instr.slice 28 (.slice ao n c) none (some (.int .i64 (L : Int))) none).run Tryd.prog W = .ok (.slice ao L c) W := by
  have h : (0 : Int) ≤ (L : Int) := by omega
  have h' : (L : Int) ≤ (c : Int) := by omega
  have he : Tryd.prog.elem 28 = 81 := by kernel_rfl
  rw [run_slice_h W 28 ao n c (by rw [he]; exact Tryd.underlying28) .i64 (L : Int) h h', he]
  go_simp
theorem run_tail (ao : Option Addr) (n c L : Nat) (h1 : L ≤ n) (W : World) : (Instr.slice 28 (.slice ao n c) (some (.int .i64 (L : Int))) none none).run Tryd.prog W = .ok (.slice (if c = L then ao else ao.map (·.add (L * 7))) (n - L) (c - L)) W := by
  have h : (0 : Int) ≤ (L : Int) := by omega
  have h' : (L : Int) ≤ (n : Int) := by omega
  have he : Tryd.prog.elem 28 = 81 := by kernel_rfl
  rw [run_slice_l W 28 ao n c (by rw [he]; exact Tryd.underlying28) .i64 (L : Int) h h', he]
  go_simp
theorem slice_tail {w : World} {ao : Option Addr} {c : Nat} {R : List Nd} (h : RdN w (.slice ao R.length c) R) (hn : NilOk (.slice ao R.length c)) (L : Nat) (hL : L ≤ R.length) :
    ∃ a2, (∀ W, (Instr.slice 28 (.slice ao R.length c) (some (.int .i64 (L : Int))) none none).run Tryd.prog W = .ok (.slice a2 (R.length - L) (c - L)) W) ∧ RdN w (.slice a2 (R.length - L) (c - L)) (R.drop L) ∧ NilOk (.slice a2 (R.length - L) (c - L)) := by
  obtain ⟨ao', c', e, h1, h2, h3⟩ := h
  simp only [Value.slice.injEq] at e
  obtain ⟨rfl, -, rfl⟩ := e
  refine ⟨if c = L then ao else ao.map (·.add (L * 7)), run_tail ao _ c L hL, ⟨_, _, by rw [List.length_drop], by rw [List.length_drop]; omega, by omega, ?_⟩, ?_⟩
  · rcases h3 with rfl | ⟨b, o, rfl, hb, hc⟩
    · exact .inl (by simp)
    · by_cases hcl : c = L
      · exact .inl (List.drop_eq_nil_of_le (by omega))
      · refine .inr ⟨b, o + L * 7, by rw [if_neg hcl, Option.map_some, Addr.add_lit], hb, fun i hi => ?_⟩
        rw [List.length_drop] at hi
        have := hc (L + i) (by omega)
        have e1 : nAt (R.drop L) i = nAt R (L + i) := by unfold nAt; simp [List.getD]
        rw [e1, show o + L * 7 + i * 7 = o + (L + i) * 7 by omega]
        exact this
  · intro n' c2 hv
    simp only [Value.slice.injEq] at hv
    obtain ⟨ha, rfl, rfl⟩ := hv
    have hao : ao = none := by
      by_cases hcl : c = L
      · rw [if_pos hcl] at ha; exact ha
      · rw [if_neg hcl] at ha; simpa using ha
    subst hao
    have := hn _ _ rfl
    omega
theorem apI_rest (ns : List Nd) (es : List Ef) : (apI ns es).2.length ≤ ns.length := by
  have : ∀ (es : List Ef) (st : List Nd × List Nd), (es.foldl apS st).2.length ≤ st.2.length := by
    intro es
    induction es with
    | nil => exact fun st => Nat.le_refl _
    | cons e es ih =>
      intro st
      rw [List.foldl_cons]
      refine Nat.le_trans (ih _) ?_
      unfold apS
      rw [List.length_drop]
      omega
  exact this es ([], ns)
theorem BoxE.grown {w w' : World} {B g : Nat} {n : Ef} (h : BoxE w B n) (hg : w.grownBy w' (some g)) (hne : B ≠ g) : BoxE w' B n := by
  have e := hg.block B h.lt (by simpa using hne)
  have cc : ∀ i, w'.cell? ⟨B, i, none⟩ = w.cell? ⟨B, i, none⟩ := fun i => by simp [World.cell?, e]
  have hs : w.heap.size ≤ w'.heap.size := hg.size
  exact ⟨Nat.lt_of_lt_of_le h.lt hs, (cc _).trans h.c0, (cc _).trans h.c1, (cc _).trans h.c2, (cc _).trans h.c3, (cc _).trans h.c4, (cc _).trans h.c5, (cc _).trans h.c6, (cc _).trans h.c7⟩

/-- What a call of ApplyTxn holds behind k effects. -/
structure ApS (w : World) (g C : Nat) (st : List Nd × List Nd) (v : Value) (z : Int) (vx : Value) (vo vr : Value) (W : World) : Prop where
  own : W.ownsRow (w.heap.size + 3) 81 7 vo st.1.length (nrow st.1)
  head : vo = .slice (some ⟨g, 0, none⟩) st.1.length C
  rest : RdN w vr st.2
  nil : NilOk vr
  below : Below w.heap.size w W
  box : ApB w.heap.size v z vx W

set_option maxHeartbeats 2000000 in
set_option maxRecDepth 100000 in
theorem implApply_any (w : World) (v : Value) (ns : List Nd) (z : Int) (vx : Value) (es : List Ef) (h : RdN w v ns) (hnil : NilOk v) (hx : RdE w vx es)
    (hsz : ∀ i, (nAt ns i).path.size ≤ 1048576 ∧ (nAt ns i).data.size ≤ 1048576) (hsx : ∀ i, (eAt es i).nd.path.size ≤ 1048576 ∧ (eAt es i).nd.data.size ≤ 1048576) :
    Calls Tryd.prog 50 #[.agg #[v], .agg #[.int .i64 z, vx]] w fun e w' => ∃ v', e = .returned (.agg #[v']) ∧ OwnN 81 w' w.heap.size v' (resA ns z es) ∧ Below w.heap.size w w' := by
  obtain ⟨i0, hi, hz0, hz1, hz2⟩ := info_parts Tryd.infoN
  obtain ⟨ao, ca, rfl, _, _⟩ := h.len
  obtain ⟨xo, cx, rfl, _, _⟩ := hx.len
  have HR : Hid (RdN w (.slice ao ns.length ca) ns) := h
  have HX : Hid (RdE w (.slice xo es.length cx) es) := hx
  have HN : Hid (NilOk (.slice ao ns.length ca)) := hnil
  have HZ : Hid (∀ i, (nAt ns i).path.size ≤ 1048576 ∧ (nAt ns i).data.size ≤ 1048576) := hsz
  have HZX : Hid (∀ i, (eAt es i).nd.path.size ≤ 1048576 ∧ (eAt es i).nd.data.size ≤ 1048576) := hsx
  have B0 : Hid (Below w.heap.size w (((w.alloc (.cells #[.slice ao ns.length ca] 30)).alloc (.cells #[.int .i64 z, .slice xo es.length cx] 41)).alloc (.cells #[.slice none 0 0] 30))) := (((Below.refl _ _).alloc (Nat.le_refl _) _).alloc (by simp) _).alloc (by simp; omega) _
  have X0 : Hid (ApB w.heap.size (.slice ao ns.length ca) z (.slice xo es.length cx) (((w.alloc (.cells #[.slice ao ns.length ca] 30)).alloc (.cells #[.int .i64 z, .slice xo es.length cx] 41)).alloc (.cells #[.slice none 0 0] 30))) := ApB.new _ _ _ _
  clear h hx hsz hsx hnil
  go_enter Tryd.func50, Tryd.ntmps50
  go_wp2_with fail
  generalize ((w.alloc (.cells #[.slice ao ns.length ca] 30)).alloc (.cells #[.int .i64 z, .slice xo es.length cx] 41)).alloc (.cells #[.slice none 0 0] 30) = w0 at *
  refine (implTree_any _ _ ns (HR.out.below B0.out) HZ.out).mono ?_
  rintro e w1 ⟨rfl, b1⟩
  have B1 : Hid (Below w.heap.size w w1) := B0.out.trans (b1.mono B0.out.size)
  have X1 : Hid (ApB w.heap.size (.slice ao ns.length ca) z (.slice xo es.length cx) w1) := X0.out.below b1 X0.out.size
  clear b1 X0 B0
  by_cases hok : okTree ns = true
  rotate_left
  · have hok' : okTree ns = false := by simpa using hok
    have HT : Hid (resA ns z es = []) := by show _ = _; unfold resA; rw [hok']; rfl
    rw [hok']
    clear hok hok'
    have c0 := X1.out.r.cell
    have f0 := X1.out.r.frozen
    go_wp2
    refine bodyPost_ret (v := .agg #[.slice none 0 0]) (by simp [results, Tryd.results50, go_sem, c0]) rfl ⟨_, rfl, (by rw [HT.out]; exact World.ownsRow_nil _ _ _ _), ?_⟩
    repeat (first | exact B1.out | refine Below.setCell ?_ (by simp; try omega) _)
  rw [hok]
  have cx0 := X1.out.x.cells
  go_wp2_with fail
  clear cx0
  refine (implTxn_any _ _ _ es (HX.out.below B1.out) HZX.out).mono ?_
  rintro e w2 ⟨rfl, b2⟩
  have B2 : Hid (Below w.heap.size w w2) := B1.out.trans (b2.mono B1.out.size)
  have X2 : Hid (ApB w.heap.size (.slice ao ns.length ca) z (.slice xo es.length cx) w2) := X1.out.below b2 X1.out.size
  clear b2 X1 B1
  by_cases hpp : okTxn z es = true
  rotate_left
  · have hpp' : okTxn z es = false := by simpa using hpp
    have HT : Hid (resA ns z es = []) := by show _ = _; unfold resA; rw [hpp']; simp
    rw [hpp']
    clear hpp hpp' hok
    have c0 := X2.out.r.cell
    have f0 := X2.out.r.frozen
    go_wp2
    refine bodyPost_ret (v := .agg #[.slice none 0 0]) (by simp [results, Tryd.results50, go_sem, c0]) rfl ⟨_, rfl, (by rw [HT.out]; exact World.ownsRow_nil _ _ _ _), ?_⟩
    repeat (first | exact B2.out | refine Below.setCell ?_ (by simp; try omega) _)
  have hn1 : ns.length ≤ 1000 := okTree_len hok
  have he1 : es.length ≤ 1000 := (okTxn_es hpp).2
  have HT : Hid (resA ns z es = apL ns es) := by show _ = _; unfold resA; rw [hok, hpp]; rfl
  have HA : Hid (Asc ns) := okTree_asc hok
  have HE : Hid (AscE es) := okEs_asc (okTxn_es hpp).1
  rw [hpp]
  clear hok hpp
  have ct := X2.out.t.cell
  obtain ⟨y0, y1⟩ := X2.out.x.cells
  have s2 := X2.out.size
  generalize hen : es.length = n at *
  have HP : Hid (es.length = n) := hen
  clear hen
  generalize hnn : ns.length = m at *
  have HM : Hid (ns.length = m) := hnn
  clear hnn
  go_wp2_with (at_make; go_must (refine wpList_make_own _ rfl _ _ 28 rfl (w.heap.size + 3) 81 i0 (.agg #[.string ByteArray.empty, .string ByteArray.empty, .int .i64 0, .int .i64 0, .int .i64 0, .int .i64 0, .int .i64 0]) 7 Tryd.underlying28 hi hz0 hz1 _ _ _ (m + n) rfl rfl ?c0 ?b2 ?b3 ?b4 ?_))
  case c0 => omega
  case b2 => rw [hz2]; omega
  case b3 => unfold maxLen; omega
  case b4 => exact s2
  intro w3 ho3 hg3
  have BG : Hid (Below w2.heap.size w2 w3) := (Below.refl _ _).grown hg3 (Nat.le_refl _) (fun q hq => by simp at hq)
  have S3 : Hid (ApS w w2.heap.size (m + n) (apI ns (es.take 0)) (.slice ao m ca) z (.slice xo n cx) (.slice (some ⟨w2.heap.size, 0, none⟩) 0 (m + n)) (.slice ao m ca) w3) := ⟨ho3, rfl, HR.out, HN.out, B2.out.trans (BG.out.mono B2.out.size), X2.out.below BG.out s2⟩
  clear ho3 hg3 BG ct y0 y1
  have ct := S3.out.box.t.cell
  obtain ⟨y0, y1⟩ := S3.out.box.x.cells
  generalize hg : w2.heap.size = g at *
  clear X2 B2 hg
  go_wp2
  go_loopw [5, 6, 33] (fun vo vr vk wr => ∃ k : Nat, k ≤ n ∧ vk = .int .i64 k ∧ Hid (ApS w g (m + n) (apI ns (es.take k)) (.slice ao m ca) z (.slice xo n cx) vo vr wr)) (fun _ _ i _ => n - (intOf i).toNat)
  case atStart => exact ⟨0, Nat.zero_le _, rfl, S3⟩
  case round =>
    clear ct y0 y1 S3
    obtain ⟨k, hk, rfl, HS⟩ := hrel
    obtain ⟨A, R, hAR⟩ : ∃ A R, apI ns (es.take k) = (A, R) := ⟨_, _, rfl⟩
    have hlen : A.length + R.length ≤ m + k := by
      have := apI_len ns es k
      rw [hAR, HM.out] at this
      exact this
    have hrl : R.length ≤ m := by
      have := apI_rest ns (es.take k)
      rw [hAR, HM.out] at this
      exact this
    have HAsc : Hid (Asc R) := by
      have := apI_asc HA.out (es.take k)
      rw [hAR] at this
      exact this
    have HAR : Hid (apI ns (es.take k) = (A, R)) := hAR
    rw [hAR] at HS
    clear hAR
    obtain ⟨OW0, hd0, RR0, NN0, HB0, HBX0⟩ := HS.out
    obtain ⟨ro, rc, h6, hr1, hr2⟩ := RR0.len
    have OW : Hid (OwnN 81 wr (w.heap.size + 3) (.slice (some ⟨g, 0, none⟩) A.length (m + n)) A) := by rw [hd0] at OW0; exact OW0
    have RR : Hid (RdN w (.slice ro R.length rc) R) := by rw [h6] at RR0; exact RR0
    have NN : Hid (NilOk (.slice ro R.length rc)) := by rw [h6] at NN0; exact NN0
    have HB : Hid (Below w.heap.size w wr) := HB0
    have HBX : Hid (ApB w.heap.size (.slice ao m ca) z (.slice xo n cx) wr) := HBX0
    have hr1' : R.length ≤ rc := hr1
    replace hd0 : u5 = .slice (some ⟨g, 0, none⟩) A.length (m + n) := hd0
    replace h6 : u6 = .slice ro R.length rc := h6
    subst hd0 h6
    clear OW0 RR0 NN0 HB0 HBX0 HS hr1 hr2
    have sB := HB.out.size
    have hgl : g < wr.heap.size := (World.ownsRow.lt OW.out g rfl).2
    by_cases hlt : k < n
    · have hltI : (k : Int) < (n : Int) := by omega
      obtain ⟨b, o, hao, hb, hc⟩ : ∃ b o, xo = some ⟨b, o, none⟩ ∧ b < w.heap.size ∧ CellsE w b (o + k * 8) (eAt es k) := by
        obtain ⟨ao', cap', e', -, -, h3⟩ := HX.out
        simp only [Value.slice.injEq] at e'
        obtain ⟨rfl, -, -⟩ := e'
        rcases h3 with h3 | ⟨b, o, rfl, hb, hc⟩
        · have := HP.out; rw [h3] at this; simp at this; omega
        · exact ⟨b, o, rfl, hb, hc k (by rw [HP.out]; exact hlt)⟩
      subst hao
      obtain ⟨c0, c1, c2, c3, c4, c5, c6, c7⟩ := hc.below HB.out hb
      clear hc
      have HS1 : Hid (apI ns (es.take (k + 1)) = apS (A, R) (eAt es k)) := by
        show _ = _
        rw [← HAR.out]
        exact apI_succ ns es k (by rw [HP.out]; exact hlt)
      clear HAR
      go_wp2_with fail
      clear c0 c1 c2 c3 c4 c5 c6 c7
      generalize eAt es k = f at *
      have BA : Hid (Below wr.heap.size wr (wr.alloc (.cells #[.bool f.del, .string f.nd.path, .string f.nd.data, .int .i64 f.nd.ver, .int .i64 f.nd.cver, .int .i64 f.nd.cz, .int .i64 f.nd.mz, .int .i64 f.nd.pz] 86))) := (Below.refl _ _).alloc (Nat.le_refl _) _
      have EX : Hid (BoxE (wr.alloc (.cells #[.bool f.del, .string f.nd.path, .string f.nd.data, .int .i64 f.nd.ver, .int .i64 f.nd.cver, .int .i64 f.nd.cz, .int .i64 f.nd.mz, .int .i64 f.nd.pz] 86)) wr.heap.size f) := BoxE.new _ _ _
      generalize wr.alloc (.cells #[.bool f.del, .string f.nd.path, .string f.nd.data, .int .i64 f.nd.ver, .int .i64 f.nd.cver, .int .i64 f.nd.cz, .int .i64 f.nd.mz, .int .i64 f.nd.pz] 86) = wA at *
      generalize hB : wr.heap.size = B at *
      have HG : Hid (B ≠ g) := by show _ ≠ _; omega
      have OWA : Hid (OwnN 81 wA (w.heap.size + 3) (.slice (some ⟨g, 0, none⟩) A.length (m + n)) A) := OW.out.below (hB ▸ BA.out)
      have B1 : Hid (Below w.heap.size w wA) := HB.out.trans (BA.out.mono sB)
      have X1 : Hid (ApB w.heap.size (.slice ao m ca) z (.slice (some ⟨b, o, none⟩) n cx) wA) := HBX.out.below BA.out (by omega)
      clear OW HB HBX BA hB
      obtain ⟨L, hL⟩ : ∃ L, L = plc R f.nd.path := ⟨_, rfl⟩
      have hLR : L ≤ R.length := by rw [hL]; exact plc_le _ _
      have HLow : Hid (Low R f.nd.path L) := by rw [hL]; exact low_plc R _ HAsc.out
      have HS2 : Hid (apI ns (es.take (k + 1)) = (A ++ R.take L ++ (if f.del then [] else [f.nd]), R.drop (L + if fnd R f.nd.path L then 1 else 0))) := by
        show _ = _
        rw [HS1.out, hL]
        rfl
      have HF1 : Hid (fnd R f.nd.path L = true → L < R.length) := by
        intro hh
        unfold fnd at hh
        simp only [Bool.and_eq_true, decide_eq_true_eq] at hh
        exact hh.1
      clear HS1 hL
      refine (findNode_any wA _ R f.nd.path L (RR.out.below B1.out) (by omega) HLow.out).mono ?_
      rintro e w4 ⟨rfl, b4⟩
      have OW4 : Hid (OwnN 81 w4 (w.heap.size + 3) (.slice (some ⟨g, 0, none⟩) A.length (m + n)) A) := OWA.out.below b4
      have B4 : Hid (Below w.heap.size w w4) := B1.out.trans (b4.mono B1.out.size)
      have X4 : Hid (ApB w.heap.size (.slice ao m ca) z (.slice (some ⟨b, o, none⟩) n cx) w4) := X1.out.below b4 X1.out.size
      have E4 : Hid (BoxE w4 B f) := EX.out.below b4
      clear b4 OWA B1 X1 EX
      have hs1 := run_head ro R.length rc L hLR hr1'
      go_wp2_with (at_builtin; go_must (refine wpList_append_fits_any _ rfl _ _ 28 rfl (w.heap.size + 3) 81 i0 7 Tryd.underlying28 hi hz1 g A.length (m + n) (nrow A) rfl OW4.out ro L rc (nrow (R.take L)) rfl ?n1 ?n2 ?n3 ?n4 ?n5 ?_))
      case n1 => rw [nrow_length, List.length_take]; omega
      case n2 => exact fun e => by have := NN.out R.length rc (by rw [e]); omega
      case n3 => exact fun ad had j u hu => (RR.out.below B4.out).rowCells ad had j u (nrow_take hu)
      case n4 => exact ndL_ones _
      case n5 => omega
      intro w5 ho5 hg5
      have OW5 : Hid (OwnN 81 w5 (w.heap.size + 3) (.slice (some ⟨g, 0, none⟩) (A.length + L) (m + n)) (A ++ R.take L)) := by
        show World.ownsRow _ _ _ _ _ _ _
        rw [List.length_append, List.length_take, Nat.min_eq_left hLR, nrow_append]
        exact ho5
      have B5 : Hid (Below w.heap.size w w5) := B4.out.grown hg5 B4.out.size (fun q hq => by simp only [Option.some.injEq] at hq; omega)
      have X5 : Hid (ApB w.heap.size (.slice ao m ca) z (.slice (some ⟨b, o, none⟩) n cx) w5) := X4.out.below ((Below.refl (w.heap.size + 3) w4).grown hg5 X4.out.size (fun q hq => by simp only [Option.some.injEq] at hq; omega)) (Nat.le_refl _)
      have E5 : Hid (BoxE w5 B f) := E4.out.grown hg5 HG.out
      have G5 : g < w5.heap.size := (World.ownsRow.lt OW5.out g rfl).2
      clear ho5 hg5 OW4 B4 X4 E4 hs1
      obtain ⟨a2, hs2, r2, n2⟩ := slice_tail RR.out NN.out L hLR
      have R2 : Hid (RdN w (.slice a2 (R.length - L) (rc - L)) (R.drop L)) := r2
      have N2 : Hid (NilOk (.slice a2 (R.length - L) (rc - L))) := n2
      clear r2 n2
      obtain ⟨e0, e1, e2, e3, e4, e5, e6, e7⟩ := E5.out.all
      obtain ⟨vr, Rn, hw⟩ : ∃ vr Rn, (Rn = R.drop (L + if fnd R f.nd.path L then 1 else 0) ∧ Hid (RdN w vr Rn) ∧ Hid (NilOk vr)) ∧ ((fnd R f.nd.path L = false ∧ vr = .slice a2 (R.length - L) (rc - L)) ∨ (fnd R f.nd.path L = true ∧ ∀ W, (Instr.slice 28 (.slice a2 (R.length - L) (rc - L)) (some (.int .i64 1)) none none).run Tryd.prog W = .ok vr W)) := by
        cases hf : fnd R f.nd.path L with
        | false => exact ⟨_, _, ⟨rfl, R2, N2⟩, .inl ⟨rfl, rfl⟩⟩
        | true =>
          have hl := HF1.out hf
          have R2' : RdN w (.slice a2 (R.drop L).length (rc - L)) (R.drop L) := by rw [List.length_drop]; exact R2.out
          have N2' : NilOk (.slice a2 (R.drop L).length (rc - L)) := by rw [List.length_drop]; exact N2.out
          obtain ⟨a3, hs3, r3, n3⟩ := slice_tail R2' N2' 1 (by rw [List.length_drop]; omega)
          rw [List.length_drop] at hs3 r3 n3
          rw [List.drop_drop] at r3
          exact ⟨_, _, ⟨rfl, r3, n3⟩, .inr ⟨rfl, hs3⟩⟩
      obtain ⟨⟨hRn, R3, N3⟩, hw⟩ := hw
      have HS3 : Hid (apI ns (es.take (k + 1)) = (A ++ R.take L ++ (if f.del then [] else [f.nd]), Rn)) := by rw [hRn]; exact HS2.out
      have HLT : Hid ((A ++ R.take L).length = A.length + L) := by show _ = _; rw [List.length_append, List.length_take, Nat.min_eq_left hLR]
      clear HS2 hRn
      cases hdel : f.del with
      | true =>
        rw [hdel] at e0
        have S9 : Hid (ApS w g (m + n) (apI ns (es.take (k + 1))) (.slice ao m ca) z (.slice (some ⟨b, o, none⟩) n cx) (.slice (some ⟨g, 0, none⟩) (A.length + L) (m + n)) vr w5) := by
          have e9 : apI ns (es.take (k + 1)) = (A ++ R.take L, Rn) := by rw [HS3.out, hdel]; simp
          rw [e9]
          exact ⟨OW5.out, by rw [HLT.out], R3.out, N3.out, B5.out, X5.out⟩
        clear HS3 HLT OW5 R3 N3 B5 X5 R2 N2
        rcases hw with ⟨hf, rfl⟩ | ⟨hf, hs3⟩
        · rw [hf]
          go_wp2
          exact ⟨⟨k + 1, by omega, by go_num, S9⟩, by simp [intOf]; omega⟩
        · rw [hf]
          go_wp2
          exact ⟨⟨k + 1, by omega, by go_num, S9⟩, by simp [intOf]; omega⟩
      | false =>
        rw [hdel] at e0
        have FIN : Hid (∀ w', w'.ownsRow (w.heap.size + 3) 81 7 (.slice (some ⟨g, 0, none⟩) (A.length + L + 1) (m + n)) (A.length + L + 1) (nrow (A ++ R.take L) ++ ndL f.nd) → ∀ t, (w5.alloc (.cells #[.string f.nd.path, .string f.nd.data, .int .i64 f.nd.ver, .int .i64 f.nd.cver, .int .i64 f.nd.cz, .int .i64 f.nd.mz, .int .i64 f.nd.pz] t)).grownBy w' (some g) → Hid (ApS w g (m + n) (apI ns (es.take (k + 1))) (.slice ao m ca) z (.slice (some ⟨b, o, none⟩) n cx) (.slice (some ⟨g, 0, none⟩) (A.length + L + 1) (m + n)) vr w')) := by
          intro w' how t hgw
          have e9 : apI ns (es.take (k + 1)) = (A ++ R.take L ++ [f.nd], Rn) := by rw [HS3.out, hdel]; simp
          have el : (A ++ R.take L ++ [f.nd]).length = A.length + L + 1 := by rw [List.length_append, HLT.out]; rfl
          rw [e9]
          have hb3 : Below (w.heap.size + 3) w5 w' := ((Below.refl (w.heap.size + 3) w5).alloc X5.out.size _).grown hgw (by have := X5.out.size; simp; omega) (fun q hq => by simp only [Option.some.injEq] at hq; omega)
          refine ⟨?_, ?_, R3.out, N3.out, B5.out.trans (hb3.mono (by omega)), X5.out.below hb3 (Nat.le_refl _)⟩
          · show World.ownsRow _ _ _ _ _ (A ++ R.take L ++ [f.nd]).length (nrow (A ++ R.take L ++ [f.nd]))
            rw [el, nrow_one]
            exact how
          · show _ = Value.slice _ (A ++ R.take L ++ [f.nd]).length _
            rw [el]
        have OR : Hid (w5.ownsRow (w.heap.size + 3) 81 7 (.slice (some ⟨g, 0, none⟩) (A.length + L) (m + n)) (A.length + L) (nrow (A ++ R.take L))) := by
          have := OW5.out
          unfold OwnN at this
          rw [HLT.out] at this
          exact this
        clear HS3 HLT OW5 R3 N3 R2 N2
        rcases hw with ⟨hf, rfl⟩ | ⟨hf, hs3⟩
        · rw [hf]
          go_wp2_with (at_builtin; go_must (refine wpList_append_fits _ rfl _ _ 28 rfl (w.heap.size + 3) 81 i0 7 Tryd.underlying28 hi hz1 g (A.length + L) (m + n) _ rfl (OR.out.alloc _) ⟨w5.heap.size, 0, none⟩ 1 1 (ndL f.nd) rfl rfl (ndL_cells w5 f.nd _) (ndL_one f.nd) ?q1 ?_))
          case q1 => omega
          intro w6 ho6 hg6
          have S9 := FIN.out w6 ho6 _ hg6
          clear FIN OR ho6 hg6 e0 e1 e2 e3 e4 e5 e6 e7
          go_wp2
          exact ⟨⟨k + 1, by omega, by go_num, S9⟩, by simp [intOf]; omega⟩
        · rw [hf]
          go_wp2_with (at_builtin; go_must (refine wpList_append_fits _ rfl _ _ 28 rfl (w.heap.size + 3) 81 i0 7 Tryd.underlying28 hi hz1 g (A.length + L) (m + n) _ rfl (OR.out.alloc _) ⟨w5.heap.size, 0, none⟩ 1 1 (ndL f.nd) rfl rfl (ndL_cells w5 f.nd _) (ndL_one f.nd) ?q2 ?_))
          case q2 => have := HF1.out hf; omega
          intro w6 ho6 hg6
          have S9 := FIN.out w6 ho6 _ hg6
          clear FIN OR ho6 hg6 e0 e1 e2 e3 e4 e5 e6 e7
          go_wp2
          exact ⟨⟨k + 1, by omega, by go_num, S9⟩, by simp [intOf]; omega⟩
    · have hkn : k = n := by omega
      subst hkn
      have HF : Hid (A ++ R = resA ns z es) := by
        have := apI_all HA.out HE.out HP.out
        rw [HAR.out] at this
        rw [HT.out]
        exact this
      clear HAR
      go_wp2_with (at_builtin; go_must (refine wpList_append_fits_any _ rfl _ _ 28 rfl (w.heap.size + 3) 81 i0 7 Tryd.underlying28 hi hz1 g A.length (m + k) (nrow A) rfl OW.out ro R.length rc (nrow R) rfl ?m1 ?m2 ?m3 ?m4 ?m5 ?_))
      case m1 => rw [nrow_length]
      case m2 => exact fun e => NN.out R.length rc (by rw [e])
      case m3 => exact fun ad had j u hu => (RR.out.below HB.out).rowCells ad had j u hu
      case m4 => exact ndL_ones _
      case m5 => omega
      intro w5 ho5 hg5
      have OW5 : Hid (OwnN 81 w5 (w.heap.size + 3) (.slice (some ⟨g, 0, none⟩) (A.length + R.length) (m + k)) (resA ns z es)) := by
        rw [← HF.out]
        show World.ownsRow _ _ _ _ _ _ _
        rw [List.length_append, nrow_append]
        exact ho5
      have B5 : Hid (Below w.heap.size w w5) := HB.out.grown hg5 HB.out.size (fun q hq => by simp only [Option.some.injEq] at hq; omega)
      have X5 : Hid (ApB w.heap.size (.slice ao m ca) z (.slice xo k cx) w5) := HBX.out.below ((Below.refl (w.heap.size + 3) wr).grown hg5 HBX.out.size (fun q hq => by simp only [Option.some.injEq] at hq; omega)) (Nat.le_refl _)
      clear ho5 hg5 OW HB HBX
      have c0 := X5.out.r.cell
      have f0 := X5.out.r.frozen
      go_wp2
      refine bodyPost_ret (v := .agg #[.slice (some ⟨g, 0, none⟩) (A.length + R.length) (m + k)]) (by simp [results, Tryd.results50, go_sem, c0]) rfl ⟨_, rfl, ?_, ?_⟩
      · refine OwnN.mono ?_ (show w.heap.size ≤ w.heap.size + 3 by omega)
        repeat (first | exact OW5.out | refine OwnN.setBelow ?_ (by simp; try omega) _)
      · repeat (first | exact B5.out | refine Below.setCell ?_ (by simp; try omega) _)

end Go.Proofs.YtgjenbgclpmjmaaDoor

namespace Go.Proofs.YtgjenbgclpmjmaaDoor
open Go.RowKit

def digsF : Nat → Nat → List UInt8 → List UInt8
  | 0, _, acc => acc
  | f + 1, k, acc => if k = 0 then acc else digsF f (k / 10) (UInt8.ofNat (48 + k % 10) :: acc)
theorem digsF_more : ∀ (f g k : Nat) (acc : List UInt8), k ≤ f → k ≤ g → digsF f k acc = digsF g k acc
  | 0, g, k, acc, h1, h2 => by
    obtain rfl : k = 0 := by omega
    cases g <;> simp [digsF]
  | f + 1, 0, k, acc, h1, h2 => by
    obtain rfl : k = 0 := by omega
    simp [digsF]
  | f + 1, g + 1, k, acc, h1, h2 => by
    unfold digsF
    by_cases h : k = 0
    · rw [if_pos h, if_pos h]
    · rw [if_neg h, if_neg h]
      exact digsF_more f g (k / 10) _ (by omega) (by omega)
def digs (k : Nat) (acc : List UInt8) : List UInt8 := digsF k k acc
theorem digs_zero (acc : List UInt8) : digs 0 acc = acc := rfl
theorem digs_pos {k : Nat} (h : 0 < k) (acc : List UInt8) : digs k acc = digs (k / 10) (UInt8.ofNat (48 + k % 10) :: acc) := by
  unfold digs
  obtain ⟨j, rfl⟩ : ∃ j, k = j + 1 := ⟨k - 1, by omega⟩
  conv => lhs; unfold digsF
  rw [if_neg (by omega)]
  exact digsF_more _ _ _ _ (by omega) (Nat.le_refl _)
def mtx (k : Nat) : ByteArray := if k = 0 then ⟨#[109, 48]⟩ else ⟨(109 :: digs k []).toArray⟩

theorem ba_app (a b : List UInt8) : (⟨a.toArray⟩ ++ ⟨b.toArray⟩ : ByteArray) = ⟨(a ++ b).toArray⟩ := by
  apply ByteArray.ext
  simp [ByteArray.data_append]

set_option maxHeartbeats 1000000 in
set_option maxRecDepth 100000 in
theorem markText_any (w : World) (k : Nat) (h : k ≤ 1099511627776) :
    Calls Tryd.prog 85 #[.int .i64 k] w fun e w' => e = .returned (.string (mtx k)) ∧ Below w.heap.size w w' := by
  go_enter Tryd.func85, Tryd.ntmps85
  by_cases h0 : k = 0
  · subst h0
    go_wp2
    go_ret
    exact ⟨rfl, Below.refl _ _⟩
  · have hI : ¬ (k : Int) ≤ 0 := by omega
    go_wp2
    go_loopw [0, 3] (fun vk vo wr => ∃ (j d : Nat) (acc : List UInt8), vk = .int .i64 j ∧ vo = .string ⟨acc.toArray⟩ ∧ j < 10 ^ d ∧ acc.length + d ≤ 13 ∧ j ≤ 1099511627776 ∧ Hid (digs j acc = digs k []) ∧ Hid (Below w.heap.size w wr)) (fun i _ _ => (intOf i).toNat)
    case atStart => exact ⟨k, 13, [], rfl, rfl, by omega, by simp, h, rfl, Below.refl _ _⟩
    case round =>
      obtain ⟨j, d, acc, rfl, rfl, hjd, had, hj, HD, HB⟩ := hrel
      by_cases hp : 0 < j
      · have hpI : (0 : Int) < (j : Int) := by omega
        obtain ⟨u, hu⟩ : ∃ u, u = UInt8.ofNat (48 + j % 10) := ⟨_, rfl⟩
        have HD2 : Hid (digs (j / 10) (u :: acc) = digs k []) := by show _ = _; rw [hu, ← digs_pos hp]; exact HD.out
        have hcv : (convert 45 9 (.slice (some ⟨wr.heap.size, 0, none⟩) 1 1)).run Tryd.prog (wr.alloc (.cells #[.int .u8 (48 + (j : Int) % 10)] 5)) = .ok (.string ⟨[u].toArray⟩) (wr.alloc (.cells #[.int .u8 (48 + (j : Int) % 10)] 5)) := by
          have O1 : Own .u8 5 (wr.alloc (.cells #[.int .u8 (48 + (j : Int) % 10)] 5)) wr.heap.size (.slice (some ⟨wr.heap.size, 0, none⟩) 1 1) [48 + (j : Int) % 10] := World.ownsRow_lit wr #[.int .u8 (48 + (j : Int) % 10)] 1 (Nat.le_refl _) (by unfold maxLen; omega) rfl
          have := conv_any O1.rd
          rw [this]
          have e : (48 + (j : Int) % 10).toNat = 48 + j % 10 := by omega
          rw [hu]
          simp only [strOfNums, List.map_cons, List.map_nil, e]
        clear hu
        obtain ⟨d', rfl⟩ : ∃ d', d = d' + 1 := by
          cases d with
          | zero => simp at hjd; omega
          | succ d' => exact ⟨d', rfl⟩
        rw [Nat.pow_succ] at hjd
        have HJ : Hid (j / 10 < 10 ^ d') := by show _ < _; omega
        clear hjd
        go_wp2
        refine ⟨⟨j / 10, d', u :: acc, by rw [show ((j / 10 : Nat) : Int) = (j : Int) / 10 by omega], congrArg Value.string (ba_app [u] acc), HJ.out, by simp; omega, by omega, HD2, HB.out.alloc HB.out.size _⟩, ?_⟩
        simp [intOf]
        omega
      · have hj0 : j = 0 := by omega
        subst hj0
        clear hI
        go_wp2
        go_ret
        refine ⟨?_, HB.out⟩
        have e := HD.out
        rw [digs_zero] at e
        rw [e, mtx, if_neg h0]
        exact congrArg (fun x => Ending.returned (.string x)) (ba_app [109] (digs k []))

end Go.Proofs.YtgjenbgclpmjmaaDoor

namespace Go.Proofs.YtgjenbgclpmjmaaDoor
open Go.RowKit Go.Shelf

theorem rowcell {w : World} {lo g n cap z : Nat} {e : TypeId} {us : List Value} (h : w.ownsRow lo e z (.slice (some ⟨g, 0, none⟩) n cap) n us) (i : Nat) (hi : i < n * z) : ∃ u, w.cell? ⟨g, i, none⟩ = some u ∧ w.frozen? ⟨g, i, none⟩ = false := by
  have hl : i < us.length := by rw [h.1]; exact hi
  have h1 := World.ownsRow.cells h (g := g) rfl i us[i] (List.getElem?_eq_getElem hl)
  rw [Addr.add_lit, Nat.zero_add] at h1
  exact ⟨_, h1, World.ownsRow.frozenAt h i⟩
theorem row_keep {w w' : World} {lo n z : Nat} {e : TypeId} {v : Value} {us : List Value} (ho : w.ownsRow lo e z v n us) (hb : Below w.heap.size w w') : w'.ownsRow lo e z v n us := by
  refine ⟨ho.1, ?_⟩
  rcases ho.2 with hn | ⟨g, cap, cur, rfl, hbg, hgg, rest⟩
  · exact .inl hn
  · exact .inr ⟨g, cap, cur, rfl, hbg, by rw [hb.block g (Array.getElem?_eq_some_iff.1 hgg).1]; exact hgg, rest⟩
/-- A row that is written on the way. -/
def RowW (w : World) (lo g n cap z : Nat) (e : TypeId) (w' : World) : Prop := (∃ us, w'.ownsRow lo e z (.slice (some ⟨g, 0, none⟩) n cap) n us) ∧ Below lo w w' ∧ KT e w w'
theorem RowW.set {w w' : World} {lo g n cap z : Nat} {e : TypeId} (h : RowW w lo g n cap z e w') (i : Nat) (u : Value) : RowW w lo g n cap z e (w'.setCell ⟨g, i, none⟩ u) := by
  obtain ⟨⟨us, h1⟩, h2, h3⟩ := h
  have hs := World.ownsRow.stored h1 i u
  have hg := (World.ownsRow.lt h1 g rfl).1
  exact ⟨⟨_, hs.1⟩, h2.setCell hg _, h3.grown h1 hs.2⟩
theorem RowW.below {w w' w2 : World} {lo g n cap z : Nat} {e : TypeId} (h : RowW w lo g n cap z e w') (hb : Below w'.heap.size w' w2) : RowW w lo g n cap z e w2 := by
  obtain ⟨⟨us, h1⟩, h2, h3⟩ := h
  refine ⟨⟨_, row_keep h1 hb⟩, h2.trans (hb.mono ?_), h3.below hb⟩
  have := World.ownsRow.lt h1 g rfl
  omega
theorem RowW.cell {w w' : World} {lo g n cap z : Nat} {e : TypeId} (h : RowW w lo g n cap z e w') (i : Nat) (hi : i < n * z) : ∃ u, w'.cell? ⟨g, i, none⟩ = some u ∧ w'.frozen? ⟨g, i, none⟩ = false := by
  obtain ⟨⟨us, h1⟩, -, -⟩ := h
  exact rowcell h1 i hi

set_option maxHeartbeats 2000000 in
set_option maxRecDepth 100000 in
theorem markNodeS_row (w : World) (lo g n cap k : Nat) (us : List Value) (ho : w.ownsRow lo 81 7 (.slice (some ⟨g, 0, none⟩) n cap) n us) (hk : k ≤ 1048576) (hn : n ≤ 1048576) :
    Calls Tryd.prog 84 #[.slice (some ⟨g, 0, none⟩) n cap, .int .i64 k] w fun e w' => e = .returned (.int .i64 ((k + 7 * n : Nat) : Int)) ∧ RowW w lo g n cap 7 81 w' := by
  have R0 : Hid (RowW w lo g n cap 7 81 w) := ⟨⟨us, ho⟩, Below.refl _ _, KT.refl _ _⟩
  clear ho
  go_enter Tryd.func84, Tryd.ntmps84
  go_wp2
  go_loopw [1, 5] (fun vk vi wr => ∃ j K : Nat, j ≤ n ∧ K = k + 7 * j ∧ vi = .int .i64 j ∧ vk = .int .i64 K ∧ Hid (RowW w lo g n cap 7 81 wr)) (fun _ i _ => n - (intOf i).toNat)
  case atStart => exact ⟨0, k, Nat.zero_le _, by omega, rfl, rfl, R0⟩
  case round =>
    obtain ⟨j, K, hj, hK, rfl, rfl, HR⟩ := hrel
    have HKE : Hid (K = k + 7 * j) := hK
    by_cases hlt : j < n
    · have hltI : (j : Int) < (n : Int) := by omega
      have hK2 : K ≤ 10000000 := by omega
      clear hK
      go_wp2_with fail
      refine (markText_any _ K (by omega)).mono ?_
      rintro e w1 ⟨rfl, b1⟩
      have R1 : Hid (RowW w lo g n cap 7 81 w1) := HR.out.below b1
      clear b1 HR
      obtain ⟨x0, d0, f0⟩ := R1.out.cell (j * 7) (by omega)
      have R2 : Hid (RowW w lo g n cap 7 81 (w1.setCell ⟨g, j * 7, none⟩ (.string (mtx K)))) := R1.out.set _ _
      go_wp2_with fail
      generalize w1.setCell ⟨g, j * 7, none⟩ (.string (mtx K)) = w2 at *
      clear d0 f0 R1
      have hm := markText_any w2 (K + 1) (by omega)
      rw [show ((K + 1 : Nat) : Int) = (K : Int) + 1 by omega] at hm
      refine hm.mono ?_
      clear hm
      rintro e w3 ⟨rfl, b3⟩
      have R3 : Hid (RowW w lo g n cap 7 81 w3) := R2.out.below b3
      clear b3 R2
      obtain ⟨x1, d1, f1⟩ := R3.out.cell (j * 7 + 1) (by omega)
      obtain ⟨x2, d2, f2⟩ := R3.out.cell (j * 7 + 2) (by omega)
      obtain ⟨x3, d3, f3⟩ := R3.out.cell (j * 7 + 3) (by omega)
      obtain ⟨x4, d4, f4⟩ := R3.out.cell (j * 7 + 4) (by omega)
      obtain ⟨x5, d5, f5⟩ := R3.out.cell (j * 7 + 5) (by omega)
      obtain ⟨x6, d6, f6⟩ := R3.out.cell (j * 7 + 6) (by omega)
      go_wp2
      refine ⟨⟨j + 1, K + 7, by omega, by have := HKE.out; omega, by go_num, by go_num, ?_⟩, by simp [intOf]; omega⟩
      exact ((((((R3.out.set _ _).set _ _).set _ _).set _ _).set _ _).set _ _)
    · have hjn : j = n := by omega
      subst hjn
      subst hK
      go_wp2
      go_ret
      exact ⟨rfl, HR.out⟩

set_option maxHeartbeats 400000 in
theorem markNodeS_nil (w : World) (ao : Option Addr) (cap k : Nat) : Calls Tryd.prog 84 #[.slice ao 0 cap, .int .i64 k] w fun e w' => e = .returned (.int .i64 k) ∧ w' = w := by
  go_enter Tryd.func84, Tryd.ntmps84
  go_wp2
  go_rounds 1
  go_ret
  exact ⟨rfl, rfl⟩

theorem markNodeS_any (w : World) (lo k : Nat) (v : Value) (ns : List Nd) (h : OwnN 81 w lo v ns) (hk : k ≤ 1048576) (hn : ns.length ≤ 1048576) :
    Calls Tryd.prog 84 #[v, .int .i64 k] w fun e w' => e = .returned (.int .i64 ((k + 7 * ns.length : Nat) : Int)) ∧ Below lo w w' ∧ KT 81 w w' := by
  have h0 := h
  rcases h.2 with ⟨rfl, h1⟩ | ⟨g, cap, cur, rfl, rest⟩
  · refine (markNodeS_nil w none 0 k).mono ?_
    rintro e w' ⟨rfl, rfl⟩
    rw [h1]
    exact ⟨rfl, Below.refl _ _, KT.refl _ _⟩
  · refine (markNodeS_row w lo g ns.length cap k _ h0 hk hn).mono ?_
    rintro e w' ⟨rfl, -, h2, h3⟩
    exact ⟨rfl, h2, h3⟩

set_option maxHeartbeats 400000 in
theorem markTree_any (w : World) (lo k : Nat) (v : Value) (ns : List Nd) (h : OwnN 81 w lo v ns) (hl : lo ≤ w.heap.size) (hk : k ≤ 1048576) (hn : ns.length ≤ 1048576) :
    Calls Tryd.prog 40 #[.agg #[v], .int .i64 k] w fun e w' => e = .returned (.int .i64 ((k + 7 * ns.length : Nat) : Int)) ∧ Below lo w w' ∧ KT 81 w w' := by
  have H : Hid (OwnN 81 w lo v ns) := h
  clear h
  go_enter Tryd.func40, Tryd.ntmps40
  go_wp2_with fail
  refine (markNodeS_any _ lo k v ns (H.out.below ((Below.refl _ _).alloc (Nat.le_refl _) _)) hk hn).mono ?_
  rintro e w1 ⟨rfl, b1, k1⟩
  have B1 : Hid (Below lo w w1) := ((Below.refl _ _).alloc hl _).trans b1
  have K1 : Hid (KT 81 w w1) := ((KT.refl _ _).alloc _).trans k1
  clear b1 k1
  go_wp2
  go_ret
  exact ⟨rfl, B1.out, K1.out⟩

end Go.Proofs.YtgjenbgclpmjmaaDoor

namespace Go.Proofs.YtgjenbgclpmjmaaDoor
open Go.RowKit Go.Shelf

/-- A marked node. -/
def mkN (K : Nat) : Nd := ⟨mtx K, mtx (K + 1), (K : Int) + 1 + 1, (K : Int) + 1 + 1 + 1, (K : Int) + 1 + 1 + 1 + 1, (K : Int) + 1 + 1 + 1 + 1 + 1, (K : Int) + 1 + 1 + 1 + 1 + 1 + 1⟩
def mkNs (k n : Nat) : List Nd := (List.range n).map fun j => mkN (k + 7 * j)
theorem mkNs_len (k n : Nat) : (mkNs k n).length = n := by simp [mkNs]
theorem mkNs_at (k n j : Nat) (h : j < n) : nAt (mkNs k n) j = mkN (k + 7 * j) := by unfold nAt mkNs; simp [List.getD, h]
def mkMix (k : Nat) (ns : List Nd) (j : Nat) : List Nd := mkNs k j ++ ns.drop j
theorem mkMix_len (k : Nat) (ns : List Nd) (j : Nat) (h : j ≤ ns.length) : (mkMix k ns j).length = ns.length := by unfold mkMix; rw [List.length_append, mkNs_len, List.length_drop]; omega
theorem mkMix_set (k : Nat) (ns : List Nd) (j : Nat) (h : j < ns.length) : (mkMix k ns j).set j (mkN (k + 7 * j)) = mkMix k ns (j + 1) := by
  unfold mkMix
  rw [List.set_append_right _ _ (by rw [mkNs_len]; exact Nat.le_refl _), mkNs_len, Nat.sub_self, List.drop_eq_getElem_cons h, List.set_cons_zero]
  unfold mkNs
  rw [List.range_succ, List.map_append, List.append_assoc]
  rfl
theorem mkMix_all (k : Nat) (ns : List Nd) : mkMix k ns ns.length = mkNs k ns.length := by unfold mkMix; simp
/-- A row of nodes on the way. -/
def RowL (w : World) (lo g n cap : Nat) (us : List Value) (w' : World) : Prop := w'.ownsRow lo 81 7 (.slice (some ⟨g, 0, none⟩) n cap) n us ∧ Below lo w w' ∧ KT 81 w w'
theorem RowL.set {w w' : World} {lo g n cap : Nat} {us : List Value} (h : RowL w lo g n cap us w') (i : Nat) (u : Value) : RowL w lo g n cap (us.set i u) (w'.setCell ⟨g, i, none⟩ u) := by
  obtain ⟨h1, h2, h3⟩ := h
  have hs := World.ownsRow.stored h1 i u
  exact ⟨hs.1, h2.setCell (World.ownsRow.lt h1 g rfl).1 _, h3.grown h1 hs.2⟩
theorem RowL.below {w w' w2 : World} {lo g n cap : Nat} {us : List Value} (h : RowL w lo g n cap us w') (hb : Below w'.heap.size w' w2) : RowL w lo g n cap us w2 := by
  obtain ⟨h1, h2, h3⟩ := h
  refine ⟨row_keep h1 hb, h2.trans (hb.mono ?_), h3.below hb⟩
  have := World.ownsRow.lt h1 g rfl
  omega
theorem RowL.cell {w w' : World} {lo g n cap : Nat} {us : List Value} (h : RowL w lo g n cap us w') (i : Nat) (hi : i < n * 7) : ∃ u, w'.cell? ⟨g, i, none⟩ = some u ∧ w'.frozen? ⟨g, i, none⟩ = false := rowcell h.1 i hi

set_option maxHeartbeats 2000000 in
set_option maxRecDepth 100000 in
theorem markNodeL_row (w : World) (lo g n cap k : Nat) (ns : List Nd) (hp : ns.length = n) (ho : w.ownsRow lo 81 7 (.slice (some ⟨g, 0, none⟩) n cap) n (nrow ns)) (hk : k ≤ 1048576) (hn : n ≤ 1048576) :
    Calls Tryd.prog 84 #[.slice (some ⟨g, 0, none⟩) n cap, .int .i64 k] w fun e w' => e = .returned (.int .i64 ((k + 7 * n : Nat) : Int)) ∧ RowL w lo g n cap (nrow (mkNs k n)) w' := by
  have R0 : Hid (RowL w lo g n cap (nrow (mkMix k ns 0)) w) := ⟨by unfold mkMix mkNs; simpa using ho, Below.refl _ _, KT.refl _ _⟩
  have HP : Hid (ns.length = n) := hp
  clear ho hp
  go_enter Tryd.func84, Tryd.ntmps84
  go_wp2
  go_loopw [1, 5] (fun vk vi wr => ∃ j K : Nat, j ≤ n ∧ K = k + 7 * j ∧ vi = .int .i64 j ∧ vk = .int .i64 K ∧ Hid (RowL w lo g n cap (nrow (mkMix k ns j)) wr)) (fun _ i _ => n - (intOf i).toNat)
  case atStart => exact ⟨0, k, Nat.zero_le _, by omega, rfl, rfl, R0⟩
  case round =>
    obtain ⟨j, K, hj, hK, rfl, rfl, HR⟩ := hrel
    have HKE : Hid (K = k + 7 * j) := hK
    by_cases hlt : j < n
    · have hltI : (j : Int) < (n : Int) := by omega
      have hK2 : K ≤ 10000000 := by omega
      have HS : Hid (set7 (nrow (mkMix k ns j)) (j * 7) (mkN K) = nrow (mkMix k ns (j + 1))) := by
        show _ = _
        rw [nrow_set _ _ _ (by rw [mkMix_len _ _ _ (by rw [HP.out]; omega), HP.out]; exact hlt), hK, mkMix_set _ _ _ (by rw [HP.out]; exact hlt)]
      generalize nrow (mkMix k ns j) = us at *
      clear hK
      go_wp2_with fail
      refine (markText_any _ K (by omega)).mono ?_
      rintro e w1 ⟨rfl, b1⟩
      have R1 : Hid (RowL w lo g n cap us w1) := HR.out.below b1
      clear b1 HR
      obtain ⟨x0, d0, f0⟩ := R1.out.cell (j * 7) (by omega)
      have R2 : Hid (RowL w lo g n cap (us.set (j * 7) (.string (mtx K))) (w1.setCell ⟨g, j * 7, none⟩ (.string (mtx K)))) := R1.out.set _ _
      go_wp2_with fail
      generalize w1.setCell ⟨g, j * 7, none⟩ (.string (mtx K)) = w2 at *
      clear d0 f0 R1
      have hm := markText_any w2 (K + 1) (by omega)
      rw [show ((K + 1 : Nat) : Int) = (K : Int) + 1 by omega] at hm
      refine hm.mono ?_
      clear hm
      rintro e w3 ⟨rfl, b3⟩
      have R3 : Hid (RowL w lo g n cap (us.set (j * 7) (.string (mtx K))) w3) := R2.out.below b3
      clear b3 R2
      obtain ⟨x1, d1, f1⟩ := R3.out.cell (j * 7 + 1) (by omega)
      obtain ⟨x2, d2, f2⟩ := R3.out.cell (j * 7 + 2) (by omega)
      obtain ⟨x3, d3, f3⟩ := R3.out.cell (j * 7 + 3) (by omega)
      obtain ⟨x4, d4, f4⟩ := R3.out.cell (j * 7 + 4) (by omega)
      obtain ⟨x5, d5, f5⟩ := R3.out.cell (j * 7 + 5) (by omega)
      obtain ⟨x6, d6, f6⟩ := R3.out.cell (j * 7 + 6) (by omega)
      go_wp2
      refine ⟨⟨j + 1, K + 7, by omega, by have := HKE.out; omega, by go_num, by go_num, ?_⟩, by simp [intOf]; omega⟩
      show RowL _ _ _ _ _ _ _
      rw [← HS.out]
      exact ((((((R3.out.set _ _).set _ _).set _ _).set _ _).set _ _).set _ _)
    · have hjn : j = n := by omega
      subst hjn
      subst hK
      have HF : Hid (RowL w lo g j cap (nrow (mkNs k j)) wr) := by have := HR.out; rw [← HP.out, mkMix_all, HP.out] at this; exact this
      go_wp2
      go_ret
      exact ⟨rfl, HF.out⟩

theorem markNodeL_any (w : World) (lo k : Nat) (v : Value) (ns : List Nd) (h : OwnN 81 w lo v ns) (hk : k ≤ 1048576) (hn : ns.length ≤ 1048576) :
    Calls Tryd.prog 84 #[v, .int .i64 k] w fun e w' => e = .returned (.int .i64 ((k + 7 * ns.length : Nat) : Int)) ∧ OwnN 81 w' lo v (mkNs k ns.length) ∧ Below lo w w' ∧ KT 81 w w' := by
  have h0 := h
  rcases h.2 with ⟨rfl, h1⟩ | ⟨g, cap, cur, rfl, rest⟩
  · refine (markNodeS_nil w none 0 k).mono ?_
    rintro e w' ⟨rfl, rfl⟩
    rw [h1]
    exact ⟨rfl, World.ownsRow_nil _ _ _ _, Below.refl _ _, KT.refl _ _⟩
  · refine (markNodeL_row w lo g ns.length cap k ns rfl h0 hk hn).mono ?_
    rintro e w' ⟨rfl, h1, h2, h3⟩
    exact ⟨rfl, by unfold OwnN; rw [mkNs_len]; exact h1, h2, h3⟩

set_option maxHeartbeats 2000000 in
set_option maxRecDepth 100000 in
theorem heldNodeS_row (w : World) (b o n cap k : Nat) (hb : b < w.heap.size) (hc : ∀ i, i < n → CellsN w b (o + i * 7) (nAt (mkNs k n) i)) (hk : k ≤ 1048576) (hn : n ≤ 1048576) :
    Calls Tryd.prog 98 #[.slice (some ⟨b, o, none⟩) n cap, .int .i64 k] w fun e w' => e = .returned (.int .i64 ((k + 7 * n : Nat) : Int)) ∧ Below w.heap.size w w' := by
  have HC : Hid (∀ i, i < n → CellsN w b (o + i * 7) (mkN (k + 7 * i))) := fun i hi => by have := hc i hi; rw [mkNs_at k n i hi] at this; exact this
  clear hc
  go_enter Tryd.func98, Tryd.ntmps98
  go_wp2
  go_loopw [1, 5] (fun vk vi wr => ∃ j K : Nat, j ≤ n ∧ K = k + 7 * j ∧ vi = .int .i64 j ∧ vk = .int .i64 K ∧ Hid (Below w.heap.size w wr)) (fun _ i _ => n - (intOf i).toNat)
  case atStart => exact ⟨0, k, Nat.zero_le _, by omega, rfl, rfl, Below.refl _ _⟩
  case round =>
    obtain ⟨j, K, hj, hK, rfl, rfl, HB⟩ := hrel
    have HKE : Hid (K = k + 7 * j) := hK
    by_cases hlt : j < n
    · have hltI : (j : Int) < (n : Int) := by omega
      have hK2 : K ≤ 10000000 := by omega
      have HCJ : Hid (CellsN w b (o + j * 7) (mkN K)) := by have := HC.out j hlt; rw [← hK] at this; exact this
      have hm0 : Hid (∀ W, Calls Tryd.prog 85 #[.int .i64 (K : Int)] W fun e w' => e = .returned (.string (mtx K)) ∧ Below W.heap.size W w') := fun W => markText_any W K (by omega)
      have hm1 : Hid (∀ W, Calls Tryd.prog 85 #[.int .i64 ((K : Int) + 1)] W fun e w' => e = .returned (.string (mtx (K + 1))) ∧ Below W.heap.size W w') := by
        intro W
        have hm := markText_any W (K + 1) (by omega)
        rw [show ((K + 1 : Nat) : Int) = (K : Int) + 1 by omega] at hm
        exact hm
      have hpp : ((mtx K).toList == (mtx K).toList) = true := by simp
      have hpp1 : ((mtx (K + 1)).toList == (mtx (K + 1)).toList) = true := by simp
      clear hK
      go_wp2
      refine wp_region_held_drew (S := fun W => Hid (Below w.heap.size w W) ∧ W.cell? ⟨b, o + j * 7, none⟩ = some (.string (mtx K))) (by kernel_rfl) (⟨HB.out.trans ((below_drewN' _ 1).mono HB.out.size), ((HCJ.out.below HB.out hb).below (below_drewN' _ 1) (Nat.lt_of_lt_of_le hb HB.out.size)).c0⟩) (fun hHeld => ?_)
      refine wpAnyH_take (i := 0) (oi := { dst := some 12, op := _, type := _, pos := _, after := _, guard := _ }) (v := (.slice (some ⟨b, o, none⟩) n cap)) rfl (by kernel_rfl) (by kernel_rfl) (by kernel_rfl) (fun _ _ _ h => h) (Or.inl ⟨by rfl, ?hy1⟩) (by assumption) ?rest1
      case hy1 =>
        intro w9 hS9
        obtain ⟨-, y0⟩ := hS9
        go_simp
        try with_reducible rfl
      try simp only [Act.put, List.setIfInBounds_toArray, List.set_cons_zero, List.set_cons_succ]
      refine wpAnyH_take (i := 1) (oi := { dst := some 13, op := _, type := _, pos := _, after := _, guard := _ }) (v := (.int .i64 (j : Int))) rfl (by kernel_rfl) (by kernel_rfl) (by kernel_rfl) (fun _ _ _ h => h) (Or.inl ⟨by rfl, ?hy2⟩) (by assumption) ?rest2
      case hy2 =>
        intro w9 hS9
        obtain ⟨-, y0⟩ := hS9
        go_simp
        try with_reducible rfl
      try simp only [Act.put, List.setIfInBounds_toArray, List.set_cons_zero, List.set_cons_succ]
      refine wpAnyH_take (i := 2) (oi := { dst := some 14, op := _, type := _, pos := _, after := _, guard := _ }) (v := (.pointer (some ⟨b, o + j * 7, none⟩))) rfl (by kernel_rfl) (by kernel_rfl) (by kernel_rfl) (fun _ _ _ h => h) (Or.inl ⟨by rfl, ?hy3⟩) (by assumption) ?rest3
      case hy3 =>
        intro w9 hS9
        obtain ⟨-, y0⟩ := hS9
        go_simp
        try with_reducible rfl
      try simp only [Act.put, List.setIfInBounds_toArray, List.set_cons_zero, List.set_cons_succ]
      refine wpAnyH_take (i := 3) (oi := { dst := some 15, op := _, type := _, pos := _, after := _, guard := _ }) (v := (.pointer (some ⟨b, o + j * 7, none⟩))) rfl (by kernel_rfl) (by kernel_rfl) (by kernel_rfl) (fun _ _ _ h => h) (Or.inl ⟨by rfl, ?hy4⟩) (by assumption) ?rest4
      case hy4 =>
        intro w9 hS9
        obtain ⟨-, y0⟩ := hS9
        go_simp
        try with_reducible rfl
      try simp only [Act.put, List.setIfInBounds_toArray, List.set_cons_zero, List.set_cons_succ]
      refine wpAnyH_take (i := 4) (oi := { dst := some 16, op := _, type := _, pos := _, after := _, guard := _ }) (v := (.string (mtx K))) rfl (by kernel_rfl) (by kernel_rfl) (by kernel_rfl) (fun _ _ _ h => h) (Or.inl ⟨by rfl, ?hy5⟩) (by assumption) ?rest5
      case hy5 =>
        intro w9 hS9
        obtain ⟨-, y0⟩ := hS9
        go_simp
        try with_reducible rfl
      try simp only [Act.put, List.setIfInBounds_toArray, List.set_cons_zero, List.set_cons_succ]
      refine wpAnyH_take (i := 5) (oi := { dst := some 17, op := _, type := _, pos := _, after := _, guard := _ }) (v := (.int .i64 (K : Int))) rfl (by kernel_rfl) (by kernel_rfl) (by kernel_rfl) (fun _ _ _ h => h) (Or.inl ⟨by rfl, ?hy6⟩) (by assumption) ?rest6
      case hy6 =>
        intro w9 hS9
        obtain ⟨-, y0⟩ := hS9
        go_simp
        try with_reducible rfl
      try simp only [Act.put, List.setIfInBounds_toArray, List.set_cons_zero, List.set_cons_succ]
      refine wpAnyH_ready (rs := [6]) (by kernel_rfl) (by simp) ?_
      refine AllReadyH.cons (o := { dst := some 18, op := _, type := _, pos := _, after := _, guard := _ }) rfl (fun KK hK => ?_) AllReadyH.nil
      go_simp
      refine (hm0.out _).mono ?_
      rintro e w4 ⟨rfl, b4⟩
      have HB4 : Hid (Below w.heap.size w w4) := (HB.out.trans ((below_drewN' _ 1).mono HB.out.size)).trans (b4.mono HB.out.size)
      clear b4
      refine hK.out _ _ ((show Hid (Below w.heap.size w w4) ∧ w4.cell? ⟨b, o + j * 7, none⟩ = some (.string (mtx K)) from ⟨HB4, (HCJ.out.below HB4.out hb).c0⟩)) (fun hx9 => ?_)
      clear hK KK hHeld hx9
      have hHeld := (show Hid (Below w.heap.size w w4) ∧ w4.cell? ⟨b, o + j * 7, none⟩ = some (.string (mtx K)) from ⟨HB4, (HCJ.out.below HB4.out hb).c0⟩)
      try simp only [Act.put, List.setIfInBounds_toArray, List.set_cons_zero, List.set_cons_succ]
      refine wpAnyH_take (i := 7) (oi := { dst := some 19, op := _, type := _, pos := _, after := _, guard := _ }) (v := (.bool false)) rfl (by kernel_rfl) (by kernel_rfl) (by kernel_rfl) (fun _ _ _ h => h) (Or.inl ⟨by rfl, ?hy7⟩) (by assumption) ?rest7
      case hy7 =>
        intro w9 hS9
        go_simp
        try with_reducible rfl
      try simp only [Act.put, List.setIfInBounds_toArray, List.set_cons_zero, List.set_cons_succ]
      refine wpAnyH_done (by kernel_rfl) ?_ _
      clear hHeld
      go_wp2
      refine wp_region_held_drew (S := fun W => Hid (Below w.heap.size w W) ∧ W.cell? ⟨b, o + j * 7 + 1, none⟩ = some (.string (mtx (K + 1)))) (by kernel_rfl) (⟨HB4.out.trans ((below_drewN' _ 1).mono HB4.out.size), ((HCJ.out.below HB4.out hb).below (below_drewN' _ 1) (Nat.lt_of_lt_of_le hb HB4.out.size)).c1⟩) (fun hHeld => ?_)
      refine wpAnyH_take (i := 0) (oi := { dst := some 22, op := _, type := _, pos := _, after := _, guard := _ }) (v := (.slice (some ⟨b, o, none⟩) n cap)) rfl (by kernel_rfl) (by kernel_rfl) (by kernel_rfl) (fun _ _ _ h => h) (Or.inl ⟨by rfl, ?hy8⟩) (by assumption) ?rest8
      case hy8 =>
        intro w9 hS9
        obtain ⟨-, y0⟩ := hS9
        go_simp
        try with_reducible rfl
      try simp only [Act.put, List.setIfInBounds_toArray, List.set_cons_zero, List.set_cons_succ]
      refine wpAnyH_take (i := 1) (oi := { dst := some 23, op := _, type := _, pos := _, after := _, guard := _ }) (v := (.int .i64 (j : Int))) rfl (by kernel_rfl) (by kernel_rfl) (by kernel_rfl) (fun _ _ _ h => h) (Or.inl ⟨by rfl, ?hy9⟩) (by assumption) ?rest9
      case hy9 =>
        intro w9 hS9
        obtain ⟨-, y0⟩ := hS9
        go_simp
        try with_reducible rfl
      try simp only [Act.put, List.setIfInBounds_toArray, List.set_cons_zero, List.set_cons_succ]
      refine wpAnyH_take (i := 2) (oi := { dst := some 24, op := _, type := _, pos := _, after := _, guard := _ }) (v := (.pointer (some ⟨b, o + j * 7, none⟩))) rfl (by kernel_rfl) (by kernel_rfl) (by kernel_rfl) (fun _ _ _ h => h) (Or.inl ⟨by rfl, ?hy10⟩) (by assumption) ?rest10
      case hy10 =>
        intro w9 hS9
        obtain ⟨-, y0⟩ := hS9
        go_simp
        try with_reducible rfl
      try simp only [Act.put, List.setIfInBounds_toArray, List.set_cons_zero, List.set_cons_succ]
      refine wpAnyH_take (i := 3) (oi := { dst := some 25, op := _, type := _, pos := _, after := _, guard := _ }) (v := (.pointer (some ⟨b, o + j * 7 + 1, none⟩))) rfl (by kernel_rfl) (by kernel_rfl) (by kernel_rfl) (fun _ _ _ h => h) (Or.inl ⟨by rfl, ?hy11⟩) (by assumption) ?rest11
      case hy11 =>
        intro w9 hS9
        obtain ⟨-, y0⟩ := hS9
        go_simp
        try with_reducible rfl
      try simp only [Act.put, List.setIfInBounds_toArray, List.set_cons_zero, List.set_cons_succ]
      refine wpAnyH_take (i := 4) (oi := { dst := some 26, op := _, type := _, pos := _, after := _, guard := _ }) (v := (.string (mtx (K + 1)))) rfl (by kernel_rfl) (by kernel_rfl) (by kernel_rfl) (fun _ _ _ h => h) (Or.inl ⟨by rfl, ?hy12⟩) (by assumption) ?rest12
      case hy12 =>
        intro w9 hS9
        obtain ⟨-, y0⟩ := hS9
        go_simp
        try with_reducible rfl
      try simp only [Act.put, List.setIfInBounds_toArray, List.set_cons_zero, List.set_cons_succ]
      refine wpAnyH_take (i := 5) (oi := { dst := some 27, op := _, type := _, pos := _, after := _, guard := _ }) (v := (.int .i64 ((K : Int) + 1))) rfl (by kernel_rfl) (by kernel_rfl) (by kernel_rfl) (fun _ _ _ h => h) (Or.inl ⟨by rfl, ?hy13⟩) (by assumption) ?rest13
      case hy13 =>
        intro w9 hS9
        obtain ⟨-, y0⟩ := hS9
        go_simp
        try with_reducible rfl
      try simp only [Act.put, List.setIfInBounds_toArray, List.set_cons_zero, List.set_cons_succ]
      refine wpAnyH_ready (rs := [6]) (by kernel_rfl) (by simp) ?_
      refine AllReadyH.cons (o := { dst := some 28, op := _, type := _, pos := _, after := _, guard := _ }) rfl (fun KK hK => ?_) AllReadyH.nil
      go_simp
      refine (hm1.out _).mono ?_
      rintro e w5 ⟨rfl, b5⟩
      have HB5 : Hid (Below w.heap.size w w5) := (HB4.out.trans ((below_drewN' _ 1).mono HB4.out.size)).trans (b5.mono HB4.out.size)
      clear b5
      refine hK.out _ _ ((show Hid (Below w.heap.size w w5) ∧ w5.cell? ⟨b, o + j * 7 + 1, none⟩ = some (.string (mtx (K + 1))) from ⟨HB5, (HCJ.out.below HB5.out hb).c1⟩)) (fun hx9 => ?_)
      clear hK KK hHeld hx9
      have hHeld := (show Hid (Below w.heap.size w w5) ∧ w5.cell? ⟨b, o + j * 7 + 1, none⟩ = some (.string (mtx (K + 1))) from ⟨HB5, (HCJ.out.below HB5.out hb).c1⟩)
      try simp only [Act.put, List.setIfInBounds_toArray, List.set_cons_zero, List.set_cons_succ]
      refine wpAnyH_take (i := 7) (oi := { dst := some 29, op := _, type := _, pos := _, after := _, guard := _ }) (v := (.bool false)) rfl (by kernel_rfl) (by kernel_rfl) (by kernel_rfl) (fun _ _ _ h => h) (Or.inl ⟨by rfl, ?hy14⟩) (by assumption) ?rest14
      case hy14 =>
        intro w9 hS9
        go_simp
        try with_reducible rfl
      try simp only [Act.put, List.setIfInBounds_toArray, List.set_cons_zero, List.set_cons_succ]
      refine wpAnyH_done (by kernel_rfl) ?_ _
      clear hHeld
      obtain ⟨-, -, y2, y3, y4, y5, y6⟩ := HCJ.out.below HB5.out hb
      unfold mkN at y2 y3 y4 y5 y6
      simp only at y2 y3 y4 y5 y6
      go_wp2
      exact ⟨⟨j + 1, K + 7, by omega, by have := HKE.out; omega, by go_num, by go_num, HB5⟩, by simp [intOf]; omega⟩
    · have hjn : j = n := by omega
      subst hjn
      subst hK
      go_wp2
      go_ret
      exact ⟨rfl, HB.out⟩

set_option maxHeartbeats 400000 in
theorem heldNodeS_nil (w : World) (ao : Option Addr) (cap k : Nat) : Calls Tryd.prog 98 #[.slice ao 0 cap, .int .i64 k] w fun e w' => e = .returned (.int .i64 k) ∧ w' = w := by
  go_enter Tryd.func98, Tryd.ntmps98
  go_wp2
  go_rounds 1
  go_ret
  exact ⟨rfl, rfl⟩

theorem heldNodeS_any (w : World) (v : Value) (k n : Nat) (h : RdN w v (mkNs k n)) (hk : k ≤ 1048576) (hn : n ≤ 1048576) :
    Calls Tryd.prog 98 #[v, .int .i64 k] w fun e w' => e = .returned (.int .i64 ((k + 7 * n : Nat) : Int)) ∧ Below w.heap.size w w' := by
  obtain ⟨ao, cap, rfl, h1, h2, h3⟩ := h
  rw [mkNs_len] at h1 h3 ⊢
  rcases h3 with h3 | ⟨b, o, rfl, hb, hc⟩
  · have : n = 0 := by have := congrArg List.length h3; rw [mkNs_len] at this; exact this
    subst this
    refine (heldNodeS_nil w ao cap k).mono ?_
    rintro e w' ⟨rfl, rfl⟩
    exact ⟨rfl, Below.refl _ _⟩
  · exact heldNodeS_row w b o n cap k hb hc hk hn

end Go.Proofs.YtgjenbgclpmjmaaDoor

