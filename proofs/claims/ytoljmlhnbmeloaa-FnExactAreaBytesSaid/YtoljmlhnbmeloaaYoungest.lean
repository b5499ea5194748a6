import Derived.Test.YtoljmlhnbmeloaaTabPut
namespace Go.Proofs.Ytoljmlhnbmeloaa
open Go.RowKit

theorem put_len {rs rs' : List (Int × List Int)} {x : Int} {V : List Int} (h : Put rs x V rs') : rs'.length ≤ rs.length + 1 := by
  rcases h with ⟨i, _, _, rfl⟩ | ⟨_, rfl⟩
  · simp
  · simp

set_option maxHeartbeats 2000000 in
set_option maxRecDepth 100000 in
theorem youngest_any (w : World) (va vb : Option Addr) (dl ca n cb : Nat) (dur : List Int) (ps : List (Int × List Int)) (hdl : dur.length = dl) (hp : RdW w (.slice vb n cb) ps) (hl : ps.length = n) (hv : vldD dl ps = true) :
    Calls Try.prog 50 #[.agg #[.slice va dl ca, .slice vb n cb]] w fun e w' => e = .returned (.pointer (some ⟨w.heap.size + 2, 0, none⟩)) ∧ (∃ v rs, Tab w' (w.heap.size + 1) (w.heap.size + 2) (w.heap.size + 1) v rs ∧ TabOf dur ps n rs) ∧ Below w.heap.size w w' := by
  have HP : Hid (RdW w (.slice vb n cb) ps) := hp
  have HL : Hid (ps.length = n) := hl
  have HV : Hid (vldD dl ps = true) := hv
  have HDL : Hid (dur.length = dl) := hdl
  have hn2 : n ≤ 2000 := by have := ((vldD_iff dl ps).1 hv).2.2.2.1; omega
  have B0 : Hid (Below w.heap.size w (w.alloc (.cells #[.slice va dl ca, .slice vb n cb] 32))) := (Below.refl _ _).alloc (Nat.le_refl _) _
  have X0 : Hid (Box2 (w.alloc (.cells #[.slice va dl ca, .slice vb n cb] 32)) w.heap.size (.slice va dl ca) (.slice vb n cb)) := Box2.new _ _ _ _
  have s0 : (w.alloc (.cells #[.slice va dl ca, .slice vb n cb] 32)).heap.size = w.heap.size + 1 := by simp
  clear hp hl hv hdl
  go_enter Try.func50, Try.ntmps50
  go_wp2_with fail
  generalize w.alloc (.cells #[.slice va dl ca, .slice vb n cb] 32) = w0 at *
  refine (newTable_any w0).mono ?_
  rintro e w1 ⟨rfl, t1, b1⟩
  rw [s0] at t1 ⊢
  have T1 : Hid (Tab w1 (w.heap.size + 1) (w.heap.size + 2) (w.heap.size + 1) (.slice none 0 0) []) := t1
  have B1 : Hid (Below (w.heap.size + 1) w0 w1) := by have := b1; rw [s0] at this; exact this
  have X1 : Hid (Box2 w1 w.heap.size (.slice va dl ca) (.slice vb n cb)) := X0.out.below b1
  have z1 := T1.out.box.1.1
  clear t1 b1 X0
  obtain ⟨zx, c0, c1⟩ := X1.out
  go_wp2
  clear c0 c1
  go_loopw [10] (fun i wr => ∃ k : Nat, k ≤ n ∧ i = .int .i64 k ∧ Hid (∃ v rs, Tab wr (w.heap.size + 1) (w.heap.size + 2) (w.heap.size + 1) v rs ∧ TabOf dur ps k rs ∧ rs.length ≤ k) ∧ Hid (Below (w.heap.size + 1) w1 wr)) (fun i _ => n - (intOf i).toNat)
  case atStart => exact ⟨0, Nat.zero_le _, rfl, ⟨_, _, T1.out, tabOf_nil _ _, Nat.le_refl _⟩, Below.refl _ _⟩
  case round =>
    clear T1
    obtain ⟨k, hk, rfl, ⟨v, rs, ht, hof, hrl⟩, HG⟩ := hrel
    have HT : Hid (Tab wr (w.heap.size + 1) (w.heap.size + 2) (w.heap.size + 1) v rs) := ht
    have HOF : Hid (TabOf dur ps k rs) := hof
    have HRL : Hid (rs.length ≤ k) := hrl
    have sg := HG.out.size
    have BW : Hid (Below w.heap.size w wr) := B0.out.trans (((B1.out.trans HG.out)).mono (by omega))
    clear ht hof hrl
    by_cases hlt : k < n
    · obtain ⟨pb, po, rfl, hpb, e1, da, dc, e2, r⟩ := HP.out.recAt HL.out hlt
      obtain ⟨b, hb, hb2, hb3, hd64⟩ := vld_at HV.out k (by rw [HL.out]; exact hlt)
      have HB : Hid (pB ps k = b) := hb
      rw [hb] at e1
      rw [hd64] at e2 r
      have e1' := (BW.out.cell (p := ⟨pb, po + k * 2, none⟩) hpb).trans e1
      have e2' := (BW.out.cell (p := ⟨pb, po + k * 2 + 1, none⟩) hpb).trans e2
      obtain ⟨db, dof, rfl, hdb, -⟩ := r.cellAt hd64 (show 0 < 64 by omega)
      obtain ⟨V, hV⟩ : ∃ V, V = (pD ps k).map (Value.int .u8) := ⟨_, rfl⟩
      have RU : Hid (w.rangeAt db dof V) := by rw [hV]; exact (r.span hd64 (by omega)).2
      have HVL : Hid (V.length = 64) := by rw [hV]; show _ = _; rw [List.length_map]; exact hd64
      have hltI : (k : Int) < (n : Int) := by omega
      have HP1 : Hid (∀ W, Tab W (w.heap.size + 1) (w.heap.size + 2) (w.heap.size + 1) v rs → w.heap.size + 1 ≤ W.heap.size → Calls Try.prog 78 #[.pointer (some ⟨w.heap.size + 2, 0, none⟩), .int .i64 b, .agg V.toArray] W fun e w' => e = .returned (.tuple #[]) ∧ (∃ v' rs', Put rs b (pD ps k) rs' ∧ Tab w' (w.heap.size + 1) (w.heap.size + 2) (w.heap.size + 1) v' rs') ∧ Below (w.heap.size + 1) W w' ∧ (∀ q, q < W.heap.size → q ≠ w.heap.size + 2 → q ≠ w.heap.size + 1 → v.ownBlock ≠ some q → w'.heap[q]? = W.heap[q]?)) := by
        intro W hT hW
        rw [hV]
        exact put_any W _ _ _ v rs b (pD ps k) hT (by omega) (by omega) hd64 (by have := HRL.out; omega) hW
      clear e1 e2 r hb hd64 hV
      go_wp2_with fail
      have BAl : Hid (Below wr.heap.size wr (wr.alloc (.cells #[.int .i64 b, .slice (some ⟨db, dof, none⟩) 64 dc] 42))) := (Below.refl _ _).alloc (Nat.le_refl _) _
      have XB : Hid (Box2 (wr.alloc (.cells #[.int .i64 b, .slice (some ⟨db, dof, none⟩) 64 dc] 42)) wr.heap.size (.int .i64 b) (.slice (some ⟨db, dof, none⟩) 64 dc)) := Box2.new _ _ _ _
      clear e1' e2'
      generalize wr.alloc (.cells #[.int .i64 b, .slice (some ⟨db, dof, none⟩) 64 dc] 42) = w3 at *
      obtain ⟨z3, c0, c1⟩ := XB.out
      have sB := BAl.out.size
      have RU3 : w3.rangeAt db dof V := rangeAt_blk RU.out ((BAl.out.block db (by have := BW.out.size; omega)).trans (BW.out.block db hdb))
      have T3 : Hid (Tab w3 (w.heap.size + 1) (w.heap.size + 2) (w.heap.size + 1) v rs) := HT.out.below BAl.out
      have ztb := HT.out.box.1.1
      have hvlt : ∀ q, v.ownBlock = some q → q < wr.heap.size := fun q hq => (World.ownsRow.lt HT.out.rows q hq).2
      have hat : ∀ W, (Instr.arrayAt 75 (.slice (some ⟨db, dof, none⟩) 64 dc)).run Try.prog W = .ok (.pointer (some ⟨db, dof, none⟩)) W := fun W => run_arrayAt W 75 _ 64 _ _ _ Try.underlying75 (Nat.le_refl _)
      have CP : Hid (Calls Try.prog 78 #[.pointer (some ⟨w.heap.size + 2, 0, none⟩), .int .i64 b, .agg V.toArray] w3.drew fun e w' => e = .returned (.tuple #[]) ∧ w'.cell? ⟨wr.heap.size, 0, none⟩ = some (.int .i64 b) ∧ w'.cell? ⟨wr.heap.size, 1, none⟩ = some (.slice (some ⟨db, dof, none⟩) 64 dc) ∧ w'.rangeAt db dof V ∧ Hid (∃ v rs, Tab w' (w.heap.size + 1) (w.heap.size + 2) (w.heap.size + 1) v rs ∧ TabOf dur ps (k + 1) rs ∧ rs.length ≤ k + 1) ∧ Hid (Below (w.heap.size + 1) w1 w')) := by
        refine (HP1.out w3.drew (T3.out.below (below_drewN' w3 1)) (by show _ ≤ w3.heap.size; omega)).mono ?_
        rintro e w' ⟨rfl, ⟨v', rs', hput, hT'⟩, hb', hfr⟩
        have hc : ∀ j, w'.cell? ⟨wr.heap.size, j, none⟩ = w3.cell? ⟨wr.heap.size, j, none⟩ := fun j => World.cell?_of_block (w := w3) (a := ⟨wr.heap.size, j, none⟩) (hfr wr.heap.size z3 (by omega) (by omega) (fun e => by have := hvlt _ e; omega))
        refine ⟨rfl, (hc 0).trans c0, (hc 1).trans c1, rangeAt_blk RU3 (hb'.block db (by omega)), ⟨v', rs', hT', ?_, ?_⟩, ?_⟩
        · refine tabOf_put dur ps rs rs' k HOF.out ⟨b, HB.out, by rw [HDL.out]; exact hb2, hb3⟩ HT.out.apart ?_
          rw [HB.out]; exact hput
        · have := put_len hput; have := HRL.out; omega
        · exact ((HG.out.trans (BAl.out.mono (by omega))).trans ((below_drewN' w3 1).mono (by omega))).trans hb'
      clear HP1 XB T3 RU HG HT HOF
      refine wp_region_held_drew (S := fun w' => w'.cell? ⟨wr.heap.size, 0, none⟩ = some (.int .i64 b) ∧ w'.cell? ⟨wr.heap.size, 1, none⟩ = some (.slice (some ⟨db, dof, none⟩) 64 dc) ∧ w'.rangeAt db dof V) (by kernel_rfl) ⟨c0, c1, RU3⟩ (fun hHeld => ?_)
      refine wpAnyH_take (i := 0) (oi := { dst := some 14, op := _, type := _, pos := _, after := _, guard := _ }) (v := (.pointer (some ⟨w.heap.size + 2, 0, none⟩))) rfl (by kernel_rfl) (by kernel_rfl) (by kernel_rfl) (fun _ _ _ h => h) (Or.inl ⟨by rfl, fun w' hSw => ?_⟩) (by assumption) ?_
      · (try dsimp only at hSw)
        go_simp
      simp only [Act.put, List.setIfInBounds_toArray, List.set_cons_zero, List.set_cons_succ]
      refine wpAnyH_take (i := 1) (oi := { dst := some 15, op := _, type := _, pos := _, after := _, guard := _ }) (v := (.pointer (some ⟨wr.heap.size, 0, none⟩))) rfl (by kernel_rfl) (by kernel_rfl) (by kernel_rfl) (fun _ _ _ h => h) (Or.inl ⟨by rfl, fun w' hSw => ?_⟩) (by assumption) ?_
      · (try dsimp only at hSw)
        go_simp
      simp only [Act.put, List.setIfInBounds_toArray, List.set_cons_zero, List.set_cons_succ]
      refine wpAnyH_take (i := 2) (oi := { dst := some 16, op := _, type := _, pos := _, after := _, guard := _ }) (v := (.int .i64 b)) rfl (by kernel_rfl) (by kernel_rfl) (by kernel_rfl) (fun _ _ _ h => h) (Or.inl ⟨by rfl, fun w' hSw => ?_⟩) (by assumption) ?_
      · (try dsimp only at hSw)
        go_simp
      simp only [Act.put, List.setIfInBounds_toArray, List.set_cons_zero, List.set_cons_succ]
      refine wpAnyH_take (i := 3) (oi := { dst := some 17, op := _, type := _, pos := _, after := _, guard := _ }) (v := (.pointer (some ⟨wr.heap.size, 1, none⟩))) rfl (by kernel_rfl) (by kernel_rfl) (by kernel_rfl) (fun _ _ _ h => h) (Or.inl ⟨by rfl, fun w' hSw => ?_⟩) (by assumption) ?_
      · (try dsimp only at hSw)
        go_simp
      simp only [Act.put, List.setIfInBounds_toArray, List.set_cons_zero, List.set_cons_succ]
      refine wpAnyH_take (i := 4) (oi := { dst := some 18, op := _, type := _, pos := _, after := _, guard := _ }) (v := (.slice (some ⟨db, dof, none⟩) 64 dc)) rfl (by kernel_rfl) (by kernel_rfl) (by kernel_rfl) (fun _ _ _ h => h) (Or.inl ⟨by rfl, fun w' hSw => ?_⟩) (by assumption) ?_
      · (try dsimp only at hSw)
        go_simp
      simp only [Act.put, List.setIfInBounds_toArray, List.set_cons_zero, List.set_cons_succ]
      refine wpAnyH_take (i := 5) (oi := { dst := some 19, op := _, type := _, pos := _, after := _, guard := _ }) (v := (.pointer (some ⟨db, dof, none⟩))) rfl (by kernel_rfl) (by kernel_rfl) (by kernel_rfl) (fun _ _ _ h => h) (Or.inl ⟨by rfl, fun w' hSw => ?_⟩) (by assumption) ?_
      · (try dsimp only at hSw)
        go_simp
      simp only [Act.put, List.setIfInBounds_toArray, List.set_cons_zero, List.set_cons_succ]
      refine wpAnyH_take (i := 6) (oi := { dst := some 20, op := _, type := _, pos := _, after := _, guard := _ }) (v := .agg (V).toArray) rfl (by kernel_rfl) (by kernel_rfl) (by kernel_rfl) (fun _ _ _ h => h) (yieldsIf_load_mid (by rfl) _ _ rfl _ _ rfl V _ (fun w' hSw => hSw.2.2) Try.underlying75 rfl (sizeA _ HVL.out)) (by assumption) ?_
      simp only [Act.put, List.setIfInBounds_toArray, List.set_cons_zero, List.set_cons_succ]
      refine wpAnyH_ready (rs := [7]) (by kernel_rfl) (by simp) ?_
      refine AllReadyH.cons (o := { dst := some 21, op := _, type := _, pos := _, after := _, guard := _ }) rfl (fun K hK => ?_) AllReadyH.nil
      go_simp
      go_at_call 78
      refine CP.out.mono ?_
      rintro e w4 ⟨rfl, l0, l1, l2, R4, G4⟩
      refine hK.out _ _ ⟨l0, l1, l2⟩ (fun hHeld7 => ?_)
      clear hK K hHeld
      refine wpAnyH_done (by kernel_rfl) ?_ _
      clear l0 l1 l2 hHeld7 c0 c1 hat CP RU3
      go_wp2
      go_roundw
      case rel => exact ⟨k + 1, by omega, by go_num, R4, G4⟩
      case measure => simp [intOf]; omega
    · have hkn : k = n := by omega
      subst hkn
      go_wp2
      go_ret
      exact ⟨rfl, ⟨v, rs, HT.out, HOF.out⟩, BW.out⟩

end Go.Proofs.Ytoljmlhnbmeloaa
