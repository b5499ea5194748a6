import Derived.Test.YtmgolinleiahpaaSpecWrite
import Derived.Deep.RegionHeld3
import Derived.Deep.AppendLies
namespace Go.Proofs.Ytmgolinleiahpaa
open Go.RowKit

theorem own_lit64 {w : World} {base : Nat} {t : TypeId} {C : List Int} (hb : base ≤ w.heap.size) (hC : C.length = 64) : Own .u8 t (w.alloc (.cells (C.map (Value.int .u8)).toArray t)) base (.slice (some ⟨w.heap.size, 0, none⟩) 64 64) C := by
  have := World.ownsRow_lit (size := 1) (e := t) w (C.map (Value.int .u8)).toArray 64 hb (by unfold maxLen; omega) (by simp [hC])
  unfold Own
  rw [hC]
  simpa using this

set_option maxHeartbeats 2000000 in
set_option maxRecDepth 100000 in
/-- One record more is put into a disk of the call's own. -/
theorem addWrite_any (w : World) (pb off lo hi0 : Nat) (vd vp : Value) (dur : List Int) (ps : List (Int × List Int)) (dv : Nat → Value) (x : Int) (C : List Int) (hD : OwnD w lo hi0 vd vp dur ps dv) (hhi : hi0 ≤ w.heap.size) (hlo : lo ≤ w.heap.size) (hc : w.cell? ⟨pb, off + 1, none⟩ = some vp) (hf : w.frozen? ⟨pb, off + 1, none⟩ = false) (hpb : pb < w.heap.size) (hne : vp.ownBlock ≠ some pb) (hC : C.length = 64) (hn : ps.length ≤ 1000000) :
    Calls Try.prog 46 #[.pointer (some ⟨pb, off, none⟩), .int .i64 x, .agg (C.map (Value.int .u8)).toArray] w fun e w' => e = .returned (.tuple #[]) ∧ ∃ w5 g cap v, OwnD w5 lo w5.heap.size vd (.slice (some ⟨g, 0, none⟩) (ps.length + 1) cap) dur (ps ++ [(x, C)]) (dvSet dv ps.length v) ∧ w.grownBy w5 vp.ownBlock ∧ (vp.ownBlock = some g ∨ w.heap.size ≤ g) ∧ v.ownBlock = some w.heap.size ∧ w' = w5.setCell ⟨pb, off + 1, none⟩ (.slice (some ⟨g, 0, none⟩) (ps.length + 1) cap) := by
  obtain ⟨i0, hi, hz0, hz1, hz2⟩ := info_parts Try.infoW
  obtain ⟨vk, ck, rfl⟩ := hD.p.slice
  have HX1 : Hid (∀ v ∈ (C.map (Value.int .u8)), v.oneCell' = true) := ints_oneCell _ _
  have OC : Hid (Own .u8 77 (w.alloc (.cells (C.map (Value.int .u8)).toArray 77)) w.heap.size (.slice (some ⟨w.heap.size, 0, none⟩) 64 64) C) := own_lit64 (Nat.le_refl _) hC
  have bA : Below w.heap.size w (w.alloc (.cells (C.map (Value.int .u8)).toArray 77)) := (Below.refl _ _).alloc (Nat.le_refl _) _
  obtain ⟨X, hX⟩ : ∃ X, X = C.map (Value.int .u8) := ⟨_, rfl⟩
  rw [← hX] at OC bA HX1 ⊢
  have HX : Hid (X.length = 64) := by subst hX; show _ = _; simpa using hC
  have HBA : Hid (Below w.heap.size w (w.alloc (.cells X.toArray 77))) := bA
  have HD : Hid (OwnD w lo hi0 vd (.slice vk ps.length ck) dur ps dv) := hD
  have HC0 : Hid (w.cell? ⟨pb, off + 1, none⟩ = some (.slice vk ps.length ck) ∧ w.frozen? ⟨pb, off + 1, none⟩ = false) := ⟨hc, hf⟩
  obtain ⟨n0, hn0⟩ : ∃ n, n = ps.length := ⟨_, rfl⟩
  have HN0 : Hid (ps.length = n0) := hn0.symm
  have hn9 : n0 ≤ 1000000 := by omega
  rw [← hn0] at HC0 hne ⊢
  have HD' : Hid (OwnD w lo hi0 vd (.slice vk n0 ck) dur ps dv) := by rw [hn0]; exact HD.out
  clear hD hX bA hc hf HD hn0 hn
  go_enter Try.func46, Try.ntmps46
  go_wp2_with fail
  generalize hW0 : w.alloc (.cells X.toArray 77) = w0 at *
  have hs0 : w0.heap.size = w.heap.size + 1 := by rw [← hW0]; simp
  clear hW0
  have bP : Below w.heap.size w w0.drew := HBA.out.trans ((below_drewN' w0 1).mono HBA.out.size)
  have hS0 : w0.drew.cell? ⟨pb, off + 1, none⟩ = some (.slice vk n0 ck) ∧ w0.drew.frozen? ⟨pb, off + 1, none⟩ = false := ⟨(bP.cell (p := ⟨pb, off + 1, none⟩) hpb).trans HC0.out.1, (bP.frozen (p := ⟨pb, off + 1, none⟩) hpb).trans HC0.out.2⟩
  refine wp_region_held_drew (S := fun _ => True) (by kernel_rfl) trivial (fun hHeld => ?_)
  have HKP : Hid (w0.drew.cell? ⟨pb, off + 1, none⟩ = some (.slice vk n0 ck) ∧ w0.drew.frozen? ⟨pb, off + 1, none⟩ = false) := hS0
  clear hS0
  have OP : Hid (Own .u8 77 w0.drew w.heap.size (.slice (some ⟨w.heap.size, 0, none⟩) 64 64) C) := OC.out
  have hsp : w0.drew.heap.size = w.heap.size + 1 := hs0
  have HBP : Hid (Below w.heap.size w w0.drew) := bP
  have HSP : Hid (w0.drew.heap.size = w.heap.size + 1) := hsp
  clear bP OC HBA hs0 hsp
  generalize w0.drew = wp at *
  generalize hBX : w.heap.size = BX at *
  have bW : ∀ ob, Below wp.heap.size wp (wp.alloc ob) := fun ob => (Below.refl _ _).alloc (Nat.le_refl _) _
  have HK2 : Hid ((wp.alloc (.cells #[.int .i64 x, .slice (some ⟨BX, 0, none⟩) 64 64] 42)).cell? ⟨pb, off + 1, none⟩ = some (.slice vk n0 ck) ∧ (wp.alloc (.cells #[.int .i64 x, .slice (some ⟨BX, 0, none⟩) 64 64] 42)).frozen? ⟨pb, off + 1, none⟩ = false) :=
    ⟨((bW _).cell (p := ⟨pb, off + 1, none⟩) (show pb < wp.heap.size by have := HSP.out; omega)).trans ((HBP.out.cell (p := ⟨pb, off + 1, none⟩) (by show pb < _; omega)).trans HC0.out.1), ((bW _).frozen (p := ⟨pb, off + 1, none⟩) (show pb < wp.heap.size by have := HSP.out; omega)).trans ((HBP.out.frozen (p := ⟨pb, off + 1, none⟩) (by show pb < _; omega)).trans HC0.out.2)⟩
  have HK4 : Hid (∀ w4, (wp.alloc (.cells #[.int .i64 x, .slice (some ⟨BX, 0, none⟩) 64 64] 42)).grownBy w4 (Value.ownBlock (.slice vk n0 ck)) → w4.cell? ⟨pb, off + 1, none⟩ = some (.slice vk n0 ck) ∧ w4.frozen? ⟨pb, off + 1, none⟩ = false) := fun w4 hg =>
    ⟨(hg.cell_far ⟨pb, off + 1, none⟩ (by have := HSP.out; simp; omega) (Ne.symm hne)).trans HK2.out.1, (hg.frozen_far ⟨pb, off + 1, none⟩ (by have := HSP.out; simp; omega) (Ne.symm hne)).trans HK2.out.2⟩
  have HOW : Hid ((wp.alloc (.cells #[.int .i64 x, .slice (some ⟨BX, 0, none⟩) 64 64] 42)).ownsRow lo 42 2 (.slice vk n0 ck) n0 (rowW n0 (pB ps) dv)) := by
    have h1 := (HD'.out.below (by rw [hBX]; exact HBP.out)).p.1
    rw [HN0.out] at h1
    exact h1.alloc _
  have HLO2 : Hid (lo ≤ (wp.alloc (.cells #[.int .i64 x, .slice (some ⟨BX, 0, none⟩) 64 64] 42)).heap.size) := by show _ ≤ _; have := HSP.out; simp; omega
  have HFIN : Hid (∀ (g4 cap4 : Nat) (w4 : World), w4.ownsRow lo 42 2 (.slice (some ⟨g4, 0, none⟩) (n0 + 1) cap4) (n0 + 1) (rowW n0 (pB ps) dv ++ [.int .i64 x, .slice (some ⟨BX, 0, none⟩) 64 64]) → (wp.alloc (.cells #[.int .i64 x, .slice (some ⟨BX, 0, none⟩) 64 64] 42)).grownBy w4 (Value.ownBlock (.slice vk n0 ck)) → (Value.ownBlock (.slice vk n0 ck) = some g4 ∨ g4 = wp.heap.size + 1) →
      ∃ w5 g cap v, OwnD w5 lo w5.heap.size vd (.slice (some ⟨g, 0, none⟩) (n0 + 1) cap) dur (ps ++ [(x, C)]) (dvSet dv n0 v) ∧ w.grownBy w5 (Value.ownBlock (.slice vk n0 ck)) ∧ (Value.ownBlock (.slice vk n0 ck) = some g ∨ w.heap.size ≤ g) ∧ v.ownBlock = some w.heap.size ∧ w4.setCell ⟨pb, off + 1, none⟩ (.slice (some ⟨g4, 0, none⟩) (n0 + 1) cap4) = w5.setCell ⟨pb, off + 1, none⟩ (.slice (some ⟨g, 0, none⟩) (n0 + 1) cap)) := by
    intro g4 cap4 w4 ho4 hg4 hat4
    have hBP : Below w.heap.size w wp := by rw [hBX]; exact HBP.out
    refine ⟨w4, g4, cap4, .slice (some ⟨BX, 0, none⟩) 64 64, ?_, ?_, ?_, by rw [hBX]; rfl, rfl⟩
    · exact ownD_snoc (te := 77) HD'.out (by rw [hBX]; exact hhi) (by rw [hBX]; exact hlo) HN0.out hBP (by rw [hBX]; exact OP.out) ho4 hg4 hat4
    · refine World.grownBy.trans ?_ (World.grownBy.trans (World.grownBy_alloc wp _ _) hg4)
      exact ⟨hBP.os, hBP.tape, hBP.output, hBP.size, fun q hq _ => hBP.block q hq⟩
    · rcases hat4 with h | h
      · exact .inl h
      · right; have := HSP.out; omega
  clear bW
  refine wpAnyH_take (i := 0) (oi := { dst := some 6, op := _, type := _, pos := _, after := _, guard := _ }) (v := (.pointer (some ⟨pb, off, none⟩))) rfl (by kernel_rfl) (by kernel_rfl) (by kernel_rfl) (fun _ _ _ h => h) (Or.inl ⟨by rfl, ?hy1⟩) (by assumption) ?rest1
  case hy1 =>
    intro w9 hS9
    go_simp
    try with_reducible rfl
  try simp only [Act.put, List.setIfInBounds_toArray, List.set_cons_zero, List.set_cons_succ]
  refine wpAnyH_take (i := 1) (oi := { dst := some 7, op := _, type := _, pos := _, after := _, guard := _ }) (v := (.pointer (some ⟨pb, off, none⟩))) rfl (by kernel_rfl) (by kernel_rfl) (by kernel_rfl) (fun _ _ _ h => h) (Or.inl ⟨by rfl, ?hy2⟩) (by assumption) ?rest2
  case hy2 =>
    intro w9 hS9
    go_simp
    try with_reducible rfl
  try simp only [Act.put, List.setIfInBounds_toArray, List.set_cons_zero, List.set_cons_succ]
  refine wpAnyH_take (i := 2) (oi := { dst := some 8, op := _, type := _, pos := _, after := _, guard := _ }) (v := (.pointer (some ⟨pb, off, none⟩))) rfl (by kernel_rfl) (by kernel_rfl) (by kernel_rfl) (fun _ _ _ h => h) (Or.inl ⟨by rfl, ?hy3⟩) (by assumption) ?rest3
  case hy3 =>
    intro w9 hS9
    go_simp
    try with_reducible rfl
  try simp only [Act.put, List.setIfInBounds_toArray, List.set_cons_zero, List.set_cons_succ]
  refine wpAnyH_take (i := 3) (oi := { dst := some 9, op := _, type := _, pos := _, after := _, guard := _ }) (v := (.pointer (some ⟨pb, off + 1, none⟩))) rfl (by kernel_rfl) (by kernel_rfl) (by kernel_rfl) (fun _ _ _ h => h) (Or.inl ⟨by rfl, ?hy4⟩) (by assumption) ?rest4
  case hy4 =>
    intro w9 hS9
    go_simp
    try with_reducible rfl
  try simp only [Act.put, List.setIfInBounds_toArray, List.set_cons_zero, List.set_cons_succ]
  refine wpAnyH_take (i := 5) (oi := { dst := some 11, op := _, type := _, pos := _, after := _, guard := _ }) (v := (.int .i64 x)) rfl (by kernel_rfl) (by kernel_rfl) (by kernel_rfl) (fun _ _ _ h => h) (Or.inl ⟨by rfl, ?hy5⟩) (by assumption) ?rest5
  case hy5 =>
    intro w9 hS9
    go_simp
    try with_reducible rfl
  try simp only [Act.put, List.setIfInBounds_toArray, List.set_cons_zero, List.set_cons_succ]
  refine wpAnyH_take (i := 6) (oi := { dst := some 12, op := _, type := _, pos := _, after := _, guard := _ }) (v := (.slice (some ⟨BX, 0, none⟩) 64 64)) rfl (by kernel_rfl) (by kernel_rfl) (by kernel_rfl) (fun _ _ _ h => h) (Or.inl ⟨by rfl, ?hy6⟩) (by assumption) ?rest6
  case hy6 =>
    intro w9 hS9
    go_simp
    try with_reducible rfl
  try simp only [Act.put, List.setIfInBounds_toArray, List.set_cons_zero, List.set_cons_succ]
  refine wpAnyH_take (i := 7) (oi := { dst := some 13, op := _, type := _, pos := _, after := _, guard := _ }) (v := (.agg #[.int .i64 x, .slice (some ⟨BX, 0, none⟩) 64 64])) rfl (by kernel_rfl) (by kernel_rfl) (by kernel_rfl) (fun _ _ _ h => h) (Or.inl ⟨by rfl, ?hy7⟩) (by assumption) ?rest7
  case hy7 =>
    intro w9 hS9
    go_simp
    try with_reducible rfl
  try simp only [Act.put, List.setIfInBounds_toArray, List.set_cons_zero, List.set_cons_succ]
  refine wpAnyH_ready (rs := [4, 8]) (by kernel_rfl) (by simp) ?_
  refine (AllReadyH.cons (o := { dst := some 10, op := _, type := _, pos := _, after := _, guard := _ }) rfl (fun K hK => ?_) (AllReadyH.cons (o := { dst := some 14, op := _, type := _, pos := _, after := _, guard := _ }) rfl (fun K hK => ?_) AllReadyH.nil))
  · have hcp := HKP.out.1
    go_simp
    refine hK.out _ _ trivial (fun hx9 => ?_)
    clear hK K hx9
    try simp only [Act.put, List.setIfInBounds_toArray, List.set_cons_zero, List.set_cons_succ]
    refine wpAnyH_ready (rs := [8]) (by kernel_rfl) (by simp) ?_
    refine AllReadyH.cons (o := { dst := some 14, op := _, type := _, pos := _, after := _, guard := _ }) rfl (fun K hK => ?_) AllReadyH.nil
    go_simp
    refine hK.out _ _ trivial (fun hx9 => ?_)
    clear hK K hx9
    try simp only [Act.put, List.setIfInBounds_toArray, List.set_cons_zero, List.set_cons_succ]
    refine wpAnyH_ready (rs := [9]) (by kernel_rfl) (by simp) ?_
    refine AllReadyH.cons (o := { dst := some 15, op := _, type := _, pos := _, after := _, guard := _ }) rfl (fun K hK => ?_) AllReadyH.nil
    refine step_append_lies _ (by rfl) (.tmp 10) (.tmp 14) 30 (by rfl) lo 42 i0 (.agg #[.int .i64 0, .slice none 0 0]) 2 32 Try.underlying30 hi hz0 hz1 hz2 rfl (by omega) (.slice vk n0 ck) n0 (rowW n0 (pB ps) dv) (by rfl) HOW.out ⟨wp.heap.size, 0, none⟩ 1 1 [.int .i64 x, .slice (some ⟨BX, 0, none⟩) 64 64] (by rfl) (by rfl) (cell_two_new _ _ _ _) (by intro u hu; simp at hu; rcases hu with rfl | rfl <;> rfl) (by omega) (by unfold maxLen; omega) (by omega) HLO2.out (wp.heap.size + 1) (by simp) ?_
    intro g4 cap4 w4 ho4 hg4 hat4 hlt4
    obtain ⟨hq0, hq1⟩ := HK4.out w4 hg4
    have FIN := HFIN.out g4 cap4 w4 ho4 hg4 hat4
    have HFN : Hid _ := FIN
    clear FIN ho4 hg4 hat4 hlt4
    refine hK.out _ _ trivial (fun hx9 => ?_)
    clear hK K hx9
    try simp only [Act.put, List.setIfInBounds_toArray, List.set_cons_zero, List.set_cons_succ]
    refine wpAnyH_take (i := 10) (oi := { dst := some 16, op := _, type := _, pos := _, after := _, guard := _ }) (v := (.pointer (some ⟨pb, off, none⟩))) rfl (by kernel_rfl) (by kernel_rfl) (by kernel_rfl) (fun _ _ _ h => h) (Or.inl ⟨by rfl, ?hy8⟩) (by assumption) ?rest8
    case hy8 =>
      intro w9 hS9
      go_simp
      try with_reducible rfl
    try simp only [Act.put, List.setIfInBounds_toArray, List.set_cons_zero, List.set_cons_succ]
    refine wpAnyH_take (i := 11) (oi := { dst := some 17, op := _, type := _, pos := _, after := _, guard := _ }) (v := (.pointer (some ⟨pb, off + 1, none⟩))) rfl (by kernel_rfl) (by kernel_rfl) (by kernel_rfl) (fun _ _ _ h => h) (Or.inl ⟨by rfl, ?hy9⟩) (by assumption) ?rest9
    case hy9 =>
      intro w9 hS9
      go_simp
      try with_reducible rfl
    try simp only [Act.put, List.setIfInBounds_toArray, List.set_cons_zero, List.set_cons_succ]
    refine wpAnyH_ready (rs := [12]) (by kernel_rfl) (by simp) ?_
    refine AllReadyH.cons (o := { dst := none, op := _, type := _, pos := _, after := _, guard := _ }) rfl (fun K hK => ?_) AllReadyH.nil
    go_simp
    refine hK.out _ _ trivial (fun hx9 => ?_)
    clear hK K hx9
    try simp only [Act.put, List.setIfInBounds_toArray, List.set_cons_zero, List.set_cons_succ]
    refine wpAnyH_done (by kernel_rfl) ?_ _
    clear hHeld
    go_wp2
    go_end0
    exact ⟨rfl, HFN.out⟩
  · go_simp
    refine hK.out _ _ trivial (fun hx9 => ?_)
    clear hK K hx9
    try simp only [Act.put, List.setIfInBounds_toArray, List.set_cons_zero, List.set_cons_succ]
    refine wpAnyH_ready (rs := [4]) (by kernel_rfl) (by simp) ?_
    refine AllReadyH.cons (o := { dst := some 10, op := _, type := _, pos := _, after := _, guard := _ }) rfl (fun K hK => ?_) AllReadyH.nil
    have hcp := HK2.out.1
    go_simp
    refine hK.out _ _ trivial (fun hx9 => ?_)
    clear hK K hx9
    try simp only [Act.put, List.setIfInBounds_toArray, List.set_cons_zero, List.set_cons_succ]
    refine wpAnyH_ready (rs := [9]) (by kernel_rfl) (by simp) ?_
    refine AllReadyH.cons (o := { dst := some 15, op := _, type := _, pos := _, after := _, guard := _ }) rfl (fun K hK => ?_) AllReadyH.nil
    refine step_append_lies _ (by rfl) (.tmp 10) (.tmp 14) 30 (by rfl) lo 42 i0 (.agg #[.int .i64 0, .slice none 0 0]) 2 32 Try.underlying30 hi hz0 hz1 hz2 rfl (by omega) (.slice vk n0 ck) n0 (rowW n0 (pB ps) dv) (by rfl) HOW.out ⟨wp.heap.size, 0, none⟩ 1 1 [.int .i64 x, .slice (some ⟨BX, 0, none⟩) 64 64] (by rfl) (by rfl) (cell_two_new _ _ _ _) (by intro u hu; simp at hu; rcases hu with rfl | rfl <;> rfl) (by omega) (by unfold maxLen; omega) (by omega) HLO2.out (wp.heap.size + 1) (by simp) ?_
    intro g4 cap4 w4 ho4 hg4 hat4 hlt4
    obtain ⟨hq0, hq1⟩ := HK4.out w4 hg4
    have FIN := HFIN.out g4 cap4 w4 ho4 hg4 hat4
    have HFN : Hid _ := FIN
    clear FIN ho4 hg4 hat4 hlt4
    refine hK.out _ _ trivial (fun hx9 => ?_)
    clear hK K hx9
    try simp only [Act.put, List.setIfInBounds_toArray, List.set_cons_zero, List.set_cons_succ]
    refine wpAnyH_take (i := 10) (oi := { dst := some 16, op := _, type := _, pos := _, after := _, guard := _ }) (v := (.pointer (some ⟨pb, off, none⟩))) rfl (by kernel_rfl) (by kernel_rfl) (by kernel_rfl) (fun _ _ _ h => h) (Or.inl ⟨by rfl, ?hy10⟩) (by assumption) ?rest10
    case hy10 =>
      intro w9 hS9
      go_simp
      try with_reducible rfl
    try simp only [Act.put, List.setIfInBounds_toArray, List.set_cons_zero, List.set_cons_succ]
    refine wpAnyH_take (i := 11) (oi := { dst := some 17, op := _, type := _, pos := _, after := _, guard := _ }) (v := (.pointer (some ⟨pb, off + 1, none⟩))) rfl (by kernel_rfl) (by kernel_rfl) (by kernel_rfl) (fun _ _ _ h => h) (Or.inl ⟨by rfl, ?hy11⟩) (by assumption) ?rest11
    case hy11 =>
      intro w9 hS9
      go_simp
      try with_reducible rfl
    try simp only [Act.put, List.setIfInBounds_toArray, List.set_cons_zero, List.set_cons_succ]
    refine wpAnyH_ready (rs := [12]) (by kernel_rfl) (by simp) ?_
    refine AllReadyH.cons (o := { dst := none, op := _, type := _, pos := _, after := _, guard := _ }) rfl (fun K hK => ?_) AllReadyH.nil
    go_simp
    refine hK.out _ _ trivial (fun hx9 => ?_)
    clear hK K hx9
    try simp only [Act.put, List.setIfInBounds_toArray, List.set_cons_zero, List.set_cons_succ]
    refine wpAnyH_done (by kernel_rfl) ?_ _
    clear hHeld
    go_wp2
    go_end0
    exact ⟨rfl, HFN.out⟩

end Go.Proofs.Ytmgolinleiahpaa
