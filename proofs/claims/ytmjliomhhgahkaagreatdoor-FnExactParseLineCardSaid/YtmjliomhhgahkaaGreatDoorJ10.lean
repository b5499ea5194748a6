import Derived.Test.YtmjliomhhgahkaaGreatDoorJ09
import Derived.Test.YtmjliomhhgahkaaGreatDoorJ01
import Derived.Lib.SplitLaws
namespace Go.Proofs.YtmjliomhhgahkaaGreatDoor
open Go.RowKit Go.Shelf
set_option linter.unusedVariables false

theorem word9 {f : ByteArray} {l : List UInt8} (h : (f.toList == l) = true) : f = mkB l := by rw [← mkB_data f, ← ba_dl, beq_iff_eq.1 h]
theorem word0 {f : ByteArray} {l : List UInt8} (h : (f.toList == l) = false) : mkB l ≠ f := fun e => by
  rw [← e, ba_dl] at h
  have : (mkB l).data.toList = l := rfl
  rw [this] at h
  simp at h
/-- A function value out of the map, and that it reads the fields as the document says. -/
def PK (W : World) (s : Value) (l : Ln) (v : Value) : Prop :=
  (v = .func (.func 34) #[] #[] ∧ Calls Tryz.prog 34 #[s] W fun e w' => LnP W l e w') ∨
  (v = .func (.func 35) #[] #[] ∧ Calls Tryz.prog 35 #[s] W fun e w' => LnP W l e w') ∨
  (∃ k, v = .func (.func 52) #[] #[.pointer (some ⟨k, 0, none⟩)] ∧ Calls Tryz.prog 52 #[s, .pointer (some ⟨k, 0, none⟩)] W fun e w' => LnP W l e w') ∨
  (∃ k, v = .func (.func 53) #[] #[.pointer (some ⟨k, 0, none⟩)] ∧ Calls Tryz.prog 53 #[s, .pointer (some ⟨k, 0, none⟩)] W fun e w' => LnP W l e w') ∨
  (∃ f k, v = .func (.func 54) #[] #[.pointer (some ⟨f, 0, none⟩), .pointer (some ⟨k, 0, none⟩)] ∧ Calls Tryz.prog 54 #[s, .pointer (some ⟨f, 0, none⟩), .pointer (some ⟨k, 0, none⟩)] W fun e w' => LnP W l e w')
set_option maxRecDepth 100000 in
set_option maxHeartbeats 4000000 in
theorem look_any (w W : World) (N g c : Nat) (L : List ByteArray) (hp : PS w W N (prL w.heap.size) (prC w.heap.size)) (hL : 0 < L.length) (hL1 : L.length ≤ 1048577) (hLc : L.length ≤ c) (hc : c ≤ maxLen) (hcl : ∀ i, i < L.length → W.cell? ⟨g, i, none⟩ = some (.string (bAt L i))) (hgb : g < W.heap.size) (hsz : SzB L) {m : Int} {te : TypeId} {pe : Value} (hg : PlG W m te pe) (hf : FmG W) :
    ∃ v ok, (Instr.lookup 53 (.map (some w.heap.size)) (.string (bAt L 0)) true).run Tryz.prog W = .ok (.tuple #[v, .bool ok]) W ∧ (ok = true → PK W (.slice (some ⟨g, 0, none⟩) L.length c) (plF L) v) ∧ (ok = false → v = .nilFunc ∧ plF L = ln0) := by
  have hR : RdB W (.slice (some ⟨g, 0, none⟩) L.length c) L := ⟨_, c, rfl, hLc, hc, .inr ⟨g, 0, rfl, hgb, fun i hi => by rw [Nat.zero_add]; exact hcl i hi⟩⟩
  have hop : ∀ V, Below W.heap.size W V → Calls Tryz.prog 50 #[.slice (some ⟨g, 0, none⟩) L.length c] V fun e w' => OpP V L e w' := fun V hV => parseOp_any V _ L (hR.below hV) hsz (hg.later hV) (hf.later hV)
  have hcx : ∀ p ∈ prC w.heap.size, w.heap.size < p.1 ∧ p.1 < N ∧ W.cell? ⟨p.1, 0, none⟩ = some p.2 := hp.c
  have hN := hp.z
  have hit := fun (f : ByteArray) (v : Value) (hm : (f, v) ∈ prL w.heap.size) hu => hp.m.hit (P := Tryz.prog) Tryz.underlying53 Tryz.underlying9 hm hu
  by_cases q0 : ((bAt L 0).toList == [99, 114, 101, 97, 116, 101]) = true
  case pos =>
    have e := word9 q0
    refine ⟨.func (.func 34) #[] #[], true, ?_, fun _ => .inl ⟨rfl, single_of W _ c L hop _ (plF_create q0)⟩, fun h => by cases h⟩
    rw [e]
    refine hit _ _ (by simp [prL, mkB]) (fun v9 h9 => ?_)
    unfold prL at h9
    simp only [List.mem_cons, List.not_mem_nil, or_false] at h9
    rcases h9 with h9 | h9 | h9 | h9 | h9 | h9 | h9 | h9 | h9 | h9 | h9 | h9 | h9 | h9 | h9 | h9 | h9
    all_goals first | exact (Prod.mk.inj h9).2 | exact absurd (Prod.mk.inj h9).1 (bne9 (by rfl))
  replace q0 : ((bAt L 0).toList == [99, 114, 101, 97, 116, 101]) = false := by simpa using q0
  by_cases q1 : ((bAt L 0).toList == [115, 101, 113]) = true
  case pos =>
    have e := word9 q1
    refine ⟨.func (.func 34) #[] #[], true, ?_, fun _ => .inl ⟨rfl, single_of W _ c L hop _ (plF_seq q1)⟩, fun h => by cases h⟩
    rw [e]
    refine hit _ _ (by simp [prL, mkB]) (fun v9 h9 => ?_)
    unfold prL at h9
    simp only [List.mem_cons, List.not_mem_nil, or_false] at h9
    rcases h9 with h9 | h9 | h9 | h9 | h9 | h9 | h9 | h9 | h9 | h9 | h9 | h9 | h9 | h9 | h9 | h9 | h9
    all_goals first | exact (Prod.mk.inj h9).2 | exact absurd (Prod.mk.inj h9).1 (bne9 (by rfl))
  replace q1 : ((bAt L 0).toList == [115, 101, 113]) = false := by simpa using q1
  by_cases q2 : ((bAt L 0).toList == [100, 101, 108, 101, 116, 101]) = true
  case pos =>
    have e := word9 q2
    refine ⟨.func (.func 34) #[] #[], true, ?_, fun _ => .inl ⟨rfl, single_of W _ c L hop _ (plF_delete q2)⟩, fun h => by cases h⟩
    rw [e]
    refine hit _ _ (by simp [prL, mkB]) (fun v9 h9 => ?_)
    unfold prL at h9
    simp only [List.mem_cons, List.not_mem_nil, or_false] at h9
    rcases h9 with h9 | h9 | h9 | h9 | h9 | h9 | h9 | h9 | h9 | h9 | h9 | h9 | h9 | h9 | h9 | h9 | h9
    all_goals first | exact (Prod.mk.inj h9).2 | exact absurd (Prod.mk.inj h9).1 (bne9 (by rfl))
  replace q2 : ((bAt L 0).toList == [100, 101, 108, 101, 116, 101]) = false := by simpa using q2
  by_cases q3 : ((bAt L 0).toList == [115, 101, 116]) = true
  case pos =>
    have e := word9 q3
    refine ⟨.func (.func 34) #[] #[], true, ?_, fun _ => .inl ⟨rfl, single_of W _ c L hop _ (plF_set q3)⟩, fun h => by cases h⟩
    rw [e]
    refine hit _ _ (by simp [prL, mkB]) (fun v9 h9 => ?_)
    unfold prL at h9
    simp only [List.mem_cons, List.not_mem_nil, or_false] at h9
    rcases h9 with h9 | h9 | h9 | h9 | h9 | h9 | h9 | h9 | h9 | h9 | h9 | h9 | h9 | h9 | h9 | h9 | h9
    all_goals first | exact (Prod.mk.inj h9).2 | exact absurd (Prod.mk.inj h9).1 (bne9 (by rfl))
  replace q3 : ((bAt L 0).toList == [115, 101, 116]) = false := by simpa using q3
  by_cases q4 : ((bAt L 0).toList == [99, 104, 101, 99, 107]) = true
  case pos =>
    have e := word9 q4
    refine ⟨.func (.func 34) #[] #[], true, ?_, fun _ => .inl ⟨rfl, single_of W _ c L hop _ (plF_check q4)⟩, fun h => by cases h⟩
    rw [e]
    refine hit _ _ (by simp [prL, mkB]) (fun v9 h9 => ?_)
    unfold prL at h9
    simp only [List.mem_cons, List.not_mem_nil, or_false] at h9
    rcases h9 with h9 | h9 | h9 | h9 | h9 | h9 | h9 | h9 | h9 | h9 | h9 | h9 | h9 | h9 | h9 | h9 | h9
    all_goals first | exact (Prod.mk.inj h9).2 | exact absurd (Prod.mk.inj h9).1 (bne9 (by rfl))
  replace q4 : ((bAt L 0).toList == [99, 104, 101, 99, 107]) = false := by simpa using q4
  by_cases q5 : ((bAt L 0).toList == [109, 117, 108, 116, 105]) = true
  case pos =>
    have e := word9 q5
    refine ⟨.func (.func 35) #[] #[], true, ?_, fun _ => .inr (.inl ⟨rfl, parseMulti_any W g 0 c L hL hL1 hLc hc hR hsz hg hf _ (plF_multi q5)⟩), fun h => by cases h⟩
    rw [e]
    refine hit _ _ (by simp [prL, mkB]) (fun v9 h9 => ?_)
    unfold prL at h9
    simp only [List.mem_cons, List.not_mem_nil, or_false] at h9
    rcases h9 with h9 | h9 | h9 | h9 | h9 | h9 | h9 | h9 | h9 | h9 | h9 | h9 | h9 | h9 | h9 | h9 | h9
    all_goals first | exact (Prod.mk.inj h9).2 | exact absurd (Prod.mk.inj h9).1 (bne9 (by rfl))
  replace q5 : ((bAt L 0).toList == [109, 117, 108, 116, 105]) = false := by simpa using q5
  by_cases q6 : ((bAt L 0).toList == [102, 108, 117, 115, 104]) = true
  case pos =>
    have e := word9 q6
    refine ⟨.func (.func 52) #[] #[.pointer (some ⟨w.heap.size + 1, 0, none⟩)], true, ?_, fun _ => .inr (.inr (.inl ⟨_, rfl, bareP_any W _ _ c (w.heap.size + 1) 2 (hcx (w.heap.size + 1, .int .i64 2) (by simp [prC])).2.2 (by rw [hN]; exact (hcx (w.heap.size + 1, .int .i64 2) (by simp [prC])).2.1) _ (plF_flush q6)⟩)), fun h => by cases h⟩
    rw [e]
    refine hit _ _ (by simp [prL, mkB]) (fun v9 h9 => ?_)
    unfold prL at h9
    simp only [List.mem_cons, List.not_mem_nil, or_false] at h9
    rcases h9 with h9 | h9 | h9 | h9 | h9 | h9 | h9 | h9 | h9 | h9 | h9 | h9 | h9 | h9 | h9 | h9 | h9
    all_goals first | exact (Prod.mk.inj h9).2 | exact absurd (Prod.mk.inj h9).1 (bne9 (by rfl))
  replace q6 : ((bAt L 0).toList == [102, 108, 117, 115, 104]) = false := by simpa using q6
  by_cases q7 : ((bAt L 0).toList == [103, 101, 116]) = true
  case pos =>
    have e := word9 q7
    refine ⟨.func (.func 53) #[] #[.pointer (some ⟨w.heap.size + 2, 0, none⟩)], true, ?_, fun _ => .inr (.inr (.inr (.inl ⟨_, rfl, pathP_any W g c (w.heap.size + 2) L 3 (hcx (w.heap.size + 2, .int .i64 3) (by simp [prC])).2.2 (by rw [hN]; exact (hcx (w.heap.size + 2, .int .i64 3) (by simp [prC])).2.1) hcl hgb _ (plF_get q7)⟩))), fun h => by cases h⟩
    rw [e]
    refine hit _ _ (by simp [prL, mkB]) (fun v9 h9 => ?_)
    unfold prL at h9
    simp only [List.mem_cons, List.not_mem_nil, or_false] at h9
    rcases h9 with h9 | h9 | h9 | h9 | h9 | h9 | h9 | h9 | h9 | h9 | h9 | h9 | h9 | h9 | h9 | h9 | h9
    all_goals first | exact (Prod.mk.inj h9).2 | exact absurd (Prod.mk.inj h9).1 (bne9 (by rfl))
  replace q7 : ((bAt L 0).toList == [103, 101, 116]) = false := by simpa using q7
  by_cases q8 : ((bAt L 0).toList == [108, 105, 115, 116]) = true
  case pos =>
    have e := word9 q8
    refine ⟨.func (.func 53) #[] #[.pointer (some ⟨w.heap.size + 3, 0, none⟩)], true, ?_, fun _ => .inr (.inr (.inr (.inl ⟨_, rfl, pathP_any W g c (w.heap.size + 3) L 4 (hcx (w.heap.size + 3, .int .i64 4) (by simp [prC])).2.2 (by rw [hN]; exact (hcx (w.heap.size + 3, .int .i64 4) (by simp [prC])).2.1) hcl hgb _ (plF_list q8)⟩))), fun h => by cases h⟩
    rw [e]
    refine hit _ _ (by simp [prL, mkB]) (fun v9 h9 => ?_)
    unfold prL at h9
    simp only [List.mem_cons, List.not_mem_nil, or_false] at h9
    rcases h9 with h9 | h9 | h9 | h9 | h9 | h9 | h9 | h9 | h9 | h9 | h9 | h9 | h9 | h9 | h9 | h9 | h9
    all_goals first | exact (Prod.mk.inj h9).2 | exact absurd (Prod.mk.inj h9).1 (bne9 (by rfl))
  replace q8 : ((bAt L 0).toList == [108, 105, 115, 116]) = false := by simpa using q8
  by_cases q9 : ((bAt L 0).toList == [100, 117, 109, 112]) = true
  case pos =>
    have e := word9 q9
    refine ⟨.func (.func 52) #[] #[.pointer (some ⟨w.heap.size + 4, 0, none⟩)], true, ?_, fun _ => .inr (.inr (.inl ⟨_, rfl, bareP_any W _ _ c (w.heap.size + 4) 5 (hcx (w.heap.size + 4, .int .i64 5) (by simp [prC])).2.2 (by rw [hN]; exact (hcx (w.heap.size + 4, .int .i64 5) (by simp [prC])).2.1) _ (plF_dump q9)⟩)), fun h => by cases h⟩
    rw [e]
    refine hit _ _ (by simp [prL, mkB]) (fun v9 h9 => ?_)
    unfold prL at h9
    simp only [List.mem_cons, List.not_mem_nil, or_false] at h9
    rcases h9 with h9 | h9 | h9 | h9 | h9 | h9 | h9 | h9 | h9 | h9 | h9 | h9 | h9 | h9 | h9 | h9 | h9
    all_goals first | exact (Prod.mk.inj h9).2 | exact absurd (Prod.mk.inj h9).1 (bne9 (by rfl))
  replace q9 : ((bAt L 0).toList == [100, 117, 109, 112]) = false := by simpa using q9
  by_cases q10 : ((bAt L 0).toList == [115, 110, 97, 112]) = true
  case pos =>
    have e := word9 q10
    refine ⟨.func (.func 52) #[] #[.pointer (some ⟨w.heap.size + 5, 0, none⟩)], true, ?_, fun _ => .inr (.inr (.inl ⟨_, rfl, bareP_any W _ _ c (w.heap.size + 5) 6 (hcx (w.heap.size + 5, .int .i64 6) (by simp [prC])).2.2 (by rw [hN]; exact (hcx (w.heap.size + 5, .int .i64 6) (by simp [prC])).2.1) _ (plF_snap q10)⟩)), fun h => by cases h⟩
    rw [e]
    refine hit _ _ (by simp [prL, mkB]) (fun v9 h9 => ?_)
    unfold prL at h9
    simp only [List.mem_cons, List.not_mem_nil, or_false] at h9
    rcases h9 with h9 | h9 | h9 | h9 | h9 | h9 | h9 | h9 | h9 | h9 | h9 | h9 | h9 | h9 | h9 | h9 | h9
    all_goals first | exact (Prod.mk.inj h9).2 | exact absurd (Prod.mk.inj h9).1 (bne9 (by rfl))
  replace q10 : ((bAt L 0).toList == [115, 110, 97, 112]) = false := by simpa using q10
  by_cases q11 : ((bAt L 0).toList == [115, 116, 101, 112]) = true
  case pos =>
    have e := word9 q11
    refine ⟨.func (.func 54) #[] #[.pointer (some ⟨w.heap.size + 7, 0, none⟩), .pointer (some ⟨w.heap.size + 6, 0, none⟩)], true, ?_, fun _ => .inr (.inr (.inr (.inr ⟨_, _, rfl, numPStep_any W g c (w.heap.size + 6) (w.heap.size + 7) L 7 (hcx (w.heap.size + 6, .int .i64 7) (by simp [prC])).2.2 (hcx (w.heap.size + 7, .func (.func 39) #[] #[]) (by simp [prC])).2.2 hL hL1 hLc hc hR hsz hg _ (plF_step q11)⟩))), fun h => by cases h⟩
    rw [e]
    refine hit _ _ (by simp [prL, mkB]) (fun v9 h9 => ?_)
    unfold prL at h9
    simp only [List.mem_cons, List.not_mem_nil, or_false] at h9
    rcases h9 with h9 | h9 | h9 | h9 | h9 | h9 | h9 | h9 | h9 | h9 | h9 | h9 | h9 | h9 | h9 | h9 | h9
    all_goals first | exact (Prod.mk.inj h9).2 | exact absurd (Prod.mk.inj h9).1 (bne9 (by rfl))
  replace q11 : ((bAt L 0).toList == [115, 116, 101, 112]) = false := by simpa using q11
  by_cases q12 : ((bAt L 0).toList == [97, 114, 109]) = true
  case pos =>
    have e := word9 q12
    refine ⟨.func (.func 54) #[] #[.pointer (some ⟨w.heap.size + 9, 0, none⟩), .pointer (some ⟨w.heap.size + 8, 0, none⟩)], true, ?_, fun _ => .inr (.inr (.inr (.inr ⟨_, _, rfl, numPArm_any W g c (w.heap.size + 8) (w.heap.size + 9) L 8 (hcx (w.heap.size + 8, .int .i64 8) (by simp [prC])).2.2 (hcx (w.heap.size + 9, .func (.func 40) #[] #[]) (by simp [prC])).2.2 hL hL1 hLc hc hR hsz hg _ (plF_arm q12)⟩))), fun h => by cases h⟩
    rw [e]
    refine hit _ _ (by simp [prL, mkB]) (fun v9 h9 => ?_)
    unfold prL at h9
    simp only [List.mem_cons, List.not_mem_nil, or_false] at h9
    rcases h9 with h9 | h9 | h9 | h9 | h9 | h9 | h9 | h9 | h9 | h9 | h9 | h9 | h9 | h9 | h9 | h9 | h9
    all_goals first | exact (Prod.mk.inj h9).2 | exact absurd (Prod.mk.inj h9).1 (bne9 (by rfl))
  replace q12 : ((bAt L 0).toList == [97, 114, 109]) = false := by simpa using q12
  by_cases q13 : ((bAt L 0).toList == [99, 114, 97, 115, 104]) = true
  case pos =>
    have e := word9 q13
    refine ⟨.func (.func 54) #[] #[.pointer (some ⟨w.heap.size + 11, 0, none⟩), .pointer (some ⟨w.heap.size + 10, 0, none⟩)], true, ?_, fun _ => .inr (.inr (.inr (.inr ⟨_, _, rfl, numPCrash_any W g c (w.heap.size + 10) (w.heap.size + 11) L 9 (hcx (w.heap.size + 10, .int .i64 9) (by simp [prC])).2.2 (hcx (w.heap.size + 11, .func (.func 41) #[] #[]) (by simp [prC])).2.2 hL hL1 hLc hc hR hsz hg _ (plF_crash q13)⟩))), fun h => by cases h⟩
    rw [e]
    refine hit _ _ (by simp [prL, mkB]) (fun v9 h9 => ?_)
    unfold prL at h9
    simp only [List.mem_cons, List.not_mem_nil, or_false] at h9
    rcases h9 with h9 | h9 | h9 | h9 | h9 | h9 | h9 | h9 | h9 | h9 | h9 | h9 | h9 | h9 | h9 | h9 | h9
    all_goals first | exact (Prod.mk.inj h9).2 | exact absurd (Prod.mk.inj h9).1 (bne9 (by rfl))
  replace q13 : ((bAt L 0).toList == [99, 114, 97, 115, 104]) = false := by simpa using q13
  by_cases q14 : ((bAt L 0).toList == [114, 111, 116]) = true
  case pos =>
    have e := word9 q14
    refine ⟨.func (.func 54) #[] #[.pointer (some ⟨w.heap.size + 13, 0, none⟩), .pointer (some ⟨w.heap.size + 12, 0, none⟩)], true, ?_, fun _ => .inr (.inr (.inr (.inr ⟨_, _, rfl, numPRot_any W g c (w.heap.size + 12) (w.heap.size + 13) L 10 (hcx (w.heap.size + 12, .int .i64 10) (by simp [prC])).2.2 (hcx (w.heap.size + 13, .func (.func 42) #[] #[]) (by simp [prC])).2.2 hL hL1 hLc hc hR hsz hg _ (plF_rot q14)⟩))), fun h => by cases h⟩
    rw [e]
    refine hit _ _ (by simp [prL, mkB]) (fun v9 h9 => ?_)
    unfold prL at h9
    simp only [List.mem_cons, List.not_mem_nil, or_false] at h9
    rcases h9 with h9 | h9 | h9 | h9 | h9 | h9 | h9 | h9 | h9 | h9 | h9 | h9 | h9 | h9 | h9 | h9 | h9
    all_goals first | exact (Prod.mk.inj h9).2 | exact absurd (Prod.mk.inj h9).1 (bne9 (by rfl))
  replace q14 : ((bAt L 0).toList == [114, 111, 116]) = false := by simpa using q14
  by_cases q15 : ((bAt L 0).toList == [114, 101, 99, 111, 118, 101, 114]) = true
  case pos =>
    have e := word9 q15
    refine ⟨.func (.func 52) #[] #[.pointer (some ⟨w.heap.size + 14, 0, none⟩)], true, ?_, fun _ => .inr (.inr (.inl ⟨_, rfl, bareP_any W _ _ c (w.heap.size + 14) 11 (hcx (w.heap.size + 14, .int .i64 11) (by simp [prC])).2.2 (by rw [hN]; exact (hcx (w.heap.size + 14, .int .i64 11) (by simp [prC])).2.1) _ (plF_recover q15)⟩)), fun h => by cases h⟩
    rw [e]
    refine hit _ _ (by simp [prL, mkB]) (fun v9 h9 => ?_)
    unfold prL at h9
    simp only [List.mem_cons, List.not_mem_nil, or_false] at h9
    rcases h9 with h9 | h9 | h9 | h9 | h9 | h9 | h9 | h9 | h9 | h9 | h9 | h9 | h9 | h9 | h9 | h9 | h9
    all_goals first | exact (Prod.mk.inj h9).2 | exact absurd (Prod.mk.inj h9).1 (bne9 (by rfl))
  replace q15 : ((bAt L 0).toList == [114, 101, 99, 111, 118, 101, 114]) = false := by simpa using q15
  by_cases q16 : ((bAt L 0).toList == [115, 116, 97, 116, 117, 115]) = true
  case pos =>
    have e := word9 q16
    refine ⟨.func (.func 52) #[] #[.pointer (some ⟨w.heap.size + 15, 0, none⟩)], true, ?_, fun _ => .inr (.inr (.inl ⟨_, rfl, bareP_any W _ _ c (w.heap.size + 15) 12 (hcx (w.heap.size + 15, .int .i64 12) (by simp [prC])).2.2 (by rw [hN]; exact (hcx (w.heap.size + 15, .int .i64 12) (by simp [prC])).2.1) _ (plF_status q16)⟩)), fun h => by cases h⟩
    rw [e]
    refine hit _ _ (by simp [prL, mkB]) (fun v9 h9 => ?_)
    unfold prL at h9
    simp only [List.mem_cons, List.not_mem_nil, or_false] at h9
    rcases h9 with h9 | h9 | h9 | h9 | h9 | h9 | h9 | h9 | h9 | h9 | h9 | h9 | h9 | h9 | h9 | h9 | h9
    all_goals first | exact (Prod.mk.inj h9).2 | exact absurd (Prod.mk.inj h9).1 (bne9 (by rfl))
  replace q16 : ((bAt L 0).toList == [115, 116, 97, 116, 117, 115]) = false := by simpa using q16
  refine ⟨.nilFunc, false, ?_, fun h => (by cases h), fun _ => ⟨rfl, ?_⟩⟩
  · refine hp.m.miss (P := Tryz.prog) Tryz.underlying53 Tryz.underlying9 (by kernel_rfl) ?_
    intro y hy
    unfold prL at hy
    simp only [List.mem_cons, List.not_mem_nil, or_false] at hy
    rcases hy with rfl | rfl | rfl | rfl | rfl | rfl | rfl | rfl | rfl | rfl | rfl | rfl | rfl | rfl | rfl | rfl | rfl
    · exact word0 q0
    · exact word0 q1
    · exact word0 q2
    · exact word0 q3
    · exact word0 q4
    · exact word0 q5
    · exact word0 q6
    · exact word0 q7
    · exact word0 q8
    · exact word0 q9
    · exact word0 q10
    · exact word0 q11
    · exact word0 q12
    · exact word0 q13
    · exact word0 q14
    · exact word0 q15
    · exact word0 q16
  · exact plF_other q5 q0 q1 q2 q3 q4 q6 q9 q10 q15 q16 q7 q8 q11 q12 q13 q14
set_option linter.unusedSimpArgs false
set_option linter.unusedVariables false

theorem strOf_bI (b : ByteArray) : strOfNums (bI b) = b := by
  have h := bI_seg b 0 b.size
  rw [List.drop_zero, List.drop_zero, List.take_of_length_le (by rw [bI_len]; exact Nat.le_refl _), List.take_of_length_le (by rw [dl_len]; exact Nat.le_refl _)] at h
  rw [h]
  rfl
theorem fld_len9 (b : ByteArray) (hs : b.size ≤ 1048576) : 0 < (fldB b).length ∧ (fldB b).length ≤ 1048577 ∧ SzB (fldB b) := by
  have h1 := cutA_pos 32 b.data.toList []
  obtain ⟨h2, h3⟩ := cutA_len 32 b.data.toList []
  have h4 := dl_len b
  unfold fldB
  rw [List.length_map]
  refine ⟨h1, by omega, fun i => ?_⟩
  by_cases hi : i < ((cutA 32 [] b.data.toList).map mkB).length
  · rw [bAt_get hi, List.getElem_map]
    rw [List.length_map] at hi
    have := h3 _ (List.getElem_mem hi)
    rw [← dl_len, mkB_dl]
    simp at this; omega
  · unfold bAt
    rw [List.getD, List.getElem?_eq_none (by omega)]
    exact Nat.zero_le _
/-- strings.Split at a blank. -/
theorem split_any (w : World) (b : ByteArray) (hs : b.size ≤ 1048576) {m : Int} (hm : w.cell? ⟨0, 0, none⟩ = some (.int .i64 m)) :
    Calls Tryz.prog 17 #[.string b, .string ⟨#[32]⟩] w fun e w' => e = .returned (.slice (some ⟨w.heap.size, 0, none⟩) (fldB b).length (fldB b).length) ∧ w' = w.alloc (.cells ((fldB b).map Value.string).toArray 9) := by
  have h := Tryz.strings_Split b ⟨#[32]⟩ m w (by omega) hm (by decide)
  have e := split32 (Lib.countB b ⟨#[32]⟩) b rfl
  have l := Lib.splitB_all ⟨#[32]⟩ (by decide) 0 (Lib.countB b ⟨#[32]⟩) b rfl
  rw [e] at h l
  rw [l]
  exact h
theorem fld_cells (W : World) (L : List ByteArray) (i : Nat) (hi : i < L.length) : (W.alloc (.cells (L.map Value.string).toArray 9)).cell? ⟨W.heap.size, i, none⟩ = some (.string (bAt L i)) := by
  have := (St.new W (L.map Value.string).toArray 9).cl i (.string (bAt L i)) (by
    show (L.map Value.string).toArray.toList[i]? = _
    rw [List.toList_toArray, List.getElem?_map, List.getElem?_eq_getElem hi, bAt_get hi]
    rfl)
  exact this
set_option maxRecDepth 100000 in
set_option maxHeartbeats 16000000 in
theorem implLine_any (w : World) (v : Value) (b : ByteArray) (h : Rd .u8 w v (bI b)) (hs : b.size ≤ 1048576) {m : Int} {te : TypeId} {pe : Value} (hg : PlG w m te pe) (hf : FmG w) :
    Calls Tryz.prog 6 #[v] w fun e w' => LnP w (lineOf b) e w' := by
  have hA : Below w.heap.size w (w.alloc (.cells #[.int .i64 0, .slice none 0 0, .bool false, .string ⟨#[]⟩, .slice none 0 0] 28)) := (Below.refl _ _).alloc (Nat.le_refl _) _
  have BA := hd9 hA
  have X := hd9 (St.new w #[.int .i64 0, .slice none 0 0, .bool false, .string ⟨#[]⟩, .slice none 0 0] 28)
  have hcv := conv_any (h.below hA)
  rw [strOf_bI] at hcv
  have s1 : (w.alloc (.cells #[.int .i64 0, .slice none 0 0, .bool false, .string ⟨#[]⟩, .slice none 0 0] 28)).heap.size = w.heap.size + 1 := by simp
  have HG := hd9 (hg.later hA)
  have HF := hd9 (hf.later hA)
  have HS := hd9 (split_any (w.alloc (.cells #[.int .i64 0, .slice none 0 0, .bool false, .string ⟨#[]⟩, .slice none 0 0] 28)) b hs HG.out.mx)
  obtain ⟨ao, cap, rfl, -⟩ := h
  rw [bI_len] at hcv ⊢
  clear hA hg hf
  by_cases hbig : 60000 < b.size
  case pos =>
    have hbI : (60000 : Int) < ((b.size : Nat) : Int) := by omega
    have HNO : Hid (lineOf b = ln0) := by show _ = _; unfold lineOf; rw [if_pos hbig]
    clear hcv HS s1
    go_enter Tryz.func6, Tryz.ntmps6
    go_wp2_with fail
    generalize w.alloc (.cells #[.int .i64 0, .slice none 0 0, .bool false, .string ⟨#[]⟩, .slice none 0 0] 28) = w1 at *
    have d0 := X.out.cl 0 _ rfl
    have d1 := X.out.cl 1 _ rfl
    have d2 := X.out.cl 2 _ rfl
    have d3 := X.out.cl 3 _ rfl
    have d4 := X.out.cl 4 _ rfl
    exact bodyPost_ret (v := .agg #[.int .i64 0, .slice none 0 0, .bool false, .string ⟨#[]⟩, .slice none 0 0]) (by simp [results, Tryz.results6, go_sem, d0, d1, d2, d3, d4]) rfl (by rw [HNO.out]; exact ⟨_, _, rfl, World.ownsRow_nil _ _ _ _, World.ownsRow_nil _ _ _ _, BA.out⟩)
  case neg =>
    have hbI : ¬ (60000 : Int) < ((b.size : Nat) : Int) := by omega
    have HLN : Hid (lineOf b = if (fldB b).all goodB = true then plF (fldB b) else ln0) := by show _ = _; unfold lineOf; rw [if_neg hbig]
    obtain ⟨hl0, hl1, hsz⟩ := fld_len9 b hs
    have HSZ := hd9 hsz
    generalize lineOf b = l at *
    generalize fldB b = L at *
    clear hbig hs hsz
    go_enter Tryz.func6, Tryz.ntmps6
    go_wp2_with fail
    generalize w.alloc (.cells #[.int .i64 0, .slice none 0 0, .bool false, .string ⟨#[]⟩, .slice none 0 0] 28) = w1 at *
    refine HS.out.mono ?_
    rintro e w2 ⟨rfl, rfl⟩
    have b2 : Below w1.heap.size w1 (w1.alloc (.cells (L.map Value.string).toArray 9)) := (Below.refl _ _).alloc (Nat.le_refl _) _
    have HCL := hd9 (fld_cells w1 L)
    have s2 : (w1.alloc (.cells (L.map Value.string).toArray 9)).heap.size = w1.heap.size + 1 := by simp
    replace X := hd9 (X.out.below b2)
    replace BA := hd9 (BA.out.trans (b2.mono BA.out.size))
    replace HG := hd9 (HG.out.later b2)
    replace HF := hd9 (HF.out.later b2)
    clear HS hcv b2
    generalize w1.alloc (.cells (L.map Value.string).toArray 9) = w3 at *
    generalize hgg : w1.heap.size = g at *
    have hgw : g < w3.heap.size := by omega
    have sw : w.heap.size + 1 ≤ w3.heap.size := by omega
    clear hgg s2 s1
    go_wp2_with fail
    refine (contF_row w3 g L.length L hl0 (Nat.le_refl _) (by unfold maxLen; omega) HCL.out hgw).mono ?_
    rintro e w4 ⟨rfl, b4⟩
    replace X := hd9 (X.out.below b4)
    replace BA := hd9 (BA.out.trans (b4.mono BA.out.size))
    replace HG := hd9 (HG.out.later b4)
    replace HF := hd9 (HF.out.later b4)
    replace HCL : Hid (∀ i, i < L.length → w4.cell? ⟨g, i, none⟩ = some (.string (bAt L i))) := fun i hi => (b4.cell (p := ⟨g, i, none⟩) hgw).trans (HCL.out i hi)
    have s4 := b4.size
    clear b4
    cases hall : L.all goodB with
    | false =>
      have HNO : Hid (l = ln0) := HLN.out.trans (if_neg (by rw [hall]; decide))
      clear HLN hall
      have x0 := X.out.fz
      have y0 := X.out.cl 0 _ rfl
      have y1 := X.out.cl 1 _ rfl
      have y2 := X.out.cl 2 _ rfl
      have y3 := X.out.cl 3 _ rfl
      have y4 := X.out.cl 4 _ rfl
      go_wp2_with fail
      obtain ⟨b9, x9, o9, n9⟩ := ln_box BA.out X.out 0 false ⟨#[]⟩ (vo := .slice none 0 0) (vn := .slice none 0 0) (show OwnO _ _ _ _ [] from World.ownsRow_nil _ _ _ _) (show Own _ _ _ _ _ [] from World.ownsRow_nil _ _ _ _)
      have d0 := x9.cl 0 _ rfl
      have d1 := x9.cl 1 _ rfl
      have d2 := x9.cl 2 _ rfl
      have d3 := x9.cl 3 _ rfl
      have d4 := x9.cl 4 _ rfl
      exact bodyPost_ret (v := .agg #[.int .i64 0, .slice none 0 0, .bool false, .string ⟨#[]⟩, .slice none 0 0]) (by simp [results, Tryz.results6, go_sem, d0, d1, d2, d3, d4]) rfl (by rw [HNO.out]; exact ⟨_, _, rfl, o9, n9, b9⟩)
    | true =>
      have HLP : Hid (l = plF L) := HLN.out.trans (if_pos hall)
      clear HLN hall
      go_wp2_with fail
      have hpz : (0 : Int) < ((L.length : Nat) : Int) := by omega
      have bD : Below w4.heap.size w4 w4.drew := below_drewN' w4 1
      refine wp_region_held_drew (S := fun W => W.cell? ⟨g, 0, none⟩ = some (.string (bAt L 0))) (by kernel_rfl) ((bD.cell (p := ⟨g, 0, none⟩) (by show g < _; omega)).trans (HCL.out 0 hl0)) (fun hHeld => ?_)
      replace X := hd9 (X.out.below bD)
      replace BA := hd9 (BA.out.trans (bD.mono BA.out.size))
      replace HG := hd9 (HG.out.later bD)
      replace HF := hd9 (HF.out.later bD)
      replace HCL : Hid (∀ i, i < L.length → w4.drew.cell? ⟨g, i, none⟩ = some (.string (bAt L i))) := fun i hi => (bD.cell (p := ⟨g, i, none⟩) (by show g < _; omega)).trans (HCL.out i hi)
      have s5 := bD.size
      clear bD
      generalize w4.drew = w5 at *
      refine tkE9 1 (.slice (some ⟨g, 0, none⟩) L.length L.length) rfl (by kernel_rfl) (fun _ => id) hHeld ?_ ?_
      · intro w9 hS9; clear hS9; go_simp; try with_reducible rfl
      refine tkE9 2 (.pointer (some ⟨g, 0, none⟩)) rfl (by kernel_rfl) (fun _ => id) hHeld ?_ ?_
      · intro w9 hS9; clear hS9; go_simp; try with_reducible rfl
      refine tkE9 3 (.string (bAt L 0)) rfl (by kernel_rfl) (fun _ => id) hHeld ?_ ?_
      · intro w9 hS9; go_simp; try with_reducible rfl
      refine rdA9 0 rfl (by kernel_rfl) (fun K hK => ?_)
      go_simp
      refine (parsers_any w5).mono ?_
      rintro e w6 ⟨rfl, P6⟩
      have b6 := P6.b
      obtain ⟨fv, ok, hlk, hyes, hno⟩ := look_any w5 w6 _ g L.length L P6 hl0 hl1 (Nat.le_refl _) (by unfold maxLen; omega) (fun i hi => (b6.cell (p := ⟨g, i, none⟩) (by show g < _; omega)).trans (HCL.out i hi)) (by have := b6.size; omega) HSZ.out (HG.out.later b6) (HF.out.later b6)
      replace X := hd9 (X.out.below b6)
      replace BA := hd9 (BA.out.trans (b6.mono BA.out.size))
      have s6 := b6.size
      have HY := hd9 hyes
      have HN := hd9 hno
      refine hK.out _ _ ((b6.cell (p := ⟨g, 0, none⟩) (by show g < _; omega)).trans hHeld) (fun hHeld2 => ?_)
      clear hK K hHeld P6 b6 hyes hno HCL HG HF
      refine rdA9 4 rfl (by kernel_rfl) (fun K hK => ?_)
      go_simp
      refine hK.out _ _ hHeld2 (fun hHeld => ?_)
      clear hK K hHeld2 hlk
      iterate 5 (refine tkI9 ?_ (by kernel_rfl) (fun _ => id) hHeld ?_ ?_; rotate_left; · intro w9 hS9; clear hS9; go_simp; try with_reducible rfl)
      refine wpAnyH_done (by kernel_rfl) ?_ _
      try simp only [Act.put, sT9, sZ9, sS9]
      clear hHeld
      cases ok with
      | false =>
        obtain ⟨rfl, hz⟩ := HN.out rfl
        have HNO : Hid (l = ln0) := HLP.out.trans hz
        clear hz HN HY HLP
        have x0 := X.out.fz
        have y0 := X.out.cl 0 _ rfl
        have y1 := X.out.cl 1 _ rfl
        have y2 := X.out.cl 2 _ rfl
        have y3 := X.out.cl 3 _ rfl
        have y4 := X.out.cl 4 _ rfl
        go_wp2_with fail
        obtain ⟨b9, x9, o9, n9⟩ := ln_box BA.out X.out (0) (false) (⟨#[]⟩) (vo := .slice none 0 0) (vn := .slice none 0 0) (show OwnO _ _ _ _ [] from World.ownsRow_nil _ _ _ _) (show Own _ _ _ _ _ [] from World.ownsRow_nil _ _ _ _)
        have d0 := x9.cl 0 _ rfl
        have d1 := x9.cl 1 _ rfl
        have d2 := x9.cl 2 _ rfl
        have d3 := x9.cl 3 _ rfl
        have d4 := x9.cl 4 _ rfl
        exact bodyPost_ret (v := .agg #[.int .i64 (0), .slice none 0 0, .bool (false), .string (⟨#[]⟩), .slice none 0 0]) (by simp [results, Tryz.results6, go_sem, d0, d1, d2, d3, d4]) rfl (by rw [HNO.out]; exact ⟨_, _, rfl, o9, n9, b9⟩)
      | true =>
        have hP := HY.out rfl
        rw [← HLP.out] at hP
        clear HY HN HLP
        rcases hP with ⟨rfl, hc⟩ | ⟨rfl, hc⟩ | ⟨k9, rfl, hc⟩ | ⟨k9, rfl, hc⟩ | ⟨f9, k9, rfl, hc⟩
        all_goals
          have HC := hd9 hc
          clear hc
          go_wp2_with fail
          refine HC.out.mono ?_
          rintro e w7 ⟨vo, vn, rfl, o7, n7, b7⟩
          obtain ⟨ao7, co7, rfl⟩ := o7.slice
          obtain ⟨an7, cn7, rfl⟩ : ∃ a c, vn = .slice a l.nums.length c := by
            obtain ⟨a, c, e9, -⟩ := ownI_cells n7
            exact ⟨a, c, e9⟩
          replace X := hd9 (X.out.below b7)
          replace BA := hd9 (BA.out.trans (b7.mono BA.out.size))
          have O7 := hd9 (OwnO.mono o7 (show w.heap.size + 1 ≤ w6.heap.size by omega))
          have N7 := hd9 (Own.mono n7 (show w.heap.size + 1 ≤ w6.heap.size by omega))
          clear HC o7 n7 b7
          have x0 := X.out.fz
          have y0 := X.out.cl 0 _ rfl
          have y1 := X.out.cl 1 _ rfl
          have y2 := X.out.cl 2 _ rfl
          have y3 := X.out.cl 3 _ rfl
          have y4 := X.out.cl 4 _ rfl
          go_wp2_with fail
          obtain ⟨b9, x9, o9, n9⟩ := ln_box BA.out X.out (l.kind) (l.multi) (l.path) (vo := .slice ao7 l.ops.length co7) (vn := .slice an7 l.nums.length cn7) (show OwnO _ _ _ _ l.ops from O7.out) (show Own _ _ _ _ _ l.nums from N7.out)
          have d0 := x9.cl 0 _ rfl
          have d1 := x9.cl 1 _ rfl
          have d2 := x9.cl 2 _ rfl
          have d3 := x9.cl 3 _ rfl
          have d4 := x9.cl 4 _ rfl
          exact bodyPost_ret (v := .agg #[.int .i64 (l.kind), .slice ao7 l.ops.length co7, .bool (l.multi), .string (l.path), .slice an7 l.nums.length cn7]) (by simp [results, Tryz.results6, go_sem, d0, d1, d2, d3, d4]) rfl (by rw [show l = l from rfl]; exact ⟨_, _, rfl, o9, n9, b9⟩)
end Go.Proofs.YtmjliomhhgahkaaGreatDoor


