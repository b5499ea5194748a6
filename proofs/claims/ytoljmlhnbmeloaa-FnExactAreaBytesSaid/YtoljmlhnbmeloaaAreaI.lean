import Derived.Test.YtoljmlhnbmeloaaAreaS
import Derived.Test.YtoljmlhnbmeloaaByteO
namespace Go.Proofs.Ytoljmlhnbmeloaa
open Go.RowKit

/-- The boxes of the configuration and of the answer. -/
def RunS (w : World) (S L : Int) (W : World) : Prop :=
  Hid (Below w.heap.size w W ∧ Box2 W w.heap.size (.int .i64 S) (.int .i64 L) ∧ ∃ x y, BoxF W (w.heap.size + 1) x y) ∧ W.cell? ⟨w.heap.size, 0, none⟩ = some (.int .i64 S) ∧ W.cell? ⟨w.heap.size, 1, none⟩ = some (.int .i64 L)
theorem RunS.below {w : World} {S L : Int} {W W' : World} (h : RunS w S L W) (hb : Below W.heap.size W W') : RunS w S L W' := by
  obtain ⟨x, y, hx⟩ := h.1.out.2.2
  exact ⟨⟨h.1.out.1.trans (hb.mono h.1.out.1.size), h.1.out.2.1.below hb, x, y, hx.below hb⟩, (h.1.out.2.1.below hb).2.1, (h.1.out.2.1.below hb).2.2⟩
theorem RunS.new (w : World) (S L : Int) (t1 t2 : TypeId) : RunS w S L ((w.alloc (.cells #[.int .i64 S, .int .i64 L] t1)).alloc (.cells #[.int .i64 0, .int .i64 0] t2)) := by
  have h1 := (Box2.new w (.int .i64 S) (.int .i64 L) t1).below ((Below.refl _ _).alloc (Nat.le_refl _) (.cells #[.int .i64 0, .int .i64 0] t2))
  have h2 := BoxF.new (w.alloc (.cells #[.int .i64 S, .int .i64 L] t1)) (.int .i64 0) (.int .i64 0) t2
  exact ⟨⟨((Below.refl _ _).alloc (Nat.le_refl _) _).alloc (by simp) _, h1, _, _, by simpa using h2⟩, h1.2.1, h1.2.2⟩
theorem BoxF.stored {W : World} {b : Nat} {x y : Value} (h : BoxF W b x y) (u v : Value) : BoxF ((W.setCell ⟨b, 0, none⟩ u).setCell ⟨b, 1, none⟩ v) b u v := by
  obtain ⟨⟨z, c0, c1⟩, f0, f1⟩ := h
  exact ⟨⟨by simpa using z, by go_simp, by go_simp⟩, by simpa using f0, by simpa using f1⟩
theorem RunS.stored {w : World} {S L : Int} {W : World} (h : RunS w S L W) (u v : Value) : Box2 ((W.setCell ⟨w.heap.size + 1, 0, none⟩ u).setCell ⟨w.heap.size + 1, 1, none⟩ v) (w.heap.size + 1) u v := by
  obtain ⟨x, y, hx⟩ := h.1.out.2.2
  exact (hx.stored u v).1
theorem RunS.store {w : World} {S L : Int} {W : World} (h : RunS w S L W) (u v : Value) : RunS w S L ((W.setCell ⟨w.heap.size + 1, 0, none⟩ u).setCell ⟨w.heap.size + 1, 1, none⟩ v) := by
  obtain ⟨x, y, hx⟩ := h.1.out.2.2
  have hb : Below (w.heap.size + 1) W ((W.setCell ⟨w.heap.size + 1, 0, none⟩ u).setCell ⟨w.heap.size + 1, 1, none⟩ v) := by
    refine Below.setCell (Below.setCell (Below.refl _ _) ?_ _) ?_ _ <;> exact Nat.le_refl _
  have b1 := h.1.out.2.1
  have b2 : Box2 ((W.setCell ⟨w.heap.size + 1, 0, none⟩ u).setCell ⟨w.heap.size + 1, 1, none⟩ v) w.heap.size (.int .i64 S) (.int .i64 L) := ⟨Nat.lt_of_lt_of_le b1.1 hb.size, (hb.cell (p := ⟨w.heap.size, 0, none⟩) (by show w.heap.size < _; omega)).trans b1.2.1, (hb.cell (p := ⟨w.heap.size, 1, none⟩) (by show w.heap.size < _; omega)).trans b1.2.2⟩
  exact ⟨⟨h.1.out.1.trans (hb.mono (by omega)), b2, u, v, hx.stored u v⟩, b2.2.1, b2.2.2⟩

set_option linter.unusedSimpArgs false in
set_option maxRecDepth 100000 in
set_option maxHeartbeats 1000000 in
theorem snapArea_any (w : World) (S L bank : Int) (hc : cfgOk S L = true) (hb : 0 ≤ bank ∧ bank ≤ 1) :
    Calls Try.prog 72 #[.agg #[.int .i64 S, .int .i64 L], .int .i64 bank] w fun e w' => e = .returned (.agg #[.int .i64 (arF S L bank false), .int .i64 (arL S L false)]) ∧ Below w.heap.size w w' := by
  obtain ⟨⟨hS1, hS2⟩, hL1, hL2⟩ := (cfgOk_iff S L).1 hc
  clear hc
  have hb' : bank = 0 ∨ bank = 1 := by omega
  have HA : Hid (arF S L bank false = 2 + bank * (S + L) ∧ arL S L false = S) := by unfold arF arL; exact ⟨by simp, rfl⟩
  have hm : 0 ≤ bank * (S + L) ∧ bank * (S + L) ≤ 128 := by rcases hb' with rfl | rfl <;> omega
  rw [HA.out.1, HA.out.2]
  go_enter Try.func72, Try.ntmps72
  go_wp2_with fail
  have F0 : Hid (RunS w S L ((w.alloc (.cells #[.int .i64 S, .int .i64 L] 59)).alloc (.cells #[.int .i64 0, .int .i64 0] 96))) := RunS.new _ _ _ _ _
  generalize (w.alloc (.cells #[.int .i64 S, .int .i64 L] 59)).alloc (.cells #[.int .i64 0, .int .i64 0] 96) = w0 at *
  refine wp_region_held_drew (S := RunS w S L) (by kernel_rfl) (F0.out.below (below_drewN' w0 1)) (fun hHeld => ?_)
  refine wpAnyH_take (i := 0) (oi := { dst := some 5, op := _, type := _, pos := _, after := _, guard := _ }) (v := ?v9) rfl (by kernel_rfl) (by kernel_rfl) (by kernel_rfl) (fun _ _ _ h => h) (Or.inl ⟨by rfl, ?hy9⟩) (by assumption) ?rest9
  case hy9 =>
    intro w9 hS9
    obtain ⟨-, k0, k1⟩ := hS9
    go_simp
    try with_reducible rfl
  try simp only [Act.put, List.setIfInBounds_toArray, List.set_cons_zero, List.set_cons_succ]
  refine wpAnyH_take (i := 1) (oi := { dst := some 6, op := _, type := _, pos := _, after := _, guard := _ }) (v := ?v10) rfl (by kernel_rfl) (by kernel_rfl) (by kernel_rfl) (fun _ _ _ h => h) (Or.inl ⟨by rfl, ?hy10⟩) (by assumption) ?rest10
  case hy10 =>
    intro w9 hS9
    obtain ⟨-, k0, k1⟩ := hS9
    go_simp
    try with_reducible rfl
  try simp only [Act.put, List.setIfInBounds_toArray, List.set_cons_zero, List.set_cons_succ]
  refine wpAnyH_take (i := 5) (oi := { dst := some 10, op := _, type := _, pos := _, after := _, guard := _ }) (v := ?v11) rfl (by kernel_rfl) (by kernel_rfl) (by kernel_rfl) (fun _ _ _ h => h) (Or.inl ⟨by rfl, ?hy11⟩) (by assumption) ?rest11
  case hy11 =>
    intro w9 hS9
    obtain ⟨-, k0, k1⟩ := hS9
    go_simp
    try with_reducible rfl
  try simp only [Act.put, List.setIfInBounds_toArray, List.set_cons_zero, List.set_cons_succ]
  refine wpAnyH_take (i := 6) (oi := { dst := some 11, op := _, type := _, pos := _, after := _, guard := _ }) (v := ?v12) rfl (by kernel_rfl) (by kernel_rfl) (by kernel_rfl) (fun _ _ _ h => h) (Or.inl ⟨by rfl, ?hy12⟩) (by assumption) ?rest12
  case hy12 =>
    intro w9 hS9
    obtain ⟨-, k0, k1⟩ := hS9
    go_simp
    try with_reducible rfl
  try simp only [Act.put, List.setIfInBounds_toArray, List.set_cons_zero, List.set_cons_succ]
  refine wpAnyH_ready (rs := [2]) (by kernel_rfl) (by simp) ?_
  refine AllReadyH.cons (o := { dst := some 7, op := _, type := _, pos := _, after := _, guard := _ }) rfl (fun K hK => ?_) AllReadyH.nil
  go_simp
  refine (bankBlocks_any _ S L hS1 hS2 hL1 hL2).mono ?_
  rintro e w2 ⟨rfl, b2⟩
  have F2 : Hid (RunS w S L w2) := hHeld.below b2
  clear b2
  refine hK.out _ _ (F2.out) (fun hx9 => ?_)
  clear hK K hHeld hx9
  have hHeld := F2.out
  try simp only [Act.put, List.setIfInBounds_toArray, List.set_cons_zero, List.set_cons_succ]
  refine wpAnyH_take (i := 3) (oi := { dst := some 8, op := _, type := _, pos := _, after := _, guard := _ }) (v := (.int .i64 (bank * (S + L)))) rfl (by kernel_rfl) (by kernel_rfl) (by kernel_rfl) (fun _ _ _ h => h) (Or.inl ⟨by rfl, ?hy13⟩) (by assumption) ?rest13
  case hy13 =>
    intro w9 hS9
    go_simp
    try (rw [IntKind.wrap_i64]; omega)
  try simp only [Act.put, List.setIfInBounds_toArray, List.set_cons_zero, List.set_cons_succ]
  refine wpAnyH_take (i := 4) (oi := { dst := some 9, op := _, type := _, pos := _, after := _, guard := _ }) (v := (.int .i64 (2 + bank * (S + L)))) rfl (by kernel_rfl) (by kernel_rfl) (by kernel_rfl) (fun _ _ _ h => h) (Or.inl ⟨by rfl, ?hy14⟩) (by assumption) ?rest14
  case hy14 =>
    intro w9 hS9
    go_simp
    try (rw [IntKind.wrap_i64]; omega)
  try simp only [Act.put, List.setIfInBounds_toArray, List.set_cons_zero, List.set_cons_succ]
  refine wpAnyH_take (i := 7) (oi := { dst := some 12, op := _, type := _, pos := _, after := _, guard := _ }) (v := ?v15) rfl (by kernel_rfl) (by kernel_rfl) (by kernel_rfl) (fun _ _ _ h => h) (Or.inl ⟨by rfl, ?hy15⟩) (by assumption) ?rest15
  case hy15 =>
    intro w9 hS9
    obtain ⟨-, k0, k1⟩ := hS9
    go_simp
    try with_reducible rfl
  try simp only [Act.put, List.setIfInBounds_toArray, List.set_cons_zero, List.set_cons_succ]
  refine wpAnyH_ready (rs := [8]) (by kernel_rfl) (by simp) ?_
  refine AllReadyH.cons (o := { dst := none, op := _, type := _, pos := _, after := _, guard := _ }) rfl (fun K hK => ?_) AllReadyH.nil
  obtain ⟨x9, y9, bx9⟩ := F2.out.1.out.2.2
  obtain ⟨⟨z9, d0, d1⟩, f0, f1⟩ := bx9
  go_simp
  have F3 : Hid (RunS w S L ((w2.setCell ⟨w.heap.size + 1, 0, none⟩ (.int .i64 (2 + bank * (S + L)))).setCell ⟨w.heap.size + 1, 1, none⟩ (.int .i64 S))) := F2.out.store _ _
  have X3 : Hid (Box2 ((w2.setCell ⟨w.heap.size + 1, 0, none⟩ (.int .i64 (2 + bank * (S + L)))).setCell ⟨w.heap.size + 1, 1, none⟩ (.int .i64 S)) (w.heap.size + 1) (.int .i64 (2 + bank * (S + L))) (.int .i64 S)) := F2.out.stored _ _
  clear d0 d1 f0 f1 z9 F2
  generalize ((w2.setCell ⟨w.heap.size + 1, 0, none⟩ (.int .i64 (2 + bank * (S + L)))).setCell ⟨w.heap.size + 1, 1, none⟩ (.int .i64 S)) = w3 at *
  refine hK.out _ _ (F3.out) (fun hx9 => ?_)
  clear hK K hHeld hx9
  have hHeld := F3.out
  try simp only [Act.put, List.setIfInBounds_toArray, List.set_cons_zero, List.set_cons_succ]
  refine wpAnyH_done (by kernel_rfl) ?_ _
  clear hHeld
  obtain ⟨-, d0, d1⟩ := X3.out
  go_wp2
  refine bodyPost_ret (v := .agg #[.int .i64 (2 + bank * (S + L)), .int .i64 S]) (by simp [results, Try.results72, go_sem, d0, d1]) rfl ⟨rfl, F3.out.1.out.1⟩

theorem field_diskA (x y : Value) (W : World) : (Instr.field 32 (.agg #[x, y]) 0).run Try.prog W = .ok x W := by kernel_rfl
theorem field_run (x y : Value) (W : World) : (Instr.field 96 (.agg #[x, y]) 0).run Try.prog W = .ok x W := by kernel_rfl

set_option linter.unusedSimpArgs false in
set_option maxRecDepth 100000 in
set_option maxHeartbeats 1000000 in
theorem logArea_any (w : World) (S L bank : Int) (hc : cfgOk S L = true) (hb : 0 ≤ bank ∧ bank ≤ 1) :
    Calls Try.prog 69 #[.agg #[.int .i64 S, .int .i64 L], .int .i64 bank] w fun e w' => e = .returned (.agg #[.int .i64 (arF S L bank true), .int .i64 (arL S L true)]) ∧ Below w.heap.size w w' := by
  obtain ⟨⟨hS1, hS2⟩, hL1, hL2⟩ := (cfgOk_iff S L).1 hc
  have HC : Hid (cfgOk S L = true ∧ 0 ≤ bank ∧ bank ≤ 1) := ⟨hc, hb⟩
  clear hc
  have hb' : bank = 0 ∨ bank = 1 := by omega
  have HA : Hid (arF S L bank true = arF S L bank false + S ∧ arL S L true = L) := by unfold arF arL; exact ⟨by simp, rfl⟩
  have hm : 2 ≤ arF S L bank false ∧ arF S L bank false ≤ 130 := by unfold arF; rcases hb' with rfl | rfl <;> simp <;> omega
  rw [HA.out.1, HA.out.2]
  have HSN : Hid (∀ W, Calls Try.prog 72 #[.agg #[.int .i64 S, .int .i64 L], .int .i64 bank] W fun e w' => e = .returned (.agg #[.int .i64 (arF S L bank false), .int .i64 (arL S L false)]) ∧ Below W.heap.size W w') := fun W => snapArea_any W S L bank HC.out.1 HC.out.2
  generalize arF S L bank false = q at *
  generalize arL S L false = q2 at *
  clear hb hb'
  go_enter Try.func69, Try.ntmps69
  go_wp2_with fail
  have F0 : Hid (RunS w S L ((w.alloc (.cells #[.int .i64 S, .int .i64 L] 59)).alloc (.cells #[.int .i64 0, .int .i64 0] 96))) := RunS.new _ _ _ _ _
  generalize (w.alloc (.cells #[.int .i64 S, .int .i64 L] 59)).alloc (.cells #[.int .i64 0, .int .i64 0] 96) = w0 at *
  refine wp_region_held_drew (S := RunS w S L) (by kernel_rfl) (F0.out.below (below_drewN' w0 1)) (fun hHeld => ?_)
  refine wpAnyH_take (i := 0) (oi := { dst := some 5, op := _, type := _, pos := _, after := _, guard := _ }) (v := ?v16) rfl (by kernel_rfl) (by kernel_rfl) (by kernel_rfl) (fun _ _ _ h => h) (Or.inl ⟨by rfl, ?hy16⟩) (by assumption) ?rest16
  case hy16 =>
    intro w9 hS9
    obtain ⟨-, k0, k1⟩ := hS9
    go_simp
    try with_reducible rfl
  try simp only [Act.put, List.setIfInBounds_toArray, List.set_cons_zero, List.set_cons_succ]
  refine wpAnyH_take (i := 1) (oi := { dst := some 6, op := _, type := _, pos := _, after := _, guard := _ }) (v := ?v17) rfl (by kernel_rfl) (by kernel_rfl) (by kernel_rfl) (fun _ _ _ h => h) (Or.inl ⟨by rfl, ?hy17⟩) (by assumption) ?rest17
  case hy17 =>
    intro w9 hS9
    obtain ⟨-, k0, k1⟩ := hS9
    go_simp
    try with_reducible rfl
  try simp only [Act.put, List.setIfInBounds_toArray, List.set_cons_zero, List.set_cons_succ]
  refine wpAnyH_take (i := 4) (oi := { dst := some 9, op := _, type := _, pos := _, after := _, guard := _ }) (v := ?v18) rfl (by kernel_rfl) (by kernel_rfl) (by kernel_rfl) (fun _ _ _ h => h) (Or.inl ⟨by rfl, ?hy18⟩) (by assumption) ?rest18
  case hy18 =>
    intro w9 hS9
    obtain ⟨-, k0, k1⟩ := hS9
    go_simp
    try with_reducible rfl
  try simp only [Act.put, List.setIfInBounds_toArray, List.set_cons_zero, List.set_cons_succ]
  refine wpAnyH_take (i := 5) (oi := { dst := some 10, op := _, type := _, pos := _, after := _, guard := _ }) (v := ?v19) rfl (by kernel_rfl) (by kernel_rfl) (by kernel_rfl) (fun _ _ _ h => h) (Or.inl ⟨by rfl, ?hy19⟩) (by assumption) ?rest19
  case hy19 =>
    intro w9 hS9
    obtain ⟨-, k0, k1⟩ := hS9
    go_simp
    try with_reducible rfl
  try simp only [Act.put, List.setIfInBounds_toArray, List.set_cons_zero, List.set_cons_succ]
  refine wpAnyH_take (i := 7) (oi := { dst := some 12, op := _, type := _, pos := _, after := _, guard := _ }) (v := ?v20) rfl (by kernel_rfl) (by kernel_rfl) (by kernel_rfl) (fun _ _ _ h => h) (Or.inl ⟨by rfl, ?hy20⟩) (by assumption) ?rest20
  case hy20 =>
    intro w9 hS9
    obtain ⟨-, k0, k1⟩ := hS9
    go_simp
    try with_reducible rfl
  try simp only [Act.put, List.setIfInBounds_toArray, List.set_cons_zero, List.set_cons_succ]
  refine wpAnyH_take (i := 8) (oi := { dst := some 13, op := _, type := _, pos := _, after := _, guard := _ }) (v := ?v21) rfl (by kernel_rfl) (by kernel_rfl) (by kernel_rfl) (fun _ _ _ h => h) (Or.inl ⟨by rfl, ?hy21⟩) (by assumption) ?rest21
  case hy21 =>
    intro w9 hS9
    obtain ⟨-, k0, k1⟩ := hS9
    go_simp
    try with_reducible rfl
  try simp only [Act.put, List.setIfInBounds_toArray, List.set_cons_zero, List.set_cons_succ]
  refine wpAnyH_ready (rs := [2]) (by kernel_rfl) (by simp) ?_
  refine AllReadyH.cons (o := { dst := some 7, op := _, type := _, pos := _, after := _, guard := _ }) rfl (fun K hK => ?_) AllReadyH.nil
  go_simp
  refine (HSN.out _).mono ?_
  rintro e w2 ⟨rfl, b2⟩
  have F2 : Hid (RunS w S L w2) := hHeld.below b2
  clear b2
  refine hK.out _ _ (F2.out) (fun hx9 => ?_)
  clear hK K hHeld hx9
  have hHeld := F2.out
  try simp only [Act.put, List.setIfInBounds_toArray, List.set_cons_zero, List.set_cons_succ]
  refine wpAnyH_take (i := 3) (oi := { dst := some 8, op := _, type := _, pos := _, after := _, guard := _ }) (v := (.int .i64 q)) rfl (by kernel_rfl) (by kernel_rfl) (by kernel_rfl) (fun _ _ _ h => h) (Or.inl ⟨by rfl, ?hy22⟩) (by assumption) ?rest22
  case hy22 =>
    intro w9 hS9
    have hf9 := field_run (.int .i64 q) (.int .i64 q2) w9
    go_simp
  try simp only [Act.put, List.setIfInBounds_toArray, List.set_cons_zero, List.set_cons_succ]
  refine wpAnyH_take (i := 6) (oi := { dst := some 11, op := _, type := _, pos := _, after := _, guard := _ }) (v := (.int .i64 (q + S))) rfl (by kernel_rfl) (by kernel_rfl) (by kernel_rfl) (fun _ _ _ h => h) (Or.inl ⟨by rfl, ?hy23⟩) (by assumption) ?rest23
  case hy23 =>
    intro w9 hS9
    go_simp
    try (rw [IntKind.wrap_i64]; omega)
  try simp only [Act.put, List.setIfInBounds_toArray, List.set_cons_zero, List.set_cons_succ]
  refine wpAnyH_take (i := 9) (oi := { dst := some 14, op := _, type := _, pos := _, after := _, guard := _ }) (v := ?v24) rfl (by kernel_rfl) (by kernel_rfl) (by kernel_rfl) (fun _ _ _ h => h) (Or.inl ⟨by rfl, ?hy24⟩) (by assumption) ?rest24
  case hy24 =>
    intro w9 hS9
    obtain ⟨-, k0, k1⟩ := hS9
    go_simp
    try with_reducible rfl
  try simp only [Act.put, List.setIfInBounds_toArray, List.set_cons_zero, List.set_cons_succ]
  refine wpAnyH_ready (rs := [10]) (by kernel_rfl) (by simp) ?_
  refine AllReadyH.cons (o := { dst := none, op := _, type := _, pos := _, after := _, guard := _ }) rfl (fun K hK => ?_) AllReadyH.nil
  obtain ⟨x9, y9, bx9⟩ := F2.out.1.out.2.2
  obtain ⟨⟨z9, d0, d1⟩, f0, f1⟩ := bx9
  go_simp
  have F3 : Hid (RunS w S L ((w2.setCell ⟨w.heap.size + 1, 0, none⟩ (.int .i64 (q + S))).setCell ⟨w.heap.size + 1, 1, none⟩ (.int .i64 L))) := F2.out.store _ _
  have X3 : Hid (Box2 ((w2.setCell ⟨w.heap.size + 1, 0, none⟩ (.int .i64 (q + S))).setCell ⟨w.heap.size + 1, 1, none⟩ (.int .i64 L)) (w.heap.size + 1) (.int .i64 (q + S)) (.int .i64 L)) := F2.out.stored _ _
  clear d0 d1 f0 f1 z9 F2
  generalize ((w2.setCell ⟨w.heap.size + 1, 0, none⟩ (.int .i64 (q + S))).setCell ⟨w.heap.size + 1, 1, none⟩ (.int .i64 L)) = w3 at *
  refine hK.out _ _ (F3.out) (fun hx9 => ?_)
  clear hK K hHeld hx9
  have hHeld := F3.out
  try simp only [Act.put, List.setIfInBounds_toArray, List.set_cons_zero, List.set_cons_succ]
  refine wpAnyH_done (by kernel_rfl) ?_ _
  clear hHeld
  obtain ⟨-, d0, d1⟩ := X3.out
  go_wp2
  refine bodyPost_ret (v := .agg #[.int .i64 (q + S), .int .i64 L]) (by simp [results, Try.results69, go_sem, d0, d1]) rfl ⟨rfl, F3.out.1.out.1⟩

set_option maxHeartbeats 1000000 in
theorem areaOf_any (w : World) (g N C f l : Nat) (hfl : (f + l) * 64 ≤ N) (hl1 : 1 ≤ l) (hN : N ≤ C) (hN3 : N ≤ 1048576) :
    Calls Try.prog 70 #[.agg #[.int .i64 (f : Int), .int .i64 (l : Int)], .slice (some ⟨g, 0, none⟩) N C] w fun e w' => e = .returned (.slice (some ⟨g, f * 64, none⟩) (l * 64) (C - f * 64)) ∧ Below w.heap.size w w' := by
  have B0 : Hid (Below w.heap.size w (w.alloc (.cells #[.int .i64 (f : Int), .int .i64 (l : Int)] 96))) := (Below.refl _ _).alloc (Nat.le_refl _) _
  have hne : ¬ C = f * 64 := by omega
  have HE : Hid ((f + l) * 64 - f * 64 = l * 64) := by show _ = _; omega
  go_enter Try.func70, Try.ntmps70
  go_wp2
  go_ret
  rw [HE.out]
  exact ⟨rfl, B0.out⟩

set_option maxRecDepth 100000 in
set_option maxHeartbeats 1000000 in
theorem readAll_any (w : World) (v1 v2 : Value) (dur : List Int) (ps : List (Int × List Int)) (hd : Rd .u8 w v1 dur) (hp : RdW w v2 ps) (hdl : dur.length ≤ 1048576) (hn : ps.length ≤ 1048576) (hpd : ∀ i, (pD ps i).length ≤ 1048576) :
    Calls Try.prog 71 #[.agg #[v1, v2]] w fun e w' => ∃ u, e = .returned u ∧ Own .u8 5 w' w.heap.size u (syD dur ps) ∧ Below w.heap.size w w' := by
  obtain ⟨va, ca, rfl, -⟩ := hd.len
  obtain ⟨vb, cb, rfl, -⟩ := id hp
  have HD : Hid (Rd .u8 w (.slice va dur.length ca) dur) := hd
  have HP : Hid (RdW w (.slice vb ps.length cb) ps) := hp
  have HPD : Hid (∀ i, (pD ps i).length ≤ 1048576) := hpd
  have B0 : Hid (Below w.heap.size w (w.alloc (.cells #[.slice va dur.length ca, .slice vb ps.length cb] 32))) := (Below.refl _ _).alloc (Nat.le_refl _) _
  clear hd hp hpd
  go_enter Try.func71, Try.ntmps71
  go_wp2_with fail
  generalize w.alloc (.cells #[.slice va dur.length ca, .slice vb ps.length cb] 32) = w0 at *
  refine (implSync_any _ _ _ dur ps (HD.out.below B0.out) (HP.out.below B0.out) hdl hn HPD.out).mono ?_
  rintro e w1 ⟨u, rfl, o1, b1⟩
  have O1 : Hid (Own .u8 5 w1 w.heap.size u (syD dur ps)) := o1.mono B0.out.size
  have B1 : Hid (Below w.heap.size w w1) := B0.out.trans (b1.mono B0.out.size)
  clear o1 b1 B0
  have hf9 := field_diskA u (.slice none 0 0) w1
  go_wp2
  go_ret
  exact ⟨_, rfl, O1.out, B1.out⟩

theorem arN_getD (D : List Int) (f l i : Nat) (hi : i < l * 64) : D.getD (f * 64 + i) 0 = (arN D f l).getD i 0 := by
  unfold arN
  rw [List.getD_eq_getElem?_getD, List.getD_eq_getElem?_getD, List.getElem?_take_of_lt hi, List.getElem?_drop]

set_option linter.unusedSimpArgs false in
set_option maxHeartbeats 2000000 in
set_option maxRecDepth 100000 in
theorem implArea_yes (w : World) (ao bo : Option Addr) (dl ca n cb : Nat) (dur : List Int) (ps : List (Int × List Int)) (S L bank : Int) (log : Bool) (hd : Rd .u8 w (.slice ao dl ca) dur) (hdl : dur.length = dl) (hp : RdW w (.slice bo n cb) ps) (hl : ps.length = n) (hd1 : dl ≤ 1048576) (hn : n ≤ 1048576) (hpd : ∀ i, (pD ps i).length ≤ 1048576)
    (hok : arOk S L dl ps bank = true) :
    Calls Try.prog 34 #[.agg #[.slice ao dl ca, .slice bo n cb], .agg #[.int .i64 S, .int .i64 L], .int .i64 bank, .bool log] w fun e w' => ∃ v', e = .returned v' ∧ OwnO w' w.heap.size v' (arN (syD dur ps) (arF S L bank log).toNat (arL S L log).toNat) ∧ Below w.heap.size w w' := by
  have HD : Hid (Rd .u8 w (.slice ao dl ca) dur) := hd
  have HDL : Hid (dur.length = dl) := hdl
  have HP : Hid (RdW w (.slice bo n cb) ps) := hp
  have HL : Hid (ps.length = n) := hl
  have HPD : Hid (∀ i, (pD ps i).length ≤ 1048576) := hpd
  obtain ⟨f, l, hf, hl', hf2, hl1, hl2, hfl, hfl2, hdm⟩ := ar_in (log := log) hok
  have h1 := ((arOk_iff ..).1 hok).1
  have hb0 := ((arOk_iff ..).1 hok).2.1
  have hb1 := ((arOk_iff ..).1 hok).2.2
  have HF : Hid (fitD S L dl ps = true) := h1
  have HC : Hid (cfgOk S L = true) := ((fitD_iff ..).1 h1).1
  have HV : Hid (vldD dl ps = true) := ((fitD_iff ..).1 h1).2.1
  rw [hf, hl', Int.toNat_natCast, Int.toNat_natCast]
  have HSL : Hid ((syD dur ps).length = dl) := by show _ = _; rw [syD_length (by rw [HDL.out]; exact HV.out), HDL.out]
  have HLN : Hid ((arN (syD dur ps) f l).length = l * 64) := arN_length _ _ _ (by rw [HSL.out]; exact hfl2)
  have HRA : Hid (∀ (W : World), FitS w ao bo dl ca n cb S L W → Calls Try.prog 71 #[.agg #[.slice ao dl ca, .slice bo n cb]] W fun e w' => ∃ g c, e = .returned (.slice (some ⟨g, 0, none⟩) dl c) ∧ Hid (Own .u8 5 w' w.heap.size (.slice (some ⟨g, 0, none⟩) dl c) (syD dur ps)) ∧ (dl ≤ c ∧ c ≤ maxLen) ∧ Below W.heap.size W w') := by
    intro W hF
    refine (readAll_any W _ _ dur ps (HD.out.below hF.1.out.1) (HP.out.below hF.1.out.1) (by rw [HDL.out]; exact hd1) (by rw [HL.out]; exact hn) HPD.out).mono ?_
    rintro e w' ⟨u, rfl, o, b⟩
    have hlt := hF.lt
    rcases o.row with ⟨rfl, h0⟩ | ⟨g, c, rfl, hg, h1, h2⟩
    · have := HSL.out; rw [h0] at this; simp at this; omega
    · rw [HSL.out] at o h1 ⊢
      exact ⟨g, c, rfl, o.mono (by omega), ⟨h1, h2⟩, b⟩
  have HOO : Hid (∀ (W : World) (g c : Nat), Own .u8 5 W w.heap.size (.slice (some ⟨g, 0, none⟩) dl c) (syD dur ps) → dl ≤ c → c ≤ maxLen → OwnO W w.heap.size (.slice (some ⟨g, f * 64, none⟩) (l * 64) (c - f * 64)) (arN (syD dur ps) f l)) := by
    intro W g c h h1 h2
    refine .inr ⟨g, f * 64, c - f * 64, dl, c, syD dur ps, by rw [HLN.out], h, HSL.out, by rw [HLN.out]; omega, fun i hi => ?_, by rw [HLN.out]; omega, by omega⟩
    rw [HLN.out] at hi
    exact arN_getD _ _ _ _ hi
  have HAR : Hid (∀ W, (log = true → Calls Try.prog 69 #[.agg #[.int .i64 S, .int .i64 L], .int .i64 bank] W fun e w' => e = .returned (.agg #[.int .i64 (f : Int), .int .i64 (l : Int)]) ∧ Below W.heap.size W w') ∧
      (log = false → Calls Try.prog 72 #[.agg #[.int .i64 S, .int .i64 L], .int .i64 bank] W fun e w' => e = .returned (.agg #[.int .i64 (f : Int), .int .i64 (l : Int)]) ∧ Below W.heap.size W w')) := by
    intro W
    rw [← hf, ← hl']
    exact ⟨fun e => by subst e; exact logArea_any W S L bank HC.out ⟨hb0, hb1⟩, fun e => by subst e; exact snapArea_any W S L bank HC.out ⟨hb0, hb1⟩⟩
  clear hd hdl hp hl hpd hok h1 hf hl'
  go_enter Try.func34, Try.ntmps34
  go_wp2_with fail
  have F1 : Hid (FitS w ao bo dl ca n cb S L ((w.alloc (.cells #[.slice ao dl ca, .slice bo n cb] 32)).alloc (.cells #[.int .i64 S, .int .i64 L] 59))) := FitS.new _ _ _ _ _ _ _ _ _ _ _
  generalize (w.alloc (.cells #[.slice ao dl ca, .slice bo n cb] 32)).alloc (.cells #[.int .i64 S, .int .i64 L] 59) = w1 at *
  refine (isLaidOut_any _ ao bo dl ca n cb ps S L (HP.out.below F1.out.1.out.1) HL.out hd1 hn HPD.out).mono ?_
  rintro e w2 ⟨rfl, b2⟩
  rw [HF.out]
  have F2 : Hid (FitS w ao bo dl ca n cb S L w2) := F1.out.below b2
  clear F1 b2
  have t0 : ¬ bank < 0 := by omega
  have t0d : decide (bank < 0) = false := by simpa using t0
  have t1 : ¬ 2 ≤ bank := by omega
  have t1d : decide (2 ≤ bank) = false := by simpa using t1
  have HL1 : Hid (∀ W, FitS w ao bo dl ca n cb S L W → True) := fun _ _ => trivial
  cases log with
  | true =>
    replace HAR : Hid (∀ W, Calls Try.prog 69 #[.agg #[.int .i64 S, .int .i64 L], .int .i64 bank] W fun e w' => e = .returned (.agg #[.int .i64 (f : Int), .int .i64 (l : Int)]) ∧ Below W.heap.size W w') := fun W => (HAR.out W).1 rfl
    · go_wp2_with fail
      refine wp_region_held_drew (S := FitS w ao bo dl ca n cb S L) (by kernel_rfl) (F2.out.below (below_drewN' w2 1)) (fun hHeld => ?_)
      refine wpAnyH_take (i := 0) (oi := { dst := some 22, op := _, type := _, pos := _, after := _, guard := _ }) (v := ?v25) rfl (by kernel_rfl) (by kernel_rfl) (by kernel_rfl) (fun _ _ _ h => h) (Or.inl ⟨by rfl, ?hy25⟩) (by assumption) ?rest25
      case hy25 =>
        intro w9 hS9
        obtain ⟨-, k0, k1, k2, k3⟩ := hS9
        go_simp
        try with_reducible rfl
      try simp only [Act.put, List.setIfInBounds_toArray, List.set_cons_zero, List.set_cons_succ]
      refine wpAnyH_take (i := 1) (oi := { dst := some 23, op := _, type := _, pos := _, after := _, guard := _ }) (v := ?v26) rfl (by kernel_rfl) (by kernel_rfl) (by kernel_rfl) (fun _ _ _ h => h) (Or.inl ⟨by rfl, ?hy26⟩) (by assumption) ?rest26
      case hy26 =>
        intro w9 hS9
        obtain ⟨-, k0, k1, k2, k3⟩ := hS9
        go_simp
        try with_reducible rfl
      try simp only [Act.put, List.setIfInBounds_toArray, List.set_cons_zero, List.set_cons_succ]
      refine wpAnyH_take (i := 3) (oi := { dst := some 25, op := _, type := _, pos := _, after := _, guard := _ }) (v := ?v27) rfl (by kernel_rfl) (by kernel_rfl) (by kernel_rfl) (fun _ _ _ h => h) (Or.inl ⟨by rfl, ?hy27⟩) (by assumption) ?rest27
      case hy27 =>
        intro w9 hS9
        obtain ⟨-, k0, k1, k2, k3⟩ := hS9
        go_simp
        try with_reducible rfl
      try simp only [Act.put, List.setIfInBounds_toArray, List.set_cons_zero, List.set_cons_succ]
      refine wpAnyH_ready (rs := [2]) (by kernel_rfl) (by simp) ?_
      refine AllReadyH.cons (o := { dst := some 24, op := _, type := _, pos := _, after := _, guard := _ }) rfl (fun K hK => ?_) AllReadyH.nil
      go_simp
      refine (HAR.out _).mono ?_
      rintro e w3 ⟨rfl, b3⟩
      have F3 : Hid (FitS w ao bo dl ca n cb S L w3) := hHeld.below b3
      clear b3
      refine hK.out _ _ (F3.out) (fun hx9 => ?_)
      clear hK K hHeld hx9
      have hHeld := F3.out
      try simp only [Act.put, List.setIfInBounds_toArray, List.set_cons_zero, List.set_cons_succ]
      refine wpAnyH_ready (rs := [4]) (by kernel_rfl) (by simp) ?_
      refine AllReadyH.cons (o := { dst := some 26, op := _, type := _, pos := _, after := _, guard := _ }) rfl (fun K hK => ?_) AllReadyH.nil
      go_simp
      refine (HRA.out _ F3.out).mono ?_
      rintro e w4 ⟨g4, c4, rfl, O4, hc4, b4⟩
      have F4 : Hid (FitS w ao bo dl ca n cb S L w4) := F3.out.below b4
      clear b4 F3
      refine hK.out _ _ (F4.out) (fun hx9 => ?_)
      clear hK K hHeld hx9
      have hHeld := F4.out
      try simp only [Act.put, List.setIfInBounds_toArray, List.set_cons_zero, List.set_cons_succ]
      refine wpAnyH_ready (rs := [5]) (by kernel_rfl) (by simp) ?_
      refine AllReadyH.cons (o := { dst := some 27, op := _, type := _, pos := _, after := _, guard := _ }) rfl (fun K hK => ?_) AllReadyH.nil
      go_simp
      refine (areaOf_any _ g4 dl c4 f l hfl2 hl1 hc4.1 hd1).mono ?_
      rintro e w5 ⟨rfl, b5⟩
      have F5 : Hid (FitS w ao bo dl ca n cb S L w5) := F4.out.below b5
      have O5 : Hid (Own .u8 5 w5 w.heap.size (.slice (some ⟨g4, 0, none⟩) dl c4) (syD dur ps)) := O4.out.below b5
      clear b5 F4 O4
      refine hK.out _ _ (F5.out) (fun hx9 => ?_)
      clear hK K hHeld hx9
      have hHeld := F5.out
      try simp only [Act.put, List.setIfInBounds_toArray, List.set_cons_zero, List.set_cons_succ]
      refine wpAnyH_take (i := 6) (oi := { dst := some 8, op := _, type := _, pos := _, after := _, guard := _ }) (v := ?v28) rfl (by kernel_rfl) (by kernel_rfl) (by kernel_rfl) (fun _ _ _ h => h) (Or.inl ⟨by rfl, ?hy28⟩) (by assumption) ?rest28
      case hy28 =>
        intro w9 hS9
        obtain ⟨-, k0, k1, k2, k3⟩ := hS9
        go_simp
        try with_reducible rfl
      try simp only [Act.put, List.setIfInBounds_toArray, List.set_cons_zero, List.set_cons_succ]
      refine wpAnyH_done (by kernel_rfl) ?_ _
      clear hHeld
      go_wp2
      go_ret
      exact ⟨_, rfl, HOO.out _ _ _ O5.out hc4.1 hc4.2, F5.out.1.out.1⟩
  | false =>
    replace HAR : Hid (∀ W, Calls Try.prog 72 #[.agg #[.int .i64 S, .int .i64 L], .int .i64 bank] W fun e w' => e = .returned (.agg #[.int .i64 (f : Int), .int .i64 (l : Int)]) ∧ Below W.heap.size W w') := fun W => (HAR.out W).2 rfl
    · go_wp2_with fail
      refine wp_region_held_drew (S := FitS w ao bo dl ca n cb S L) (by kernel_rfl) (F2.out.below (below_drewN' w2 1)) (fun hHeld => ?_)
      refine wpAnyH_take (i := 0) (oi := { dst := some 28, op := _, type := _, pos := _, after := _, guard := _ }) (v := ?v29) rfl (by kernel_rfl) (by kernel_rfl) (by kernel_rfl) (fun _ _ _ h => h) (Or.inl ⟨by rfl, ?hy29⟩) (by assumption) ?rest29
      case hy29 =>
        intro w9 hS9
        obtain ⟨-, k0, k1, k2, k3⟩ := hS9
        go_simp
        try with_reducible rfl
      try simp only [Act.put, List.setIfInBounds_toArray, List.set_cons_zero, List.set_cons_succ]
      refine wpAnyH_take (i := 1) (oi := { dst := some 29, op := _, type := _, pos := _, after := _, guard := _ }) (v := ?v30) rfl (by kernel_rfl) (by kernel_rfl) (by kernel_rfl) (fun _ _ _ h => h) (Or.inl ⟨by rfl, ?hy30⟩) (by assumption) ?rest30
      case hy30 =>
        intro w9 hS9
        obtain ⟨-, k0, k1, k2, k3⟩ := hS9
        go_simp
        try with_reducible rfl
      try simp only [Act.put, List.setIfInBounds_toArray, List.set_cons_zero, List.set_cons_succ]
      refine wpAnyH_take (i := 3) (oi := { dst := some 31, op := _, type := _, pos := _, after := _, guard := _ }) (v := ?v31) rfl (by kernel_rfl) (by kernel_rfl) (by kernel_rfl) (fun _ _ _ h => h) (Or.inl ⟨by rfl, ?hy31⟩) (by assumption) ?rest31
      case hy31 =>
        intro w9 hS9
        obtain ⟨-, k0, k1, k2, k3⟩ := hS9
        go_simp
        try with_reducible rfl
      try simp only [Act.put, List.setIfInBounds_toArray, List.set_cons_zero, List.set_cons_succ]
      refine wpAnyH_ready (rs := [2]) (by kernel_rfl) (by simp) ?_
      refine AllReadyH.cons (o := { dst := some 30, op := _, type := _, pos := _, after := _, guard := _ }) rfl (fun K hK => ?_) AllReadyH.nil
      go_simp
      refine (HAR.out _).mono ?_
      rintro e w3 ⟨rfl, b3⟩
      have F3 : Hid (FitS w ao bo dl ca n cb S L w3) := hHeld.below b3
      clear b3
      refine hK.out _ _ (F3.out) (fun hx9 => ?_)
      clear hK K hHeld hx9
      have hHeld := F3.out
      try simp only [Act.put, List.setIfInBounds_toArray, List.set_cons_zero, List.set_cons_succ]
      refine wpAnyH_ready (rs := [4]) (by kernel_rfl) (by simp) ?_
      refine AllReadyH.cons (o := { dst := some 32, op := _, type := _, pos := _, after := _, guard := _ }) rfl (fun K hK => ?_) AllReadyH.nil
      go_simp
      refine (HRA.out _ F3.out).mono ?_
      rintro e w4 ⟨g4, c4, rfl, O4, hc4, b4⟩
      have F4 : Hid (FitS w ao bo dl ca n cb S L w4) := F3.out.below b4
      clear b4 F3
      refine hK.out _ _ (F4.out) (fun hx9 => ?_)
      clear hK K hHeld hx9
      have hHeld := F4.out
      try simp only [Act.put, List.setIfInBounds_toArray, List.set_cons_zero, List.set_cons_succ]
      refine wpAnyH_ready (rs := [5]) (by kernel_rfl) (by simp) ?_
      refine AllReadyH.cons (o := { dst := some 33, op := _, type := _, pos := _, after := _, guard := _ }) rfl (fun K hK => ?_) AllReadyH.nil
      go_simp
      refine (areaOf_any _ g4 dl c4 f l hfl2 hl1 hc4.1 hd1).mono ?_
      rintro e w5 ⟨rfl, b5⟩
      have F5 : Hid (FitS w ao bo dl ca n cb S L w5) := F4.out.below b5
      have O5 : Hid (Own .u8 5 w5 w.heap.size (.slice (some ⟨g4, 0, none⟩) dl c4) (syD dur ps)) := O4.out.below b5
      clear b5 F4 O4
      refine hK.out _ _ (F5.out) (fun hx9 => ?_)
      clear hK K hHeld hx9
      have hHeld := F5.out
      try simp only [Act.put, List.setIfInBounds_toArray, List.set_cons_zero, List.set_cons_succ]
      refine wpAnyH_take (i := 6) (oi := { dst := some 8, op := _, type := _, pos := _, after := _, guard := _ }) (v := ?v32) rfl (by kernel_rfl) (by kernel_rfl) (by kernel_rfl) (fun _ _ _ h => h) (Or.inl ⟨by rfl, ?hy32⟩) (by assumption) ?rest32
      case hy32 =>
        intro w9 hS9
        obtain ⟨-, k0, k1, k2, k3⟩ := hS9
        go_simp
        try with_reducible rfl
      try simp only [Act.put, List.setIfInBounds_toArray, List.set_cons_zero, List.set_cons_succ]
      refine wpAnyH_done (by kernel_rfl) ?_ _
      clear hHeld
      go_wp2
      go_ret
      exact ⟨_, rfl, HOO.out _ _ _ O5.out hc4.1 hc4.2, F5.out.1.out.1⟩

set_option maxHeartbeats 2000000 in
set_option maxRecDepth 100000 in
theorem implArea_no (w : World) (ao bo : Option Addr) (dl ca n cb : Nat) (dur : List Int) (ps : List (Int × List Int)) (S L bank : Int) (log : Bool) (hd : Rd .u8 w (.slice ao dl ca) dur) (hdl : dur.length = dl) (hp : RdW w (.slice bo n cb) ps) (hl : ps.length = n) (hd1 : dl ≤ 1048576) (hn : n ≤ 1048576) (hpd : ∀ i, (pD ps i).length ≤ 1048576)
    (hok : arOk S L dl ps bank = false) :
    Calls Try.prog 34 #[.agg #[.slice ao dl ca, .slice bo n cb], .agg #[.int .i64 S, .int .i64 L], .int .i64 bank, .bool log] w fun e w' => e = .returned (.slice none 0 0) ∧ Below w.heap.size w w' := by
  have HD : Hid (Rd .u8 w (.slice ao dl ca) dur) := hd
  have HDL : Hid (dur.length = dl) := hdl
  have HP : Hid (RdW w (.slice bo n cb) ps) := hp
  have HL : Hid (ps.length = n) := hl
  have HPD : Hid (∀ i, (pD ps i).length ≤ 1048576) := hpd
  have HOK : Hid (arOk S L dl ps bank = false) := hok
  clear hd hdl hp hl hpd hok
  go_enter Try.func34, Try.ntmps34
  go_wp2_with fail
  have F1 : Hid (FitS w ao bo dl ca n cb S L ((w.alloc (.cells #[.slice ao dl ca, .slice bo n cb] 32)).alloc (.cells #[.int .i64 S, .int .i64 L] 59))) := FitS.new _ _ _ _ _ _ _ _ _ _ _
  generalize (w.alloc (.cells #[.slice ao dl ca, .slice bo n cb] 32)).alloc (.cells #[.int .i64 S, .int .i64 L] 59) = w1 at *
  refine (isLaidOut_any _ ao bo dl ca n cb ps S L (HP.out.below F1.out.1.out.1) HL.out hd1 hn HPD.out).mono ?_
  rintro e w2 ⟨rfl, b2⟩
  have F2 : Hid (FitS w ao bo dl ca n cb S L w2) := F1.out.below b2
  clear F1 b2
  cases hF : fitD S L dl ps with
  | false =>
    clear hF
    go_wp2
    go_ret
    exact ⟨rfl, F2.out.1.out.1⟩
  | true =>
    have hnb : ¬ (0 ≤ bank ∧ bank ≤ 1) := fun h => by
      have h2 := (arOk_iff S L dl ps bank).2 ⟨hF, h⟩
      rw [HOK.out] at h2; cases h2
    clear hF
    by_cases t0 : bank < 0
    · have t0d : decide (bank < 0) = true := by simpa using t0
      clear hnb
      go_wp2
      go_ret
      exact ⟨rfl, F2.out.1.out.1⟩
    · have t0d : decide (bank < 0) = false := by simpa using t0
      have t1 : 2 ≤ bank := by omega
      have t1d : decide (2 ≤ bank) = true := by simpa using t1
      clear hnb
      go_wp2
      go_ret
      exact ⟨rfl, F2.out.1.out.1⟩

theorem implArea_any (w : World) (v1 v2 : Value) (dur : List Int) (ps : List (Int × List Int)) (S L bank : Int) (log : Bool) (hd : Rd .u8 w v1 dur) (hp : RdW w v2 ps) (hdl : dur.length ≤ 1048576) (hn : ps.length ≤ 1048576) (hpd : ∀ i, (pD ps i).length ≤ 1048576) :
    Calls Try.prog 34 #[.agg #[v1, v2], .agg #[.int .i64 S, .int .i64 L], .int .i64 bank, .bool log] w fun e w' => ∃ v', e = .returned v' ∧ OwnO w' w.heap.size v' (arA dur ps S L bank log) ∧ Below w.heap.size w w' := by
  obtain ⟨va, ca, rfl, -⟩ := hd.len
  obtain ⟨vb, cb, rfl, -⟩ := id hp
  unfold arA
  cases h : arOk S L dur.length ps bank with
  | true =>
    simp only [if_true]
    exact implArea_yes w va vb dur.length ca ps.length cb dur ps S L bank log hd rfl hp rfl hdl hn hpd h
  | false =>
    simp only [Bool.false_eq_true, if_false]
    refine (implArea_no w va vb dur.length ca ps.length cb dur ps S L bank log hd rfl hp rfl hdl hn hpd h).mono ?_
    rintro e w' ⟨rfl, b⟩
    exact ⟨_, rfl, .inl ⟨rfl, rfl⟩, b⟩

end Go.Proofs.Ytoljmlhnbmeloaa
