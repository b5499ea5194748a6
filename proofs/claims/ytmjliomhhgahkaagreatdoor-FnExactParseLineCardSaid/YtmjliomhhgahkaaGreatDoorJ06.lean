import Derived.Test.YtmjliomhhgahkaaGreatDoorJ05
import Derived.Test.YtmjliomhhgahkaaGreatDoorJ01
namespace Go.Proofs.YtmjliomhhgahkaaGreatDoor
open Go.RowKit Go.Shelf
set_option linter.unusedSimpArgs false
set_option linter.unusedVariables false

theorem eq59 (b : ByteArray) : isSemi b = true ↔ b = ⟨#[59]⟩ := by
  unfold isSemi
  rw [ba_dl]
  constructor
  · intro h
    rw [← mkB_data b, beq_iff_eq.1 h]; rfl
  · rintro rfl; rfl
theorem cont_semi (L : List ByteArray) : Lib.containsS L ⟨#[59]⟩ = L.any isSemi := by
  cases h : L.any isSemi with
  | true =>
    obtain ⟨x, hx, e⟩ := List.any_eq_true.1 h
    rw [(eq59 x).1 e] at hx
    exact (Lib.containsS_iff _ _).2 hx
  | false =>
    cases h2 : Lib.containsS L ⟨#[59]⟩ with
    | false => rfl
    | true => exact absurd ((eq59 _).2 rfl) (List.any_eq_false.1 h _ ((Lib.containsS_iff _ _).1 h2))
theorem opO_form0 {L : List ByteArray} (h : formR (bAt L 0) = none) : opO L = none := by
  unfold formR at h
  repeat' split at h
  all_goals first | (cases h; done) | skip
  rename_i h1 h2 h3 h4 h5
  unfold opO opO3 opO4
  rw [if_neg h1, if_neg h2, if_neg h3, if_neg h5, if_neg h4]
  repeat' split
  all_goals rfl
theorem opO_form {L : List ByteArray} (ha : L.any isSemi = false) {k : Int} {s d v : Bool} (h : formR (bAt L 0) = some (k, s, d, v)) :
    (d = true ∧ v = false ∧ opO L = if L.length = 3 then some ⟨k, bAt L 1, datB (bAt L 2), 0, s⟩ else none) ∨
    (d = false ∧ v = true ∧ opO L = if L.length = 3 then (numO (bAt L 2).data.toList).map (fun x => ⟨k, bAt L 1, ⟨#[]⟩, x, s⟩) else none) ∨
    (d = true ∧ v = true ∧ opO L = if L.length = 4 then (numO (bAt L 3).data.toList).map (fun x => ⟨k, bAt L 1, datB (bAt L 2), x, s⟩) else none) := by
  have hop : opO L = if L.length = 3 then opO3 (bAt L 0) (bAt L 1) (bAt L 2) else if L.length = 4 then opO4 (bAt L 0) (bAt L 1) (bAt L 2) (bAt L 3) else none := by
    unfold opO
    rw [if_neg (by rw [ha]; decide)]
  rw [hop]
  generalize bAt L 0 = f0 at *
  unfold formR at h
  split at h
  · rename_i h1
    injection h with h; injection h with h0 h; injection h with h2 h; injection h with h3 h4
    subst h0 h2 h3 h4
    refine .inl ⟨rfl, rfl, ?_⟩
    have e := beq_iff_eq.1 h1
    unfold opO3 opO4
    simp [e]
  · split at h
    · rename_i h1
      injection h with h; injection h with h0 h; injection h with h2 h; injection h with h3 h4
      subst h0 h2 h3 h4
      refine .inl ⟨rfl, rfl, ?_⟩
      have e := beq_iff_eq.1 h1
      unfold opO3 opO4
      simp [e]
    · split at h
      · rename_i h1
        injection h with h; injection h with h0 h; injection h with h2 h; injection h with h3 h4
        subst h0 h2 h3 h4
        refine .inr (.inl ⟨rfl, rfl, ?_⟩)
        have e := beq_iff_eq.1 h1
        unfold opO3 opO4
        simp [e]
      · split at h
        · rename_i h1
          injection h with h; injection h with h0 h; injection h with h2 h; injection h with h3 h4
          subst h0 h2 h3 h4
          refine .inr (.inr ⟨rfl, rfl, ?_⟩)
          have e := beq_iff_eq.1 h1
          unfold opO3 opO4
          simp [e]
          intro h9
          omega
        · split at h
          · rename_i h1
            injection h with h; injection h with h0 h; injection h with h2 h; injection h with h3 h4
            subst h0 h2 h3 h4
            refine .inr (.inl ⟨rfl, rfl, ?_⟩)
            have e := beq_iff_eq.1 h1
            unfold opO3 opO4
            simp [e]
          · cases h

set_option maxRecDepth 100000 in
set_option maxHeartbeats 16000000 in
theorem parseOp_row (w : World) (b o cap : Nat) (L : List ByteArray) (hL : 0 < L.length) (hLc : L.length ≤ cap) (hc : cap ≤ maxLen) (hsz : SzB L) (hcl : ∀ i, i < L.length → w.cell? ⟨b, o + i, none⟩ = some (.string (bAt L i))) (hb : b < w.heap.size) {m : Int} {te : TypeId} {pe : Value} (hg : PlG w m te pe) (hf : FmG w) :
    Calls Tryz.prog 50 #[.slice (some ⟨b, o, none⟩) L.length cap] w fun e w' => OpP w L e w' := by
  unfold maxLen at hc
  have bA : Below w.heap.size w (w.alloc (.cells #[.int .i64 0, .string ⟨#[]⟩, .string ⟨#[]⟩, .int .i64 0, .bool false] 41)) := (Below.refl _ _).alloc (Nat.le_refl _) _
  have BA := hd9 bA
  have X := hd9 (St.new w #[.int .i64 0, .string ⟨#[]⟩, .string ⟨#[]⟩, .int .i64 0, .bool false] 41)
  have HCL : Hid (∀ i, i < L.length → (w.alloc (.cells #[.int .i64 0, .string ⟨#[]⟩, .string ⟨#[]⟩, .int .i64 0, .bool false] 41)).cell? ⟨b, o + i, none⟩ = some (.string (bAt L i))) := fun i hi => (bA.cell (p := ⟨b, o + i, none⟩) hb).trans (hcl i hi)
  have HSZ := hd9 hsz
  have HG := hd9 (hg.later bA)
  have HF := hd9 (hf.later bA)
  have sB : w.heap.size + 1 = (w.alloc (.cells #[.int .i64 0, .string ⟨#[]⟩, .string ⟨#[]⟩, .int .i64 0, .bool false] 41)).heap.size := by simp
  have hcs := Tryz.slices_Contains_string b o L.length cap L ⟨#[59]⟩ (w.alloc (.cells #[.int .i64 0, .string ⟨#[]⟩, .string ⟨#[]⟩, .int .i64 0, .bool false] 41)) (Nat.le_refl _) (by omega) HCL.out
  rw [List.take_length, cont_semi] at hcs
  have HC := hd9 hcs
  have H4 : Hid (4 < w.heap.size) := World.block_lt_of_cell? w _ hg.es
  have hn0 : (((L.length : Nat) : Int) == 0) = false := beq_false_of_ne (by omega)
  have hp0 : (0 : Int) < ((L.length : Nat) : Int) := by omega
  clear bA hcl hsz hcs hg hf
  cases hany : L.any isSemi with
  | true =>
    have HNO : Hid (opO L = none) := by show _ = _; unfold opO; rw [if_pos hany]
    rw [hany] at HC
    clear hany HCL
    go_enter Tryz.func50, Tryz.ntmps50
    go_wp2_with fail
    refine HC.out.mono ?_
    rintro e w2 ⟨rfl, hw2⟩
    subst hw2
    generalize w.alloc (.cells #[.int .i64 0, .string ⟨#[]⟩, .string ⟨#[]⟩, .int .i64 0, .bool false] 41) = w1 at *
    have x0 := X.out.fz
    have y0 := X.out.cl 0 _ rfl
    have y1 := X.out.cl 1 _ rfl
    have y2 := X.out.cl 2 _ rfl
    have y3 := X.out.cl 3 _ rfl
    have y4 := X.out.cl 4 _ rfl
    go_wp2_with fail
    obtain ⟨b9, x9⟩ := op_box BA.out X.out ⟨0, ⟨#[]⟩, ⟨#[]⟩, 0, false⟩
    have d0 := x9.cl 0 _ rfl
    have d1 := x9.cl 1 _ rfl
    have d2 := x9.cl 2 _ rfl
    have d3 := x9.cl 3 _ rfl
    have d4 := x9.cl 4 _ rfl
    exact bodyPost_ret (v := .tuple #[opV ⟨0, ⟨#[]⟩, ⟨#[]⟩, 0, false⟩, .bool false]) (by simp [results, Tryz.results50, go_sem, opV, d0, d1, d2, d3, d4]) rfl (OpP.no HNO.out b9)
  | false =>
    rw [hany] at HC
    have HANY := hd9 hany
    have c0 := HCL.out 0 hL
    rw [Nat.add_zero] at c0
    have HFO := hd9 (formOf_any _ (bAt L 0) HF.out)
    clear hany HF
    go_enter Tryz.func50, Tryz.ntmps50
    go_wp2_with fail
    refine HC.out.mono ?_
    rintro e w2 ⟨rfl, hw2⟩
    subst hw2
    generalize w.alloc (.cells #[.int .i64 0, .string ⟨#[]⟩, .string ⟨#[]⟩, .int .i64 0, .bool false] 41) = w1 at *
    go_wp2_with fail
    refine HFO.out.mono ?_
    rintro e w2 ⟨b2, wd, k, s, d, v, known, rfl, hkn, hfr⟩
    have s2 := b2.size
    have bF : Below w2.heap.size w2 (w2.alloc (.cells #[.string wd, .int .i64 k, .bool s, .bool d, .bool v] 85)) := (Below.refl _ _).alloc (Nat.le_refl _) _
    have b1F := b2.trans (bF.mono b2.size)
    replace X := hd9 (X.out.below b1F)
    replace BA := hd9 (BA.out.trans (b1F.mono BA.out.size))
    replace HCL : Hid (∀ i, i < L.length → (w2.alloc (.cells #[.string wd, .int .i64 k, .bool s, .bool d, .bool v] 85)).cell? ⟨b, o + i, none⟩ = some (.string (bAt L i))) := fun i hi => (b1F.cell (p := ⟨b, o + i, none⟩) (by show b < _; omega)).trans (HCL.out i hi)
    replace HG := hd9 (HG.out.later b1F)
    have XF := hd9 (St.new w2 #[.string wd, .int .i64 k, .bool s, .bool d, .bool v] 85)
    have sF : w2.heap.size < (w2.alloc (.cells #[.string wd, .int .i64 k, .bool s, .bool d, .bool v] 85)).heap.size := by simp
    clear b1F bF HFO HC b2 c0
    cases known with
    | false =>
      have HNO : Hid (opO L = none) := opO_form0 (by cases hx : formR (bAt L 0) with | none => rfl | some x => rw [hx] at hkn; cases hkn)
      clear hkn hfr
      have x0 := X.out.fz
      have y0 := X.out.cl 0 _ rfl
      have y1 := X.out.cl 1 _ rfl
      have y2 := X.out.cl 2 _ rfl
      have y3 := X.out.cl 3 _ rfl
      have y4 := X.out.cl 4 _ rfl
      go_wp2_with fail
      obtain ⟨b9, x9⟩ := op_box BA.out X.out ⟨0, ⟨#[]⟩, ⟨#[]⟩, 0, false⟩
      have d0 := x9.cl 0 _ rfl
      have d1 := x9.cl 1 _ rfl
      have d2 := x9.cl 2 _ rfl
      have d3 := x9.cl 3 _ rfl
      have d4 := x9.cl 4 _ rfl
      exact bodyPost_ret (v := .tuple #[opV ⟨0, ⟨#[]⟩, ⟨#[]⟩, 0, false⟩, .bool false]) (by simp [results, Tryz.results50, go_sem, opV, d0, d1, d2, d3, d4]) rfl (OpP.no HNO.out b9)
    | true =>
      obtain ⟨⟨k9, s9, d9, v9⟩, hx⟩ := Option.isSome_iff_exists.1 hkn.symm
      have hy := hfr _ hx
      injection hy with q0 hy; injection hy with q1 hy; injection hy with q2 q3
      subst q0 q1 q2 q3
      have HOP := hd9 (opO_form HANY.out hx)
      clear hkn hfr hx HANY
      go_wp2_with fail
      generalize w2.alloc (.cells #[.string wd, .int .i64 k9, .bool s9, .bool d9, .bool v9] 85) = w3 at *
      refine (fieldCount_any _ wd k9 s9 d9 v9).mono ?_
      rintro e w4 ⟨rfl, b4⟩
      have s4 := b4.size
      replace X := hd9 (X.out.below b4)
      replace XF := hd9 (XF.out.below b4)
      replace BA := hd9 (BA.out.trans (b4.mono BA.out.size))
      replace HCL : Hid (∀ i, i < L.length → w4.cell? ⟨b, o + i, none⟩ = some (.string (bAt L i))) := fun i hi => (b4.cell (p := ⟨b, o + i, none⟩) (by show b < _; omega)).trans (HCL.out i hi)
      replace HG := hd9 (HG.out.later b4)
      clear b4
      obtain ⟨c9, hc9⟩ : ∃ c9 : Int, c9 = 2 + (if d9 = true then 1 else 0) + (if v9 = true then 1 else 0) := ⟨_, rfl⟩
      rw [← hc9]
      have HC9 := hd9 hc9
      clear hc9
      have sA : w.heap.size + 1 ≤ w4.heap.size := by omega
      by_cases hln : ((L.length : Nat) : Int) = c9
      case neg =>
        have hne : (((L.length : Nat) : Int) != c9) = true := by simpa using hln
        have HNO : Hid (opO L = none) := by
          show _ = _
          have h9 := HC9.out
          rcases HOP.out with ⟨rfl, rfl, h⟩ | ⟨rfl, rfl, h⟩ | ⟨rfl, rfl, h⟩
          all_goals (simp at h9; rw [h, if_neg (by omega)])
        clear HOP HC9 hln
        have x0 := X.out.fz
        have y0 := X.out.cl 0 _ rfl
        have y1 := X.out.cl 1 _ rfl
        have y2 := X.out.cl 2 _ rfl
        have y3 := X.out.cl 3 _ rfl
        have y4 := X.out.cl 4 _ rfl
        go_wp2_with fail
        obtain ⟨b9, x9⟩ := op_box BA.out X.out ⟨0, ⟨#[]⟩, ⟨#[]⟩, 0, false⟩
        have d0 := x9.cl 0 _ rfl
        have d1 := x9.cl 1 _ rfl
        have d2 := x9.cl 2 _ rfl
        have d3 := x9.cl 3 _ rfl
        have d4 := x9.cl 4 _ rfl
        exact bodyPost_ret (v := .tuple #[opV ⟨0, ⟨#[]⟩, ⟨#[]⟩, 0, false⟩, .bool false]) (by simp [results, Tryz.results50, go_sem, opV, d0, d1, d2, d3, d4]) rfl (OpP.no HNO.out b9)
      case pos =>
        have hne : (((L.length : Nat) : Int) != c9) = false := by simp [hln]
        have hL3 : 3 ≤ L.length := by
          have h9 := HC9.out
          rcases HOP.out with ⟨rfl, rfl, h⟩ | ⟨rfl, rfl, h⟩ | ⟨rfl, rfl, h⟩
          all_goals (simp at h9; omega)
        have hp1 : (1 : Int) < ((L.length : Nat) : Int) := by omega
        have hp2 : (2 : Int) < ((L.length : Nat) : Int) := by omega
        have HLN := hd9 hln
        clear hln
        go_wp2_with fail
        clear hne
        have bD : Below w4.heap.size w4 w4.drew := below_drewN' w4 1
        refine wp_region_held_drew (S := fun W => W.cell? ⟨w2.heap.size, 1, none⟩ = some (.int .i64 k9) ∧ W.cell? ⟨w2.heap.size, 2, none⟩ = some (.bool s9) ∧ W.cell? ⟨b, o + 1, none⟩ = some (.string (bAt L 1))) (by kernel_rfl) ⟨(XF.out.below bD).cl 1 _ rfl, (XF.out.below bD).cl 2 _ rfl, (bD.cell (p := ⟨b, o + 1, none⟩) (by show b < _; omega)).trans (HCL.out 1 (by omega))⟩ (fun hHeld => ?_)
        replace X := hd9 (X.out.below bD)
        replace XF := hd9 (XF.out.below bD)
        replace BA := hd9 (BA.out.trans (bD.mono BA.out.size))
        replace HCL : Hid (∀ i, i < L.length → w4.drew.cell? ⟨b, o + i, none⟩ = some (.string (bAt L i))) := fun i hi => (bD.cell (p := ⟨b, o + i, none⟩) (by show b < _; omega)).trans (HCL.out i hi)
        replace HG := hd9 (HG.out.later bD)
        have s5 := bD.size
        clear bD
        generalize w4.drew = m0 at *
        iterate 8 (refine tkI9 ?_ (by kernel_rfl) (fun _ => id) hHeld ?_ ?_; rotate_left; · intro w9 hS9; obtain ⟨k0, k1, k2⟩ := hS9; go_simp; try with_reducible rfl)
        refine rdA9 8 rfl (by kernel_rfl) (fun K hK => ?_)
        go_simp
        have sF1 := XF.out.lt
        have bG0 : Below m0.heap.size m0 (m0.alloc (.cells #[.int .i64 0, .string ⟨#[]⟩, .string ⟨#[]⟩, .int .i64 0, .bool false] 41)) := (Below.refl _ _).alloc (Nat.le_refl _) _
        refine hK.out _ _ ⟨(bG0.cell (p := ⟨w2.heap.size, 1, none⟩) sF1).trans hHeld.1, (bG0.cell (p := ⟨w2.heap.size, 2, none⟩) sF1).trans hHeld.2.1, (bG0.cell (p := ⟨b, o + 1, none⟩) (by show b < _; omega)).trans hHeld.2.2⟩ (fun hHeld2 => ?_)
        clear hK K bG0 hHeld2
        have bG : Below m0.heap.size m0 (m0.alloc (.cells #[.int .i64 k9, .string (bAt L 1), .string ⟨#[]⟩, .int .i64 0, .bool s9] 41)) := (Below.refl _ _).alloc (Nat.le_refl _) _
        refine rdA9 9 rfl (by kernel_rfl) (fun K hK => ?_)
        go_simp
        refine hK.out _ _ ⟨(bG.cell (p := ⟨w2.heap.size, 1, none⟩) sF1).trans hHeld.1, (bG.cell (p := ⟨w2.heap.size, 2, none⟩) sF1).trans hHeld.2.1, (bG.cell (p := ⟨b, o + 1, none⟩) (by show b < _; omega)).trans hHeld.2.2⟩ (fun hHeld2 => ?_)
        clear hK K hHeld2
        refine wpAnyH_done (by kernel_rfl) ?_ _
        try simp only [Act.put, sT9, sZ9, sS9]
        clear hHeld
        have XG := hd9 (St.new m0 #[.int .i64 k9, .string (bAt L 1), .string ⟨#[]⟩, .int .i64 0, .bool s9] 41)
        replace X := hd9 (X.out.below bG)
        replace XF := hd9 (XF.out.below bG)
        replace BA := hd9 (BA.out.trans (bG.mono BA.out.size))
        replace HCL : Hid (∀ i, i < L.length → (m0.alloc (.cells #[.int .i64 k9, .string (bAt L 1), .string ⟨#[]⟩, .int .i64 0, .bool s9] 41)).cell? ⟨b, o + i, none⟩ = some (.string (bAt L i))) := fun i hi => (bG.cell (p := ⟨b, o + i, none⟩) (by show b < _; omega)).trans (HCL.out i hi)
        replace HG := hd9 (HG.out.later bG)
        have sG := bG.size
        clear bG sF1
        have sX : w.heap.size < m0.heap.size := by omega
        have sY : w2.heap.size < m0.heap.size := by omega
        have hbm : b < m0.heap.size := by omega
        generalize m0.alloc (.cells #[.int .i64 k9, .string (bAt L 1), .string ⟨#[]⟩, .int .i64 0, .bool s9] 41) = m1 at *
        have c2 := HCL.out 2 (by omega)
        have z3 := XF.out.cl 3 _ rfl
        have z4 := XF.out.cl 4 _ rfl
        rcases HOP.out with ⟨rfl, rfl, hop⟩ | ⟨rfl, rfl, hop⟩ | ⟨rfl, rfl, hop⟩
        · have hl3 : L.length = 3 := by have h9 := HC9.out; have h8 := HLN.out; simp at h9; omega
          have HNO : Hid (opO L = some ⟨k9, bAt L 1, datB (bAt L 2), 0, s9⟩) := hop.trans (if_pos hl3)
          clear hop hl3 HOP HC9 HLN
          cases hd2 : (bAt L 2).toList == [45] with
          | true =>
            have HD : Hid (datB (bAt L 2) = ⟨#[]⟩) := if_pos hd2
            rw [HD.out] at HNO
            have xf := X.out.fz
            have x0 := X.out.cl 0 _ rfl
            have x1 := X.out.cl 1 _ rfl
            have x2 := X.out.cl 2 _ rfl
            have x3 := X.out.cl 3 _ rfl
            have x4 := X.out.cl 4 _ rfl
            have gf := XG.out.fz
            have g0 := XG.out.cl 0 _ rfl
            have g1 := XG.out.cl 1 _ rfl
            have g2 := XG.out.cl 2 _ rfl
            have g3 := XG.out.cl 3 _ rfl
            have g4 := XG.out.cl 4 _ rfl
            go_wp2_with fail
            obtain ⟨b9, x9⟩ := op_box BA.out X.out ⟨k9, bAt L 1, ⟨#[]⟩, 0, s9⟩
            have d0 := x9.cl 0 _ rfl
            have d1 := x9.cl 1 _ rfl
            have d2 := x9.cl 2 _ rfl
            have d3 := x9.cl 3 _ rfl
            have d4 := x9.cl 4 _ rfl
            exact bodyPost_ret (v := .tuple #[opV ⟨k9, bAt L 1, ⟨#[]⟩, 0, s9⟩, .bool true]) (by simp [results, Tryz.results50, go_sem, opV, d0, d1, d2, d3, d4]) rfl (OpP.yes HNO.out b9)
          | false =>
            have HD : Hid (datB (bAt L 2) = bAt L 2) := if_neg (by rw [hd2]; decide)
            rw [HD.out] at HNO
            have xf := X.out.fz
            have x0 := X.out.cl 0 _ rfl
            have x1 := X.out.cl 1 _ rfl
            have x2 := X.out.cl 2 _ rfl
            have x3 := X.out.cl 3 _ rfl
            have x4 := X.out.cl 4 _ rfl
            have gf := XG.out.fz
            have g0 := XG.out.cl 0 _ rfl
            have g1 := XG.out.cl 1 _ rfl
            have g2 := XG.out.cl 2 _ rfl
            have g3 := XG.out.cl 3 _ rfl
            have g4 := XG.out.cl 4 _ rfl
            go_wp2_with fail
            have X9 := hd9 (X.out.other (c := m0.heap.size) (j := 2) (x := .string (bAt L 2)) (by omega))
            have B9 := hd9 (BA.out.setCell (p := ⟨m0.heap.size, 2, none⟩) (by show _ ≤ m0.heap.size; omega) (.string (bAt L 2)))
            obtain ⟨b9, x9⟩ := op_box B9.out X9.out ⟨k9, bAt L 1, bAt L 2, 0, s9⟩
            have d0 := x9.cl 0 _ rfl
            have d1 := x9.cl 1 _ rfl
            have d2 := x9.cl 2 _ rfl
            have d3 := x9.cl 3 _ rfl
            have d4 := x9.cl 4 _ rfl
            exact bodyPost_ret (v := .tuple #[opV ⟨k9, bAt L 1, bAt L 2, 0, s9⟩, .bool true]) (by simp [results, Tryz.results50, go_sem, opV, d0, d1, d2, d3, d4]) rfl (OpP.yes HNO.out b9)
        · have hl3 : L.length = 3 := by have h9 := HC9.out; have h8 := HLN.out; simp at h9; omega
          have HNO : Hid (opO L = (numO (bAt L 2).data.toList).map (fun x => ⟨k9, bAt L 1, ⟨#[]⟩, x, s9⟩)) := hop.trans (if_pos hl3)
          have hsb : ((L.length : Nat) : Int) - 1 = 2 := by omega
          clear hop hl3 HOP HC9 HLN
          go_wp2_with fail
          clear hsb z3 z4 c2
          refine (parseNumber_any (bAt L 2) m1 (HSZ.out 2) HG.out).mono ?_
          rintro e n2 ⟨vv, ok, rfl, b2, hok, hvv⟩
          replace X := hd9 (X.out.below b2)
          replace XG := hd9 (XG.out.below b2)
          replace BA := hd9 (BA.out.trans (b2.mono BA.out.size))
          have sN := b2.size
          have HQ := hd9 (And.intro hok hvv)
          clear b2 hok hvv
          cases ok with
          | false =>
            have HNN : Hid (opO L = none) := by
              show _ = _
              rw [HNO.out]
              cases hx : numO (bAt L 2).data.toList with
              | none => rfl
              | some x => have := HQ.out.1; rw [hx] at this; cases this
            clear HNO HQ
            have xf := X.out.fz
            have x0 := X.out.cl 0 _ rfl
            have x1 := X.out.cl 1 _ rfl
            have x2 := X.out.cl 2 _ rfl
            have x3 := X.out.cl 3 _ rfl
            have x4 := X.out.cl 4 _ rfl
            go_wp2_with fail
            obtain ⟨b9, x9⟩ := op_box BA.out X.out ⟨0, ⟨#[]⟩, ⟨#[]⟩, 0, false⟩
            have d0 := x9.cl 0 _ rfl
            have d1 := x9.cl 1 _ rfl
            have d2 := x9.cl 2 _ rfl
            have d3 := x9.cl 3 _ rfl
            have d4 := x9.cl 4 _ rfl
            exact bodyPost_ret (v := .tuple #[opV ⟨0, ⟨#[]⟩, ⟨#[]⟩, 0, false⟩, .bool false]) (by simp [results, Tryz.results50, go_sem, opV, d0, d1, d2, d3, d4]) rfl (OpP.no HNN.out b9)
          | true =>
            have HNN : Hid (opO L = some ⟨k9, bAt L 1, ⟨#[]⟩, vv, s9⟩) := by
              show _ = _
              rw [HNO.out]
              obtain ⟨x, hx⟩ := Option.isSome_iff_exists.1 HQ.out.1.symm
              rw [hx, HQ.out.2 x hx]
              rfl
            clear HNO HQ
            have xf := X.out.fz
            have x0 := X.out.cl 0 _ rfl
            have x1 := X.out.cl 1 _ rfl
            have x2 := X.out.cl 2 _ rfl
            have x3 := X.out.cl 3 _ rfl
            have x4 := X.out.cl 4 _ rfl
            have gf := XG.out.fz
            have g0 := XG.out.cl 0 _ rfl
            have g1 := XG.out.cl 1 _ rfl
            have g2 := XG.out.cl 2 _ rfl
            have g3 := XG.out.cl 3 _ rfl
            have g4 := XG.out.cl 4 _ rfl
            go_wp2_with fail
            have X9 := hd9 (X.out.other (c := m0.heap.size) (j := 3) (x := .int .i64 vv) (by omega))
            have B9 := hd9 (BA.out.setCell (p := ⟨m0.heap.size, 3, none⟩) (by show _ ≤ m0.heap.size; omega) (.int .i64 vv))
            obtain ⟨b9, x9⟩ := op_box B9.out X9.out ⟨k9, bAt L 1, ⟨#[]⟩, vv, s9⟩
            have d0 := x9.cl 0 _ rfl
            have d1 := x9.cl 1 _ rfl
            have d2 := x9.cl 2 _ rfl
            have d3 := x9.cl 3 _ rfl
            have d4 := x9.cl 4 _ rfl
            exact bodyPost_ret (v := .tuple #[opV ⟨k9, bAt L 1, ⟨#[]⟩, vv, s9⟩, .bool true]) (by simp [results, Tryz.results50, go_sem, opV, d0, d1, d2, d3, d4]) rfl (OpP.yes HNN.out b9)
        · have hl3 : L.length = 4 := by have h9 := HC9.out; have h8 := HLN.out; simp at h9; omega
          have HNO : Hid (opO L = (numO (bAt L 3).data.toList).map (fun x => ⟨k9, bAt L 1, datB (bAt L 2), x, s9⟩)) := hop.trans (if_pos hl3)
          have hsb : ((L.length : Nat) : Int) - 1 = 3 := by omega
          have hp3 : (3 : Int) < ((L.length : Nat) : Int) := by omega
          have c3 := HCL.out 3 (by omega)
          clear hop hl3 HOP HC9 HLN
          cases hd2 : (bAt L 2).toList == [45] with
          | true =>
            have HD : Hid (datB (bAt L 2) = ⟨#[]⟩) := if_pos hd2
            rw [HD.out] at HNO
            go_wp2_with fail
            clear hsb z3 z4 c2 c3
            refine (parseNumber_any (bAt L 3) m1 (HSZ.out 3) HG.out).mono ?_
            rintro e n2 ⟨vv, ok, rfl, b2, hok, hvv⟩
            replace X := hd9 (X.out.below b2)
            replace XG := hd9 (XG.out.below b2)
            replace BA := hd9 (BA.out.trans (b2.mono BA.out.size))
            have sN := b2.size
            have HQ := hd9 (And.intro hok hvv)
            clear b2 hok hvv
            cases ok with
            | false =>
              have HNN : Hid (opO L = none) := by
                show _ = _
                rw [HNO.out]
                cases hx : numO (bAt L 3).data.toList with
                | none => rfl
                | some x => have := HQ.out.1; rw [hx] at this; cases this
              clear HNO HQ
              have xf := X.out.fz
              have x0 := X.out.cl 0 _ rfl
              have x1 := X.out.cl 1 _ rfl
              have x2 := X.out.cl 2 _ rfl
              have x3 := X.out.cl 3 _ rfl
              have x4 := X.out.cl 4 _ rfl
              go_wp2_with fail
              obtain ⟨b9, x9⟩ := op_box BA.out X.out ⟨0, ⟨#[]⟩, ⟨#[]⟩, 0, false⟩
              have d0 := x9.cl 0 _ rfl
              have d1 := x9.cl 1 _ rfl
              have d2 := x9.cl 2 _ rfl
              have d3 := x9.cl 3 _ rfl
              have d4 := x9.cl 4 _ rfl
              exact bodyPost_ret (v := .tuple #[opV ⟨0, ⟨#[]⟩, ⟨#[]⟩, 0, false⟩, .bool false]) (by simp [results, Tryz.results50, go_sem, opV, d0, d1, d2, d3, d4]) rfl (OpP.no HNN.out b9)
            | true =>
              have HNN : Hid (opO L = some ⟨k9, bAt L 1, ⟨#[]⟩, vv, s9⟩) := by
                show _ = _
                rw [HNO.out]
                obtain ⟨x, hx⟩ := Option.isSome_iff_exists.1 HQ.out.1.symm
                rw [hx, HQ.out.2 x hx]
                rfl
              clear HNO HQ
              have xf := X.out.fz
              have x0 := X.out.cl 0 _ rfl
              have x1 := X.out.cl 1 _ rfl
              have x2 := X.out.cl 2 _ rfl
              have x3 := X.out.cl 3 _ rfl
              have x4 := X.out.cl 4 _ rfl
              have gf := XG.out.fz
              have g0 := XG.out.cl 0 _ rfl
              have g1 := XG.out.cl 1 _ rfl
              have g2 := XG.out.cl 2 _ rfl
              have g3 := XG.out.cl 3 _ rfl
              have g4 := XG.out.cl 4 _ rfl
              go_wp2_with fail
              have X9 := hd9 (X.out.other (c := m0.heap.size) (j := 3) (x := .int .i64 vv) (by omega))
              have B9 := hd9 (BA.out.setCell (p := ⟨m0.heap.size, 3, none⟩) (by show _ ≤ m0.heap.size; omega) (.int .i64 vv))
              obtain ⟨b9, x9⟩ := op_box B9.out X9.out ⟨k9, bAt L 1, ⟨#[]⟩, vv, s9⟩
              have d0 := x9.cl 0 _ rfl
              have d1 := x9.cl 1 _ rfl
              have d2 := x9.cl 2 _ rfl
              have d3 := x9.cl 3 _ rfl
              have d4 := x9.cl 4 _ rfl
              exact bodyPost_ret (v := .tuple #[opV ⟨k9, bAt L 1, ⟨#[]⟩, vv, s9⟩, .bool true]) (by simp [results, Tryz.results50, go_sem, opV, d0, d1, d2, d3, d4]) rfl (OpP.yes HNN.out b9)
          | false =>
            have HD : Hid (datB (bAt L 2) = bAt L 2) := if_neg (by rw [hd2]; decide)
            rw [HD.out] at HNO
            have gf := XG.out.fz
            have g0 := XG.out.cl 0 _ rfl
            have g1 := XG.out.cl 1 _ rfl
            have g2 := XG.out.cl 2 _ rfl
            have g3 := XG.out.cl 3 _ rfl
            have g4 := XG.out.cl 4 _ rfl
            have c3s : (m1.setCell ⟨m0.heap.size, 2, none⟩ (.string (bAt L 2))).cell? ⟨b, o + 3, none⟩ = some (.string (bAt L 3)) := (World.cell?_setCell_other _ _ _ _ (by intro e9; injection e9 with e1 e2; omega)).trans c3
            have z4s := (XF.out.other (c := m0.heap.size) (j := 2) (x := .string (bAt L 2)) (by omega)).cl 4 _ rfl
            go_wp2_with fail
            have hm2 : Below m0.heap.size m1 (m1.setCell ⟨m0.heap.size, 2, none⟩ (.string (bAt L 2))) := (Below.refl _ _).setCell (p := ⟨m0.heap.size, 2, none⟩) (Nat.le_refl _) _
            replace X := hd9 (X.out.other (c := m0.heap.size) (j := 2) (x := .string (bAt L 2)) (by omega))
            replace XG := hd9 (XG.out.set 2 (.string (bAt L 2)))
            replace BA := hd9 (BA.out.setCell (p := ⟨m0.heap.size, 2, none⟩) (by show _ ≤ m0.heap.size; omega) (.string (bAt L 2)))
            replace HG : Hid (PlG (m1.setCell ⟨m0.heap.size, 2, none⟩ (.string (bAt L 2))) m te pe) := ⟨(hm2.cell (p := ⟨0, 0, none⟩) (by show 0 < m0.heap.size; omega)).trans HG.out.mx, (hm2.cell (p := ⟨4, 0, none⟩) (by show 4 < m0.heap.size; exact Nat.lt_of_lt_of_le H4.out (by omega))).trans HG.out.es⟩
            clear hsb z3 z4 c2 c3 c3s z4s gf g0 g1 g2 g3 g4 hm2
            generalize m1.setCell ⟨m0.heap.size, 2, none⟩ (.string (bAt L 2)) = m2 at *
            refine (parseNumber_any (bAt L 3) m2 (HSZ.out 3) HG.out).mono ?_
            rintro e n2 ⟨vv, ok, rfl, b2, hok, hvv⟩
            replace X := hd9 (X.out.below b2)
            replace XG := hd9 (XG.out.below b2)
            replace BA := hd9 (BA.out.trans (b2.mono BA.out.size))
            have sN := b2.size
            have HQ := hd9 (And.intro hok hvv)
            clear b2 hok hvv
            cases ok with
            | false =>
              have HNN : Hid (opO L = none) := by
                show _ = _
                rw [HNO.out]
                cases hx : numO (bAt L 3).data.toList with
                | none => rfl
                | some x => have := HQ.out.1; rw [hx] at this; cases this
              clear HNO HQ
              have xf := X.out.fz
              have x0 := X.out.cl 0 _ rfl
              have x1 := X.out.cl 1 _ rfl
              have x2 := X.out.cl 2 _ rfl
              have x3 := X.out.cl 3 _ rfl
              have x4 := X.out.cl 4 _ rfl
              go_wp2_with fail
              obtain ⟨b9, x9⟩ := op_box BA.out X.out ⟨0, ⟨#[]⟩, ⟨#[]⟩, 0, false⟩
              have d0 := x9.cl 0 _ rfl
              have d1 := x9.cl 1 _ rfl
              have d2 := x9.cl 2 _ rfl
              have d3 := x9.cl 3 _ rfl
              have d4 := x9.cl 4 _ rfl
              exact bodyPost_ret (v := .tuple #[opV ⟨0, ⟨#[]⟩, ⟨#[]⟩, 0, false⟩, .bool false]) (by simp [results, Tryz.results50, go_sem, opV, d0, d1, d2, d3, d4]) rfl (OpP.no HNN.out b9)
            | true =>
              have HNN : Hid (opO L = some ⟨k9, bAt L 1, bAt L 2, vv, s9⟩) := by
                show _ = _
                rw [HNO.out]
                obtain ⟨x, hx⟩ := Option.isSome_iff_exists.1 HQ.out.1.symm
                rw [hx, HQ.out.2 x hx]
                rfl
              clear HNO HQ
              have xf := X.out.fz
              have x0 := X.out.cl 0 _ rfl
              have x1 := X.out.cl 1 _ rfl
              have x2 := X.out.cl 2 _ rfl
              have x3 := X.out.cl 3 _ rfl
              have x4 := X.out.cl 4 _ rfl
              have gf := XG.out.fz
              have g0 := XG.out.cl 0 _ rfl
              have g1 := XG.out.cl 1 _ rfl
              have g2 := XG.out.cl 2 _ rfl
              have g3 := XG.out.cl 3 _ rfl
              have g4 := XG.out.cl 4 _ rfl
              go_wp2_with fail
              have X9 := hd9 (X.out.other (c := m0.heap.size) (j := 3) (x := .int .i64 vv) (by omega))
              have B9 := hd9 (BA.out.setCell (p := ⟨m0.heap.size, 3, none⟩) (by show _ ≤ m0.heap.size; omega) (.int .i64 vv))
              obtain ⟨b9, x9⟩ := op_box B9.out X9.out ⟨k9, bAt L 1, bAt L 2, vv, s9⟩
              have d0 := x9.cl 0 _ rfl
              have d1 := x9.cl 1 _ rfl
              have d2 := x9.cl 2 _ rfl
              have d3 := x9.cl 3 _ rfl
              have d4 := x9.cl 4 _ rfl
              exact bodyPost_ret (v := .tuple #[opV ⟨k9, bAt L 1, bAt L 2, vv, s9⟩, .bool true]) (by simp [results, Tryz.results50, go_sem, opV, d0, d1, d2, d3, d4]) rfl (OpP.yes HNN.out b9)

set_option linter.unusedSimpArgs false in
set_option maxRecDepth 100000 in
set_option maxHeartbeats 4000000 in
theorem bareP_any (w : World) (a : Option Addr) (n c kb : Nat) (k : Int) (hk : w.cell? ⟨kb, 0, none⟩ = some (.int .i64 k)) (hb : kb < w.heap.size) (l : Ln) (hl : l = if n = 1 then ⟨k, [], false, ⟨#[]⟩, []⟩ else ln0) : Calls Tryz.prog 52 #[.slice a n c, .pointer (some ⟨kb, 0, none⟩)] w fun e w' => LnP w (l) e w' := by
  have hA : Below w.heap.size w (w.alloc (.cells #[.int .i64 0, .slice none 0 0, .bool false, .string ⟨#[]⟩, .slice none 0 0] 28)) := (Below.refl _ _).alloc (Nat.le_refl _) _
  have BA := hd9 hA
  have X := hd9 (St.new w #[.int .i64 0, .slice none 0 0, .bool false, .string ⟨#[]⟩, .slice none 0 0] 28)
  by_cases h1 : n = 1
  · have h1I : (((n : Nat) : Int) != 1) = false := by simp [h1]
    have HR : Hid (l = ⟨k, [], false, ⟨#[]⟩, []⟩) := hl.trans (if_pos h1)
    clear h1 hA hl
    go_enter Tryz.func52, Tryz.ntmps52
    go_wp2_with fail
    have B9 : Below w.heap.size w (w.alloc (.cells #[.int .i64 k, .slice none 0 0, .bool false, .string ⟨#[]⟩, .slice none 0 0] 28)) := (Below.refl _ _).alloc (Nat.le_refl _) _
    have X9 := St.new w #[.int .i64 k, .slice none 0 0, .bool false, .string ⟨#[]⟩, .slice none 0 0] 28
    have d0 := X9.cl 0 _ rfl
    have d1 := X9.cl 1 _ rfl
    have d2 := X9.cl 2 _ rfl
    have d3 := X9.cl 3 _ rfl
    have d4 := X9.cl 4 _ rfl
    exact bodyPost_ret (v := .agg #[.int .i64 k, .slice none 0 0, .bool false, .string ⟨#[]⟩, .slice none 0 0]) (by simp [results, Tryz.results52, go_sem, d0, d1, d2, d3, d4]) rfl (by rw [HR.out]; exact ⟨_, _, rfl, World.ownsRow_nil _ _ _ _, World.ownsRow_nil _ _ _ _, B9⟩)
  · have h1I : (((n : Nat) : Int) != 1) = true := by simp; omega
    have HR : Hid (l = ln0) := hl.trans (if_neg h1)
    clear h1 hA hl
    go_enter Tryz.func52, Tryz.ntmps52
    go_wp2_with fail
    have d0 := X.out.cl 0 _ rfl
    have d1 := X.out.cl 1 _ rfl
    have d2 := X.out.cl 2 _ rfl
    have d3 := X.out.cl 3 _ rfl
    have d4 := X.out.cl 4 _ rfl
    exact bodyPost_ret (v := .agg #[.int .i64 0, .slice none 0 0, .bool false, .string ⟨#[]⟩, .slice none 0 0]) (by simp [results, Tryz.results52, go_sem, d0, d1, d2, d3, d4]) rfl (by rw [HR.out]; exact ⟨_, _, rfl, World.ownsRow_nil _ _ _ _, World.ownsRow_nil _ _ _ _, BA.out⟩)

set_option linter.unusedSimpArgs false in
set_option maxRecDepth 100000 in
set_option maxHeartbeats 4000000 in
theorem pathP_any (w : World) (g c kb : Nat) (L : List ByteArray) (k : Int) (hk : w.cell? ⟨kb, 0, none⟩ = some (.int .i64 k)) (hb : kb < w.heap.size) (hcl : ∀ i, i < L.length → w.cell? ⟨g, i, none⟩ = some (.string (bAt L i))) (hg : g < w.heap.size) (l : Ln) (hl : l = if L.length = 2 then ⟨k, [], false, bAt L 1, []⟩ else ln0) : Calls Tryz.prog 53 #[.slice (some ⟨g, 0, none⟩) L.length c, .pointer (some ⟨kb, 0, none⟩)] w fun e w' => LnP w (l) e w' := by
  have hA : Below w.heap.size w (w.alloc (.cells #[.int .i64 0, .slice none 0 0, .bool false, .string ⟨#[]⟩, .slice none 0 0] 28)) := (Below.refl _ _).alloc (Nat.le_refl _) _
  have BA := hd9 hA
  have X := hd9 (St.new w #[.int .i64 0, .slice none 0 0, .bool false, .string ⟨#[]⟩, .slice none 0 0] 28)
  by_cases h1 : L.length = 2
  · have h1I : (((L.length : Nat) : Int) != 2) = false := by simp [h1]
    have hp1 : (1 : Int) < ((L.length : Nat) : Int) := by omega
    have f1c := hcl 1 (by omega)
    have HR : Hid (l = ⟨k, [], false, bAt L 1, []⟩) := hl.trans (if_pos h1)
    have hkz := (hA.cell (p := ⟨kb, 0, none⟩) hb).trans hk
    have hfz := (hA.cell (p := ⟨g, 1, none⟩) hg).trans f1c
    have sA : (w.alloc (.cells #[.int .i64 0, .slice none 0 0, .bool false, .string ⟨#[]⟩, .slice none 0 0] 28)).heap.size = w.heap.size + 1 := by simp
    clear h1 hA hcl hl
    go_enter Tryz.func53, Tryz.ntmps53
    go_wp2_with fail
    have bD : Below (w.alloc (.cells #[.int .i64 0, .slice none 0 0, .bool false, .string ⟨#[]⟩, .slice none 0 0] 28)).heap.size (w.alloc (.cells #[.int .i64 0, .slice none 0 0, .bool false, .string ⟨#[]⟩, .slice none 0 0] 28)) (w.alloc (.cells #[.int .i64 0, .slice none 0 0, .bool false, .string ⟨#[]⟩, .slice none 0 0] 28)).drew := below_drewN' _ 1
    refine wp_region_held_drew (S := fun W => W.cell? ⟨kb, 0, none⟩ = some (.int .i64 k) ∧ W.cell? ⟨g, 1, none⟩ = some (.string (bAt L 1))) (by kernel_rfl) ⟨(bD.cell (p := ⟨kb, 0, none⟩) (by show kb < _; omega)).trans hkz, (bD.cell (p := ⟨g, 1, none⟩) (by show g < _; omega)).trans hfz⟩ (fun hHeld => ?_)
    replace X := hd9 (X.out.below bD)
    replace BA := hd9 (BA.out.trans (bD.mono BA.out.size))
    clear bD hkz hfz sA
    generalize (w.alloc (.cells #[.int .i64 0, .slice none 0 0, .bool false, .string ⟨#[]⟩, .slice none 0 0] 28)).drew = m0 at *
    refine wpAnyH_take (i := 0) (oi := { dst := some 8, op := _, type := _, pos := _, after := _, guard := _ }) (v := (.int .i64 k)) rfl (by kernel_rfl) (by kernel_rfl) (by kernel_rfl) (fun _ _ _ h => h) (Or.inl ⟨by rfl, fun w9 hS9 => by (have h9 := hS9.1; clear hS9; go_simp; try with_reducible rfl)⟩) (by assumption) ?_
    try simp only [Act.put, List.setIfInBounds_toArray, List.set_cons_zero, List.set_cons_succ]
    refine wpAnyH_take (i := 1) (oi := { dst := some 9, op := _, type := _, pos := _, after := _, guard := _ }) (v := (.slice (some ⟨g, 0, none⟩) L.length c)) rfl (by kernel_rfl) (by kernel_rfl) (by kernel_rfl) (fun _ _ _ h => h) (Or.inl ⟨by rfl, fun w9 hS9 => by (clear hS9; go_simp; try with_reducible rfl)⟩) (by assumption) ?_
    try simp only [Act.put, List.setIfInBounds_toArray, List.set_cons_zero, List.set_cons_succ]
    refine wpAnyH_take (i := 2) (oi := { dst := some 10, op := _, type := _, pos := _, after := _, guard := _ }) (v := (.pointer (some ⟨g, 1, none⟩))) rfl (by kernel_rfl) (by kernel_rfl) (by kernel_rfl) (fun _ _ _ h => h) (Or.inl ⟨by rfl, fun w9 hS9 => by (clear hS9; go_simp; try with_reducible rfl)⟩) (by assumption) ?_
    try simp only [Act.put, List.setIfInBounds_toArray, List.set_cons_zero, List.set_cons_succ]
    refine wpAnyH_take (i := 3) (oi := { dst := some 11, op := _, type := _, pos := _, after := _, guard := _ }) (v := (.string (bAt L 1))) rfl (by kernel_rfl) (by kernel_rfl) (by kernel_rfl) (fun _ _ _ h => h) (Or.inl ⟨by rfl, fun w9 hS9 => by (have h9 := hS9.2; clear hS9; go_simp; try with_reducible rfl)⟩) (by assumption) ?_
    try simp only [Act.put, List.setIfInBounds_toArray, List.set_cons_zero, List.set_cons_succ]
    refine wpAnyH_take (i := 4) (oi := { dst := some 12, op := _, type := _, pos := _, after := _, guard := _ }) (v := (.agg #[.int .i64 k, .slice none 0 0, .bool false, .string (bAt L 1), .slice none 0 0])) rfl (by kernel_rfl) (by kernel_rfl) (by kernel_rfl) (fun _ _ _ h => h) (Or.inl ⟨by rfl, fun w9 hS9 => by (clear hS9; go_simp; try with_reducible rfl)⟩) (by assumption) ?_
    try simp only [Act.put, List.setIfInBounds_toArray, List.set_cons_zero, List.set_cons_succ]
    refine wpAnyH_ready (rs := [5]) (by kernel_rfl) (by simp) ?_
    refine AllReadyH.cons (o := { dst := none, op := _, type := _, pos := _, after := _, guard := _ }) rfl (fun K hK => ?_) AllReadyH.nil
    have x0 := X.out.fz
    have y0 := X.out.cl 0 _ rfl
    have y1 := X.out.cl 1 _ rfl
    have y2 := X.out.cl 2 _ rfl
    have y3 := X.out.cl 3 _ rfl
    have y4 := X.out.cl 4 _ rfl
    go_simp
    refine hK.out _ _ ⟨(World.cell?_setCell_other _ _ _ _ (by intro e9; injection e9 with e1 e2; omega)).trans ((World.cell?_setCell_other _ _ _ _ (by intro e9; injection e9 with e1 e2; omega)).trans ((World.cell?_setCell_other _ _ _ _ (by intro e9; injection e9 with e1 e2; omega)).trans ((World.cell?_setCell_other _ _ _ _ (by intro e9; injection e9 with e1 e2; omega)).trans ((World.cell?_setCell_other _ _ _ _ (by intro e9; injection e9 with e1 e2; omega)).trans hHeld.1)))), (World.cell?_setCell_other _ _ _ _ (by intro e9; injection e9 with e1 e2; omega)).trans ((World.cell?_setCell_other _ _ _ _ (by intro e9; injection e9 with e1 e2; omega)).trans ((World.cell?_setCell_other _ _ _ _ (by intro e9; injection e9 with e1 e2; omega)).trans ((World.cell?_setCell_other _ _ _ _ (by intro e9; injection e9 with e1 e2; omega)).trans ((World.cell?_setCell_other _ _ _ _ (by intro e9; injection e9 with e1 e2; omega)).trans hHeld.2))))⟩ (fun hx9 => ?_)
    clear hK K hHeld
    have hHeld := hx9
    clear hx9 x0 y0 y1 y2 y3 y4
    try simp only [Act.put, List.setIfInBounds_toArray, List.set_cons_zero, List.set_cons_succ]
    refine wpAnyH_done (by kernel_rfl) ?_ _
    clear hHeld
    go_wp2_with fail
    obtain ⟨b9, x9, o9, n9⟩ := ln_box BA.out X.out k false (bAt L 1) (vo := .slice none 0 0) (vn := .slice none 0 0) (show OwnO _ _ _ _ [] from World.ownsRow_nil _ _ _ _) (show Own _ _ _ _ _ [] from World.ownsRow_nil _ _ _ _)
    have d0 := x9.cl 0 _ rfl
    have d1 := x9.cl 1 _ rfl
    have d2 := x9.cl 2 _ rfl
    have d3 := x9.cl 3 _ rfl
    have d4 := x9.cl 4 _ rfl
    exact bodyPost_ret (v := .agg #[.int .i64 k, .slice none 0 0, .bool false, .string (bAt L 1), .slice none 0 0]) (by simp [results, Tryz.results53, go_sem, d0, d1, d2, d3, d4]) rfl (by rw [HR.out]; exact ⟨_, _, rfl, o9, n9, b9⟩)
  · have h1I : (((L.length : Nat) : Int) != 2) = true := by simp; omega
    have HR : Hid (l = ln0) := hl.trans (if_neg h1)
    clear h1 hA hcl hl
    go_enter Tryz.func53, Tryz.ntmps53
    go_wp2_with fail
    have d0 := X.out.cl 0 _ rfl
    have d1 := X.out.cl 1 _ rfl
    have d2 := X.out.cl 2 _ rfl
    have d3 := X.out.cl 3 _ rfl
    have d4 := X.out.cl 4 _ rfl
    exact bodyPost_ret (v := .agg #[.int .i64 0, .slice none 0 0, .bool false, .string ⟨#[]⟩, .slice none 0 0]) (by simp [results, Tryz.results53, go_sem, d0, d1, d2, d3, d4]) rfl (by rw [HR.out]; exact ⟨_, _, rfl, World.ownsRow_nil _ _ _ _, World.ownsRow_nil _ _ _ _, BA.out⟩)

end Go.Proofs.YtmjliomhhgahkaaGreatDoor


