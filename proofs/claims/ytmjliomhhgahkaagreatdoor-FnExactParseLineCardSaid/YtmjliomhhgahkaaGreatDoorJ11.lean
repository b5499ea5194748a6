import Derived.Test.YtmjliomhhgahkaaGreatDoorJ05
namespace Go.Proofs.YtmjliomhhgahkaaGreatDoor
open Go.RowKit Go.Shelf

theorem Own.cells9 {w : World} {lo : Nat} {v : Value} {ns : List Int} (h : Own .i64 2 w lo v ns) : ∃ a c, v = .slice a ns.length c ∧ (0 < ns.length → ∃ g, a = some ⟨g, 0, none⟩ ∧ ∀ i, i < ns.length → w.cell? ⟨g, i, none⟩ = some (.int .i64 (nA ns i))) := by
  have h' := h
  rcases h.2 with ⟨rfl, h9⟩ | ⟨g, cap, cur, rfl, h1, h2, h3, h4, h5, h6⟩
  · exact ⟨none, 0, by rw [h9], fun h0 => by omega⟩
  · refine ⟨_, cap, rfl, fun _ => ⟨g, rfl, fun i hi => ?_⟩⟩
    rw [World.ownsRow.cellAt h' i (by omega), List.getElem?_map, List.getElem?_eq_getElem hi]
    unfold nA
    rw [List.getD, List.getElem?_eq_getElem hi]
    rfl
theorem fld_len (b : ByteArray) (hs : b.size ≤ 1048576) : 0 < (fldB b).length ∧ (fldB b).length ≤ 1048577 ∧ SzB (fldB b) := by
  have h1 := cutA_pos 32 b.data.toList []
  obtain ⟨h2, h3⟩ := cutA_len 32 b.data.toList []
  have h4 := dl_len b
  unfold fldB
  rw [List.length_map]
  refine ⟨h1, by omega, fun i => ?_⟩
  by_cases hi : i < ((cutA 32 [] b.data.toList).map mkB).length
  · rw [bAt_get hi, List.getElem_map]
    rw [List.length_map] at hi
    have := h3 _ (List.getElem_mem hi)
    rw [← dl_len, mkB_dl]
    simp at this; omega
  · unfold bAt
    rw [List.getD, List.getElem?_eq_none (by omega)]
    exact Nat.zero_le _

set_option linter.unusedSimpArgs false in
set_option maxRecDepth 100000 in
set_option maxHeartbeats 200000000 in
theorem specLine_any (w : World) (v : Value) (b : ByteArray) (h : Rd .u8 w v (bI b)) (hs : b.size ≤ 1048576) :
    Calls Tryz.prog 4 #[v] w fun e w' => LnP w (lineOf b) e w' := by
  have hA : Below w.heap.size w (w.alloc (.cells #[.int .i64 0, .slice none 0 0, .bool false, .string ⟨#[]⟩, .slice none 0 0] 28)) := (Below.refl _ _).alloc (Nat.le_refl _) _
  have BA := hd9 hA
  have X := hd9 (St.new w #[.int .i64 0, .slice none 0 0, .bool false, .string ⟨#[]⟩, .slice none 0 0] 28)
  have HF := hd9 (l6Fields_any (w.alloc (.cells #[.int .i64 0, .slice none 0 0, .bool false, .string ⟨#[]⟩, .slice none 0 0] 28)) v b (h.below hA) hs)
  have hsize : (w.alloc (.cells #[.int .i64 0, .slice none 0 0, .bool false, .string ⟨#[]⟩, .slice none 0 0] 28)).heap.size = w.heap.size + 1 := by simp
  rw [hsize] at HF
  obtain ⟨ao, cap, rfl, -⟩ := h
  rw [bI_len] at HF ⊢
  clear hA
  by_cases hbig : 60000 < b.size
  case pos =>
    have hbI : (60000 : Int) < ((b.size : Nat) : Int) := by omega
    have HNO : Hid (lineOf b = ln0) := by show _ = _; unfold lineOf; rw [if_pos hbig]
    clear HF hsize
    go_enter Tryz.func4, Tryz.ntmps4
    go_wp2_with fail
    generalize w.alloc (.cells #[.int .i64 0, .slice none 0 0, .bool false, .string ⟨#[]⟩, .slice none 0 0] 28) = w1 at *
    have d0 := X.out.cl 0 _ rfl
    have d1 := X.out.cl 1 _ rfl
    have d2 := X.out.cl 2 _ rfl
    have d3 := X.out.cl 3 _ rfl
    have d4 := X.out.cl 4 _ rfl
    exact bodyPost_ret (v := .agg #[.int .i64 0, .slice none 0 0, .bool false, .string ⟨#[]⟩, .slice none 0 0]) (by simp [results, Tryz.results4, go_sem, d0, d1, d2, d3, d4]) rfl (by rw [HNO.out]; exact ⟨_, _, rfl, World.ownsRow_nil _ _ _ _, World.ownsRow_nil _ _ _ _, BA.out⟩)
  have hbI : ¬ (60000 : Int) < ((b.size : Nat) : Int) := by omega
  have hline : lineOf b = if (fldB b).all goodB = true then plF (fldB b) else ln0 := by unfold lineOf; rw [if_neg hbig]
  have hlen : 0 < (fldB b).length ∧ (fldB b).length ≤ 1048577 ∧ SzB (fldB b) := fld_len b hs
  have HG : Hid (fldG b = if (fldB b).all goodB = true then fldB b else []) := rfl
  have HLN := hd9 hline
  generalize lineOf b = l at *
  generalize fldG b = G at *
  generalize fldB b = L at *
  go_enter Tryz.func4, Tryz.ntmps4
  go_wp2_with fail
  generalize w.alloc (.cells #[.int .i64 0, .slice none 0 0, .bool false, .string ⟨#[]⟩, .slice none 0 0] 28) = w1 at *
  have s1 : w.heap.size + 1 ≤ w1.heap.size := by omega
  clear hsize
  refine HF.out.mono ?_
  rintro e w2 ⟨v2, rfl, o2, b2⟩
  replace X := hd9 (X.out.belowB b2 (Nat.lt_succ_self _))
  replace BA := hd9 (BA.out.trans (b2.mono (Nat.le_succ _)))
  clear HF hline hbig
  have s2 : w.heap.size + 1 ≤ w2.heap.size := Nat.le_trans s1 b2.size
  clear s1
  by_cases hall : L.all goodB = true
  case neg =>
    have hno : l = ln0 := by rw [HLN.out, if_neg hall]
    have HNO := hd9 hno
    rw [show G = [] by rw [HG.out, if_neg hall]] at o2
    obtain ⟨a2, c2, rfl, -⟩ := o2.rd
    clear hno hall HLN HG o2 b2
    have x0 := X.out.fz
    have y0 := X.out.cl 0 _ rfl
    have y1 := X.out.cl 1 _ rfl
    have y2 := X.out.cl 2 _ rfl
    have y3 := X.out.cl 3 _ rfl
    have y4 := X.out.cl 4 _ rfl
    go_wp2_with fail
    obtain ⟨b9, x9, o9, n9⟩ := ln_box BA.out X.out 0 false ⟨#[]⟩ (vo := .slice none 0 0) (vn := .slice none 0 0) (show OwnO _ _ _ _ [] from World.ownsRow_nil _ _ _ _) (show Own _ _ _ _ _ [] from World.ownsRow_nil _ _ _ _)
    have d0 := x9.cl 0 _ rfl
    have d1 := x9.cl 1 _ rfl
    have d2 := x9.cl 2 _ rfl
    have d3 := x9.cl 3 _ rfl
    have d4 := x9.cl 4 _ rfl
    exact bodyPost_ret (v := .agg #[.int .i64 0, .slice none 0 0, .bool false, .string ⟨#[]⟩, .slice none 0 0]) (by simp [results, Tryz.results4, go_sem, d0, d1, d2, d3, d4]) rfl (by rw [HNO.out]; exact ⟨_, _, rfl, o9, n9, b9⟩)
  rw [show G = L by rw [HG.out, if_pos hall]] at o2
  have hl : l = plF L := by rw [HLN.out, if_pos hall]
  obtain ⟨hl0, hl1, hsz⟩ := hlen
  clear HG HLN hall
  subst hl
  obtain ⟨g, c, rfl, hg1, hg2, hc1, hc2, hcl⟩ := o2.cells hl0
  unfold maxLen at hc2
  have RL := hd9 o2.rd
  have HCL := hd9 hcl
  have HSZ := hd9 hsz
  have hn0 : (((L.length : Nat) : Int) == 0) = false := beq_false_of_ne (by omega)
  have hp0 : (0 : Int) < ((L.length : Nat) : Int) := by omega
  have f0c := hcl 0 hl0
  have hg9 : w.heap.size + 1 ≤ g := by omega
  clear hcl hsz o2 b2
  by_cases q0 : ((bAt L 0).toList == [109, 117, 108, 116, 105]) = true
  case pos =>
    have hpl : plF L = plM L := by unfold plF; rw [if_pos q0]
    have hd : L.drop 1 = L.drop 1 := rfl
    have RD : RdB w2 (if c = 1 then .slice (some ⟨g, 0, none⟩) (L.length - 1) (c - 1) else .slice (some ⟨g, 0 + 1, none⟩) (L.length - 1) (c - 1)) (L.drop 1) := by
      have h9 := rdB_sub RL.out 1 (L.length - 1) (by omega)
      rw [List.take_of_length_le (by rw [List.length_drop]; exact Nat.le_refl _)] at h9
      by_cases hc : c = 1
      · rw [if_pos hc]
        have hz : L.drop 1 = [] := List.drop_of_length_le (by omega)
        rw [hz, show L.length - 1 = 0 by omega]
        exact ⟨_, _, rfl, Nat.zero_le _, by unfold maxLen; omega, .inl rfl⟩
      · rw [if_neg hc]; exact h9
    have HC := hd9 (l6Ops_any L.length w2 _ (L.drop 1) RD (HSZ.out.drop 1) (by rw [List.length_drop]; omega) (by rw [List.length_drop]; omega))
    have HPL := hd9 hpl
    clear hpl hd RD HCL HSZ RL
    generalize bAt L 0 = f0 at *
    by_cases hc : c = 1
    · rw [if_pos hc, show L.length - 1 = 0 by omega, show c - 1 = 0 by omega] at HC
      have hL1e : L.length = 1 := by omega
      go_wp2_with fail
      clear hc hL1e
      refine HC.out.mono ?_
      rintro e w3 ⟨vo, os, ok, rfl, o3, h31, h32, b3, hok, hos⟩
      obtain ⟨gr, cr, rfl, -, -⟩ := o3.cells9 h31
      replace X := hd9 (X.out.belowB b3 (by omega))
      replace BA := hd9 (BA.out.trans (b3.mono (by omega)))
      have O3 := hd9 (ownsRow_mono9 o3 (lo' := w.heap.size + 1) s2)
      have HQ := hd9 (And.intro hok hos)
      clear HC o3 b3 hok hos f0c
      cases ok with
      | false =>
        have HNO : Hid (plF L = ln0) := by
          show _ = _
          rw [HPL.out]; unfold plM
          cases hx : opsO L.length (L.drop 1) with
          | none => rfl
          | some x => have := HQ.out.1; rw [hx] at this; cases this
        clear HPL HQ
        have x0 := X.out.fz
        have y0 := X.out.cl 0 _ rfl
        have y1 := X.out.cl 1 _ rfl
        have y2 := X.out.cl 2 _ rfl
        have y3 := X.out.cl 3 _ rfl
        have y4 := X.out.cl 4 _ rfl
        go_wp2_with fail
        obtain ⟨b9, x9, o9, n9⟩ := ln_box BA.out X.out 0 false ⟨#[]⟩ (vo := .slice none 0 0) (vn := .slice none 0 0) (show OwnO _ _ _ _ [] from World.ownsRow_nil _ _ _ _) (show Own _ _ _ _ _ [] from World.ownsRow_nil _ _ _ _)
        have d0 := x9.cl 0 _ rfl
        have d1 := x9.cl 1 _ rfl
        have d2 := x9.cl 2 _ rfl
        have d3 := x9.cl 3 _ rfl
        have d4 := x9.cl 4 _ rfl
        exact bodyPost_ret (v := .agg #[.int .i64 0, .slice none 0 0, .bool false, .string ⟨#[]⟩, .slice none 0 0]) (by simp [results, Tryz.results4, go_sem, d0, d1, d2, d3, d4]) rfl (by rw [HNO.out]; exact ⟨_, _, rfl, o9, n9, b9⟩)
      | true =>
        have HNO : Hid (plF L = ⟨1, os, true, ⟨#[]⟩, []⟩) := by
          show _ = _
          rw [HPL.out]; unfold plM
          obtain ⟨x, hx⟩ := Option.isSome_iff_exists.1 HQ.out.1.symm
          rw [hx, HQ.out.2 x hx]
        clear HPL HQ
        have x0 := X.out.fz
        have y0 := X.out.cl 0 _ rfl
        have y1 := X.out.cl 1 _ rfl
        have y2 := X.out.cl 2 _ rfl
        have y3 := X.out.cl 3 _ rfl
        have y4 := X.out.cl 4 _ rfl
        go_wp2_with fail
        obtain ⟨b9, x9, o9, n9⟩ := ln_box BA.out X.out 1 true ⟨#[]⟩ (vo := .slice (some ⟨gr, 0, none⟩) os.length cr) (vn := .slice none 0 0) (O3.out) (show Own _ _ _ _ _ [] from World.ownsRow_nil _ _ _ _)
        have d0 := x9.cl 0 _ rfl
        have d1 := x9.cl 1 _ rfl
        have d2 := x9.cl 2 _ rfl
        have d3 := x9.cl 3 _ rfl
        have d4 := x9.cl 4 _ rfl
        exact bodyPost_ret (v := .agg #[.int .i64 1, .slice (some ⟨gr, 0, none⟩) os.length cr, .bool true, .string ⟨#[]⟩, .slice none 0 0]) (by simp [results, Tryz.results4, go_sem, d0, d1, d2, d3, d4]) rfl (by rw [HNO.out]; exact ⟨_, _, rfl, o9, n9, b9⟩)
    · rw [if_neg hc] at HC
      go_wp2_with fail
      refine HC.out.mono ?_
      rintro e w3 ⟨vo, os, ok, rfl, o3, h31, h32, b3, hok, hos⟩
      obtain ⟨gr, cr, rfl, -, -⟩ := o3.cells9 h31
      replace X := hd9 (X.out.belowB b3 (by omega))
      replace BA := hd9 (BA.out.trans (b3.mono (by omega)))
      have O3 := hd9 (ownsRow_mono9 o3 (lo' := w.heap.size + 1) s2)
      have HQ := hd9 (And.intro hok hos)
      clear HC o3 b3 hok hos f0c
      cases ok with
      | false =>
        have HNO : Hid (plF L = ln0) := by
          show _ = _
          rw [HPL.out]; unfold plM
          cases hx : opsO L.length (L.drop 1) with
          | none => rfl
          | some x => have := HQ.out.1; rw [hx] at this; cases this
        clear HPL HQ
        have x0 := X.out.fz
        have y0 := X.out.cl 0 _ rfl
        have y1 := X.out.cl 1 _ rfl
        have y2 := X.out.cl 2 _ rfl
        have y3 := X.out.cl 3 _ rfl
        have y4 := X.out.cl 4 _ rfl
        go_wp2_with fail
        obtain ⟨b9, x9, o9, n9⟩ := ln_box BA.out X.out 0 false ⟨#[]⟩ (vo := .slice none 0 0) (vn := .slice none 0 0) (show OwnO _ _ _ _ [] from World.ownsRow_nil _ _ _ _) (show Own _ _ _ _ _ [] from World.ownsRow_nil _ _ _ _)
        have d0 := x9.cl 0 _ rfl
        have d1 := x9.cl 1 _ rfl
        have d2 := x9.cl 2 _ rfl
        have d3 := x9.cl 3 _ rfl
        have d4 := x9.cl 4 _ rfl
        exact bodyPost_ret (v := .agg #[.int .i64 0, .slice none 0 0, .bool false, .string ⟨#[]⟩, .slice none 0 0]) (by simp [results, Tryz.results4, go_sem, d0, d1, d2, d3, d4]) rfl (by rw [HNO.out]; exact ⟨_, _, rfl, o9, n9, b9⟩)
      | true =>
        have HNO : Hid (plF L = ⟨1, os, true, ⟨#[]⟩, []⟩) := by
          show _ = _
          rw [HPL.out]; unfold plM
          obtain ⟨x, hx⟩ := Option.isSome_iff_exists.1 HQ.out.1.symm
          rw [hx, HQ.out.2 x hx]
        clear HPL HQ
        have x0 := X.out.fz
        have y0 := X.out.cl 0 _ rfl
        have y1 := X.out.cl 1 _ rfl
        have y2 := X.out.cl 2 _ rfl
        have y3 := X.out.cl 3 _ rfl
        have y4 := X.out.cl 4 _ rfl
        go_wp2_with fail
        obtain ⟨b9, x9, o9, n9⟩ := ln_box BA.out X.out 1 true ⟨#[]⟩ (vo := .slice (some ⟨gr, 0, none⟩) os.length cr) (vn := .slice none 0 0) (O3.out) (show Own _ _ _ _ _ [] from World.ownsRow_nil _ _ _ _)
        have d0 := x9.cl 0 _ rfl
        have d1 := x9.cl 1 _ rfl
        have d2 := x9.cl 2 _ rfl
        have d3 := x9.cl 3 _ rfl
        have d4 := x9.cl 4 _ rfl
        exact bodyPost_ret (v := .agg #[.int .i64 1, .slice (some ⟨gr, 0, none⟩) os.length cr, .bool true, .string ⟨#[]⟩, .slice none 0 0]) (by simp [results, Tryz.results4, go_sem, d0, d1, d2, d3, d4]) rfl (by rw [HNO.out]; exact ⟨_, _, rfl, o9, n9, b9⟩)
  replace q0 : ((bAt L 0).toList == [109, 117, 108, 116, 105]) = false := by simpa using q0
  have hpl : plF L = plO L := by unfold plF; rw [if_neg (by rw [q0]; decide)]
  have HPL := hd9 hpl
  have HC := hd9 (l6Op_any w2 _ L RL.out HSZ.out)
  clear hpl
  go_wp2_with fail
  refine HC.out.mono ?_
  rintro e w3 ⟨oo, ok, rfl, b3, hok, hoo⟩
  have HQ := hd9 (And.intro hok hoo)
  have bA : Below w3.heap.size w3 (w3.alloc (.cells #[.int .i64 oo.kind, .string oo.path, .string oo.data, .int .i64 oo.ver, .bool oo.seq] 41)) := (Below.refl _ _).alloc (Nat.le_refl _) _
  have b34 := b3.trans (bA.mono b3.size)
  replace X := hd9 (X.out.belowB b34 (by omega))
  replace BA := hd9 (BA.out.trans (b34.mono (by omega)))
  replace RL := hd9 (RL.out.below b34)
  replace f0c := (b34.cell (p := ⟨g, 0, none⟩) hg2).trans f0c
  replace HCL : Hid (∀ i, i < L.length → (w3.alloc (.cells #[.int .i64 oo.kind, .string oo.path, .string oo.data, .int .i64 oo.ver, .bool oo.seq] 41)).cell? ⟨g, i, none⟩ = some (.string (bAt L i))) := fun i hi => (b34.cell (p := ⟨g, i, none⟩) hg2).trans (HCL.out i hi)
  have s3 : w.heap.size + 1 ≤ w3.heap.size := Nat.le_trans s2 b3.size
  have O3 := hd9 (ownO_one (w3.alloc (.cells #[.int .i64 oo.kind, .string oo.path, .string oo.data, .int .i64 oo.ver, .bool oo.seq] 41)) (w.heap.size + 1) (by simp; omega) oo)
  rw [show (w3.alloc (.cells #[.int .i64 oo.kind, .string oo.path, .string oo.data, .int .i64 oo.ver, .bool oo.seq] 41)).heap.size = w3.heap.size + 1 by simp] at O3
  have Y := hd9 (St.new w3 #[.int .i64 oo.kind, .string oo.path, .string oo.data, .int .i64 oo.ver, .bool oo.seq] 41)
  replace hg2 : g < (w3.alloc (.cells #[.int .i64 oo.kind, .string oo.path, .string oo.data, .int .i64 oo.ver, .bool oo.seq] 41)).heap.size := Nat.lt_of_lt_of_le hg2 b34.size
  clear HC bA b3 b34 hok hoo s2
  unfold opV
  cases ok with
  | true =>
    have HNO : Hid (plF L = ⟨1, [oo], false, ⟨#[]⟩, []⟩) := by
      show _ = _
      rw [HPL.out]; unfold plO
      obtain ⟨x, hx⟩ := Option.isSome_iff_exists.1 HQ.out.1.symm
      rw [hx, HQ.out.2 x hx]
    replace X := hd9 (X.out.below ((Below.refl _ _).alloc (Nat.le_refl _) (.cells #[.int .i64 oo.kind, .string oo.path, .string oo.data, .int .i64 oo.ver, .bool oo.seq] 41)))
    replace BA := hd9 (BA.out.alloc (by simp; omega) (.cells #[.int .i64 oo.kind, .string oo.path, .string oo.data, .int .i64 oo.ver, .bool oo.seq] 41))
    clear HPL HQ RL HCL HSZ f0c hg2 q0
    have x0 := X.out.fz
    have y0 := X.out.cl 0 _ rfl
    have y1 := X.out.cl 1 _ rfl
    have y2 := X.out.cl 2 _ rfl
    have y3 := X.out.cl 3 _ rfl
    have y4 := X.out.cl 4 _ rfl
    go_wp2_with fail
    obtain ⟨b9, x9, o9, n9⟩ := ln_box BA.out X.out 1 false ⟨#[]⟩ (vo := .slice (some ⟨w3.heap.size + 1, 0, none⟩) 1 1) (vn := .slice none 0 0) (show OwnO _ _ _ _ [oo] from O3.out) (show Own _ _ _ _ _ [] from World.ownsRow_nil _ _ _ _)
    have d0 := x9.cl 0 _ rfl
    have d1 := x9.cl 1 _ rfl
    have d2 := x9.cl 2 _ rfl
    have d3 := x9.cl 3 _ rfl
    have d4 := x9.cl 4 _ rfl
    exact bodyPost_ret (v := .agg #[.int .i64 1, .slice (some ⟨w3.heap.size + 1, 0, none⟩) 1 1, .bool false, .string ⟨#[]⟩, .slice none 0 0]) (by simp [results, Tryz.results4, go_sem, d0, d1, d2, d3, d4]) rfl (by rw [HNO.out]; exact ⟨_, _, rfl, o9, n9, b9⟩)
  | false =>
    have HP1 : Hid (plF L = pl1 L) := by
      show _ = _
      rw [HPL.out]; unfold plO
      cases hx : opO L with
      | none => rfl
      | some x => have := HQ.out.1; rw [hx] at this; cases this
    clear HPL HQ O3 Y
    by_cases n1 : L.length = 1
    case pos =>
      have hn1 : (((L.length : Nat) : Int) == 1) = true := beq_iff_eq.2 (by omega)
      have hn2 : (((L.length : Nat) : Int) == 2) = false := beq_false_of_ne (by omega)
      have HN1 := hd9 n1
      clear n1
      by_cases q1 : ((bAt L 0).toList == [102, 108, 117, 115, 104]) = true
      case pos =>
        have HNO : Hid (plF L = ⟨2, [], false, ⟨#[]⟩, []⟩) := by
          show _ = _
          rw [HP1.out]; unfold pl1; rw [if_pos ⟨HN1.out, q1⟩]
        clear HP1 HN1 RL HCL HSZ
        have x0 := X.out.fz
        have y0 := X.out.cl 0 _ rfl
        have y1 := X.out.cl 1 _ rfl
        have y2 := X.out.cl 2 _ rfl
        have y3 := X.out.cl 3 _ rfl
        have y4 := X.out.cl 4 _ rfl
        go_wp2_with fail
        obtain ⟨b9, x9, o9, n9⟩ := ln_box BA.out X.out 2 false ⟨#[]⟩ (vo := .slice none 0 0) (vn := .slice none 0 0) (show OwnO _ _ _ _ [] from World.ownsRow_nil _ _ _ _) (show Own _ _ _ _ _ [] from World.ownsRow_nil _ _ _ _)
        have d0 := x9.cl 0 _ rfl
        have d1 := x9.cl 1 _ rfl
        have d2 := x9.cl 2 _ rfl
        have d3 := x9.cl 3 _ rfl
        have d4 := x9.cl 4 _ rfl
        exact bodyPost_ret (v := .agg #[.int .i64 2, .slice none 0 0, .bool false, .string ⟨#[]⟩, .slice none 0 0]) (by simp [results, Tryz.results4, go_sem, d0, d1, d2, d3, d4]) rfl (by rw [HNO.out]; exact ⟨_, _, rfl, o9, n9, b9⟩)
      replace q1 : ((bAt L 0).toList == [102, 108, 117, 115, 104]) = false := by simpa using q1
      by_cases q2 : ((bAt L 0).toList == [100, 117, 109, 112]) = true
      case pos =>
        have HNO : Hid (plF L = ⟨5, [], false, ⟨#[]⟩, []⟩) := by
          show _ = _
          rw [HP1.out]; unfold pl1; rw [if_neg (fun h => by rw [q1] at h; cases h.2), if_pos ⟨HN1.out, q2⟩]
        clear HP1 HN1 RL HCL HSZ
        have x0 := X.out.fz
        have y0 := X.out.cl 0 _ rfl
        have y1 := X.out.cl 1 _ rfl
        have y2 := X.out.cl 2 _ rfl
        have y3 := X.out.cl 3 _ rfl
        have y4 := X.out.cl 4 _ rfl
        go_wp2_with fail
        obtain ⟨b9, x9, o9, n9⟩ := ln_box BA.out X.out 5 false ⟨#[]⟩ (vo := .slice none 0 0) (vn := .slice none 0 0) (show OwnO _ _ _ _ [] from World.ownsRow_nil _ _ _ _) (show Own _ _ _ _ _ [] from World.ownsRow_nil _ _ _ _)
        have d0 := x9.cl 0 _ rfl
        have d1 := x9.cl 1 _ rfl
        have d2 := x9.cl 2 _ rfl
        have d3 := x9.cl 3 _ rfl
        have d4 := x9.cl 4 _ rfl
        exact bodyPost_ret (v := .agg #[.int .i64 5, .slice none 0 0, .bool false, .string ⟨#[]⟩, .slice none 0 0]) (by simp [results, Tryz.results4, go_sem, d0, d1, d2, d3, d4]) rfl (by rw [HNO.out]; exact ⟨_, _, rfl, o9, n9, b9⟩)
      replace q2 : ((bAt L 0).toList == [100, 117, 109, 112]) = false := by simpa using q2
      by_cases q3 : ((bAt L 0).toList == [115, 110, 97, 112]) = true
      case pos =>
        have HNO : Hid (plF L = ⟨6, [], false, ⟨#[]⟩, []⟩) := by
          show _ = _
          rw [HP1.out]; unfold pl1; rw [if_neg (fun h => by rw [q1] at h; cases h.2), if_neg (fun h => by rw [q2] at h; cases h.2), if_pos ⟨HN1.out, q3⟩]
        clear HP1 HN1 RL HCL HSZ
        have x0 := X.out.fz
        have y0 := X.out.cl 0 _ rfl
        have y1 := X.out.cl 1 _ rfl
        have y2 := X.out.cl 2 _ rfl
        have y3 := X.out.cl 3 _ rfl
        have y4 := X.out.cl 4 _ rfl
        go_wp2_with fail
        obtain ⟨b9, x9, o9, n9⟩ := ln_box BA.out X.out 6 false ⟨#[]⟩ (vo := .slice none 0 0) (vn := .slice none 0 0) (show OwnO _ _ _ _ [] from World.ownsRow_nil _ _ _ _) (show Own _ _ _ _ _ [] from World.ownsRow_nil _ _ _ _)
        have d0 := x9.cl 0 _ rfl
        have d1 := x9.cl 1 _ rfl
        have d2 := x9.cl 2 _ rfl
        have d3 := x9.cl 3 _ rfl
        have d4 := x9.cl 4 _ rfl
        exact bodyPost_ret (v := .agg #[.int .i64 6, .slice none 0 0, .bool false, .string ⟨#[]⟩, .slice none 0 0]) (by simp [results, Tryz.results4, go_sem, d0, d1, d2, d3, d4]) rfl (by rw [HNO.out]; exact ⟨_, _, rfl, o9, n9, b9⟩)
      replace q3 : ((bAt L 0).toList == [115, 110, 97, 112]) = false := by simpa using q3
      by_cases q4 : ((bAt L 0).toList == [114, 101, 99, 111, 118, 101, 114]) = true
      case pos =>
        have HNO : Hid (plF L = ⟨11, [], false, ⟨#[]⟩, []⟩) := by
          show _ = _
          rw [HP1.out]; unfold pl1; rw [if_neg (fun h => by rw [q1] at h; cases h.2), if_neg (fun h => by rw [q2] at h; cases h.2), if_neg (fun h => by rw [q3] at h; cases h.2), if_pos ⟨HN1.out, q4⟩]
        clear HP1 HN1 RL HCL HSZ
        have x0 := X.out.fz
        have y0 := X.out.cl 0 _ rfl
        have y1 := X.out.cl 1 _ rfl
        have y2 := X.out.cl 2 _ rfl
        have y3 := X.out.cl 3 _ rfl
        have y4 := X.out.cl 4 _ rfl
        go_wp2_with fail
        obtain ⟨b9, x9, o9, n9⟩ := ln_box BA.out X.out 11 false ⟨#[]⟩ (vo := .slice none 0 0) (vn := .slice none 0 0) (show OwnO _ _ _ _ [] from World.ownsRow_nil _ _ _ _) (show Own _ _ _ _ _ [] from World.ownsRow_nil _ _ _ _)
        have d0 := x9.cl 0 _ rfl
        have d1 := x9.cl 1 _ rfl
        have d2 := x9.cl 2 _ rfl
        have d3 := x9.cl 3 _ rfl
        have d4 := x9.cl 4 _ rfl
        exact bodyPost_ret (v := .agg #[.int .i64 11, .slice none 0 0, .bool false, .string ⟨#[]⟩, .slice none 0 0]) (by simp [results, Tryz.results4, go_sem, d0, d1, d2, d3, d4]) rfl (by rw [HNO.out]; exact ⟨_, _, rfl, o9, n9, b9⟩)
      replace q4 : ((bAt L 0).toList == [114, 101, 99, 111, 118, 101, 114]) = false := by simpa using q4
      by_cases q5 : ((bAt L 0).toList == [115, 116, 97, 116, 117, 115]) = true
      case pos =>
        have HNO : Hid (plF L = ⟨12, [], false, ⟨#[]⟩, []⟩) := by
          show _ = _
          rw [HP1.out]; unfold pl1; rw [if_neg (fun h => by rw [q1] at h; cases h.2), if_neg (fun h => by rw [q2] at h; cases h.2), if_neg (fun h => by rw [q3] at h; cases h.2), if_neg (fun h => by rw [q4] at h; cases h.2), if_pos ⟨HN1.out, q5⟩]
        clear HP1 HN1 RL HCL HSZ
        have x0 := X.out.fz
        have y0 := X.out.cl 0 _ rfl
        have y1 := X.out.cl 1 _ rfl
        have y2 := X.out.cl 2 _ rfl
        have y3 := X.out.cl 3 _ rfl
        have y4 := X.out.cl 4 _ rfl
        go_wp2_with fail
        obtain ⟨b9, x9, o9, n9⟩ := ln_box BA.out X.out 12 false ⟨#[]⟩ (vo := .slice none 0 0) (vn := .slice none 0 0) (show OwnO _ _ _ _ [] from World.ownsRow_nil _ _ _ _) (show Own _ _ _ _ _ [] from World.ownsRow_nil _ _ _ _)
        have d0 := x9.cl 0 _ rfl
        have d1 := x9.cl 1 _ rfl
        have d2 := x9.cl 2 _ rfl
        have d3 := x9.cl 3 _ rfl
        have d4 := x9.cl 4 _ rfl
        exact bodyPost_ret (v := .agg #[.int .i64 12, .slice none 0 0, .bool false, .string ⟨#[]⟩, .slice none 0 0]) (by simp [results, Tryz.results4, go_sem, d0, d1, d2, d3, d4]) rfl (by rw [HNO.out]; exact ⟨_, _, rfl, o9, n9, b9⟩)
      replace q5 : ((bAt L 0).toList == [115, 116, 97, 116, 117, 115]) = false := by simpa using q5
      have HP2 : Hid (plF L = plN L) := by
        show _ = _
        rw [HP1.out]; unfold pl1; rw [if_neg (fun h => by rw [q1] at h; cases h.2), if_neg (fun h => by rw [q2] at h; cases h.2), if_neg (fun h => by rw [q3] at h; cases h.2), if_neg (fun h => by rw [q4] at h; cases h.2), if_neg (fun h => by rw [q5] at h; cases h.2)]; unfold pl2; rw [if_neg (fun h => by have := HN1.out; omega), if_neg (fun h => by have := HN1.out; omega)]
      have n1 := HN1.out
      clear HP1 HN1
      have nL : L.length ≤ 1 := by omega
      clear n1
      have RD : RdB (w3.alloc (.cells #[.int .i64 oo.kind, .string oo.path, .string oo.data, .int .i64 oo.ver, .bool oo.seq] 41)) (if c = 1 then .slice (some ⟨g, 0, none⟩) (L.length - 1) (c - 1) else .slice (some ⟨g, 0 + 1, none⟩) (L.length - 1) (c - 1)) (L.drop 1) := by
        have h9 := rdB_sub RL.out 1 (L.length - 1) (by omega)
        rw [List.take_of_length_le (by rw [List.length_drop]; exact Nat.le_refl _)] at h9
        by_cases hc : c = 1
        · rw [if_pos hc]
          have hz : L.drop 1 = [] := List.drop_of_length_le (by omega)
          rw [hz, show L.length - 1 = 0 by omega]
          exact ⟨_, _, rfl, Nat.zero_le _, by unfold maxLen; omega, .inl rfl⟩
        · rw [if_neg hc]; exact h9
      have HC := hd9 (l6Nums_any (w3.alloc (.cells #[.int .i64 oo.kind, .string oo.path, .string oo.data, .int .i64 oo.ver, .bool oo.seq] 41)) _ (L.drop 1) RD (by rw [List.length_drop]; omega) (HSZ.out.drop 1))
      clear RD HCL HSZ RL
      by_cases hc : c = 1
      · rw [if_pos hc, show L.length - 1 = 0 by omega, show c - 1 = 0 by omega] at HC
        have hL1e : L.length = 1 := by omega
        go_wp2_with fail
        clear hc hL1e
        refine HC.out.mono ?_
        rintro e w5 ⟨vn, ns, ok, rfl, n5, hn5, b5, hok, hns⟩
        obtain ⟨an, cn, rfl, hcn⟩ := n5.cells9
        replace X := hd9 (X.out.below b5)
        replace BA := hd9 (BA.out.trans (b5.mono (by simp; omega)))
        replace f0c := (b5.cell (p := ⟨g, 0, none⟩) hg2).trans f0c
        have N5 := hd9 (ownsRow_mono9 n5 (lo' := w.heap.size + 1) (by simp; omega))
        have HQ := hd9 (And.intro hok hns)
        rw [List.length_drop] at hn5
        clear HC n5 b5 hok hns
        cases ok with
        | false =>
          have HNO : Hid (plF L = ln0) := by
            show _ = _
            rw [HP2.out]; unfold plN
            cases hx : numsO (L.drop 1) with
            | none => rfl
            | some x =>
              have h9 := HQ.out.1
              rw [hx] at h9
              show (if _ then _ else _) = _
              rw [if_neg (of_decide_eq_false h9.symm)]
          clear HP2 HQ
          have x0 := X.out.fz
          have y0 := X.out.cl 0 _ rfl
          have y1 := X.out.cl 1 _ rfl
          have y2 := X.out.cl 2 _ rfl
          have y3 := X.out.cl 3 _ rfl
          have y4 := X.out.cl 4 _ rfl
          go_wp2_with fail
          obtain ⟨b9, x9, o9, n9⟩ := ln_box BA.out X.out 0 false ⟨#[]⟩ (vo := .slice none 0 0) (vn := .slice none 0 0) (show OwnO _ _ _ _ [] from World.ownsRow_nil _ _ _ _) (show Own _ _ _ _ _ [] from World.ownsRow_nil _ _ _ _)
          have d0 := x9.cl 0 _ rfl
          have d1 := x9.cl 1 _ rfl
          have d2 := x9.cl 2 _ rfl
          have d3 := x9.cl 3 _ rfl
          have d4 := x9.cl 4 _ rfl
          exact bodyPost_ret (v := .agg #[.int .i64 0, .slice none 0 0, .bool false, .string ⟨#[]⟩, .slice none 0 0]) (by simp [results, Tryz.results4, go_sem, d0, d1, d2, d3, d4]) rfl (by rw [HNO.out]; exact ⟨_, _, rfl, o9, n9, b9⟩)
        | true =>
          have HV : Hid (plF L = plV (bAt L 0) ns) := by
            show _ = _
            rw [HP2.out]; unfold plN
            have h9 := HQ.out.1.symm
            rw [Bool.and_eq_true] at h9
            obtain ⟨x, hx⟩ := Option.isSome_iff_exists.1 h9.1
            rw [hx]
            show (if _ then _ else _) = _
            rw [if_pos (of_decide_eq_true h9.2), HQ.out.2 x hx]
          clear HP2 HQ
          have l1 : ¬ ns.length = 1 := by omega
          have l3 : ¬ ns.length = 3 := by omega
          have lg : ¬ 1 ≤ ns.length := by omega
          have hl1 : (((ns.length : Nat) : Int) == 1) = false := beq_false_of_ne (by omega)
          have hl3 : (((ns.length : Nat) : Int) == 3) = false := beq_false_of_ne (by omega)
          have hlg : ¬ (1 : Int) ≤ ((ns.length : Nat) : Int) := by omega
          by_cases qs : ((bAt L 0).toList == [115, 116, 101, 112]) = true
          case pos =>
            have rarm : ((bAt L 0).toList == [97, 114, 109]) = false := by rw [beq_iff_eq.1 qs]; rfl
            have rcrash : ((bAt L 0).toList == [99, 114, 97, 115, 104]) = false := by rw [beq_iff_eq.1 qs]; rfl
            have rrot : ((bAt L 0).toList == [114, 111, 116]) = false := by rw [beq_iff_eq.1 qs]; rfl
            have HNO : Hid (plF L = ln0) := by
              show _ = _
              rw [HV.out]; unfold plV; rw [if_pos qs, if_neg (fun h => l1 h.1)]
            clear l1 l3 lg
            have x0 := X.out.fz
            have y0 := X.out.cl 0 _ rfl
            have y1 := X.out.cl 1 _ rfl
            have y2 := X.out.cl 2 _ rfl
            have y3 := X.out.cl 3 _ rfl
            have y4 := X.out.cl 4 _ rfl
            go_wp2_with fail
            obtain ⟨b9, x9, o9, n9⟩ := ln_box BA.out X.out 0 false ⟨#[]⟩ (vo := .slice none 0 0) (vn := .slice none 0 0) (show OwnO _ _ _ _ [] from World.ownsRow_nil _ _ _ _) (show Own _ _ _ _ _ [] from World.ownsRow_nil _ _ _ _)
            have d0 := x9.cl 0 _ rfl
            have d1 := x9.cl 1 _ rfl
            have d2 := x9.cl 2 _ rfl
            have d3 := x9.cl 3 _ rfl
            have d4 := x9.cl 4 _ rfl
            exact bodyPost_ret (v := .agg #[.int .i64 0, .slice none 0 0, .bool false, .string ⟨#[]⟩, .slice none 0 0]) (by simp [results, Tryz.results4, go_sem, d0, d1, d2, d3, d4]) rfl (by rw [HNO.out]; exact ⟨_, _, rfl, o9, n9, b9⟩)
          replace qs : ((bAt L 0).toList == [115, 116, 101, 112]) = false := by simpa using qs
          by_cases qa : ((bAt L 0).toList == [97, 114, 109]) = true
          case pos =>
            have rcrash : ((bAt L 0).toList == [99, 114, 97, 115, 104]) = false := by rw [beq_iff_eq.1 qa]; rfl
            have rrot : ((bAt L 0).toList == [114, 111, 116]) = false := by rw [beq_iff_eq.1 qa]; rfl
            have HNO : Hid (plF L = ln0) := by
              show _ = _
              rw [HV.out]; unfold plV; rw [if_neg (by rw [qs]; decide), if_pos qa, if_neg (fun h => lg h.1)]
            clear l1 l3 lg
            have x0 := X.out.fz
            have y0 := X.out.cl 0 _ rfl
            have y1 := X.out.cl 1 _ rfl
            have y2 := X.out.cl 2 _ rfl
            have y3 := X.out.cl 3 _ rfl
            have y4 := X.out.cl 4 _ rfl
            go_wp2_with fail
            obtain ⟨b9, x9, o9, n9⟩ := ln_box BA.out X.out 0 false ⟨#[]⟩ (vo := .slice none 0 0) (vn := .slice none 0 0) (show OwnO _ _ _ _ [] from World.ownsRow_nil _ _ _ _) (show Own _ _ _ _ _ [] from World.ownsRow_nil _ _ _ _)
            have d0 := x9.cl 0 _ rfl
            have d1 := x9.cl 1 _ rfl
            have d2 := x9.cl 2 _ rfl
            have d3 := x9.cl 3 _ rfl
            have d4 := x9.cl 4 _ rfl
            exact bodyPost_ret (v := .agg #[.int .i64 0, .slice none 0 0, .bool false, .string ⟨#[]⟩, .slice none 0 0]) (by simp [results, Tryz.results4, go_sem, d0, d1, d2, d3, d4]) rfl (by rw [HNO.out]; exact ⟨_, _, rfl, o9, n9, b9⟩)
          replace qa : ((bAt L 0).toList == [97, 114, 109]) = false := by simpa using qa
          by_cases qc : ((bAt L 0).toList == [99, 114, 97, 115, 104]) = true
          case pos =>
            have HNO : Hid (plF L = ⟨9, [], false, ⟨#[]⟩, ns⟩) := by
              show _ = _
              rw [HV.out]; unfold plV; rw [if_neg (by rw [qs]; decide), if_neg (by rw [qa]; decide), if_pos qc]
            clear l1 l3 lg
            have x0 := X.out.fz
            have y0 := X.out.cl 0 _ rfl
            have y1 := X.out.cl 1 _ rfl
            have y2 := X.out.cl 2 _ rfl
            have y3 := X.out.cl 3 _ rfl
            have y4 := X.out.cl 4 _ rfl
            go_wp2_with fail
            obtain ⟨b9, x9, o9, n9⟩ := ln_box BA.out X.out 9 false ⟨#[]⟩ (vo := .slice none 0 0) (vn := .slice an ns.length cn) (show OwnO _ _ _ _ [] from World.ownsRow_nil _ _ _ _) (N5.out)
            have d0 := x9.cl 0 _ rfl
            have d1 := x9.cl 1 _ rfl
            have d2 := x9.cl 2 _ rfl
            have d3 := x9.cl 3 _ rfl
            have d4 := x9.cl 4 _ rfl
            exact bodyPost_ret (v := .agg #[.int .i64 9, .slice none 0 0, .bool false, .string ⟨#[]⟩, .slice an ns.length cn]) (by simp [results, Tryz.results4, go_sem, d0, d1, d2, d3, d4]) rfl (by rw [HNO.out]; exact ⟨_, _, rfl, o9, n9, b9⟩)
          replace qc : ((bAt L 0).toList == [99, 114, 97, 115, 104]) = false := by simpa using qc
          by_cases qr : ((bAt L 0).toList == [114, 111, 116]) = true
          case pos =>
            have HNO : Hid (plF L = ln0) := by
              show _ = _
              rw [HV.out]; unfold plV; rw [if_neg (by rw [qs]; decide), if_neg (by rw [qa]; decide), if_neg (by rw [qc]; decide), if_pos qr, if_neg (fun h => l3 h.1)]
            clear l1 l3 lg
            have x0 := X.out.fz
            have y0 := X.out.cl 0 _ rfl
            have y1 := X.out.cl 1 _ rfl
            have y2 := X.out.cl 2 _ rfl
            have y3 := X.out.cl 3 _ rfl
            have y4 := X.out.cl 4 _ rfl
            go_wp2_with fail
            obtain ⟨b9, x9, o9, n9⟩ := ln_box BA.out X.out 0 false ⟨#[]⟩ (vo := .slice none 0 0) (vn := .slice none 0 0) (show OwnO _ _ _ _ [] from World.ownsRow_nil _ _ _ _) (show Own _ _ _ _ _ [] from World.ownsRow_nil _ _ _ _)
            have d0 := x9.cl 0 _ rfl
            have d1 := x9.cl 1 _ rfl
            have d2 := x9.cl 2 _ rfl
            have d3 := x9.cl 3 _ rfl
            have d4 := x9.cl 4 _ rfl
            exact bodyPost_ret (v := .agg #[.int .i64 0, .slice none 0 0, .bool false, .string ⟨#[]⟩, .slice none 0 0]) (by simp [results, Tryz.results4, go_sem, d0, d1, d2, d3, d4]) rfl (by rw [HNO.out]; exact ⟨_, _, rfl, o9, n9, b9⟩)
          replace qr : ((bAt L 0).toList == [114, 111, 116]) = false := by simpa using qr
          have HNO : Hid (plF L = ln0) := by
            show _ = _
            rw [HV.out]; unfold plV; rw [if_neg (by rw [qs]; decide), if_neg (by rw [qa]; decide), if_neg (by rw [qc]; decide), if_neg (by rw [qr]; decide)]
          clear l1 l3 lg
          have x0 := X.out.fz
          have y0 := X.out.cl 0 _ rfl
          have y1 := X.out.cl 1 _ rfl
          have y2 := X.out.cl 2 _ rfl
          have y3 := X.out.cl 3 _ rfl
          have y4 := X.out.cl 4 _ rfl
          go_wp2_with fail
          obtain ⟨b9, x9, o9, n9⟩ := ln_box BA.out X.out 0 false ⟨#[]⟩ (vo := .slice none 0 0) (vn := .slice none 0 0) (show OwnO _ _ _ _ [] from World.ownsRow_nil _ _ _ _) (show Own _ _ _ _ _ [] from World.ownsRow_nil _ _ _ _)
          have d0 := x9.cl 0 _ rfl
          have d1 := x9.cl 1 _ rfl
          have d2 := x9.cl 2 _ rfl
          have d3 := x9.cl 3 _ rfl
          have d4 := x9.cl 4 _ rfl
          exact bodyPost_ret (v := .agg #[.int .i64 0, .slice none 0 0, .bool false, .string ⟨#[]⟩, .slice none 0 0]) (by simp [results, Tryz.results4, go_sem, d0, d1, d2, d3, d4]) rfl (by rw [HNO.out]; exact ⟨_, _, rfl, o9, n9, b9⟩)
      · rw [if_neg hc, show L.length - 1 = 0 by omega] at HC
        have hL1e : L.length = 1 := by omega
        go_wp2_with fail
        clear hL1e
        refine HC.out.mono ?_
        rintro e w5 ⟨vn, ns, ok, rfl, n5, hn5, b5, hok, hns⟩
        obtain ⟨an, cn, rfl, hcn⟩ := n5.cells9
        replace X := hd9 (X.out.below b5)
        replace BA := hd9 (BA.out.trans (b5.mono (by simp; omega)))
        replace f0c := (b5.cell (p := ⟨g, 0, none⟩) hg2).trans f0c
        have N5 := hd9 (ownsRow_mono9 n5 (lo' := w.heap.size + 1) (by simp; omega))
        have HQ := hd9 (And.intro hok hns)
        rw [List.length_drop] at hn5
        clear HC n5 b5 hok hns
        cases ok with
        | false =>
          have HNO : Hid (plF L = ln0) := by
            show _ = _
            rw [HP2.out]; unfold plN
            cases hx : numsO (L.drop 1) with
            | none => rfl
            | some x =>
              have h9 := HQ.out.1
              rw [hx] at h9
              show (if _ then _ else _) = _
              rw [if_neg (of_decide_eq_false h9.symm)]
          clear HP2 HQ
          have x0 := X.out.fz
          have y0 := X.out.cl 0 _ rfl
          have y1 := X.out.cl 1 _ rfl
          have y2 := X.out.cl 2 _ rfl
          have y3 := X.out.cl 3 _ rfl
          have y4 := X.out.cl 4 _ rfl
          go_wp2_with fail
          obtain ⟨b9, x9, o9, n9⟩ := ln_box BA.out X.out 0 false ⟨#[]⟩ (vo := .slice none 0 0) (vn := .slice none 0 0) (show OwnO _ _ _ _ [] from World.ownsRow_nil _ _ _ _) (show Own _ _ _ _ _ [] from World.ownsRow_nil _ _ _ _)
          have d0 := x9.cl 0 _ rfl
          have d1 := x9.cl 1 _ rfl
          have d2 := x9.cl 2 _ rfl
          have d3 := x9.cl 3 _ rfl
          have d4 := x9.cl 4 _ rfl
          exact bodyPost_ret (v := .agg #[.int .i64 0, .slice none 0 0, .bool false, .string ⟨#[]⟩, .slice none 0 0]) (by simp [results, Tryz.results4, go_sem, d0, d1, d2, d3, d4]) rfl (by rw [HNO.out]; exact ⟨_, _, rfl, o9, n9, b9⟩)
        | true =>
          have HV : Hid (plF L = plV (bAt L 0) ns) := by
            show _ = _
            rw [HP2.out]; unfold plN
            have h9 := HQ.out.1.symm
            rw [Bool.and_eq_true] at h9
            obtain ⟨x, hx⟩ := Option.isSome_iff_exists.1 h9.1
            rw [hx]
            show (if _ then _ else _) = _
            rw [if_pos (of_decide_eq_true h9.2), HQ.out.2 x hx]
          clear HP2 HQ
          have l1 : ¬ ns.length = 1 := by omega
          have l3 : ¬ ns.length = 3 := by omega
          have lg : ¬ 1 ≤ ns.length := by omega
          have hl1 : (((ns.length : Nat) : Int) == 1) = false := beq_false_of_ne (by omega)
          have hl3 : (((ns.length : Nat) : Int) == 3) = false := beq_false_of_ne (by omega)
          have hlg : ¬ (1 : Int) ≤ ((ns.length : Nat) : Int) := by omega
          by_cases qs : ((bAt L 0).toList == [115, 116, 101, 112]) = true
          case pos =>
            have rarm : ((bAt L 0).toList == [97, 114, 109]) = false := by rw [beq_iff_eq.1 qs]; rfl
            have rcrash : ((bAt L 0).toList == [99, 114, 97, 115, 104]) = false := by rw [beq_iff_eq.1 qs]; rfl
            have rrot : ((bAt L 0).toList == [114, 111, 116]) = false := by rw [beq_iff_eq.1 qs]; rfl
            have HNO : Hid (plF L = ln0) := by
              show _ = _
              rw [HV.out]; unfold plV; rw [if_pos qs, if_neg (fun h => l1 h.1)]
            clear l1 l3 lg
            have x0 := X.out.fz
            have y0 := X.out.cl 0 _ rfl
            have y1 := X.out.cl 1 _ rfl
            have y2 := X.out.cl 2 _ rfl
            have y3 := X.out.cl 3 _ rfl
            have y4 := X.out.cl 4 _ rfl
            go_wp2_with fail
            obtain ⟨b9, x9, o9, n9⟩ := ln_box BA.out X.out 0 false ⟨#[]⟩ (vo := .slice none 0 0) (vn := .slice none 0 0) (show OwnO _ _ _ _ [] from World.ownsRow_nil _ _ _ _) (show Own _ _ _ _ _ [] from World.ownsRow_nil _ _ _ _)
            have d0 := x9.cl 0 _ rfl
            have d1 := x9.cl 1 _ rfl
            have d2 := x9.cl 2 _ rfl
            have d3 := x9.cl 3 _ rfl
            have d4 := x9.cl 4 _ rfl
            exact bodyPost_ret (v := .agg #[.int .i64 0, .slice none 0 0, .bool false, .string ⟨#[]⟩, .slice none 0 0]) (by simp [results, Tryz.results4, go_sem, d0, d1, d2, d3, d4]) rfl (by rw [HNO.out]; exact ⟨_, _, rfl, o9, n9, b9⟩)
          replace qs : ((bAt L 0).toList == [115, 116, 101, 112]) = false := by simpa using qs
          by_cases qa : ((bAt L 0).toList == [97, 114, 109]) = true
          case pos =>
            have rcrash : ((bAt L 0).toList == [99, 114, 97, 115, 104]) = false := by rw [beq_iff_eq.1 qa]; rfl
            have rrot : ((bAt L 0).toList == [114, 111, 116]) = false := by rw [beq_iff_eq.1 qa]; rfl
            have HNO : Hid (plF L = ln0) := by
              show _ = _
              rw [HV.out]; unfold plV; rw [if_neg (by rw [qs]; decide), if_pos qa, if_neg (fun h => lg h.1)]
            clear l1 l3 lg
            have x0 := X.out.fz
            have y0 := X.out.cl 0 _ rfl
            have y1 := X.out.cl 1 _ rfl
            have y2 := X.out.cl 2 _ rfl
            have y3 := X.out.cl 3 _ rfl
            have y4 := X.out.cl 4 _ rfl
            go_wp2_with fail
            obtain ⟨b9, x9, o9, n9⟩ := ln_box BA.out X.out 0 false ⟨#[]⟩ (vo := .slice none 0 0) (vn := .slice none 0 0) (show OwnO _ _ _ _ [] from World.ownsRow_nil _ _ _ _) (show Own _ _ _ _ _ [] from World.ownsRow_nil _ _ _ _)
            have d0 := x9.cl 0 _ rfl
            have d1 := x9.cl 1 _ rfl
            have d2 := x9.cl 2 _ rfl
            have d3 := x9.cl 3 _ rfl
            have d4 := x9.cl 4 _ rfl
            exact bodyPost_ret (v := .agg #[.int .i64 0, .slice none 0 0, .bool false, .string ⟨#[]⟩, .slice none 0 0]) (by simp [results, Tryz.results4, go_sem, d0, d1, d2, d3, d4]) rfl (by rw [HNO.out]; exact ⟨_, _, rfl, o9, n9, b9⟩)
          replace qa : ((bAt L 0).toList == [97, 114, 109]) = false := by simpa using qa
          by_cases qc : ((bAt L 0).toList == [99, 114, 97, 115, 104]) = true
          case pos =>
            have HNO : Hid (plF L = ⟨9, [], false, ⟨#[]⟩, ns⟩) := by
              show _ = _
              rw [HV.out]; unfold plV; rw [if_neg (by rw [qs]; decide), if_neg (by rw [qa]; decide), if_pos qc]
            clear l1 l3 lg
            have x0 := X.out.fz
            have y0 := X.out.cl 0 _ rfl
            have y1 := X.out.cl 1 _ rfl
            have y2 := X.out.cl 2 _ rfl
            have y3 := X.out.cl 3 _ rfl
            have y4 := X.out.cl 4 _ rfl
            go_wp2_with fail
            obtain ⟨b9, x9, o9, n9⟩ := ln_box BA.out X.out 9 false ⟨#[]⟩ (vo := .slice none 0 0) (vn := .slice an ns.length cn) (show OwnO _ _ _ _ [] from World.ownsRow_nil _ _ _ _) (N5.out)
            have d0 := x9.cl 0 _ rfl
            have d1 := x9.cl 1 _ rfl
            have d2 := x9.cl 2 _ rfl
            have d3 := x9.cl 3 _ rfl
            have d4 := x9.cl 4 _ rfl
            exact bodyPost_ret (v := .agg #[.int .i64 9, .slice none 0 0, .bool false, .string ⟨#[]⟩, .slice an ns.length cn]) (by simp [results, Tryz.results4, go_sem, d0, d1, d2, d3, d4]) rfl (by rw [HNO.out]; exact ⟨_, _, rfl, o9, n9, b9⟩)
          replace qc : ((bAt L 0).toList == [99, 114, 97, 115, 104]) = false := by simpa using qc
          by_cases qr : ((bAt L 0).toList == [114, 111, 116]) = true
          case pos =>
            have HNO : Hid (plF L = ln0) := by
              show _ = _
              rw [HV.out]; unfold plV; rw [if_neg (by rw [qs]; decide), if_neg (by rw [qa]; decide), if_neg (by rw [qc]; decide), if_pos qr, if_neg (fun h => l3 h.1)]
            clear l1 l3 lg
            have x0 := X.out.fz
            have y0 := X.out.cl 0 _ rfl
            have y1 := X.out.cl 1 _ rfl
            have y2 := X.out.cl 2 _ rfl
            have y3 := X.out.cl 3 _ rfl
            have y4 := X.out.cl 4 _ rfl
            go_wp2_with fail
            obtain ⟨b9, x9, o9, n9⟩ := ln_box BA.out X.out 0 false ⟨#[]⟩ (vo := .slice none 0 0) (vn := .slice none 0 0) (show OwnO _ _ _ _ [] from World.ownsRow_nil _ _ _ _) (show Own _ _ _ _ _ [] from World.ownsRow_nil _ _ _ _)
            have d0 := x9.cl 0 _ rfl
            have d1 := x9.cl 1 _ rfl
            have d2 := x9.cl 2 _ rfl
            have d3 := x9.cl 3 _ rfl
            have d4 := x9.cl 4 _ rfl
            exact bodyPost_ret (v := .agg #[.int .i64 0, .slice none 0 0, .bool false, .string ⟨#[]⟩, .slice none 0 0]) (by simp [results, Tryz.results4, go_sem, d0, d1, d2, d3, d4]) rfl (by rw [HNO.out]; exact ⟨_, _, rfl, o9, n9, b9⟩)
          replace qr : ((bAt L 0).toList == [114, 111, 116]) = false := by simpa using qr
          have HNO : Hid (plF L = ln0) := by
            show _ = _
            rw [HV.out]; unfold plV; rw [if_neg (by rw [qs]; decide), if_neg (by rw [qa]; decide), if_neg (by rw [qc]; decide), if_neg (by rw [qr]; decide)]
          clear l1 l3 lg
          have x0 := X.out.fz
          have y0 := X.out.cl 0 _ rfl
          have y1 := X.out.cl 1 _ rfl
          have y2 := X.out.cl 2 _ rfl
          have y3 := X.out.cl 3 _ rfl
          have y4 := X.out.cl 4 _ rfl
          go_wp2_with fail
          obtain ⟨b9, x9, o9, n9⟩ := ln_box BA.out X.out 0 false ⟨#[]⟩ (vo := .slice none 0 0) (vn := .slice none 0 0) (show OwnO _ _ _ _ [] from World.ownsRow_nil _ _ _ _) (show Own _ _ _ _ _ [] from World.ownsRow_nil _ _ _ _)
          have d0 := x9.cl 0 _ rfl
          have d1 := x9.cl 1 _ rfl
          have d2 := x9.cl 2 _ rfl
          have d3 := x9.cl 3 _ rfl
          have d4 := x9.cl 4 _ rfl
          exact bodyPost_ret (v := .agg #[.int .i64 0, .slice none 0 0, .bool false, .string ⟨#[]⟩, .slice none 0 0]) (by simp [results, Tryz.results4, go_sem, d0, d1, d2, d3, d4]) rfl (by rw [HNO.out]; exact ⟨_, _, rfl, o9, n9, b9⟩)
    have hn1 : (((L.length : Nat) : Int) == 1) = false := beq_false_of_ne (by omega)
    have HP2 : Hid (plF L = pl2 L) := by
      show _ = _
      rw [HP1.out]; unfold pl1; rw [if_neg (fun h => n1 h.1), if_neg (fun h => n1 h.1), if_neg (fun h => n1 h.1), if_neg (fun h => n1 h.1), if_neg (fun h => n1 h.1)]
    clear HP1
    by_cases n2 : L.length = 2
    case pos =>
      have hn2 : (((L.length : Nat) : Int) == 2) = true := beq_iff_eq.2 (by omega)
      have hp1 : (1 : Int) < ((L.length : Nat) : Int) := by omega
      have f1c := HCL.out 1 (by omega)
      have HN2 := hd9 n2
      have nL : 2 ≤ L.length := by omega
      clear n1 n2
      by_cases q1 : ((bAt L 0).toList == [103, 101, 116]) = true
      case pos =>
        have HNO : Hid (plF L = ⟨3, [], false, bAt L 1, []⟩) := by
          show _ = _
          rw [HP2.out]; unfold pl2; rw [if_pos ⟨HN2.out, q1⟩]
        clear HP2 HN2 RL HCL HSZ
        have x0 := X.out.fz
        have y0 := X.out.cl 0 _ rfl
        have y1 := X.out.cl 1 _ rfl
        have y2 := X.out.cl 2 _ rfl
        have y3 := X.out.cl 3 _ rfl
        have y4 := X.out.cl 4 _ rfl
        go_wp2_with fail
        obtain ⟨b9, x9, o9, n9⟩ := ln_box BA.out X.out 3 false (bAt L 1) (vo := .slice none 0 0) (vn := .slice none 0 0) (show OwnO _ _ _ _ [] from World.ownsRow_nil _ _ _ _) (show Own _ _ _ _ _ [] from World.ownsRow_nil _ _ _ _)
        have d0 := x9.cl 0 _ rfl
        have d1 := x9.cl 1 _ rfl
        have d2 := x9.cl 2 _ rfl
        have d3 := x9.cl 3 _ rfl
        have d4 := x9.cl 4 _ rfl
        exact bodyPost_ret (v := .agg #[.int .i64 3, .slice none 0 0, .bool false, .string (bAt L 1), .slice none 0 0]) (by simp [results, Tryz.results4, go_sem, d0, d1, d2, d3, d4]) rfl (by rw [HNO.out]; exact ⟨_, _, rfl, o9, n9, b9⟩)
      replace q1 : ((bAt L 0).toList == [103, 101, 116]) = false := by simpa using q1
      by_cases q2 : ((bAt L 0).toList == [108, 105, 115, 116]) = true
      case pos =>
        have HNO : Hid (plF L = ⟨4, [], false, bAt L 1, []⟩) := by
          show _ = _
          rw [HP2.out]; unfold pl2; rw [if_neg (fun h => by rw [q1] at h; cases h.2), if_pos ⟨HN2.out, q2⟩]
        clear HP2 HN2 RL HCL HSZ
        have x0 := X.out.fz
        have y0 := X.out.cl 0 _ rfl
        have y1 := X.out.cl 1 _ rfl
        have y2 := X.out.cl 2 _ rfl
        have y3 := X.out.cl 3 _ rfl
        have y4 := X.out.cl 4 _ rfl
        go_wp2_with fail
        obtain ⟨b9, x9, o9, n9⟩ := ln_box BA.out X.out 4 false (bAt L 1) (vo := .slice none 0 0) (vn := .slice none 0 0) (show OwnO _ _ _ _ [] from World.ownsRow_nil _ _ _ _) (show Own _ _ _ _ _ [] from World.ownsRow_nil _ _ _ _)
        have d0 := x9.cl 0 _ rfl
        have d1 := x9.cl 1 _ rfl
        have d2 := x9.cl 2 _ rfl
        have d3 := x9.cl 3 _ rfl
        have d4 := x9.cl 4 _ rfl
        exact bodyPost_ret (v := .agg #[.int .i64 4, .slice none 0 0, .bool false, .string (bAt L 1), .slice none 0 0]) (by simp [results, Tryz.results4, go_sem, d0, d1, d2, d3, d4]) rfl (by rw [HNO.out]; exact ⟨_, _, rfl, o9, n9, b9⟩)
      replace q2 : ((bAt L 0).toList == [108, 105, 115, 116]) = false := by simpa using q2
      replace HP2 : Hid (plF L = plN L) := by
        show _ = _
        rw [HP2.out]; unfold pl2; rw [if_neg (fun h => by rw [q1] at h; cases h.2), if_neg (fun h => by rw [q2] at h; cases h.2)]
      clear HN2 f1c
      have RD : RdB (w3.alloc (.cells #[.int .i64 oo.kind, .string oo.path, .string oo.data, .int .i64 oo.ver, .bool oo.seq] 41)) (if c = 1 then .slice (some ⟨g, 0, none⟩) (L.length - 1) (c - 1) else .slice (some ⟨g, 0 + 1, none⟩) (L.length - 1) (c - 1)) (L.drop 1) := by
        have h9 := rdB_sub RL.out 1 (L.length - 1) (by omega)
        rw [List.take_of_length_le (by rw [List.length_drop]; exact Nat.le_refl _)] at h9
        by_cases hc : c = 1
        · rw [if_pos hc]
          have hz : L.drop 1 = [] := List.drop_of_length_le (by omega)
          rw [hz, show L.length - 1 = 0 by omega]
          exact ⟨_, _, rfl, Nat.zero_le _, by unfold maxLen; omega, .inl rfl⟩
        · rw [if_neg hc]; exact h9
      have HC := hd9 (l6Nums_any (w3.alloc (.cells #[.int .i64 oo.kind, .string oo.path, .string oo.data, .int .i64 oo.ver, .bool oo.seq] 41)) _ (L.drop 1) RD (by rw [List.length_drop]; omega) (HSZ.out.drop 1))
      clear RD HCL HSZ RL
      rw [if_neg (show ¬ c = 1 by omega)] at HC
      go_wp2_with fail
      refine HC.out.mono ?_
      rintro e w5 ⟨vn, ns, ok, rfl, n5, hn5, b5, hok, hns⟩
      obtain ⟨an, cn, rfl, hcn⟩ := n5.cells9
      replace X := hd9 (X.out.below b5)
      replace BA := hd9 (BA.out.trans (b5.mono (by simp; omega)))
      replace f0c := (b5.cell (p := ⟨g, 0, none⟩) hg2).trans f0c
      have N5 := hd9 (ownsRow_mono9 n5 (lo' := w.heap.size + 1) (by simp; omega))
      have HQ := hd9 (And.intro hok hns)
      rw [List.length_drop] at hn5
      clear HC n5 b5 hok hns
      cases ok with
      | false =>
        have HNO : Hid (plF L = ln0) := by
          show _ = _
          rw [HP2.out]; unfold plN
          cases hx : numsO (L.drop 1) with
          | none => rfl
          | some x =>
            have h9 := HQ.out.1
            rw [hx] at h9
            show (if _ then _ else _) = _
            rw [if_neg (of_decide_eq_false h9.symm)]
        clear HP2 HQ
        have x0 := X.out.fz
        have y0 := X.out.cl 0 _ rfl
        have y1 := X.out.cl 1 _ rfl
        have y2 := X.out.cl 2 _ rfl
        have y3 := X.out.cl 3 _ rfl
        have y4 := X.out.cl 4 _ rfl
        go_wp2_with fail
        obtain ⟨b9, x9, o9, n9⟩ := ln_box BA.out X.out 0 false ⟨#[]⟩ (vo := .slice none 0 0) (vn := .slice none 0 0) (show OwnO _ _ _ _ [] from World.ownsRow_nil _ _ _ _) (show Own _ _ _ _ _ [] from World.ownsRow_nil _ _ _ _)
        have d0 := x9.cl 0 _ rfl
        have d1 := x9.cl 1 _ rfl
        have d2 := x9.cl 2 _ rfl
        have d3 := x9.cl 3 _ rfl
        have d4 := x9.cl 4 _ rfl
        exact bodyPost_ret (v := .agg #[.int .i64 0, .slice none 0 0, .bool false, .string ⟨#[]⟩, .slice none 0 0]) (by simp [results, Tryz.results4, go_sem, d0, d1, d2, d3, d4]) rfl (by rw [HNO.out]; exact ⟨_, _, rfl, o9, n9, b9⟩)
      | true =>
        have HV : Hid (plF L = plV (bAt L 0) ns) := by
          show _ = _
          rw [HP2.out]; unfold plN
          have h9 := HQ.out.1.symm
          rw [Bool.and_eq_true] at h9
          obtain ⟨x, hx⟩ := Option.isSome_iff_exists.1 h9.1
          rw [hx]
          show (if _ then _ else _) = _
          rw [if_pos (of_decide_eq_true h9.2), HQ.out.2 x hx]
        clear HP2 HQ
        by_cases qs : ((bAt L 0).toList == [115, 116, 101, 112]) = true
        case pos =>
          have rarm : ((bAt L 0).toList == [97, 114, 109]) = false := by rw [beq_iff_eq.1 qs]; rfl
          have rcrash : ((bAt L 0).toList == [99, 114, 97, 115, 104]) = false := by rw [beq_iff_eq.1 qs]; rfl
          have rrot : ((bAt L 0).toList == [114, 111, 116]) = false := by rw [beq_iff_eq.1 qs]; rfl
          by_cases l1 : ns.length = 1
          case pos =>
            obtain ⟨gn, rfl, hcells⟩ := hcn (by omega)
            have z0 := hcells 0 (by omega)
            have hl1 : (((ns.length : Nat) : Int) == 1) = true := beq_iff_eq.2 (by omega)
            have hl0 : (0 : Int) < ((ns.length : Nat) : Int) := by omega
            cases hb : btw (nA ns 0) 1 1000 with
            | true =>
              have HNO : Hid (plF L = ⟨7, [], false, ⟨#[]⟩, ns⟩) := by
                show _ = _
                rw [HV.out]; unfold plV; rw [if_pos qs, if_pos ⟨l1, hb⟩]
              clear l1
              have x0 := X.out.fz
              have y0 := X.out.cl 0 _ rfl
              have y1 := X.out.cl 1 _ rfl
              have y2 := X.out.cl 2 _ rfl
              have y3 := X.out.cl 3 _ rfl
              have y4 := X.out.cl 4 _ rfl
              go_wp2_with fail
              refine (l6Between_any _ _ _ _).mono ?_
              rintro e9 w9 ⟨rfl, hw9⟩
              subst hw9
              go_wp2_with fail
              obtain ⟨b9, x9, o9, n9⟩ := ln_box BA.out X.out 7 false ⟨#[]⟩ (vo := .slice none 0 0) (vn := .slice (some ⟨gn, 0, none⟩) ns.length cn) (show OwnO _ _ _ _ [] from World.ownsRow_nil _ _ _ _) (N5.out)
              have d0 := x9.cl 0 _ rfl
              have d1 := x9.cl 1 _ rfl
              have d2 := x9.cl 2 _ rfl
              have d3 := x9.cl 3 _ rfl
              have d4 := x9.cl 4 _ rfl
              exact bodyPost_ret (v := .agg #[.int .i64 7, .slice none 0 0, .bool false, .string ⟨#[]⟩, .slice (some ⟨gn, 0, none⟩) ns.length cn]) (by simp [results, Tryz.results4, go_sem, d0, d1, d2, d3, d4]) rfl (by rw [HNO.out]; exact ⟨_, _, rfl, o9, n9, b9⟩)
            | false =>
              have HNO : Hid (plF L = ln0) := by
                show _ = _
                rw [HV.out]; unfold plV; rw [if_pos qs, if_neg (fun h => by rw [hb] at h; cases h.2)]
              clear l1
              have x0 := X.out.fz
              have y0 := X.out.cl 0 _ rfl
              have y1 := X.out.cl 1 _ rfl
              have y2 := X.out.cl 2 _ rfl
              have y3 := X.out.cl 3 _ rfl
              have y4 := X.out.cl 4 _ rfl
              go_wp2_with fail
              refine (l6Between_any _ _ _ _).mono ?_
              rintro e9 w9 ⟨rfl, hw9⟩
              subst hw9
              go_wp2_with fail
              obtain ⟨b9, x9, o9, n9⟩ := ln_box BA.out X.out 0 false ⟨#[]⟩ (vo := .slice none 0 0) (vn := .slice none 0 0) (show OwnO _ _ _ _ [] from World.ownsRow_nil _ _ _ _) (show Own _ _ _ _ _ [] from World.ownsRow_nil _ _ _ _)
              have d0 := x9.cl 0 _ rfl
              have d1 := x9.cl 1 _ rfl
              have d2 := x9.cl 2 _ rfl
              have d3 := x9.cl 3 _ rfl
              have d4 := x9.cl 4 _ rfl
              exact bodyPost_ret (v := .agg #[.int .i64 0, .slice none 0 0, .bool false, .string ⟨#[]⟩, .slice none 0 0]) (by simp [results, Tryz.results4, go_sem, d0, d1, d2, d3, d4]) rfl (by rw [HNO.out]; exact ⟨_, _, rfl, o9, n9, b9⟩)
          have hl1 : (((ns.length : Nat) : Int) == 1) = false := beq_false_of_ne (by omega)
          have HNO : Hid (plF L = ln0) := by
            show _ = _
            rw [HV.out]; unfold plV; rw [if_pos qs, if_neg (fun h => l1 h.1)]
          clear l1
          have x0 := X.out.fz
          have y0 := X.out.cl 0 _ rfl
          have y1 := X.out.cl 1 _ rfl
          have y2 := X.out.cl 2 _ rfl
          have y3 := X.out.cl 3 _ rfl
          have y4 := X.out.cl 4 _ rfl
          go_wp2_with fail
          obtain ⟨b9, x9, o9, n9⟩ := ln_box BA.out X.out 0 false ⟨#[]⟩ (vo := .slice none 0 0) (vn := .slice none 0 0) (show OwnO _ _ _ _ [] from World.ownsRow_nil _ _ _ _) (show Own _ _ _ _ _ [] from World.ownsRow_nil _ _ _ _)
          have d0 := x9.cl 0 _ rfl
          have d1 := x9.cl 1 _ rfl
          have d2 := x9.cl 2 _ rfl
          have d3 := x9.cl 3 _ rfl
          have d4 := x9.cl 4 _ rfl
          exact bodyPost_ret (v := .agg #[.int .i64 0, .slice none 0 0, .bool false, .string ⟨#[]⟩, .slice none 0 0]) (by simp [results, Tryz.results4, go_sem, d0, d1, d2, d3, d4]) rfl (by rw [HNO.out]; exact ⟨_, _, rfl, o9, n9, b9⟩)
        replace qs : ((bAt L 0).toList == [115, 116, 101, 112]) = false := by simpa using qs
        by_cases qa : ((bAt L 0).toList == [97, 114, 109]) = true
        case pos =>
          have rcrash : ((bAt L 0).toList == [99, 114, 97, 115, 104]) = false := by rw [beq_iff_eq.1 qa]; rfl
          have rrot : ((bAt L 0).toList == [114, 111, 116]) = false := by rw [beq_iff_eq.1 qa]; rfl
          by_cases l1 : 1 ≤ ns.length
          case pos =>
            obtain ⟨gn, rfl, hcells⟩ := hcn (by omega)
            have z0 := hcells 0 (by omega)
            have hl1 : (1 : Int) ≤ ((ns.length : Nat) : Int) := by omega
            have hl0 : (0 : Int) < ((ns.length : Nat) : Int) := by omega
            cases hb : btw (nA ns 0) 1 10000 with
            | true =>
              have HNO : Hid (plF L = ⟨8, [], false, ⟨#[]⟩, ns⟩) := by
                show _ = _
                rw [HV.out]; unfold plV; rw [if_neg (by rw [qs]; decide), if_pos qa, if_pos ⟨l1, hb⟩]
              have x0 := X.out.fz
              have y0 := X.out.cl 0 _ rfl
              have y1 := X.out.cl 1 _ rfl
              have y2 := X.out.cl 2 _ rfl
              have y3 := X.out.cl 3 _ rfl
              have y4 := X.out.cl 4 _ rfl
              go_wp2_with fail
              refine (l6Between_any _ _ _ _).mono ?_
              rintro e9 w9 ⟨rfl, hw9⟩
              subst hw9
              go_wp2_with fail
              obtain ⟨b9, x9, o9, n9⟩ := ln_box BA.out X.out 8 false ⟨#[]⟩ (vo := .slice none 0 0) (vn := .slice (some ⟨gn, 0, none⟩) ns.length cn) (show OwnO _ _ _ _ [] from World.ownsRow_nil _ _ _ _) (N5.out)
              have d0 := x9.cl 0 _ rfl
              have d1 := x9.cl 1 _ rfl
              have d2 := x9.cl 2 _ rfl
              have d3 := x9.cl 3 _ rfl
              have d4 := x9.cl 4 _ rfl
              exact bodyPost_ret (v := .agg #[.int .i64 8, .slice none 0 0, .bool false, .string ⟨#[]⟩, .slice (some ⟨gn, 0, none⟩) ns.length cn]) (by simp [results, Tryz.results4, go_sem, d0, d1, d2, d3, d4]) rfl (by rw [HNO.out]; exact ⟨_, _, rfl, o9, n9, b9⟩)
            | false =>
              have HNO : Hid (plF L = ln0) := by
                show _ = _
                rw [HV.out]; unfold plV; rw [if_neg (by rw [qs]; decide), if_pos qa, if_neg (fun h => by rw [hb] at h; cases h.2)]
              have x0 := X.out.fz
              have y0 := X.out.cl 0 _ rfl
              have y1 := X.out.cl 1 _ rfl
              have y2 := X.out.cl 2 _ rfl
              have y3 := X.out.cl 3 _ rfl
              have y4 := X.out.cl 4 _ rfl
              go_wp2_with fail
              refine (l6Between_any _ _ _ _).mono ?_
              rintro e9 w9 ⟨rfl, hw9⟩
              subst hw9
              go_wp2_with fail
              obtain ⟨b9, x9, o9, n9⟩ := ln_box BA.out X.out 0 false ⟨#[]⟩ (vo := .slice none 0 0) (vn := .slice none 0 0) (show OwnO _ _ _ _ [] from World.ownsRow_nil _ _ _ _) (show Own _ _ _ _ _ [] from World.ownsRow_nil _ _ _ _)
              have d0 := x9.cl 0 _ rfl
              have d1 := x9.cl 1 _ rfl
              have d2 := x9.cl 2 _ rfl
              have d3 := x9.cl 3 _ rfl
              have d4 := x9.cl 4 _ rfl
              exact bodyPost_ret (v := .agg #[.int .i64 0, .slice none 0 0, .bool false, .string ⟨#[]⟩, .slice none 0 0]) (by simp [results, Tryz.results4, go_sem, d0, d1, d2, d3, d4]) rfl (by rw [HNO.out]; exact ⟨_, _, rfl, o9, n9, b9⟩)
          have hl1 : ¬ (1 : Int) ≤ ((ns.length : Nat) : Int) := by omega
          have HNO : Hid (plF L = ln0) := by
            show _ = _
            rw [HV.out]; unfold plV; rw [if_neg (by rw [qs]; decide), if_pos qa, if_neg (fun h => l1 h.1)]
          have x0 := X.out.fz
          have y0 := X.out.cl 0 _ rfl
          have y1 := X.out.cl 1 _ rfl
          have y2 := X.out.cl 2 _ rfl
          have y3 := X.out.cl 3 _ rfl
          have y4 := X.out.cl 4 _ rfl
          go_wp2_with fail
          obtain ⟨b9, x9, o9, n9⟩ := ln_box BA.out X.out 0 false ⟨#[]⟩ (vo := .slice none 0 0) (vn := .slice none 0 0) (show OwnO _ _ _ _ [] from World.ownsRow_nil _ _ _ _) (show Own _ _ _ _ _ [] from World.ownsRow_nil _ _ _ _)
          have d0 := x9.cl 0 _ rfl
          have d1 := x9.cl 1 _ rfl
          have d2 := x9.cl 2 _ rfl
          have d3 := x9.cl 3 _ rfl
          have d4 := x9.cl 4 _ rfl
          exact bodyPost_ret (v := .agg #[.int .i64 0, .slice none 0 0, .bool false, .string ⟨#[]⟩, .slice none 0 0]) (by simp [results, Tryz.results4, go_sem, d0, d1, d2, d3, d4]) rfl (by rw [HNO.out]; exact ⟨_, _, rfl, o9, n9, b9⟩)
        replace qa : ((bAt L 0).toList == [97, 114, 109]) = false := by simpa using qa
        by_cases qc : ((bAt L 0).toList == [99, 114, 97, 115, 104]) = true
        case pos =>
          have HNO : Hid (plF L = ⟨9, [], false, ⟨#[]⟩, ns⟩) := by
            show _ = _
            rw [HV.out]; unfold plV; rw [if_neg (by rw [qs]; decide), if_neg (by rw [qa]; decide), if_pos qc]
          have x0 := X.out.fz
          have y0 := X.out.cl 0 _ rfl
          have y1 := X.out.cl 1 _ rfl
          have y2 := X.out.cl 2 _ rfl
          have y3 := X.out.cl 3 _ rfl
          have y4 := X.out.cl 4 _ rfl
          go_wp2_with fail
          obtain ⟨b9, x9, o9, n9⟩ := ln_box BA.out X.out 9 false ⟨#[]⟩ (vo := .slice none 0 0) (vn := .slice an ns.length cn) (show OwnO _ _ _ _ [] from World.ownsRow_nil _ _ _ _) (N5.out)
          have d0 := x9.cl 0 _ rfl
          have d1 := x9.cl 1 _ rfl
          have d2 := x9.cl 2 _ rfl
          have d3 := x9.cl 3 _ rfl
          have d4 := x9.cl 4 _ rfl
          exact bodyPost_ret (v := .agg #[.int .i64 9, .slice none 0 0, .bool false, .string ⟨#[]⟩, .slice an ns.length cn]) (by simp [results, Tryz.results4, go_sem, d0, d1, d2, d3, d4]) rfl (by rw [HNO.out]; exact ⟨_, _, rfl, o9, n9, b9⟩)
        replace qc : ((bAt L 0).toList == [99, 114, 97, 115, 104]) = false := by simpa using qc
        by_cases qr : ((bAt L 0).toList == [114, 111, 116]) = true
        case pos =>
          by_cases l1 : ns.length = 3
          case pos =>
            obtain ⟨gn, rfl, hcells⟩ := hcn (by omega)
            have z0 := hcells 0 (by omega)
            have z1 := hcells 1 (by omega)
            have z2 := hcells 2 (by omega)
            have hl1 : (((ns.length : Nat) : Int) == 3) = true := beq_iff_eq.2 (by omega)
            have hl0 : (0 : Int) < ((ns.length : Nat) : Int) := by omega
            have hl2 : (1 : Int) < ((ns.length : Nat) : Int) := by omega
            have hl3 : (2 : Int) < ((ns.length : Nat) : Int) := by omega
            cases hb0 : btw (nA ns 0) 0 1 with
            | false =>
              have HNO : Hid (plF L = ln0) := by
                show _ = _
                rw [HV.out]; unfold plV; rw [if_neg (by rw [qs]; decide), if_neg (by rw [qa]; decide), if_neg (by rw [qc]; decide), if_pos qr, if_neg (fun h => by rw [hb0] at h; cases h.2.1)]
              clear l1
              have x0 := X.out.fz
              have y0 := X.out.cl 0 _ rfl
              have y1 := X.out.cl 1 _ rfl
              have y2 := X.out.cl 2 _ rfl
              have y3 := X.out.cl 3 _ rfl
              have y4 := X.out.cl 4 _ rfl
              go_wp2_with fail
              refine (l6Between_any _ _ _ _).mono ?_
              rintro e9 w9 ⟨rfl, hw9⟩
              subst hw9
              go_wp2_with fail
              obtain ⟨b9, x9, o9, n9⟩ := ln_box BA.out X.out 0 false ⟨#[]⟩ (vo := .slice none 0 0) (vn := .slice none 0 0) (show OwnO _ _ _ _ [] from World.ownsRow_nil _ _ _ _) (show Own _ _ _ _ _ [] from World.ownsRow_nil _ _ _ _)
              have d0 := x9.cl 0 _ rfl
              have d1 := x9.cl 1 _ rfl
              have d2 := x9.cl 2 _ rfl
              have d3 := x9.cl 3 _ rfl
              have d4 := x9.cl 4 _ rfl
              exact bodyPost_ret (v := .agg #[.int .i64 0, .slice none 0 0, .bool false, .string ⟨#[]⟩, .slice none 0 0]) (by simp [results, Tryz.results4, go_sem, d0, d1, d2, d3, d4]) rfl (by rw [HNO.out]; exact ⟨_, _, rfl, o9, n9, b9⟩)
            | true =>
              cases hb1 : btw (nA ns 1) 0 4095 with
              | false =>
                have HNO : Hid (plF L = ln0) := by
                  show _ = _
                  rw [HV.out]; unfold plV; rw [if_neg (by rw [qs]; decide), if_neg (by rw [qa]; decide), if_neg (by rw [qc]; decide), if_pos qr, if_neg (fun h => by rw [hb1] at h; cases h.2.2.1)]
                clear l1
                have x0 := X.out.fz
                have y0 := X.out.cl 0 _ rfl
                have y1 := X.out.cl 1 _ rfl
                have y2 := X.out.cl 2 _ rfl
                have y3 := X.out.cl 3 _ rfl
                have y4 := X.out.cl 4 _ rfl
                go_wp2_with fail
                refine (l6Between_any _ _ _ _).mono ?_
                rintro e9 w9 ⟨rfl, hw9⟩
                subst hw9
                go_wp2_with fail
                refine (l6Between_any _ _ _ _).mono ?_
                rintro e9 w9 ⟨rfl, hw9⟩
                subst hw9
                go_wp2_with fail
                obtain ⟨b9, x9, o9, n9⟩ := ln_box BA.out X.out 0 false ⟨#[]⟩ (vo := .slice none 0 0) (vn := .slice none 0 0) (show OwnO _ _ _ _ [] from World.ownsRow_nil _ _ _ _) (show Own _ _ _ _ _ [] from World.ownsRow_nil _ _ _ _)
                have d0 := x9.cl 0 _ rfl
                have d1 := x9.cl 1 _ rfl
                have d2 := x9.cl 2 _ rfl
                have d3 := x9.cl 3 _ rfl
                have d4 := x9.cl 4 _ rfl
                exact bodyPost_ret (v := .agg #[.int .i64 0, .slice none 0 0, .bool false, .string ⟨#[]⟩, .slice none 0 0]) (by simp [results, Tryz.results4, go_sem, d0, d1, d2, d3, d4]) rfl (by rw [HNO.out]; exact ⟨_, _, rfl, o9, n9, b9⟩)
              | true =>
                cases hb2 : btw (nA ns 2) 1 255 with
                | false =>
                  have HNO : Hid (plF L = ln0) := by
                    show _ = _
                    rw [HV.out]; unfold plV; rw [if_neg (by rw [qs]; decide), if_neg (by rw [qa]; decide), if_neg (by rw [qc]; decide), if_pos qr, if_neg (fun h => by rw [hb2] at h; cases h.2.2.2)]
                  clear l1
                  have x0 := X.out.fz
                  have y0 := X.out.cl 0 _ rfl
                  have y1 := X.out.cl 1 _ rfl
                  have y2 := X.out.cl 2 _ rfl
                  have y3 := X.out.cl 3 _ rfl
                  have y4 := X.out.cl 4 _ rfl
                  go_wp2_with fail
                  refine (l6Between_any _ _ _ _).mono ?_
                  rintro e9 w9 ⟨rfl, hw9⟩
                  subst hw9
                  go_wp2_with fail
                  refine (l6Between_any _ _ _ _).mono ?_
                  rintro e9 w9 ⟨rfl, hw9⟩
                  subst hw9
                  go_wp2_with fail
                  refine (l6Between_any _ _ _ _).mono ?_
                  rintro e9 w9 ⟨rfl, hw9⟩
                  subst hw9
                  go_wp2_with fail
                  obtain ⟨b9, x9, o9, n9⟩ := ln_box BA.out X.out 0 false ⟨#[]⟩ (vo := .slice none 0 0) (vn := .slice none 0 0) (show OwnO _ _ _ _ [] from World.ownsRow_nil _ _ _ _) (show Own _ _ _ _ _ [] from World.ownsRow_nil _ _ _ _)
                  have d0 := x9.cl 0 _ rfl
                  have d1 := x9.cl 1 _ rfl
                  have d2 := x9.cl 2 _ rfl
                  have d3 := x9.cl 3 _ rfl
                  have d4 := x9.cl 4 _ rfl
                  exact bodyPost_ret (v := .agg #[.int .i64 0, .slice none 0 0, .bool false, .string ⟨#[]⟩, .slice none 0 0]) (by simp [results, Tryz.results4, go_sem, d0, d1, d2, d3, d4]) rfl (by rw [HNO.out]; exact ⟨_, _, rfl, o9, n9, b9⟩)
                | true =>
                  have HNO : Hid (plF L = ⟨10, [], false, ⟨#[]⟩, ns⟩) := by
                    show _ = _
                    rw [HV.out]; unfold plV; rw [if_neg (by rw [qs]; decide), if_neg (by rw [qa]; decide), if_neg (by rw [qc]; decide), if_pos qr, if_pos ⟨l1, hb0, hb1, hb2⟩]
                  clear l1
                  have x0 := X.out.fz
                  have y0 := X.out.cl 0 _ rfl
                  have y1 := X.out.cl 1 _ rfl
                  have y2 := X.out.cl 2 _ rfl
                  have y3 := X.out.cl 3 _ rfl
                  have y4 := X.out.cl 4 _ rfl
                  go_wp2_with fail
                  refine (l6Between_any _ _ _ _).mono ?_
                  rintro e9 w9 ⟨rfl, hw9⟩
                  subst hw9
                  go_wp2_with fail
                  refine (l6Between_any _ _ _ _).mono ?_
                  rintro e9 w9 ⟨rfl, hw9⟩
                  subst hw9
                  go_wp2_with fail
                  refine (l6Between_any _ _ _ _).mono ?_
                  rintro e9 w9 ⟨rfl, hw9⟩
                  subst hw9
                  go_wp2_with fail
                  obtain ⟨b9, x9, o9, n9⟩ := ln_box BA.out X.out 10 false ⟨#[]⟩ (vo := .slice none 0 0) (vn := .slice (some ⟨gn, 0, none⟩) ns.length cn) (show OwnO _ _ _ _ [] from World.ownsRow_nil _ _ _ _) (N5.out)
                  have d0 := x9.cl 0 _ rfl
                  have d1 := x9.cl 1 _ rfl
                  have d2 := x9.cl 2 _ rfl
                  have d3 := x9.cl 3 _ rfl
                  have d4 := x9.cl 4 _ rfl
                  exact bodyPost_ret (v := .agg #[.int .i64 10, .slice none 0 0, .bool false, .string ⟨#[]⟩, .slice (some ⟨gn, 0, none⟩) ns.length cn]) (by simp [results, Tryz.results4, go_sem, d0, d1, d2, d3, d4]) rfl (by rw [HNO.out]; exact ⟨_, _, rfl, o9, n9, b9⟩)
          have hl1 : (((ns.length : Nat) : Int) == 3) = false := beq_false_of_ne (by omega)
          have HNO : Hid (plF L = ln0) := by
            show _ = _
            rw [HV.out]; unfold plV; rw [if_neg (by rw [qs]; decide), if_neg (by rw [qa]; decide), if_neg (by rw [qc]; decide), if_pos qr, if_neg (fun h => l1 h.1)]
          clear l1
          have x0 := X.out.fz
          have y0 := X.out.cl 0 _ rfl
          have y1 := X.out.cl 1 _ rfl
          have y2 := X.out.cl 2 _ rfl
          have y3 := X.out.cl 3 _ rfl
          have y4 := X.out.cl 4 _ rfl
          go_wp2_with fail
          obtain ⟨b9, x9, o9, n9⟩ := ln_box BA.out X.out 0 false ⟨#[]⟩ (vo := .slice none 0 0) (vn := .slice none 0 0) (show OwnO _ _ _ _ [] from World.ownsRow_nil _ _ _ _) (show Own _ _ _ _ _ [] from World.ownsRow_nil _ _ _ _)
          have d0 := x9.cl 0 _ rfl
          have d1 := x9.cl 1 _ rfl
          have d2 := x9.cl 2 _ rfl
          have d3 := x9.cl 3 _ rfl
          have d4 := x9.cl 4 _ rfl
          exact bodyPost_ret (v := .agg #[.int .i64 0, .slice none 0 0, .bool false, .string ⟨#[]⟩, .slice none 0 0]) (by simp [results, Tryz.results4, go_sem, d0, d1, d2, d3, d4]) rfl (by rw [HNO.out]; exact ⟨_, _, rfl, o9, n9, b9⟩)
        replace qr : ((bAt L 0).toList == [114, 111, 116]) = false := by simpa using qr
        have HNO : Hid (plF L = ln0) := by
          show _ = _
          rw [HV.out]; unfold plV; rw [if_neg (by rw [qs]; decide), if_neg (by rw [qa]; decide), if_neg (by rw [qc]; decide), if_neg (by rw [qr]; decide)]
        have x0 := X.out.fz
        have y0 := X.out.cl 0 _ rfl
        have y1 := X.out.cl 1 _ rfl
        have y2 := X.out.cl 2 _ rfl
        have y3 := X.out.cl 3 _ rfl
        have y4 := X.out.cl 4 _ rfl
        go_wp2_with fail
        obtain ⟨b9, x9, o9, n9⟩ := ln_box BA.out X.out 0 false ⟨#[]⟩ (vo := .slice none 0 0) (vn := .slice none 0 0) (show OwnO _ _ _ _ [] from World.ownsRow_nil _ _ _ _) (show Own _ _ _ _ _ [] from World.ownsRow_nil _ _ _ _)
        have d0 := x9.cl 0 _ rfl
        have d1 := x9.cl 1 _ rfl
        have d2 := x9.cl 2 _ rfl
        have d3 := x9.cl 3 _ rfl
        have d4 := x9.cl 4 _ rfl
        exact bodyPost_ret (v := .agg #[.int .i64 0, .slice none 0 0, .bool false, .string ⟨#[]⟩, .slice none 0 0]) (by simp [results, Tryz.results4, go_sem, d0, d1, d2, d3, d4]) rfl (by rw [HNO.out]; exact ⟨_, _, rfl, o9, n9, b9⟩)
    have hn2 : (((L.length : Nat) : Int) == 2) = false := beq_false_of_ne (by omega)
    replace HP2 : Hid (plF L = plN L) := by
      show _ = _
      rw [HP2.out]; unfold pl2; rw [if_neg (fun h => n2 h.1), if_neg (fun h => n2 h.1)]
    have nL : 2 ≤ L.length := by omega
    clear n1 n2
    have RD : RdB (w3.alloc (.cells #[.int .i64 oo.kind, .string oo.path, .string oo.data, .int .i64 oo.ver, .bool oo.seq] 41)) (if c = 1 then .slice (some ⟨g, 0, none⟩) (L.length - 1) (c - 1) else .slice (some ⟨g, 0 + 1, none⟩) (L.length - 1) (c - 1)) (L.drop 1) := by
      have h9 := rdB_sub RL.out 1 (L.length - 1) (by omega)
      rw [List.take_of_length_le (by rw [List.length_drop]; exact Nat.le_refl _)] at h9
      by_cases hc : c = 1
      · rw [if_pos hc]
        have hz : L.drop 1 = [] := List.drop_of_length_le (by omega)
        rw [hz, show L.length - 1 = 0 by omega]
        exact ⟨_, _, rfl, Nat.zero_le _, by unfold maxLen; omega, .inl rfl⟩
      · rw [if_neg hc]; exact h9
    have HC := hd9 (l6Nums_any (w3.alloc (.cells #[.int .i64 oo.kind, .string oo.path, .string oo.data, .int .i64 oo.ver, .bool oo.seq] 41)) _ (L.drop 1) RD (by rw [List.length_drop]; omega) (HSZ.out.drop 1))
    clear RD HCL HSZ RL
    rw [if_neg (show ¬ c = 1 by omega)] at HC
    go_wp2_with fail
    refine HC.out.mono ?_
    rintro e w5 ⟨vn, ns, ok, rfl, n5, hn5, b5, hok, hns⟩
    obtain ⟨an, cn, rfl, hcn⟩ := n5.cells9
    replace X := hd9 (X.out.below b5)
    replace BA := hd9 (BA.out.trans (b5.mono (by simp; omega)))
    replace f0c := (b5.cell (p := ⟨g, 0, none⟩) hg2).trans f0c
    have N5 := hd9 (ownsRow_mono9 n5 (lo' := w.heap.size + 1) (by simp; omega))
    have HQ := hd9 (And.intro hok hns)
    rw [List.length_drop] at hn5
    clear HC n5 b5 hok hns
    cases ok with
    | false =>
      have HNO : Hid (plF L = ln0) := by
        show _ = _
        rw [HP2.out]; unfold plN
        cases hx : numsO (L.drop 1) with
        | none => rfl
        | some x =>
          have h9 := HQ.out.1
          rw [hx] at h9
          show (if _ then _ else _) = _
          rw [if_neg (of_decide_eq_false h9.symm)]
      clear HP2 HQ
      have x0 := X.out.fz
      have y0 := X.out.cl 0 _ rfl
      have y1 := X.out.cl 1 _ rfl
      have y2 := X.out.cl 2 _ rfl
      have y3 := X.out.cl 3 _ rfl
      have y4 := X.out.cl 4 _ rfl
      go_wp2_with fail
      obtain ⟨b9, x9, o9, n9⟩ := ln_box BA.out X.out 0 false ⟨#[]⟩ (vo := .slice none 0 0) (vn := .slice none 0 0) (show OwnO _ _ _ _ [] from World.ownsRow_nil _ _ _ _) (show Own _ _ _ _ _ [] from World.ownsRow_nil _ _ _ _)
      have d0 := x9.cl 0 _ rfl
      have d1 := x9.cl 1 _ rfl
      have d2 := x9.cl 2 _ rfl
      have d3 := x9.cl 3 _ rfl
      have d4 := x9.cl 4 _ rfl
      exact bodyPost_ret (v := .agg #[.int .i64 0, .slice none 0 0, .bool false, .string ⟨#[]⟩, .slice none 0 0]) (by simp [results, Tryz.results4, go_sem, d0, d1, d2, d3, d4]) rfl (by rw [HNO.out]; exact ⟨_, _, rfl, o9, n9, b9⟩)
    | true =>
      have HV : Hid (plF L = plV (bAt L 0) ns) := by
        show _ = _
        rw [HP2.out]; unfold plN
        have h9 := HQ.out.1.symm
        rw [Bool.and_eq_true] at h9
        obtain ⟨x, hx⟩ := Option.isSome_iff_exists.1 h9.1
        rw [hx]
        show (if _ then _ else _) = _
        rw [if_pos (of_decide_eq_true h9.2), HQ.out.2 x hx]
      clear HP2 HQ
      by_cases qs : ((bAt L 0).toList == [115, 116, 101, 112]) = true
      case pos =>
        have rarm : ((bAt L 0).toList == [97, 114, 109]) = false := by rw [beq_iff_eq.1 qs]; rfl
        have rcrash : ((bAt L 0).toList == [99, 114, 97, 115, 104]) = false := by rw [beq_iff_eq.1 qs]; rfl
        have rrot : ((bAt L 0).toList == [114, 111, 116]) = false := by rw [beq_iff_eq.1 qs]; rfl
        by_cases l1 : ns.length = 1
        case pos =>
          obtain ⟨gn, rfl, hcells⟩ := hcn (by omega)
          have z0 := hcells 0 (by omega)
          have hl1 : (((ns.length : Nat) : Int) == 1) = true := beq_iff_eq.2 (by omega)
          have hl0 : (0 : Int) < ((ns.length : Nat) : Int) := by omega
          cases hb : btw (nA ns 0) 1 1000 with
          | true =>
            have HNO : Hid (plF L = ⟨7, [], false, ⟨#[]⟩, ns⟩) := by
              show _ = _
              rw [HV.out]; unfold plV; rw [if_pos qs, if_pos ⟨l1, hb⟩]
            clear l1
            have x0 := X.out.fz
            have y0 := X.out.cl 0 _ rfl
            have y1 := X.out.cl 1 _ rfl
            have y2 := X.out.cl 2 _ rfl
            have y3 := X.out.cl 3 _ rfl
            have y4 := X.out.cl 4 _ rfl
            go_wp2_with fail
            refine (l6Between_any _ _ _ _).mono ?_
            rintro e9 w9 ⟨rfl, hw9⟩
            subst hw9
            go_wp2_with fail
            obtain ⟨b9, x9, o9, n9⟩ := ln_box BA.out X.out 7 false ⟨#[]⟩ (vo := .slice none 0 0) (vn := .slice (some ⟨gn, 0, none⟩) ns.length cn) (show OwnO _ _ _ _ [] from World.ownsRow_nil _ _ _ _) (N5.out)
            have d0 := x9.cl 0 _ rfl
            have d1 := x9.cl 1 _ rfl
            have d2 := x9.cl 2 _ rfl
            have d3 := x9.cl 3 _ rfl
            have d4 := x9.cl 4 _ rfl
            exact bodyPost_ret (v := .agg #[.int .i64 7, .slice none 0 0, .bool false, .string ⟨#[]⟩, .slice (some ⟨gn, 0, none⟩) ns.length cn]) (by simp [results, Tryz.results4, go_sem, d0, d1, d2, d3, d4]) rfl (by rw [HNO.out]; exact ⟨_, _, rfl, o9, n9, b9⟩)
          | false =>
            have HNO : Hid (plF L = ln0) := by
              show _ = _
              rw [HV.out]; unfold plV; rw [if_pos qs, if_neg (fun h => by rw [hb] at h; cases h.2)]
            clear l1
            have x0 := X.out.fz
            have y0 := X.out.cl 0 _ rfl
            have y1 := X.out.cl 1 _ rfl
            have y2 := X.out.cl 2 _ rfl
            have y3 := X.out.cl 3 _ rfl
            have y4 := X.out.cl 4 _ rfl
            go_wp2_with fail
            refine (l6Between_any _ _ _ _).mono ?_
            rintro e9 w9 ⟨rfl, hw9⟩
            subst hw9
            go_wp2_with fail
            obtain ⟨b9, x9, o9, n9⟩ := ln_box BA.out X.out 0 false ⟨#[]⟩ (vo := .slice none 0 0) (vn := .slice none 0 0) (show OwnO _ _ _ _ [] from World.ownsRow_nil _ _ _ _) (show Own _ _ _ _ _ [] from World.ownsRow_nil _ _ _ _)
            have d0 := x9.cl 0 _ rfl
            have d1 := x9.cl 1 _ rfl
            have d2 := x9.cl 2 _ rfl
            have d3 := x9.cl 3 _ rfl
            have d4 := x9.cl 4 _ rfl
            exact bodyPost_ret (v := .agg #[.int .i64 0, .slice none 0 0, .bool false, .string ⟨#[]⟩, .slice none 0 0]) (by simp [results, Tryz.results4, go_sem, d0, d1, d2, d3, d4]) rfl (by rw [HNO.out]; exact ⟨_, _, rfl, o9, n9, b9⟩)
        have hl1 : (((ns.length : Nat) : Int) == 1) = false := beq_false_of_ne (by omega)
        have HNO : Hid (plF L = ln0) := by
          show _ = _
          rw [HV.out]; unfold plV; rw [if_pos qs, if_neg (fun h => l1 h.1)]
        clear l1
        have x0 := X.out.fz
        have y0 := X.out.cl 0 _ rfl
        have y1 := X.out.cl 1 _ rfl
        have y2 := X.out.cl 2 _ rfl
        have y3 := X.out.cl 3 _ rfl
        have y4 := X.out.cl 4 _ rfl
        go_wp2_with fail
        obtain ⟨b9, x9, o9, n9⟩ := ln_box BA.out X.out 0 false ⟨#[]⟩ (vo := .slice none 0 0) (vn := .slice none 0 0) (show OwnO _ _ _ _ [] from World.ownsRow_nil _ _ _ _) (show Own _ _ _ _ _ [] from World.ownsRow_nil _ _ _ _)
        have d0 := x9.cl 0 _ rfl
        have d1 := x9.cl 1 _ rfl
        have d2 := x9.cl 2 _ rfl
        have d3 := x9.cl 3 _ rfl
        have d4 := x9.cl 4 _ rfl
        exact bodyPost_ret (v := .agg #[.int .i64 0, .slice none 0 0, .bool false, .string ⟨#[]⟩, .slice none 0 0]) (by simp [results, Tryz.results4, go_sem, d0, d1, d2, d3, d4]) rfl (by rw [HNO.out]; exact ⟨_, _, rfl, o9, n9, b9⟩)
      replace qs : ((bAt L 0).toList == [115, 116, 101, 112]) = false := by simpa using qs
      by_cases qa : ((bAt L 0).toList == [97, 114, 109]) = true
      case pos =>
        have rcrash : ((bAt L 0).toList == [99, 114, 97, 115, 104]) = false := by rw [beq_iff_eq.1 qa]; rfl
        have rrot : ((bAt L 0).toList == [114, 111, 116]) = false := by rw [beq_iff_eq.1 qa]; rfl
        by_cases l1 : 1 ≤ ns.length
        case pos =>
          obtain ⟨gn, rfl, hcells⟩ := hcn (by omega)
          have z0 := hcells 0 (by omega)
          have hl1 : (1 : Int) ≤ ((ns.length : Nat) : Int) := by omega
          have hl0 : (0 : Int) < ((ns.length : Nat) : Int) := by omega
          cases hb : btw (nA ns 0) 1 10000 with
          | true =>
            have HNO : Hid (plF L = ⟨8, [], false, ⟨#[]⟩, ns⟩) := by
              show _ = _
              rw [HV.out]; unfold plV; rw [if_neg (by rw [qs]; decide), if_pos qa, if_pos ⟨l1, hb⟩]
            have x0 := X.out.fz
            have y0 := X.out.cl 0 _ rfl
            have y1 := X.out.cl 1 _ rfl
            have y2 := X.out.cl 2 _ rfl
            have y3 := X.out.cl 3 _ rfl
            have y4 := X.out.cl 4 _ rfl
            go_wp2_with fail
            refine (l6Between_any _ _ _ _).mono ?_
            rintro e9 w9 ⟨rfl, hw9⟩
            subst hw9
            go_wp2_with fail
            obtain ⟨b9, x9, o9, n9⟩ := ln_box BA.out X.out 8 false ⟨#[]⟩ (vo := .slice none 0 0) (vn := .slice (some ⟨gn, 0, none⟩) ns.length cn) (show OwnO _ _ _ _ [] from World.ownsRow_nil _ _ _ _) (N5.out)
            have d0 := x9.cl 0 _ rfl
            have d1 := x9.cl 1 _ rfl
            have d2 := x9.cl 2 _ rfl
            have d3 := x9.cl 3 _ rfl
            have d4 := x9.cl 4 _ rfl
            exact bodyPost_ret (v := .agg #[.int .i64 8, .slice none 0 0, .bool false, .string ⟨#[]⟩, .slice (some ⟨gn, 0, none⟩) ns.length cn]) (by simp [results, Tryz.results4, go_sem, d0, d1, d2, d3, d4]) rfl (by rw [HNO.out]; exact ⟨_, _, rfl, o9, n9, b9⟩)
          | false =>
            have HNO : Hid (plF L = ln0) := by
              show _ = _
              rw [HV.out]; unfold plV; rw [if_neg (by rw [qs]; decide), if_pos qa, if_neg (fun h => by rw [hb] at h; cases h.2)]
            have x0 := X.out.fz
            have y0 := X.out.cl 0 _ rfl
            have y1 := X.out.cl 1 _ rfl
            have y2 := X.out.cl 2 _ rfl
            have y3 := X.out.cl 3 _ rfl
            have y4 := X.out.cl 4 _ rfl
            go_wp2_with fail
            refine (l6Between_any _ _ _ _).mono ?_
            rintro e9 w9 ⟨rfl, hw9⟩
            subst hw9
            go_wp2_with fail
            obtain ⟨b9, x9, o9, n9⟩ := ln_box BA.out X.out 0 false ⟨#[]⟩ (vo := .slice none 0 0) (vn := .slice none 0 0) (show OwnO _ _ _ _ [] from World.ownsRow_nil _ _ _ _) (show Own _ _ _ _ _ [] from World.ownsRow_nil _ _ _ _)
            have d0 := x9.cl 0 _ rfl
            have d1 := x9.cl 1 _ rfl
            have d2 := x9.cl 2 _ rfl
            have d3 := x9.cl 3 _ rfl
            have d4 := x9.cl 4 _ rfl
            exact bodyPost_ret (v := .agg #[.int .i64 0, .slice none 0 0, .bool false, .string ⟨#[]⟩, .slice none 0 0]) (by simp [results, Tryz.results4, go_sem, d0, d1, d2, d3, d4]) rfl (by rw [HNO.out]; exact ⟨_, _, rfl, o9, n9, b9⟩)
        have hl1 : ¬ (1 : Int) ≤ ((ns.length : Nat) : Int) := by omega
        have HNO : Hid (plF L = ln0) := by
          show _ = _
          rw [HV.out]; unfold plV; rw [if_neg (by rw [qs]; decide), if_pos qa, if_neg (fun h => l1 h.1)]
        have x0 := X.out.fz
        have y0 := X.out.cl 0 _ rfl
        have y1 := X.out.cl 1 _ rfl
        have y2 := X.out.cl 2 _ rfl
        have y3 := X.out.cl 3 _ rfl
        have y4 := X.out.cl 4 _ rfl
        go_wp2_with fail
        obtain ⟨b9, x9, o9, n9⟩ := ln_box BA.out X.out 0 false ⟨#[]⟩ (vo := .slice none 0 0) (vn := .slice none 0 0) (show OwnO _ _ _ _ [] from World.ownsRow_nil _ _ _ _) (show Own _ _ _ _ _ [] from World.ownsRow_nil _ _ _ _)
        have d0 := x9.cl 0 _ rfl
        have d1 := x9.cl 1 _ rfl
        have d2 := x9.cl 2 _ rfl
        have d3 := x9.cl 3 _ rfl
        have d4 := x9.cl 4 _ rfl
        exact bodyPost_ret (v := .agg #[.int .i64 0, .slice none 0 0, .bool false, .string ⟨#[]⟩, .slice none 0 0]) (by simp [results, Tryz.results4, go_sem, d0, d1, d2, d3, d4]) rfl (by rw [HNO.out]; exact ⟨_, _, rfl, o9, n9, b9⟩)
      replace qa : ((bAt L 0).toList == [97, 114, 109]) = false := by simpa using qa
      by_cases qc : ((bAt L 0).toList == [99, 114, 97, 115, 104]) = true
      case pos =>
        have HNO : Hid (plF L = ⟨9, [], false, ⟨#[]⟩, ns⟩) := by
          show _ = _
          rw [HV.out]; unfold plV; rw [if_neg (by rw [qs]; decide), if_neg (by rw [qa]; decide), if_pos qc]
        have x0 := X.out.fz
        have y0 := X.out.cl 0 _ rfl
        have y1 := X.out.cl 1 _ rfl
        have y2 := X.out.cl 2 _ rfl
        have y3 := X.out.cl 3 _ rfl
        have y4 := X.out.cl 4 _ rfl
        go_wp2_with fail
        obtain ⟨b9, x9, o9, n9⟩ := ln_box BA.out X.out 9 false ⟨#[]⟩ (vo := .slice none 0 0) (vn := .slice an ns.length cn) (show OwnO _ _ _ _ [] from World.ownsRow_nil _ _ _ _) (N5.out)
        have d0 := x9.cl 0 _ rfl
        have d1 := x9.cl 1 _ rfl
        have d2 := x9.cl 2 _ rfl
        have d3 := x9.cl 3 _ rfl
        have d4 := x9.cl 4 _ rfl
        exact bodyPost_ret (v := .agg #[.int .i64 9, .slice none 0 0, .bool false, .string ⟨#[]⟩, .slice an ns.length cn]) (by simp [results, Tryz.results4, go_sem, d0, d1, d2, d3, d4]) rfl (by rw [HNO.out]; exact ⟨_, _, rfl, o9, n9, b9⟩)
      replace qc : ((bAt L 0).toList == [99, 114, 97, 115, 104]) = false := by simpa using qc
      by_cases qr : ((bAt L 0).toList == [114, 111, 116]) = true
      case pos =>
        by_cases l1 : ns.length = 3
        case pos =>
          obtain ⟨gn, rfl, hcells⟩ := hcn (by omega)
          have z0 := hcells 0 (by omega)
          have z1 := hcells 1 (by omega)
          have z2 := hcells 2 (by omega)
          have hl1 : (((ns.length : Nat) : Int) == 3) = true := beq_iff_eq.2 (by omega)
          have hl0 : (0 : Int) < ((ns.length : Nat) : Int) := by omega
          have hl2 : (1 : Int) < ((ns.length : Nat) : Int) := by omega
          have hl3 : (2 : Int) < ((ns.length : Nat) : Int) := by omega
          cases hb0 : btw (nA ns 0) 0 1 with
          | false =>
            have HNO : Hid (plF L = ln0) := by
              show _ = _
              rw [HV.out]; unfold plV; rw [if_neg (by rw [qs]; decide), if_neg (by rw [qa]; decide), if_neg (by rw [qc]; decide), if_pos qr, if_neg (fun h => by rw [hb0] at h; cases h.2.1)]
            clear l1
            have x0 := X.out.fz
            have y0 := X.out.cl 0 _ rfl
            have y1 := X.out.cl 1 _ rfl
            have y2 := X.out.cl 2 _ rfl
            have y3 := X.out.cl 3 _ rfl
            have y4 := X.out.cl 4 _ rfl
            go_wp2_with fail
            refine (l6Between_any _ _ _ _).mono ?_
            rintro e9 w9 ⟨rfl, hw9⟩
            subst hw9
            go_wp2_with fail
            obtain ⟨b9, x9, o9, n9⟩ := ln_box BA.out X.out 0 false ⟨#[]⟩ (vo := .slice none 0 0) (vn := .slice none 0 0) (show OwnO _ _ _ _ [] from World.ownsRow_nil _ _ _ _) (show Own _ _ _ _ _ [] from World.ownsRow_nil _ _ _ _)
            have d0 := x9.cl 0 _ rfl
            have d1 := x9.cl 1 _ rfl
            have d2 := x9.cl 2 _ rfl
            have d3 := x9.cl 3 _ rfl
            have d4 := x9.cl 4 _ rfl
            exact bodyPost_ret (v := .agg #[.int .i64 0, .slice none 0 0, .bool false, .string ⟨#[]⟩, .slice none 0 0]) (by simp [results, Tryz.results4, go_sem, d0, d1, d2, d3, d4]) rfl (by rw [HNO.out]; exact ⟨_, _, rfl, o9, n9, b9⟩)
          | true =>
            cases hb1 : btw (nA ns 1) 0 4095 with
            | false =>
              have HNO : Hid (plF L = ln0) := by
                show _ = _
                rw [HV.out]; unfold plV; rw [if_neg (by rw [qs]; decide), if_neg (by rw [qa]; decide), if_neg (by rw [qc]; decide), if_pos qr, if_neg (fun h => by rw [hb1] at h; cases h.2.2.1)]
              clear l1
              have x0 := X.out.fz
              have y0 := X.out.cl 0 _ rfl
              have y1 := X.out.cl 1 _ rfl
              have y2 := X.out.cl 2 _ rfl
              have y3 := X.out.cl 3 _ rfl
              have y4 := X.out.cl 4 _ rfl
              go_wp2_with fail
              refine (l6Between_any _ _ _ _).mono ?_
              rintro e9 w9 ⟨rfl, hw9⟩
              subst hw9
              go_wp2_with fail
              refine (l6Between_any _ _ _ _).mono ?_
              rintro e9 w9 ⟨rfl, hw9⟩
              subst hw9
              go_wp2_with fail
              obtain ⟨b9, x9, o9, n9⟩ := ln_box BA.out X.out 0 false ⟨#[]⟩ (vo := .slice none 0 0) (vn := .slice none 0 0) (show OwnO _ _ _ _ [] from World.ownsRow_nil _ _ _ _) (show Own _ _ _ _ _ [] from World.ownsRow_nil _ _ _ _)
              have d0 := x9.cl 0 _ rfl
              have d1 := x9.cl 1 _ rfl
              have d2 := x9.cl 2 _ rfl
              have d3 := x9.cl 3 _ rfl
              have d4 := x9.cl 4 _ rfl
              exact bodyPost_ret (v := .agg #[.int .i64 0, .slice none 0 0, .bool false, .string ⟨#[]⟩, .slice none 0 0]) (by simp [results, Tryz.results4, go_sem, d0, d1, d2, d3, d4]) rfl (by rw [HNO.out]; exact ⟨_, _, rfl, o9, n9, b9⟩)
            | true =>
              cases hb2 : btw (nA ns 2) 1 255 with
              | false =>
                have HNO : Hid (plF L = ln0) := by
                  show _ = _
                  rw [HV.out]; unfold plV; rw [if_neg (by rw [qs]; decide), if_neg (by rw [qa]; decide), if_neg (by rw [qc]; decide), if_pos qr, if_neg (fun h => by rw [hb2] at h; cases h.2.2.2)]
                clear l1
                have x0 := X.out.fz
                have y0 := X.out.cl 0 _ rfl
                have y1 := X.out.cl 1 _ rfl
                have y2 := X.out.cl 2 _ rfl
                have y3 := X.out.cl 3 _ rfl
                have y4 := X.out.cl 4 _ rfl
                go_wp2_with fail
                refine (l6Between_any _ _ _ _).mono ?_
                rintro e9 w9 ⟨rfl, hw9⟩
                subst hw9
                go_wp2_with fail
                refine (l6Between_any _ _ _ _).mono ?_
                rintro e9 w9 ⟨rfl, hw9⟩
                subst hw9
                go_wp2_with fail
                refine (l6Between_any _ _ _ _).mono ?_
                rintro e9 w9 ⟨rfl, hw9⟩
                subst hw9
                go_wp2_with fail
                obtain ⟨b9, x9, o9, n9⟩ := ln_box BA.out X.out 0 false ⟨#[]⟩ (vo := .slice none 0 0) (vn := .slice none 0 0) (show OwnO _ _ _ _ [] from World.ownsRow_nil _ _ _ _) (show Own _ _ _ _ _ [] from World.ownsRow_nil _ _ _ _)
                have d0 := x9.cl 0 _ rfl
                have d1 := x9.cl 1 _ rfl
                have d2 := x9.cl 2 _ rfl
                have d3 := x9.cl 3 _ rfl
                have d4 := x9.cl 4 _ rfl
                exact bodyPost_ret (v := .agg #[.int .i64 0, .slice none 0 0, .bool false, .string ⟨#[]⟩, .slice none 0 0]) (by simp [results, Tryz.results4, go_sem, d0, d1, d2, d3, d4]) rfl (by rw [HNO.out]; exact ⟨_, _, rfl, o9, n9, b9⟩)
              | true =>
                have HNO : Hid (plF L = ⟨10, [], false, ⟨#[]⟩, ns⟩) := by
                  show _ = _
                  rw [HV.out]; unfold plV; rw [if_neg (by rw [qs]; decide), if_neg (by rw [qa]; decide), if_neg (by rw [qc]; decide), if_pos qr, if_pos ⟨l1, hb0, hb1, hb2⟩]
                clear l1
                have x0 := X.out.fz
                have y0 := X.out.cl 0 _ rfl
                have y1 := X.out.cl 1 _ rfl
                have y2 := X.out.cl 2 _ rfl
                have y3 := X.out.cl 3 _ rfl
                have y4 := X.out.cl 4 _ rfl
                go_wp2_with fail
                refine (l6Between_any _ _ _ _).mono ?_
                rintro e9 w9 ⟨rfl, hw9⟩
                subst hw9
                go_wp2_with fail
                refine (l6Between_any _ _ _ _).mono ?_
                rintro e9 w9 ⟨rfl, hw9⟩
                subst hw9
                go_wp2_with fail
                refine (l6Between_any _ _ _ _).mono ?_
                rintro e9 w9 ⟨rfl, hw9⟩
                subst hw9
                go_wp2_with fail
                obtain ⟨b9, x9, o9, n9⟩ := ln_box BA.out X.out 10 false ⟨#[]⟩ (vo := .slice none 0 0) (vn := .slice (some ⟨gn, 0, none⟩) ns.length cn) (show OwnO _ _ _ _ [] from World.ownsRow_nil _ _ _ _) (N5.out)
                have d0 := x9.cl 0 _ rfl
                have d1 := x9.cl 1 _ rfl
                have d2 := x9.cl 2 _ rfl
                have d3 := x9.cl 3 _ rfl
                have d4 := x9.cl 4 _ rfl
                exact bodyPost_ret (v := .agg #[.int .i64 10, .slice none 0 0, .bool false, .string ⟨#[]⟩, .slice (some ⟨gn, 0, none⟩) ns.length cn]) (by simp [results, Tryz.results4, go_sem, d0, d1, d2, d3, d4]) rfl (by rw [HNO.out]; exact ⟨_, _, rfl, o9, n9, b9⟩)
        have hl1 : (((ns.length : Nat) : Int) == 3) = false := beq_false_of_ne (by omega)
        have HNO : Hid (plF L = ln0) := by
          show _ = _
          rw [HV.out]; unfold plV; rw [if_neg (by rw [qs]; decide), if_neg (by rw [qa]; decide), if_neg (by rw [qc]; decide), if_pos qr, if_neg (fun h => l1 h.1)]
        clear l1
        have x0 := X.out.fz
        have y0 := X.out.cl 0 _ rfl
        have y1 := X.out.cl 1 _ rfl
        have y2 := X.out.cl 2 _ rfl
        have y3 := X.out.cl 3 _ rfl
        have y4 := X.out.cl 4 _ rfl
        go_wp2_with fail
        obtain ⟨b9, x9, o9, n9⟩ := ln_box BA.out X.out 0 false ⟨#[]⟩ (vo := .slice none 0 0) (vn := .slice none 0 0) (show OwnO _ _ _ _ [] from World.ownsRow_nil _ _ _ _) (show Own _ _ _ _ _ [] from World.ownsRow_nil _ _ _ _)
        have d0 := x9.cl 0 _ rfl
        have d1 := x9.cl 1 _ rfl
        have d2 := x9.cl 2 _ rfl
        have d3 := x9.cl 3 _ rfl
        have d4 := x9.cl 4 _ rfl
        exact bodyPost_ret (v := .agg #[.int .i64 0, .slice none 0 0, .bool false, .string ⟨#[]⟩, .slice none 0 0]) (by simp [results, Tryz.results4, go_sem, d0, d1, d2, d3, d4]) rfl (by rw [HNO.out]; exact ⟨_, _, rfl, o9, n9, b9⟩)
      replace qr : ((bAt L 0).toList == [114, 111, 116]) = false := by simpa using qr
      have HNO : Hid (plF L = ln0) := by
        show _ = _
        rw [HV.out]; unfold plV; rw [if_neg (by rw [qs]; decide), if_neg (by rw [qa]; decide), if_neg (by rw [qc]; decide), if_neg (by rw [qr]; decide)]
      have x0 := X.out.fz
      have y0 := X.out.cl 0 _ rfl
      have y1 := X.out.cl 1 _ rfl
      have y2 := X.out.cl 2 _ rfl
      have y3 := X.out.cl 3 _ rfl
      have y4 := X.out.cl 4 _ rfl
      go_wp2_with fail
      obtain ⟨b9, x9, o9, n9⟩ := ln_box BA.out X.out 0 false ⟨#[]⟩ (vo := .slice none 0 0) (vn := .slice none 0 0) (show OwnO _ _ _ _ [] from World.ownsRow_nil _ _ _ _) (show Own _ _ _ _ _ [] from World.ownsRow_nil _ _ _ _)
      have d0 := x9.cl 0 _ rfl
      have d1 := x9.cl 1 _ rfl
      have d2 := x9.cl 2 _ rfl
      have d3 := x9.cl 3 _ rfl
      have d4 := x9.cl 4 _ rfl
      exact bodyPost_ret (v := .agg #[.int .i64 0, .slice none 0 0, .bool false, .string ⟨#[]⟩, .slice none 0 0]) (by simp [results, Tryz.results4, go_sem, d0, d1, d2, d3, d4]) rfl (by rw [HNO.out]; exact ⟨_, _, rfl, o9, n9, b9⟩)

end Go.Proofs.YtmjliomhhgahkaaGreatDoor


