import Derived.Test.YtejhcebodlcloaaGreatDoorJ15
import Derived.Test.YtejhcebodlcloaaGreatDoorJ11
import Derived.Test.YtejhcebodlcloaaGreatDoorJ12
import Derived.Deep.QuietTactic
namespace Go.Proofs.YtejhcebodlcloaaGreatDoor
open Go.RowKit Go.Shelf

set_option linter.unusedSimpArgs false in
set_option maxHeartbeats 2000000 in
set_option maxRecDepth 100000 in
theorem delete_any (w : World) (lo g c : Nat) (ns : List Nd) (I : Nat) (h : OwnN 70 w lo (.slice (some ⟨g, 0, none⟩) ns.length c) ns) (hI : I < ns.length) (hn : ns.length ≤ 1000) :
    Calls Tryz.prog 95 #[.slice (some ⟨g, 0, none⟩) ns.length c, .int .i64 (I : Int), .int .i64 ((I : Int) + 1)] w fun e w' => e = .returned (.slice (some ⟨g, 0, none⟩) (ns.eraseIdx I).length c) ∧ OwnN 70 w' lo (.slice (some ⟨g, 0, none⟩) (ns.eraseIdx I).length c) (ns.eraseIdx I) ∧ ∀ b, Tw w b (some g) w' (some g) := by
  obtain ⟨i0, hi, hz0, hz1, hz2⟩ := info_parts Tryz.infoN
  obtain ⟨hlo, hnc, hcm, X, hg, hX⟩ := h.row9
  have hI0 : (0 : Int) ≤ (I : Int) := by omega
  have hI1 : (I : Int) ≤ (I : Int) + 1 := by omega
  have hI2 : (I : Int) + 1 ≤ (ns.length : Int) := by omega
  have hI3 : (ns.length : Int) ≤ (c : Int) := by omega
  have hne : ¬ (I : Int) = (I : Int) + 1 := by omega
  go_enter Tryz.func95, Tryz.ntmps95
  go_wp2_with fail
  have HG := hd9 hg
  have HX := hd9 hX
  clear hg hX h
  refine wp_region_held_drew (S := fun W => True) (by kernel_rfl) trivial (fun hHeld => ?_)
  have D1 : Hid (Below w.heap.size w w.drew) := below_drewN' w 1
  generalize w.drew = w1 at *
  have hIc : I ≤ c := by omega
  have h01 : (0 : Int) ≤ (I : Int) + 1 := by omega
  obtain ⟨ad, had⟩ : ∃ ad : Addr, (if c = I + 1 then some (⟨g, 0, none⟩ : Addr) else some ⟨g, (I + 1) * 7, none⟩) = some ad := by split <;> exact ⟨_, rfl⟩
  iterate 5 (refine tkI9 ?_ (by kernel_rfl) (fun _ => id) hHeld ?_ ?_; rotate_left; · intro w9 hS9; clear hS9; go_simp; try with_reducible rfl)
  refine tkI9 (.slice (some ad) (ns.length - (I + 1)) (c - (I + 1))) (by kernel_rfl) (fun _ => id) hHeld ?_ ?_
  · intro w9 hS9; clear hS9; go_simp
  refine rdA9 6 rfl (by kernel_rfl) (fun K hK => ?_)
  rw [if_pos (by kernel_rfl)]
  have HNS : Hid (nrow ns = nrow (ns.take I) ++ (ndL (nAt ns I) ++ nrow (ns.drop (I + 1)))) := by
    show _ = _
    rw [← nrow_cons, ← nrow_append, nAt_get hI, ← List.drop_eq_getElem_cons hI, List.take_append_drop]
  have HLA : Hid ((nrow (ns.take I)).length = I * 7) := by show _ = _; rw [nrow_length, List.length_take]; omega
  have HLB : Hid ((nrow (ns.drop (I + 1))).length = (ns.length - (I + 1)) * 7) := by show _ = _; rw [nrow_length, List.length_drop]
  have hr := run_append_room (P := Tryz.prog) w1 37 37 70 i0 Tryz.underlying37 hi g I c _ (D1.out.block g (Array.getElem?_eq_some_iff.1 HG.out).1 ▸ HG.out) ad (ns.length - (I + 1)) (c - (I + 1)) (nrow (ns.drop (I + 1))) (by rw [hz1]; exact HLB.out) ?h1 ?h2 (by omega) ?h3
  case h1 =>
    intro j u hu
    have hg1 := (D1.out.block g (Array.getElem?_eq_some_iff.1 HG.out).1).trans HG.out
    by_cases hc : c = I + 1
    · have := (List.getElem?_eq_some_iff.1 hu).1
      rw [HLB.out] at this
      omega
    · rw [if_neg hc] at had
      obtain rfl := Option.some.inj had
      rw [Addr.add_lit, cell_of_row w1 g _ _ _ (0, 0) hg1, List.getElem?_toArray, HNS.out, List.append_assoc, List.getElem?_append_right (by rw [HLA.out]; omega), HLA.out, List.append_assoc, List.getElem?_append_right (by show (ndL _).length ≤ _; rw [show (ndL (nAt ns I)).length = 7 from rfl]; omega), show (ndL (nAt ns I)).length = 7 from rfl, show (I + 1) * 7 + j - I * 7 - 7 = j by omega, List.getElem?_append_left (List.getElem?_eq_some_iff.1 hu).1]
      exact hu
  case h2 => exact nrow_one7 _
  case h3 =>
    have := HX.out
    rw [HLB.out, hz1, List.size_toArray]
    omega
  refine wp_append7 (.tmp 22) (.tmp 25) _ _ (by kernel_rfl) _ _ (by kernel_rfl) (by kernel_rfl) _ _ hr ?_
  refine hK.out _ _ trivial (fun hHeld => ?_)
  clear hK K
  have HG1 := setRow_heap w1 g _ (List.toArray (nrow (ns.take I) ++ nrow (ns.drop (I + 1)) ++ (nrow ns ++ X).drop ((ns.length - 1) * 7))) 70 (0, 0) (D1.out.block g (Array.getElem?_eq_some_iff.1 HG.out).1 ▸ HG.out)
  have T1 : Hid (∀ b, Tw w b (some g) (w1.setRow g (List.toArray (nrow (ns.take I) ++ nrow (ns.drop (I + 1)) ++ (nrow ns ++ X).drop ((ns.length - 1) * 7)))) (some g)) := fun b => (Tw.ofBelow D1.out b (some g)).row
  have hcur : (List.take (I * i0.size) (nrow ns ++ X).toArray.toList ++ nrow (List.drop (I + 1) ns) ++ List.drop (I * i0.size + (nrow (List.drop (I + 1) ns)).length) (nrow ns ++ X).toArray.toList) = nrow (ns.take I) ++ nrow (ns.drop (I + 1)) ++ (nrow ns ++ X).drop ((ns.length - 1) * 7) := by
    rw [hz1, HLB.out, show I * 7 + (ns.length - (I + 1)) * 7 = (ns.length - 1) * 7 by omega]
    congr 2
    rw [HNS.out, List.append_assoc, List.take_append_of_le_length (by rw [HLA.out]; omega), ← HLA.out, List.take_length]
  rw [hcur]
  clear hcur hr
  generalize w1.setRow g _ = w2 at *
  have hle : I + (ns.length - (I + 1)) = ns.length - 1 := by omega
  rw [hle]
  iterate 1 (refine tkI9 ?_ (by kernel_rfl) (fun _ => id) hHeld ?_ ?_; rotate_left; · intro w9 hS9; clear hS9; go_simp; try with_reducible rfl)
  refine wpAnyH_done (by kernel_rfl) ?_ _
  simp only [Act.put, sT9, sZ9, sS9]
  clear hHeld
  obtain ⟨L, hL⟩ : ∃ L, ns.length = L + 1 := ⟨ns.length - 1, by omega⟩
  have HLS := hd9 hL
  rw [hL] at hn hnc hI3 HG1 HLB ⊢
  have hL1 : (L + 1 - 1) = L := by omega
  rw [hL1] at HG1 ⊢
  have h02 : (0 : Int) ≤ (L : Int) := by omega
  have h03 : (L : Int) ≤ (L : Int) + 1 := by omega
  have hcL : ¬ c = L := by omega
  have HLX : Hid ((nrow (ns.take I) ++ nrow (ns.drop (I + 1))).length = L * 7) := by show _ = _; rw [List.length_append, HLA.out, HLB.out]; omega
  have hcl := run_clear7 (P := Tryz.prog) (w := w2) 37 0 70 i0 _ Tryz.underlying37 hi hz0 g (L * 7) 1 (c - L) (by omega) _ 70 HG1 _ zero7 ?h4 (ndL_one7 _)
  case h4 =>
    have := HX.out
    rw [List.size_toArray, List.length_append, HLX.out, List.length_drop]
    show L * 7 + 7 ≤ _
    omega
  clear hL hL1
  have HR3 : Hid (∀ R : List Value, List.take (L * 7) (nrow (ns.take I) ++ (nrow (ns.drop (I + 1)) ++ R)) = nrow (ns.eraseIdx I)) := fun R => by
    rw [← List.append_assoc, ← HLX.out, List.take_left, ← nrow_append, List.eraseIdx_eq_take_drop_succ]
  have HEL : Hid ((ns.eraseIdx I).length = L) := by show _ = _; rw [List.length_eraseIdx, if_pos hI, HLS.out]; omega
  have HG2 := hd9 HG1
  clear HG1
  go_wp2_with (at_builtin; go_must (refine wpList_clear7 _ rfl _ _ rfl _ _ hcl ?_))
  refine bodyPost_ret (v := .slice (some ⟨g, 0, none⟩) L c) (by simp [results, Tryz.results95, go_sem]) rfl ⟨by rw [HEL.out], ?_, fun b => (T1.out b).row⟩
  refine OwnN.of9 (X := ndL nd0 ++ List.drop (L * 7 + (ndL nd0).length) (nrow (ns.take I) ++ (nrow (ns.drop (I + 1)) ++ List.drop (L * 7) (nrow ns ++ X)))) hlo (by rw [HEL.out]; omega) hcm ?_ ?_
  · rw [← HR3.out]
    exact setRow_heap w2 g _ _ _ _ HG2.out
  · have := HX.out
    have h9 := HLX.out
    rw [List.length_append] at this h9
    rw [List.length_append, nrow_length, HEL.out, List.length_append, List.length_drop, List.length_append, List.length_append, List.length_drop, List.length_append, show (ndL nd0).length = 7 from rfl]
    omega


/-- A local operation. -/
structure BoxO (w : World) (B : Nat) (o : Op5) : Prop where
  lt : B < w.heap.size
  c0 : w.cell? ⟨B, 0, none⟩ = some (.int .i64 o.kind)
  c1 : w.cell? ⟨B, 1, none⟩ = some (.string o.path)
  c2 : w.cell? ⟨B, 2, none⟩ = some (.string o.data)
  c3 : w.cell? ⟨B, 3, none⟩ = some (.int .i64 o.ver)
  c4 : w.cell? ⟨B, 4, none⟩ = some (.bool o.seq)
theorem BoxO.new (w : World) (o : Op5) (t : TypeId) : BoxO (w.alloc (.cells #[.int .i64 o.kind, .string o.path, .string o.data, .int .i64 o.ver, .bool o.seq] t)) w.heap.size o :=
  ⟨by simp, by simp, by simp, by simp, by simp, by simp⟩
theorem BoxO.below {w w' : World} {B : Nat} {o : Op5} (h : BoxO w B o) (hb : Below w.heap.size w w') : BoxO w' B o :=
  ⟨Nat.lt_of_lt_of_le h.lt hb.size, (hb.cell (p := ⟨B, _, none⟩) h.lt).trans h.c0, (hb.cell (p := ⟨B, _, none⟩) h.lt).trans h.c1, (hb.cell (p := ⟨B, _, none⟩) h.lt).trans h.c2, (hb.cell (p := ⟨B, _, none⟩) h.lt).trans h.c3, (hb.cell (p := ⟨B, _, none⟩) h.lt).trans h.c4⟩
/-- What is known when an operation is done. -/
def DoPost (w : World) (v : Value) (ns : List Nd) (o : Op5) (z : Int) (e : Ending) (w' : World) : Prop := ∃ v', e = .returned (.tuple #[.int .i64 (doO ns o z).1, v', .string (doO ns o z).2.2]) ∧ RdN w' v' (doO ns o z).2.1 ∧ Fresh w v v' ∧ Below w.heap.size w w'
theorem wiN_len (ns : List Nd) (n : Nd) : (wiN ns n).length ≤ 2 * ns.length + 1 := by
  have := wiF_len ns n ns.length
  rw [List.take_length] at this
  unfold wiN
  split
  · omega
  · simp; omega
theorem wfO_path {o : Op5} (h : wfO o = true) : okPath o.path = true ∧ o.data.size ≤ 64 := by
  unfold wfO at h
  simp only [Bool.and_eq_true, decide_eq_true_eq] at h
  exact ⟨h.1.1.1.2, h.1.1.2⟩

set_option maxHeartbeats 2000000 in
set_option maxRecDepth 100000 in
theorem l3Do_create (w : World) (v : Value) (ns : List Nd) (o : Op5) (z : Int) (h : RdN w v ns) (hn : ns.length ≤ 1000) (hok : ∀ k, k < ns.length → okNd (nAt ns k) = true) (hp : o.path.size ≤ 1048576) (hd : o.data.size ≤ 1048576) (hw : wfO o = true) (hk : o.kind = 1) :
    Calls Tryz.prog 20 #[v, .agg #[.int .i64 o.kind, .string o.path, .string o.data, .int .i64 o.ver, .bool o.seq], .int .i64 z] w fun e w' => DoPost w v ns o z e w' := by
  obtain ⟨ao, ca, rfl, _, _⟩ := h.len
  have HR : Hid (RdN w (.slice ao ns.length ca) ns) := h
  have HO : Hid (∀ k, k < ns.length → okNd (nAt ns k) = true) := hok
  have HW : Hid (wfO o = true) := hw
  have hkb : (o.kind == 1) = true := by simp [hk]
  have HD : Hid (doO ns o z = if ¬ ns.findIdx (isP (parB o.path)) < ns.length then (2, ns, ⟨#[]⟩)
    else if !okPath (nameO ns o) then (1, ns, ⟨#[]⟩)
    else if ns.findIdx (isP (nameO ns o)) < ns.length then (3, ns, ⟨#[]⟩)
    else if ns.length = 1000 then (6, ns, ⟨#[]⟩)
    else (0, toN (wiN ns ⟨nameO ns o, o.data, 0, 0, z, z, z⟩) (parB o.path) z, nameO ns o)) := by show _ = _; unfold doO; rw [hw, if_pos hk]; rfl
  have HPP := (wfO_path hw).1
  have B0 : Hid (Below w.heap.size w (w.alloc (.cells #[.int .i64 o.kind, .string o.path, .string o.data, .int .i64 o.ver, .bool o.seq] 58))) := (Below.refl _ _).alloc (Nat.le_refl _) _
  have X0 : Hid (BoxO (w.alloc (.cells #[.int .i64 o.kind, .string o.path, .string o.data, .int .i64 o.ver, .bool o.seq] 58)) w.heap.size o) := BoxO.new _ _ _
  have HPK : Hid (okPath o.path = true) := HPP
  clear h hw hok hk HPP
  go_enter Tryz.func20, Tryz.ntmps20
  go_wp2_with fail
  generalize w.alloc (.cells #[.int .i64 o.kind, .string o.path, .string o.data, .int .i64 o.ver, .bool o.seq] 58) = w0 at *
  refine (l3Well_any _ o hp hd).mono ?_
  rintro e w1 ⟨rfl, b1⟩
  rw [HW.out]
  have B1 : Hid (Below w.heap.size w w1) := B0.out.trans (b1.mono B0.out.size)
  have X1 : Hid (BoxO w1 w.heap.size o) := X0.out.below b1
  clear b1 B0 X0
  obtain ⟨xl, c0, c1, c2, c3, c4⟩ := X1.out
  go_wp2_with fail
  refine (l3Parent_any _ o.path HPK.out).mono ?_
  rintro e w2 ⟨rfl, b2⟩
  have B2 : Hid (Below w.heap.size w w2) := B1.out.trans (b2.mono B1.out.size)
  have X2 : Hid (BoxO w2 w.heap.size o) := X1.out.below b2
  clear b2 B1 X1 xl c0 c1 c2 c3 c4
  go_wp2_with fail
  rw [show sV (parL o.path) = .string (parB o.path) from rfl]
  generalize hpb : parB o.path = pb at *
  have HPB : Hid (parB o.path = pb) := hpb
  clear hpb
  refine (l3Find_any w2 _ ns pb (HR.out.below B2.out) (by omega)).mono ?_
  rintro e w3 ⟨rfl, rfl⟩
  by_cases hf : ns.findIdx (isP pb) < ns.length
  rotate_left
  · rw [if_pos hf] at HD
    rw [show fdV ns pb = -1 by unfold fdV; rw [if_neg hf]]
    clear hf
    go_wp2
    exact bodyPost_ret (v := .tuple #[.int .i64 2, .slice ao ns.length ca, .string ⟨#[]⟩]) (by simp [results, Tryz.results20, go_sem]) rfl ⟨_, by rw [HD.out], by rw [HD.out]; exact HR.out.below B2.out, .inl rfl, B2.out⟩
  rw [if_neg (by simpa using hf)] at HD
  rw [show fdV ns pb = ((ns.findIdx (isP pb) : Nat) : Int) by unfold fdV; rw [if_pos hf]]
  have HNM : Hid (nameO ns o = if o.seq then ⟨(o.path.data.toList ++ six 12 (nAt ns (ns.findIdx (isP pb))).cver.toNat 6).toArray⟩ else o.path) := by show _ = _; unfold nameO; rw [HPB.out]
  generalize ns.findIdx (isP pb) = k at *
  have hI : ¬ (k : Int) < 0 := by omega
  have hkI : (k : Int) < (ns.length : Int) := by omega
  obtain ⟨b, oo, hao, hb, hc⟩ : ∃ b o, ao = some ⟨b, o, none⟩ ∧ b < w.heap.size ∧ CellsN w b (o + k * 7) (nAt ns k) := by
    obtain ⟨ao', cap', e', -, -, h3⟩ := HR.out
    simp only [Value.slice.injEq] at e'
    obtain ⟨rfl, -, -⟩ := e'
    rcases h3 with h3 | ⟨b, o, rfl, hb, hc⟩
    · rw [h3] at hf; simp at hf
    · exact ⟨b, o, rfl, hb, hc k hf⟩
  subst hao
  have hcvk := cv_at (cv_of HO.out) k hf
  have hcv0 : 0 ≤ (nAt ns k).cver := by
    have := HO.out k hf
    unfold okNd okS at this
    simp only [Bool.and_eq_true, decide_eq_true_eq] at this
    omega
  obtain ⟨a0, a1, a2, a3, a4, a5, a6⟩ := hc.below B2.out hb
  generalize nAt ns k = m at *
  clear hc
  obtain ⟨xl, c0, c1, c2, c3, c4⟩ := X2.out
  cases hsq : o.seq with
  | false =>
    rw [hsq] at c4
    have HNE : Hid (nameO ns o = o.path) := by show _ = _; rw [HNM.out, hsq]; rfl
    clear a0 a1 a2 a4 a5 a6
    go_wp2_with fail
    clear xl c0 c1 c2 c3 c4 a3
    have B4 : Hid (Below w.heap.size w w3) := B2.out
    have X4 : Hid (BoxO w3 w.heap.size o) := X2.out
    have hns : o.path.size ≤ 1000000 := by have := okPath_size HPK.out; omega
    clear B2 X2 HNM
    rw [HNE.out] at HD
    generalize o.path = nm at *
    refine (specPath_any w3 nm (by omega)).mono ?_
    rintro e w5 ⟨rfl, b5⟩
    have B5 : Hid (Below w.heap.size w w5) := B4.out.trans (b5.mono B4.out.size)
    have X5 : Hid (BoxO w5 w.heap.size o) := X4.out.below b5
    clear b5 B4 X4
    cases hok2 : okPath nm with
    | false =>
      rw [hok2] at HD
      clear hok2
      go_wp2
      exact bodyPost_ret (v := .tuple #[.int .i64 1, .slice (some ⟨b, oo, none⟩) ns.length ca, .string ⟨#[]⟩]) (by simp [results, Tryz.results20, go_sem]) rfl ⟨_, by rw [HD.out]; rfl, by rw [HD.out]; exact HR.out.below B5.out, .inl rfl, B5.out⟩
    | true =>
      rw [hok2] at HD
      clear hok2
      go_wp2_with fail
      refine (l3Find_any w5 _ ns nm (HR.out.below B5.out) (by omega)).mono ?_
      rintro e w6 ⟨rfl, rfl⟩
      by_cases hg : ns.findIdx (isP nm) < ns.length
      · have hgI : (0 : Int) ≤ ((ns.findIdx (isP nm) : Nat) : Int) := by omega
        rw [show fdV ns nm = ((ns.findIdx (isP nm) : Nat) : Int) by unfold fdV; rw [if_pos hg]]
        simp only [Bool.not_true, Bool.false_eq_true, if_false] at HD
        rw [if_pos hg] at HD
        generalize ns.findIdx (isP nm) = g at *
        go_wp2
        exact bodyPost_ret (v := .tuple #[.int .i64 3, .slice (some ⟨b, oo, none⟩) ns.length ca, .string ⟨#[]⟩]) (by simp [results, Tryz.results20, go_sem]) rfl ⟨_, by rw [HD.out], by rw [HD.out]; exact HR.out.below B5.out, .inl rfl, B5.out⟩
      · rw [show fdV ns nm = -1 by unfold fdV; rw [if_neg hg]]
        simp only [Bool.not_true, Bool.false_eq_true, if_false] at HD
        rw [if_neg hg] at HD
        clear hg
        by_cases h1000 : ns.length = 1000
        · rw [if_pos h1000] at HD
          have hlb : ((ns.length : Int) == 1000) = true := by simp; omega
          clear h1000
          go_wp2
          exact bodyPost_ret (v := .tuple #[.int .i64 6, .slice (some ⟨b, oo, none⟩) ns.length ca, .string ⟨#[]⟩]) (by simp [results, Tryz.results20, go_sem]) rfl ⟨_, by rw [HD.out], by rw [HD.out]; exact HR.out.below B5.out, .inl rfl, B5.out⟩
        · rw [if_neg h1000] at HD
          have hlb : ((ns.length : Int) == 1000) = false := by simp; omega
          clear h1000
          obtain ⟨xl, c0, c1, c2, c3, c4⟩ := X5.out
          go_wp2_with fail
          clear xl c0 c1 c2 c3 c4
          have ba : Below w6.heap.size w6 (w6.alloc (.cells #[.string nm, .string o.data, .int .i64 0, .int .i64 0, .int .i64 z, .int .i64 z, .int .i64 z] 70)) := (Below.refl _ _).alloc (Nat.le_refl _) _
          have B6 : Hid (Below w.heap.size w (w6.alloc (.cells #[.string nm, .string o.data, .int .i64 0, .int .i64 0, .int .i64 z, .int .i64 z, .int .i64 z] 70))) := B5.out.trans (ba.mono B5.out.size)
          clear ba
          generalize w6.alloc (.cells #[.string nm, .string o.data, .int .i64 0, .int .i64 0, .int .i64 z, .int .i64 z, .int .i64 z] 70) = w6' at *
          refine (with_any _ _ ns ⟨nm, o.data, 0, 0, z, z, z⟩ (HR.out.below B6.out) (by omega)).mono ?_
          rintro e w7 ⟨v7, rfl, o7, b7⟩
          obtain ⟨a7, k7, hv7⟩ := o7.slice
          subst hv7
          have hwl := wiN_len ns ⟨nm, o.data, 0, 0, z, z, z⟩
          have HCV : Hid (∀ k, k < (wiN ns ⟨nm, o.data, 0, 0, z, z, z⟩).length → -1 ≤ (nAt (wiN ns ⟨nm, o.data, 0, 0, z, z, z⟩) k).cver ∧ (nAt (wiN ns ⟨nm, o.data, 0, 0, z, z, z⟩) k).cver ≤ 2147483647) := cv_at (fun m hm => by
            rcases wi_mem hm with h9 | h9
            · exact cv_of HO.out m h9
            · rw [h9]; simp)
          have R7 : Hid (RdN w7 (.slice a7 (wiN ns ⟨nm, o.data, 0, 0, z, z, z⟩).length k7) (wiN ns ⟨nm, o.data, 0, 0, z, z, z⟩)) := o7.rd
          have F7 : Hid (New w (.slice a7 (wiN ns ⟨nm, o.data, 0, 0, z, z, z⟩).length k7)) := OwnN.new9 o7 B6.out.size
          have B7 : Hid (Below w.heap.size w w7) := B6.out.trans (b7.mono B6.out.size)
          clear o7 b7 B6 B5 X5
          generalize wiN ns ⟨nm, o.data, 0, 0, z, z, z⟩ = WN at *
          go_wp2_with fail
          refine (l3Touch_any w7 _ WN pb z R7.out (by omega) HCV.out).mono ?_
          rintro e w8 ⟨v8, rfl, r8, f8, b8⟩
          obtain ⟨a8, k8, hv8, -, -⟩ := r8.len
          subst hv8
          have R8 : Hid (RdN w8 (.slice a8 (toN WN pb z).length k8) (toN WN pb z)) := r8
          have F8 : Hid (New w (.slice a8 (toN WN pb z).length k8)) := f8.new F7.out B7.out.size
          have B8 : Hid (Below w.heap.size w w8) := B7.out.trans (b8.mono B7.out.size)
          clear r8 f8 b8 B7 R7 F7 HCV
          go_wp2
          exact bodyPost_ret (v := .tuple #[.int .i64 0, .slice a8 (toN WN pb z).length k8, .string nm]) (by simp [results, Tryz.results20, go_sem]) rfl ⟨_, by rw [HD.out], by rw [HD.out]; exact R8.out, .inr F8.out, B8.out⟩
  | true =>
    rw [hsq] at c4
    obtain ⟨cvn, hcvn⟩ : ∃ n : Nat, m.cver = (n : Int) := ⟨m.cver.toNat, by omega⟩
    rw [hcvn] at a3
    clear a0 a1 a2 a4 a5 a6
    have h10 : cvn < 10 ^ 11 := by
      have : (10 : Nat) ^ 11 = 100000000000 := by decide
      omega
    go_wp2_with fail
    refine (l3Six_any 11 w3 cvn 6 (by omega) h10 (by omega) (by decide) (by omega) (by omega)).mono ?_
    rintro e w4 ⟨rfl, b4⟩
    have h6 := six_len 12 cvn 6
    have hps := okPath_size HPK.out
    have HNE : Hid (nameO ns o = o.path ++ ⟨(six 12 cvn 6).toArray⟩) := by
      show _ = _
      rw [HNM.out, hsq, hcvn]
      apply ByteArray.ext
      simp [ByteArray.data_append]
    have hsz : (o.path ++ (⟨(six 12 cvn 6).toArray⟩ : ByteArray)).size ≤ 1000000 := by
      rw [ByteArray.size_append]
      have : (⟨(six 12 cvn 6).toArray⟩ : ByteArray).size = (six 12 cvn 6).length := by simp [ByteArray.size]
      omega
    have B4 : Hid (Below w.heap.size w w4) := B2.out.trans (b4.mono B2.out.size)
    have X4 : Hid (BoxO w4 w.heap.size o) := X2.out.below b4
    clear b4 B2 X2 HNM xl c0 c1 c2 c3 c4 a3 h10
    have e66 : (6 : Int).toNat = 6 := rfl
    rw [e66]
    clear e66
    generalize six 12 cvn 6 = SX at *
    have hlS : o.path.size + SX.length ≤ 9223372036854775807 := by omega
    go_wp2_with fail
    rw [HNE.out] at HD
    clear HNE
    have hns := hsz
    clear hsz hlS
    generalize o.path ++ (⟨SX.toArray⟩ : ByteArray) = nm at *
    refine (specPath_any w4 nm (by omega)).mono ?_
    rintro e w5 ⟨rfl, b5⟩
    have B5 : Hid (Below w.heap.size w w5) := B4.out.trans (b5.mono B4.out.size)
    have X5 : Hid (BoxO w5 w.heap.size o) := X4.out.below b5
    clear b5 B4 X4
    cases hok2 : okPath nm with
    | false =>
      rw [hok2] at HD
      clear hok2
      go_wp2
      exact bodyPost_ret (v := .tuple #[.int .i64 1, .slice (some ⟨b, oo, none⟩) ns.length ca, .string ⟨#[]⟩]) (by simp [results, Tryz.results20, go_sem]) rfl ⟨_, by rw [HD.out]; rfl, by rw [HD.out]; exact HR.out.below B5.out, .inl rfl, B5.out⟩
    | true =>
      rw [hok2] at HD
      clear hok2
      go_wp2_with fail
      refine (l3Find_any w5 _ ns nm (HR.out.below B5.out) (by omega)).mono ?_
      rintro e w6 ⟨rfl, rfl⟩
      by_cases hg : ns.findIdx (isP nm) < ns.length
      · have hgI : (0 : Int) ≤ ((ns.findIdx (isP nm) : Nat) : Int) := by omega
        rw [show fdV ns nm = ((ns.findIdx (isP nm) : Nat) : Int) by unfold fdV; rw [if_pos hg]]
        simp only [Bool.not_true, Bool.false_eq_true, if_false] at HD
        rw [if_pos hg] at HD
        generalize ns.findIdx (isP nm) = g at *
        go_wp2
        exact bodyPost_ret (v := .tuple #[.int .i64 3, .slice (some ⟨b, oo, none⟩) ns.length ca, .string ⟨#[]⟩]) (by simp [results, Tryz.results20, go_sem]) rfl ⟨_, by rw [HD.out], by rw [HD.out]; exact HR.out.below B5.out, .inl rfl, B5.out⟩
      · rw [show fdV ns nm = -1 by unfold fdV; rw [if_neg hg]]
        simp only [Bool.not_true, Bool.false_eq_true, if_false] at HD
        rw [if_neg hg] at HD
        clear hg
        by_cases h1000 : ns.length = 1000
        · rw [if_pos h1000] at HD
          have hlb : ((ns.length : Int) == 1000) = true := by simp; omega
          clear h1000
          go_wp2
          exact bodyPost_ret (v := .tuple #[.int .i64 6, .slice (some ⟨b, oo, none⟩) ns.length ca, .string ⟨#[]⟩]) (by simp [results, Tryz.results20, go_sem]) rfl ⟨_, by rw [HD.out], by rw [HD.out]; exact HR.out.below B5.out, .inl rfl, B5.out⟩
        · rw [if_neg h1000] at HD
          have hlb : ((ns.length : Int) == 1000) = false := by simp; omega
          clear h1000
          obtain ⟨xl, c0, c1, c2, c3, c4⟩ := X5.out
          go_wp2_with fail
          clear xl c0 c1 c2 c3 c4
          have ba : Below w6.heap.size w6 (w6.alloc (.cells #[.string nm, .string o.data, .int .i64 0, .int .i64 0, .int .i64 z, .int .i64 z, .int .i64 z] 70)) := (Below.refl _ _).alloc (Nat.le_refl _) _
          have B6 : Hid (Below w.heap.size w (w6.alloc (.cells #[.string nm, .string o.data, .int .i64 0, .int .i64 0, .int .i64 z, .int .i64 z, .int .i64 z] 70))) := B5.out.trans (ba.mono B5.out.size)
          clear ba
          generalize w6.alloc (.cells #[.string nm, .string o.data, .int .i64 0, .int .i64 0, .int .i64 z, .int .i64 z, .int .i64 z] 70) = w6' at *
          refine (with_any _ _ ns ⟨nm, o.data, 0, 0, z, z, z⟩ (HR.out.below B6.out) (by omega)).mono ?_
          rintro e w7 ⟨v7, rfl, o7, b7⟩
          obtain ⟨a7, k7, hv7⟩ := o7.slice
          subst hv7
          have hwl := wiN_len ns ⟨nm, o.data, 0, 0, z, z, z⟩
          have HCV : Hid (∀ k, k < (wiN ns ⟨nm, o.data, 0, 0, z, z, z⟩).length → -1 ≤ (nAt (wiN ns ⟨nm, o.data, 0, 0, z, z, z⟩) k).cver ∧ (nAt (wiN ns ⟨nm, o.data, 0, 0, z, z, z⟩) k).cver ≤ 2147483647) := cv_at (fun m hm => by
            rcases wi_mem hm with h9 | h9
            · exact cv_of HO.out m h9
            · rw [h9]; simp)
          have R7 : Hid (RdN w7 (.slice a7 (wiN ns ⟨nm, o.data, 0, 0, z, z, z⟩).length k7) (wiN ns ⟨nm, o.data, 0, 0, z, z, z⟩)) := o7.rd
          have F7 : Hid (New w (.slice a7 (wiN ns ⟨nm, o.data, 0, 0, z, z, z⟩).length k7)) := OwnN.new9 o7 B6.out.size
          have B7 : Hid (Below w.heap.size w w7) := B6.out.trans (b7.mono B6.out.size)
          clear o7 b7 B6 B5 X5
          generalize wiN ns ⟨nm, o.data, 0, 0, z, z, z⟩ = WN at *
          go_wp2_with fail
          refine (l3Touch_any w7 _ WN pb z R7.out (by omega) HCV.out).mono ?_
          rintro e w8 ⟨v8, rfl, r8, f8, b8⟩
          obtain ⟨a8, k8, hv8, -, -⟩ := r8.len
          subst hv8
          have R8 : Hid (RdN w8 (.slice a8 (toN WN pb z).length k8) (toN WN pb z)) := r8
          have F8 : Hid (New w (.slice a8 (toN WN pb z).length k8)) := f8.new F7.out B7.out.size
          have B8 : Hid (Below w.heap.size w w8) := B7.out.trans (b8.mono B7.out.size)
          clear r8 f8 b8 B7 R7 F7 HCV
          go_wp2
          exact bodyPost_ret (v := .tuple #[.int .i64 0, .slice a8 (toN WN pb z).length k8, .string nm]) (by simp [results, Tryz.results20, go_sem]) rfl ⟨_, by rw [HD.out], by rw [HD.out]; exact R8.out, .inr F8.out, B8.out⟩


set_option maxHeartbeats 2000000 in
set_option maxRecDepth 100000 in
theorem l3Do_check (w : World) (v : Value) (ns : List Nd) (o : Op5) (z : Int) (h : RdN w v ns) (hn : ns.length ≤ 1000) (hp : o.path.size ≤ 1048576) (hd : o.data.size ≤ 1048576) (hw : wfO o = true) (hk : o.kind = 4) :
    Calls Tryz.prog 20 #[v, .agg #[.int .i64 o.kind, .string o.path, .string o.data, .int .i64 o.ver, .bool o.seq], .int .i64 z] w fun e w' => DoPost w v ns o z e w' := by
  obtain ⟨ao, ca, rfl, _, _⟩ := h.len
  have HR : Hid (RdN w (.slice ao ns.length ca) ns) := h
  have HW : Hid (wfO o = true) := hw
  have hk1 : (o.kind == 1) = false := by simp [hk]
  have hk2 : (o.kind == 2) = false := by simp [hk]
  have hk3 : (o.kind == 3) = false := by simp [hk]
  have HD : Hid (doO ns o z = if ¬ ns.findIdx (isP o.path) < ns.length then (2, ns, ⟨#[]⟩)
    else if o.ver ≠ -1 ∧ o.ver ≠ (nAt ns (ns.findIdx (isP o.path))).ver then (4, ns, ⟨#[]⟩)
    else (0, ns, o.path)) := by
    show _ = _
    unfold doO
    rw [hw, if_neg (by simp), if_neg (by omega), if_neg (show ¬ o.kind = 2 by omega), if_neg (show ¬ o.kind = 3 by omega)]
  have B0 : Hid (Below w.heap.size w (w.alloc (.cells #[.int .i64 o.kind, .string o.path, .string o.data, .int .i64 o.ver, .bool o.seq] 58))) := (Below.refl _ _).alloc (Nat.le_refl _) _
  have X0 : Hid (BoxO (w.alloc (.cells #[.int .i64 o.kind, .string o.path, .string o.data, .int .i64 o.ver, .bool o.seq] 58)) w.heap.size o) := BoxO.new _ _ _
  clear h hw hk
  go_enter Tryz.func20, Tryz.ntmps20
  go_wp2_with fail
  generalize w.alloc (.cells #[.int .i64 o.kind, .string o.path, .string o.data, .int .i64 o.ver, .bool o.seq] 58) = w0 at *
  refine (l3Well_any _ o hp hd).mono ?_
  rintro e w1 ⟨rfl, b1⟩
  rw [HW.out]
  have B1 : Hid (Below w.heap.size w w1) := B0.out.trans (b1.mono B0.out.size)
  have X1 : Hid (BoxO w1 w.heap.size o) := X0.out.below b1
  clear b1 B0 X0
  obtain ⟨xl, c0, c1, c2, c3, c4⟩ := X1.out
  go_wp2_with fail
  clear xl c0 c1 c2 c3 c4
  refine (l3Find_any w1 _ ns o.path (HR.out.below B1.out) (by omega)).mono ?_
  rintro e w3 ⟨rfl, rfl⟩
  by_cases hf : ns.findIdx (isP o.path) < ns.length
  rotate_left
  · rw [if_pos hf] at HD
    rw [show fdV ns o.path = -1 by unfold fdV; rw [if_neg hf]]
    clear hf
    go_wp2
    exact bodyPost_ret (v := .tuple #[.int .i64 2, .slice ao ns.length ca, .string ⟨#[]⟩]) (by simp [results, Tryz.results20, go_sem]) rfl ⟨_, by rw [HD.out], by rw [HD.out]; exact HR.out.below B1.out, .inl rfl, B1.out⟩
  rw [if_neg (by simpa using hf)] at HD
  rw [show fdV ns o.path = ((ns.findIdx (isP o.path) : Nat) : Int) by unfold fdV; rw [if_pos hf]]
  generalize ns.findIdx (isP o.path) = k at *
  have hI : ¬ (k : Int) < 0 := by omega
  have hkI : (k : Int) < (ns.length : Int) := by omega
  obtain ⟨b, oo, hao, hb, hc⟩ : ∃ b o, ao = some ⟨b, o, none⟩ ∧ b < w.heap.size ∧ CellsN w b (o + k * 7) (nAt ns k) := by
    obtain ⟨ao', cap', e', -, -, h3⟩ := HR.out
    simp only [Value.slice.injEq] at e'
    obtain ⟨rfl, -, -⟩ := e'
    rcases h3 with h3 | ⟨b, o, rfl, hb, hc⟩
    · rw [h3] at hf; simp at hf
    · exact ⟨b, o, rfl, hb, hc k hf⟩
  subst hao
  obtain ⟨a0, a1, a2, a3, a4, a5, a6⟩ := hc.below B1.out hb
  generalize nAt ns k = m at *
  clear hc a0 a1 a3 a4 a5 a6
  obtain ⟨xl, c0, c1, c2, c3, c4⟩ := X1.out
  by_cases hv : o.ver ≠ -1 ∧ o.ver ≠ m.ver
  · rw [if_pos hv] at HD
    have hv1 : (o.ver != -1) = true := by simpa using hv.1
    have hv2 : (o.ver != m.ver) = true := by simpa using hv.2
    clear hv
    go_wp2
    go_quiet (fail)
    have BQ : Hid (Below w.heap.size w (w3.drewN nq)) := B1.out.trans ((below_drewN' w3 nq).mono B1.out.size)
    go_wp2
    exact bodyPost_ret (v := .tuple #[.int .i64 4, .slice (some ⟨b, oo, none⟩) ns.length ca, .string ⟨#[]⟩]) (by simp [results, Tryz.results20, go_sem]) rfl ⟨_, by rw [HD.out], by rw [HD.out]; exact HR.out.below BQ.out, .inl rfl, BQ.out⟩
  rw [if_neg hv] at HD
  have hcase : (o.ver != -1) = false ∨ ((o.ver != -1) = true ∧ (o.ver != m.ver) = false) := by
    by_cases e1 : o.ver = -1
    · exact .inl (by simp [e1])
    · by_cases e2 : o.ver = m.ver
      · exact .inr ⟨by simp [e1], by simp [e2]⟩
      · exact absurd ⟨e1, e2⟩ hv
  clear hv
  rcases hcase with hv1 | ⟨hv1, hv2⟩
  all_goals
    go_wp2
    go_quiet (fail)
    have BQ : Hid (Below w.heap.size w (w3.drewN nq)) := B1.out.trans ((below_drewN' w3 nq).mono B1.out.size)
    have XQ : Hid (BoxO (w3.drewN nq) w.heap.size o) := X1.out.below (below_drewN' w3 nq)
    clear xl c0 c1 c2 c3 c4 a2
    generalize w3.drewN nq = wq at *
    obtain ⟨xl, c0, c1, c2, c3, c4⟩ := XQ.out
    go_wp2
    go_quiet (fail)
    have BZ : Hid (Below w.heap.size w (wq.drewN nq)) := BQ.out.trans ((below_drewN' wq nq).mono BQ.out.size)
    go_wp2
    exact bodyPost_ret (v := .tuple #[.int .i64 0, .slice (some ⟨b, oo, none⟩) ns.length ca, .string o.path]) (by simp [results, Tryz.results20, go_sem]) rfl ⟨_, by rw [HD.out], by rw [HD.out]; exact HR.out.below BZ.out, .inl rfl, BZ.out⟩

end Go.Proofs.YtejhcebodlcloaaGreatDoor


