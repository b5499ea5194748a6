import Derived.Test.YtejhcebodlcloaaGreatDoorJ14
import Derived.Test.YtejhcebodlcloaaGreatDoorJ21
import Derived.Test.YtejhcebodlcloaaGreatDoorJ13
namespace Go.Proofs.YtejhcebodlcloaaGreatDoor
open Go.RowKit Go.Shelf

/-- The head of what is read, and the rest. -/
theorem RdN.head9 {w : World} {ao : Option Addr} {n c : Nat} {a : Nd} {R : List Nd} (h : RdN w (.slice ao n c) (a :: R)) : n = R.length + 1 ∧ n ≤ c ∧ c ≤ maxLen ∧ ∃ b off, ao = some ⟨b, off, none⟩ ∧ b < w.heap.size ∧ CellsN w b off a ∧ RdN w (.slice (if c = 1 then some ⟨b, off, none⟩ else some ⟨b, off + 7, none⟩) R.length (c - 1)) R := by
  obtain ⟨a', c', e, h1, h2, h3⟩ := h
  simp only [Value.slice.injEq, List.length_cons] at e
  obtain ⟨rfl, rfl, rfl⟩ := e
  refine ⟨rfl, h1, h2, ?_⟩
  rcases h3 with h3 | ⟨b, off, rfl, hb, hc⟩
  · cases h3
  refine ⟨b, off, rfl, hb, ?_, ?_⟩
  · have := hc 0 (by simp)
    simpa [nAt] using this
  · refine ⟨_, _, rfl, by simp at h1; omega, by omega, ?_⟩
    by_cases hR : R = []
    · exact .inl hR
    · have : 0 < R.length := List.length_pos_iff.2 hR
      simp at h1
      rw [if_neg (by omega)]
      refine .inr ⟨b, off + 7, rfl, hb, fun i hi => ?_⟩
      have := hc (i + 1) (by simp; omega)
      rw [show off + (i + 1) * 7 = off + 7 + i * 7 by omega] at this
      simpa [nAt] using this
theorem dif_del9 (a : Nd) (R : List Nd) : dif (a :: R) [] = delE a :: dif R [] := by
  cases R with
  | nil => simp [dif]
  | cons x R => simp [dif]
theorem dif_put9 (b : Nd) (R : List Nd) : dif [] (b :: R) = putE b :: dif [] R := by simp [dif]
theorem dif_lt9 {a b : Nd} (A B : List Nd) (h : ltP a.path b.path = true) : dif (a :: A) (b :: B) = delE a :: dif A (b :: B) := by
  rw [dif, if_neg (by rw [ltP_asymm h]; decide), if_pos h]
theorem dif_gt9 {a b : Nd} (A B : List Nd) (h : ltP b.path a.path = true) : dif (a :: A) (b :: B) = putE b :: dif (a :: A) B := by
  rw [dif, if_pos h]
theorem dif_eq9 {a b : Nd} (A B : List Nd) (h : ltP a.path b.path = false) (h2 : ltP b.path a.path = false) : dif (a :: A) (b :: B) = if eqNd a b then dif A B else putE b :: dif A B := by
  rw [dif, if_neg (by rw [h2]; decide), if_neg (by rw [h]; decide)]

set_option linter.unusedSimpArgs false in
set_option maxHeartbeats 4000000 in
set_option maxRecDepth 100000 in
theorem diffs_any (w : World) (va vb : Value) (Al Bl : List Nd) (ha : RdN w va Al) (hb : RdN w vb Bl) (hna : Al.length ≤ 1000) (hnb : Bl.length ≤ 1000) :
    Calls Tryz.prog 29 #[va, vb] w fun e w' => ∃ v', e = .returned v' ∧ OwnE 100 w' w.heap.size v' (dif Al Bl) ∧ Below w.heap.size w w' := by
  obtain ⟨i0, hi0, hz0, hz1, hz2⟩ := info_parts Tryz.infoEP
  obtain ⟨res, hres⟩ : ∃ res, res = dif Al Bl := ⟨_, rfl⟩
  have HDL : Hid (res.length ≤ 2000) := by show _ ≤ _; rw [hres]; have := dif_len Al Bl; omega
  have HA := hd9 ha
  have HB := hd9 hb
  have HRS : Hid ([] ++ dif Al Bl = res) := by show _ = _; rw [hres]; rfl
  rw [← hres]
  clear ha hb hres
  go_enter Tryz.func29, Tryz.ntmps29
  go_wp2_with fail
  go_loopw [0, 1, 5] (fun ua ub ue wr => ∃ (Ak Bk : List Nd) (acc : List Ef) (xa xb xe : Value), xa = ua ∧ xb = ub ∧ xe = ue ∧ Ak.length + Bk.length ≤ 2000 ∧ Hid (RdN w xa Ak) ∧ Hid (RdN w xb Bk) ∧ Hid (acc ++ dif Ak Bk = res) ∧ Hid (OwnE 100 wr w.heap.size xe acc) ∧ Hid (Below w.heap.size w wr)) (fun ua ub _ _ => (match ua with | .slice _ n _ => n | _ => 0) + (match ub with | .slice _ n _ => n | _ => 0))
  case atStart => exact ⟨Al, Bl, [], _, _, _, rfl, rfl, rfl, by omega, HA, HB, HRS, World.ownsRow_nil _ _ _ _, Below.refl _ _⟩
  case round =>
    clear HA HB HRS
    obtain ⟨Ak, Bk, acc, xa, xb, xe, rfl, rfl, rfl, hlen, RA, RB, HRS, OE, BK⟩ := hrel
    obtain ⟨aa, ca, rfl, -, -⟩ := RA.out.len
    obtain ⟨ab, cb, rfl, -, -⟩ := RB.out.len
    obtain ⟨ae, ce, rfl⟩ := OE.out.slice9
    have sB := BK.out.size
    cases Ak with
    | nil =>
      cases Bk with
      | nil =>
        have HN : Hid (acc = res) := by have := HRS.out; simp [dif] at this; exact this
        go_wp2_with fail
        rw [← HN.out]
        exact bodyPost_ret (v := .slice ae acc.length ce) (by simp [results, Tryz.results29, go_sem]) rfl ⟨_, rfl, OE.out, BK.out⟩
      | cons b Bs =>
        obtain ⟨-, hncb, hcmb, b2, o2, rfl, hb2, hce, hrd⟩ := RB.out.head9
        have RT := hd9 hrd
        have HCB := hd9 hce
        have HN : Hid ((acc ++ [putE b]) ++ dif [] Bs = res) := by have := HRS.out; rw [dif_put9] at this; show _ = _; rw [List.append_assoc]; exact this
        have hal : acc.length + 1 ≤ 2000 := by have := HDL.out; rw [← HN.out] at this; simp at this; omega
        have hB1 : ¬ ((Bs.length : Int) + 1 = 0) := by omega
        clear RB hce hrd HRS
        go_wp2_with fail
        have OE2 : Hid (OwnE 100 wr.drew w.heap.size (.slice ae acc.length ce) acc) := OE.out.below (below_drewN' wr 1)
        have BK2 : Hid (Below w.heap.size w wr.drew) := BK.out.trans ((below_drewN' wr 1).mono BK.out.size)
        clear OE BK
        have OE := OE2
        have BK := BK2
        clear OE2 BK2
        refine wp_region_held_drew (S := fun W => True) (by kernel_rfl) trivial (fun hHeld => ?_)
        generalize wr.drew = wa at *
        iterate 2 (refine tkI9 ?_ (by kernel_rfl) (fun _ => id) hHeld ?_ ?_; rotate_left; · intro w9 hS9; clear hS9; go_simp; try with_reducible rfl)
        refine tkI9 (.bool false) (by kernel_rfl) (fun _ => id) hHeld ?_ ?_
        · intro w9 hS9; clear hS9; go_simp; try (first | rfl | omega | simp_all)
        iterate 5 (refine tkI9 ?_ (by kernel_rfl) (fun _ => id) hHeld ?_ ?_; rotate_left; · intro w9 hS9; clear hS9; go_simp; try with_reducible rfl)
        iterate 9 (refine tkN9 (by kernel_rfl) (fun _ => id) hHeld ?_)
        iterate 3 (refine tkI9 ?_ (by kernel_rfl) (fun _ => id) hHeld ?_ ?_; rotate_left; · intro w9 hS9; clear hS9; go_simp; try with_reducible rfl)
        refine wpAnyH_done (by kernel_rfl) ?_ _
        simp only [Act.put, sT9, sZ9, sS9]
        clear hHeld
        go_wp2_with fail
        have OE2 : Hid (OwnE 100 wa.drew w.heap.size (.slice ae acc.length ce) acc) := OE.out.below (below_drewN' wa 1)
        have BK2 : Hid (Below w.heap.size w wa.drew) := BK.out.trans ((below_drewN' wa 1).mono BK.out.size)
        clear OE BK
        have OE := OE2
        have BK := BK2
        clear OE2 BK2
        refine wp_region_held_drew (S := fun W => True) (by kernel_rfl) trivial (fun hHeld => ?_)
        generalize wa.drew = wb at *
        iterate 4 (refine tkI9 ?_ (by kernel_rfl) (fun _ => id) hHeld ?_ ?_; rotate_left; · intro w9 hS9; clear hS9; go_simp; try with_reducible rfl)
        iterate 9 (refine tkN9 (by kernel_rfl) (fun _ => id) hHeld ?_)
        iterate 2 (refine tkI9 ?_ (by kernel_rfl) (fun _ => id) hHeld ?_ ?_; rotate_left; · intro w9 hS9; clear hS9; go_simp; try with_reducible rfl)
        refine wpAnyH_done (by kernel_rfl) ?_ _
        simp only [Act.put, sT9, sZ9, sS9]
        clear hHeld
        obtain ⟨y0, y1, y2, y3, y4, y5, y6⟩ := (HCB.out.below BK.out hb2).all
        have sB := BK.out.size
        have HO9 : Hid (OwnE 100 wb w.heap.size (.slice ae acc.length ce) acc) := OE
        have HB9 : Hid (Below w.heap.size w wb) := BK
        go_wp2_with (at_builtin; go_must (refine wpList_append_own _ rfl _ _ 31 rfl w.heap.size 100 i0 (.agg #[.bool false, .string ByteArray.empty, .string ByteArray.empty, .int .i64 0, .int .i64 0, .int .i64 0, .int .i64 0, .int .i64 0]) 8 80 Tryz.underlying31 hi0 hz0 hz1 hz2 rfl (by decide) _ _ _ rfl (HO9.out.alloc _) ⟨wb.heap.size, 0, none⟩ 1 1 (efL (putE b)) rfl rfl (efLP_cells _ _ _) (efLP_one _) ?c1 ?c2 ?c3 ?_))
        case c1 => unfold maxLen; omega
        case c2 => omega
        case c3 => simp; omega
        intro v5 w5 ho5 hg5 _
        obtain ⟨o5, b5⟩ := HO9.out.snocP HB9.out ho5 hg5
        have O5 : Hid (OwnE 100 w5 w.heap.size v5 (acc ++ [putE b])) := o5
        have B5 : Hid (Below w.heap.size w w5) := b5
        clear o5 b5 ho5 hg5 HO9 HB9
        go_wp2_with fail
        exact ⟨⟨[], Bs, acc ++ [putE b], _, _, _, rfl, rfl, rfl, by simp at hlen ⊢; omega, RA, RT, HN, O5, B5⟩, by simp⟩
    | cons a As =>
      obtain ⟨-, hnca, hcma, b1, o1, rfl, hb1, hce, hrd⟩ := RA.out.head9
      have RTA := hd9 hrd
      have HCA := hd9 hce
      clear hce hrd
      cases Bk with
      | nil =>
        obtain ⟨x0, x1, x2, x3, x4, x5, x6⟩ := (HCA.out.below BK.out hb1).all
        have HN : Hid ((acc ++ [delE a]) ++ dif As [] = res) := by have := HRS.out; rw [dif_del9] at this; show _ = _; rw [List.append_assoc]; exact this
        have hal : acc.length + 1 ≤ 2000 := by have := HDL.out; rw [← HN.out] at this; simp at this; omega
        clear RA HRS
        go_wp2_with fail
        go_quiet (fail)
        have HO9 : Hid (OwnE 100 (wr.drewN nq) w.heap.size (.slice ae acc.length ce) acc) := OE.out.below (below_drewN' wr nq)
        have HB9 : Hid (Below w.heap.size w (wr.drewN nq)) := BK.out.trans ((below_drewN' wr nq).mono BK.out.size)
        go_wp2_with (at_builtin; go_must (refine wpList_append_own _ rfl _ _ 31 rfl w.heap.size 100 i0 (.agg #[.bool false, .string ByteArray.empty, .string ByteArray.empty, .int .i64 0, .int .i64 0, .int .i64 0, .int .i64 0, .int .i64 0]) 8 80 Tryz.underlying31 hi0 hz0 hz1 hz2 rfl (by decide) _ _ _ rfl (HO9.out.alloc _) ⟨(wr.drewN nq).heap.size, 0, none⟩ 1 1 (efL (delE a)) rfl rfl (efLP_cells _ _ _) (efLP_one _) ?c1 ?c2 ?c3 ?_))
        case c1 => unfold maxLen; omega
        case c2 => omega
        case c3 => simp; omega
        intro v5 w5 ho5 hg5 _
        obtain ⟨o5, b5⟩ := HO9.out.snocP HB9.out ho5 hg5
        have O5 : Hid (OwnE 100 w5 w.heap.size v5 (acc ++ [delE a])) := o5
        have B5 : Hid (Below w.heap.size w w5) := b5
        clear o5 b5 ho5 hg5 HO9 HB9
        go_wp2_with fail
        exact ⟨⟨As, [], acc ++ [delE a], _, _, _, rfl, rfl, rfl, by simp at hlen ⊢; omega, RTA, RB, HN, O5, B5⟩, by simp⟩
      | cons b Bs =>
        obtain ⟨-, hncb, hcmb, b2, o2, rfl, hb2, hce, hrd⟩ := RB.out.head9
        have RTB := hd9 hrd
        have HCB := hd9 hce
        clear hce hrd
        have hA1 : ¬ ((As.length : Int) + 1 = 0) := by omega
        have hB1 : ¬ ((Bs.length : Int) + 1 = 0) := by omega
        have hA2 : (0 : Int) < (As.length : Int) + 1 := by omega
        go_wp2_with fail
        have OE2 : Hid (OwnE 100 wr.drew w.heap.size (.slice ae acc.length ce) acc) := OE.out.below (below_drewN' wr 1)
        have BK2 : Hid (Below w.heap.size w wr.drew) := BK.out.trans ((below_drewN' wr 1).mono BK.out.size)
        clear OE BK
        have OE := OE2
        have BK := BK2
        clear OE2 BK2
        refine wp_region_held_drew (S := fun W => W.cell? ⟨b1, o1, none⟩ = some (.string a.path) ∧ W.cell? ⟨b2, o2, none⟩ = some (.string b.path)) (by kernel_rfl) ⟨(HCA.out.below BK.out hb1).all.1, (HCB.out.below BK.out hb2).all.1⟩ (fun hHeld => ?_)
        generalize wr.drew = wa at *
        cases hl1 : Op.bytesLess a.path.toList b.path.toList with
        | true =>
          have HN : Hid ((acc ++ [delE a]) ++ dif As (b :: Bs) = res) := by have := HRS.out; rw [dif_lt9 As Bs hl1] at this; show _ = _; rw [List.append_assoc]; exact this
          have hal : acc.length + 1 ≤ 2000 := by have := HDL.out; rw [← HN.out] at this; simp at this; omega
          iterate 2 (refine tkI9 ?_ (by kernel_rfl) (fun _ => id) hHeld ?_ ?_; rotate_left; · intro w9 hS9; clear hS9; go_simp; try with_reducible rfl)
          refine tkI9 (.bool false) (by kernel_rfl) (fun _ => id) hHeld ?_ ?_
          · intro w9 hS9; clear hS9; go_simp; try (first | rfl | omega | simp_all)
          iterate 3 (refine tkI9 ?_ (by kernel_rfl) (fun _ => id) hHeld ?_ ?_; rotate_left; · intro w9 hS9; clear hS9; go_simp; try with_reducible rfl)
          refine tkI9 (.bool true) (by kernel_rfl) (fun _ => id) hHeld ?_ ?_
          · intro w9 hS9; clear hS9; go_simp; try (first | rfl | omega | simp_all)
          iterate 1 (refine tkI9 ?_ (by kernel_rfl) (fun _ => id) hHeld ?_ ?_; rotate_left; · intro w9 hS9; clear hS9; go_simp; try with_reducible rfl)
          iterate 8 (refine tkI9 ?_ (by kernel_rfl) (fun _ => id) hHeld ?_ ?_; rotate_left; · intro w9 hS9; obtain ⟨k0, k1⟩ := hS9; go_simp; try with_reducible rfl)
          refine tkI9 (.bool true) (by kernel_rfl) (fun _ => id) hHeld ?_ ?_
          · intro w9 hS9; clear hS9; go_simp; try (first | rfl | omega | simp_all)
          iterate 3 (refine tkI9 ?_ (by kernel_rfl) (fun _ => id) hHeld ?_ ?_; rotate_left; · intro w9 hS9; clear hS9; go_simp; try with_reducible rfl)
          refine wpAnyH_done (by kernel_rfl) ?_ _
          simp only [Act.put, sT9, sZ9, sS9]
          clear hHeld hl1
          obtain ⟨x0, x1, x2, x3, x4, x5, x6⟩ := (HCA.out.below BK.out hb1).all
          have sB := BK.out.size
          have HO9 : Hid (OwnE 100 wa w.heap.size (.slice ae acc.length ce) acc) := OE
          have HB9 : Hid (Below w.heap.size w wa) := BK
          go_wp2_with (at_builtin; go_must (refine wpList_append_own _ rfl _ _ 31 rfl w.heap.size 100 i0 (.agg #[.bool false, .string ByteArray.empty, .string ByteArray.empty, .int .i64 0, .int .i64 0, .int .i64 0, .int .i64 0, .int .i64 0]) 8 80 Tryz.underlying31 hi0 hz0 hz1 hz2 rfl (by decide) _ _ _ rfl (HO9.out.alloc _) ⟨wa.heap.size, 0, none⟩ 1 1 (efL (delE a)) rfl rfl (efLP_cells _ _ _) (efLP_one _) ?c1 ?c2 ?c3 ?_))
          case c1 => unfold maxLen; omega
          case c2 => omega
          case c3 => simp; omega
          intro v5 w5 ho5 hg5 _
          obtain ⟨o5, b5⟩ := HO9.out.snocP HB9.out ho5 hg5
          have O5 : Hid (OwnE 100 w5 w.heap.size v5 (acc ++ [delE a])) := o5
          have B5 : Hid (Below w.heap.size w w5) := b5
          clear o5 b5 ho5 hg5 HO9 HB9
          go_wp2_with fail
          exact ⟨⟨As, b :: Bs, acc ++ [delE a], _, _, _, rfl, rfl, rfl, by simp at hlen ⊢; omega, RTA, RB, HN, O5, B5⟩, by simp⟩
        | false =>
          have HL1 := hd9 hl1
          iterate 2 (refine tkI9 ?_ (by kernel_rfl) (fun _ => id) hHeld ?_ ?_; rotate_left; · intro w9 hS9; clear hS9; go_simp; try with_reducible rfl)
          refine tkI9 (.bool false) (by kernel_rfl) (fun _ => id) hHeld ?_ ?_
          · intro w9 hS9; clear hS9; go_simp; try (first | rfl | omega | simp_all)
          iterate 3 (refine tkI9 ?_ (by kernel_rfl) (fun _ => id) hHeld ?_ ?_; rotate_left; · intro w9 hS9; clear hS9; go_simp; try with_reducible rfl)
          refine tkI9 (.bool true) (by kernel_rfl) (fun _ => id) hHeld ?_ ?_
          · intro w9 hS9; clear hS9; go_simp; try (first | rfl | omega | simp_all)
          iterate 1 (refine tkI9 ?_ (by kernel_rfl) (fun _ => id) hHeld ?_ ?_; rotate_left; · intro w9 hS9; clear hS9; go_simp; try with_reducible rfl)
          iterate 8 (refine tkI9 ?_ (by kernel_rfl) (fun _ => id) hHeld ?_ ?_; rotate_left; · intro w9 hS9; obtain ⟨k0, k1⟩ := hS9; go_simp; try with_reducible rfl)
          refine tkI9 (.bool false) (by kernel_rfl) (fun _ => id) hHeld ?_ ?_
          · intro w9 hS9; clear hS9; go_simp; try (first | rfl | omega | simp_all)
          iterate 3 (refine tkI9 ?_ (by kernel_rfl) (fun _ => id) hHeld ?_ ?_; rotate_left; · intro w9 hS9; clear hS9; go_simp; try with_reducible rfl)
          refine wpAnyH_done (by kernel_rfl) ?_ _
          simp only [Act.put, sT9, sZ9, sS9]
          clear hHeld hl1
          go_wp2_with fail
          have OE2 : Hid (OwnE 100 wa.drew w.heap.size (.slice ae acc.length ce) acc) := OE.out.below (below_drewN' wa 1)
          have BK2 : Hid (Below w.heap.size w wa.drew) := BK.out.trans ((below_drewN' wa 1).mono BK.out.size)
          clear OE BK
          have OE := OE2
          have BK := BK2
          clear OE2 BK2
          refine wp_region_held_drew (S := fun W => W.cell? ⟨b1, o1, none⟩ = some (.string a.path) ∧ W.cell? ⟨b2, o2, none⟩ = some (.string b.path)) (by kernel_rfl) ⟨(HCA.out.below BK.out hb1).all.1, (HCB.out.below BK.out hb2).all.1⟩ (fun hHeld => ?_)
          generalize wa.drew = wb at *
          cases hl2 : Op.bytesLess b.path.toList a.path.toList with
          | true =>
            have HN : Hid ((acc ++ [putE b]) ++ dif (a :: As) Bs = res) := by have := HRS.out; rw [dif_gt9 As Bs hl2] at this; show _ = _; rw [List.append_assoc]; exact this
            have hal : acc.length + 1 ≤ 2000 := by have := HDL.out; rw [← HN.out] at this; simp at this; omega
            iterate 2 (refine tkI9 ?_ (by kernel_rfl) (fun _ => id) hHeld ?_ ?_; rotate_left; · intro w9 hS9; clear hS9; go_simp; try with_reducible rfl)
            refine tkI9 (.bool false) (by kernel_rfl) (fun _ => id) hHeld ?_ ?_
            · intro w9 hS9; clear hS9; go_simp; try (first | rfl | omega | simp_all)
            iterate 1 (refine tkI9 ?_ (by kernel_rfl) (fun _ => id) hHeld ?_ ?_; rotate_left; · intro w9 hS9; clear hS9; go_simp; try with_reducible rfl)
            iterate 8 (refine tkI9 ?_ (by kernel_rfl) (fun _ => id) hHeld ?_ ?_; rotate_left; · intro w9 hS9; obtain ⟨k0, k1⟩ := hS9; go_simp; try with_reducible rfl)
            refine tkI9 (.bool true) (by kernel_rfl) (fun _ => id) hHeld ?_ ?_
            · intro w9 hS9; clear hS9; go_simp; try (first | rfl | omega | simp_all)
            iterate 2 (refine tkI9 ?_ (by kernel_rfl) (fun _ => id) hHeld ?_ ?_; rotate_left; · intro w9 hS9; clear hS9; go_simp; try with_reducible rfl)
            refine wpAnyH_done (by kernel_rfl) ?_ _
            simp only [Act.put, sT9, sZ9, sS9]
            clear hHeld hl2
            obtain ⟨y0, y1, y2, y3, y4, y5, y6⟩ := (HCB.out.below BK.out hb2).all
            have sB := BK.out.size
            have HO9 : Hid (OwnE 100 wb w.heap.size (.slice ae acc.length ce) acc) := OE
            have HB9 : Hid (Below w.heap.size w wb) := BK
            go_wp2_with (at_builtin; go_must (refine wpList_append_own _ rfl _ _ 31 rfl w.heap.size 100 i0 (.agg #[.bool false, .string ByteArray.empty, .string ByteArray.empty, .int .i64 0, .int .i64 0, .int .i64 0, .int .i64 0, .int .i64 0]) 8 80 Tryz.underlying31 hi0 hz0 hz1 hz2 rfl (by decide) _ _ _ rfl (HO9.out.alloc _) ⟨wb.heap.size, 0, none⟩ 1 1 (efL (putE b)) rfl rfl (efLP_cells _ _ _) (efLP_one _) ?c1 ?c2 ?c3 ?_))
            case c1 => unfold maxLen; omega
            case c2 => omega
            case c3 => simp; omega
            intro v5 w5 ho5 hg5 _
            obtain ⟨o5, b5⟩ := HO9.out.snocP HB9.out ho5 hg5
            have O5 : Hid (OwnE 100 w5 w.heap.size v5 (acc ++ [putE b])) := o5
            have B5 : Hid (Below w.heap.size w w5) := b5
            clear o5 b5 ho5 hg5 HO9 HB9
            go_wp2_with fail
            exact ⟨⟨a :: As, Bs, acc ++ [putE b], _, _, _, rfl, rfl, rfl, by simp at hlen ⊢; omega, RA, RTB, HN, O5, B5⟩, by simp⟩
          | false =>
            have HL2 := hd9 hl2
            iterate 2 (refine tkI9 ?_ (by kernel_rfl) (fun _ => id) hHeld ?_ ?_; rotate_left; · intro w9 hS9; clear hS9; go_simp; try with_reducible rfl)
            refine tkI9 (.bool false) (by kernel_rfl) (fun _ => id) hHeld ?_ ?_
            · intro w9 hS9; clear hS9; go_simp; try (first | rfl | omega | simp_all)
            iterate 1 (refine tkI9 ?_ (by kernel_rfl) (fun _ => id) hHeld ?_ ?_; rotate_left; · intro w9 hS9; clear hS9; go_simp; try with_reducible rfl)
            iterate 8 (refine tkI9 ?_ (by kernel_rfl) (fun _ => id) hHeld ?_ ?_; rotate_left; · intro w9 hS9; obtain ⟨k0, k1⟩ := hS9; go_simp; try with_reducible rfl)
            refine tkI9 (.bool false) (by kernel_rfl) (fun _ => id) hHeld ?_ ?_
            · intro w9 hS9; clear hS9; go_simp; try (first | rfl | omega | simp_all)
            iterate 2 (refine tkI9 ?_ (by kernel_rfl) (fun _ => id) hHeld ?_ ?_; rotate_left; · intro w9 hS9; clear hS9; go_simp; try with_reducible rfl)
            refine wpAnyH_done (by kernel_rfl) ?_ _
            simp only [Act.put, sT9, sZ9, sS9]
            clear hHeld hl2
            go_wp2_with fail
            have OE2 : Hid (OwnE 100 wb.drew w.heap.size (.slice ae acc.length ce) acc) := OE.out.below (below_drewN' wb 1)
            have BK2 : Hid (Below w.heap.size w wb.drew) := BK.out.trans ((below_drewN' wb 1).mono BK.out.size)
            clear OE BK
            have OE := OE2
            have BK := BK2
            clear OE2 BK2
            refine wp_region_held_drew (S := fun W => CellsN W b1 o1 a ∧ CellsN W b2 o2 b) (by kernel_rfl) ⟨HCA.out.below BK.out hb1, HCB.out.below BK.out hb2⟩ (fun hHeld => ?_)
            generalize wb.drew = wc at *
            iterate 6 (refine tkI9 ?_ (by kernel_rfl) (fun _ => id) hHeld ?_ ?_; rotate_left; · intro w9 hS9; obtain ⟨hca, hcb⟩ := hS9; obtain ⟨x0, x1, x2, x3, x4, x5, x6⟩ := hca.all; obtain ⟨y0, y1, y2, y3, y4, y5, y6⟩ := hcb.all; go_simp; try with_reducible rfl)
            have HRS2 : Hid (acc ++ (if eqNd a b then dif As Bs else putE b :: dif As Bs) = res) := by have := HRS.out; rw [dif_eq9 As Bs HL1.out HL2.out] at this; exact this
            refine tkI9 (.bool (!eqNd a b)) (by kernel_rfl) (fun _ => id) hHeld ?_ ?_
            · intro w9 hS9; clear hS9; unfold eqNd
              cases e0 : (a.path.toList == b.path.toList) with
              | false => go_simp
              | true =>
                cases e1 : (a.data.toList == b.data.toList) with
                | false => go_simp
                | true =>
                  cases e2 : (a.ver == b.ver) with
                  | false => go_simp
                  | true =>
                    cases e3 : (a.cver == b.cver) with
                    | false => go_simp
                    | true =>
                      cases e4 : (a.cz == b.cz) with
                      | false => go_simp
                      | true =>
                        cases e5 : (a.mz == b.mz) with
                        | false => go_simp
                        | true =>
                          cases e6 : (a.pz == b.pz) with
                          | false => go_simp
                          | true => go_simp
            refine wpAnyH_done (by kernel_rfl) ?_ _
            simp only [Act.put, sT9, sZ9, sS9]
            clear hHeld
            have sB := BK.out.size
            cases heq : eqNd a b with
            | true =>
              have HN : Hid (acc ++ dif As Bs = res) := by have := HRS2.out; rw [heq, if_pos rfl] at this; exact this
              go_wp2_with fail
              have OE2 : Hid (OwnE 100 wc.drew w.heap.size (.slice ae acc.length ce) acc) := OE.out.below (below_drewN' wc 1)
              have BK2 : Hid (Below w.heap.size w wc.drew) := BK.out.trans ((below_drewN' wc 1).mono BK.out.size)
              refine wp_region_held_drew (S := fun W => True) (by kernel_rfl) trivial (fun hHeld => ?_)
              generalize wc.drew = wd at *
              iterate 1 (refine tkI9 ?_ (by kernel_rfl) (fun _ => id) hHeld ?_ ?_; rotate_left; · intro w9 hS9; clear hS9; go_simp; try with_reducible rfl)
              refine tkI9 (.slice (if ca = 1 then some ⟨b1, o1, none⟩ else some ⟨b1, o1 + 7, none⟩) As.length (ca - 1)) (by kernel_rfl) (fun _ => id) hHeld ?_ ?_
              · intro w9 hS9; clear hS9; go_simp; try (intro h9; omega)
              iterate 1 (refine tkI9 ?_ (by kernel_rfl) (fun _ => id) hHeld ?_ ?_; rotate_left; · intro w9 hS9; clear hS9; go_simp; try with_reducible rfl)
              refine tkI9 (.slice (if cb = 1 then some ⟨b2, o2, none⟩ else some ⟨b2, o2 + 7, none⟩) Bs.length (cb - 1)) (by kernel_rfl) (fun _ => id) hHeld ?_ ?_
              · intro w9 hS9; clear hS9; go_simp; try (intro h9; omega)
              iterate 2 (refine tkI9 ?_ (by kernel_rfl) (fun _ => id) hHeld ?_ ?_; rotate_left; · intro w9 hS9; clear hS9; go_simp; try with_reducible rfl)
              refine wpAnyH_done (by kernel_rfl) ?_ _
              simp only [Act.put, sT9, sZ9, sS9]
              clear hHeld
              go_wp2_with fail
              exact ⟨⟨As, Bs, acc, _, _, _, rfl, rfl, rfl, by simp at hlen ⊢; omega, RTA, RTB, HN, OE2, BK2⟩, by simp; omega⟩
            | false =>
              have HN : Hid ((acc ++ [putE b]) ++ dif As Bs = res) := by have := HRS2.out; rw [heq, if_neg (by decide)] at this; show _ = _; rw [List.append_assoc]; exact this
              have hal : acc.length + 1 ≤ 2000 := by have := HDL.out; rw [← HN.out] at this; simp at this; omega
              obtain ⟨y0, y1, y2, y3, y4, y5, y6⟩ := (HCB.out.below BK.out hb2).all
              have HO9 : Hid (OwnE 100 wc w.heap.size (.slice ae acc.length ce) acc) := OE
              have HB9 : Hid (Below w.heap.size w wc) := BK
              go_wp2_with (at_builtin; go_must (refine wpList_append_own _ rfl _ _ 31 rfl w.heap.size 100 i0 (.agg #[.bool false, .string ByteArray.empty, .string ByteArray.empty, .int .i64 0, .int .i64 0, .int .i64 0, .int .i64 0, .int .i64 0]) 8 80 Tryz.underlying31 hi0 hz0 hz1 hz2 rfl (by decide) _ _ _ rfl (HO9.out.alloc _) ⟨wc.heap.size, 0, none⟩ 1 1 (efL (putE b)) rfl rfl (efLP_cells _ _ _) (efLP_one _) ?c1 ?c2 ?c3 ?_))
              case c1 => unfold maxLen; omega
              case c2 => omega
              case c3 => simp; omega
              intro v5 w5 ho5 hg5 _
              obtain ⟨o5, b5⟩ := HO9.out.snocP HB9.out ho5 hg5
              have O5 : Hid (OwnE 100 w5 w.heap.size v5 (acc ++ [putE b])) := o5
              have B5 : Hid (Below w.heap.size w w5) := b5
              clear o5 b5 ho5 hg5 HO9 HB9
              go_wp2_with fail
              have OE2 : Hid (OwnE 100 w5.drew w.heap.size v5 (acc ++ [putE b])) := O5.out.below (below_drewN' w5 1)
              have BK2 : Hid (Below w.heap.size w w5.drew) := B5.out.trans ((below_drewN' w5 1).mono B5.out.size)
              refine wp_region_held_drew (S := fun W => True) (by kernel_rfl) trivial (fun hHeld => ?_)
              generalize w5.drew = wd at *
              iterate 1 (refine tkI9 ?_ (by kernel_rfl) (fun _ => id) hHeld ?_ ?_; rotate_left; · intro w9 hS9; clear hS9; go_simp; try with_reducible rfl)
              refine tkI9 (.slice (if ca = 1 then some ⟨b1, o1, none⟩ else some ⟨b1, o1 + 7, none⟩) As.length (ca - 1)) (by kernel_rfl) (fun _ => id) hHeld ?_ ?_
              · intro w9 hS9; clear hS9; go_simp; try (intro h9; omega)
              iterate 1 (refine tkI9 ?_ (by kernel_rfl) (fun _ => id) hHeld ?_ ?_; rotate_left; · intro w9 hS9; clear hS9; go_simp; try with_reducible rfl)
              refine tkI9 (.slice (if cb = 1 then some ⟨b2, o2, none⟩ else some ⟨b2, o2 + 7, none⟩) Bs.length (cb - 1)) (by kernel_rfl) (fun _ => id) hHeld ?_ ?_
              · intro w9 hS9; clear hS9; go_simp; try (intro h9; omega)
              iterate 2 (refine tkI9 ?_ (by kernel_rfl) (fun _ => id) hHeld ?_ ?_; rotate_left; · intro w9 hS9; clear hS9; go_simp; try with_reducible rfl)
              refine wpAnyH_done (by kernel_rfl) ?_ _
              simp only [Act.put, sT9, sZ9, sS9]
              clear hHeld
              go_wp2_with fail
              exact ⟨⟨As, Bs, acc ++ [putE b], _, _, _, rfl, rfl, rfl, by simp at hlen ⊢; omega, RTA, RTB, HN, OE2, BK2⟩, by simp; omega⟩

end Go.Proofs.YtejhcebodlcloaaGreatDoor


