import Derived.Test.YtdiingonnddkcaaGreatDoorJ10
import Derived.Test.YtdiingonnddkcaaGreatDoorJ14
import Derived.Test.YtdiingonnddkcaaGreatDoorJ04
import Derived.Shelf.LaysM
import Derived.Shelf.Strconv.Itoa4
import Derived.Shelf.Strings.Repeat
import Derived.LaidEql
import Derived.Stop.Asserts
import Derived.RowKitTokens
namespace Go.Proofs.YtdiingonnddkcaaGreatDoor
open Go.RowKit Go.Shelf

/-- The head of what is read, and the rest. -/
theorem RdN.head9 {w : World} {ao : Option Addr} {n c : Nat} {a : Nd} {R : List Nd} (h : RdN w (.slice ao n c) (a :: R)) : n = R.length + 1 ∧ n ≤ c ∧ c ≤ maxLen ∧ ∃ b off, ao = some ⟨b, off, none⟩ ∧ b < w.heap.size ∧ CellsN w b off a ∧ RdN w (.slice (if c = 1 then some ⟨b, off, none⟩ else some ⟨b, off + 7, none⟩) R.length (c - 1)) R := by
  obtain ⟨a', c', e, h1, h2, h3⟩ := h
  simp only [Value.slice.injEq, List.length_cons] at e
  obtain ⟨rfl, rfl, rfl⟩ := e
  refine ⟨rfl, h1, h2, ?_⟩
  rcases h3 with h3 | ⟨b, off, rfl, hb, hc⟩
  · cases h3
  refine ⟨b, off, rfl, hb, ?_, ?_⟩
  · have := hc 0 (by simp)
    simpa [nAt] using this
  · refine ⟨_, _, rfl, by simp at h1; omega, by omega, ?_⟩
    by_cases hR : R = []
    · exact .inl hR
    · have : 0 < R.length := List.length_pos_iff.2 hR
      simp at h1
      rw [if_neg (by omega)]
      refine .inr ⟨b, off + 7, rfl, hb, fun i hi => ?_⟩
      have := hc (i + 1) (by simp; omega)
      rw [show off + (i + 1) * 7 = off + 7 + i * 7 by omega] at this
      simpa [nAt] using this
theorem dif_del9 (a : Nd) (R : List Nd) : dif (a :: R) [] = delE a :: dif R [] := by
  cases R with
  | nil => simp [dif]
  | cons x R => simp [dif]
theorem dif_put9 (b : Nd) (R : List Nd) : dif [] (b :: R) = putE b :: dif [] R := by simp [dif]
theorem dif_lt9 {a b : Nd} (A B : List Nd) (h : ltP a.path b.path = true) : dif (a :: A) (b :: B) = delE a :: dif A (b :: B) := by
  rw [dif, if_neg (by rw [ltP_asymm h]; decide), if_pos h]
theorem dif_gt9 {a b : Nd} (A B : List Nd) (h : ltP b.path a.path = true) : dif (a :: A) (b :: B) = putE b :: dif (a :: A) B := by
  rw [dif, if_pos h]
theorem dif_eq9 {a b : Nd} (A B : List Nd) (h : ltP a.path b.path = false) (h2 : ltP b.path a.path = false) : dif (a :: A) (b :: B) = if eqNd a b then dif A B else putE b :: dif A B := by
  rw [dif, if_neg (by rw [h2]; decide), if_neg (by rw [h]; decide)]

set_option linter.unusedSimpArgs false in
set_option maxHeartbeats 4000000 in
set_option maxRecDepth 100000 in
theorem diffs_any (w : World) (va vb : Value) (Al Bl : List Nd) (ha : RdN w va Al) (hb : RdN w vb Bl) (hna : Al.length ≤ 1000) (hnb : Bl.length ≤ 1000) :
    Calls Tryz.prog 31 #[va, vb] w fun e w' => ∃ v', e = .returned v' ∧ OwnE 59 w' w.heap.size v' (dif Al Bl) ∧ Below w.heap.size w w' := by
  obtain ⟨i0, hi0, hz0, hz1, hz2⟩ := info_parts Tryz.infoEP
  obtain ⟨res, hres⟩ : ∃ res, res = dif Al Bl := ⟨_, rfl⟩
  have HDL : Hid (res.length ≤ 2000) := by show _ ≤ _; rw [hres]; have := dif_len Al Bl; omega
  have HA := hd9 ha
  have HB := hd9 hb
  have HRS : Hid ([] ++ dif Al Bl = res) := by show _ = _; rw [hres]; rfl
  rw [← hres]
  clear ha hb hres
  go_enter Tryz.func31, Tryz.ntmps31
  go_wp2_with fail
  go_loopw [0, 1, 5] (fun ua ub ue wr => ∃ (Ak Bk : List Nd) (acc : List Ef) (xa xb xe : Value), xa = ua ∧ xb = ub ∧ xe = ue ∧ Ak.length + Bk.length ≤ 2000 ∧ Hid (RdN w xa Ak) ∧ Hid (RdN w xb Bk) ∧ Hid (acc ++ dif Ak Bk = res) ∧ Hid (OwnE 59 wr w.heap.size xe acc) ∧ Hid (Below w.heap.size w wr)) (fun ua ub _ _ => (match ua with | .slice _ n _ => n | _ => 0) + (match ub with | .slice _ n _ => n | _ => 0))
  case atStart => exact ⟨Al, Bl, [], _, _, _, rfl, rfl, rfl, by omega, HA, HB, HRS, World.ownsRow_nil _ _ _ _, Below.refl _ _⟩
  case round =>
    clear HA HB HRS
    obtain ⟨Ak, Bk, acc, xa, xb, xe, rfl, rfl, rfl, hlen, RA, RB, HRS, OE, BK⟩ := hrel
    obtain ⟨aa, ca, rfl, -, -⟩ := RA.out.len
    obtain ⟨ab, cb, rfl, -, -⟩ := RB.out.len
    obtain ⟨ae, ce, rfl⟩ := OE.out.slice9
    have sB := BK.out.size
    cases Ak with
    | nil =>
      cases Bk with
      | nil =>
        have HN : Hid (acc = res) := by have := HRS.out; simp [dif] at this; exact this
        go_wp2_with fail
        rw [← HN.out]
        exact bodyPost_ret (v := .slice ae acc.length ce) (by simp [results, Tryz.results31, go_sem]) rfl ⟨_, rfl, OE.out, BK.out⟩
      | cons b Bs =>
        obtain ⟨-, hncb, hcmb, b2, o2, rfl, hb2, hce, hrd⟩ := RB.out.head9
        have RT := hd9 hrd
        have HCB := hd9 hce
        have HN : Hid ((acc ++ [putE b]) ++ dif [] Bs = res) := by have := HRS.out; rw [dif_put9] at this; show _ = _; rw [List.append_assoc]; exact this
        have hal : acc.length + 1 ≤ 2000 := by have := HDL.out; rw [← HN.out] at this; simp at this; omega
        have hB1 : ¬ ((Bs.length : Int) + 1 = 0) := by omega
        clear RB hce hrd HRS
        go_wp2_with fail
        have OE2 : Hid (OwnE 59 wr.drew w.heap.size (.slice ae acc.length ce) acc) := OE.out.below (below_drewN' wr 1)
        have BK2 : Hid (Below w.heap.size w wr.drew) := BK.out.trans ((below_drewN' wr 1).mono BK.out.size)
        clear OE BK
        have OE := OE2
        have BK := BK2
        clear OE2 BK2
        refine wp_region_held_drew (S := fun W => True) (by kernel_rfl) trivial (fun hHeld => ?_)
        generalize wr.drew = wa at *
        iterate 2 (refine tkI9 ?_ (by kernel_rfl) (fun _ => id) hHeld ?_ ?_; rotate_left; · intro w9 hS9; clear hS9; go_simp; try with_reducible rfl)
        refine tkI9 (.bool false) (by kernel_rfl) (fun _ => id) hHeld ?_ ?_
        · intro w9 hS9; clear hS9; go_simp; try (first | rfl | omega | simp_all)
        iterate 5 (refine tkI9 ?_ (by kernel_rfl) (fun _ => id) hHeld ?_ ?_; rotate_left; · intro w9 hS9; clear hS9; go_simp; try with_reducible rfl)
        iterate 9 (refine tkN9 (by kernel_rfl) (fun _ => id) hHeld ?_)
        iterate 3 (refine tkI9 ?_ (by kernel_rfl) (fun _ => id) hHeld ?_ ?_; rotate_left; · intro w9 hS9; clear hS9; go_simp; try with_reducible rfl)
        refine wpAnyH_done (by kernel_rfl) ?_ _
        simp only [Act.put, sT9, sZ9, sS9]
        clear hHeld
        go_wp2_with fail
        have OE2 : Hid (OwnE 59 wa.drew w.heap.size (.slice ae acc.length ce) acc) := OE.out.below (below_drewN' wa 1)
        have BK2 : Hid (Below w.heap.size w wa.drew) := BK.out.trans ((below_drewN' wa 1).mono BK.out.size)
        clear OE BK
        have OE := OE2
        have BK := BK2
        clear OE2 BK2
        refine wp_region_held_drew (S := fun W => True) (by kernel_rfl) trivial (fun hHeld => ?_)
        generalize wa.drew = wb at *
        iterate 4 (refine tkI9 ?_ (by kernel_rfl) (fun _ => id) hHeld ?_ ?_; rotate_left; · intro w9 hS9; clear hS9; go_simp; try with_reducible rfl)
        iterate 9 (refine tkN9 (by kernel_rfl) (fun _ => id) hHeld ?_)
        iterate 2 (refine tkI9 ?_ (by kernel_rfl) (fun _ => id) hHeld ?_ ?_; rotate_left; · intro w9 hS9; clear hS9; go_simp; try with_reducible rfl)
        refine wpAnyH_done (by kernel_rfl) ?_ _
        simp only [Act.put, sT9, sZ9, sS9]
        clear hHeld
        obtain ⟨y0, y1, y2, y3, y4, y5, y6⟩ := (HCB.out.below BK.out hb2).all
        have sB := BK.out.size
        have HO9 : Hid (OwnE 59 wb w.heap.size (.slice ae acc.length ce) acc) := OE
        have HB9 : Hid (Below w.heap.size w wb) := BK
        go_wp2_with (at_builtin; go_must (refine wpList_append_own _ rfl _ _ 33 rfl w.heap.size 59 i0 (.agg #[.bool false, .string ByteArray.empty, .string ByteArray.empty, .int .i64 0, .int .i64 0, .int .i64 0, .int .i64 0, .int .i64 0]) 8 80 Tryz.underlying33 hi0 hz0 hz1 hz2 rfl (by decide) _ _ _ rfl (HO9.out.alloc _) ⟨wb.heap.size, 0, none⟩ 1 1 (efL (putE b)) rfl rfl (efLP_cells _ _ _) (efLP_one _) ?c1 ?c2 ?c3 ?_))
        case c1 => unfold maxLen; omega
        case c2 => omega
        case c3 => simp; omega
        intro v5 w5 ho5 hg5 _
        obtain ⟨o5, b5⟩ := HO9.out.snocP HB9.out ho5 hg5
        have O5 : Hid (OwnE 59 w5 w.heap.size v5 (acc ++ [putE b])) := o5
        have B5 : Hid (Below w.heap.size w w5) := b5
        clear o5 b5 ho5 hg5 HO9 HB9
        go_wp2_with fail
        exact ⟨⟨[], Bs, acc ++ [putE b], _, _, _, rfl, rfl, rfl, by simp at hlen ⊢; omega, RA, RT, HN, O5, B5⟩, by simp⟩
    | cons a As =>
      obtain ⟨-, hnca, hcma, b1, o1, rfl, hb1, hce, hrd⟩ := RA.out.head9
      have RTA := hd9 hrd
      have HCA := hd9 hce
      clear hce hrd
      cases Bk with
      | nil =>
        obtain ⟨x0, x1, x2, x3, x4, x5, x6⟩ := (HCA.out.below BK.out hb1).all
        have HN : Hid ((acc ++ [delE a]) ++ dif As [] = res) := by have := HRS.out; rw [dif_del9] at this; show _ = _; rw [List.append_assoc]; exact this
        have hal : acc.length + 1 ≤ 2000 := by have := HDL.out; rw [← HN.out] at this; simp at this; omega
        clear RA HRS
        go_wp2_with fail
        go_quiet (fail)
        have HO9 : Hid (OwnE 59 (wr.drewN nq) w.heap.size (.slice ae acc.length ce) acc) := OE.out.below (below_drewN' wr nq)
        have HB9 : Hid (Below w.heap.size w (wr.drewN nq)) := BK.out.trans ((below_drewN' wr nq).mono BK.out.size)
        go_wp2_with (at_builtin; go_must (refine wpList_append_own _ rfl _ _ 33 rfl w.heap.size 59 i0 (.agg #[.bool false, .string ByteArray.empty, .string ByteArray.empty, .int .i64 0, .int .i64 0, .int .i64 0, .int .i64 0, .int .i64 0]) 8 80 Tryz.underlying33 hi0 hz0 hz1 hz2 rfl (by decide) _ _ _ rfl (HO9.out.alloc _) ⟨(wr.drewN nq).heap.size, 0, none⟩ 1 1 (efL (delE a)) rfl rfl (efLP_cells _ _ _) (efLP_one _) ?c1 ?c2 ?c3 ?_))
        case c1 => unfold maxLen; omega
        case c2 => omega
        case c3 => simp; omega
        intro v5 w5 ho5 hg5 _
        obtain ⟨o5, b5⟩ := HO9.out.snocP HB9.out ho5 hg5
        have O5 : Hid (OwnE 59 w5 w.heap.size v5 (acc ++ [delE a])) := o5
        have B5 : Hid (Below w.heap.size w w5) := b5
        clear o5 b5 ho5 hg5 HO9 HB9
        go_wp2_with fail
        exact ⟨⟨As, [], acc ++ [delE a], _, _, _, rfl, rfl, rfl, by simp at hlen ⊢; omega, RTA, RB, HN, O5, B5⟩, by simp⟩
      | cons b Bs =>
        obtain ⟨-, hncb, hcmb, b2, o2, rfl, hb2, hce, hrd⟩ := RB.out.head9
        have RTB := hd9 hrd
        have HCB := hd9 hce
        clear hce hrd
        have hA1 : ¬ ((As.length : Int) + 1 = 0) := by omega
        have hB1 : ¬ ((Bs.length : Int) + 1 = 0) := by omega
        have hA2 : (0 : Int) < (As.length : Int) + 1 := by omega
        go_wp2_with fail
        have OE2 : Hid (OwnE 59 wr.drew w.heap.size (.slice ae acc.length ce) acc) := OE.out.below (below_drewN' wr 1)
        have BK2 : Hid (Below w.heap.size w wr.drew) := BK.out.trans ((below_drewN' wr 1).mono BK.out.size)
        clear OE BK
        have OE := OE2
        have BK := BK2
        clear OE2 BK2
        refine wp_region_held_drew (S := fun W => W.cell? ⟨b1, o1, none⟩ = some (.string a.path) ∧ W.cell? ⟨b2, o2, none⟩ = some (.string b.path)) (by kernel_rfl) ⟨(HCA.out.below BK.out hb1).all.1, (HCB.out.below BK.out hb2).all.1⟩ (fun hHeld => ?_)
        generalize wr.drew = wa at *
        cases hl1 : Op.bytesLess a.path.toList b.path.toList with
        | true =>
          have HN : Hid ((acc ++ [delE a]) ++ dif As (b :: Bs) = res) := by have := HRS.out; rw [dif_lt9 As Bs hl1] at this; show _ = _; rw [List.append_assoc]; exact this
          have hal : acc.length + 1 ≤ 2000 := by have := HDL.out; rw [← HN.out] at this; simp at this; omega
          iterate 2 (refine tkI9 ?_ (by kernel_rfl) (fun _ => id) hHeld ?_ ?_; rotate_left; · intro w9 hS9; clear hS9; go_simp; try with_reducible rfl)
          refine tkI9 (.bool false) (by kernel_rfl) (fun _ => id) hHeld ?_ ?_
          · intro w9 hS9; clear hS9; go_simp; try (first | rfl | omega | simp_all)
          iterate 3 (refine tkI9 ?_ (by kernel_rfl) (fun _ => id) hHeld ?_ ?_; rotate_left; · intro w9 hS9; clear hS9; go_simp; try with_reducible rfl)
          refine tkI9 (.bool true) (by kernel_rfl) (fun _ => id) hHeld ?_ ?_
          · intro w9 hS9; clear hS9; go_simp; try (first | rfl | omega | simp_all)
          iterate 1 (refine tkI9 ?_ (by kernel_rfl) (fun _ => id) hHeld ?_ ?_; rotate_left; · intro w9 hS9; clear hS9; go_simp; try with_reducible rfl)
          iterate 8 (refine tkI9 ?_ (by kernel_rfl) (fun _ => id) hHeld ?_ ?_; rotate_left; · intro w9 hS9; obtain ⟨k0, k1⟩ := hS9; go_simp; try with_reducible rfl)
          refine tkI9 (.bool true) (by kernel_rfl) (fun _ => id) hHeld ?_ ?_
          · intro w9 hS9; clear hS9; go_simp; try (first | rfl | omega | simp_all)
          iterate 3 (refine tkI9 ?_ (by kernel_rfl) (fun _ => id) hHeld ?_ ?_; rotate_left; · intro w9 hS9; clear hS9; go_simp; try with_reducible rfl)
          refine wpAnyH_done (by kernel_rfl) ?_ _
          simp only [Act.put, sT9, sZ9, sS9]
          clear hHeld hl1
          obtain ⟨x0, x1, x2, x3, x4, x5, x6⟩ := (HCA.out.below BK.out hb1).all
          have sB := BK.out.size
          have HO9 : Hid (OwnE 59 wa w.heap.size (.slice ae acc.length ce) acc) := OE
          have HB9 : Hid (Below w.heap.size w wa) := BK
          go_wp2_with (at_builtin; go_must (refine wpList_append_own _ rfl _ _ 33 rfl w.heap.size 59 i0 (.agg #[.bool false, .string ByteArray.empty, .string ByteArray.empty, .int .i64 0, .int .i64 0, .int .i64 0, .int .i64 0, .int .i64 0]) 8 80 Tryz.underlying33 hi0 hz0 hz1 hz2 rfl (by decide) _ _ _ rfl (HO9.out.alloc _) ⟨wa.heap.size, 0, none⟩ 1 1 (efL (delE a)) rfl rfl (efLP_cells _ _ _) (efLP_one _) ?c1 ?c2 ?c3 ?_))
          case c1 => unfold maxLen; omega
          case c2 => omega
          case c3 => simp; omega
          intro v5 w5 ho5 hg5 _
          obtain ⟨o5, b5⟩ := HO9.out.snocP HB9.out ho5 hg5
          have O5 : Hid (OwnE 59 w5 w.heap.size v5 (acc ++ [delE a])) := o5
          have B5 : Hid (Below w.heap.size w w5) := b5
          clear o5 b5 ho5 hg5 HO9 HB9
          go_wp2_with fail
          exact ⟨⟨As, b :: Bs, acc ++ [delE a], _, _, _, rfl, rfl, rfl, by simp at hlen ⊢; omega, RTA, RB, HN, O5, B5⟩, by simp⟩
        | false =>
          have HL1 := hd9 hl1
          iterate 2 (refine tkI9 ?_ (by kernel_rfl) (fun _ => id) hHeld ?_ ?_; rotate_left; · intro w9 hS9; clear hS9; go_simp; try with_reducible rfl)
          refine tkI9 (.bool false) (by kernel_rfl) (fun _ => id) hHeld ?_ ?_
          · intro w9 hS9; clear hS9; go_simp; try (first | rfl | omega | simp_all)
          iterate 3 (refine tkI9 ?_ (by kernel_rfl) (fun _ => id) hHeld ?_ ?_; rotate_left; · intro w9 hS9; clear hS9; go_simp; try with_reducible rfl)
          refine tkI9 (.bool true) (by kernel_rfl) (fun _ => id) hHeld ?_ ?_
          · intro w9 hS9; clear hS9; go_simp; try (first | rfl | omega | simp_all)
          iterate 1 (refine tkI9 ?_ (by kernel_rfl) (fun _ => id) hHeld ?_ ?_; rotate_left; · intro w9 hS9; clear hS9; go_simp; try with_reducible rfl)
          iterate 8 (refine tkI9 ?_ (by kernel_rfl) (fun _ => id) hHeld ?_ ?_; rotate_left; · intro w9 hS9; obtain ⟨k0, k1⟩ := hS9; go_simp; try with_reducible rfl)
          refine tkI9 (.bool false) (by kernel_rfl) (fun _ => id) hHeld ?_ ?_
          · intro w9 hS9; clear hS9; go_simp; try (first | rfl | omega | simp_all)
          iterate 3 (refine tkI9 ?_ (by kernel_rfl) (fun _ => id) hHeld ?_ ?_; rotate_left; · intro w9 hS9; clear hS9; go_simp; try with_reducible rfl)
          refine wpAnyH_done (by kernel_rfl) ?_ _
          simp only [Act.put, sT9, sZ9, sS9]
          clear hHeld hl1
          go_wp2_with fail
          have OE2 : Hid (OwnE 59 wa.drew w.heap.size (.slice ae acc.length ce) acc) := OE.out.below (below_drewN' wa 1)
          have BK2 : Hid (Below w.heap.size w wa.drew) := BK.out.trans ((below_drewN' wa 1).mono BK.out.size)
          clear OE BK
          have OE := OE2
          have BK := BK2
          clear OE2 BK2
          refine wp_region_held_drew (S := fun W => W.cell? ⟨b1, o1, none⟩ = some (.string a.path) ∧ W.cell? ⟨b2, o2, none⟩ = some (.string b.path)) (by kernel_rfl) ⟨(HCA.out.below BK.out hb1).all.1, (HCB.out.below BK.out hb2).all.1⟩ (fun hHeld => ?_)
          generalize wa.drew = wb at *
          cases hl2 : Op.bytesLess b.path.toList a.path.toList with
          | true =>
            have HN : Hid ((acc ++ [putE b]) ++ dif (a :: As) Bs = res) := by have := HRS.out; rw [dif_gt9 As Bs hl2] at this; show _ = _; rw [List.append_assoc]; exact this
            have hal : acc.length + 1 ≤ 2000 := by have := HDL.out; rw [← HN.out] at this; simp at this; omega
            iterate 2 (refine tkI9 ?_ (by kernel_rfl) (fun _ => id) hHeld ?_ ?_; rotate_left; · intro w9 hS9; clear hS9; go_simp; try with_reducible rfl)
            refine tkI9 (.bool false) (by kernel_rfl) (fun _ => id) hHeld ?_ ?_
            · intro w9 hS9; clear hS9; go_simp; try (first | rfl | omega | simp_all)
            iterate 1 (refine tkI9 ?_ (by kernel_rfl) (fun _ => id) hHeld ?_ ?_; rotate_left; · intro w9 hS9; clear hS9; go_simp; try with_reducible rfl)
            iterate 8 (refine tkI9 ?_ (by kernel_rfl) (fun _ => id) hHeld ?_ ?_; rotate_left; · intro w9 hS9; obtain ⟨k0, k1⟩ := hS9; go_simp; try with_reducible rfl)
            refine tkI9 (.bool true) (by kernel_rfl) (fun _ => id) hHeld ?_ ?_
            · intro w9 hS9; clear hS9; go_simp; try (first | rfl | omega | simp_all)
            iterate 2 (refine tkI9 ?_ (by kernel_rfl) (fun _ => id) hHeld ?_ ?_; rotate_left; · intro w9 hS9; clear hS9; go_simp; try with_reducible rfl)
            refine wpAnyH_done (by kernel_rfl) ?_ _
            simp only [Act.put, sT9, sZ9, sS9]
            clear hHeld hl2
            obtain ⟨y0, y1, y2, y3, y4, y5, y6⟩ := (HCB.out.below BK.out hb2).all
            have sB := BK.out.size
            have HO9 : Hid (OwnE 59 wb w.heap.size (.slice ae acc.length ce) acc) := OE
            have HB9 : Hid (Below w.heap.size w wb) := BK
            go_wp2_with (at_builtin; go_must (refine wpList_append_own _ rfl _ _ 33 rfl w.heap.size 59 i0 (.agg #[.bool false, .string ByteArray.empty, .string ByteArray.empty, .int .i64 0, .int .i64 0, .int .i64 0, .int .i64 0, .int .i64 0]) 8 80 Tryz.underlying33 hi0 hz0 hz1 hz2 rfl (by decide) _ _ _ rfl (HO9.out.alloc _) ⟨wb.heap.size, 0, none⟩ 1 1 (efL (putE b)) rfl rfl (efLP_cells _ _ _) (efLP_one _) ?c1 ?c2 ?c3 ?_))
            case c1 => unfold maxLen; omega
            case c2 => omega
            case c3 => simp; omega
            intro v5 w5 ho5 hg5 _
            obtain ⟨o5, b5⟩ := HO9.out.snocP HB9.out ho5 hg5
            have O5 : Hid (OwnE 59 w5 w.heap.size v5 (acc ++ [putE b])) := o5
            have B5 : Hid (Below w.heap.size w w5) := b5
            clear o5 b5 ho5 hg5 HO9 HB9
            go_wp2_with fail
            exact ⟨⟨a :: As, Bs, acc ++ [putE b], _, _, _, rfl, rfl, rfl, by simp at hlen ⊢; omega, RA, RTB, HN, O5, B5⟩, by simp⟩
          | false =>
            have HL2 := hd9 hl2
            iterate 2 (refine tkI9 ?_ (by kernel_rfl) (fun _ => id) hHeld ?_ ?_; rotate_left; · intro w9 hS9; clear hS9; go_simp; try with_reducible rfl)
            refine tkI9 (.bool false) (by kernel_rfl) (fun _ => id) hHeld ?_ ?_
            · intro w9 hS9; clear hS9; go_simp; try (first | rfl | omega | simp_all)
            iterate 1 (refine tkI9 ?_ (by kernel_rfl) (fun _ => id) hHeld ?_ ?_; rotate_left; · intro w9 hS9; clear hS9; go_simp; try with_reducible rfl)
            iterate 8 (refine tkI9 ?_ (by kernel_rfl) (fun _ => id) hHeld ?_ ?_; rotate_left; · intro w9 hS9; obtain ⟨k0, k1⟩ := hS9; go_simp; try with_reducible rfl)
            refine tkI9 (.bool false) (by kernel_rfl) (fun _ => id) hHeld ?_ ?_
            · intro w9 hS9; clear hS9; go_simp; try (first | rfl | omega | simp_all)
            iterate 2 (refine tkI9 ?_ (by kernel_rfl) (fun _ => id) hHeld ?_ ?_; rotate_left; · intro w9 hS9; clear hS9; go_simp; try with_reducible rfl)
            refine wpAnyH_done (by kernel_rfl) ?_ _
            simp only [Act.put, sT9, sZ9, sS9]
            clear hHeld hl2
            go_wp2_with fail
            have OE2 : Hid (OwnE 59 wb.drew w.heap.size (.slice ae acc.length ce) acc) := OE.out.below (below_drewN' wb 1)
            have BK2 : Hid (Below w.heap.size w wb.drew) := BK.out.trans ((below_drewN' wb 1).mono BK.out.size)
            clear OE BK
            have OE := OE2
            have BK := BK2
            clear OE2 BK2
            refine wp_region_held_drew (S := fun W => CellsN W b1 o1 a ∧ CellsN W b2 o2 b) (by kernel_rfl) ⟨HCA.out.below BK.out hb1, HCB.out.below BK.out hb2⟩ (fun hHeld => ?_)
            generalize wb.drew = wc at *
            iterate 6 (refine tkI9 ?_ (by kernel_rfl) (fun _ => id) hHeld ?_ ?_; rotate_left; · intro w9 hS9; obtain ⟨hca, hcb⟩ := hS9; obtain ⟨x0, x1, x2, x3, x4, x5, x6⟩ := hca.all; obtain ⟨y0, y1, y2, y3, y4, y5, y6⟩ := hcb.all; go_simp; try with_reducible rfl)
            have HRS2 : Hid (acc ++ (if eqNd a b then dif As Bs else putE b :: dif As Bs) = res) := by have := HRS.out; rw [dif_eq9 As Bs HL1.out HL2.out] at this; exact this
            refine tkI9 (.bool (!eqNd a b)) (by kernel_rfl) (fun _ => id) hHeld ?_ ?_
            · intro w9 hS9; clear hS9; unfold eqNd
              cases e0 : (a.path.toList == b.path.toList) with
              | false => go_simp
              | true =>
                cases e1 : (a.data.toList == b.data.toList) with
                | false => go_simp
                | true =>
                  cases e2 : (a.ver == b.ver) with
                  | false => go_simp
                  | true =>
                    cases e3 : (a.cver == b.cver) with
                    | false => go_simp
                    | true =>
                      cases e4 : (a.cz == b.cz) with
                      | false => go_simp
                      | true =>
                        cases e5 : (a.mz == b.mz) with
                        | false => go_simp
                        | true =>
                          cases e6 : (a.pz == b.pz) with
                          | false => go_simp
                          | true => go_simp
            refine wpAnyH_done (by kernel_rfl) ?_ _
            simp only [Act.put, sT9, sZ9, sS9]
            clear hHeld
            have sB := BK.out.size
            cases heq : eqNd a b with
            | true =>
              have HN : Hid (acc ++ dif As Bs = res) := by have := HRS2.out; rw [heq, if_pos rfl] at this; exact this
              go_wp2_with fail
              have OE2 : Hid (OwnE 59 wc.drew w.heap.size (.slice ae acc.length ce) acc) := OE.out.below (below_drewN' wc 1)
              have BK2 : Hid (Below w.heap.size w wc.drew) := BK.out.trans ((below_drewN' wc 1).mono BK.out.size)
              refine wp_region_held_drew (S := fun W => True) (by kernel_rfl) trivial (fun hHeld => ?_)
              generalize wc.drew = wd at *
              iterate 1 (refine tkI9 ?_ (by kernel_rfl) (fun _ => id) hHeld ?_ ?_; rotate_left; · intro w9 hS9; clear hS9; go_simp; try with_reducible rfl)
              refine tkI9 (.slice (if ca = 1 then some ⟨b1, o1, none⟩ else some ⟨b1, o1 + 7, none⟩) As.length (ca - 1)) (by kernel_rfl) (fun _ => id) hHeld ?_ ?_
              · intro w9 hS9; clear hS9; go_simp; try (intro h9; omega)
              iterate 1 (refine tkI9 ?_ (by kernel_rfl) (fun _ => id) hHeld ?_ ?_; rotate_left; · intro w9 hS9; clear hS9; go_simp; try with_reducible rfl)
              refine tkI9 (.slice (if cb = 1 then some ⟨b2, o2, none⟩ else some ⟨b2, o2 + 7, none⟩) Bs.length (cb - 1)) (by kernel_rfl) (fun _ => id) hHeld ?_ ?_
              · intro w9 hS9; clear hS9; go_simp; try (intro h9; omega)
              iterate 2 (refine tkI9 ?_ (by kernel_rfl) (fun _ => id) hHeld ?_ ?_; rotate_left; · intro w9 hS9; clear hS9; go_simp; try with_reducible rfl)
              refine wpAnyH_done (by kernel_rfl) ?_ _
              simp only [Act.put, sT9, sZ9, sS9]
              clear hHeld
              go_wp2_with fail
              exact ⟨⟨As, Bs, acc, _, _, _, rfl, rfl, rfl, by simp at hlen ⊢; omega, RTA, RTB, HN, OE2, BK2⟩, by simp; omega⟩
            | false =>
              have HN : Hid ((acc ++ [putE b]) ++ dif As Bs = res) := by have := HRS2.out; rw [heq, if_neg (by decide)] at this; show _ = _; rw [List.append_assoc]; exact this
              have hal : acc.length + 1 ≤ 2000 := by have := HDL.out; rw [← HN.out] at this; simp at this; omega
              obtain ⟨y0, y1, y2, y3, y4, y5, y6⟩ := (HCB.out.below BK.out hb2).all
              have HO9 : Hid (OwnE 59 wc w.heap.size (.slice ae acc.length ce) acc) := OE
              have HB9 : Hid (Below w.heap.size w wc) := BK
              go_wp2_with (at_builtin; go_must (refine wpList_append_own _ rfl _ _ 33 rfl w.heap.size 59 i0 (.agg #[.bool false, .string ByteArray.empty, .string ByteArray.empty, .int .i64 0, .int .i64 0, .int .i64 0, .int .i64 0, .int .i64 0]) 8 80 Tryz.underlying33 hi0 hz0 hz1 hz2 rfl (by decide) _ _ _ rfl (HO9.out.alloc _) ⟨wc.heap.size, 0, none⟩ 1 1 (efL (putE b)) rfl rfl (efLP_cells _ _ _) (efLP_one _) ?c1 ?c2 ?c3 ?_))
              case c1 => unfold maxLen; omega
              case c2 => omega
              case c3 => simp; omega
              intro v5 w5 ho5 hg5 _
              obtain ⟨o5, b5⟩ := HO9.out.snocP HB9.out ho5 hg5
              have O5 : Hid (OwnE 59 w5 w.heap.size v5 (acc ++ [putE b])) := o5
              have B5 : Hid (Below w.heap.size w w5) := b5
              clear o5 b5 ho5 hg5 HO9 HB9
              go_wp2_with fail
              have OE2 : Hid (OwnE 59 w5.drew w.heap.size v5 (acc ++ [putE b])) := O5.out.below (below_drewN' w5 1)
              have BK2 : Hid (Below w.heap.size w w5.drew) := B5.out.trans ((below_drewN' w5 1).mono B5.out.size)
              refine wp_region_held_drew (S := fun W => True) (by kernel_rfl) trivial (fun hHeld => ?_)
              generalize w5.drew = wd at *
              iterate 1 (refine tkI9 ?_ (by kernel_rfl) (fun _ => id) hHeld ?_ ?_; rotate_left; · intro w9 hS9; clear hS9; go_simp; try with_reducible rfl)
              refine tkI9 (.slice (if ca = 1 then some ⟨b1, o1, none⟩ else some ⟨b1, o1 + 7, none⟩) As.length (ca - 1)) (by kernel_rfl) (fun _ => id) hHeld ?_ ?_
              · intro w9 hS9; clear hS9; go_simp; try (intro h9; omega)
              iterate 1 (refine tkI9 ?_ (by kernel_rfl) (fun _ => id) hHeld ?_ ?_; rotate_left; · intro w9 hS9; clear hS9; go_simp; try with_reducible rfl)
              refine tkI9 (.slice (if cb = 1 then some ⟨b2, o2, none⟩ else some ⟨b2, o2 + 7, none⟩) Bs.length (cb - 1)) (by kernel_rfl) (fun _ => id) hHeld ?_ ?_
              · intro w9 hS9; clear hS9; go_simp; try (intro h9; omega)
              iterate 2 (refine tkI9 ?_ (by kernel_rfl) (fun _ => id) hHeld ?_ ?_; rotate_left; · intro w9 hS9; clear hS9; go_simp; try with_reducible rfl)
              refine wpAnyH_done (by kernel_rfl) ?_ _
              simp only [Act.put, sT9, sZ9, sS9]
              clear hHeld
              go_wp2_with fail
              exact ⟨⟨As, Bs, acc ++ [putE b], _, _, _, rfl, rfl, rfl, by simp at hlen ⊢; omega, RTA, RTB, HN, OE2, BK2⟩, by simp; omega⟩

end Go.Proofs.YtdiingonnddkcaaGreatDoor
namespace Go.Proofs.YtdiingonnddkcaaGreatDoor
open Go.Shelf
def Tryz.laysM173_ren : Go.Shelf.Ren := ⟨fun | 173 => 119 | 246 => 126 | 283 => 137 | 284 => 138 | 285 => 139 | 286 => 140 | 129 => 149 | 317 => 148 | 318 => 150 | 319 => 151 | 320 => 152 | 337 => 155 | 338 => 156 | n => n, fun | 2 => 2 | 3 => 3 | 9 => 9 | 4 => 4 | 171 => 211 | 0 => 0 | 53 => 212 | 37 => 22 | 5 => 5 | 173 => 215 | 212 => 226 | 51 => 217 | 20 => 20 | 213 => 227 | 46 => 141 | 232 => 232 | 233 => 233 | n => n, fun | 17 => 4 | 18 => 5 | 19 => 6 | n => n⟩
theorem Tryz.laysM173 : Go.Proofs.LaysM.n173 Tryz.prog Tryz.laysM173_ren := {
  mixed := by kernel_rfl
  f129 := Tryz.func149.trans (congrArg some (by kernel_rfl))
  f173 := Tryz.func119.trans (congrArg some (by kernel_rfl))
  f246 := Tryz.func126.trans (congrArg some (by kernel_rfl))
  f283 := Tryz.func137.trans (congrArg some (by kernel_rfl))
  f284 := Tryz.func138.trans (congrArg some (by kernel_rfl))
  f285 := Tryz.func139.trans (congrArg some (by kernel_rfl))
  f286 := Tryz.func140.trans (congrArg some (by kernel_rfl))
  f317 := Tryz.func148.trans (congrArg some (by kernel_rfl))
  f318 := Tryz.func150.trans (congrArg some (by kernel_rfl))
  f319 := Tryz.func151.trans (congrArg some (by kernel_rfl))
  f320 := Tryz.func152.trans (congrArg some (by kernel_rfl))
  f337 := Tryz.func155.trans (congrArg some (by kernel_rfl))
  f338 := Tryz.func156.trans (congrArg some (by kernel_rfl))
  t0 := Tryz.underlying0
  a0 := Tryz.isAgg0
  z0 := Tryz.sizeOf0
  v0 := Tryz.zeroValue0
  t2 := Tryz.underlying2
  a2 := Tryz.isAgg2
  z2 := Tryz.sizeOf2
  v2 := Tryz.zeroValue2
  t3 := Tryz.underlying3
  a3 := Tryz.isAgg3
  z3 := Tryz.sizeOf3
  v3 := Tryz.zeroValue3
  t4 := Tryz.underlying4
  a4 := Tryz.isAgg4
  z4 := Tryz.sizeOf4
  v4 := Tryz.zeroValue4
  t5 := Tryz.underlying5
  a5 := Tryz.isAgg5
  z5 := Tryz.sizeOf5
  v5 := Tryz.zeroValue5
  t9 := Tryz.underlying9
  a9 := Tryz.isAgg9
  z9 := Tryz.sizeOf9
  v9 := Tryz.zeroValue9
  t20 := Tryz.underlying20
  a20 := Tryz.isAgg20
  z20 := Tryz.sizeOf20
  v20 := Tryz.zeroValue20
  t37 := Tryz.underlying22
  a37 := Tryz.isAgg22
  z37 := Tryz.sizeOf22
  v37 := Tryz.zeroValue22
  t46 := Tryz.underlying141
  a46 := Tryz.isAgg141
  z46 := Tryz.sizeOf141
  v46 := Tryz.zeroValue141
  t51 := Tryz.underlying217
  a51 := Tryz.isAgg217
  z51 := Tryz.sizeOf217
  v51 := Tryz.zeroValue217
  t53 := Tryz.underlying212
  a53 := Tryz.isAgg212
  z53 := Tryz.sizeOf212
  v53 := Tryz.zeroValue212
  t171 := Tryz.underlying211
  a171 := Tryz.isAgg211
  z171 := Tryz.sizeOf211
  v171 := Tryz.zeroValue211
  t173 := Tryz.underlying215
  a173 := Tryz.isAgg215
  z173 := Tryz.sizeOf215
  v173 := Tryz.zeroValue215
  t212 := Tryz.underlying226
  a212 := Tryz.isAgg226
  z212 := Tryz.sizeOf226
  v212 := Tryz.zeroValue226
  t213 := Tryz.underlying227
  a213 := Tryz.isAgg227
  z213 := Tryz.sizeOf227
  t232 := Tryz.underlying232
  a232 := Tryz.isAgg232
  z232 := Tryz.sizeOf232
  v232 := Tryz.zeroValue232
  t233 := Tryz.underlying233
  a233 := Tryz.isAgg233
  z233 := Tryz.sizeOf233
  v233 := Tryz.zeroValue233
  g17 := by kernel_rfl
  g18 := by kernel_rfl
  g19 := by kernel_rfl
  i0 := by kernel_rfl
  i2 := by kernel_rfl
  i3 := by kernel_rfl
  i4 := by kernel_rfl
  i5 := by kernel_rfl
  i9 := by kernel_rfl
  i20 := by kernel_rfl
  i37 := by kernel_rfl
  i46 := by kernel_rfl
  i51 := by kernel_rfl
  i53 := by kernel_rfl
  i171 := by kernel_rfl
  i173 := by kernel_rfl
  i212 := by kernel_rfl
  i232 := by kernel_rfl
  i233 := by kernel_rfl
  m17 := by kernel_rfl
  m18 := by kernel_rfl
  m19 := by kernel_rfl }
open Go.RowKit Go.Sort Go.Lib in
theorem Tryz.strconv_FormatInt_10 (n : Int) (h0 : -9223372036854775808 ≤ n) (h1 : n ≤ 9223372036854775807) (w : World) (htab : Lib.TabIs Tryz.prog w "internal/strconv.uint64pow10" .u64 Lib.pow10Tab) :
    Calls Tryz.prog 119 #[.int .i64 n, .int .i64 10] w fun e w' => e = .returned (.string ⟨(Lib.itoa n).toArray⟩) ∧ ∃ k os, w' = grow (w.drewN k) os := Any.strconv_FormatInt_10 Tryz.laysM173 n h0 h1 w htab
def Tryz.lays105_ren : Go.Shelf.Ren := ⟨fun | 105 => 120 | 212 => 127 | 99 => 72 | 165 => 128 | 166 => 129 | 170 => 130 | 169 => 131 | 263 => 141 | 264 => 142 | 206 => 99 | 240 => 143 | 241 => 144 | 276 => 153 | 277 => 154 | n => n, fun | 9 => 9 | 3 => 3 | 4 => 4 | 20 => 20 | 0 => 0 | 46 => 141 | 109 => 197 | 5 => 5 | 72 => 201 | 76 => 186 | 51 => 217 | 146 => 218 | 53 => 212 | 148 => 220 | 70 => 199 | 37 => 22 | 75 => 77 | 127 => 222 | 164 => 150 | 80 => 144 | n => n, fun | n => n⟩
theorem Tryz.lays105 : Go.Proofs.Lays.n105 Tryz.prog Tryz.lays105_ren := {
  mixed := by kernel_rfl
  f99 := Tryz.func72.trans (congrArg some (by kernel_rfl))
  f105 := Tryz.func120.trans (congrArg some (by kernel_rfl))
  f165 := Tryz.func128.trans (congrArg some (by kernel_rfl))
  f166 := Tryz.func129.trans (congrArg some (by kernel_rfl))
  f169 := Tryz.func131.trans (congrArg some (by kernel_rfl))
  f170 := Tryz.func130.trans (congrArg some (by kernel_rfl))
  f206 := Tryz.func99.trans (congrArg some (by kernel_rfl))
  f212 := Tryz.func127.trans (congrArg some (by kernel_rfl))
  f240 := Tryz.func143.trans (congrArg some (by kernel_rfl))
  f241 := Tryz.func144.trans (congrArg some (by kernel_rfl))
  f263 := Tryz.func141.trans (congrArg some (by kernel_rfl))
  f264 := Tryz.func142.trans (congrArg some (by kernel_rfl))
  f276 := Tryz.func153.trans (congrArg some (by kernel_rfl))
  f277 := Tryz.func154.trans (congrArg some (by kernel_rfl))
  t0 := Tryz.underlying0
  a0 := Tryz.isAgg0
  z0 := Tryz.sizeOf0
  v0 := Tryz.zeroValue0
  t3 := Tryz.underlying3
  a3 := Tryz.isAgg3
  z3 := Tryz.sizeOf3
  v3 := Tryz.zeroValue3
  t4 := Tryz.underlying4
  a4 := Tryz.isAgg4
  z4 := Tryz.sizeOf4
  v4 := Tryz.zeroValue4
  t5 := Tryz.underlying5
  a5 := Tryz.isAgg5
  z5 := Tryz.sizeOf5
  v5 := Tryz.zeroValue5
  t9 := Tryz.underlying9
  a9 := Tryz.isAgg9
  z9 := Tryz.sizeOf9
  v9 := Tryz.zeroValue9
  t20 := Tryz.underlying20
  a20 := Tryz.isAgg20
  z20 := Tryz.sizeOf20
  v20 := Tryz.zeroValue20
  t37 := Tryz.underlying22
  a37 := Tryz.isAgg22
  z37 := Tryz.sizeOf22
  v37 := Tryz.zeroValue22
  t46 := Tryz.underlying141
  a46 := Tryz.isAgg141
  z46 := Tryz.sizeOf141
  v46 := Tryz.zeroValue141
  t51 := Tryz.underlying217
  a51 := Tryz.isAgg217
  z51 := Tryz.sizeOf217
  v51 := Tryz.zeroValue217
  t53 := Tryz.underlying212
  a53 := Tryz.isAgg212
  z53 := Tryz.sizeOf212
  v53 := Tryz.zeroValue212
  t70 := Tryz.underlying199
  a70 := Tryz.isAgg199
  z70 := Tryz.sizeOf199
  v70 := Tryz.zeroValue199
  t72 := Tryz.underlying201
  a72 := Tryz.isAgg201
  z72 := Tryz.sizeOf201
  v72 := Tryz.zeroValue201
  t75 := Tryz.underlying77
  a75 := Tryz.isAgg77
  z75 := Tryz.sizeOf77
  v75 := Tryz.zeroValue77
  t76 := Tryz.underlying186
  a76 := Tryz.isAgg186
  z76 := Tryz.sizeOf186
  v76 := Tryz.zeroValue186
  t109 := Tryz.underlying197
  a109 := Tryz.isAgg197
  z109 := Tryz.sizeOf197
  v109 := Tryz.zeroValue197
  t127 := Tryz.underlying222
  a127 := Tryz.isAgg222
  z127 := Tryz.sizeOf222
  v127 := Tryz.zeroValue222
  t146 := Tryz.underlying218
  a146 := Tryz.isAgg218
  z146 := Tryz.sizeOf218
  v146 := Tryz.zeroValue218
  t148 := Tryz.underlying220
  a148 := Tryz.isAgg220
  z148 := Tryz.sizeOf220
  v148 := Tryz.zeroValue220
  t164 := Tryz.underlying150
  a164 := Tryz.isAgg150
  z164 := Tryz.sizeOf150
  v164 := Tryz.zeroValue150 }
theorem Tryz.Builder_Extra_105 : Builder.Extra Tryz.prog Tryz.lays105_ren := {
  sizeBuilder := by kernel_rfl
  liesBuilder := by kernel_rfl
  t5 := Tryz.underlying5
  a5 := Tryz.isAgg5
  z5 := Tryz.sizeOf5
  v5 := Tryz.zeroValue5
  infoByte := by kernel_rfl
  cellsByte := by kernel_rfl
  sizeByte := by kernel_rfl
  neB5 := by decide }
open Go.RowKit Go.Lib in
theorem Tryz.strings_Repeat (s : ByteArray) (c : Nat) (w : World) (hc : c ≤ 9223372036854775807) (hlen : s.size * c ≤ 140737488355328) :
    Calls Tryz.prog 120 #[.string s, .int .i64 c] w fun e w' => e = .returned (.string ⟨(Lib.repeatL s.data.toList c).toArray⟩) ∧ Below w.heap.size w w' := Any.strings_Repeat Tryz.lays105 Tryz.Builder_Extra_105 s c w hc hlen
end Go.Proofs.YtdiingonnddkcaaGreatDoor
namespace Go.Proofs.YtdiingonnddkcaaGreatDoor
open Go.RowKit Go.Shelf

theorem dd_ne (v : Nat) : 1 ≤ (Lib.decDigits v).length := by
  unfold Lib.decDigits
  split
  · simp
  · simp
theorem dd_small {v : Nat} (h : v < 10) : Lib.decDigits v = [UInt8.ofNat (48 + v)] := by rw [Lib.decDigits, dif_pos h]
theorem dd_big {v : Nat} (h : ¬ v < 10) : Lib.decDigits v = Lib.decDigits (v / 10) ++ [UInt8.ofNat (48 + v % 10)] := by rw [Lib.decDigits, dif_neg h]
theorem six_dd : ∀ f v d, v < 10 ^ f → d ≤ f → six f v d = if v = 0 ∧ d = 0 then [] else List.replicate (d - (Lib.decDigits v).length) 48 ++ Lib.decDigits v
  | 0, v, d, hv, hd => by
    have h1 : v = 0 := by simpa using hv
    have h2 : d = 0 := by omega
    rw [if_pos ⟨h1, h2⟩]; rfl
  | f + 1, v, d, hv, hd => by
    unfold six
    by_cases h0 : v = 0 ∧ d = 0
    · rw [if_pos h0, if_pos h0]
    · rw [if_neg h0, if_neg h0, six_dd f (v / 10) (d - 1) (by rw [Nat.pow_succ] at hv; omega) (by omega)]
      by_cases hs : v < 10
      · rw [dd_small hs, show v / 10 = 0 by omega, show v % 10 = v by omega]
        by_cases hd1 : d - 1 = 0
        · rw [if_pos ⟨rfl, hd1⟩]
          have : d - [UInt8.ofNat (48 + v)].length = 0 := by simp; omega
          rw [this]
          rfl
        · rw [if_neg (fun h => hd1 h.2), dd_small (v := 0) (by omega)]
          show List.replicate (d - 1 - 1) 48 ++ [UInt8.ofNat 48] ++ _ = List.replicate (d - 1) 48 ++ _
          congr 1
          rw [show d - 1 = (d - 1 - 1) + 1 by omega, List.replicate_succ']
          rfl
      · rw [if_neg (fun h => by omega), dd_big hs, List.append_assoc, List.length_append]
        congr 2
        show d - 1 - _ = d - (_ + 1)
        omega
theorem dd_len : ∀ f v, v < 10 ^ f → 1 ≤ f → (Lib.decDigits v).length ≤ f
  | 0, _, _, h => by omega
  | f + 1, v, hv, _ => by
    by_cases hs : v < 10
    · rw [dd_small hs]; simp
    · rw [dd_big hs, List.length_append]
      have h1 : v / 10 < 10 ^ f := by rw [Nat.pow_succ] at hv; omega
      have hf : 1 ≤ f := by
        rcases Nat.eq_zero_or_pos f with h | h
        · subst h; simp at h1; omega
        · exact h
      have := dd_len f (v / 10) h1 hf
      simp; omega
theorem rep_zero (c : Nat) : Lib.repeatL [48] c = List.replicate c (48 : UInt8) := by
  have := Lib.repeatL_replicate 48 1 c
  rw [Nat.mul_one] at this
  exact this
theorem below_grow9 (w : World) (k : Nat) (os : Array Obj) : Below w.heap.size w (Sort.grow (w.drewN k) os) :=
  ⟨rfl, rfl, rfl, by simp [Sort.grow, World.drewN], fun q hq => by simp [Sort.grow, World.drewN, Array.getElem?_append_left hq]⟩

set_option linter.unusedSimpArgs false in
set_option maxHeartbeats 2000000 in
set_option maxRecDepth 100000 in
theorem suffix_any (w : World) (n : Int) (h0 : 0 ≤ n) (h1 : n ≤ 2147483647) (htab : Lib.TabIs Tryz.prog w "internal/strconv.uint64pow10" .u64 Lib.pow10Tab) :
    Calls Tryz.prog 107 #[.int .i64 n] w fun e w' => e = .returned (.string ⟨(six 12 n.toNat 6).toArray⟩) ∧ Below w.heap.size w w' := by
  have HFI : Hid (Calls Tryz.prog 119 #[.int .i64 n, .int .i64 10] w fun e w' => e = .returned (.string ⟨(Lib.decDigits n.toNat).toArray⟩) ∧ Below w.heap.size w w') := by
    refine (Tryz.strconv_FormatInt_10 n (by omega) (by omega) w htab).mono ?_
    rintro e w' ⟨rfl, k, os, rfl⟩
    refine ⟨?_, below_grow9 w k os⟩
    unfold Lib.itoa
    rw [if_neg (by omega)]
  have hv : n.toNat < 10 ^ 12 := by omega
  have hl := dd_len 12 n.toNat hv (by omega)
  have hl1 := dd_ne n.toNat
  have HS : Hid (six 12 n.toNat 6 = List.replicate (6 - (Lib.decDigits n.toNat).length) 48 ++ Lib.decDigits n.toNat) := by
    show _ = _
    rw [six_dd 12 _ _ hv (by omega), if_neg (by omega)]
  obtain ⟨s, hs⟩ : ∃ s : ByteArray, s = ⟨(Lib.decDigits n.toNat).toArray⟩ := ⟨_, rfl⟩
  have hsz : s.size = (Lib.decDigits n.toNat).length := by rw [hs]; show (List.toArray _).size = _; rw [List.size_toArray]
  rw [← hs] at HFI
  have HSD := hd9 hs
  have HSZ := hd9 hsz
  have hs1 : 1 ≤ s.size := by omega
  have hs2 : s.size ≤ 12 := by omega
  clear htab hv hs hl hl1 hsz
  obtain ⟨c, hc⟩ : ∃ c : Nat, c = 6 - s.size := ⟨_, rfl⟩
  have HRE : Hid (∀ W, Calls Tryz.prog 120 #[.string ⟨#[48]⟩, .int .i64 (c : Int)] W fun e w' => e = .returned (.string ⟨(List.replicate c (48 : UInt8)).toArray⟩) ∧ Below W.heap.size W w') := fun W => by
    have h9 := Tryz.strings_Repeat ⟨#[48]⟩ c W (by omega) (by show 1 * c ≤ _; omega)
    rw [show (⟨#[48]⟩ : ByteArray).data.toList = [48] from rfl, rep_zero] at h9
    exact h9
  have hcm : max (0 : Int) (6 - (s.size : Int)) = (c : Int) := by omega
  go_enter Tryz.func107, Tryz.ntmps107
  go_wp2_with fail
  refine HFI.out.mono ?_
  rintro e w1 ⟨rfl, b1⟩
  have B1 := hd9 b1
  clear b1 HFI
  go_wp2_with fail
  rw [← hc]
  refine (HRE.out w1).mono ?_
  rintro e w2 ⟨rfl, b2⟩
  have B2 := hd9 (B1.out.trans (b2.mono B1.out.size))
  clear b2 HRE B1 hcm
  obtain ⟨t, ht⟩ : ∃ t : ByteArray, t = ⟨(List.replicate c (48 : UInt8)).toArray⟩ := ⟨_, rfl⟩
  have hts : t.size = c := by rw [ht]; show (List.toArray _).size = _; rw [List.size_toArray, List.length_replicate]
  rw [← ht]
  have HFIN : Hid (t ++ s = ⟨(six 12 n.toNat 6).toArray⟩) := by
    show _ = _
    rw [HS.out, ← HSZ.out, ← hc, ht, HSD.out]
    apply ByteArray.ext
    rw [ByteArray.data_append]
    apply Array.ext'
    simp
  clear ht
  have hcc : t.size + s.size ≤ 9223372036854775807 := by omega
  clear hc
  go_wp2_with fail
  refine bodyPost_ret (v := .string (t ++ s)) (by simp [results, Tryz.results107, go_sem]) rfl ⟨by rw [HFIN.out], B2.out⟩

end Go.Proofs.YtdiingonnddkcaaGreatDoor
namespace Go.Proofs.YtdiingonnddkcaaGreatDoor
open Go.RowKit Go.Extern.Stop Go.Stop Go.Extern

theorem rlm9 (v : Value) (f : Value → Sem Value) (g : Array Value → Sem Value) : ReflectliteValue.method.match_2 (fun _ => Sem Value) #[v] f g = f v := rfl
theorem rls9 (v x : Value) (f : Value → Value → Sem Value) (g : Array Value → Sem Value) : ReflectliteValue.set.match_3 (fun _ => Sem Value) #[v, x] f g = f v x := rfl
theorem Tryz.rmK (h : Value) (w : World) : (Go.method 156 171 (.agg #[h]) "Kind").run Tryz.prog w = .ok (171, h) w := by kernel_rfl
theorem Tryz.rmE (h : Value) (w : World) : (Go.method 156 171 (.agg #[h]) "Elem").run Tryz.prog w = .ok (183, .agg #[h]) w := by kernel_rfl
theorem Tryz.rmI (h : Value) (w : World) : (Go.method 156 171 (.agg #[h]) "Implements").run Tryz.prog w = .ok (184, .agg #[h]) w := by kernel_rfl
theorem Tryz.rmA (h : Value) (w : World) : (Go.method 156 171 (.agg #[h]) "AssignableTo").run Tryz.prog w = .ok (181, .agg #[h]) w := by kernel_rfl
theorem Tryz.rmU (v : Value) (w : World) : (Go.method 179 115 v "Unwrap").run Tryz.prog w = .ok (176, v) w := by kernel_rfl
theorem Tryz.rasff (w : World) : (ReflectliteType.relation "AssignableTo" ReflectliteType.assignableTo #[.agg #[.pointer (some ⟨7, 71, none⟩)], .iface 171 (.agg #[.pointer (some ⟨7, 71, none⟩)])]).run Tryz.prog w = .ok (.bool true) w := by kernel_rfl
theorem Tryz.rasfo (w : World) : (ReflectliteType.relation "AssignableTo" ReflectliteType.assignableTo #[.agg #[.pointer (some ⟨7, 71, none⟩)], .iface 171 (.agg #[.pointer (some ⟨7, 115, none⟩)])]).run Tryz.prog w = .ok (.bool false) w := by kernel_rfl
theorem Tryz.rasof (w : World) : (ReflectliteType.relation "AssignableTo" ReflectliteType.assignableTo #[.agg #[.pointer (some ⟨7, 115, none⟩)], .iface 171 (.agg #[.pointer (some ⟨7, 71, none⟩)])]).run Tryz.prog w = .ok (.bool false) w := by kernel_rfl
theorem Tryz.rasoo (w : World) : (ReflectliteType.relation "AssignableTo" ReflectliteType.assignableTo #[.agg #[.pointer (some ⟨7, 115, none⟩)], .iface 171 (.agg #[.pointer (some ⟨7, 115, none⟩)])]).run Tryz.prog w = .ok (.bool true) w := by kernel_rfl
theorem Tryz.rnAf (v : Value) (x : TypeId) (w : World) : (Instr.typeAssert (.iface 71 v) x 176 true).run Tryz.prog w = .ok (.tuple #[.nilIface, .bool false]) w := run_typeAssert_lacksB Tryz.underlying176 (by kernel_rfl) (by kernel_rfl) v x w
theorem Tryz.rnAo (v : Value) (x : TypeId) (w : World) : (Instr.typeAssert (.iface 115 v) x 176 true).run Tryz.prog w = .ok (.tuple #[.nilIface, .bool false]) w := run_typeAssert_lacksB Tryz.underlying176 (by kernel_rfl) (by kernel_rfl) v x w
theorem Tryz.rnUf (v : Value) (x : TypeId) (w : World) : (Instr.typeAssert (.iface 71 v) x 179 true).run Tryz.prog w = .ok (.tuple #[.nilIface, .bool false]) w := run_typeAssert_lacksB Tryz.underlying179 (by kernel_rfl) (by kernel_rfl) v x w
theorem Tryz.rnVf (v : Value) (x : TypeId) (w : World) : (Instr.typeAssert (.iface 71 v) x 181 true).run Tryz.prog w = .ok (.tuple #[.nilIface, .bool false]) w := run_typeAssert_lacksB Tryz.underlying181 (by kernel_rfl) (by kernel_rfl) v x w
theorem Tryz.ryUo (v : Value) (x : TypeId) (w : World) : (Instr.typeAssert (.iface 115 v) x 179 true).run Tryz.prog w = .ok (.tuple #[.iface 115 v, .bool true]) w := run_typeAssert_hasB Tryz.underlying179 (by kernel_rfl) v x w

theorem Tryz.rvPF (t : Addr) (w : World) : (ReflectliteValue.unpack (.iface 117 (.pointer (some t)))).run Tryz.prog w = .ok (.agg #[.pointer (some ⟨7, 117, none⟩), .pointer (some ⟨w.heap.size, 0, none⟩), .int .u64 150]) (w.alloc (.cells #[.pointer (some t)] 117)) := by kernel_rfl
theorem Tryz.rtyF (a : Addr) (w : World) : (ReflectliteValue.methodAny (ReflectliteValue.valueError "reflectlite.Value.Type" 0) (fun t _ _ _ => ReflectliteType.toType t) #[.agg #[.pointer (some ⟨7, 117, none⟩), .pointer (some a), .int .u64 150]]).run Tryz.prog w = .ok (.iface 171 (.agg #[.pointer (some ⟨7, 117, none⟩)])) w := by kernel_rfl
theorem Tryz.rkPF (w : World) : ((ReflectliteType.abiMethod fun t => Functor.map (fun a : Nat => Value.int IntKind.u8 (a : Int)) (Rtype.kind t)) #[.pointer (some ⟨7, 117, none⟩)]).run Tryz.prog w = .ok (.int .u8 22) w := by kernel_rfl
theorem Tryz.rkEF (w : World) : ((ReflectliteType.abiMethod fun t => Functor.map (fun a : Nat => Value.int IntKind.u8 (a : Int)) (Rtype.kind t)) #[.pointer (some ⟨7, 71, none⟩)]).run Tryz.prog w = .ok (.int .u8 25) w := by kernel_rfl
theorem Tryz.rptF (a : Addr) (w : World) : (ReflectliteValue.parts (.agg #[.pointer (some ⟨7, 117, none⟩), .pointer (some a), .int .u64 150])).run Tryz.prog w = .ok (some (117, a, 150)) w := by kernel_rfl
theorem Tryz.rinF (a p : Addr) (W : World) (ha : W.cell? a = some (.pointer (some p))) : (ReflectliteValue.method (ReflectliteValue.valueError "reflectlite.Value.IsNil" 0) ReflectliteValue.isNil #[.agg #[.pointer (some ⟨7, 117, none⟩), .pointer (some a), .int .u64 150]]).run Tryz.prog W = .ok (.bool false) W := by
  delta ReflectliteValue.method
  rw [rlm9]
  simp only [Sem.run_bind, Tryz.rptF, Result.andThen]
  simp [ReflectliteValue.isNil, loadVar, isAgg, underlying, Tryz.underlying117, ha, Result.andThen]
theorem Tryz.relF (w : World) : (ReflectliteType.method ReflectliteType.elem #[.agg #[.pointer (some ⟨7, 117, none⟩)]]).run Tryz.prog w = .ok (.iface 171 (.agg #[.pointer (some ⟨7, 71, none⟩)])) w := by kernel_rfl
theorem Tryz.rimF (w : World) : (ReflectliteType.relation "Implements" ReflectliteType.implements_ #[.agg #[.pointer (some ⟨7, 71, none⟩)], .iface 171 (.agg #[.pointer (some ⟨7, 77, none⟩)])]).run Tryz.prog w = .ok (.bool true) w := by kernel_rfl
theorem Tryz.rtoF (x : Value) (w : World) : (ReflectliteType.typeOf #[.iface 71 x]).run Tryz.prog w = .ok (.iface 171 (.agg #[.pointer (some ⟨7, 71, none⟩)])) w := by kernel_rfl
theorem Tryz.rvEF (c : Int) (w : World) : (ReflectliteValue.unpack (.iface 71 (.agg #[.int .i64 c]))).run Tryz.prog w = .ok (.agg #[.pointer (some ⟨7, 71, none⟩), .pointer (some ⟨w.heap.size, 0, none⟩), .int .u64 153]) (w.alloc (.cells #[.int .i64 c] 71)) := by kernel_rfl
theorem Tryz.reoF (w : World) : (Rtype.elem? 117).run Tryz.prog w = .ok (some 71) w := by kernel_rfl
theorem Tryz.rmkF (p : Addr) (w : World) : (ReflectliteValue.mk 71 p ReflectliteValue.flagAddr).run Tryz.prog w = .ok (.agg #[.pointer (some ⟨7, 71, none⟩), .pointer (some p), .int .u64 409]) w := by kernel_rfl
theorem Tryz.revF (a p : Addr) (W : World) (ha : W.cell? a = some (.pointer (some p))) : (ReflectliteValue.method (ReflectliteValue.valueError "reflectlite.Value.Elem" 0) ReflectliteValue.elem #[.agg #[.pointer (some ⟨7, 117, none⟩), .pointer (some a), .int .u64 150]]).run Tryz.prog W = .ok (.agg #[.pointer (some ⟨7, 71, none⟩), .pointer (some p), .int .u64 409]) W := by
  delta ReflectliteValue.method
  rw [rlm9]
  simp only [Sem.run_bind, Tryz.rptF, Result.andThen]
  simp [ReflectliteValue.elem, loadVar, isAgg, underlying, Tryz.underlying117, ha, Result.andThen, Tryz.reoF, Tryz.rmkF]
theorem Tryz.rpaF (a : Addr) (w : World) : (ReflectliteValue.parts (.agg #[.pointer (some ⟨7, 71, none⟩), .pointer (some a), .int .u64 409])).run Tryz.prog w = .ok (some (71, a, 409)) w := by kernel_rfl
theorem Tryz.rpbF (a : Addr) (w : World) : (ReflectliteValue.parts (.agg #[.pointer (some ⟨7, 71, none⟩), .pointer (some a), .int .u64 153])).run Tryz.prog w = .ok (some (71, a, 153)) w := by kernel_rfl
theorem Tryz.rdaF (w : World) : (Rtype.directlyAssignable 71 71).run Tryz.prog w = .ok true w := by kernel_rfl
theorem Tryz.rvPO (t : Addr) (w : World) : (ReflectliteValue.unpack (.iface 118 (.pointer (some t)))).run Tryz.prog w = .ok (.agg #[.pointer (some ⟨7, 118, none⟩), .pointer (some ⟨w.heap.size, 0, none⟩), .int .u64 150]) (w.alloc (.cells #[.pointer (some t)] 118)) := by kernel_rfl
theorem Tryz.rtyO (a : Addr) (w : World) : (ReflectliteValue.methodAny (ReflectliteValue.valueError "reflectlite.Value.Type" 0) (fun t _ _ _ => ReflectliteType.toType t) #[.agg #[.pointer (some ⟨7, 118, none⟩), .pointer (some a), .int .u64 150]]).run Tryz.prog w = .ok (.iface 171 (.agg #[.pointer (some ⟨7, 118, none⟩)])) w := by kernel_rfl
theorem Tryz.rkPO (w : World) : ((ReflectliteType.abiMethod fun t => Functor.map (fun a : Nat => Value.int IntKind.u8 (a : Int)) (Rtype.kind t)) #[.pointer (some ⟨7, 118, none⟩)]).run Tryz.prog w = .ok (.int .u8 22) w := by kernel_rfl
theorem Tryz.rkEO (w : World) : ((ReflectliteType.abiMethod fun t => Functor.map (fun a : Nat => Value.int IntKind.u8 (a : Int)) (Rtype.kind t)) #[.pointer (some ⟨7, 115, none⟩)]).run Tryz.prog w = .ok (.int .u8 25) w := by kernel_rfl
theorem Tryz.rptO (a : Addr) (w : World) : (ReflectliteValue.parts (.agg #[.pointer (some ⟨7, 118, none⟩), .pointer (some a), .int .u64 150])).run Tryz.prog w = .ok (some (118, a, 150)) w := by kernel_rfl
theorem Tryz.rinO (a p : Addr) (W : World) (ha : W.cell? a = some (.pointer (some p))) : (ReflectliteValue.method (ReflectliteValue.valueError "reflectlite.Value.IsNil" 0) ReflectliteValue.isNil #[.agg #[.pointer (some ⟨7, 118, none⟩), .pointer (some a), .int .u64 150]]).run Tryz.prog W = .ok (.bool false) W := by
  delta ReflectliteValue.method
  rw [rlm9]
  simp only [Sem.run_bind, Tryz.rptO, Result.andThen]
  simp [ReflectliteValue.isNil, loadVar, isAgg, underlying, Tryz.underlying118, ha, Result.andThen]
theorem Tryz.relO (w : World) : (ReflectliteType.method ReflectliteType.elem #[.agg #[.pointer (some ⟨7, 118, none⟩)]]).run Tryz.prog w = .ok (.iface 171 (.agg #[.pointer (some ⟨7, 115, none⟩)])) w := by kernel_rfl
theorem Tryz.rimO (w : World) : (ReflectliteType.relation "Implements" ReflectliteType.implements_ #[.agg #[.pointer (some ⟨7, 115, none⟩)], .iface 171 (.agg #[.pointer (some ⟨7, 77, none⟩)])]).run Tryz.prog w = .ok (.bool true) w := by kernel_rfl
theorem Tryz.rtoO (x : Value) (w : World) : (ReflectliteType.typeOf #[.iface 115 x]).run Tryz.prog w = .ok (.iface 171 (.agg #[.pointer (some ⟨7, 115, none⟩)])) w := by kernel_rfl
theorem Tryz.rvEO (c : Int) (v : Value) (w : World) : (ReflectliteValue.unpack (.iface 115 (.agg #[.int .i64 c, v]))).run Tryz.prog w = .ok (.agg #[.pointer (some ⟨7, 115, none⟩), .pointer (some ⟨w.heap.size, 0, none⟩), .int .u64 153]) (w.alloc (.cells #[.int .i64 c, v] 115)) := by kernel_rfl
theorem Tryz.reoO (w : World) : (Rtype.elem? 118).run Tryz.prog w = .ok (some 115) w := by kernel_rfl
theorem Tryz.rmkO (p : Addr) (w : World) : (ReflectliteValue.mk 115 p ReflectliteValue.flagAddr).run Tryz.prog w = .ok (.agg #[.pointer (some ⟨7, 115, none⟩), .pointer (some p), .int .u64 409]) w := by kernel_rfl
theorem Tryz.revO (a p : Addr) (W : World) (ha : W.cell? a = some (.pointer (some p))) : (ReflectliteValue.method (ReflectliteValue.valueError "reflectlite.Value.Elem" 0) ReflectliteValue.elem #[.agg #[.pointer (some ⟨7, 118, none⟩), .pointer (some a), .int .u64 150]]).run Tryz.prog W = .ok (.agg #[.pointer (some ⟨7, 115, none⟩), .pointer (some p), .int .u64 409]) W := by
  delta ReflectliteValue.method
  rw [rlm9]
  simp only [Sem.run_bind, Tryz.rptO, Result.andThen]
  simp [ReflectliteValue.elem, loadVar, isAgg, underlying, Tryz.underlying118, ha, Result.andThen, Tryz.reoO, Tryz.rmkO]
theorem Tryz.rpaO (a : Addr) (w : World) : (ReflectliteValue.parts (.agg #[.pointer (some ⟨7, 115, none⟩), .pointer (some a), .int .u64 409])).run Tryz.prog w = .ok (some (115, a, 409)) w := by kernel_rfl
theorem Tryz.rpbO (a : Addr) (w : World) : (ReflectliteValue.parts (.agg #[.pointer (some ⟨7, 115, none⟩), .pointer (some a), .int .u64 153])).run Tryz.prog w = .ok (some (115, a, 153)) w := by kernel_rfl
theorem Tryz.rdaO (w : World) : (Rtype.directlyAssignable 115 115).run Tryz.prog w = .ok true w := by kernel_rfl
theorem Tryz.rseF (t b : Nat) (c : Int) (old : Value) (W : World) (hb : W.cell? ⟨b, 0, none⟩ = some (.int .i64 c)) (ht : W.cell? ⟨t, 0, none⟩ = some old) (hf : W.frozen? ⟨t, 0, none⟩ = false) :
    (ReflectliteValue.set #[.agg #[.pointer (some ⟨7, 71, none⟩), .pointer (some ⟨t, 0, none⟩), .int .u64 409], .agg #[.pointer (some ⟨7, 71, none⟩), .pointer (some ⟨b, 0, none⟩), .int .u64 153]]).run Tryz.prog W = .ok (.tuple #[]) (W.setCell ⟨t, 0, none⟩ (.int .i64 c)) := by
  delta ReflectliteValue.set
  rw [rls9]
  simp only [Sem.run_bind, Tryz.rpaF, Tryz.rpbF, Result.andThen]
  go_simp
  rw [if_neg (show ¬ 409 / ReflectliteValue.flagAddr % 2 = 0 by decide)]
  simp [Tryz.rdaF, Result.andThen, ht, hf]
theorem Tryz.rseO (t b : Nat) (c d : Int) (old old2 : Value) (W : World) (hb : W.cell? ⟨b, 0, none⟩ = some (.int .i64 c)) (hb1 : W.cell? ⟨b, 1, none⟩ = some (.iface 71 (.agg #[.int .i64 d]))) (ht : W.cell? ⟨t, 0, none⟩ = some old) (hf : W.frozen? ⟨t, 0, none⟩ = false) (ht1 : W.cell? ⟨t, 1, none⟩ = some old2) (hf1 : W.frozen? ⟨t, 1, none⟩ = false) :
    (ReflectliteValue.set #[.agg #[.pointer (some ⟨7, 115, none⟩), .pointer (some ⟨t, 0, none⟩), .int .u64 409], .agg #[.pointer (some ⟨7, 115, none⟩), .pointer (some ⟨b, 0, none⟩), .int .u64 153]]).run Tryz.prog W = .ok (.tuple #[]) ((W.setCell ⟨t, 0, none⟩ (.int .i64 c)).setCell ⟨t, 1, none⟩ (.iface 71 (.agg #[.int .i64 d]))) := by
  have ht2 : (W.setCell ⟨t, 0, none⟩ (.int .i64 c)).cell? ⟨t, 1, none⟩ = some old2 := (World.cell?_setCell_other _ _ _ _ (by simp)).trans ht1
  delta ReflectliteValue.set
  rw [rls9]
  simp only [Sem.run_bind, Tryz.rpaO, Tryz.rpbO, Result.andThen]
  go_simp
  rw [if_neg (show ¬ 409 / ReflectliteValue.flagAddr % 2 = 0 by decide)]
  simp [Tryz.rdaO, Result.andThen, ht, hf, ht2, hf1]


theorem below2 (w : World) (o1 o2 : Obj) : Below w.heap.size w ((w.alloc o1).alloc o2) := ((Below.refl _ _).alloc (Nat.le_refl _) _).alloc (by simp) _
theorem below4 (w : World) (o1 o2 o3 o4 : Obj) : Below w.heap.size w ((((w.alloc o1).alloc o2).alloc o3).alloc o4) := (below2 w o1 o2).trans ((below2 _ o3 o4).mono (by simp; omega))
set_option linter.unusedSimpArgs false in
set_option maxHeartbeats 4000000 in
set_option maxRecDepth 100000 in
/-- errors.as, the error of the very type of the target: fault. -/
theorem as_ff (w : World) (c : Int) (t a : Nat) (tg : Value) (ha : w.cell? ⟨a, 0, none⟩ = some (.pointer (some ⟨t, 0, none⟩))) (hal : a < w.heap.size) (ht : St w t [.int .i64 0]) :
    Calls Tryz.prog 91 #[.iface 71 (.agg #[.int .i64 c]), tg, .agg #[.pointer (some ⟨7, 117, none⟩), .pointer (some ⟨a, 0, none⟩), .int .u64 150], .iface 171 (.agg #[.pointer (some ⟨7, 71, none⟩)])] w fun e w' => e = .returned (.bool true) ∧ St w' t [.int .i64 c] ∧ Tw w t none w' none := by
  have hx1 := @run_callFunc_extern Tryz.prog 88 _ (fun args => ReflectliteValue.unpack (args.getD 0 (.tuple #[]))) Tryz.func88 (by kernel_rfl) (by kernel_rfl) (by kernel_rfl) (by kernel_rfl)
  have hx2 := @run_callFunc_extern Tryz.prog 89 _ (ReflectliteValue.methodAny (ReflectliteValue.valueError "reflectlite.Value.Type" 0) (fun t _ _ _ => ReflectliteType.toType t)) Tryz.func89 (by kernel_rfl) (by kernel_rfl) (by kernel_rfl) (by kernel_rfl)
  have hx3 := @run_callFunc_extern Tryz.prog 90 _ (ReflectliteValue.method (ReflectliteValue.valueError "reflectlite.Value.IsNil" 0) ReflectliteValue.isNil) Tryz.func90 (by kernel_rfl) (by kernel_rfl) (by kernel_rfl) (by kernel_rfl)
  have hx4 := @run_callFunc_extern Tryz.prog 171 _ (ReflectliteType.abiMethod fun t => do pure (.int .u8 (← Rtype.kind t))) Tryz.func171 (by kernel_rfl) (by kernel_rfl) (by kernel_rfl) (by kernel_rfl)
  have hx5 := @run_callFunc_extern Tryz.prog 183 _ (ReflectliteType.method ReflectliteType.elem) Tryz.func183 (by kernel_rfl) (by kernel_rfl) (by kernel_rfl) (by kernel_rfl)
  have hx6 := @run_callFunc_extern Tryz.prog 184 _ (ReflectliteType.relation "Implements" ReflectliteType.implements_) Tryz.func184 (by kernel_rfl) (by kernel_rfl) (by kernel_rfl) (by kernel_rfl)
  have hx7 := @run_callFunc_extern Tryz.prog 104 _ ReflectliteType.typeOf Tryz.func104 (by kernel_rfl) (by kernel_rfl) (by kernel_rfl) (by kernel_rfl)
  have hx8 := @run_callFunc_extern Tryz.prog 181 _ (ReflectliteType.relation "AssignableTo" ReflectliteType.assignableTo) Tryz.func181 (by kernel_rfl) (by kernel_rfl) (by kernel_rfl) (by kernel_rfl)
  have hx9 := @run_callFunc_extern Tryz.prog 105 _ (ReflectliteValue.method (ReflectliteValue.valueError "reflectlite.Value.Elem" 0) ReflectliteValue.elem) Tryz.func105 (by kernel_rfl) (by kernel_rfl) (by kernel_rfl) (by kernel_rfl)
  have hx10 := @run_callFunc_extern Tryz.prog 106 _ ReflectliteValue.set Tryz.func106 (by kernel_rfl) (by kernel_rfl) (by kernel_rfl) (by kernel_rfl)
  have mK := Tryz.rmK
  have mE := Tryz.rmE
  have mI := Tryz.rmI
  have mA := Tryz.rmA
  have tO := Tryz.rtoF
  have as1 := Tryz.rasff
  have vE := Tryz.rvEF
  have htl := ht.lt
  have B1 : Hid (Below w.heap.size w (w.alloc (.cells #[.pointer (some ⟨7, 117, none⟩), .pointer (some ⟨a, 0, none⟩), .int .u64 150] 153))) := (Below.refl _ _).alloc (Nat.le_refl _) _
  have B2 : Hid (Below w.heap.size w ((w.alloc (.cells #[.pointer (some ⟨7, 117, none⟩), .pointer (some ⟨a, 0, none⟩), .int .u64 150] 153)).alloc (.cells #[.int .i64 c] 71))) := B1.out.alloc B1.out.size _
  have T2 := hd9 (ht.below B2.out)
  have el := Tryz.revF ⟨a, 0, none⟩ ⟨t, 0, none⟩ (w.alloc (.cells #[.pointer (some ⟨7, 117, none⟩), .pointer (some ⟨a, 0, none⟩), .int .u64 150] 153)) ((B1.out.cell (p := ⟨a, 0, none⟩) hal).trans ha)
  have se := Tryz.rseF t (w.heap.size + 1) c (.int .i64 0) ((w.alloc (.cells #[.pointer (some ⟨7, 117, none⟩), .pointer (some ⟨a, 0, none⟩), .int .u64 150] 153)).alloc (.cells #[.int .i64 c] 71)) (by rw [World.cell?_alloc_at _ _ _ _ (by simp)]; rfl) (T2.out.cl 0 _ rfl) (T2.out.fz 0)
  go_enter Tryz.func91, Tryz.ntmps91
  go_wp2
  refine wp_loop_rounds 1 ?_
  rw [rounds_succ]
  go_wp2
  exact bodyPost_ret (v := .bool true) (by simp [results, Tryz.results91, go_sem]) rfl ⟨rfl, (ht.set 0 _).below (below2 _ _ _), (Tw.refl w t none).set.trans (Tw.ofBelow (below2 _ _ _) t none)⟩

end Go.Proofs.YtdiingonnddkcaaGreatDoor


