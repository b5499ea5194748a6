import Derived.Test.YtejhcebodlcloaaGreatDoorJ11
import Derived.Test.YtejhcebodlcloaaGreatDoorJ12
import Derived.Laws.Cover1
import Derived.Test.YtejhcebodlcloaaGreatDoorJ13
namespace Go.Proofs.YtejhcebodlcloaaGreatDoor
open Go.RowKit Go.Shelf

/-- What takes one list of nodes to the other. -/
def delE (a : Nd) : Ef := ⟨true, { nd0 with path := a.path }⟩
def putE (b : Nd) : Ef := ⟨false, b⟩
/-- The equality of two nodes, as the program asks for it. -/
def eqNd (a b : Nd) : Bool := (a.path.toList == b.path.toList) && ((a.data.toList == b.data.toList) && ((a.ver == b.ver) && ((a.cver == b.cver) && ((a.cz == b.cz) && ((a.mz == b.mz) && (a.pz == b.pz))))))
def dif : List Nd → List Nd → List Ef
  | [], now => now.map putE
  | a :: was, [] => (a :: was).map delE
  | a :: was, b :: now =>
    if ltP b.path a.path then putE b :: dif (a :: was) now
    else if ltP a.path b.path then delE a :: dif was (b :: now)
    else if eqNd a b then dif was now else putE b :: dif was now
theorem dif_len (A B : List Nd) : (dif A B).length ≤ A.length + B.length := by
  fun_induction dif A B <;> simp_all <;> omega
theorem drop_nAt {A : List Nd} {i : Nat} (h : i < A.length) : A.drop i = nAt A i :: A.drop (i + 1) := by rw [nAt_get h]; exact (List.drop_eq_getElem_cons h)
theorem dif_nil (A B : List Nd) (i j : Nat) (hi : A.length ≤ i) (hj : j < B.length) : dif (A.drop i) (B.drop j) = putE (nAt B j) :: dif (A.drop i) (B.drop (j + 1)) := by
  rw [List.drop_of_length_le hi, drop_nAt hj]
  simp [dif]
theorem dif_del (A B : List Nd) (i j : Nat) (hi : i < A.length) (hj : B.length ≤ j) : dif (A.drop i) (B.drop j) = delE (nAt A i) :: dif (A.drop (i + 1)) (B.drop j) := by
  rw [List.drop_of_length_le hj, drop_nAt hi]
  cases h : A.drop (i + 1) with
  | nil => simp [dif]
  | cons a l => simp [dif]
theorem dif_lt (A B : List Nd) (i j : Nat) (hi : i < A.length) (hj : j < B.length) (h : ltP (nAt B j).path (nAt A i).path = true) : dif (A.drop i) (B.drop j) = putE (nAt B j) :: dif (A.drop i) (B.drop (j + 1)) := by
  rw [drop_nAt hi, drop_nAt hj, dif, if_pos h]
theorem dif_gt (A B : List Nd) (i j : Nat) (hi : i < A.length) (hj : j < B.length) (h : ltP (nAt B j).path (nAt A i).path = false) (h2 : ltP (nAt A i).path (nAt B j).path = true) : dif (A.drop i) (B.drop j) = delE (nAt A i) :: dif (A.drop (i + 1)) (B.drop j) := by
  rw [drop_nAt hi, drop_nAt hj, dif, if_neg (by simp [h]), if_pos h2]
theorem dif_eq (A B : List Nd) (i j : Nat) (hi : i < A.length) (hj : j < B.length) (h : ltP (nAt B j).path (nAt A i).path = false) (h2 : ltP (nAt A i).path (nAt B j).path = false) : dif (A.drop i) (B.drop j) = (if eqNd (nAt A i) (nAt B j) then [] else [putE (nAt B j)]) ++ dif (A.drop (i + 1)) (B.drop (j + 1)) := by
  rw [drop_nAt hi, drop_nAt hj, dif, if_neg (by simp [h]), if_neg (by simp [h2])]
  split <;> rfl
theorem erowP_one (ns : List Ef) (n : Ef) : erow (ns ++ [n]) = erow ns ++ efL n := by rw [erow_append]; simp [erow]
theorem efLP_cells (w : World) (n : Ef) (t : TypeId) : ∀ j u, (efL n)[j]? = some u → (w.alloc (.cells #[.bool n.del, .string n.nd.path, .string n.nd.data, .int .i64 n.nd.ver, .int .i64 n.nd.cver, .int .i64 n.nd.cz, .int .i64 n.nd.mz, .int .i64 n.nd.pz] t)).cell? ((⟨w.heap.size, 0, none⟩ : Addr).add j) = some u := by
  intro j u hj
  rw [Addr.add_lit, Nat.zero_add, cell_of (heap_alloc_new w _) j, ← hj]
  simp [efL]
theorem efLP_one (n : Ef) : ∀ u ∈ efL n, u.oneCell' = true := by
  intro u hu
  simp only [efL, List.mem_cons, List.mem_nil_iff, or_false] at hu
  rcases hu with rfl | rfl | rfl | rfl | rfl | rfl | rfl | rfl <;> rfl
theorem Tryz.infoEP : (Tryz.prog.info? 100).map (fun i => (i.zero, i.size, i.bytes)) = some (some (.agg #[.bool false, .string ByteArray.empty, .string ByteArray.empty, .int .i64 0, .int .i64 0, .int .i64 0, .int .i64 0, .int .i64 0]), 8, 80) := by kernel_rfl
/-- One effect more. -/
theorem OwnE.snocP {W w5 w : World} {vo v5 : Value} {acc : List Ef} {f : Ef} {ob : Obj} (ho : OwnE 100 W w.heap.size vo acc) (hb : Below w.heap.size w W) (ho5 : w5.ownsRow w.heap.size 100 8 v5 (acc.length + 1) (erow acc ++ efL f)) (hg5 : (W.alloc ob).grownBy w5 vo.ownBlock) : OwnE 100 w5 w.heap.size v5 (acc ++ [f]) ∧ Below w.heap.size w w5 := by
  refine ⟨?_, (hb.alloc hb.size _).grown hg5 (by have := hb.size; simp; omega) (fun q hq => (World.ownsRow.lt ho q hq).1)⟩
  unfold OwnE
  rw [List.length_append, erowP_one]
  exact ho5

set_option maxHeartbeats 4000000 in
set_option maxRecDepth 100000 in
theorem l3Diff_any (w : World) (va vb : Value) (Al Bl : List Nd) (ha : RdN w va Al) (hb : RdN w vb Bl) (hna : Al.length ≤ 1000) (hnb : Bl.length ≤ 1000) :
    Calls Tryz.prog 21 #[va, vb] w fun e w' => ∃ v', e = .returned v' ∧ OwnE 100 w' w.heap.size v' (dif Al Bl) ∧ Below w.heap.size w w' := by
  obtain ⟨i0, hi0, hz0, hz1, hz2⟩ := info_parts Tryz.infoEP
  obtain ⟨ao, ca, rfl, _, _⟩ := ha.len
  obtain ⟨bo, cb, rfl, _, _⟩ := hb.len
  have HA : Hid (RdN w (.slice ao Al.length ca) Al) := ha
  have HB' : Hid (RdN w (.slice bo Bl.length cb) Bl) := hb
  have hdl := dif_len Al Bl
  clear ha hb
  go_enter Tryz.func21, Tryz.ntmps21
  have O0 : Hid (OwnE 100 (w.alloc (.cells #[] 100)) w.heap.size (.slice (some ⟨w.heap.size, 0, none⟩) 0 0) []) := World.ownsRow_lit w #[] 0 (Nat.le_refl _) (Nat.zero_le _) rfl
  have B0 : Hid (Below w.heap.size w (w.alloc (.cells #[] 100))) := (Below.refl _ _).alloc (Nat.le_refl _) _
  have HCA : Hid (∀ i, i < Al.length → ∃ b o, ao = some ⟨b, o, none⟩ ∧ b < w.heap.size ∧ CellsN w b (o + i * 7) (nAt Al i)) := by
    intro i hia
    obtain ⟨ao', cap', e', -, -, h3⟩ := HA.out
    simp only [Value.slice.injEq] at e'
    obtain ⟨rfl, -, -⟩ := e'
    rcases h3 with h3 | ⟨b, o, rfl, hb, hc⟩
    · rw [h3] at hia; simp at hia
    · exact ⟨b, o, rfl, hb, hc i hia⟩
  have HCB : Hid (∀ i, i < Bl.length → ∃ b o, bo = some ⟨b, o, none⟩ ∧ b < w.heap.size ∧ CellsN w b (o + i * 7) (nAt Bl i)) := by
    intro i hia
    obtain ⟨ao', cap', e', -, -, h3⟩ := HB'.out
    simp only [Value.slice.injEq] at e'
    obtain ⟨rfl, -, -⟩ := e'
    rcases h3 with h3 | ⟨b, o, rfl, hb, hc⟩
    · rw [h3] at hia; simp at hia
    · exact ⟨b, o, rfl, hb, hc i hia⟩
  clear HA HB'
  go_wp2
  go_loopw [5, 6, 7] (fun vo vi vj wr => ∃ (i j : Nat) (acc : List Ef), i ≤ Al.length ∧ j ≤ Bl.length ∧ vi = .int .i64 (i : Int) ∧ vj = .int .i64 (j : Int) ∧ Hid (acc ++ dif (Al.drop i) (Bl.drop j) = dif Al Bl) ∧ Hid (OwnE 100 wr w.heap.size vo acc) ∧ Hid (Below w.heap.size w wr)) (fun _ i j _ => (Al.length - (intOf i).toNat) + (Bl.length - (intOf j).toNat))
  case atStart => exact ⟨0, 0, [], Nat.zero_le _, Nat.zero_le _, rfl, rfl, rfl, O0, B0⟩
  case round =>
    clear O0 B0
    obtain ⟨i, j, acc, hi, hj, rfl, rfl, HD, HO, HB⟩ := hrel
    have sB := HB.out.size
    have hacc : acc.length ≤ 2000 := by
      have := congrArg List.length HD.out
      rw [List.length_append] at this
      omega
    by_cases hia : i < Al.length
    · have hiaI : (i : Int) < (Al.length : Int) := by omega
      have hieq : ((i : Int) == (Al.length : Int)) = false := beq_eq_false_iff_ne.2 (by omega)
      obtain ⟨ab, ai, hao, hab, hac⟩ := HCA.out i hia
      subst hao
      obtain ⟨a0, a1, a2, a3, a4, a5, a6⟩ := hac.below HB.out hab
      have HAC : Hid (CellsN w ab (ai + i * 7) (nAt Al i)) := hac
      clear hac
      by_cases hjb : j < Bl.length
      · have hjbI : (j : Int) < (Bl.length : Int) := by omega
        have hjeq : ((j : Int) == (Bl.length : Int)) = false := beq_eq_false_iff_ne.2 (by omega)
        obtain ⟨bb, bi, hbo, hbb, hbc⟩ := HCB.out j hjb
        subst hbo
        obtain ⟨c0, c1, c2, c3, c4, c5, c6⟩ := hbc.below HB.out hbb
        have HBC : Hid (CellsN w bb (bi + j * 7) (nAt Bl j)) := hbc
        clear hbc
        cases hl1 : ltP (nAt Bl j).path (nAt Al i).path with
        | true =>
          have HD2 : Hid (acc ++ [putE (nAt Bl j)] ++ dif (Al.drop i) (Bl.drop (j + 1)) = dif Al Bl) := by
            show _ = _
            rw [← HD.out, dif_lt Al Bl i j hia hjb hl1, List.append_assoc]
            rfl
          have hless : Op.bytesLess (nAt Bl j).path.toList (nAt Al i).path.toList = true := hl1
          generalize nAt Bl j = nb at *
          generalize nAt Al i = na at *
          clear HD
          go_wp2
          go_quiet (fail)
          have HO9 : Hid (OwnE 100 (wr.drewN nq) w.heap.size u5 acc) := HO.out.below (below_drewN' wr nq)
          have HB9 : Hid (Below w.heap.size w (wr.drewN nq)) := HB.out.trans ((below_drewN' wr nq).mono sB)
          go_wp2_with (at_builtin; go_must (refine wpList_append_own _ rfl _ _ 31 rfl w.heap.size 100 i0 (.agg #[.bool false, .string ByteArray.empty, .string ByteArray.empty, .int .i64 0, .int .i64 0, .int .i64 0, .int .i64 0, .int .i64 0]) 8 80 Tryz.underlying31 hi0 hz0 hz1 hz2 rfl (by decide) _ _ _ rfl (HO9.out.alloc _) ⟨(wr.drewN nq).heap.size, 0, none⟩ 1 1 (efL (putE nb)) rfl rfl (efLP_cells _ _ _) (efLP_one _) ?_ ?_ ?_ ?_))
          · unfold maxLen; omega
          · omega
          · simp; omega
          intro v5 w5 ho5 hg5 _
          obtain ⟨o5, b5⟩ := HO9.out.snocP HB9.out ho5 hg5
          have O5 : Hid (OwnE 100 w5 w.heap.size v5 (acc ++ [putE nb])) := o5
          have B5 : Hid (Below w.heap.size w w5) := b5
          clear o5 b5 ho5 hg5 HO HB HO9 HB9 a0 a1 a2 a3 a4 a5 a6 c0 c1 c2 c3 c4 c5 c6
          go_wp2
          exact ⟨⟨i, j + 1, _, by omega, by omega, by go_num, by go_num, HD2, O5, B5⟩, by simp [intOf]; omega⟩
        | false =>
          have hless : Op.bytesLess (nAt Bl j).path.toList (nAt Al i).path.toList = false := hl1
          cases hl2 : ltP (nAt Al i).path (nAt Bl j).path with
          | true =>
            have HD2 : Hid (acc ++ [delE (nAt Al i)] ++ dif (Al.drop (i + 1)) (Bl.drop j) = dif Al Bl) := by
              show _ = _
              rw [← HD.out, dif_gt Al Bl i j hia hjb hl1 hl2, List.append_assoc]
              rfl
            have hless2 : Op.bytesLess (nAt Al i).path.toList (nAt Bl j).path.toList = true := hl2
            generalize nAt Bl j = nb at *
            generalize nAt Al i = na at *
            clear HD hl1 hl2
            go_wp2
            go_quiet (fail)
            have HO1 : Hid (OwnE 100 (wr.drewN nq) w.heap.size u5 acc) := HO.out.below (below_drewN' wr nq)
            have HB1 : Hid (Below w.heap.size w (wr.drewN nq)) := HB.out.trans ((below_drewN' wr nq).mono sB)
            clear a0 a1 a2 a3 a4 a5 a6 c0 c1 c2 c3 c4 c5 c6 HO HB sB
            generalize wr.drewN nq = w7 at *
            have sB := HB1.out.size
            obtain ⟨a0, a1, a2, a3, a4, a5, a6⟩ := HAC.out.below HB1.out hab
            obtain ⟨c0, c1, c2, c3, c4, c5, c6⟩ := HBC.out.below HB1.out hbb
            go_wp2
            go_quiet (fail)
            have HO9 : Hid (OwnE 100 (w7.drewN nq) w.heap.size u5 acc) := HO1.out.below (below_drewN' w7 nq)
            have HB9 : Hid (Below w.heap.size w (w7.drewN nq)) := HB1.out.trans ((below_drewN' w7 nq).mono sB)
            go_wp2_with (at_builtin; go_must (refine wpList_append_own _ rfl _ _ 31 rfl w.heap.size 100 i0 (.agg #[.bool false, .string ByteArray.empty, .string ByteArray.empty, .int .i64 0, .int .i64 0, .int .i64 0, .int .i64 0, .int .i64 0]) 8 80 Tryz.underlying31 hi0 hz0 hz1 hz2 rfl (by decide) _ _ _ rfl (HO9.out.alloc _) ⟨(w7.drewN nq).heap.size, 0, none⟩ 1 1 (efL (delE na)) rfl rfl (efLP_cells _ _ _) (efLP_one _) ?_ ?_ ?_ ?_))
            · unfold maxLen; omega
            · omega
            · simp; omega
            intro v5 w5 ho5 hg5 _
            obtain ⟨o5, b5⟩ := HO9.out.snocP HB9.out ho5 hg5
            have O5 : Hid (OwnE 100 w5 w.heap.size v5 (acc ++ [delE na])) := o5
            have B5 : Hid (Below w.heap.size w w5) := b5
            clear o5 b5 ho5 hg5 HO1 HB1 HO9 HB9 a0 a1 a2 a3 a4 a5 a6 c0 c1 c2 c3 c4 c5 c6
            go_wp2
            exact ⟨⟨i + 1, j, _, by omega, by omega, by go_num, by go_num, HD2, O5, B5⟩, by simp [intOf]; omega⟩
          | false =>
            have hless2 : Op.bytesLess (nAt Al i).path.toList (nAt Bl j).path.toList = false := hl2
            have HD1 := dif_eq Al Bl i j hia hjb hl1 hl2
            have HD3 : Hid (acc ++ (if eqNd (nAt Al i) (nAt Bl j) then [] else [putE (nAt Bl j)]) ++ dif (Al.drop (i + 1)) (Bl.drop (j + 1)) = dif Al Bl) := by
              show _ = _
              rw [← HD.out, HD1, List.append_assoc]
            generalize nAt Bl j = nb at *
            generalize nAt Al i = na at *
            clear HD hl1 hl2 HD1
            go_wp2
            go_quiet (fail)
            have HO1 : Hid (OwnE 100 (wr.drewN nq) w.heap.size u5 acc) := HO.out.below (below_drewN' wr nq)
            have HB1 : Hid (Below w.heap.size w (wr.drewN nq)) := HB.out.trans ((below_drewN' wr nq).mono sB)
            clear a0 a1 a2 a3 a4 a5 a6 c0 c1 c2 c3 c4 c5 c6 HO HB sB
            generalize wr.drewN nq = w7 at *
            have sB := HB1.out.size
            obtain ⟨a0, a1, a2, a3, a4, a5, a6⟩ := HAC.out.below HB1.out hab
            obtain ⟨c0, c1, c2, c3, c4, c5, c6⟩ := HBC.out.below HB1.out hbb
            go_wp2
            go_quiet (fail)
            have HO2 : Hid (OwnE 100 (w7.drewN nq) w.heap.size u5 acc) := HO1.out.below (below_drewN' w7 nq)
            have HB2 : Hid (Below w.heap.size w (w7.drewN nq)) := HB1.out.trans ((below_drewN' w7 nq).mono sB)
            clear a0 a1 a2 a3 a4 a5 a6 c0 c1 c2 c3 c4 c5 c6 HO1 HB1 sB
            generalize w7.drewN nq = w8 at *
            have sB := HB2.out.size
            obtain ⟨a0, a1, a2, a3, a4, a5, a6⟩ := HAC.out.below HB2.out hab
            obtain ⟨c0, c1, c2, c3, c4, c5, c6⟩ := HBC.out.below HB2.out hbb
            go_wp2
            cases e0 : (na.path.toList == nb.path.toList) with
            | false =>
              have HD2 : Hid (acc ++ [putE nb] ++ dif (Al.drop (i + 1)) (Bl.drop (j + 1)) = dif Al Bl) := by
                have h9 := HD3.out
                rw [if_neg (by unfold eqNd; rw [e0]; simp)] at h9
                exact h9
              clear HD3
              go_quiet (fail)
              have HO9 : Hid (OwnE 100 (w8.drewN nq) w.heap.size u5 acc) := HO2.out.below (below_drewN' w8 nq)
              have HB9 : Hid (Below w.heap.size w (w8.drewN nq)) := HB2.out.trans ((below_drewN' w8 nq).mono sB)
              go_wp2_with (at_builtin; go_must (refine wpList_append_own _ rfl _ _ 31 rfl w.heap.size 100 i0 (.agg #[.bool false, .string ByteArray.empty, .string ByteArray.empty, .int .i64 0, .int .i64 0, .int .i64 0, .int .i64 0, .int .i64 0]) 8 80 Tryz.underlying31 hi0 hz0 hz1 hz2 rfl (by decide) _ _ _ rfl (HO9.out.alloc _) ⟨(w8.drewN nq).heap.size, 0, none⟩ 1 1 (efL (putE nb)) rfl rfl (efLP_cells _ _ _) (efLP_one _) ?_ ?_ ?_ ?_))
              · unfold maxLen; omega
              · omega
              · simp; omega
              intro v5 w5 ho5 hg5 _
              obtain ⟨o5, b5⟩ := HO9.out.snocP HB9.out ho5 hg5
              have O5 : Hid (OwnE 100 w5 w.heap.size v5 (acc ++ [putE nb])) := o5
              have B5 : Hid (Below w.heap.size w w5) := b5
              clear o5 b5 ho5 hg5 HO2 HB2 HO9 HB9 a0 a1 a2 a3 a4 a5 a6 c0 c1 c2 c3 c4 c5 c6
              go_wp2
              exact ⟨⟨i + 1, j + 1, _, by omega, by omega, by go_num, by go_num, HD2, O5, B5⟩, by simp [intOf]; omega⟩
            | true =>
              cases e1 : (na.data.toList == nb.data.toList) with
              | false =>
                have HD2 : Hid (acc ++ [putE nb] ++ dif (Al.drop (i + 1)) (Bl.drop (j + 1)) = dif Al Bl) := by
                  have h9 := HD3.out
                  rw [if_neg (by unfold eqNd; rw [e0, e1]; simp)] at h9
                  exact h9
                clear HD3
                go_quiet (fail)
                have HO9 : Hid (OwnE 100 (w8.drewN nq) w.heap.size u5 acc) := HO2.out.below (below_drewN' w8 nq)
                have HB9 : Hid (Below w.heap.size w (w8.drewN nq)) := HB2.out.trans ((below_drewN' w8 nq).mono sB)
                go_wp2_with (at_builtin; go_must (refine wpList_append_own _ rfl _ _ 31 rfl w.heap.size 100 i0 (.agg #[.bool false, .string ByteArray.empty, .string ByteArray.empty, .int .i64 0, .int .i64 0, .int .i64 0, .int .i64 0, .int .i64 0]) 8 80 Tryz.underlying31 hi0 hz0 hz1 hz2 rfl (by decide) _ _ _ rfl (HO9.out.alloc _) ⟨(w8.drewN nq).heap.size, 0, none⟩ 1 1 (efL (putE nb)) rfl rfl (efLP_cells _ _ _) (efLP_one _) ?_ ?_ ?_ ?_))
                · unfold maxLen; omega
                · omega
                · simp; omega
                intro v5 w5 ho5 hg5 _
                obtain ⟨o5, b5⟩ := HO9.out.snocP HB9.out ho5 hg5
                have O5 : Hid (OwnE 100 w5 w.heap.size v5 (acc ++ [putE nb])) := o5
                have B5 : Hid (Below w.heap.size w w5) := b5
                clear o5 b5 ho5 hg5 HO2 HB2 HO9 HB9 a0 a1 a2 a3 a4 a5 a6 c0 c1 c2 c3 c4 c5 c6
                go_wp2
                exact ⟨⟨i + 1, j + 1, _, by omega, by omega, by go_num, by go_num, HD2, O5, B5⟩, by simp [intOf]; omega⟩
              | true =>
                cases e2 : (na.ver == nb.ver) with
                | false =>
                  have HD2 : Hid (acc ++ [putE nb] ++ dif (Al.drop (i + 1)) (Bl.drop (j + 1)) = dif Al Bl) := by
                    have h9 := HD3.out
                    rw [if_neg (by unfold eqNd; rw [e0, e1, e2]; simp)] at h9
                    exact h9
                  clear HD3
                  go_quiet (fail)
                  have HO9 : Hid (OwnE 100 (w8.drewN nq) w.heap.size u5 acc) := HO2.out.below (below_drewN' w8 nq)
                  have HB9 : Hid (Below w.heap.size w (w8.drewN nq)) := HB2.out.trans ((below_drewN' w8 nq).mono sB)
                  go_wp2_with (at_builtin; go_must (refine wpList_append_own _ rfl _ _ 31 rfl w.heap.size 100 i0 (.agg #[.bool false, .string ByteArray.empty, .string ByteArray.empty, .int .i64 0, .int .i64 0, .int .i64 0, .int .i64 0, .int .i64 0]) 8 80 Tryz.underlying31 hi0 hz0 hz1 hz2 rfl (by decide) _ _ _ rfl (HO9.out.alloc _) ⟨(w8.drewN nq).heap.size, 0, none⟩ 1 1 (efL (putE nb)) rfl rfl (efLP_cells _ _ _) (efLP_one _) ?_ ?_ ?_ ?_))
                  · unfold maxLen; omega
                  · omega
                  · simp; omega
                  intro v5 w5 ho5 hg5 _
                  obtain ⟨o5, b5⟩ := HO9.out.snocP HB9.out ho5 hg5
                  have O5 : Hid (OwnE 100 w5 w.heap.size v5 (acc ++ [putE nb])) := o5
                  have B5 : Hid (Below w.heap.size w w5) := b5
                  clear o5 b5 ho5 hg5 HO2 HB2 HO9 HB9 a0 a1 a2 a3 a4 a5 a6 c0 c1 c2 c3 c4 c5 c6
                  go_wp2
                  exact ⟨⟨i + 1, j + 1, _, by omega, by omega, by go_num, by go_num, HD2, O5, B5⟩, by simp [intOf]; omega⟩
                | true =>
                  cases e3 : (na.cver == nb.cver) with
                  | false =>
                    have HD2 : Hid (acc ++ [putE nb] ++ dif (Al.drop (i + 1)) (Bl.drop (j + 1)) = dif Al Bl) := by
                      have h9 := HD3.out
                      rw [if_neg (by unfold eqNd; rw [e0, e1, e2, e3]; simp)] at h9
                      exact h9
                    clear HD3
                    go_quiet (fail)
                    have HO9 : Hid (OwnE 100 (w8.drewN nq) w.heap.size u5 acc) := HO2.out.below (below_drewN' w8 nq)
                    have HB9 : Hid (Below w.heap.size w (w8.drewN nq)) := HB2.out.trans ((below_drewN' w8 nq).mono sB)
                    go_wp2_with (at_builtin; go_must (refine wpList_append_own _ rfl _ _ 31 rfl w.heap.size 100 i0 (.agg #[.bool false, .string ByteArray.empty, .string ByteArray.empty, .int .i64 0, .int .i64 0, .int .i64 0, .int .i64 0, .int .i64 0]) 8 80 Tryz.underlying31 hi0 hz0 hz1 hz2 rfl (by decide) _ _ _ rfl (HO9.out.alloc _) ⟨(w8.drewN nq).heap.size, 0, none⟩ 1 1 (efL (putE nb)) rfl rfl (efLP_cells _ _ _) (efLP_one _) ?_ ?_ ?_ ?_))
                    · unfold maxLen; omega
                    · omega
                    · simp; omega
                    intro v5 w5 ho5 hg5 _
                    obtain ⟨o5, b5⟩ := HO9.out.snocP HB9.out ho5 hg5
                    have O5 : Hid (OwnE 100 w5 w.heap.size v5 (acc ++ [putE nb])) := o5
                    have B5 : Hid (Below w.heap.size w w5) := b5
                    clear o5 b5 ho5 hg5 HO2 HB2 HO9 HB9 a0 a1 a2 a3 a4 a5 a6 c0 c1 c2 c3 c4 c5 c6
                    go_wp2
                    exact ⟨⟨i + 1, j + 1, _, by omega, by omega, by go_num, by go_num, HD2, O5, B5⟩, by simp [intOf]; omega⟩
                  | true =>
                    cases e4 : (na.cz == nb.cz) with
                    | false =>
                      have HD2 : Hid (acc ++ [putE nb] ++ dif (Al.drop (i + 1)) (Bl.drop (j + 1)) = dif Al Bl) := by
                        have h9 := HD3.out
                        rw [if_neg (by unfold eqNd; rw [e0, e1, e2, e3, e4]; simp)] at h9
                        exact h9
                      clear HD3
                      go_quiet (fail)
                      have HO9 : Hid (OwnE 100 (w8.drewN nq) w.heap.size u5 acc) := HO2.out.below (below_drewN' w8 nq)
                      have HB9 : Hid (Below w.heap.size w (w8.drewN nq)) := HB2.out.trans ((below_drewN' w8 nq).mono sB)
                      go_wp2_with (at_builtin; go_must (refine wpList_append_own _ rfl _ _ 31 rfl w.heap.size 100 i0 (.agg #[.bool false, .string ByteArray.empty, .string ByteArray.empty, .int .i64 0, .int .i64 0, .int .i64 0, .int .i64 0, .int .i64 0]) 8 80 Tryz.underlying31 hi0 hz0 hz1 hz2 rfl (by decide) _ _ _ rfl (HO9.out.alloc _) ⟨(w8.drewN nq).heap.size, 0, none⟩ 1 1 (efL (putE nb)) rfl rfl (efLP_cells _ _ _) (efLP_one _) ?_ ?_ ?_ ?_))
                      · unfold maxLen; omega
                      · omega
                      · simp; omega
                      intro v5 w5 ho5 hg5 _
                      obtain ⟨o5, b5⟩ := HO9.out.snocP HB9.out ho5 hg5
                      have O5 : Hid (OwnE 100 w5 w.heap.size v5 (acc ++ [putE nb])) := o5
                      have B5 : Hid (Below w.heap.size w w5) := b5
                      clear o5 b5 ho5 hg5 HO2 HB2 HO9 HB9 a0 a1 a2 a3 a4 a5 a6 c0 c1 c2 c3 c4 c5 c6
                      go_wp2
                      exact ⟨⟨i + 1, j + 1, _, by omega, by omega, by go_num, by go_num, HD2, O5, B5⟩, by simp [intOf]; omega⟩
                    | true =>
                      cases e5 : (na.mz == nb.mz) with
                      | false =>
                        have HD2 : Hid (acc ++ [putE nb] ++ dif (Al.drop (i + 1)) (Bl.drop (j + 1)) = dif Al Bl) := by
                          have h9 := HD3.out
                          rw [if_neg (by unfold eqNd; rw [e0, e1, e2, e3, e4, e5]; simp)] at h9
                          exact h9
                        clear HD3
                        go_quiet (fail)
                        have HO9 : Hid (OwnE 100 (w8.drewN nq) w.heap.size u5 acc) := HO2.out.below (below_drewN' w8 nq)
                        have HB9 : Hid (Below w.heap.size w (w8.drewN nq)) := HB2.out.trans ((below_drewN' w8 nq).mono sB)
                        go_wp2_with (at_builtin; go_must (refine wpList_append_own _ rfl _ _ 31 rfl w.heap.size 100 i0 (.agg #[.bool false, .string ByteArray.empty, .string ByteArray.empty, .int .i64 0, .int .i64 0, .int .i64 0, .int .i64 0, .int .i64 0]) 8 80 Tryz.underlying31 hi0 hz0 hz1 hz2 rfl (by decide) _ _ _ rfl (HO9.out.alloc _) ⟨(w8.drewN nq).heap.size, 0, none⟩ 1 1 (efL (putE nb)) rfl rfl (efLP_cells _ _ _) (efLP_one _) ?_ ?_ ?_ ?_))
                        · unfold maxLen; omega
                        · omega
                        · simp; omega
                        intro v5 w5 ho5 hg5 _
                        obtain ⟨o5, b5⟩ := HO9.out.snocP HB9.out ho5 hg5
                        have O5 : Hid (OwnE 100 w5 w.heap.size v5 (acc ++ [putE nb])) := o5
                        have B5 : Hid (Below w.heap.size w w5) := b5
                        clear o5 b5 ho5 hg5 HO2 HB2 HO9 HB9 a0 a1 a2 a3 a4 a5 a6 c0 c1 c2 c3 c4 c5 c6
                        go_wp2
                        exact ⟨⟨i + 1, j + 1, _, by omega, by omega, by go_num, by go_num, HD2, O5, B5⟩, by simp [intOf]; omega⟩
                      | true =>
                        cases e6 : (na.pz == nb.pz) with
                        | false =>
                          have HD2 : Hid (acc ++ [putE nb] ++ dif (Al.drop (i + 1)) (Bl.drop (j + 1)) = dif Al Bl) := by
                            have h9 := HD3.out
                            rw [if_neg (by unfold eqNd; rw [e0, e1, e2, e3, e4, e5, e6]; simp)] at h9
                            exact h9
                          clear HD3
                          go_quiet (fail)
                          have HO9 : Hid (OwnE 100 (w8.drewN nq) w.heap.size u5 acc) := HO2.out.below (below_drewN' w8 nq)
                          have HB9 : Hid (Below w.heap.size w (w8.drewN nq)) := HB2.out.trans ((below_drewN' w8 nq).mono sB)
                          go_wp2_with (at_builtin; go_must (refine wpList_append_own _ rfl _ _ 31 rfl w.heap.size 100 i0 (.agg #[.bool false, .string ByteArray.empty, .string ByteArray.empty, .int .i64 0, .int .i64 0, .int .i64 0, .int .i64 0, .int .i64 0]) 8 80 Tryz.underlying31 hi0 hz0 hz1 hz2 rfl (by decide) _ _ _ rfl (HO9.out.alloc _) ⟨(w8.drewN nq).heap.size, 0, none⟩ 1 1 (efL (putE nb)) rfl rfl (efLP_cells _ _ _) (efLP_one _) ?_ ?_ ?_ ?_))
                          · unfold maxLen; omega
                          · omega
                          · simp; omega
                          intro v5 w5 ho5 hg5 _
                          obtain ⟨o5, b5⟩ := HO9.out.snocP HB9.out ho5 hg5
                          have O5 : Hid (OwnE 100 w5 w.heap.size v5 (acc ++ [putE nb])) := o5
                          have B5 : Hid (Below w.heap.size w w5) := b5
                          clear o5 b5 ho5 hg5 HO2 HB2 HO9 HB9 a0 a1 a2 a3 a4 a5 a6 c0 c1 c2 c3 c4 c5 c6
                          go_wp2
                          exact ⟨⟨i + 1, j + 1, _, by omega, by omega, by go_num, by go_num, HD2, O5, B5⟩, by simp [intOf]; omega⟩
                        | true =>
                          have HD2 : Hid (acc ++ dif (Al.drop (i + 1)) (Bl.drop (j + 1)) = dif Al Bl) := by
                            have h9 := HD3.out
                            rw [if_pos (by unfold eqNd; rw [e0, e1, e2, e3, e4, e5, e6]; rfl), List.append_nil] at h9
                            exact h9
                          clear HD3
                          go_quiet (fail)
                          have HO9 : Hid (OwnE 100 (w8.drewN nq) w.heap.size u5 acc) := HO2.out.below (below_drewN' w8 nq)
                          have HB9 : Hid (Below w.heap.size w (w8.drewN nq)) := HB2.out.trans ((below_drewN' w8 nq).mono sB)
                          clear HO2 HB2
                          go_wp2
                          exact ⟨⟨i + 1, j + 1, _, by omega, by omega, by go_num, by go_num, HD2, HO9, HB9⟩, by simp [intOf]; omega⟩
      · have hjeq : ((j : Int) == (Bl.length : Int)) = true := by simp; omega
        have hjbI : ¬ (j : Int) < (Bl.length : Int) := by omega
        have HD2 : Hid (acc ++ [delE (nAt Al i)] ++ dif (Al.drop (i + 1)) (Bl.drop j) = dif Al Bl) := by
          show _ = _
          rw [← HD.out, dif_del Al Bl i j hia (by omega), List.append_assoc]
          rfl
        generalize nAt Al i = na at *
        clear HD
        go_wp2
        go_quiet (fail)
        have HO1 : Hid (OwnE 100 (wr.drewN nq) w.heap.size u5 acc) := HO.out.below (below_drewN' wr nq)
        have HB1 : Hid (Below w.heap.size w (wr.drewN nq)) := HB.out.trans ((below_drewN' wr nq).mono sB)
        clear a0 a1 a2 a3 a4 a5 a6 HO HB sB
        generalize wr.drewN nq = w7 at *
        have sB := HB1.out.size
        obtain ⟨a0, a1, a2, a3, a4, a5, a6⟩ := HAC.out.below HB1.out hab
        go_wp2
        go_quiet (fail)
        have HO9 : Hid (OwnE 100 (w7.drewN nq) w.heap.size u5 acc) := HO1.out.below (below_drewN' w7 nq)
        have HB9 : Hid (Below w.heap.size w (w7.drewN nq)) := HB1.out.trans ((below_drewN' w7 nq).mono sB)
        go_wp2_with (at_builtin; go_must (refine wpList_append_own _ rfl _ _ 31 rfl w.heap.size 100 i0 (.agg #[.bool false, .string ByteArray.empty, .string ByteArray.empty, .int .i64 0, .int .i64 0, .int .i64 0, .int .i64 0, .int .i64 0]) 8 80 Tryz.underlying31 hi0 hz0 hz1 hz2 rfl (by decide) _ _ _ rfl (HO9.out.alloc _) ⟨(w7.drewN nq).heap.size, 0, none⟩ 1 1 (efL (delE na)) rfl rfl (efLP_cells _ _ _) (efLP_one _) ?_ ?_ ?_ ?_))
        · unfold maxLen; omega
        · omega
        · simp; omega
        intro v5 w5 ho5 hg5 _
        obtain ⟨o5, b5⟩ := HO9.out.snocP HB9.out ho5 hg5
        have O5 : Hid (OwnE 100 w5 w.heap.size v5 (acc ++ [delE na])) := o5
        have B5 : Hid (Below w.heap.size w w5) := b5
        clear o5 b5 ho5 hg5 HO1 HB1 HO9 HB9 a0 a1 a2 a3 a4 a5 a6
        go_wp2
        exact ⟨⟨i + 1, j, _, by omega, by omega, by go_num, by go_num, HD2, O5, B5⟩, by simp [intOf]; omega⟩
    · have hieq : ((i : Int) == (Al.length : Int)) = true := by simp; omega
      have hiaI : ¬ (i : Int) < (Al.length : Int) := by omega
      by_cases hjb : j < Bl.length
      · have hjbI : (j : Int) < (Bl.length : Int) := by omega
        obtain ⟨bb, bi, hbo, hbb, hbc⟩ := HCB.out j hjb
        subst hbo
        obtain ⟨c0, c1, c2, c3, c4, c5, c6⟩ := hbc.below HB.out hbb
        clear hbc
        have HD2 : Hid (acc ++ [putE (nAt Bl j)] ++ dif (Al.drop i) (Bl.drop (j + 1)) = dif Al Bl) := by
          show _ = _
          rw [← HD.out, dif_nil Al Bl i j (by omega) hjb, List.append_assoc]
          rfl
        generalize nAt Bl j = nb at *
        clear HD
        go_wp2
        go_quiet (fail)
        have HO9 : Hid (OwnE 100 (wr.drewN nq) w.heap.size u5 acc) := HO.out.below (below_drewN' wr nq)
        have HB9 : Hid (Below w.heap.size w (wr.drewN nq)) := HB.out.trans ((below_drewN' wr nq).mono sB)
        go_wp2_with (at_builtin; go_must (refine wpList_append_own _ rfl _ _ 31 rfl w.heap.size 100 i0 (.agg #[.bool false, .string ByteArray.empty, .string ByteArray.empty, .int .i64 0, .int .i64 0, .int .i64 0, .int .i64 0, .int .i64 0]) 8 80 Tryz.underlying31 hi0 hz0 hz1 hz2 rfl (by decide) _ _ _ rfl (HO9.out.alloc _) ⟨(wr.drewN nq).heap.size, 0, none⟩ 1 1 (efL (putE nb)) rfl rfl (efLP_cells _ _ _) (efLP_one _) ?_ ?_ ?_ ?_))
        · unfold maxLen; omega
        · omega
        · simp; omega
        intro v5 w5 ho5 hg5 _
        obtain ⟨o5, b5⟩ := HO9.out.snocP HB9.out ho5 hg5
        have O5 : Hid (OwnE 100 w5 w.heap.size v5 (acc ++ [putE nb])) := o5
        have B5 : Hid (Below w.heap.size w w5) := b5
        clear o5 b5 ho5 hg5 HO HB HO9 HB9 c0 c1 c2 c3 c4 c5 c6
        go_wp2
        exact ⟨⟨i, j + 1, _, by omega, by omega, by go_num, by go_num, HD2, O5, B5⟩, by simp [intOf]; omega⟩
      · have HF : Hid (acc = dif Al Bl) := by
          have := HD.out
          rw [List.drop_of_length_le (by omega), List.drop_of_length_le (by omega)] at this
          show _ = _
          simpa [dif] using this
        have hjbI : ¬ (j : Int) < (Bl.length : Int) := by omega
        go_wp2
        go_ret
        exact ⟨_, rfl, by rw [← HF.out]; exact HO.out, HB.out⟩


end Go.Proofs.YtejhcebodlcloaaGreatDoor


