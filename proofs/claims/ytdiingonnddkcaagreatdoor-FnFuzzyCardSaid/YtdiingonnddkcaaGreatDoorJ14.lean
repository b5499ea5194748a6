import Derived.Test.YtdiingonnddkcaaGreatDoorJ07
import Derived.Test.YtdiingonnddkcaaGreatDoorJ08
import Derived.Laws.Cover1
import Derived.Test.YtdiingonnddkcaaGreatDoorJ10
import Derived.Test.YtdiingonnddkcaaGreatDoorJ12
namespace Go.Proofs.YtdiingonnddkcaaGreatDoor
open Go.RowKit Go.Shelf

/-- What takes one list of nodes to the other. -/
def delE (a : Nd) : Ef := ⟨true, { nd0 with path := a.path }⟩
def putE (b : Nd) : Ef := ⟨false, b⟩
/-- The equality of two nodes, as the program asks for it. -/
def eqNd (a b : Nd) : Bool := (a.path.toList == b.path.toList) && ((a.data.toList == b.data.toList) && ((a.ver == b.ver) && ((a.cver == b.cver) && ((a.cz == b.cz) && ((a.mz == b.mz) && (a.pz == b.pz))))))
def dif : List Nd → List Nd → List Ef
  | [], now => now.map putE
  | a :: was, [] => (a :: was).map delE
  | a :: was, b :: now =>
    if ltP b.path a.path then putE b :: dif (a :: was) now
    else if ltP a.path b.path then delE a :: dif was (b :: now)
    else if eqNd a b then dif was now else putE b :: dif was now
theorem dif_len (A B : List Nd) : (dif A B).length ≤ A.length + B.length := by
  fun_induction dif A B <;> simp_all <;> omega
theorem drop_nAt {A : List Nd} {i : Nat} (h : i < A.length) : A.drop i = nAt A i :: A.drop (i + 1) := by rw [nAt_get h]; exact (List.drop_eq_getElem_cons h)
theorem dif_nil (A B : List Nd) (i j : Nat) (hi : A.length ≤ i) (hj : j < B.length) : dif (A.drop i) (B.drop j) = putE (nAt B j) :: dif (A.drop i) (B.drop (j + 1)) := by
  rw [List.drop_of_length_le hi, drop_nAt hj]
  simp [dif]
theorem dif_del (A B : List Nd) (i j : Nat) (hi : i < A.length) (hj : B.length ≤ j) : dif (A.drop i) (B.drop j) = delE (nAt A i) :: dif (A.drop (i + 1)) (B.drop j) := by
  rw [List.drop_of_length_le hj, drop_nAt hi]
  cases h : A.drop (i + 1) with
  | nil => simp [dif]
  | cons a l => simp [dif]
theorem dif_lt (A B : List Nd) (i j : Nat) (hi : i < A.length) (hj : j < B.length) (h : ltP (nAt B j).path (nAt A i).path = true) : dif (A.drop i) (B.drop j) = putE (nAt B j) :: dif (A.drop i) (B.drop (j + 1)) := by
  rw [drop_nAt hi, drop_nAt hj, dif, if_pos h]
theorem dif_gt (A B : List Nd) (i j : Nat) (hi : i < A.length) (hj : j < B.length) (h : ltP (nAt B j).path (nAt A i).path = false) (h2 : ltP (nAt A i).path (nAt B j).path = true) : dif (A.drop i) (B.drop j) = delE (nAt A i) :: dif (A.drop (i + 1)) (B.drop j) := by
  rw [drop_nAt hi, drop_nAt hj, dif, if_neg (by simp [h]), if_pos h2]
theorem dif_eq (A B : List Nd) (i j : Nat) (hi : i < A.length) (hj : j < B.length) (h : ltP (nAt B j).path (nAt A i).path = false) (h2 : ltP (nAt A i).path (nAt B j).path = false) : dif (A.drop i) (B.drop j) = (if eqNd (nAt A i) (nAt B j) then [] else [putE (nAt B j)]) ++ dif (A.drop (i + 1)) (B.drop (j + 1)) := by
  rw [drop_nAt hi, drop_nAt hj, dif, if_neg (by simp [h]), if_neg (by simp [h2])]
  split <;> rfl
theorem erowP_one (ns : List Ef) (n : Ef) : erow (ns ++ [n]) = erow ns ++ efL n := by rw [erow_append]; simp [erow]
theorem efLP_cells (w : World) (n : Ef) (t : TypeId) : ∀ j u, (efL n)[j]? = some u → (w.alloc (.cells #[.bool n.del, .string n.nd.path, .string n.nd.data, .int .i64 n.nd.ver, .int .i64 n.nd.cver, .int .i64 n.nd.cz, .int .i64 n.nd.mz, .int .i64 n.nd.pz] t)).cell? ((⟨w.heap.size, 0, none⟩ : Addr).add j) = some u := by
  intro j u hj
  rw [Addr.add_lit, Nat.zero_add, cell_of (heap_alloc_new w _) j, ← hj]
  simp [efL]
theorem efLP_one (n : Ef) : ∀ u ∈ efL n, u.oneCell' = true := by
  intro u hu
  simp only [efL, List.mem_cons, List.mem_nil_iff, or_false] at hu
  rcases hu with rfl | rfl | rfl | rfl | rfl | rfl | rfl | rfl <;> rfl
theorem Tryz.infoEP : (Tryz.prog.info? 59).map (fun i => (i.zero, i.size, i.bytes)) = some (some (.agg #[.bool false, .string ByteArray.empty, .string ByteArray.empty, .int .i64 0, .int .i64 0, .int .i64 0, .int .i64 0, .int .i64 0]), 8, 80) := by kernel_rfl
/-- One effect more. -/
theorem OwnE.snocP {W w5 w : World} {vo v5 : Value} {acc : List Ef} {f : Ef} {ob : Obj} (ho : OwnE 59 W w.heap.size vo acc) (hb : Below w.heap.size w W) (ho5 : w5.ownsRow w.heap.size 59 8 v5 (acc.length + 1) (erow acc ++ efL f)) (hg5 : (W.alloc ob).grownBy w5 vo.ownBlock) : OwnE 59 w5 w.heap.size v5 (acc ++ [f]) ∧ Below w.heap.size w w5 := by
  refine ⟨?_, (hb.alloc hb.size _).grown hg5 (by have := hb.size; simp; omega) (fun q hq => (World.ownsRow.lt ho q hq).1)⟩
  unfold OwnE
  rw [List.length_append, erowP_one]
  exact ho5

set_option maxHeartbeats 4000000 in
set_option maxRecDepth 100000 in
theorem l3Diff_any (w : World) (va vb : Value) (Al Bl : List Nd) (ha : RdN w va Al) (hb : RdN w vb Bl) (hna : Al.length ≤ 1000) (hnb : Bl.length ≤ 1000) :
    Calls Tryz.prog 33 #[va, vb] w fun e w' => ∃ v', e = .returned v' ∧ OwnE 59 w' w.heap.size v' (dif Al Bl) ∧ Below w.heap.size w w' := by
  obtain ⟨i0, hi0, hz0, hz1, hz2⟩ := info_parts Tryz.infoEP
  obtain ⟨ao, ca, rfl, _, _⟩ := ha.len
  obtain ⟨bo, cb, rfl, _, _⟩ := hb.len
  have HA : Hid (RdN w (.slice ao Al.length ca) Al) := ha
  have HB' : Hid (RdN w (.slice bo Bl.length cb) Bl) := hb
  have hdl := dif_len Al Bl
  clear ha hb
  go_enter Tryz.func33, Tryz.ntmps33
  have O0 : Hid (OwnE 59 (w.alloc (.cells #[] 59)) w.heap.size (.slice (some ⟨w.heap.size, 0, none⟩) 0 0) []) := World.ownsRow_lit w #[] 0 (Nat.le_refl _) (Nat.zero_le _) rfl
  have B0 : Hid (Below w.heap.size w (w.alloc (.cells #[] 59))) := (Below.refl _ _).alloc (Nat.le_refl _) _
  have HCA : Hid (∀ i, i < Al.length → ∃ b o, ao = some ⟨b, o, none⟩ ∧ b < w.heap.size ∧ CellsN w b (o + i * 7) (nAt Al i)) := by
    intro i hia
    obtain ⟨ao', cap', e', -, -, h3⟩ := HA.out
    simp only [Value.slice.injEq] at e'
    obtain ⟨rfl, -, -⟩ := e'
    rcases h3 with h3 | ⟨b, o, rfl, hb, hc⟩
    · rw [h3] at hia; simp at hia
    · exact ⟨b, o, rfl, hb, hc i hia⟩
  have HCB : Hid (∀ i, i < Bl.length → ∃ b o, bo = some ⟨b, o, none⟩ ∧ b < w.heap.size ∧ CellsN w b (o + i * 7) (nAt Bl i)) := by
    intro i hia
    obtain ⟨ao', cap', e', -, -, h3⟩ := HB'.out
    simp only [Value.slice.injEq] at e'
    obtain ⟨rfl, -, -⟩ := e'
    rcases h3 with h3 | ⟨b, o, rfl, hb, hc⟩
    · rw [h3] at hia; simp at hia
    · exact ⟨b, o, rfl, hb, hc i hia⟩
  clear HA HB'
  go_wp2
  go_loopw [5, 6, 7] (fun vo vi vj wr => ∃ (i j : Nat) (acc : List Ef), i ≤ Al.length ∧ j ≤ Bl.length ∧ vi = .int .i64 (i : Int) ∧ vj = .int .i64 (j : Int) ∧ Hid (acc ++ dif (Al.drop i) (Bl.drop j) = dif Al Bl) ∧ Hid (OwnE 59 wr w.heap.size vo acc) ∧ Hid (Below w.heap.size w wr)) (fun _ i j _ => (Al.length - (intOf i).toNat) + (Bl.length - (intOf j).toNat))
  case atStart => exact ⟨0, 0, [], Nat.zero_le _, Nat.zero_le _, rfl, rfl, rfl, O0, B0⟩
  case round =>
    clear O0 B0
    obtain ⟨i, j, acc, hi, hj, rfl, rfl, HD, HO, HB⟩ := hrel
    have sB := HB.out.size
    have hacc : acc.length ≤ 2000 := by
      have := congrArg List.length HD.out
      rw [List.length_append] at this
      omega
    by_cases hia : i < Al.length
    · have hiaI : (i : Int) < (Al.length : Int) := by omega
      have hieq : ((i : Int) == (Al.length : Int)) = false := beq_eq_false_iff_ne.2 (by omega)
      obtain ⟨ab, ai, hao, hab, hac⟩ := HCA.out i hia
      subst hao
      obtain ⟨a0, a1, a2, a3, a4, a5, a6⟩ := hac.below HB.out hab
      have HAC : Hid (CellsN w ab (ai + i * 7) (nAt Al i)) := hac
      clear hac
      by_cases hjb : j < Bl.length
      · have hjbI : (j : Int) < (Bl.length : Int) := by omega
        have hjeq : ((j : Int) == (Bl.length : Int)) = false := beq_eq_false_iff_ne.2 (by omega)
        obtain ⟨bb, bi, hbo, hbb, hbc⟩ := HCB.out j hjb
        subst hbo
        obtain ⟨c0, c1, c2, c3, c4, c5, c6⟩ := hbc.below HB.out hbb
        have HBC : Hid (CellsN w bb (bi + j * 7) (nAt Bl j)) := hbc
        clear hbc
        cases hl1 : ltP (nAt Bl j).path (nAt Al i).path with
        | true =>
          have HD2 : Hid (acc ++ [putE (nAt Bl j)] ++ dif (Al.drop i) (Bl.drop (j + 1)) = dif Al Bl) := by
            show _ = _
            rw [← HD.out, dif_lt Al Bl i j hia hjb hl1, List.append_assoc]
            rfl
          have hless : Op.bytesLess (nAt Bl j).path.toList (nAt Al i).path.toList = true := hl1
          generalize nAt Bl j = nb at *
          generalize nAt Al i = na at *
          clear HD
          go_wp2
          go_quiet (fail)
          have HO9 : Hid (OwnE 59 (wr.drewN nq) w.heap.size u5 acc) := HO.out.below (below_drewN' wr nq)
          have HB9 : Hid (Below w.heap.size w (wr.drewN nq)) := HB.out.trans ((below_drewN' wr nq).mono sB)
          go_wp2_with (at_builtin; go_must (refine wpList_append_own _ rfl _ _ 33 rfl w.heap.size 59 i0 (.agg #[.bool false, .string ByteArray.empty, .string ByteArray.empty, .int .i64 0, .int .i64 0, .int .i64 0, .int .i64 0, .int .i64 0]) 8 80 Tryz.underlying33 hi0 hz0 hz1 hz2 rfl (by decide) _ _ _ rfl (HO9.out.alloc _) ⟨(wr.drewN nq).heap.size, 0, none⟩ 1 1 (efL (putE nb)) rfl rfl (efLP_cells _ _ _) (efLP_one _) ?_ ?_ ?_ ?_))
          · unfold maxLen; omega
          · omega
          · simp; omega
          intro v5 w5 ho5 hg5 _
          obtain ⟨o5, b5⟩ := HO9.out.snocP HB9.out ho5 hg5
          have O5 : Hid (OwnE 59 w5 w.heap.size v5 (acc ++ [putE nb])) := o5
          have B5 : Hid (Below w.heap.size w w5) := b5
          clear o5 b5 ho5 hg5 HO HB HO9 HB9 a0 a1 a2 a3 a4 a5 a6 c0 c1 c2 c3 c4 c5 c6
          go_wp2
          exact ⟨⟨i, j + 1, _, by omega, by omega, by go_num, by go_num, HD2, O5, B5⟩, by simp [intOf]; omega⟩
        | false =>
          have hless : Op.bytesLess (nAt Bl j).path.toList (nAt Al i).path.toList = false := hl1
          cases hl2 : ltP (nAt Al i).path (nAt Bl j).path with
          | true =>
            have HD2 : Hid (acc ++ [delE (nAt Al i)] ++ dif (Al.drop (i + 1)) (Bl.drop j) = dif Al Bl) := by
              show _ = _
              rw [← HD.out, dif_gt Al Bl i j hia hjb hl1 hl2, List.append_assoc]
              rfl
            have hless2 : Op.bytesLess (nAt Al i).path.toList (nAt Bl j).path.toList = true := hl2
            generalize nAt Bl j = nb at *
            generalize nAt Al i = na at *
            clear HD hl1 hl2
            go_wp2
            go_quiet (fail)
            have HO1 : Hid (OwnE 59 (wr.drewN nq) w.heap.size u5 acc) := HO.out.below (below_drewN' wr nq)
            have HB1 : Hid (Below w.heap.size w (wr.drewN nq)) := HB.out.trans ((below_drewN' wr nq).mono sB)
            clear a0 a1 a2 a3 a4 a5 a6 c0 c1 c2 c3 c4 c5 c6 HO HB sB
            generalize wr.drewN nq = w7 at *
            have sB := HB1.out.size
            obtain ⟨a0, a1, a2, a3, a4, a5, a6⟩ := HAC.out.below HB1.out hab
            obtain ⟨c0, c1, c2, c3, c4, c5, c6⟩ := HBC.out.below HB1.out hbb
            go_wp2
            go_quiet (fail)
            have HO9 : Hid (OwnE 59 (w7.drewN nq) w.heap.size u5 acc) := HO1.out.below (below_drewN' w7 nq)
            have HB9 : Hid (Below w.heap.size w (w7.drewN nq)) := HB1.out.trans ((below_drewN' w7 nq).mono sB)
            go_wp2_with (at_builtin; go_must (refine wpList_append_own _ rfl _ _ 33 rfl w.heap.size 59 i0 (.agg #[.bool false, .string ByteArray.empty, .string ByteArray.empty, .int .i64 0, .int .i64 0, .int .i64 0, .int .i64 0, .int .i64 0]) 8 80 Tryz.underlying33 hi0 hz0 hz1 hz2 rfl (by decide) _ _ _ rfl (HO9.out.alloc _) ⟨(w7.drewN nq).heap.size, 0, none⟩ 1 1 (efL (delE na)) rfl rfl (efLP_cells _ _ _) (efLP_one _) ?_ ?_ ?_ ?_))
            · unfold maxLen; omega
            · omega
            · simp; omega
            intro v5 w5 ho5 hg5 _
            obtain ⟨o5, b5⟩ := HO9.out.snocP HB9.out ho5 hg5
            have O5 : Hid (OwnE 59 w5 w.heap.size v5 (acc ++ [delE na])) := o5
            have B5 : Hid (Below w.heap.size w w5) := b5
            clear o5 b5 ho5 hg5 HO1 HB1 HO9 HB9 a0 a1 a2 a3 a4 a5 a6 c0 c1 c2 c3 c4 c5 c6
            go_wp2
            exact ⟨⟨i + 1, j, _, by omega, by omega, by go_num, by go_num, HD2, O5, B5⟩, by simp [intOf]; omega⟩
          | false =>
            have hless2 : Op.bytesLess (nAt Al i).path.toList (nAt Bl j).path.toList = false := hl2
            have HD1 := dif_eq Al Bl i j hia hjb hl1 hl2
            have HD3 : Hid (acc ++ (if eqNd (nAt Al i) (nAt Bl j) then [] else [putE (nAt Bl j)]) ++ dif (Al.drop (i + 1)) (Bl.drop (j + 1)) = dif Al Bl) := by
              show _ = _
              rw [← HD.out, HD1, List.append_assoc]
            generalize nAt Bl j = nb at *
            generalize nAt Al i = na at *
            clear HD hl1 hl2 HD1
            go_wp2
            go_quiet (fail)
            have HO1 : Hid (OwnE 59 (wr.drewN nq) w.heap.size u5 acc) := HO.out.below (below_drewN' wr nq)
            have HB1 : Hid (Below w.heap.size w (wr.drewN nq)) := HB.out.trans ((below_drewN' wr nq).mono sB)
            clear a0 a1 a2 a3 a4 a5 a6 c0 c1 c2 c3 c4 c5 c6 HO HB sB
            generalize wr.drewN nq = w7 at *
            have sB := HB1.out.size
            obtain ⟨a0, a1, a2, a3, a4, a5, a6⟩ := HAC.out.below HB1.out hab
            obtain ⟨c0, c1, c2, c3, c4, c5, c6⟩ := HBC.out.below HB1.out hbb
            go_wp2
            go_quiet (fail)
            have HO2 : Hid (OwnE 59 (w7.drewN nq) w.heap.size u5 acc) := HO1.out.below (below_drewN' w7 nq)
            have HB2 : Hid (Below w.heap.size w (w7.drewN nq)) := HB1.out.trans ((below_drewN' w7 nq).mono sB)
            clear a0 a1 a2 a3 a4 a5 a6 c0 c1 c2 c3 c4 c5 c6 HO1 HB1 sB
            generalize w7.drewN nq = w8 at *
            have sB := HB2.out.size
            obtain ⟨a0, a1, a2, a3, a4, a5, a6⟩ := HAC.out.below HB2.out hab
            obtain ⟨c0, c1, c2, c3, c4, c5, c6⟩ := HBC.out.below HB2.out hbb
            go_wp2
            cases e0 : (na.path.toList == nb.path.toList) with
            | false =>
              have HD2 : Hid (acc ++ [putE nb] ++ dif (Al.drop (i + 1)) (Bl.drop (j + 1)) = dif Al Bl) := by
                have h9 := HD3.out
                rw [if_neg (by unfold eqNd; rw [e0]; simp)] at h9
                exact h9
              clear HD3
              go_quiet (fail)
              have HO9 : Hid (OwnE 59 (w8.drewN nq) w.heap.size u5 acc) := HO2.out.below (below_drewN' w8 nq)
              have HB9 : Hid (Below w.heap.size w (w8.drewN nq)) := HB2.out.trans ((below_drewN' w8 nq).mono sB)
              go_wp2_with (at_builtin; go_must (refine wpList_append_own _ rfl _ _ 33 rfl w.heap.size 59 i0 (.agg #[.bool false, .string ByteArray.empty, .string ByteArray.empty, .int .i64 0, .int .i64 0, .int .i64 0, .int .i64 0, .int .i64 0]) 8 80 Tryz.underlying33 hi0 hz0 hz1 hz2 rfl (by decide) _ _ _ rfl (HO9.out.alloc _) ⟨(w8.drewN nq).heap.size, 0, none⟩ 1 1 (efL (putE nb)) rfl rfl (efLP_cells _ _ _) (efLP_one _) ?_ ?_ ?_ ?_))
              · unfold maxLen; omega
              · omega
              · simp; omega
              intro v5 w5 ho5 hg5 _
              obtain ⟨o5, b5⟩ := HO9.out.snocP HB9.out ho5 hg5
              have O5 : Hid (OwnE 59 w5 w.heap.size v5 (acc ++ [putE nb])) := o5
              have B5 : Hid (Below w.heap.size w w5) := b5
              clear o5 b5 ho5 hg5 HO2 HB2 HO9 HB9 a0 a1 a2 a3 a4 a5 a6 c0 c1 c2 c3 c4 c5 c6
              go_wp2
              exact ⟨⟨i + 1, j + 1, _, by omega, by omega, by go_num, by go_num, HD2, O5, B5⟩, by simp [intOf]; omega⟩
            | true =>
              cases e1 : (na.data.toList == nb.data.toList) with
              | false =>
                have HD2 : Hid (acc ++ [putE nb] ++ dif (Al.drop (i + 1)) (Bl.drop (j + 1)) = dif Al Bl) := by
                  have h9 := HD3.out
                  rw [if_neg (by unfold eqNd; rw [e0, e1]; simp)] at h9
                  exact h9
                clear HD3
                go_quiet (fail)
                have HO9 : Hid (OwnE 59 (w8.drewN nq) w.heap.size u5 acc) := HO2.out.below (below_drewN' w8 nq)
                have HB9 : Hid (Below w.heap.size w (w8.drewN nq)) := HB2.out.trans ((below_drewN' w8 nq).mono sB)
                go_wp2_with (at_builtin; go_must (refine wpList_append_own _ rfl _ _ 33 rfl w.heap.size 59 i0 (.agg #[.bool false, .string ByteArray.empty, .string ByteArray.empty, .int .i64 0, .int .i64 0, .int .i64 0, .int .i64 0, .int .i64 0]) 8 80 Tryz.underlying33 hi0 hz0 hz1 hz2 rfl (by decide) _ _ _ rfl (HO9.out.alloc _) ⟨(w8.drewN nq).heap.size, 0, none⟩ 1 1 (efL (putE nb)) rfl rfl (efLP_cells _ _ _) (efLP_one _) ?_ ?_ ?_ ?_))
                · unfold maxLen; omega
                · omega
                · simp; omega
                intro v5 w5 ho5 hg5 _
                obtain ⟨o5, b5⟩ := HO9.out.snocP HB9.out ho5 hg5
                have O5 : Hid (OwnE 59 w5 w.heap.size v5 (acc ++ [putE nb])) := o5
                have B5 : Hid (Below w.heap.size w w5) := b5
                clear o5 b5 ho5 hg5 HO2 HB2 HO9 HB9 a0 a1 a2 a3 a4 a5 a6 c0 c1 c2 c3 c4 c5 c6
                go_wp2
                exact ⟨⟨i + 1, j + 1, _, by omega, by omega, by go_num, by go_num, HD2, O5, B5⟩, by simp [intOf]; omega⟩
              | true =>
                cases e2 : (na.ver == nb.ver) with
                | false =>
                  have HD2 : Hid (acc ++ [putE nb] ++ dif (Al.drop (i + 1)) (Bl.drop (j + 1)) = dif Al Bl) := by
                    have h9 := HD3.out
                    rw [if_neg (by unfold eqNd; rw [e0, e1, e2]; simp)] at h9
                    exact h9
                  clear HD3
                  go_quiet (fail)
                  have HO9 : Hid (OwnE 59 (w8.drewN nq) w.heap.size u5 acc) := HO2.out.below (below_drewN' w8 nq)
                  have HB9 : Hid (Below w.heap.size w (w8.drewN nq)) := HB2.out.trans ((below_drewN' w8 nq).mono sB)
                  go_wp2_with (at_builtin; go_must (refine wpList_append_own _ rfl _ _ 33 rfl w.heap.size 59 i0 (.agg #[.bool false, .string ByteArray.empty, .string ByteArray.empty, .int .i64 0, .int .i64 0, .int .i64 0, .int .i64 0, .int .i64 0]) 8 80 Tryz.underlying33 hi0 hz0 hz1 hz2 rfl (by decide) _ _ _ rfl (HO9.out.alloc _) ⟨(w8.drewN nq).heap.size, 0, none⟩ 1 1 (efL (putE nb)) rfl rfl (efLP_cells _ _ _) (efLP_one _) ?_ ?_ ?_ ?_))
                  · unfold maxLen; omega
                  · omega
                  · simp; omega
                  intro v5 w5 ho5 hg5 _
                  obtain ⟨o5, b5⟩ := HO9.out.snocP HB9.out ho5 hg5
                  have O5 : Hid (OwnE 59 w5 w.heap.size v5 (acc ++ [putE nb])) := o5
                  have B5 : Hid (Below w.heap.size w w5) := b5
                  clear o5 b5 ho5 hg5 HO2 HB2 HO9 HB9 a0 a1 a2 a3 a4 a5 a6 c0 c1 c2 c3 c4 c5 c6
                  go_wp2
                  exact ⟨⟨i + 1, j + 1, _, by omega, by omega, by go_num, by go_num, HD2, O5, B5⟩, by simp [intOf]; omega⟩
                | true =>
                  cases e3 : (na.cver == nb.cver) with
                  | false =>
                    have HD2 : Hid (acc ++ [putE nb] ++ dif (Al.drop (i + 1)) (Bl.drop (j + 1)) = dif Al Bl) := by
                      have h9 := HD3.out
                      rw [if_neg (by unfold eqNd; rw [e0, e1, e2, e3]; simp)] at h9
                      exact h9
                    clear HD3
                    go_quiet (fail)
                    have HO9 : Hid (OwnE 59 (w8.drewN nq) w.heap.size u5 acc) := HO2.out.below (below_drewN' w8 nq)
                    have HB9 : Hid (Below w.heap.size w (w8.drewN nq)) := HB2.out.trans ((below_drewN' w8 nq).mono sB)
                    go_wp2_with (at_builtin; go_must (refine wpList_append_own _ rfl _ _ 33 rfl w.heap.size 59 i0 (.agg #[.bool false, .string ByteArray.empty, .string ByteArray.empty, .int .i64 0, .int .i64 0, .int .i64 0, .int .i64 0, .int .i64 0]) 8 80 Tryz.underlying33 hi0 hz0 hz1 hz2 rfl (by decide) _ _ _ rfl (HO9.out.alloc _) ⟨(w8.drewN nq).heap.size, 0, none⟩ 1 1 (efL (putE nb)) rfl rfl (efLP_cells _ _ _) (efLP_one _) ?_ ?_ ?_ ?_))
                    · unfold maxLen; omega
                    · omega
                    · simp; omega
                    intro v5 w5 ho5 hg5 _
                    obtain ⟨o5, b5⟩ := HO9.out.snocP HB9.out ho5 hg5
                    have O5 : Hid (OwnE 59 w5 w.heap.size v5 (acc ++ [putE nb])) := o5
                    have B5 : Hid (Below w.heap.size w w5) := b5
                    clear o5 b5 ho5 hg5 HO2 HB2 HO9 HB9 a0 a1 a2 a3 a4 a5 a6 c0 c1 c2 c3 c4 c5 c6
                    go_wp2
                    exact ⟨⟨i + 1, j + 1, _, by omega, by omega, by go_num, by go_num, HD2, O5, B5⟩, by simp [intOf]; omega⟩
                  | true =>
                    cases e4 : (na.cz == nb.cz) with
                    | false =>
                      have HD2 : Hid (acc ++ [putE nb] ++ dif (Al.drop (i + 1)) (Bl.drop (j + 1)) = dif Al Bl) := by
                        have h9 := HD3.out
                        rw [if_neg (by unfold eqNd; rw [e0, e1, e2, e3, e4]; simp)] at h9
                        exact h9
                      clear HD3
                      go_quiet (fail)
                      have HO9 : Hid (OwnE 59 (w8.drewN nq) w.heap.size u5 acc) := HO2.out.below (below_drewN' w8 nq)
                      have HB9 : Hid (Below w.heap.size w (w8.drewN nq)) := HB2.out.trans ((below_drewN' w8 nq).mono sB)
                      go_wp2_with (at_builtin; go_must (refine wpList_append_own _ rfl _ _ 33 rfl w.heap.size 59 i0 (.agg #[.bool false, .string ByteArray.empty, .string ByteArray.empty, .int .i64 0, .int .i64 0, .int .i64 0, .int .i64 0, .int .i64 0]) 8 80 Tryz.underlying33 hi0 hz0 hz1 hz2 rfl (by decide) _ _ _ rfl (HO9.out.alloc _) ⟨(w8.drewN nq).heap.size, 0, none⟩ 1 1 (efL (putE nb)) rfl rfl (efLP_cells _ _ _) (efLP_one _) ?_ ?_ ?_ ?_))
                      · unfold maxLen; omega
                      · omega
                      · simp; omega
                      intro v5 w5 ho5 hg5 _
                      obtain ⟨o5, b5⟩ := HO9.out.snocP HB9.out ho5 hg5
                      have O5 : Hid (OwnE 59 w5 w.heap.size v5 (acc ++ [putE nb])) := o5
                      have B5 : Hid (Below w.heap.size w w5) := b5
                      clear o5 b5 ho5 hg5 HO2 HB2 HO9 HB9 a0 a1 a2 a3 a4 a5 a6 c0 c1 c2 c3 c4 c5 c6
                      go_wp2
                      exact ⟨⟨i + 1, j + 1, _, by omega, by omega, by go_num, by go_num, HD2, O5, B5⟩, by simp [intOf]; omega⟩
                    | true =>
                      cases e5 : (na.mz == nb.mz) with
                      | false =>
                        have HD2 : Hid (acc ++ [putE nb] ++ dif (Al.drop (i + 1)) (Bl.drop (j + 1)) = dif Al Bl) := by
                          have h9 := HD3.out
                          rw [if_neg (by unfold eqNd; rw [e0, e1, e2, e3, e4, e5]; simp)] at h9
                          exact h9
                        clear HD3
                        go_quiet (fail)
                        have HO9 : Hid (OwnE 59 (w8.drewN nq) w.heap.size u5 acc) := HO2.out.below (below_drewN' w8 nq)
                        have HB9 : Hid (Below w.heap.size w (w8.drewN nq)) := HB2.out.trans ((below_drewN' w8 nq).mono sB)
                        go_wp2_with (at_builtin; go_must (refine wpList_append_own _ rfl _ _ 33 rfl w.heap.size 59 i0 (.agg #[.bool false, .string ByteArray.empty, .string ByteArray.empty, .int .i64 0, .int .i64 0, .int .i64 0, .int .i64 0, .int .i64 0]) 8 80 Tryz.underlying33 hi0 hz0 hz1 hz2 rfl (by decide) _ _ _ rfl (HO9.out.alloc _) ⟨(w8.drewN nq).heap.size, 0, none⟩ 1 1 (efL (putE nb)) rfl rfl (efLP_cells _ _ _) (efLP_one _) ?_ ?_ ?_ ?_))
                        · unfold maxLen; omega
                        · omega
                        · simp; omega
                        intro v5 w5 ho5 hg5 _
                        obtain ⟨o5, b5⟩ := HO9.out.snocP HB9.out ho5 hg5
                        have O5 : Hid (OwnE 59 w5 w.heap.size v5 (acc ++ [putE nb])) := o5
                        have B5 : Hid (Below w.heap.size w w5) := b5
                        clear o5 b5 ho5 hg5 HO2 HB2 HO9 HB9 a0 a1 a2 a3 a4 a5 a6 c0 c1 c2 c3 c4 c5 c6
                        go_wp2
                        exact ⟨⟨i + 1, j + 1, _, by omega, by omega, by go_num, by go_num, HD2, O5, B5⟩, by simp [intOf]; omega⟩
                      | true =>
                        cases e6 : (na.pz == nb.pz) with
                        | false =>
                          have HD2 : Hid (acc ++ [putE nb] ++ dif (Al.drop (i + 1)) (Bl.drop (j + 1)) = dif Al Bl) := by
                            have h9 := HD3.out
                            rw [if_neg (by unfold eqNd; rw [e0, e1, e2, e3, e4, e5, e6]; simp)] at h9
                            exact h9
                          clear HD3
                          go_quiet (fail)
                          have HO9 : Hid (OwnE 59 (w8.drewN nq) w.heap.size u5 acc) := HO2.out.below (below_drewN' w8 nq)
                          have HB9 : Hid (Below w.heap.size w (w8.drewN nq)) := HB2.out.trans ((below_drewN' w8 nq).mono sB)
                          go_wp2_with (at_builtin; go_must (refine wpList_append_own _ rfl _ _ 33 rfl w.heap.size 59 i0 (.agg #[.bool false, .string ByteArray.empty, .string ByteArray.empty, .int .i64 0, .int .i64 0, .int .i64 0, .int .i64 0, .int .i64 0]) 8 80 Tryz.underlying33 hi0 hz0 hz1 hz2 rfl (by decide) _ _ _ rfl (HO9.out.alloc _) ⟨(w8.drewN nq).heap.size, 0, none⟩ 1 1 (efL (putE nb)) rfl rfl (efLP_cells _ _ _) (efLP_one _) ?_ ?_ ?_ ?_))
                          · unfold maxLen; omega
                          · omega
                          · simp; omega
                          intro v5 w5 ho5 hg5 _
                          obtain ⟨o5, b5⟩ := HO9.out.snocP HB9.out ho5 hg5
                          have O5 : Hid (OwnE 59 w5 w.heap.size v5 (acc ++ [putE nb])) := o5
                          have B5 : Hid (Below w.heap.size w w5) := b5
                          clear o5 b5 ho5 hg5 HO2 HB2 HO9 HB9 a0 a1 a2 a3 a4 a5 a6 c0 c1 c2 c3 c4 c5 c6
                          go_wp2
                          exact ⟨⟨i + 1, j + 1, _, by omega, by omega, by go_num, by go_num, HD2, O5, B5⟩, by simp [intOf]; omega⟩
                        | true =>
                          have HD2 : Hid (acc ++ dif (Al.drop (i + 1)) (Bl.drop (j + 1)) = dif Al Bl) := by
                            have h9 := HD3.out
                            rw [if_pos (by unfold eqNd; rw [e0, e1, e2, e3, e4, e5, e6]; rfl), List.append_nil] at h9
                            exact h9
                          clear HD3
                          go_quiet (fail)
                          have HO9 : Hid (OwnE 59 (w8.drewN nq) w.heap.size u5 acc) := HO2.out.below (below_drewN' w8 nq)
                          have HB9 : Hid (Below w.heap.size w (w8.drewN nq)) := HB2.out.trans ((below_drewN' w8 nq).mono sB)
                          clear HO2 HB2
                          go_wp2
                          exact ⟨⟨i + 1, j + 1, _, by omega, by omega, by go_num, by go_num, HD2, HO9, HB9⟩, by simp [intOf]; omega⟩
      · have hjeq : ((j : Int) == (Bl.length : Int)) = true := by simp; omega
        have hjbI : ¬ (j : Int) < (Bl.length : Int) := by omega
        have HD2 : Hid (acc ++ [delE (nAt Al i)] ++ dif (Al.drop (i + 1)) (Bl.drop j) = dif Al Bl) := by
          show _ = _
          rw [← HD.out, dif_del Al Bl i j hia (by omega), List.append_assoc]
          rfl
        generalize nAt Al i = na at *
        clear HD
        go_wp2
        go_quiet (fail)
        have HO1 : Hid (OwnE 59 (wr.drewN nq) w.heap.size u5 acc) := HO.out.below (below_drewN' wr nq)
        have HB1 : Hid (Below w.heap.size w (wr.drewN nq)) := HB.out.trans ((below_drewN' wr nq).mono sB)
        clear a0 a1 a2 a3 a4 a5 a6 HO HB sB
        generalize wr.drewN nq = w7 at *
        have sB := HB1.out.size
        obtain ⟨a0, a1, a2, a3, a4, a5, a6⟩ := HAC.out.below HB1.out hab
        go_wp2
        go_quiet (fail)
        have HO9 : Hid (OwnE 59 (w7.drewN nq) w.heap.size u5 acc) := HO1.out.below (below_drewN' w7 nq)
        have HB9 : Hid (Below w.heap.size w (w7.drewN nq)) := HB1.out.trans ((below_drewN' w7 nq).mono sB)
        go_wp2_with (at_builtin; go_must (refine wpList_append_own _ rfl _ _ 33 rfl w.heap.size 59 i0 (.agg #[.bool false, .string ByteArray.empty, .string ByteArray.empty, .int .i64 0, .int .i64 0, .int .i64 0, .int .i64 0, .int .i64 0]) 8 80 Tryz.underlying33 hi0 hz0 hz1 hz2 rfl (by decide) _ _ _ rfl (HO9.out.alloc _) ⟨(w7.drewN nq).heap.size, 0, none⟩ 1 1 (efL (delE na)) rfl rfl (efLP_cells _ _ _) (efLP_one _) ?_ ?_ ?_ ?_))
        · unfold maxLen; omega
        · omega
        · simp; omega
        intro v5 w5 ho5 hg5 _
        obtain ⟨o5, b5⟩ := HO9.out.snocP HB9.out ho5 hg5
        have O5 : Hid (OwnE 59 w5 w.heap.size v5 (acc ++ [delE na])) := o5
        have B5 : Hid (Below w.heap.size w w5) := b5
        clear o5 b5 ho5 hg5 HO1 HB1 HO9 HB9 a0 a1 a2 a3 a4 a5 a6
        go_wp2
        exact ⟨⟨i + 1, j, _, by omega, by omega, by go_num, by go_num, HD2, O5, B5⟩, by simp [intOf]; omega⟩
    · have hieq : ((i : Int) == (Al.length : Int)) = true := by simp; omega
      have hiaI : ¬ (i : Int) < (Al.length : Int) := by omega
      by_cases hjb : j < Bl.length
      · have hjbI : (j : Int) < (Bl.length : Int) := by omega
        obtain ⟨bb, bi, hbo, hbb, hbc⟩ := HCB.out j hjb
        subst hbo
        obtain ⟨c0, c1, c2, c3, c4, c5, c6⟩ := hbc.below HB.out hbb
        clear hbc
        have HD2 : Hid (acc ++ [putE (nAt Bl j)] ++ dif (Al.drop i) (Bl.drop (j + 1)) = dif Al Bl) := by
          show _ = _
          rw [← HD.out, dif_nil Al Bl i j (by omega) hjb, List.append_assoc]
          rfl
        generalize nAt Bl j = nb at *
        clear HD
        go_wp2
        go_quiet (fail)
        have HO9 : Hid (OwnE 59 (wr.drewN nq) w.heap.size u5 acc) := HO.out.below (below_drewN' wr nq)
        have HB9 : Hid (Below w.heap.size w (wr.drewN nq)) := HB.out.trans ((below_drewN' wr nq).mono sB)
        go_wp2_with (at_builtin; go_must (refine wpList_append_own _ rfl _ _ 33 rfl w.heap.size 59 i0 (.agg #[.bool false, .string ByteArray.empty, .string ByteArray.empty, .int .i64 0, .int .i64 0, .int .i64 0, .int .i64 0, .int .i64 0]) 8 80 Tryz.underlying33 hi0 hz0 hz1 hz2 rfl (by decide) _ _ _ rfl (HO9.out.alloc _) ⟨(wr.drewN nq).heap.size, 0, none⟩ 1 1 (efL (putE nb)) rfl rfl (efLP_cells _ _ _) (efLP_one _) ?_ ?_ ?_ ?_))
        · unfold maxLen; omega
        · omega
        · simp; omega
        intro v5 w5 ho5 hg5 _
        obtain ⟨o5, b5⟩ := HO9.out.snocP HB9.out ho5 hg5
        have O5 : Hid (OwnE 59 w5 w.heap.size v5 (acc ++ [putE nb])) := o5
        have B5 : Hid (Below w.heap.size w w5) := b5
        clear o5 b5 ho5 hg5 HO HB HO9 HB9 c0 c1 c2 c3 c4 c5 c6
        go_wp2
        exact ⟨⟨i, j + 1, _, by omega, by omega, by go_num, by go_num, HD2, O5, B5⟩, by simp [intOf]; omega⟩
      · have HF : Hid (acc = dif Al Bl) := by
          have := HD.out
          rw [List.drop_of_length_le (by omega), List.drop_of_length_le (by omega)] at this
          show _ = _
          simpa [dif] using this
        have hjbI : ¬ (j : Int) < (Bl.length : Int) := by omega
        go_wp2
        go_ret
        exact ⟨_, rfl, by rw [← HF.out]; exact HO.out, HB.out⟩


theorem eqL_bytes {a b : ByteArray} (h : (a.toList == b.toList) = true) : a = b := by
  rw [beq_iff_eq, ByteArray.toList_eq, ByteArray.toList_eq] at h
  cases a; cases b
  simp only [ByteArray.mk.injEq] at *
  exact Array.toList_inj.1 h
theorem eqNd_eq {a b : Nd} (h : eqNd a b = true) : a = b := by
  unfold eqNd at h
  simp only [Bool.and_eq_true] at h
  obtain ⟨h1, h2, h3, h4, h5, h6, h7⟩ := h
  have e1 := eqL_bytes h1
  have e2 := eqL_bytes h2
  rw [beq_iff_eq] at h3 h4 h5 h6 h7
  cases a; cases b
  simp_all
theorem ltP_same {a b : ByteArray} (h1 : ltP a b = false) (h2 : ltP b a = false) : (a.toList == b.toList) = true := by
  cases h : (a.toList == b.toList) with
  | true => rfl
  | false => have := ltP_total h1 h; rw [this] at h2; cases h2
theorem plc_zero {a : Nd} {r : List Nd} {p : ByteArray} (h : ltP a.path p = false) : plc (a :: r) p = 0 := by
  unfold plc; rw [List.takeWhile_cons, if_neg (by simp [h])]; rfl
theorem skp_no {a : Nd} {r : List Nd} {p : ByteArray} (h : ltP p a.path = true) : plc (a :: r) p = 0 ∧ skp (a :: r) p = 0 := by
  have h1 := plc_zero (r := r) (ltP_asymm h)
  refine ⟨h1, ?_⟩
  rw [skp_eq, h1]
  have h2 := ltP_gt_ne h
  simp only [List.drop_zero, nAt, List.getD_cons_zero, h2, Bool.and_false, Bool.false_eq_true, if_false]
theorem skp_yes {a : Nd} {r : List Nd} {p : ByteArray} (h : (a.path.toList == p.toList) = true) : plc (a :: r) p = 0 ∧ skp (a :: r) p = 1 := by
  have e := eqL_bytes h
  have h1 := plc_zero (a := a) (r := r) (p := p) (by rw [e]; exact ltP_irr p)
  refine ⟨h1, ?_⟩
  rw [skp_eq, h1]
  simp only [List.drop_zero, nAt, List.getD_cons_zero, h, Bool.and_true, List.length_cons, Nat.zero_lt_succ, decide_true, if_true]
theorem wi_front {P : List Nd} {a b : Nd} {r : List Nd} (hP : ∀ x ∈ P, ltP x.path b.path = true) (h : Asc (a :: r)) (hl : ltP b.path a.path = true) : wiN (P ++ a :: r) b = P ++ b :: a :: r := by
  obtain ⟨h1, h2⟩ := skp_no (r := r) hl
  rw [wi_all P (a :: r) b hP h, h1, h2]; simp
theorem wi_swap {P : List Nd} {a b : Nd} {r : List Nd} (hP : ∀ x ∈ P, ltP x.path b.path = true) (h : Asc (a :: r)) (he : (a.path.toList == b.path.toList) = true) : wiN (P ++ a :: r) b = P ++ b :: r := by
  obtain ⟨h1, h2⟩ := skp_yes (r := r) he
  rw [wi_all P (a :: r) b hP h, h1, h2]; simp
theorem wi_end {P : List Nd} {b : Nd} (hP : ∀ x ∈ P, ltP x.path b.path = true) : wiN P b = P ++ [b] := by
  have := wi_all P [] b hP List.Pairwise.nil
  simpa using this
theorem wo_front {P : List Nd} {a : Nd} {r : List Nd} (hP : ∀ x ∈ P, ltP x.path a.path = true) (h : Asc (a :: r)) : woN (P ++ a :: r) a.path = P ++ r := by
  obtain ⟨h1, h2⟩ := skp_yes (a := a) (r := r) (p := a.path) (by simp)
  rw [wo_all P (a :: r) a.path hP h, h1, h2]; simp
theorem asc_tail {a : Nd} {r : List Nd} (h : Asc (a :: r)) : Asc r ∧ ∀ x ∈ r, ltP a.path x.path = true := ⟨(List.pairwise_cons.1 h).2, (List.pairwise_cons.1 h).1⟩

/-- The difference takes one list to the other. -/
theorem ap_dif (A B : List Nd) : ∀ P : List Nd, Asc A → Asc B → (∀ x ∈ P, ∀ y, y ∈ A ∨ y ∈ B → ltP x.path y.path = true) → apL (P ++ A) (dif A B) = P ++ B := by
  fun_induction dif A B with
  | case1 now =>
    intro P _ hB hP
    induction now generalizing P with
    | nil => simp [apL]
    | cons b now ih =>
      obtain ⟨h1, h2⟩ := asc_tail hB
      have h3 := ih (P ++ [b]) h1 (fun x hx y hy => by
        rcases List.mem_append.1 hx with hx | hx
        · exact hP x hx y (by rcases hy with hy | hy; (exact .inl hy); (exact .inr (List.mem_cons_of_mem _ hy)))
        · simp at hx; subst hx
          rcases hy with hy | hy
          · simp at hy
          · exact h2 y hy)
      show apL (apQ (P ++ []) (putE b)) (now.map putE) = _
      have e1 : apQ (P ++ []) (putE b) = P ++ [b] := by
        unfold apQ putE
        simp only [Bool.false_eq_true, if_false, List.append_nil]
        exact wi_end (fun x hx => hP x hx b (.inr (List.mem_cons_self ..)))
      rw [e1]
      have : apL (P ++ [b] ++ []) (now.map putE) = P ++ [b] ++ now := h3
      simpa using this
  | case2 a was =>
    intro P hA _ hP
    generalize a :: was = L at hA hP ⊢
    induction L with
    | nil => simp [apL]
    | cons a was ih =>
      obtain ⟨h1, h2⟩ := asc_tail hA
      show apL (apQ (P ++ a :: was) (delE a)) (was.map delE) = _
      have e1 : apQ (P ++ a :: was) (delE a) = P ++ was := by
        unfold apQ delE
        simp only [if_true]
        exact wo_front (fun x hx => hP x hx a (.inl (List.mem_cons_self ..))) hA
      rw [e1]
      exact ih h1 (fun x hx y hy => hP x hx y (by rcases hy with hy | hy; (exact .inl (List.mem_cons_of_mem _ hy)); (exact .inr hy)))
  | case3 a was b now hl ih =>
    intro P hA hB hP
    obtain ⟨h1, h2⟩ := asc_tail hB
    show apL (apQ (P ++ a :: was) (putE b)) _ = _
    unfold apQ
    simp only [putE, Bool.false_eq_true, if_false]
    rw [wi_front (fun x hx => hP x hx b (.inr (List.mem_cons_self ..))) hA hl]
    have := ih (P ++ [b]) hA h1 (fun x hx y hy => by
      rcases List.mem_append.1 hx with hx | hx
      · exact hP x hx y (by rcases hy with hy | hy; (exact .inl hy); (exact .inr (List.mem_cons_of_mem _ hy)))
      · simp at hx; subst hx
        rcases hy with hy | hy
        · rcases List.mem_cons.1 hy with rfl | hy
          · exact hl
          · exact ltP_trans hl ((asc_tail hA).2 y hy)
        · exact h2 y hy)
    simpa using this
  | case4 a was b now hl hg ih =>
    intro P hA hB hP
    obtain ⟨h1, h2⟩ := asc_tail hA
    show apL (apQ (P ++ a :: was) (delE a)) _ = _
    unfold apQ
    simp only [delE, if_true]
    rw [wo_front (fun x hx => hP x hx a (.inl (List.mem_cons_self ..))) hA]
    exact ih P h1 hB (fun x hx y hy => hP x hx y (by rcases hy with hy | hy; (exact .inl (List.mem_cons_of_mem _ hy)); (exact .inr hy)))
  | case5 a was b now hl hg he ih =>
    intro P hA hB hP
    have e := eqNd_eq he
    subst e
    obtain ⟨h1, h2⟩ := asc_tail hA
    obtain ⟨h3, h4⟩ := asc_tail hB
    have := ih (P ++ [a]) h1 h3 (fun x hx y hy => by
      rcases List.mem_append.1 hx with hx | hx
      · exact hP x hx y (by rcases hy with hy | hy; (exact .inl (List.mem_cons_of_mem _ hy)); (exact .inr (List.mem_cons_of_mem _ hy)))
      · simp at hx; subst hx
        rcases hy with hy | hy
        · exact h2 y hy
        · exact h4 y hy)
    simpa using this
  | case6 a was b now hl hg he ih =>
    intro P hA hB hP
    obtain ⟨h1, h2⟩ := asc_tail hA
    obtain ⟨h3, h4⟩ := asc_tail hB
    have hs : (a.path.toList == b.path.toList) = true := ltP_same (by simpa using hg) (by simpa using hl)
    show apL (apQ (P ++ a :: was) (putE b)) _ = _
    unfold apQ
    simp only [putE, Bool.false_eq_true, if_false]
    rw [wi_swap (fun x hx => hP x hx b (.inr (List.mem_cons_self ..))) hA hs]
    have := ih (P ++ [b]) h1 h3 (fun x hx y hy => by
      rcases List.mem_append.1 hx with hx | hx
      · exact hP x hx y (by rcases hy with hy | hy; (exact .inl (List.mem_cons_of_mem _ hy)); (exact .inr (List.mem_cons_of_mem _ hy)))
      · simp at hx; subst hx
        rcases hy with hy | hy
        · have := h2 y hy
          rw [eqL_bytes hs] at this
          exact this
        · exact h4 y hy)
    simpa using this
theorem ap_dif0 {A B : List Nd} (hA : Asc A) (hB : Asc B) : apL A (dif A B) = B := by
  have := ap_dif A B [] hA hB (fun x hx => by simp at hx)
  simpa using this

/-- Effects that lie above a path. -/
theorem dif_above (p : ByteArray) (A B : List Nd) : (∀ x, x ∈ A ∨ x ∈ B → ltP p x.path = true) → ∀ e ∈ dif A B, ltP p e.nd.path = true := by
  fun_induction dif A B with
  | case1 now => intro h e he; obtain ⟨b, hb, rfl⟩ := List.mem_map.1 he; exact h b (.inr hb)
  | case2 a was => intro h e he; obtain ⟨b, hb, rfl⟩ := List.mem_map.1 he; exact h b (.inl hb)
  | case3 a was b now hl ih =>
    intro h e he
    rcases List.mem_cons.1 he with rfl | he
    · exact h b (.inr (List.mem_cons_self ..))
    · exact ih (fun x hx => h x (by rcases hx with hx | hx; (exact .inl hx); (exact .inr (List.mem_cons_of_mem _ hx)))) e he
  | case4 a was b now hl hg ih =>
    intro h e he
    rcases List.mem_cons.1 he with rfl | he
    · exact h a (.inl (List.mem_cons_self ..))
    · exact ih (fun x hx => h x (by rcases hx with hx | hx; (exact .inl (List.mem_cons_of_mem _ hx)); (exact .inr hx))) e he
  | case5 a was b now hl hg he' ih =>
    intro h e he
    exact ih (fun x hx => h x (by rcases hx with hx | hx; (exact .inl (List.mem_cons_of_mem _ hx)); (exact .inr (List.mem_cons_of_mem _ hx)))) e he
  | case6 a was b now hl hg he' ih =>
    intro h e he
    rcases List.mem_cons.1 he with rfl | he
    · exact h b (.inr (List.mem_cons_self ..))
    · exact ih (fun x hx => h x (by rcases hx with hx | hx; (exact .inl (List.mem_cons_of_mem _ hx)); (exact .inr (List.mem_cons_of_mem _ hx)))) e he
theorem dif_asc (A B : List Nd) : Asc A → Asc B → AscE (dif A B) := by
  fun_induction dif A B with
  | case1 now => intro _ hB; exact List.pairwise_map.2 hB
  | case2 a was => intro hA _; exact List.pairwise_map.2 hA
  | case3 a was b now hl ih =>
    intro hA hB
    obtain ⟨h3, h4⟩ := asc_tail hB
    refine List.Pairwise.cons (fun e he => dif_above b.path _ _ (fun x hx => ?_) e he) (ih hA h3)
    rcases hx with hx | hx
    · rcases List.mem_cons.1 hx with rfl | hx
      · exact hl
      · exact ltP_trans hl ((asc_tail hA).2 x hx)
    · exact h4 x hx
  | case4 a was b now hl hg ih =>
    intro hA hB
    obtain ⟨h1, h2⟩ := asc_tail hA
    refine List.Pairwise.cons (fun e he => dif_above a.path _ _ (fun x hx => ?_) e he) (ih h1 hB)
    rcases hx with hx | hx
    · exact h2 x hx
    · rcases List.mem_cons.1 hx with rfl | hx
      · exact hg
      · exact ltP_trans hg ((asc_tail hB).2 x hx)
  | case5 a was b now hl hg he ih => intro hA hB; exact ih (asc_tail hA).1 (asc_tail hB).1
  | case6 a was b now hl hg he ih =>
    intro hA hB
    obtain ⟨h1, h2⟩ := asc_tail hA
    obtain ⟨h3, h4⟩ := asc_tail hB
    have hs : (a.path.toList == b.path.toList) = true := ltP_same (by simpa using hg) (by simpa using hl)
    refine List.Pairwise.cons (fun e he => dif_above b.path _ _ (fun x hx => ?_) e he) (ih h1 h3)
    rcases hx with hx | hx
    · have := h2 x hx
      rw [eqL_bytes hs] at this
      exact this
    · exact h4 x hx
theorem dif_ok (A B : List Nd) : (∀ n ∈ A, okNd n = true) → (∀ n ∈ B, okNd n = true) → ∀ e ∈ dif A B, okEf e = true := by
  have hp : ∀ b : Nd, okNd b = true → okEf (putE b) = true := fun b h => by rw [okEf_false rfl]; exact h
  have hd : ∀ a : Nd, okNd a = true → okEf (delE a) = true := fun a h => by
    rw [okEf_true rfl]
    unfold okNd at h ⊢
    simp only [Bool.and_eq_true] at h ⊢
    simp [delE, nd0, okS, blank, h]
  fun_induction dif A B with
  | case1 now => intro _ hB e he; obtain ⟨b, hb, rfl⟩ := List.mem_map.1 he; exact hp b (hB b hb)
  | case2 a was => intro hA _ e he; obtain ⟨b, hb, rfl⟩ := List.mem_map.1 he; exact hd b (hA b hb)
  | case3 a was b now hl ih =>
    intro hA hB e he
    rcases List.mem_cons.1 he with rfl | he
    · exact hp b (hB b (List.mem_cons_self ..))
    · exact ih hA (fun n hn => hB n (List.mem_cons_of_mem _ hn)) e he
  | case4 a was b now hl hg ih =>
    intro hA hB e he
    rcases List.mem_cons.1 he with rfl | he
    · exact hd a (hA a (List.mem_cons_self ..))
    · exact ih (fun n hn => hA n (List.mem_cons_of_mem _ hn)) hB e he
  | case5 a was b now hl hg he' ih =>
    intro hA hB e he
    exact ih (fun n hn => hA n (List.mem_cons_of_mem _ hn)) (fun n hn => hB n (List.mem_cons_of_mem _ hn)) e he
  | case6 a was b now hl hg he' ih =>
    intro hA hB e he
    rcases List.mem_cons.1 he with rfl | he
    · exact hp b (hB b (List.mem_cons_self ..))
    · exact ih (fun n hn => hA n (List.mem_cons_of_mem _ hn)) (fun n hn => hB n (List.mem_cons_of_mem _ hn)) e he
theorem okEs_of {es : List Ef} (h1 : AscE es) (h2 : ∀ e ∈ es, okEf e = true) : okEs es = true := by
  refine es_yes (fun k hk => ?_)
  have he : ∀ j (hj : j < es.length), eAt es j = es[j] := fun j hj => by unfold eAt; simp [List.getD, hj]
  cases k with
  | zero => rw [okEAt_zero, he 0 hk]; exact h2 _ (List.getElem_mem hk)
  | succ j =>
    rw [okEAt_succ, he _ hk, he j (by omega), h2 _ (List.getElem_mem hk)]
    simpa using List.pairwise_iff_getElem.1 h1 j (j + 1) (by omega) hk (by omega)
/-- The transaction of two sound trees is one, and gives the second. -/
theorem dif_txn {A B : List Nd} {z : Int} (hA : Snd A) (hB : Snd B) (hl : A.length + B.length ≤ 1000) (hz : 1 ≤ z ∧ z ≤ 2147483647) : okTxn z (dif A B) = true := by
  unfold okTxn
  have := dif_len A B
  simp only [Bool.and_eq_true, decide_eq_true_eq]
  exact ⟨⟨⟨hz.1, hz.2⟩, by omega⟩, okEs_of (dif_asc A B hA.1 hB.1) (dif_ok A B hA.2.1 hB.2.1)⟩
theorem resA_dif {A B : List Nd} {z : Int} (hA : Snd A) (hB : Snd B) (hl : A.length + B.length ≤ 1000) (hz : 1 ≤ z ∧ z ≤ 2147483647) : resA A z (dif A B) = B := by
  unfold resA
  rw [okTree_snd.2 hA, dif_txn hA hB hl hz]
  exact ap_dif0 hA.1 hB.1

/-- An operation adds one node at most. -/
theorem wi_len1 {ns : List Nd} (h : Asc ns) (n : Nd) : (wiN ns n).length ≤ ns.length + 1 := by rw [wi_len9 h]; omega
theorem to_len1 {ns : List Nd} (h : Asc ns) (p : ByteArray) (z : Int) : (toN ns p z).length ≤ ns.length := by
  unfold toN
  split
  · rename_i hf
    rw [wi_len9 h, skp_one h ⟨_, (found_mem hf).1, by simp⟩]
    have : 0 < ns.length := by have := (found_mem hf).1; exact List.length_pos_of_mem this
    omega
  · exact Nat.le_refl _
theorem doO_len {ns : List Nd} (h : Asc ns) (o : Op5) (z : Int) : (doO ns o z).2.1.length ≤ ns.length + 1 := by
  unfold doO
  dsimp only
  repeat' split
  all_goals (try (first | exact Nat.le_succ _ | exact Nat.le_refl _))
  · exact Nat.le_trans (to_len1 (asc_wi h _) _ _) (wi_len1 h _)
  · exact Nat.le_trans (to_len1 (asc_wo h _) _ _) (Nat.le_trans (List.length_filter_le _ _) (Nat.le_succ _))
  · exact wi_len1 h _


def op0 : Op5 := ⟨0, ByteArray.empty, ByteArray.empty, 0, false⟩
def oAt (os : List Op5) (i : Nat) : Op5 := os.getD i op0
theorem oAt_get {os : List Op5} {i : Nat} (h : i < os.length) : oAt os i = os[i] := by unfold oAt; simp [List.getD, h]
/-- The cells of an operation. -/
def CellsO (w : World) (b off : Nat) (o : Op5) : Prop :=
  w.cell? ⟨b, off, none⟩ = some (.int .i64 o.kind) ∧ w.cell? ⟨b, off + 1, none⟩ = some (.string o.path) ∧ w.cell? ⟨b, off + 2, none⟩ = some (.string o.data) ∧ w.cell? ⟨b, off + 3, none⟩ = some (.int .i64 o.ver) ∧ w.cell? ⟨b, off + 4, none⟩ = some (.bool o.seq)
theorem CellsO.below {w w' : World} {b off B : Nat} {o : Op5} (h : CellsO w b off o) (hb : Below B w w') (hlt : b < B) : CellsO w' b off o :=
  ⟨(hb.cell (p := ⟨b, off, none⟩) hlt).trans h.1, (hb.cell (p := ⟨b, off + 1, none⟩) hlt).trans h.2.1, (hb.cell (p := ⟨b, off + 2, none⟩) hlt).trans h.2.2.1, (hb.cell (p := ⟨b, off + 3, none⟩) hlt).trans h.2.2.2.1, (hb.cell (p := ⟨b, off + 4, none⟩) hlt).trans h.2.2.2.2⟩
/-- A slice of operations. -/
def RdO (w : World) (v : Value) (os : List Op5) : Prop :=
  ∃ ao cap, v = .slice ao os.length cap ∧ os.length ≤ cap ∧ cap ≤ maxLen ∧
    (os = [] ∨ ∃ b off, ao = some ⟨b, off, none⟩ ∧ b < w.heap.size ∧ ∀ i, i < os.length → CellsO w b (off + i * 5) (oAt os i))
theorem RdO.len {w : World} {v : Value} {os : List Op5} (h : RdO w v os) : ∃ ao cap, v = .slice ao os.length cap ∧ os.length ≤ cap ∧ cap ≤ maxLen := by
  obtain ⟨ao, cap, h0, h1, h2, _⟩ := h
  exact ⟨ao, cap, h0, h1, h2⟩
theorem RdO.below {w w' : World} {v : Value} {os : List Op5} (h : RdO w v os) (hb : Below w.heap.size w w') : RdO w' v os := by
  obtain ⟨ao, cap, rfl, h1, h2, h3⟩ := h
  refine ⟨ao, cap, rfl, h1, h2, ?_⟩
  rcases h3 with h3 | ⟨b, off, rfl, hlt, hc⟩
  · exact .inl h3
  · exact .inr ⟨b, off, rfl, Nat.lt_of_lt_of_le hlt hb.size, fun i hi => (hc i hi).below hb hlt⟩

/-- The operations of a request, one behind another: code, index, nodes, names. -/
def runO (z : Int) : List Op5 → List Nd → Nat → List ByteArray → Int × Nat × List Nd × List ByteArray
  | [], ns, i, nm => (0, i, ns, nm)
  | o :: os, ns, i, nm => if (doO ns o z).1 ≠ 0 then ((doO ns o z).1, i, ns, nm) else runO z os (doO ns o z).2.1 (i + 1) (nm ++ [(doO ns o z).2.2])
theorem runO_bad {z : Int} {os : List Op5} {ns : List Nd} {i : Nat} {nm : List ByteArray} {j : Nat} (hj : j < os.length) (h : (doO ns (oAt os j) z).1 ≠ 0) : runO z (os.drop j) ns i nm = ((doO ns (oAt os j) z).1, i, ns, nm) := by
  rw [List.drop_eq_getElem_cons hj, ← oAt_get hj]
  unfold runO
  rw [if_pos h]
theorem runO_good {z : Int} {os : List Op5} {ns : List Nd} {i : Nat} {nm : List ByteArray} {j : Nat} (hj : j < os.length) (h : (doO ns (oAt os j) z).1 = 0) : runO z (os.drop j) ns i nm = runO z (os.drop (j + 1)) (doO ns (oAt os j) z).2.1 (i + 1) (nm ++ [(doO ns (oAt os j) z).2.2]) := by
  rw [List.drop_eq_getElem_cons hj, ← oAt_get hj]
  conv => lhs; unfold runO
  rw [if_neg (by simpa using h)]
def okPrep (ns : List Nd) (os : List Op5) (z : Int) : Bool := okTree ns && (decide (1 ≤ os.length) && (decide (os.length ≤ 64) && (decide (1 ≤ z) && decide (z ≤ 2147483647))))
/-- What Prepare answers to what it can judge. -/
def PrOk (w : World) (ns : List Nd) (z : Int) (res : Int × Nat × List Nd × List ByteArray) (e : Ending) (w' : World) : Prop :=
  Below w.heap.size w w' ∧
    ((res.1 ≠ 0 ∧ e = .returned (.agg #[.int .i64 res.1, .int .i64 (res.2.1 : Int), .slice none 0 0, .int .i64 0, .slice none 0 0])) ∨
     (res.1 = 0 ∧ ∃ vn ve, e = .returned (.agg #[.int .i64 0, .int .i64 0, vn, .int .i64 z, ve]) ∧ w'.ownsRow w.heap.size 9 1 vn res.2.2.2.length (res.2.2.2.map Value.string) ∧ OwnE 59 w' w.heap.size ve (dif ns res.2.2.1)))

/-- The boxes of Prepare: the tree, the request, the answer. -/
def PrB (w : World) (v vo : Value) (W : World) : Prop :=
  Below w.heap.size w W ∧ w.heap.size + 3 ≤ W.heap.size ∧ W.cell? ⟨w.heap.size, 0, none⟩ = some v ∧ W.cell? ⟨w.heap.size + 1, 0, none⟩ = some vo ∧
  (W.cell? ⟨w.heap.size + 2, 0, none⟩ = some (.int .i64 0) ∧ W.cell? ⟨w.heap.size + 2, 1, none⟩ = some (.int .i64 0) ∧ W.cell? ⟨w.heap.size + 2, 2, none⟩ = some (.slice none 0 0) ∧ W.cell? ⟨w.heap.size + 2, 3, none⟩ = some (.int .i64 0) ∧ W.cell? ⟨w.heap.size + 2, 4, none⟩ = some (.slice none 0 0)) ∧ ∀ j, W.frozen? ⟨w.heap.size + 2, j, none⟩ = false
theorem PrB.belowB {w : World} {v vo : Value} {W W' : World} {B : Nat} (h : PrB w v vo W) (hb : Below B W W') (hB : w.heap.size + 3 ≤ B) : PrB w v vo W' := by
  obtain ⟨h1, h2, h3, h4, ⟨c0, c1, c2, c3, c4⟩, h6⟩ := h
  have q : w.heap.size + 2 < B := by omega
  exact ⟨h1.trans (hb.mono (by omega)), Nat.le_trans h2 hb.size, (hb.cell (p := ⟨w.heap.size, 0, none⟩) (by show w.heap.size < _; omega)).trans h3, (hb.cell (p := ⟨w.heap.size + 1, 0, none⟩) (by show w.heap.size + 1 < _; omega)).trans h4,
    ⟨(hb.cell (p := ⟨w.heap.size + 2, 0, none⟩) q).trans c0, (hb.cell (p := ⟨w.heap.size + 2, 1, none⟩) q).trans c1, (hb.cell (p := ⟨w.heap.size + 2, 2, none⟩) q).trans c2, (hb.cell (p := ⟨w.heap.size + 2, 3, none⟩) q).trans c3, (hb.cell (p := ⟨w.heap.size + 2, 4, none⟩) q).trans c4⟩, fun j => (hb.frozen (p := ⟨w.heap.size + 2, j, none⟩) q).trans (h6 j)⟩
theorem PrB.below {w : World} {v vo : Value} {W W' : World} (h : PrB w v vo W) (hb : Below W.heap.size W W') : PrB w v vo W' := h.belowB hb h.2.1
theorem PrB.new (w : World) (v vo : Value) (t1 t2 t3 : TypeId) : PrB w v vo (((w.alloc (.cells #[v] t1)).alloc (.cells #[vo] t2)).alloc (.cells #[.int .i64 0, .int .i64 0, .slice none 0 0, .int .i64 0, .slice none 0 0] t3)) := by
  refine ⟨(((Below.refl _ _).alloc (Nat.le_refl _) _).alloc (by simp) _).alloc (by simp; omega) _, by simp, by go_simp, by go_simp, ?_, fun j => by go_simp⟩
  have e : ((w.alloc (.cells #[v] t1)).alloc (.cells #[vo] t2)).heap.size = w.heap.size + 2 := by simp
  have h1 : (((w.alloc (.cells #[v] t1)).alloc (.cells #[vo] t2)).alloc (.cells #[.int .i64 0, .int .i64 0, .slice none 0 0, .int .i64 0, .slice none 0 0] t3)).heap[w.heap.size + 2]? = some (.cells #[.int .i64 0, .int .i64 0, .slice none 0 0, .int .i64 0, .slice none 0 0] t3) := by
    rw [← e]; exact heap_alloc_new _ _
  exact ⟨(cell_of h1 _).trans rfl, (cell_of h1 _).trans rfl, (cell_of h1 _).trans rfl, (cell_of h1 _).trans rfl, (cell_of h1 _).trans rfl⟩

set_option maxHeartbeats 4000000 in
set_option maxRecDepth 100000 in
theorem specPrep_bad (w : World) (v vo : Value) (ns : List Nd) (os : List Op5) (z : Int) (h : RdN w v ns) (ho : RdO w vo os) (hn : ns.length ≤ 1048576) (hsz : ∀ i, (nAt ns i).path.size ≤ 1048576 ∧ (nAt ns i).data.size ≤ 1048576) (hb : okPrep ns os z = false) :
    Calls Tryz.prog 9 #[.agg #[v], .agg #[vo], .int .i64 z] w fun e w' => e = .returned (.agg #[.int .i64 9, .int .i64 0, .slice none 0 0, .int .i64 0, .slice none 0 0]) ∧ Below w.heap.size w w' := by
  obtain ⟨ao, ca, rfl, _, _⟩ := h.len
  obtain ⟨bo, cb, rfl, _, _⟩ := ho.len
  have HR : Hid (RdN w (.slice ao ns.length ca) ns) := h
  have HSZ : Hid (∀ i, (nAt ns i).path.size ≤ 1048576 ∧ (nAt ns i).data.size ≤ 1048576) := hsz
  have X0 : Hid (PrB w (.slice ao ns.length ca) (.slice bo os.length cb) (((w.alloc (.cells #[.slice ao ns.length ca] 25)).alloc (.cells #[.slice bo os.length cb] 28)).alloc (.cells #[.int .i64 0, .int .i64 0, .slice none 0 0, .int .i64 0, .slice none 0 0] 37))) := PrB.new _ _ _ _ _ _
  have HBAD : Hid (okPrep ns os z = false) := hb
  clear h ho hsz hb
  go_enter Tryz.func9, Tryz.ntmps9
  go_wp2_with fail
  generalize ((w.alloc (.cells #[.slice ao ns.length ca] 25)).alloc (.cells #[.slice bo os.length cb] 28)).alloc (.cells #[.int .i64 0, .int .i64 0, .slice none 0 0, .int .i64 0, .slice none 0 0] 37) = w0 at *
  obtain ⟨-, -, a0, -⟩ := X0.out
  go_wp2_with fail
  clear a0
  refine (specTree_any _ _ ns (HR.out.below X0.out.1) hn HSZ.out).mono ?_
  rintro e w1 ⟨rfl, b1⟩
  have X1 : Hid (PrB w (.slice ao ns.length ca) (.slice bo os.length cb) w1) := X0.out.below b1
  clear b1 X0
  obtain ⟨-, zz, -, a1, ⟨d0, d1, d2, d3, d4⟩, df⟩ := X1.out
  have f0 := df 0
  have f1 := df 1
  have f2 := df 2
  have f3 := df 3
  have f4 := df 4
  clear df
  have FIN : Hid (∀ W', Below w.heap.size w1 W' → Below w.heap.size w W') := fun W' hW => X1.out.1.trans hW
  have hB := HBAD.out
  unfold okPrep at hB
  clear HBAD X1
  cases ht : okTree ns with
  | false =>
    go_wp2
    refine bodyPost_ret (v := .agg #[.int .i64 9, .int .i64 0, .slice none 0 0, .int .i64 0, .slice none 0 0]) (by simp [results, Tryz.results9, go_sem, d0, d1, d2, d3, d4]) rfl ⟨rfl, FIN.out _ ?_⟩
    repeat (first | exact Below.refl _ _ | refine Below.setCell ?_ (by simp; try omega) _)
  | true =>
    rw [ht, Bool.true_and] at hB
    clear ht
    by_cases h1 : 1 ≤ os.length
    · rw [decide_eq_true h1, Bool.true_and] at hB
      have h1I : ¬ (os.length : Int) < 1 := by omega
      have h1d : decide ((os.length : Int) < 1) = false := by simpa using h1I
      by_cases h2 : os.length ≤ 64
      · rw [decide_eq_true h2, Bool.true_and] at hB
        have h2I : ¬ (64 : Int) < (os.length : Int) := by omega
        have h2d : decide ((64 : Int) < (os.length : Int)) = false := by simpa using h2I
        by_cases h3 : 1 ≤ z
        · rw [decide_eq_true h3, Bool.true_and] at hB
          have h4 : ¬ z ≤ 2147483647 := by simpa using hB
          have h3I : ¬ z < 1 := by omega
          have h3d : decide (z < 1) = false := by simpa using h3I
          have h4I : (2147483647 : Int) < z := by omega
          have h4d : decide ((2147483647 : Int) < z) = true := by simpa using h4I
          clear hB
          go_wp2
          refine bodyPost_ret (v := .agg #[.int .i64 9, .int .i64 0, .slice none 0 0, .int .i64 0, .slice none 0 0]) (by simp [results, Tryz.results9, go_sem, d0, d1, d2, d3, d4]) rfl ⟨rfl, FIN.out _ ?_⟩
          repeat (first | exact Below.refl _ _ | refine Below.setCell ?_ (by simp; try omega) _)
        · have h3I : z < 1 := by omega
          have h3d : decide (z < 1) = true := by simpa using h3I
          clear hB
          go_wp2
          refine bodyPost_ret (v := .agg #[.int .i64 9, .int .i64 0, .slice none 0 0, .int .i64 0, .slice none 0 0]) (by simp [results, Tryz.results9, go_sem, d0, d1, d2, d3, d4]) rfl ⟨rfl, FIN.out _ ?_⟩
          repeat (first | exact Below.refl _ _ | refine Below.setCell ?_ (by simp; try omega) _)
      · have h2I : (64 : Int) < (os.length : Int) := by omega
        have h2d : decide ((64 : Int) < (os.length : Int)) = true := by simpa using h2I
        clear hB
        go_wp2
        refine bodyPost_ret (v := .agg #[.int .i64 9, .int .i64 0, .slice none 0 0, .int .i64 0, .slice none 0 0]) (by simp [results, Tryz.results9, go_sem, d0, d1, d2, d3, d4]) rfl ⟨rfl, FIN.out _ ?_⟩
        repeat (first | exact Below.refl _ _ | refine Below.setCell ?_ (by simp; try omega) _)
    · have h1I : (os.length : Int) < 1 := by omega
      have h1d : decide ((os.length : Int) < 1) = true := by simpa using h1I
      clear hB
      go_wp2
      refine bodyPost_ret (v := .agg #[.int .i64 9, .int .i64 0, .slice none 0 0, .int .i64 0, .slice none 0 0]) (by simp [results, Tryz.results9, go_sem, d0, d1, d2, d3, d4]) rfl ⟨rfl, FIN.out _ ?_⟩
      repeat (first | exact Below.refl _ _ | refine Below.setCell ?_ (by simp; try omega) _)

end Go.Proofs.YtdiingonnddkcaaGreatDoor


