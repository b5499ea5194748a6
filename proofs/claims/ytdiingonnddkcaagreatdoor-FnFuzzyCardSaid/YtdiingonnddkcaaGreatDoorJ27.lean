import Derived.Test.YtdiingonnddkcaaGreatDoorJ25
import Derived.Deep.CutRange
import Derived.Deep.QuietTactic
import Derived.Test.YtdiingonnddkcaaGreatDoorJ26
import Derived.Test.YtdiingonnddkcaaGreatDoorJ22
import Derived.Test.YtdiingonnddkcaaGreatDoorJ24
namespace Go.Proofs.YtdiingonnddkcaaGreatDoor
open Go.RowKit Go.Shelf

theorem rd_fix {Wt : World} {B TB : Nat} {v : Value} {ns : List Nd} (h : RdN Wt v ns) (hl : TB = Wt.heap.size) (hb : ∀ b o n c, v = .slice (some ⟨b, o, none⟩) n c → B ≤ b) : ∀ w', (∀ j, B ≤ j → j < TB → w'.heap[j]? = Wt.heap[j]?) → RdN w' v ns := by
  intro w' hw
  obtain ⟨ao, cap, rfl, h1, h2, h3⟩ := h
  refine ⟨ao, cap, rfl, h1, h2, ?_⟩
  rcases h3 with h3 | ⟨b, off, rfl, hlt, hc⟩
  · exact .inl h3
  · have hB := hb b off _ _ rfl
    have e := hw b hB (by omega)
    refine .inr ⟨b, off, rfl, ?_, fun i hi => ?_⟩
    · have : Wt.heap[b]? = some Wt.heap[b] := Array.getElem?_eq_getElem hlt
      rw [this] at e
      exact (Array.getElem?_eq_some_iff.1 e).1
    · have q : ∀ j, w'.cell? ⟨b, j, none⟩ = Wt.cell? ⟨b, j, none⟩ := fun j => World.cell?_of_block (a := ⟨b, j, none⟩) e
      obtain ⟨c0, c1, c2, c3, c4, c5, c6⟩ := hc i hi
      exact ⟨(q _).trans c0, (q _).trans c1, (q _).trans c2, (q _).trans c3, (q _).trans c4, (q _).trans c5, (q _).trans c6⟩

set_option maxHeartbeats 8000000 in
set_option maxRecDepth 100000 in
theorem drawPrep_x (W : World) (vc : Value) (cs : List Int) (h : Rd .u8 W vc cs) (hby : Byt cs) (hn : cs.length ≤ 1048576) :
    Calls Tryz.prog 6 #[vc] W fun e w' => ∃ v u, e = .returned (.tuple #[.agg #[v], .agg #[u], .int .i64 (srcOf cs).prp.2.2]) ∧ RdN w' v (srcOf cs).prp.1 ∧ RdO w' u (srcOf cs).prp.2.1 ∧ Below W.heap.size W w' ∧ NilOk v := by
  obtain ⟨i0, hi, hz0, hz1, hz2⟩ := info_parts Tryz.infoO9
  have hs0 : (W.alloc (.cells #[.slice none 0 0] 25)).heap.size = W.heap.size + 1 := by simp
  have bA : Below W.heap.size W (W.alloc (.cells #[.slice none 0 0] 25)) := (Below.refl _ _).alloc (Nat.le_refl _) _
  have bB : Below (W.alloc (.cells #[.slice none 0 0] 25)).heap.size (W.alloc (.cells #[.slice none 0 0] 25)) ((W.alloc (.cells #[.slice none 0 0] 25)).alloc (.cells #[.slice none 0 0] 28)) := (Below.refl _ _).alloc (Nat.le_refl _) _
  have R0 := hd9 ((St.new W #[.slice none 0 0] 25).below bB)
  have R1' := St.new (W.alloc (.cells #[.slice none 0 0] 25)) #[.slice none 0 0] 28
  rw [hs0] at R1'
  have R1 := hd9 R1'
  have BR := hd9 (bA.trans (bB.mono bA.size))
  have hs : ((W.alloc (.cells #[.slice none 0 0] 25)).alloc (.cells #[.slice none 0 0] 28)).heap.size = W.heap.size + 2 := by simp
  have HR := hd9 (h.below BR.out)
  obtain ⟨ca, cc, rfl, -⟩ := h.len
  obtain ⟨RES, hRES⟩ : ∃ r, r = (srcOf cs).prp := ⟨_, rfl⟩
  rw [← hRES]
  have HRES : Hid ((srcOf cs).prp = RES) := hRES.symm
  clear h hRES hs0 bA bB R1'
  go_enter Tryz.func6, Tryz.ntmps6
  go_wp2_with fail
  generalize (W.alloc (.cells #[.slice none 0 0] 25)).alloc (.cells #[.slice none 0 0] 28) = w0 at *
  refine (sourceX_any w0 _ cs HR.out hby hn).mono ?_
  rintro e w1 ⟨k, rfl, hk, s1, b1⟩
  generalize srcOf cs = s at *
  have hsz := s1.sz
  have hz1' := b1.size
  have hkB := s1.kB
  have HTZ := tree_sz9 s hsz.2
  have htl := tree_le s hsz.2
  have S1 := hd9 s1
  have B1 := hd9 b1
  clear s1 b1 HR
  unfold Sr.prp at HRES
  go_wp2_with fail
  refine (tree_x w1 k w1.heap.size s S1.out).mono ?_
  rintro e w2 ⟨v, rfl, r2, s2, t2, hb2, hnil⟩
  have hnk : Hid (NilOk v) := hnil
  obtain ⟨av, cv, hv, -⟩ := r2.len
  subst hv
  have HRD : Hid (∀ w', (∀ j, w1.heap.size ≤ j → j < w2.heap.size → w'.heap[j]? = w2.heap[j]?) → RdN w' (.slice av s.tree.1.length cv) s.tree.1) := rd_fix r2 rfl hb2
  have hoff : OffK k (.slice av s.tree.1.length cv) := fun b o n c e e2 => by have := hb2 b o n c e; omega
  have bT : Below w2.heap.size w2 (w2.alloc (.cells #[.slice av s.tree.1.length cv] 25)) := (Below.refl _ _).alloc (Nat.le_refl _) _
  have S3 := hd9 (s2.keep (bT.mono s2.lt))
  have RD3 := hd9 (r2.below bT)
  have T3 := hd9 (St.new w2 #[.slice av s.tree.1.length cv] 25)
  have z2 := t2.size
  have b02 : Below (W.heap.size + 2) w0 w2 := by
    rw [← hs]
    exact B1.out.trans (t2.below (by omega) (by omega))
  have B3 := hd9 (b02.trans (bT.mono (by omega)))
  have z3 : (w2.alloc (.cells #[.slice av s.tree.1.length cv] 25)).heap.size = w2.heap.size + 1 := by simp
  have F3 : Hid (∀ j, w1.heap.size ≤ j → j < w2.heap.size → (w2.alloc (.cells #[.slice av s.tree.1.length cv] 25)).heap[j]? = w2.heap[j]?) := fun j _ h2 => bT.block j h2
  clear r2 s2 t2 hb2 hnil bT b02 S1 B1
  go_wp2_with fail
  generalize w2.alloc (.cells #[.slice av s.tree.1.length cv] 25) = w3 at *
  generalize w2.heap.size = TB at *
  refine (req_k w3 k w1.heap.size s.tree.2 _ s.tree.1 S3.out RD3.out hoff (by omega) (sz9_T HTZ.1)).mono ?_
  rintro e w4 ⟨u, rfl, o4, s4, t4⟩
  have hql := Sr.req_len s.tree.2 s.tree.1
  have HQZ : Hid (∀ o ∈ (s.tree.2.req s.tree.1).1, SzO o) := Sr.rops_sz _ (sz9_T HTZ.1) _ _
  clear HTZ
  generalize s.tree.2.req s.tree.1 = rq at *
  generalize s.tree.1 = ns at *
  obtain ⟨au, cu, hu⟩ := o4.slice
  subst hu
  obtain ⟨g, hg⟩ : ∃ g, au = some ⟨g, 0, none⟩ := by
    rcases o4.2 with ⟨h9, h8⟩ | ⟨g, cap, cur, h9, -⟩
    · omega
    · cases h9; exact ⟨g, rfl⟩
  subst hg
  have hgl := World.ownsRow.lt o4 g rfl
  have z4 := t4.size
  have bQ : Below w4.heap.size w4 (w4.alloc (.cells #[.slice (some ⟨g, 0, none⟩) rq.1.length cu] 28)) := (Below.refl _ _).alloc (Nat.le_refl _) _
  have T34 : Tch k w3 (w4.alloc (.cells #[.slice (some ⟨g, 0, none⟩) rq.1.length cu] 28)) := t4.then (bQ.mono z4)
  have S5 := hd9 (s4.keep (bQ.mono s4.lt))
  have O5 : Hid (OwnOps (w4.alloc (.cells #[.slice (some ⟨g, 0, none⟩) rq.1.length cu] 28)) (TB + 1) (.slice (some ⟨g, 0, none⟩) rq.1.length cu) rq.1) := by
    rw [← z3]
    exact row_tch o4 (Tch.of (k := w4.heap.size) bQ) (by simp [Value.ownBlock]; omega)
  have Q5 := hd9 (St.new w4 #[.slice (some ⟨g, 0, none⟩) rq.1.length cu] 28)
  have T5 := hd9 (T3.out.tch T34 (by omega))
  have B5 : Hid (Below (W.heap.size + 2) w0 (w4.alloc (.cells #[.slice (some ⟨g, 0, none⟩) rq.1.length cu] 28))) := B3.out.trans (T34.below (by omega) (by omega))
  have F5 : Hid (∀ j, w1.heap.size ≤ j → j < TB → (w4.alloc (.cells #[.slice (some ⟨g, 0, none⟩) rq.1.length cu] 28)).heap[j]? = w2.heap[j]?) := fun j h1 h2 => (T34.2 j (by omega) (by omega)).trans (F3.out j h1 h2)
  have z5 : (w4.alloc (.cells #[.slice (some ⟨g, 0, none⟩) rq.1.length cu] 28)).heap.size = w4.heap.size + 1 := by simp
  clear o4 s4 t4 bQ T34 S3 RD3 T3 B3 F3
  go_wp2_with fail
  generalize w4.alloc (.cells #[.slice (some ⟨g, 0, none⟩) rq.1.length cu] 28) = w5 at *
  generalize w4.heap.size = RB at *
  refine (next_x w5 k w1.heap.size 100 rq.2 S5.out (by omega)).mono ?_
  rintro e w6 ⟨rfl, s6, t6⟩
  have hl100 := rq.2.next_lt 100 (by omega)
  unfold prpD at HRES
  generalize rq.2.next 100 = n1 at *
  have S6 := hd9 s6
  have T6 := hd9 t6
  clear s6 t6 S5
  go_wp2_with fail
  refine (next_x w6 k w1.heap.size 40 n1.2 S6.out (by omega)).mono ?_
  rintro e w7 ⟨rfl, s7, t7⟩
  have hl40 := n1.2.next_lt 40 (by omega)
  generalize n1.2.next 40 = n2 at *
  have S7 := hd9 s7
  have T7 := hd9 (T6.out.trans t7)
  clear s7 t7 S6 T6
  have q7 := (Q5.out.tch T7.out (by omega)).cl 0 _ rfl
  have q7l := (Q5.out.tch T7.out (by omega)).lt
  go_wp2_with fail
  clear q7 q7l
  refine (next_x w7 k w1.heap.size rq.1.length n2.2 S7.out (by omega)).mono ?_
  rintro e w8 ⟨rfl, s8, t8⟩
  have hil := n2.2.next_lt rq.1.length (by omega)
  generalize n2.2.next rq.1.length = n3 at *
  have S8 := hd9 s8
  have T8 := hd9 (T7.out.trans t8)
  clear s8 t8 S7 T7
  generalize rq.1 = os at *
  generalize n3.1 = i at *
  have q8 := (Q5.out.tch T8.out (by omega)).cl 0 _ rfl
  have hilI : (i : Int) < (os.length : Int) := by omega
  have O8 := hd9 (row_tch O5.out T8.out (show Value.ownBlock (.slice (some ⟨g, 0, none⟩) os.length cu) ≠ some k by simp [Value.ownBlock]; omega))
  have hcell : ∀ j, j < 5 → w8.cell? ⟨g, i * 5 + j, none⟩ = (opL (oAt os i))[j]? := fun j hj => by
    have hh := orow_get os i j hil hj
    obtain ⟨u9, hu9⟩ : ∃ u9, (opL (oAt os i))[j]? = some u9 := ⟨_, List.getElem?_eq_getElem (by show j < 5; exact hj)⟩
    rw [hu9] at hh ⊢
    have := World.ownsRow.cells O8.out (g := g) rfl (i * 5 + j) _ hh
    rw [Addr.add_lit, Nat.zero_add] at this
    exact this
  have e0 := hcell 0 (by omega)
  have e1 := hcell 1 (by omega)
  have e2 := hcell 2 (by omega)
  have e3 := hcell 3 (by omega)
  have e4 := hcell 4 (by omega)
  clear hcell
  simp only [opL, List.getElem?_cons_zero, List.getElem?_cons_succ, Nat.add_zero] at e0 e1 e2 e3 e4
  go_upto_if 36 with fail
  clear e0 e1 e2 e3 e4 q8
  have DD : Hid (DQ W k w1.heap.size TB RB w8.heap.size) := by have := T8.out.size; exact ⟨by omega, hkB, z2, by omega, by omega⟩
  have D0 : Hid (DP W w2 k w1.heap.size TB RB w8.heap.size (.slice av ns.length cv) (.slice (some ⟨g, 0, none⟩) os.length cu) os (oAt os i) n3.2 (w8.alloc (.cells #[.int .i64 (oAt os i).kind, .string (oAt os i).path, .string (oAt os i).data, .int .i64 (oAt os i).ver, .bool (oAt os i).seq] 40))) := by
    have hs8 := T8.out.size
    have bO : Below w8.heap.size w8 (w8.alloc (.cells #[.int .i64 (oAt os i).kind, .string (oAt os i).path, .string (oAt os i).data, .int .i64 (oAt os i).ver, .bool (oAt os i).seq] 40)) := (Below.refl _ _).alloc (Nat.le_refl _) _
    have b08 : Below (W.heap.size + 2) w0 (w8.alloc (.cells #[.int .i64 (oAt os i).kind, .string (oAt os i).path, .string (oAt os i).data, .int .i64 (oAt os i).ver, .bool (oAt os i).seq] 40)) := B5.out.trans ((T8.out.below (by omega) (by omega)).trans (bO.mono (by omega)))
    have T9 : Tch k w5 (w8.alloc (.cells #[.int .i64 (oAt os i).kind, .string (oAt os i).path, .string (oAt os i).data, .int .i64 (oAt os i).ver, .bool (oAt os i).seq] 40)) := T8.out.then (bO.mono hs8)
    exact ⟨S8.out.keep (bO.mono S8.out.lt), BR.out.trans (b08.mono (by omega)), fun j h1 h2 => (T9.2 j (by omega) (by omega)).trans (F5.out j h1 h2), R0.out.belowB b08 (by omega), R1.out.belowB b08 (by omega), T5.out.tch T9 (by omega), Q5.out.tch T9 (by omega), St.new w8 _ _, row_tch O8.out (Tch.of (k := w8.heap.size) bO) (by simp [Value.ownBlock]; omega), by simp [Value.ownBlock]; omega, by simp [Value.ownBlock]; omega⟩
  clear S8 T8 O8 T5 Q5 O5 F5 B5 R0 R1
  generalize w8.alloc (.cells #[.int .i64 (oAt os i).kind, .string (oAt os i).path, .string (oAt os i).data, .int .i64 (oAt os i).ver, .bool (oAt os i).seq] 40) = w9 at *
  generalize w8.heap.size = OB at *
  generalize n3.2 = s5 at *
  generalize n2.1 = kk at *
  generalize 50 + (n1.1 : Int) = z0 at *
  clear hl100
  go_cut [8] from 35 to 39 (fun v8 wx => ∃ (z' : Int) (s' : Sr), v8 = .int .i64 z' ∧ Hid (DP W w2 k w1.heap.size TB RB OB (.slice av ns.length cv) (.slice (some ⟨g, 0, none⟩) os.length cu) os (oAt os i) s' wx) ∧ Hid ((z', s') = if kk = 0 then (2147483647 + ((s5.next 2).1 : Int), (s5.next 2).2) else (z0, s5)))
  case first =>
    by_cases hk0 : kk = 0
    · subst hk0
      have hl2 := s5.next_lt 2 (by omega)
      go_wp2_with fail
      refine (next_x w9 k w1.heap.size 2 s5 D0.out.src (by omega)).mono ?_
      rintro e wa ⟨rfl, sa, ta⟩
      have Da := hd9 (D0.out.next DD.out sa ta)
      clear sa ta
      go_wp2_with fail
      go_meet
      exact ⟨_, _, rfl, Da, (by show _ = _; rw [if_pos trivial])⟩
    · have hkI : ¬ (kk : Int) = 0 := by omega
      go_wp2_with fail
      go_meet
      exact ⟨_, _, rfl, D0, (by show _ = _; rw [if_neg hk0])⟩
  case rest =>
  obtain ⟨z1, s6, rfl, D1, E0⟩ := hcut
  clear D0
  go_upto_if 41 with fail
  go_cut [8] from 40 to 41 (fun v8 wx => ∃ z' : Int, v8 = .int .i64 z' ∧ Hid (DP W w2 k w1.heap.size TB RB OB (.slice av ns.length cv) (.slice (some ⟨g, 0, none⟩) os.length cu) os (oAt os i) s6 wx) ∧ Hid (z' = if kk = 1 then 0 else z1))
  case first =>
    by_cases hk0 : kk = 1
    · subst hk0
      go_wp2_with fail
      go_meet
      exact ⟨_, rfl, D1, (by show _ = _; rw [if_pos trivial])⟩
    · have hkI : ¬ (kk : Int) = 1 := by omega
      go_wp2_with fail
      go_meet
      exact ⟨_, rfl, D1, (by show _ = _; rw [if_neg hk0])⟩
  case rest =>
  obtain ⟨z2', rfl, D2, E1⟩ := hcut
  clear D1
  go_upto_if 43 with fail
  generalize hw2 : wc = w10 at *
  clear hw2
  go_cut [] from 42 to 48 (fun wx => Hid (DP W w2 k w1.heap.size TB RB OB (.slice av ns.length cv) (.slice (some ⟨g, 0, none⟩) os.length cu) os (oAt os i) s6 wx) ∧ Hid (kk ≠ 2))
  case first =>
    by_cases hk0 : kk = 2
    · subst hk0
      have q0 := D2.out.q.cl 0 _ rfl
      have q1 := D2.out.q.fz 0
      have ql := D2.out.q.lt
      go_wp2_with fail
      clear q0 q1 ql
      have DE := hd9 (D2.out.clr DD.out)
      generalize hu : (Value.slice (some ⟨w10.heap.size, 0, none⟩) 0 0) = ue at *
      generalize (w10.setCell ⟨RB, 0, none⟩ ue).alloc (.cells #[] 40) = w11 at *
      subst hu
      generalize w10.heap.size = eb at *
      have bD : Below w11.heap.size w11 w11.drew := below_drewN' w11 1
      have Dd := hd9 (DE.out.below DD.out bD)
      refine wp_region_held_drew (S := fun w9 => w9.cell? ⟨TB, 0, none⟩ = some (.slice av ns.length cv) ∧ w9.cell? ⟨RB, 0, none⟩ = some (.slice (some ⟨eb, 0, none⟩) 0 0)) (by kernel_rfl) ⟨Dd.out.t.cl 0 _ rfl, Dd.out.q.cl 0 _ rfl⟩ (fun hHeld => ?_)
      clear bD DE
      generalize w11.drew = wd at *
      refine wpAnyH_take (i := 0) (oi := { dst := some 46, op := _, type := _, pos := _, after := _, guard := _ }) (v := (.agg #[.slice av ns.length cv])) rfl (by kernel_rfl) (by kernel_rfl) (by kernel_rfl) (fun _ _ _ h => h) (Or.inl ⟨by rfl, fun w9 hS9 => by (obtain ⟨h9, h8⟩ := hS9; go_simp; try with_reducible rfl)⟩) (by assumption) ?_
      try simp only [Act.put, List.setIfInBounds_toArray, List.set_cons_zero, List.set_cons_succ]
      refine wpAnyH_take (i := 1) (oi := { dst := some 47, op := _, type := _, pos := _, after := _, guard := _ }) (v := (.agg #[.slice (some ⟨eb, 0, none⟩) 0 0])) rfl (by kernel_rfl) (by kernel_rfl) (by kernel_rfl) (fun _ _ _ h => h) (Or.inl ⟨by rfl, fun w9 hS9 => by (obtain ⟨h9, h8⟩ := hS9; go_simp; try with_reducible rfl)⟩) (by assumption) ?_
      try simp only [Act.put, List.setIfInBounds_toArray, List.set_cons_zero, List.set_cons_succ]
      refine wpAnyH_take (i := 2) (oi := { dst := some 48, op := _, type := _, pos := _, after := _, guard := _ }) (v := (.int .i64 z2')) rfl (by kernel_rfl) (by kernel_rfl) (by kernel_rfl) (fun _ _ _ h => h) (Or.inl ⟨by rfl, fun w9 hS9 => by (clear hS9; go_simp; try with_reducible rfl)⟩) (by assumption) ?_
      try simp only [Act.put, List.setIfInBounds_toArray, List.set_cons_zero, List.set_cons_succ]
      have F := hd9 (Dd.out.fin DD.out HRD.out)
      have hdk := DD.out.ak
      have hdB := DD.out.aB
      have hdT := DD.out.aT
      have hdR := DD.out.aR
      have S0 := hd9 (Dd.out.r0.set 0 (.slice av ns.length cv))
      have S1 := hd9 (Dd.out.r1.tch (tch_set9 wd W.heap.size 0 (.slice av ns.length cv)) (by omega))
      have T0 := hd9 (Dd.out.t.tch (tch_set9 wd W.heap.size 0 (.slice av ns.length cv)) (by omega))
      have Q0 := hd9 (Dd.out.q.tch (tch_set9 wd W.heap.size 0 (.slice av ns.length cv)) (by omega))
      refine wpAnyH_ready (rs := [3]) (by kernel_rfl) (by simp) ?_
      refine AllReadyH.cons (o := { dst := none, op := _, type := _, pos := _, after := _, guard := _ }) rfl (fun K hK => ?_) AllReadyH.nil
      have y0 := Dd.out.r0.cl 0 _ rfl
      have y1 := Dd.out.r0.fz 0
      go_simp
      refine hK.out _ _ ⟨T0.out.cl 0 _ rfl, Q0.out.cl 0 _ rfl⟩ (fun hx9 => ?_)
      clear hK K hHeld y0 y1
      have hHeld := hx9
      clear hx9
      try simp only [Act.put, List.setIfInBounds_toArray, List.set_cons_zero, List.set_cons_succ]
      refine wpAnyH_ready (rs := [4]) (by kernel_rfl) (by simp) ?_
      refine AllReadyH.cons (o := { dst := none, op := _, type := _, pos := _, after := _, guard := _ }) rfl (fun K hK => ?_) AllReadyH.nil
      have y0 := S1.out.cl 0 _ rfl
      have y1 := S1.out.fz 0
      go_simp
      have S2 := hd9 (S1.out.set 0 (.slice (some ⟨eb, 0, none⟩) 0 0))
      have S3 := hd9 (S0.out.tch (tch_set9 _ (W.heap.size + 1) 0 (.slice (some ⟨eb, 0, none⟩) 0 0)) (by omega))
      refine hK.out _ _ ⟨(T0.out.tch (tch_set9 _ (W.heap.size + 1) 0 (.slice (some ⟨eb, 0, none⟩) 0 0)) (by omega)).cl 0 _ rfl, (Q0.out.tch (tch_set9 _ (W.heap.size + 1) 0 (.slice (some ⟨eb, 0, none⟩) 0 0)) (by omega)).cl 0 _ rfl⟩ (fun hx9 => ?_)
      clear hK K hHeld y0 y1
      have hHeld := hx9
      clear hx9
      try simp only [Act.put, List.setIfInBounds_toArray, List.set_cons_zero, List.set_cons_succ]
      refine wpAnyH_take (i := 5) (oi := { dst := some 4, op := _, type := _, pos := _, after := _, guard := _ }) (v := (.int .i64 z2')) rfl (by kernel_rfl) (by kernel_rfl) (by kernel_rfl) (fun _ _ _ h => h) (Or.inl ⟨by rfl, fun w9 hS9 => by (clear hS9; go_simp; try with_reducible rfl)⟩) (by assumption) ?_
      try simp only [Act.put, List.setIfInBounds_toArray, List.set_cons_zero, List.set_cons_succ]
      refine wpAnyH_done (by kernel_rfl) ?_ _
      clear hHeld Dd S0 S1 T0 Q0
      have x0 := S3.out.cl 0 _ rfl
      have x1 := S2.out.cl 0 _ rfl
      clear S2 S3
      have HR9 : Hid ((ns, ([] : List Op5), z2') = RES) := by
        have a0 := E0.out
        have a1 := E1.out
        have a2 := HRES.out
        rw [if_neg (by decide)] at a0 a1
        injection a0 with a3 a4
        subst a3 a1
        exact a2
      have h9 := HR9.out
      clear HR9 HRES
      subst h9
      go_wp2
      exact bodyPost_ret (v := .tuple #[.agg #[.slice av ns.length cv], .agg #[.slice (some ⟨eb, 0, none⟩) 0 0], .int .i64 z2']) (by simp [results, Tryz.results6, go_sem, x0, x1]) rfl ⟨_, _, rfl, F.out.1, F.out.2.1, F.out.2.2, hnk.out⟩
    · have hkI : ¬ (kk : Int) = 2 := by omega
      go_wp2_with fail
      go_meet
      exact ⟨D2, hk0⟩
  case rest =>
  obtain ⟨D3, hk2⟩ := hcut
  clear D2
  go_upto_if 50 with fail
  generalize hw3 : wc = w11 at *
  clear hw3
  go_cut [] from 49 to 67 (fun wx => Hid (DP W w2 k w1.heap.size TB RB OB (.slice av ns.length cv) (.slice (some ⟨g, 0, none⟩) os.length cu) os (oAt os i) s6 wx) ∧ Hid (kk ≠ 3))
  case first =>
    by_cases hk0 : kk = 3
    · subst hk0
      have HR9 : Hid ((ns, os ++ List.replicate (64 + (s6.next 2).1 - os.length) chkO, z2') = RES) := by
        have a0 := E0.out
        have a1 := E1.out
        have a2 := HRES.out
        rw [if_neg (by decide)] at a0 a1
        injection a0 with a3 a4
        subst a3 a1 a4
        exact a2
      clear E0 E1
      have hl2 := s6.next_lt 2 (by omega)
      go_wp2_with fail
      refine (next_x w11 k w1.heap.size 2 s6 D3.out.src (by omega)).mono ?_
      rintro e wa ⟨rfl, sa, ta⟩
      have Da := hd9 (D3.out.next DD.out sa ta)
      clear sa ta D3
      generalize s6.next 2 = n4 at *
      go_wp2
      go_loopw [] (fun wr => ∃ j gu cu' : Nat, j ≤ 64 + n4.1 - os.length ∧ Hid (DP W w2 k w1.heap.size TB RB OB (.slice av ns.length cv) (.slice (some ⟨gu, 0, none⟩) (os ++ List.replicate j chkO).length cu') (os ++ List.replicate j chkO) (oAt os i) n4.2 wr)) (fun wr => 64 + n4.1 - lnAt9 wr RB)
      case atStart => exact ⟨0, g, cu, Nat.zero_le _, by rw [List.replicate_zero, List.append_nil]; exact Da⟩
      case round =>
        clear Da
        obtain ⟨j, gu, cu', hj, HG⟩ := hrel
        by_cases hlt : j < 64 + n4.1 - os.length
        · have HN : Hid (∀ u w, DP W w2 k w1.heap.size TB RB OB (.slice av ns.length cv) u ((os ++ List.replicate j chkO) ++ [chkO]) (oAt os i) n4.2 w → DP W w2 k w1.heap.size TB RB OB (.slice av ns.length cv) u (os ++ List.replicate (j + 1) chkO) (oAt os i) n4.2 w) := by
            intro u w hh
            rw [List.replicate_succ', ← List.append_assoc]
            exact hh
          have HL : Hid ((os ++ List.replicate (j + 1) chkO).length = (os ++ List.replicate j chkO).length + 1) := by show _ = _; simp; omega
          have hQ : (os ++ List.replicate j chkO).length = os.length + j := by rw [List.length_append, List.length_replicate]
          generalize os ++ List.replicate j chkO = Q at *
          have hQ1 : Q.length < 64 + n4.1 := by omega
          have hQI : (Q.length : Int) < 64 + (n4.1 : Int) := by omega
          have HQL := hd9 hQ
          clear hQ
          have HPL : Hid (lnAt9 wr RB = Q.length) := lnAt9_of (HG.out.q.cl 0 _ rfl)
          have bN : Below wr.heap.size wr (wr.alloc (.cells #[.int .i64 chkO.kind, .string chkO.path, .string chkO.data, .int .i64 chkO.ver, .bool chkO.seq] 40)) := (Below.refl _ _).alloc (Nat.le_refl _) _
          have HOW := hd9 (HG.out.below DD.out bN).own
          have HCL := hd9 (opL_cells wr chkO 40)
          have hrl := HG.out.b.lt
          have hrO := DD.out.aO
          have hrR := DD.out.aR
          have q0 := HG.out.q.cl 0 _ rfl
          have q1 := HG.out.q.fz 0
          have ql := HG.out.q.lt
          clear bN
          go_wp2_with (at_builtin; go_must (refine wpList_append_lies _ rfl _ _ 26 rfl (TB + 1) 40 i0 _ 5 56 Tryz.underlying26 hi hz0 hz1 hz2 rfl (by omega) (.slice (some ⟨gu, 0, none⟩) Q.length cu') Q.length (orow Q) rfl HOW.out ⟨wr.heap.size, 0, none⟩ 1 1 (opL chkO) rfl rfl HCL.out (opL_one _) (by omega) (by unfold maxLen; omega) (by omega) (by simp; omega) (wr.heap.size + 1) (by simp) ?_))
          clear q0 q1 ql
          intro g4 cap4 w4 ho4 hg4 hat4 hlt4
          have OW4 : OwnOps w4 (TB + 1) (.slice (some ⟨g4, 0, none⟩) (Q.length + 1) cap4) (Q ++ [chkO]) := by
            unfold OwnOps
            rw [List.length_append, orow_one]
            exact ho4
          have hgu := World.ownsRow.lt HG.out.own gu rfl
          have hun := HG.out.un
          have hun1 : gu ≠ RB := fun e => hun.1 (by rw [e]; rfl)
          have hun2 : gu ≠ OB := fun e => hun.2 (by rw [e]; rfl)
          have hg4n : g4 = gu ∨ g4 = wr.heap.size + 1 := by
            rcases hat4 with h9 | h9
            · exact .inl (Option.some.inj h9).symm
            · exact .inr h9
          obtain ⟨PP, q0, q1⟩ := HG.out.setQ DD.out (World.grownBy.trans (World.grownBy_alloc wr _ _) hg4) (fun g9 e9 => by have h9 : gu = g9 := Option.some.inj e9; omega) OW4 ⟨by simp [Value.ownBlock]; omega, by simp [Value.ownBlock]; omega⟩
          have HP := hd9 (HN.out _ _ PP)
          have HPL2 := hd9 (lnAt9_of (PP.q.cl 0 _ rfl))
          clear PP OW4 ho4 hg4 hat4 hlt4 HOW HCL hgu hun hun1 hun2 hg4n HG HN
          go_wp2
          go_roundw
          case rel => exact ⟨j + 1, g4, cap4, by omega, by rw [HL.out]; exact HP⟩
          case measure => rw [HPL2.out, HPL.out]; omega
        · have hjn : j = 64 + n4.1 - os.length := by omega
          rw [← hjn] at HR9
          have hQ : (os ++ List.replicate j chkO).length = os.length + j := by rw [List.length_append, List.length_replicate]
          generalize os ++ List.replicate j chkO = Q at *
          have hQI : ¬ (Q.length : Int) < 64 + (n4.1 : Int) := by omega
          clear hQ hjn
          have q0 := HG.out.q.cl 0 _ rfl
          go_wp2_with fail
          clear q0
          generalize hw9 : wr = w12 at *
          clear hw9
          have bD : Below w12.heap.size w12 w12.drew := below_drewN' w12 1
          have Dd := hd9 (HG.out.below DD.out bD)
          refine wp_region_held_drew (S := fun w9 => w9.cell? ⟨TB, 0, none⟩ = some (.slice av ns.length cv) ∧ w9.cell? ⟨RB, 0, none⟩ = some (.slice (some ⟨gu, 0, none⟩) Q.length cu')) (by kernel_rfl) ⟨Dd.out.t.cl 0 _ rfl, Dd.out.q.cl 0 _ rfl⟩ (fun hHeld => ?_)
          clear bD HG
          generalize w12.drew = wd at *
          refine wpAnyH_take (i := 0) (oi := { dst := some 65, op := _, type := _, pos := _, after := _, guard := _ }) (v := (.agg #[.slice av ns.length cv])) rfl (by kernel_rfl) (by kernel_rfl) (by kernel_rfl) (fun _ _ _ h => h) (Or.inl ⟨by rfl, fun w9 hS9 => by (obtain ⟨h9, h8⟩ := hS9; go_simp; try with_reducible rfl)⟩) (by assumption) ?_
          try simp only [Act.put, List.setIfInBounds_toArray, List.set_cons_zero, List.set_cons_succ]
          refine wpAnyH_take (i := 1) (oi := { dst := some 66, op := _, type := _, pos := _, after := _, guard := _ }) (v := (.agg #[.slice (some ⟨gu, 0, none⟩) Q.length cu'])) rfl (by kernel_rfl) (by kernel_rfl) (by kernel_rfl) (fun _ _ _ h => h) (Or.inl ⟨by rfl, fun w9 hS9 => by (obtain ⟨h9, h8⟩ := hS9; go_simp; try with_reducible rfl)⟩) (by assumption) ?_
          try simp only [Act.put, List.setIfInBounds_toArray, List.set_cons_zero, List.set_cons_succ]
          refine wpAnyH_take (i := 2) (oi := { dst := some 67, op := _, type := _, pos := _, after := _, guard := _ }) (v := (.int .i64 z2')) rfl (by kernel_rfl) (by kernel_rfl) (by kernel_rfl) (fun _ _ _ h => h) (Or.inl ⟨by rfl, fun w9 hS9 => by (clear hS9; go_simp; try with_reducible rfl)⟩) (by assumption) ?_
          try simp only [Act.put, List.setIfInBounds_toArray, List.set_cons_zero, List.set_cons_succ]
          have F := hd9 (Dd.out.fin DD.out HRD.out)
          have hdk := DD.out.ak
          have hdB := DD.out.aB
          have hdT := DD.out.aT
          have hdR := DD.out.aR
          have S0 := hd9 (Dd.out.r0.set 0 (.slice av ns.length cv))
          have S1 := hd9 (Dd.out.r1.tch (tch_set9 wd W.heap.size 0 (.slice av ns.length cv)) (by omega))
          have T0 := hd9 (Dd.out.t.tch (tch_set9 wd W.heap.size 0 (.slice av ns.length cv)) (by omega))
          have Q0 := hd9 (Dd.out.q.tch (tch_set9 wd W.heap.size 0 (.slice av ns.length cv)) (by omega))
          refine wpAnyH_ready (rs := [3]) (by kernel_rfl) (by simp) ?_
          refine AllReadyH.cons (o := { dst := none, op := _, type := _, pos := _, after := _, guard := _ }) rfl (fun K hK => ?_) AllReadyH.nil
          have y0 := Dd.out.r0.cl 0 _ rfl
          have y1 := Dd.out.r0.fz 0
          go_simp
          refine hK.out _ _ ⟨T0.out.cl 0 _ rfl, Q0.out.cl 0 _ rfl⟩ (fun hx9 => ?_)
          clear hK K hHeld y0 y1
          have hHeld := hx9
          clear hx9
          try simp only [Act.put, List.setIfInBounds_toArray, List.set_cons_zero, List.set_cons_succ]
          refine wpAnyH_ready (rs := [4]) (by kernel_rfl) (by simp) ?_
          refine AllReadyH.cons (o := { dst := none, op := _, type := _, pos := _, after := _, guard := _ }) rfl (fun K hK => ?_) AllReadyH.nil
          have y0 := S1.out.cl 0 _ rfl
          have y1 := S1.out.fz 0
          go_simp
          have S2 := hd9 (S1.out.set 0 (.slice (some ⟨gu, 0, none⟩) Q.length cu'))
          have S3 := hd9 (S0.out.tch (tch_set9 _ (W.heap.size + 1) 0 (.slice (some ⟨gu, 0, none⟩) Q.length cu')) (by omega))
          refine hK.out _ _ ⟨(T0.out.tch (tch_set9 _ (W.heap.size + 1) 0 (.slice (some ⟨gu, 0, none⟩) Q.length cu')) (by omega)).cl 0 _ rfl, (Q0.out.tch (tch_set9 _ (W.heap.size + 1) 0 (.slice (some ⟨gu, 0, none⟩) Q.length cu')) (by omega)).cl 0 _ rfl⟩ (fun hx9 => ?_)
          clear hK K hHeld y0 y1
          have hHeld := hx9
          clear hx9
          try simp only [Act.put, List.setIfInBounds_toArray, List.set_cons_zero, List.set_cons_succ]
          refine wpAnyH_take (i := 5) (oi := { dst := some 4, op := _, type := _, pos := _, after := _, guard := _ }) (v := (.int .i64 z2')) rfl (by kernel_rfl) (by kernel_rfl) (by kernel_rfl) (fun _ _ _ h => h) (Or.inl ⟨by rfl, fun w9 hS9 => by (clear hS9; go_simp; try with_reducible rfl)⟩) (by assumption) ?_
          try simp only [Act.put, List.setIfInBounds_toArray, List.set_cons_zero, List.set_cons_succ]
          refine wpAnyH_done (by kernel_rfl) ?_ _
          clear hHeld Dd S0 S1 T0 Q0
          have x0 := S3.out.cl 0 _ rfl
          have x1 := S2.out.cl 0 _ rfl
          clear S2 S3
          have h9 := HR9.out
          clear HR9 HRES
          subst h9
          go_wp2
          exact bodyPost_ret (v := .tuple #[.agg #[.slice av ns.length cv], .agg #[.slice (some ⟨gu, 0, none⟩) Q.length cu'], .int .i64 z2']) (by simp [results, Tryz.results6, go_sem, x0, x1]) rfl ⟨_, _, rfl, F.out.1, F.out.2.1, F.out.2.2, hnk.out⟩
    · have hkI : ¬ (kk : Int) = 3 := by omega
      go_wp2_with fail
      go_meet
      exact ⟨D3, hk0⟩
  case rest =>
  obtain ⟨D4, hk3⟩ := hcut
  clear D3
  go_upto_if 69 with fail
  generalize hw9 : wc = wq at *
  clear hw9
  go_cut [] from 68 to 73 (fun wx => ∃ (o' : Op5) (s' : Sr), Hid (DP W w2 k w1.heap.size TB RB OB (.slice av ns.length cv) (.slice (some ⟨g, 0, none⟩) os.length cu) os o' s' wx) ∧ Hid ((o', s') = if kk = 4 then ({ oAt os i with kind := ((s6.next 7).1 : Int) - 1 }, (s6.next 7).2) else ((oAt os i), s6)))
  case first =>
    by_cases hk0 : kk = 4
    · subst hk0
      have hl2 := s6.next_lt 7 (by omega)
      go_wp2_with fail
      refine (next_x wq k w1.heap.size 7 s6 D4.out.src (by omega)).mono ?_
      rintro e wa ⟨rfl, sa, ta⟩
      have Da := hd9 (D4.out.next DD.out sa ta)
      clear sa ta
      have y0 := Da.out.b.cl 0 _ rfl
      have y1 := Da.out.b.fz 0
      have y2 := Da.out.b.lt
      have Db := hd9 (Da.out.setO DD.out 0 (.int .i64 (((s6.next 7).1 : Int) - 1)) ({ oAt os i with kind := ((s6.next 7).1 : Int) - 1 }) rfl)
      go_wp2_with fail
      go_meet
      exact ⟨_, _, Db, (by show _ = _; rw [if_pos trivial])⟩
    · have hkI : ¬ (kk : Int) = 4 := by omega
      go_wp2_with fail
      go_meet
      exact ⟨_, _, D4, (by show _ = _; rw [if_neg hk0])⟩
  case rest =>
  obtain ⟨o5, s7, D5, E4⟩ := hcut
  clear D4
  go_upto_if 75 with fail
  generalize hw9 : wc = wq at *
  clear hw9
  go_cut [] from 74 to 79 (fun wx => ∃ (o' : Op5) (s' : Sr), Hid (DP W w2 k w1.heap.size TB RB OB (.slice av ns.length cv) (.slice (some ⟨g, 0, none⟩) os.length cu) os o' s' wx) ∧ Hid ((o', s') = if kk = 5 then ({ o5 with ver := -2 + ((s7.next 3).1 : Int) }, (s7.next 3).2) else (o5, s7)))
  case first =>
    by_cases hk0 : kk = 5
    · subst hk0
      have hl2 := s7.next_lt 3 (by omega)
      go_wp2_with fail
      refine (next_x wq k w1.heap.size 3 s7 D5.out.src (by omega)).mono ?_
      rintro e wa ⟨rfl, sa, ta⟩
      have Da := hd9 (D5.out.next DD.out sa ta)
      clear sa ta
      have y0 := Da.out.b.cl 3 _ rfl
      have y1 := Da.out.b.fz 3
      have y2 := Da.out.b.lt
      have Db := hd9 (Da.out.setO DD.out 3 (.int .i64 (-2 + ((s7.next 3).1 : Int))) ({ o5 with ver := -2 + ((s7.next 3).1 : Int) }) rfl)
      go_wp2_with fail
      go_meet
      exact ⟨_, _, Db, (by show _ = _; rw [if_pos trivial])⟩
    · have hkI : ¬ (kk : Int) = 5 := by omega
      go_wp2_with fail
      go_meet
      exact ⟨_, _, D5, (by show _ = _; rw [if_neg hk0])⟩
  case rest =>
  obtain ⟨o6, s8, D6, E5⟩ := hcut
  clear D5
  go_upto_if 81 with fail
  generalize hw9 : wc = wq at *
  clear hw9
  go_cut [] from 80 to 82 (fun wx => ∃ (o' : Op5) (s' : Sr), Hid (DP W w2 k w1.heap.size TB RB OB (.slice av ns.length cv) (.slice (some ⟨g, 0, none⟩) os.length cu) os o' s' wx) ∧ Hid ((o', s') = if kk = 6 then ({ o6 with seq := true }, s8) else (o6, s8)))
  case first =>
    by_cases hk0 : kk = 6
    · subst hk0
      have Da := D6
      have y0 := Da.out.b.cl 4 _ rfl
      have y1 := Da.out.b.fz 4
      have y2 := Da.out.b.lt
      have Db := hd9 (Da.out.setO DD.out 4 (.bool true) ({ o6 with seq := true }) rfl)
      go_wp2_with fail
      go_meet
      exact ⟨_, _, Db, (by show _ = _; rw [if_pos trivial])⟩
    · have hkI : ¬ (kk : Int) = 6 := by omega
      go_wp2_with fail
      go_meet
      exact ⟨_, _, D6, (by show _ = _; rw [if_neg hk0])⟩
  case rest =>
  obtain ⟨o7, s9, D7, E6⟩ := hcut
  clear D6
  go_upto_if 84 with fail
  generalize hw9 : wc = wq at *
  clear hw9
  go_cut [] from 83 to 88 (fun wx => ∃ (o' : Op5) (s' : Sr), Hid (DP W w2 k w1.heap.size TB RB OB (.slice av ns.length cv) (.slice (some ⟨g, 0, none⟩) os.length cu) os o' s' wx) ∧ Hid ((o', s') = if kk = 7 then ({ o7 with data := strOfNums (s9.bytes 65).1 }, (s9.bytes 65).2) else (o7, s9)))
  case first =>
    by_cases hk0 : kk = 7
    · subst hk0
      have CB := bytes_x wq k w1.heap.size 65 s9 D7.out.src (by omega)
      generalize s9.bytes 65 = bq at *
      go_wp2_with fail
      refine CB.mono ?_
      rintro e wa ⟨v6, rfl, o9, sa, ta⟩
      clear CB
      have hcv := conv_any o9.rd
      obtain ⟨a6, c6, rfl, -⟩ := o9.rd.len
      have Da := hd9 (D7.out.next DD.out sa ta)
      clear sa ta o9
      have y0 := Da.out.b.cl 2 _ rfl
      have y1 := Da.out.b.fz 2
      have y2 := Da.out.b.lt
      have Db := hd9 (Da.out.setO DD.out 2 (.string (strOfNums bq.1)) { o7 with data := strOfNums bq.1 } rfl)
      go_wp2_with fail
      go_meet
      exact ⟨_, _, Db, (by show _ = _; rw [if_pos trivial])⟩
    · have hkI : ¬ (kk : Int) = 7 := by omega
      go_wp2_with fail
      go_meet
      exact ⟨_, _, D7, (by show _ = _; rw [if_neg hk0])⟩
  case rest =>
  obtain ⟨o8, s10, D8, E7⟩ := hcut
  clear D7
  go_upto_if 90 with fail
  generalize hw9 : wc = wq at *
  clear hw9
  go_cut [] from 89 to 91 (fun wx => ∃ (o' : Op5) (s' : Sr), Hid (DP W w2 k w1.heap.size TB RB OB (.slice av ns.length cv) (.slice (some ⟨g, 0, none⟩) os.length cu) os o' s' wx) ∧ Hid ((o', s') = if kk = 8 then ({ o8 with path := ⟨#[47]⟩ }, s10) else (o8, s10)))
  case first =>
    by_cases hk0 : kk = 8
    · subst hk0
      have Da := D8
      have y0 := Da.out.b.cl 1 _ rfl
      have y1 := Da.out.b.fz 1
      have y2 := Da.out.b.lt
      have Db := hd9 (Da.out.setO DD.out 1 (.string ⟨#[47]⟩) ({ o8 with path := ⟨#[47]⟩ }) rfl)
      go_wp2_with fail
      go_meet
      exact ⟨_, _, Db, (by show _ = _; rw [if_pos trivial])⟩
    · have hkI : ¬ (kk : Int) = 8 := by omega
      go_wp2_with fail
      go_meet
      exact ⟨_, _, D8, (by show _ = _; rw [if_neg hk0])⟩
  case rest =>
  obtain ⟨o9, s11, D9, E8⟩ := hcut
  clear D8
  go_upto_if 93 with fail
  generalize hw9 : wc = wq at *
  clear hw9
  go_cut [] from 92 to 104 (fun wx => ∃ (o' : Op5) (s' : Sr), Hid (DP W w2 k w1.heap.size TB RB OB (.slice av ns.length cv) (.slice (some ⟨g, 0, none⟩) os.length cu) os o' s' wx) ∧ Hid ((o', s') = if kk = 9 then (⟨1, abcP (s11.next 2).1, o9.data, 0, true⟩, (s11.next 2).2) else (o9, s11)))
  case first =>
    by_cases hk0 : kk = 9
    · subst hk0
      have hl2 := s11.next_lt 2 (by omega)
      go_wp2_with fail
      refine (next_x wq k w1.heap.size 2 s11 D9.out.src (by omega)).mono ?_
      rintro e wa ⟨rfl, sa, ta⟩
      have Da := hd9 (D9.out.next DD.out sa ta)
      clear sa ta
      have hcv := conv_any (rd_one wa (97 + (s11.next 2).1))
      rw [strOf_one, show ((97 + (s11.next 2).1 : Nat) : Int) = 97 + ((s11.next 2).1 : Int) by omega] at hcv
      have Db := hd9 ((Da.out.setO DD.out 1 (.string (abcP (s11.next 2).1)) { o9 with path := abcP (s11.next 2).1 } rfl).below DD.out ((Below.refl _ _).alloc (Nat.le_refl _) (.cells #[.int .u8 (97 + ((s11.next 2).1 : Int))] 5)))
      unfold abcP at Db
      have y1 := Da.out.b.cl 1 _ rfl
      have x1 := Da.out.b.fz 1
      have hOBl := Da.out.b.lt
      have hOBn : OB ≠ wa.heap.size := by omega
      go_upto_region 32 with fail
      clear y1 x1 hOBl hOBn hcv Da
      generalize (wa.setCell ⟨OB, 1, none⟩ (.string _)).alloc (.cells #[.int .u8 (97 + ((s11.next 2).1 : Int))] 5) = wb at *
      have y0 := Db.out.b.cl 0 _ rfl
      have y3 := Db.out.b.cl 3 _ rfl
      have y4 := Db.out.b.cl 4 _ rfl
      have x0 := Db.out.b.fz 0
      have x3 := Db.out.b.fz 3
      have x4 := Db.out.b.fz 4
      have hOBl := Db.out.b.lt
      have Dc := hd9 (((Db.out.setO DD.out 0 (.int .i64 1) { o9 with path := abcP (s11.next 2).1, kind := 1 } rfl).setO DD.out 3 (.int .i64 0) { o9 with path := abcP (s11.next 2).1, kind := 1, ver := 0 } rfl).setO DD.out 4 (.bool true) ⟨1, abcP (s11.next 2).1, o9.data, 0, true⟩ rfl)
      clear Db
      go_wp2_with fail
      go_meet
      exact ⟨_, _, Dc, (by show _ = _; rw [if_pos trivial])⟩
    · have hkI : ¬ (kk : Int) = 9 := by omega
      go_wp2_with fail
      go_meet
      exact ⟨_, _, D9, (by show _ = _; rw [if_neg hk0])⟩
  case rest =>
  obtain ⟨o10, s12, D10, E9⟩ := hcut
  clear D9
  go_upto_if 106 with fail
  generalize hw9 : wc = wq at *
  clear hw9
  go_cut [] from 105 to 110 (fun wx => ∃ (o' : Op5) (s' : Sr), Hid (DP W w2 k w1.heap.size TB RB OB (.slice av ns.length cv) (.slice (some ⟨g, 0, none⟩) os.length cu) os o' s' wx) ∧ Hid ((o', s') = if kk = 10 then ({ o10 with ver := 2147483647 + ((s12.next 2).1 : Int) }, (s12.next 2).2) else (o10, s12)))
  case first =>
    by_cases hk0 : kk = 10
    · subst hk0
      have hl2 := s12.next_lt 2 (by omega)
      go_wp2_with fail
      refine (next_x wq k w1.heap.size 2 s12 D10.out.src (by omega)).mono ?_
      rintro e wa ⟨rfl, sa, ta⟩
      have Da := hd9 (D10.out.next DD.out sa ta)
      clear sa ta
      have y0 := Da.out.b.cl 3 _ rfl
      have y1 := Da.out.b.fz 3
      have y2 := Da.out.b.lt
      have Db := hd9 (Da.out.setO DD.out 3 (.int .i64 (2147483647 + ((s12.next 2).1 : Int))) ({ o10 with ver := 2147483647 + ((s12.next 2).1 : Int) }) rfl)
      go_wp2_with fail
      go_meet
      exact ⟨_, _, Db, (by show _ = _; rw [if_pos trivial])⟩
    · have hkI : ¬ (kk : Int) = 10 := by omega
      go_wp2_with fail
      go_meet
      exact ⟨_, _, D10, (by show _ = _; rw [if_neg hk0])⟩
  case rest =>
  obtain ⟨o11, s13, D11, E10⟩ := hcut
  clear D10
  generalize hw9 : wc = wq at *
  clear hw9
  have hgn := World.ownsRow.lt D11.out.own g rfl
  have hcell : ∀ j, j < 5 → ∃ x, wq.cell? ⟨g, i * 5 + j, none⟩ = some x := fun j hj => by
    have hh := orow_get os i j hil hj
    obtain ⟨u9, hu9⟩ : ∃ u9, (opL (oAt os i))[j]? = some u9 := ⟨_, List.getElem?_eq_getElem (by show j < 5; exact hj)⟩
    rw [hu9] at hh
    have := World.ownsRow.cells D11.out.own (g := g) rfl (i * 5 + j) _ hh
    rw [Addr.add_lit, Nat.zero_add] at this
    exact ⟨_, this⟩
  obtain ⟨v0, e0⟩ := hcell 0 (by omega)
  obtain ⟨v1, e1⟩ := hcell 1 (by omega)
  obtain ⟨v2, e2⟩ := hcell 2 (by omega)
  obtain ⟨v3, e3⟩ := hcell 3 (by omega)
  obtain ⟨v4, e4⟩ := hcell 4 (by omega)
  rw [Nat.add_zero] at e0
  clear hcell
  have f0 := World.ownsRow.frozenAt D11.out.own (i * 5)
  have f1 := World.ownsRow.frozenAt D11.out.own (i * 5 + 1)
  have f2 := World.ownsRow.frozenAt D11.out.own (i * 5 + 2)
  have f3 := World.ownsRow.frozenAt D11.out.own (i * 5 + 3)
  have f4 := World.ownsRow.frozenAt D11.out.own (i * 5 + 4)
  have b0 := D11.out.b.cl 0 _ rfl
  have b1 := D11.out.b.cl 1 _ rfl
  have b2 := D11.out.b.cl 2 _ rfl
  have b3 := D11.out.b.cl 3 _ rfl
  have b4 := D11.out.b.cl 4 _ rfl
  have q0 := D11.out.q.cl 0 _ rfl
  have DU := hd9 (D11.out.putU DD.out i hil)
  go_upto_region 38 with fail
  clear e0 e1 e2 e3 e4 f0 f1 f2 f3 f4 b0 b1 b2 b3 b4 q0 D11
  generalize ((((wq.setCell _ _).setCell _ _).setCell _ _).setCell _ _).setCell _ _ = w14 at *
  have bD : Below w14.heap.size w14 w14.drew := below_drewN' w14 1
  have Dd := hd9 (DU.out.below DD.out bD)
  refine wp_region_held_drew (S := fun w9 => w9.cell? ⟨TB, 0, none⟩ = some (.slice av ns.length cv) ∧ w9.cell? ⟨RB, 0, none⟩ = some (.slice (some ⟨g, 0, none⟩) os.length cu)) (by kernel_rfl) ⟨Dd.out.t.cl 0 _ rfl, Dd.out.q.cl 0 _ rfl⟩ (fun hHeld => ?_)
  clear bD DU
  generalize w14.drew = wd at *
  refine wpAnyH_take (i := 0) (oi := { dst := some 116, op := _, type := _, pos := _, after := _, guard := _ }) (v := (.agg #[.slice av ns.length cv])) rfl (by kernel_rfl) (by kernel_rfl) (by kernel_rfl) (fun _ _ _ h => h) (Or.inl ⟨by rfl, fun w9 hS9 => by (obtain ⟨h9, h8⟩ := hS9; go_simp; try with_reducible rfl)⟩) (by assumption) ?_
  try simp only [Act.put, List.setIfInBounds_toArray, List.set_cons_zero, List.set_cons_succ]
  refine wpAnyH_take (i := 1) (oi := { dst := some 117, op := _, type := _, pos := _, after := _, guard := _ }) (v := (.agg #[.slice (some ⟨g, 0, none⟩) os.length cu])) rfl (by kernel_rfl) (by kernel_rfl) (by kernel_rfl) (fun _ _ _ h => h) (Or.inl ⟨by rfl, fun w9 hS9 => by (obtain ⟨h9, h8⟩ := hS9; go_simp; try with_reducible rfl)⟩) (by assumption) ?_
  try simp only [Act.put, List.setIfInBounds_toArray, List.set_cons_zero, List.set_cons_succ]
  refine wpAnyH_take (i := 2) (oi := { dst := some 118, op := _, type := _, pos := _, after := _, guard := _ }) (v := (.int .i64 z2')) rfl (by kernel_rfl) (by kernel_rfl) (by kernel_rfl) (fun _ _ _ h => h) (Or.inl ⟨by rfl, fun w9 hS9 => by (clear hS9; go_simp; try with_reducible rfl)⟩) (by assumption) ?_
  try simp only [Act.put, List.setIfInBounds_toArray, List.set_cons_zero, List.set_cons_succ]
  have F := hd9 (Dd.out.fin DD.out HRD.out)
  have hdk := DD.out.ak
  have hdB := DD.out.aB
  have hdT := DD.out.aT
  have hdR := DD.out.aR
  have S0 := hd9 (Dd.out.r0.set 0 (.slice av ns.length cv))
  have S1 := hd9 (Dd.out.r1.tch (tch_set9 wd W.heap.size 0 (.slice av ns.length cv)) (by omega))
  have T0 := hd9 (Dd.out.t.tch (tch_set9 wd W.heap.size 0 (.slice av ns.length cv)) (by omega))
  have Q0 := hd9 (Dd.out.q.tch (tch_set9 wd W.heap.size 0 (.slice av ns.length cv)) (by omega))
  refine wpAnyH_ready (rs := [3]) (by kernel_rfl) (by simp) ?_
  refine AllReadyH.cons (o := { dst := none, op := _, type := _, pos := _, after := _, guard := _ }) rfl (fun K hK => ?_) AllReadyH.nil
  have y0 := Dd.out.r0.cl 0 _ rfl
  have y1 := Dd.out.r0.fz 0
  go_simp
  refine hK.out _ _ ⟨T0.out.cl 0 _ rfl, Q0.out.cl 0 _ rfl⟩ (fun hx9 => ?_)
  clear hK K hHeld y0 y1
  have hHeld := hx9
  clear hx9
  try simp only [Act.put, List.setIfInBounds_toArray, List.set_cons_zero, List.set_cons_succ]
  refine wpAnyH_ready (rs := [4]) (by kernel_rfl) (by simp) ?_
  refine AllReadyH.cons (o := { dst := none, op := _, type := _, pos := _, after := _, guard := _ }) rfl (fun K hK => ?_) AllReadyH.nil
  have y0 := S1.out.cl 0 _ rfl
  have y1 := S1.out.fz 0
  go_simp
  have S2 := hd9 (S1.out.set 0 (.slice (some ⟨g, 0, none⟩) os.length cu))
  have S3 := hd9 (S0.out.tch (tch_set9 _ (W.heap.size + 1) 0 (.slice (some ⟨g, 0, none⟩) os.length cu)) (by omega))
  refine hK.out _ _ ⟨(T0.out.tch (tch_set9 _ (W.heap.size + 1) 0 (.slice (some ⟨g, 0, none⟩) os.length cu)) (by omega)).cl 0 _ rfl, (Q0.out.tch (tch_set9 _ (W.heap.size + 1) 0 (.slice (some ⟨g, 0, none⟩) os.length cu)) (by omega)).cl 0 _ rfl⟩ (fun hx9 => ?_)
  clear hK K hHeld y0 y1
  have hHeld := hx9
  clear hx9
  try simp only [Act.put, List.setIfInBounds_toArray, List.set_cons_zero, List.set_cons_succ]
  refine wpAnyH_take (i := 5) (oi := { dst := some 4, op := _, type := _, pos := _, after := _, guard := _ }) (v := (.int .i64 z2')) rfl (by kernel_rfl) (by kernel_rfl) (by kernel_rfl) (fun _ _ _ h => h) (Or.inl ⟨by rfl, fun w9 hS9 => by (clear hS9; go_simp; try with_reducible rfl)⟩) (by assumption) ?_
  try simp only [Act.put, List.setIfInBounds_toArray, List.set_cons_zero, List.set_cons_succ]
  refine wpAnyH_done (by kernel_rfl) ?_ _
  clear hHeld Dd S0 S1 T0 Q0
  have x0 := S3.out.cl 0 _ rfl
  have x1 := S2.out.cl 0 _ rfl
  clear S2 S3
  have HR9 : Hid ((ns, os.set i o11, z2') = RES) := by
    have a := HRES.out
    rw [← prpK_steps E0.out E1.out hk2.out hk3.out E4.out E5.out E6.out E7.out E8.out E9.out E10.out] at a
    exact a
  clear E0 E1 E4 E5 E6 E7 E8 E9 E10 hk2 hk3
  have h9 := HR9.out
  clear HR9 HRES
  subst h9
  go_wp2
  exact bodyPost_ret (v := .tuple #[.agg #[.slice av ns.length cv], .agg #[.slice (some ⟨g, 0, none⟩) os.length cu], .int .i64 z2']) (by simp [results, Tryz.results6, go_sem, x0, x1]) rfl ⟨_, _, rfl, F.out.1, F.out.2.1, F.out.2.2, hnk.out⟩


set_option maxHeartbeats 2000000 in
set_option maxRecDepth 100000 in
theorem sameTree_yes (w : World) (va vb : Value) (ns : List Nd) (ha : RdN w va ns) (hb : RdN w vb ns) (hn : ns.length ≤ 1048576) :
    Calls Tryz.prog 14 #[.agg #[va], .agg #[vb]] w fun e w' => e = .returned (.bool true) ∧ Below w.heap.size w w' := by
  obtain ⟨ao, ca, rfl, _, _⟩ := ha.len
  obtain ⟨bo, cb, rfl, _, _⟩ := hb.len
  have HA : Hid (RdN w (.slice ao ns.length ca) ns) := ha
  have HB : Hid (RdN w (.slice bo ns.length cb) ns) := hb
  have B0 : Hid (Below w.heap.size w ((w.alloc (.cells #[.slice ao ns.length ca] 25)).alloc (.cells #[.slice bo ns.length cb] 25))) := ((Below.refl _ _).alloc (Nat.le_refl _) _).alloc (by simp) _
  have c0 : Hid (((w.alloc (.cells #[.slice ao ns.length ca] 25)).alloc (.cells #[.slice bo ns.length cb] 25)).cell? ⟨w.heap.size, 0, none⟩ = some (.slice ao ns.length ca)) := by show _ = _; go_simp
  have c1 : Hid (((w.alloc (.cells #[.slice ao ns.length ca] 25)).alloc (.cells #[.slice bo ns.length cb] 25)).cell? ⟨w.heap.size + 1, 0, none⟩ = some (.slice bo ns.length cb)) := by show _ = _; go_simp
  have hs : Hid (((w.alloc (.cells #[.slice ao ns.length ca] 25)).alloc (.cells #[.slice bo ns.length cb] 25)).heap.size = w.heap.size + 2) := by show _ = _; simp
  clear ha hb
  have HAT : Hid (∀ W, Below w.heap.size w W → ∀ (ao : Option Addr) (c : Nat), RdN w (.slice ao ns.length c) ns → ∀ i, i < ns.length → ∃ b o, ao = some ⟨b, o, none⟩ ∧ CellsN W b (o + i * 7) (nAt ns i)) := by
    intro W hW ao c hr i hi
    obtain ⟨ao', c', e', -, -, h3⟩ := hr.below hW
    simp only [Value.slice.injEq] at e'
    obtain ⟨rfl, -, -⟩ := e'
    rcases h3 with h3 | ⟨b, o, rfl, -, hc⟩
    · rw [h3] at hi; simp at hi
    · exact ⟨b, o, rfl, hc i hi⟩
  have d0 := c0.out
  have d1 := c1.out
  go_enter Tryz.func14, Tryz.ntmps14
  go_wp2
  clear d0 d1
  generalize (w.alloc (.cells #[.slice ao ns.length ca] 25)).alloc (.cells #[.slice bo ns.length cb] 25) = w0 at *
  go_loopw [5] (fun i wr => ∃ j : Nat, j ≤ ns.length ∧ i = .int .i64 j ∧ Hid (Below w0.heap.size w0 wr)) (fun i _ => ns.length - (intOf i).toNat)
  case atStart => exact ⟨0, Nat.zero_le _, rfl, Below.refl _ _⟩
  case round =>
    obtain ⟨j, hj, rfl, BK⟩ := hrel
    have d0 := (BK.out.cell (p := ⟨w.heap.size, 0, none⟩) (by rw [hs.out]; show w.heap.size < _; omega)).trans c0.out
    have d1 := (BK.out.cell (p := ⟨w.heap.size + 1, 0, none⟩) (by rw [hs.out]; show w.heap.size + 1 < _; omega)).trans c1.out
    have bW : Below w.heap.size w wr := B0.out.trans (BK.out.mono (by rw [hs.out]; omega))
    by_cases hlt : j < ns.length
    · have hltI : (j : Int) < (ns.length : Int) := by omega
      obtain ⟨b, o, rfl, hc⟩ := HAT.out wr bW ao ca HA.out j hlt
      obtain ⟨b', o', rfl, hc'⟩ := HAT.out wr bW bo cb HB.out j hlt
      obtain ⟨a0, a1, a2, a3, a4, a5, a6⟩ := hc
      obtain ⟨e0, e1, e2, e3, e4, e5, e6⟩ := hc'
      generalize nAt ns j = m at *
      have BD : Hid (∀ q, Below w0.heap.size w0 (wr.drewN q)) := fun q => BK.out.trans ((below_drewN' wr q).mono BK.out.size)
      clear bW
      go_wp2
      go_quiet (fail)
      go_wp2
      go_roundw
      case rel => exact ⟨j + 1, by omega, by go_num, BD.out _⟩
      case measure => simp [intOf]; omega
    · go_wp2
      go_ret
      exact ⟨rfl, bW⟩


/-- The rows at the start. -/
theorem F1.start {W : World} {a : Option Addr} {n c : Nat} {T : List Nd} (h : RdN W (.slice a n c) T) (h0 : 0 < T.length) : F1 W.heap.size (.slice (some ⟨W.heap.size, 0, none⟩) 1 1) (.slice (some ⟨W.heap.size + 1, 0, none⟩) 0 0) [.slice a n c] [] [T] [] ((W.alloc (.cells #[.slice a n c] 25)).alloc (.cells #[] 28)) := by
  have b1 : Below W.heap.size W ((W.alloc (.cells #[.slice a n c] 25)).alloc (.cells #[] 28)) := ((Below.refl _ _).alloc (Nat.le_refl _) _).alloc (by simp) _
  refine ⟨(World.ownsRow_lit W #[.slice a n c] 1 (Nat.le_refl _) (by decide) rfl).alloc _, ?_, fun i hi => ?_, fun i hi => by simp at hi⟩
  · have := World.ownsRow_lit (base := W.heap.size) (e := 28) (size := 1) (W.alloc (.cells #[.slice a n c] 25)) #[] 0 (by simp) (by decide) rfl
    simpa using this
  · have h0 : i = 0 := by simp at hi; omega
    subst h0
    refine ⟨h.below b1, fun x m k e => ?_⟩
    obtain ⟨ao, cap, e2, -, -, h3⟩ := h
    cases e2
    have e' : a = some x := by
      have : (Value.slice a T.length c) = .slice (some x) m k := e
      injection this
    subst e'
    rcases h3 with h3 | ⟨b, off, e3, hlt, -⟩
    · rw [h3] at h0; simp at h0
    · injection e3 with e3
      subst e3
      exact ⟨Nat.lt_of_lt_of_le hlt b1.size, .inl hlt⟩

/-- A tree of the row. -/
theorem F1.tree {lo : Nat} {vr : Value} {gt n ct : Nat} {ut ur : List Value} {Ts : List (List Nd)} {Rs : List (List Op5)} {W : World} (h : F1 lo (.slice (some ⟨gt, 0, none⟩) n ct) vr ut ur Ts Rs W) {r : Nat} (hr : r < Ts.length) : ∃ ax cx, ut.getD r (.slice none 0 0) = .slice ax (Ts.getD r []).length cx ∧ W.cell? ⟨gt, r, none⟩ = some (.slice ax (Ts.getD r []).length cx) ∧ RdN W (.slice ax (Ts.getD r []).length cx) (Ts.getD r []) := by
  obtain ⟨g, cap, e, -, -, -, -, h9⟩ := h.cellT (by omega)
  injection e with e1 e2 e3
  injection e1 with e1
  injection e1 with e1
  subst e1
  have h8 := (h.tr r hr).1
  obtain ⟨ax, cx, hx, -, -⟩ := h8.len
  have h7 := h9 r hr
  rw [hx] at h7 h8
  exact ⟨ax, cx, hx, h7, h8⟩
theorem F1.tree2 {lo : Nat} {vr : Value} {gt n ct : Nat} {ut ur : List Value} {Ts : List (List Nd)} {Rs : List (List Op5)} {W : World} (h : F1 lo (.slice (some ⟨gt, 0, none⟩) n ct) vr ut ur Ts Rs W) {r : Nat} (hr : r < Ts.length) {ax : Option Addr} {cx : Nat} (hx : ut.getD r (.slice none 0 0) = .slice ax (Ts.getD r []).length cx) : W.cell? ⟨gt, r, none⟩ = some (.slice ax (Ts.getD r []).length cx) ∧ RdN W (.slice ax (Ts.getD r []).length cx) (Ts.getD r []) := by
  obtain ⟨ax', cx', hx', h7, h8⟩ := h.tree hr
  rw [hx] at hx'
  injection hx' with e1 e2 e3
  subst e1 e3
  exact ⟨h7, h8⟩
/-- A request of the row. -/
theorem F1.req {lo : Nat} {vt : Value} {ar : Option Addr} {n cr : Nat} {ut ur : List Value} {Ts : List (List Nd)} {Rs : List (List Op5)} {W : World} (h : F1 lo vt (.slice ar n cr) ut ur Ts Rs W) {r : Nat} (hr : r < Rs.length) : ∃ gr ax cx, ar = some ⟨gr, 0, none⟩ ∧ ur.getD r (.slice none 0 0) = .slice ax (Rs.getD r []).length cx := by
  obtain ⟨g, cap, e, -, -, -, -, h9⟩ := h.cellR (by omega)
  injection e with e1 e2 e3
  have h8 := (h.rr r hr).1
  obtain ⟨ax, cx, hx, -, -⟩ := h8.len
  exact ⟨g, ax, cx, e1, hx⟩
theorem F1.req2 {lo : Nat} {vt : Value} {gr n cr : Nat} {ut ur : List Value} {Ts : List (List Nd)} {Rs : List (List Op5)} {W : World} (h : F1 lo vt (.slice (some ⟨gr, 0, none⟩) n cr) ut ur Ts Rs W) {r : Nat} (hr : r < Rs.length) {ax : Option Addr} {cx : Nat} (hx : ur.getD r (.slice none 0 0) = .slice ax (Rs.getD r []).length cx) : W.cell? ⟨gr, r, none⟩ = some (.slice ax (Rs.getD r []).length cx) ∧ RdO W (.slice ax (Rs.getD r []).length cx) (Rs.getD r []) := by
  obtain ⟨g, cap, e, -, -, -, -, h9⟩ := h.cellR (by omega)
  injection e with e1 e2 e3
  injection e1 with e1
  injection e1 with e1
  subst e1
  have h8 := (h.rr r hr).1
  have h7 := h9 r hr
  rw [hx] at h7 h8
  exact ⟨h7, h8⟩
/-- The tree that is picked, in its box. -/
structure Pk (XB : Nat) (vp : Value) (P : List Nd) (W : World) : Prop where
  box : Boxed W XB 25 vp
  rd : RdN W vp P
theorem Pk.later {XB : Nat} {vp : Value} {P : List Nd} {W W' : World} (h : Pk XB vp P W) (hb : Below W.heap.size W W') : Pk XB vp P W' := ⟨boxed_below hb h.box, h.rd.below hb⟩
theorem Pk.store {XB : Nat} {vp : Value} {P : List Nd} {W : World} (h : Pk XB vp P W) {B : Nat} {x : Value} (hb : Boxed W B 25 x) (hne : B ≠ XB) (y : Value) : Pk XB vp P (W.setCell ⟨B, 0, none⟩ y) :=
  ⟨(Below.heap_setCell _ _ _ _ (fun e => hne e.symm)).trans h.box, rdN_box h.rd hb y⟩
/-- The rows, and the tree that becomes the last one in its box. -/
structure F3 (w : World) (lo FX GX : Nat) (vt vr : Value) (ut ur : List Value) (Ts : List (List Nd)) (Rs : List (List Op5)) (vg : Value) (G : List Nd) (W : World) : Prop where
  f1 : F1 lo vt vr ut ur Ts Rs W
  box : Boxed W GX 25 vg
  own : OwnN 42 W FX vg G
  bel : Below w.heap.size w W
theorem F3.later {w : World} {lo FX GX : Nat} {vt vr : Value} {ut ur : List Value} {Ts : List (List Nd)} {Rs : List (List Op5)} {vg : Value} {G : List Nd} {W W' : World} (h : F3 w lo FX GX vt vr ut ur Ts Rs vg G W) (hb : Below W.heap.size W W') : F3 w lo FX GX vt vr ut ur Ts Rs vg G W' :=
  ⟨h.f1.below hb, boxed_below hb h.box, h.own.below hb, h.bel.trans (hb.mono h.bel.size)⟩
theorem own_box {W : World} {B FX : Nat} {x v' : Value} {F' : List Nd} (ho : OwnN 42 W FX v' F') (hbx : Boxed W B 25 x) (y : Value) : OwnN 42 (W.setCell ⟨B, 0, none⟩ y) FX v' F' := by
  have hg : W.grownBy (W.setCell ⟨B, 0, none⟩ y) (some B) := ⟨rfl, rfl, rfl, by simp, fun k _ hne => Below.heap_setCell _ _ _ _ (fun e => hne (by rw [e]))⟩
  refine World.ownsRow.kept ho hg ?_
  rcases ho.2 with ⟨rfl, -⟩ | ⟨g, cap, cur, rfl, -, hgg, -⟩
  · exact .inl rfl
  · refine .inr fun e => ?_
    simp only [Value.ownBlock, Option.some.injEq] at e
    have hb : W.heap[B]? = some (.cells #[x] 25) := hbx
    rw [e, hb] at hgg
    injection hgg with hgg
    injection hgg with _ h9
    cases h9
theorem F3.store {w : World} {lo FX GX : Nat} {vt vr : Value} {ut ur : List Value} {Ts : List (List Nd)} {Rs : List (List Op5)} {vg v' : Value} {G G' : List Nd} {W : World} (h : F3 w lo FX GX vt vr ut ur Ts Rs vg G W) (hlo : lo ≤ GX) (hw : w.heap.size ≤ lo) (hB : ∀ g, vt.ownBlock = some g ∨ vr.ownBlock = some g → g < GX) (ho : OwnN 42 W FX v' G') : F3 w lo FX GX vt vr ut ur Ts Rs v' G' (W.setCell ⟨GX, 0, none⟩ v') :=
  ⟨h.f1.box (fun g e => by have := hB g e; omega) h.box (by decide) (by decide) hlo _, h.box.set _, own_box ho h.box _, h.bel.setCell (by show _ ≤ GX; omega) _⟩
theorem rdE_one9 {w : World} {g : Nat} {n : Nd} {A : Array Value} {t : TypeId} (h : w.heap[g]? = some (.cells A t (0, 0))) (hA : A = #[.bool false, .string n.path, .string n.data, .int .i64 n.ver, .int .i64 n.cver, .int .i64 n.cz, .int .i64 n.mz, .int .i64 n.pz]) : RdE w (.slice (some ⟨g, 0, none⟩) 1 1) [⟨false, n⟩] := by
  subst hA
  refine ⟨_, 1, rfl, Nat.le_refl _, by decide, .inr ⟨g, 0, rfl, (Array.getElem?_eq_some_iff.1 h).1, fun i hi => ?_⟩⟩
  have h0 : i = 0 := by simp at hi; omega
  subst h0
  exact ⟨(cell_of h _).trans rfl, (cell_of h _).trans rfl, (cell_of h _).trans rfl, (cell_of h _).trans rfl, (cell_of h _).trans rfl, (cell_of h _).trans rfl, (cell_of h _).trans rfl, (cell_of h _).trans rfl⟩

theorem Tryz.infoTr9 : (Tryz.prog.info? 25).map (fun i => (i.zero, i.size, i.bytes)) = some (some (.agg #[.slice none 0 0]), 1, 24) := by kernel_rfl
theorem Tryz.infoRq9 : (Tryz.prog.info? 28).map (fun i => (i.zero, i.size, i.bytes)) = some (some (.agg #[.slice none 0 0]), 1, 24) := by kernel_rfl
theorem boxed_grown {W W' : World} {B : Nat} {t : TypeId} {x : Value} {row : Option Nat} (h : Boxed W B t x) (hg : W.grownBy W' row) (hr : ∀ g, row = some g → g < B) : Boxed W' B t x := (hg.block B h.lt (fun e => by have := hr B e.symm; omega)).trans h
theorem st_grown {W W' : World} {B : Nat} {L : List Value} {row : Option Nat} (h : St W B L) (hg : W.grownBy W' row) (hr : ∀ g, row = some g → g < B) : St W' B L := by
  have hb := hg.block B h.lt (fun e => by have := hr B e.symm; omega)
  exact ⟨Nat.lt_of_lt_of_le h.lt hg.size, fun j => (World.frozen?_of_block (a := ⟨B, j, none⟩) hb).trans (h.fz j), fun j v hv => (World.cell?_of_block (a := ⟨B, j, none⟩) hb).trans (h.cl j v hv)⟩

theorem rdN_at9 {W : World} {b o c : Nat} {ns : List Nd} (h : RdN W (.slice (some ⟨b, o, none⟩) ns.length c) ns) {i : Nat} (hi : i < ns.length) : CellsN W b (o + i * 7) (nAt ns i) := by
  obtain ⟨ao, cap, e, -, -, h3⟩ := h
  simp only [Value.slice.injEq] at e
  obtain ⟨rfl, -, -⟩ := e
  rcases h3 with h3 | ⟨b', off', e', -, hc⟩
  · rw [h3] at hi; simp at hi
  · simp only [Option.some.injEq, Addr.mk.injEq, and_true] at e'
    obtain ⟨rfl, rfl⟩ := e'
    exact hc i hi
theorem fprep39 (x0 x1 x2 x3 x4 : Value) (W : World) : (Instr.field 37 (.agg #[x0, x1, x2, x3, x4]) 3).run Tryz.prog W = .ok (.agg #[x3, x4]) W := by kernel_rfl

end Go.Proofs.YtdiingonnddkcaaGreatDoor


