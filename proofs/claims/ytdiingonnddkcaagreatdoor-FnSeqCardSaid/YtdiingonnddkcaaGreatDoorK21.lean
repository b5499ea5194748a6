import Derived.Test.YtdiingonnddkcaaGreatDoorK20
import Derived.Deep.CutRange
import Derived.Deep.QuietTactic
import Derived.Test.YtdiingonnddkcaaGreatDoorK01
import Derived.Deep.RegionHeld
import Derived.Test.YtdiingonnddkcaaGreatDoorK10
import Derived.Test.YtdiingonnddkcaaGreatDoorK04
import Derived.Deep.RegionHeld3
namespace Go.Proofs.YtdiingonnddkcaaGreatDoor
open Go.RowKit Go.Shelf

theorem rd_fix {Wt : World} {B TB : Nat} {v : Value} {ns : List Nd} (h : RdN Wt v ns) (hl : TB = Wt.heap.size) (hb : ∀ b o n c, v = .slice (some ⟨b, o, none⟩) n c → B ≤ b) : ∀ w', (∀ j, B ≤ j → j < TB → w'.heap[j]? = Wt.heap[j]?) → RdN w' v ns := by
  intro w' hw
  obtain ⟨ao, cap, rfl, h1, h2, h3⟩ := h
  refine ⟨ao, cap, rfl, h1, h2, ?_⟩
  rcases h3 with h3 | ⟨b, off, rfl, hlt, hc⟩
  · exact .inl h3
  · have hB := hb b off _ _ rfl
    have e := hw b hB (by omega)
    refine .inr ⟨b, off, rfl, ?_, fun i hi => ?_⟩
    · have : Wt.heap[b]? = some Wt.heap[b] := Array.getElem?_eq_getElem hlt
      rw [this] at e
      exact (Array.getElem?_eq_some_iff.1 e).1
    · have q : ∀ j, w'.cell? ⟨b, j, none⟩ = Wt.cell? ⟨b, j, none⟩ := fun j => World.cell?_of_block (a := ⟨b, j, none⟩) e
      obtain ⟨c0, c1, c2, c3, c4, c5, c6⟩ := hc i hi
      exact ⟨(q _).trans c0, (q _).trans c1, (q _).trans c2, (q _).trans c3, (q _).trans c4, (q _).trans c5, (q _).trans c6⟩

set_option maxHeartbeats 8000000 in
set_option maxRecDepth 100000 in
theorem drawPrep_x (W : World) (vc : Value) (cs : List Int) (h : Rd .u8 W vc cs) (hby : Byt cs) (hn : cs.length ≤ 1048576) :
    Calls Tryz.prog 6 #[vc] W fun e w' => ∃ v u, e = .returned (.tuple #[.agg #[v], .agg #[u], .int .i64 (srcOf cs).prp.2.2]) ∧ RdN w' v (srcOf cs).prp.1 ∧ RdO w' u (srcOf cs).prp.2.1 ∧ Below W.heap.size W w' ∧ NilOk v := by
  obtain ⟨i0, hi, hz0, hz1, hz2⟩ := info_parts Tryz.infoO9
  have hs0 : (W.alloc (.cells #[.slice none 0 0] 25)).heap.size = W.heap.size + 1 := by simp
  have bA : Below W.heap.size W (W.alloc (.cells #[.slice none 0 0] 25)) := (Below.refl _ _).alloc (Nat.le_refl _) _
  have bB : Below (W.alloc (.cells #[.slice none 0 0] 25)).heap.size (W.alloc (.cells #[.slice none 0 0] 25)) ((W.alloc (.cells #[.slice none 0 0] 25)).alloc (.cells #[.slice none 0 0] 28)) := (Below.refl _ _).alloc (Nat.le_refl _) _
  have R0 := hd9 ((St.new W #[.slice none 0 0] 25).below bB)
  have R1' := St.new (W.alloc (.cells #[.slice none 0 0] 25)) #[.slice none 0 0] 28
  rw [hs0] at R1'
  have R1 := hd9 R1'
  have BR := hd9 (bA.trans (bB.mono bA.size))
  have hs : ((W.alloc (.cells #[.slice none 0 0] 25)).alloc (.cells #[.slice none 0 0] 28)).heap.size = W.heap.size + 2 := by simp
  have HR := hd9 (h.below BR.out)
  obtain ⟨ca, cc, rfl, -⟩ := h.len
  obtain ⟨RES, hRES⟩ : ∃ r, r = (srcOf cs).prp := ⟨_, rfl⟩
  rw [← hRES]
  have HRES : Hid ((srcOf cs).prp = RES) := hRES.symm
  clear h hRES hs0 bA bB R1'
  go_enter Tryz.func6, Tryz.ntmps6
  go_wp2_with fail
  generalize (W.alloc (.cells #[.slice none 0 0] 25)).alloc (.cells #[.slice none 0 0] 28) = w0 at *
  refine (sourceX_any w0 _ cs HR.out hby hn).mono ?_
  rintro e w1 ⟨k, rfl, hk, s1, b1⟩
  generalize srcOf cs = s at *
  have hsz := s1.sz
  have hz1' := b1.size
  have hkB := s1.kB
  have HTZ := tree_sz9 s hsz.2
  have htl := tree_le s hsz.2
  have S1 := hd9 s1
  have B1 := hd9 b1
  clear s1 b1 HR
  unfold Sr.prp at HRES
  go_wp2_with fail
  refine (tree_x w1 k w1.heap.size s S1.out).mono ?_
  rintro e w2 ⟨v, rfl, r2, s2, t2, hb2, hnil⟩
  have hnk : Hid (NilOk v) := hnil
  obtain ⟨av, cv, hv, -⟩ := r2.len
  subst hv
  have HRD : Hid (∀ w', (∀ j, w1.heap.size ≤ j → j < w2.heap.size → w'.heap[j]? = w2.heap[j]?) → RdN w' (.slice av s.tree.1.length cv) s.tree.1) := rd_fix r2 rfl hb2
  have hoff : OffK k (.slice av s.tree.1.length cv) := fun b o n c e e2 => by have := hb2 b o n c e; omega
  have bT : Below w2.heap.size w2 (w2.alloc (.cells #[.slice av s.tree.1.length cv] 25)) := (Below.refl _ _).alloc (Nat.le_refl _) _
  have S3 := hd9 (s2.keep (bT.mono s2.lt))
  have RD3 := hd9 (r2.below bT)
  have T3 := hd9 (St.new w2 #[.slice av s.tree.1.length cv] 25)
  have z2 := t2.size
  have b02 : Below (W.heap.size + 2) w0 w2 := by
    rw [← hs]
    exact B1.out.trans (t2.below (by omega) (by omega))
  have B3 := hd9 (b02.trans (bT.mono (by omega)))
  have z3 : (w2.alloc (.cells #[.slice av s.tree.1.length cv] 25)).heap.size = w2.heap.size + 1 := by simp
  have F3 : Hid (∀ j, w1.heap.size ≤ j → j < w2.heap.size → (w2.alloc (.cells #[.slice av s.tree.1.length cv] 25)).heap[j]? = w2.heap[j]?) := fun j _ h2 => bT.block j h2
  clear r2 s2 t2 hb2 hnil bT b02 S1 B1
  go_wp2_with fail
  generalize w2.alloc (.cells #[.slice av s.tree.1.length cv] 25) = w3 at *
  generalize w2.heap.size = TB at *
  refine (req_k w3 k w1.heap.size s.tree.2 _ s.tree.1 S3.out RD3.out hoff (by omega) (sz9_T HTZ.1)).mono ?_
  rintro e w4 ⟨u, rfl, o4, s4, t4⟩
  have hql := Sr.req_len s.tree.2 s.tree.1
  have HQZ : Hid (∀ o ∈ (s.tree.2.req s.tree.1).1, SzO o) := Sr.rops_sz _ (sz9_T HTZ.1) _ _
  clear HTZ
  generalize s.tree.2.req s.tree.1 = rq at *
  generalize s.tree.1 = ns at *
  obtain ⟨au, cu, hu⟩ := o4.slice
  subst hu
  obtain ⟨g, hg⟩ : ∃ g, au = some ⟨g, 0, none⟩ := by
    rcases o4.2 with ⟨h9, h8⟩ | ⟨g, cap, cur, h9, -⟩
    · omega
    · cases h9; exact ⟨g, rfl⟩
  subst hg
  have hgl := World.ownsRow.lt o4 g rfl
  have z4 := t4.size
  have bQ : Below w4.heap.size w4 (w4.alloc (.cells #[.slice (some ⟨g, 0, none⟩) rq.1.length cu] 28)) := (Below.refl _ _).alloc (Nat.le_refl _) _
  have T34 : Tch k w3 (w4.alloc (.cells #[.slice (some ⟨g, 0, none⟩) rq.1.length cu] 28)) := t4.then (bQ.mono z4)
  have S5 := hd9 (s4.keep (bQ.mono s4.lt))
  have O5 : Hid (OwnOps (w4.alloc (.cells #[.slice (some ⟨g, 0, none⟩) rq.1.length cu] 28)) (TB + 1) (.slice (some ⟨g, 0, none⟩) rq.1.length cu) rq.1) := by
    rw [← z3]
    exact row_tch o4 (Tch.of (k := w4.heap.size) bQ) (by simp [Value.ownBlock]; omega)
  have Q5 := hd9 (St.new w4 #[.slice (some ⟨g, 0, none⟩) rq.1.length cu] 28)
  have T5 := hd9 (T3.out.tch T34 (by omega))
  have B5 : Hid (Below (W.heap.size + 2) w0 (w4.alloc (.cells #[.slice (some ⟨g, 0, none⟩) rq.1.length cu] 28))) := B3.out.trans (T34.below (by omega) (by omega))
  have F5 : Hid (∀ j, w1.heap.size ≤ j → j < TB → (w4.alloc (.cells #[.slice (some ⟨g, 0, none⟩) rq.1.length cu] 28)).heap[j]? = w2.heap[j]?) := fun j h1 h2 => (T34.2 j (by omega) (by omega)).trans (F3.out j h1 h2)
  have z5 : (w4.alloc (.cells #[.slice (some ⟨g, 0, none⟩) rq.1.length cu] 28)).heap.size = w4.heap.size + 1 := by simp
  clear o4 s4 t4 bQ T34 S3 RD3 T3 B3 F3
  go_wp2_with fail
  generalize w4.alloc (.cells #[.slice (some ⟨g, 0, none⟩) rq.1.length cu] 28) = w5 at *
  generalize w4.heap.size = RB at *
  refine (next_x w5 k w1.heap.size 100 rq.2 S5.out (by omega)).mono ?_
  rintro e w6 ⟨rfl, s6, t6⟩
  have hl100 := rq.2.next_lt 100 (by omega)
  unfold prpD at HRES
  generalize rq.2.next 100 = n1 at *
  have S6 := hd9 s6
  have T6 := hd9 t6
  clear s6 t6 S5
  go_wp2_with fail
  refine (next_x w6 k w1.heap.size 40 n1.2 S6.out (by omega)).mono ?_
  rintro e w7 ⟨rfl, s7, t7⟩
  have hl40 := n1.2.next_lt 40 (by omega)
  generalize n1.2.next 40 = n2 at *
  have S7 := hd9 s7
  have T7 := hd9 (T6.out.trans t7)
  clear s7 t7 S6 T6
  have q7 := (Q5.out.tch T7.out (by omega)).cl 0 _ rfl
  have q7l := (Q5.out.tch T7.out (by omega)).lt
  go_wp2_with fail
  clear q7 q7l
  refine (next_x w7 k w1.heap.size rq.1.length n2.2 S7.out (by omega)).mono ?_
  rintro e w8 ⟨rfl, s8, t8⟩
  have hil := n2.2.next_lt rq.1.length (by omega)
  generalize n2.2.next rq.1.length = n3 at *
  have S8 := hd9 s8
  have T8 := hd9 (T7.out.trans t8)
  clear s8 t8 S7 T7
  generalize rq.1 = os at *
  generalize n3.1 = i at *
  have q8 := (Q5.out.tch T8.out (by omega)).cl 0 _ rfl
  have hilI : (i : Int) < (os.length : Int) := by omega
  have O8 := hd9 (row_tch O5.out T8.out (show Value.ownBlock (.slice (some ⟨g, 0, none⟩) os.length cu) ≠ some k by simp [Value.ownBlock]; omega))
  have hcell : ∀ j, j < 5 → w8.cell? ⟨g, i * 5 + j, none⟩ = (opL (oAt os i))[j]? := fun j hj => by
    have hh := orow_get os i j hil hj
    obtain ⟨u9, hu9⟩ : ∃ u9, (opL (oAt os i))[j]? = some u9 := ⟨_, List.getElem?_eq_getElem (by show j < 5; exact hj)⟩
    rw [hu9] at hh ⊢
    have := World.ownsRow.cells O8.out (g := g) rfl (i * 5 + j) _ hh
    rw [Addr.add_lit, Nat.zero_add] at this
    exact this
  have e0 := hcell 0 (by omega)
  have e1 := hcell 1 (by omega)
  have e2 := hcell 2 (by omega)
  have e3 := hcell 3 (by omega)
  have e4 := hcell 4 (by omega)
  clear hcell
  simp only [opL, List.getElem?_cons_zero, List.getElem?_cons_succ, Nat.add_zero] at e0 e1 e2 e3 e4
  go_upto_if 36 with fail
  clear e0 e1 e2 e3 e4 q8
  have DD : Hid (DQ W k w1.heap.size TB RB w8.heap.size) := by have := T8.out.size; exact ⟨by omega, hkB, z2, by omega, by omega⟩
  have D0 : Hid (DP W w2 k w1.heap.size TB RB w8.heap.size (.slice av ns.length cv) (.slice (some ⟨g, 0, none⟩) os.length cu) os (oAt os i) n3.2 (w8.alloc (.cells #[.int .i64 (oAt os i).kind, .string (oAt os i).path, .string (oAt os i).data, .int .i64 (oAt os i).ver, .bool (oAt os i).seq] 40))) := by
    have hs8 := T8.out.size
    have bO : Below w8.heap.size w8 (w8.alloc (.cells #[.int .i64 (oAt os i).kind, .string (oAt os i).path, .string (oAt os i).data, .int .i64 (oAt os i).ver, .bool (oAt os i).seq] 40)) := (Below.refl _ _).alloc (Nat.le_refl _) _
    have b08 : Below (W.heap.size + 2) w0 (w8.alloc (.cells #[.int .i64 (oAt os i).kind, .string (oAt os i).path, .string (oAt os i).data, .int .i64 (oAt os i).ver, .bool (oAt os i).seq] 40)) := B5.out.trans ((T8.out.below (by omega) (by omega)).trans (bO.mono (by omega)))
    have T9 : Tch k w5 (w8.alloc (.cells #[.int .i64 (oAt os i).kind, .string (oAt os i).path, .string (oAt os i).data, .int .i64 (oAt os i).ver, .bool (oAt os i).seq] 40)) := T8.out.then (bO.mono hs8)
    exact ⟨S8.out.keep (bO.mono S8.out.lt), BR.out.trans (b08.mono (by omega)), fun j h1 h2 => (T9.2 j (by omega) (by omega)).trans (F5.out j h1 h2), R0.out.belowB b08 (by omega), R1.out.belowB b08 (by omega), T5.out.tch T9 (by omega), Q5.out.tch T9 (by omega), St.new w8 _ _, row_tch O8.out (Tch.of (k := w8.heap.size) bO) (by simp [Value.ownBlock]; omega), by simp [Value.ownBlock]; omega, by simp [Value.ownBlock]; omega⟩
  clear S8 T8 O8 T5 Q5 O5 F5 B5 R0 R1
  generalize w8.alloc (.cells #[.int .i64 (oAt os i).kind, .string (oAt os i).path, .string (oAt os i).data, .int .i64 (oAt os i).ver, .bool (oAt os i).seq] 40) = w9 at *
  generalize w8.heap.size = OB at *
  generalize n3.2 = s5 at *
  generalize n2.1 = kk at *
  generalize 50 + (n1.1 : Int) = z0 at *
  clear hl100
  go_cut [8] from 35 to 39 (fun v8 wx => ∃ (z' : Int) (s' : Sr), v8 = .int .i64 z' ∧ Hid (DP W w2 k w1.heap.size TB RB OB (.slice av ns.length cv) (.slice (some ⟨g, 0, none⟩) os.length cu) os (oAt os i) s' wx) ∧ Hid ((z', s') = if kk = 0 then (2147483647 + ((s5.next 2).1 : Int), (s5.next 2).2) else (z0, s5)))
  case first =>
    by_cases hk0 : kk = 0
    · subst hk0
      have hl2 := s5.next_lt 2 (by omega)
      go_wp2_with fail
      refine (next_x w9 k w1.heap.size 2 s5 D0.out.src (by omega)).mono ?_
      rintro e wa ⟨rfl, sa, ta⟩
      have Da := hd9 (D0.out.next DD.out sa ta)
      clear sa ta
      go_wp2_with fail
      go_meet
      exact ⟨_, _, rfl, Da, (by show _ = _; rw [if_pos trivial])⟩
    · have hkI : ¬ (kk : Int) = 0 := by omega
      go_wp2_with fail
      go_meet
      exact ⟨_, _, rfl, D0, (by show _ = _; rw [if_neg hk0])⟩
  case rest =>
  obtain ⟨z1, s6, rfl, D1, E0⟩ := hcut
  clear D0
  go_upto_if 41 with fail
  go_cut [8] from 40 to 41 (fun v8 wx => ∃ z' : Int, v8 = .int .i64 z' ∧ Hid (DP W w2 k w1.heap.size TB RB OB (.slice av ns.length cv) (.slice (some ⟨g, 0, none⟩) os.length cu) os (oAt os i) s6 wx) ∧ Hid (z' = if kk = 1 then 0 else z1))
  case first =>
    by_cases hk0 : kk = 1
    · subst hk0
      go_wp2_with fail
      go_meet
      exact ⟨_, rfl, D1, (by show _ = _; rw [if_pos trivial])⟩
    · have hkI : ¬ (kk : Int) = 1 := by omega
      go_wp2_with fail
      go_meet
      exact ⟨_, rfl, D1, (by show _ = _; rw [if_neg hk0])⟩
  case rest =>
  obtain ⟨z2', rfl, D2, E1⟩ := hcut
  clear D1
  go_upto_if 43 with fail
  generalize hw2 : wc = w10 at *
  clear hw2
  go_cut [] from 42 to 48 (fun wx => Hid (DP W w2 k w1.heap.size TB RB OB (.slice av ns.length cv) (.slice (some ⟨g, 0, none⟩) os.length cu) os (oAt os i) s6 wx) ∧ Hid (kk ≠ 2))
  case first =>
    by_cases hk0 : kk = 2
    · subst hk0
      have q0 := D2.out.q.cl 0 _ rfl
      have q1 := D2.out.q.fz 0
      have ql := D2.out.q.lt
      go_wp2_with fail
      clear q0 q1 ql
      have DE := hd9 (D2.out.clr DD.out)
      generalize hu : (Value.slice (some ⟨w10.heap.size, 0, none⟩) 0 0) = ue at *
      generalize (w10.setCell ⟨RB, 0, none⟩ ue).alloc (.cells #[] 40) = w11 at *
      subst hu
      generalize w10.heap.size = eb at *
      have bD : Below w11.heap.size w11 w11.drew := below_drewN' w11 1
      have Dd := hd9 (DE.out.below DD.out bD)
      refine wp_region_held_drew (S := fun w9 => w9.cell? ⟨TB, 0, none⟩ = some (.slice av ns.length cv) ∧ w9.cell? ⟨RB, 0, none⟩ = some (.slice (some ⟨eb, 0, none⟩) 0 0)) (by kernel_rfl) ⟨Dd.out.t.cl 0 _ rfl, Dd.out.q.cl 0 _ rfl⟩ (fun hHeld => ?_)
      clear bD DE
      generalize w11.drew = wd at *
      refine wpAnyH_take (i := 0) (oi := { dst := some 46, op := _, type := _, pos := _, after := _, guard := _ }) (v := (.agg #[.slice av ns.length cv])) rfl (by kernel_rfl) (by kernel_rfl) (by kernel_rfl) (fun _ _ _ h => h) (Or.inl ⟨by rfl, fun w9 hS9 => by (obtain ⟨h9, h8⟩ := hS9; go_simp; try with_reducible rfl)⟩) (by assumption) ?_
      try simp only [Act.put, List.setIfInBounds_toArray, List.set_cons_zero, List.set_cons_succ]
      refine wpAnyH_take (i := 1) (oi := { dst := some 47, op := _, type := _, pos := _, after := _, guard := _ }) (v := (.agg #[.slice (some ⟨eb, 0, none⟩) 0 0])) rfl (by kernel_rfl) (by kernel_rfl) (by kernel_rfl) (fun _ _ _ h => h) (Or.inl ⟨by rfl, fun w9 hS9 => by (obtain ⟨h9, h8⟩ := hS9; go_simp; try with_reducible rfl)⟩) (by assumption) ?_
      try simp only [Act.put, List.setIfInBounds_toArray, List.set_cons_zero, List.set_cons_succ]
      refine wpAnyH_take (i := 2) (oi := { dst := some 48, op := _, type := _, pos := _, after := _, guard := _ }) (v := (.int .i64 z2')) rfl (by kernel_rfl) (by kernel_rfl) (by kernel_rfl) (fun _ _ _ h => h) (Or.inl ⟨by rfl, fun w9 hS9 => by (clear hS9; go_simp; try with_reducible rfl)⟩) (by assumption) ?_
      try simp only [Act.put, List.setIfInBounds_toArray, List.set_cons_zero, List.set_cons_succ]
      have F := hd9 (Dd.out.fin DD.out HRD.out)
      have hdk := DD.out.ak
      have hdB := DD.out.aB
      have hdT := DD.out.aT
      have hdR := DD.out.aR
      have S0 := hd9 (Dd.out.r0.set 0 (.slice av ns.length cv))
      have S1 := hd9 (Dd.out.r1.tch (tch_set9 wd W.heap.size 0 (.slice av ns.length cv)) (by omega))
      have T0 := hd9 (Dd.out.t.tch (tch_set9 wd W.heap.size 0 (.slice av ns.length cv)) (by omega))
      have Q0 := hd9 (Dd.out.q.tch (tch_set9 wd W.heap.size 0 (.slice av ns.length cv)) (by omega))
      refine wpAnyH_ready (rs := [3]) (by kernel_rfl) (by simp) ?_
      refine AllReadyH.cons (o := { dst := none, op := _, type := _, pos := _, after := _, guard := _ }) rfl (fun K hK => ?_) AllReadyH.nil
      have y0 := Dd.out.r0.cl 0 _ rfl
      have y1 := Dd.out.r0.fz 0
      go_simp
      refine hK.out _ _ ⟨T0.out.cl 0 _ rfl, Q0.out.cl 0 _ rfl⟩ (fun hx9 => ?_)
      clear hK K hHeld y0 y1
      have hHeld := hx9
      clear hx9
      try simp only [Act.put, List.setIfInBounds_toArray, List.set_cons_zero, List.set_cons_succ]
      refine wpAnyH_ready (rs := [4]) (by kernel_rfl) (by simp) ?_
      refine AllReadyH.cons (o := { dst := none, op := _, type := _, pos := _, after := _, guard := _ }) rfl (fun K hK => ?_) AllReadyH.nil
      have y0 := S1.out.cl 0 _ rfl
      have y1 := S1.out.fz 0
      go_simp
      have S2 := hd9 (S1.out.set 0 (.slice (some ⟨eb, 0, none⟩) 0 0))
      have S3 := hd9 (S0.out.tch (tch_set9 _ (W.heap.size + 1) 0 (.slice (some ⟨eb, 0, none⟩) 0 0)) (by omega))
      refine hK.out _ _ ⟨(T0.out.tch (tch_set9 _ (W.heap.size + 1) 0 (.slice (some ⟨eb, 0, none⟩) 0 0)) (by omega)).cl 0 _ rfl, (Q0.out.tch (tch_set9 _ (W.heap.size + 1) 0 (.slice (some ⟨eb, 0, none⟩) 0 0)) (by omega)).cl 0 _ rfl⟩ (fun hx9 => ?_)
      clear hK K hHeld y0 y1
      have hHeld := hx9
      clear hx9
      try simp only [Act.put, List.setIfInBounds_toArray, List.set_cons_zero, List.set_cons_succ]
      refine wpAnyH_take (i := 5) (oi := { dst := some 4, op := _, type := _, pos := _, after := _, guard := _ }) (v := (.int .i64 z2')) rfl (by kernel_rfl) (by kernel_rfl) (by kernel_rfl) (fun _ _ _ h => h) (Or.inl ⟨by rfl, fun w9 hS9 => by (clear hS9; go_simp; try with_reducible rfl)⟩) (by assumption) ?_
      try simp only [Act.put, List.setIfInBounds_toArray, List.set_cons_zero, List.set_cons_succ]
      refine wpAnyH_done (by kernel_rfl) ?_ _
      clear hHeld Dd S0 S1 T0 Q0
      have x0 := S3.out.cl 0 _ rfl
      have x1 := S2.out.cl 0 _ rfl
      clear S2 S3
      have HR9 : Hid ((ns, ([] : List Op5), z2') = RES) := by
        have a0 := E0.out
        have a1 := E1.out
        have a2 := HRES.out
        rw [if_neg (by decide)] at a0 a1
        injection a0 with a3 a4
        subst a3 a1
        exact a2
      have h9 := HR9.out
      clear HR9 HRES
      subst h9
      go_wp2
      exact bodyPost_ret (v := .tuple #[.agg #[.slice av ns.length cv], .agg #[.slice (some ⟨eb, 0, none⟩) 0 0], .int .i64 z2']) (by simp [results, Tryz.results6, go_sem, x0, x1]) rfl ⟨_, _, rfl, F.out.1, F.out.2.1, F.out.2.2, hnk.out⟩
    · have hkI : ¬ (kk : Int) = 2 := by omega
      go_wp2_with fail
      go_meet
      exact ⟨D2, hk0⟩
  case rest =>
  obtain ⟨D3, hk2⟩ := hcut
  clear D2
  go_upto_if 50 with fail
  generalize hw3 : wc = w11 at *
  clear hw3
  go_cut [] from 49 to 67 (fun wx => Hid (DP W w2 k w1.heap.size TB RB OB (.slice av ns.length cv) (.slice (some ⟨g, 0, none⟩) os.length cu) os (oAt os i) s6 wx) ∧ Hid (kk ≠ 3))
  case first =>
    by_cases hk0 : kk = 3
    · subst hk0
      have HR9 : Hid ((ns, os ++ List.replicate (64 + (s6.next 2).1 - os.length) chkO, z2') = RES) := by
        have a0 := E0.out
        have a1 := E1.out
        have a2 := HRES.out
        rw [if_neg (by decide)] at a0 a1
        injection a0 with a3 a4
        subst a3 a1 a4
        exact a2
      clear E0 E1
      have hl2 := s6.next_lt 2 (by omega)
      go_wp2_with fail
      refine (next_x w11 k w1.heap.size 2 s6 D3.out.src (by omega)).mono ?_
      rintro e wa ⟨rfl, sa, ta⟩
      have Da := hd9 (D3.out.next DD.out sa ta)
      clear sa ta D3
      generalize s6.next 2 = n4 at *
      go_wp2
      go_loopw [] (fun wr => ∃ j gu cu' : Nat, j ≤ 64 + n4.1 - os.length ∧ Hid (DP W w2 k w1.heap.size TB RB OB (.slice av ns.length cv) (.slice (some ⟨gu, 0, none⟩) (os ++ List.replicate j chkO).length cu') (os ++ List.replicate j chkO) (oAt os i) n4.2 wr)) (fun wr => 64 + n4.1 - lnAt9 wr RB)
      case atStart => exact ⟨0, g, cu, Nat.zero_le _, by rw [List.replicate_zero, List.append_nil]; exact Da⟩
      case round =>
        clear Da
        obtain ⟨j, gu, cu', hj, HG⟩ := hrel
        by_cases hlt : j < 64 + n4.1 - os.length
        · have HN : Hid (∀ u w, DP W w2 k w1.heap.size TB RB OB (.slice av ns.length cv) u ((os ++ List.replicate j chkO) ++ [chkO]) (oAt os i) n4.2 w → DP W w2 k w1.heap.size TB RB OB (.slice av ns.length cv) u (os ++ List.replicate (j + 1) chkO) (oAt os i) n4.2 w) := by
            intro u w hh
            rw [List.replicate_succ', ← List.append_assoc]
            exact hh
          have HL : Hid ((os ++ List.replicate (j + 1) chkO).length = (os ++ List.replicate j chkO).length + 1) := by show _ = _; simp; omega
          have hQ : (os ++ List.replicate j chkO).length = os.length + j := by rw [List.length_append, List.length_replicate]
          generalize os ++ List.replicate j chkO = Q at *
          have hQ1 : Q.length < 64 + n4.1 := by omega
          have hQI : (Q.length : Int) < 64 + (n4.1 : Int) := by omega
          have HQL := hd9 hQ
          clear hQ
          have HPL : Hid (lnAt9 wr RB = Q.length) := lnAt9_of (HG.out.q.cl 0 _ rfl)
          have bN : Below wr.heap.size wr (wr.alloc (.cells #[.int .i64 chkO.kind, .string chkO.path, .string chkO.data, .int .i64 chkO.ver, .bool chkO.seq] 40)) := (Below.refl _ _).alloc (Nat.le_refl _) _
          have HOW := hd9 (HG.out.below DD.out bN).own
          have HCL := hd9 (opL_cells wr chkO 40)
          have hrl := HG.out.b.lt
          have hrO := DD.out.aO
          have hrR := DD.out.aR
          have q0 := HG.out.q.cl 0 _ rfl
          have q1 := HG.out.q.fz 0
          have ql := HG.out.q.lt
          clear bN
          go_wp2_with (at_builtin; go_must (refine wpList_append_lies _ rfl _ _ 26 rfl (TB + 1) 40 i0 _ 5 56 Tryz.underlying26 hi hz0 hz1 hz2 rfl (by omega) (.slice (some ⟨gu, 0, none⟩) Q.length cu') Q.length (orow Q) rfl HOW.out ⟨wr.heap.size, 0, none⟩ 1 1 (opL chkO) rfl rfl HCL.out (opL_one _) (by omega) (by unfold maxLen; omega) (by omega) (by simp; omega) (wr.heap.size + 1) (by simp) ?_))
          clear q0 q1 ql
          intro g4 cap4 w4 ho4 hg4 hat4 hlt4
          have OW4 : OwnOps w4 (TB + 1) (.slice (some ⟨g4, 0, none⟩) (Q.length + 1) cap4) (Q ++ [chkO]) := by
            unfold OwnOps
            rw [List.length_append, orow_one]
            exact ho4
          have hgu := World.ownsRow.lt HG.out.own gu rfl
          have hun := HG.out.un
          have hun1 : gu ≠ RB := fun e => hun.1 (by rw [e]; rfl)
          have hun2 : gu ≠ OB := fun e => hun.2 (by rw [e]; rfl)
          have hg4n : g4 = gu ∨ g4 = wr.heap.size + 1 := by
            rcases hat4 with h9 | h9
            · exact .inl (Option.some.inj h9).symm
            · exact .inr h9
          obtain ⟨PP, q0, q1⟩ := HG.out.setQ DD.out (World.grownBy.trans (World.grownBy_alloc wr _ _) hg4) (fun g9 e9 => by have h9 : gu = g9 := Option.some.inj e9; omega) OW4 ⟨by simp [Value.ownBlock]; omega, by simp [Value.ownBlock]; omega⟩
          have HP := hd9 (HN.out _ _ PP)
          have HPL2 := hd9 (lnAt9_of (PP.q.cl 0 _ rfl))
          clear PP OW4 ho4 hg4 hat4 hlt4 HOW HCL hgu hun hun1 hun2 hg4n HG HN
          go_wp2
          go_roundw
          case rel => exact ⟨j + 1, g4, cap4, by omega, by rw [HL.out]; exact HP⟩
          case measure => rw [HPL2.out, HPL.out]; omega
        · have hjn : j = 64 + n4.1 - os.length := by omega
          rw [← hjn] at HR9
          have hQ : (os ++ List.replicate j chkO).length = os.length + j := by rw [List.length_append, List.length_replicate]
          generalize os ++ List.replicate j chkO = Q at *
          have hQI : ¬ (Q.length : Int) < 64 + (n4.1 : Int) := by omega
          clear hQ hjn
          have q0 := HG.out.q.cl 0 _ rfl
          go_wp2_with fail
          clear q0
          generalize hw9 : wr = w12 at *
          clear hw9
          have bD : Below w12.heap.size w12 w12.drew := below_drewN' w12 1
          have Dd := hd9 (HG.out.below DD.out bD)
          refine wp_region_held_drew (S := fun w9 => w9.cell? ⟨TB, 0, none⟩ = some (.slice av ns.length cv) ∧ w9.cell? ⟨RB, 0, none⟩ = some (.slice (some ⟨gu, 0, none⟩) Q.length cu')) (by kernel_rfl) ⟨Dd.out.t.cl 0 _ rfl, Dd.out.q.cl 0 _ rfl⟩ (fun hHeld => ?_)
          clear bD HG
          generalize w12.drew = wd at *
          refine wpAnyH_take (i := 0) (oi := { dst := some 65, op := _, type := _, pos := _, after := _, guard := _ }) (v := (.agg #[.slice av ns.length cv])) rfl (by kernel_rfl) (by kernel_rfl) (by kernel_rfl) (fun _ _ _ h => h) (Or.inl ⟨by rfl, fun w9 hS9 => by (obtain ⟨h9, h8⟩ := hS9; go_simp; try with_reducible rfl)⟩) (by assumption) ?_
          try simp only [Act.put, List.setIfInBounds_toArray, List.set_cons_zero, List.set_cons_succ]
          refine wpAnyH_take (i := 1) (oi := { dst := some 66, op := _, type := _, pos := _, after := _, guard := _ }) (v := (.agg #[.slice (some ⟨gu, 0, none⟩) Q.length cu'])) rfl (by kernel_rfl) (by kernel_rfl) (by kernel_rfl) (fun _ _ _ h => h) (Or.inl ⟨by rfl, fun w9 hS9 => by (obtain ⟨h9, h8⟩ := hS9; go_simp; try with_reducible rfl)⟩) (by assumption) ?_
          try simp only [Act.put, List.setIfInBounds_toArray, List.set_cons_zero, List.set_cons_succ]
          refine wpAnyH_take (i := 2) (oi := { dst := some 67, op := _, type := _, pos := _, after := _, guard := _ }) (v := (.int .i64 z2')) rfl (by kernel_rfl) (by kernel_rfl) (by kernel_rfl) (fun _ _ _ h => h) (Or.inl ⟨by rfl, fun w9 hS9 => by (clear hS9; go_simp; try with_reducible rfl)⟩) (by assumption) ?_
          try simp only [Act.put, List.setIfInBounds_toArray, List.set_cons_zero, List.set_cons_succ]
          have F := hd9 (Dd.out.fin DD.out HRD.out)
          have hdk := DD.out.ak
          have hdB := DD.out.aB
          have hdT := DD.out.aT
          have hdR := DD.out.aR
          have S0 := hd9 (Dd.out.r0.set 0 (.slice av ns.length cv))
          have S1 := hd9 (Dd.out.r1.tch (tch_set9 wd W.heap.size 0 (.slice av ns.length cv)) (by omega))
          have T0 := hd9 (Dd.out.t.tch (tch_set9 wd W.heap.size 0 (.slice av ns.length cv)) (by omega))
          have Q0 := hd9 (Dd.out.q.tch (tch_set9 wd W.heap.size 0 (.slice av ns.length cv)) (by omega))
          refine wpAnyH_ready (rs := [3]) (by kernel_rfl) (by simp) ?_
          refine AllReadyH.cons (o := { dst := none, op := _, type := _, pos := _, after := _, guard := _ }) rfl (fun K hK => ?_) AllReadyH.nil
          have y0 := Dd.out.r0.cl 0 _ rfl
          have y1 := Dd.out.r0.fz 0
          go_simp
          refine hK.out _ _ ⟨T0.out.cl 0 _ rfl, Q0.out.cl 0 _ rfl⟩ (fun hx9 => ?_)
          clear hK K hHeld y0 y1
          have hHeld := hx9
          clear hx9
          try simp only [Act.put, List.setIfInBounds_toArray, List.set_cons_zero, List.set_cons_succ]
          refine wpAnyH_ready (rs := [4]) (by kernel_rfl) (by simp) ?_
          refine AllReadyH.cons (o := { dst := none, op := _, type := _, pos := _, after := _, guard := _ }) rfl (fun K hK => ?_) AllReadyH.nil
          have y0 := S1.out.cl 0 _ rfl
          have y1 := S1.out.fz 0
          go_simp
          have S2 := hd9 (S1.out.set 0 (.slice (some ⟨gu, 0, none⟩) Q.length cu'))
          have S3 := hd9 (S0.out.tch (tch_set9 _ (W.heap.size + 1) 0 (.slice (some ⟨gu, 0, none⟩) Q.length cu')) (by omega))
          refine hK.out _ _ ⟨(T0.out.tch (tch_set9 _ (W.heap.size + 1) 0 (.slice (some ⟨gu, 0, none⟩) Q.length cu')) (by omega)).cl 0 _ rfl, (Q0.out.tch (tch_set9 _ (W.heap.size + 1) 0 (.slice (some ⟨gu, 0, none⟩) Q.length cu')) (by omega)).cl 0 _ rfl⟩ (fun hx9 => ?_)
          clear hK K hHeld y0 y1
          have hHeld := hx9
          clear hx9
          try simp only [Act.put, List.setIfInBounds_toArray, List.set_cons_zero, List.set_cons_succ]
          refine wpAnyH_take (i := 5) (oi := { dst := some 4, op := _, type := _, pos := _, after := _, guard := _ }) (v := (.int .i64 z2')) rfl (by kernel_rfl) (by kernel_rfl) (by kernel_rfl) (fun _ _ _ h => h) (Or.inl ⟨by rfl, fun w9 hS9 => by (clear hS9; go_simp; try with_reducible rfl)⟩) (by assumption) ?_
          try simp only [Act.put, List.setIfInBounds_toArray, List.set_cons_zero, List.set_cons_succ]
          refine wpAnyH_done (by kernel_rfl) ?_ _
          clear hHeld Dd S0 S1 T0 Q0
          have x0 := S3.out.cl 0 _ rfl
          have x1 := S2.out.cl 0 _ rfl
          clear S2 S3
          have h9 := HR9.out
          clear HR9 HRES
          subst h9
          go_wp2
          exact bodyPost_ret (v := .tuple #[.agg #[.slice av ns.length cv], .agg #[.slice (some ⟨gu, 0, none⟩) Q.length cu'], .int .i64 z2']) (by simp [results, Tryz.results6, go_sem, x0, x1]) rfl ⟨_, _, rfl, F.out.1, F.out.2.1, F.out.2.2, hnk.out⟩
    · have hkI : ¬ (kk : Int) = 3 := by omega
      go_wp2_with fail
      go_meet
      exact ⟨D3, hk0⟩
  case rest =>
  obtain ⟨D4, hk3⟩ := hcut
  clear D3
  go_upto_if 69 with fail
  generalize hw9 : wc = wq at *
  clear hw9
  go_cut [] from 68 to 73 (fun wx => ∃ (o' : Op5) (s' : Sr), Hid (DP W w2 k w1.heap.size TB RB OB (.slice av ns.length cv) (.slice (some ⟨g, 0, none⟩) os.length cu) os o' s' wx) ∧ Hid ((o', s') = if kk = 4 then ({ oAt os i with kind := ((s6.next 7).1 : Int) - 1 }, (s6.next 7).2) else ((oAt os i), s6)))
  case first =>
    by_cases hk0 : kk = 4
    · subst hk0
      have hl2 := s6.next_lt 7 (by omega)
      go_wp2_with fail
      refine (next_x wq k w1.heap.size 7 s6 D4.out.src (by omega)).mono ?_
      rintro e wa ⟨rfl, sa, ta⟩
      have Da := hd9 (D4.out.next DD.out sa ta)
      clear sa ta
      have y0 := Da.out.b.cl 0 _ rfl
      have y1 := Da.out.b.fz 0
      have y2 := Da.out.b.lt
      have Db := hd9 (Da.out.setO DD.out 0 (.int .i64 (((s6.next 7).1 : Int) - 1)) ({ oAt os i with kind := ((s6.next 7).1 : Int) - 1 }) rfl)
      go_wp2_with fail
      go_meet
      exact ⟨_, _, Db, (by show _ = _; rw [if_pos trivial])⟩
    · have hkI : ¬ (kk : Int) = 4 := by omega
      go_wp2_with fail
      go_meet
      exact ⟨_, _, D4, (by show _ = _; rw [if_neg hk0])⟩
  case rest =>
  obtain ⟨o5, s7, D5, E4⟩ := hcut
  clear D4
  go_upto_if 75 with fail
  generalize hw9 : wc = wq at *
  clear hw9
  go_cut [] from 74 to 79 (fun wx => ∃ (o' : Op5) (s' : Sr), Hid (DP W w2 k w1.heap.size TB RB OB (.slice av ns.length cv) (.slice (some ⟨g, 0, none⟩) os.length cu) os o' s' wx) ∧ Hid ((o', s') = if kk = 5 then ({ o5 with ver := -2 + ((s7.next 3).1 : Int) }, (s7.next 3).2) else (o5, s7)))
  case first =>
    by_cases hk0 : kk = 5
    · subst hk0
      have hl2 := s7.next_lt 3 (by omega)
      go_wp2_with fail
      refine (next_x wq k w1.heap.size 3 s7 D5.out.src (by omega)).mono ?_
      rintro e wa ⟨rfl, sa, ta⟩
      have Da := hd9 (D5.out.next DD.out sa ta)
      clear sa ta
      have y0 := Da.out.b.cl 3 _ rfl
      have y1 := Da.out.b.fz 3
      have y2 := Da.out.b.lt
      have Db := hd9 (Da.out.setO DD.out 3 (.int .i64 (-2 + ((s7.next 3).1 : Int))) ({ o5 with ver := -2 + ((s7.next 3).1 : Int) }) rfl)
      go_wp2_with fail
      go_meet
      exact ⟨_, _, Db, (by show _ = _; rw [if_pos trivial])⟩
    · have hkI : ¬ (kk : Int) = 5 := by omega
      go_wp2_with fail
      go_meet
      exact ⟨_, _, D5, (by show _ = _; rw [if_neg hk0])⟩
  case rest =>
  obtain ⟨o6, s8, D6, E5⟩ := hcut
  clear D5
  go_upto_if 81 with fail
  generalize hw9 : wc = wq at *
  clear hw9
  go_cut [] from 80 to 82 (fun wx => ∃ (o' : Op5) (s' : Sr), Hid (DP W w2 k w1.heap.size TB RB OB (.slice av ns.length cv) (.slice (some ⟨g, 0, none⟩) os.length cu) os o' s' wx) ∧ Hid ((o', s') = if kk = 6 then ({ o6 with seq := true }, s8) else (o6, s8)))
  case first =>
    by_cases hk0 : kk = 6
    · subst hk0
      have Da := D6
      have y0 := Da.out.b.cl 4 _ rfl
      have y1 := Da.out.b.fz 4
      have y2 := Da.out.b.lt
      have Db := hd9 (Da.out.setO DD.out 4 (.bool true) ({ o6 with seq := true }) rfl)
      go_wp2_with fail
      go_meet
      exact ⟨_, _, Db, (by show _ = _; rw [if_pos trivial])⟩
    · have hkI : ¬ (kk : Int) = 6 := by omega
      go_wp2_with fail
      go_meet
      exact ⟨_, _, D6, (by show _ = _; rw [if_neg hk0])⟩
  case rest =>
  obtain ⟨o7, s9, D7, E6⟩ := hcut
  clear D6
  go_upto_if 84 with fail
  generalize hw9 : wc = wq at *
  clear hw9
  go_cut [] from 83 to 88 (fun wx => ∃ (o' : Op5) (s' : Sr), Hid (DP W w2 k w1.heap.size TB RB OB (.slice av ns.length cv) (.slice (some ⟨g, 0, none⟩) os.length cu) os o' s' wx) ∧ Hid ((o', s') = if kk = 7 then ({ o7 with data := strOfNums (s9.bytes 65).1 }, (s9.bytes 65).2) else (o7, s9)))
  case first =>
    by_cases hk0 : kk = 7
    · subst hk0
      have CB := bytes_x wq k w1.heap.size 65 s9 D7.out.src (by omega)
      generalize s9.bytes 65 = bq at *
      go_wp2_with fail
      refine CB.mono ?_
      rintro e wa ⟨v6, rfl, o9, sa, ta⟩
      clear CB
      have hcv := conv_any o9.rd
      obtain ⟨a6, c6, rfl, -⟩ := o9.rd.len
      have Da := hd9 (D7.out.next DD.out sa ta)
      clear sa ta o9
      have y0 := Da.out.b.cl 2 _ rfl
      have y1 := Da.out.b.fz 2
      have y2 := Da.out.b.lt
      have Db := hd9 (Da.out.setO DD.out 2 (.string (strOfNums bq.1)) { o7 with data := strOfNums bq.1 } rfl)
      go_wp2_with fail
      go_meet
      exact ⟨_, _, Db, (by show _ = _; rw [if_pos trivial])⟩
    · have hkI : ¬ (kk : Int) = 7 := by omega
      go_wp2_with fail
      go_meet
      exact ⟨_, _, D7, (by show _ = _; rw [if_neg hk0])⟩
  case rest =>
  obtain ⟨o8, s10, D8, E7⟩ := hcut
  clear D7
  go_upto_if 90 with fail
  generalize hw9 : wc = wq at *
  clear hw9
  go_cut [] from 89 to 91 (fun wx => ∃ (o' : Op5) (s' : Sr), Hid (DP W w2 k w1.heap.size TB RB OB (.slice av ns.length cv) (.slice (some ⟨g, 0, none⟩) os.length cu) os o' s' wx) ∧ Hid ((o', s') = if kk = 8 then ({ o8 with path := ⟨#[47]⟩ }, s10) else (o8, s10)))
  case first =>
    by_cases hk0 : kk = 8
    · subst hk0
      have Da := D8
      have y0 := Da.out.b.cl 1 _ rfl
      have y1 := Da.out.b.fz 1
      have y2 := Da.out.b.lt
      have Db := hd9 (Da.out.setO DD.out 1 (.string ⟨#[47]⟩) ({ o8 with path := ⟨#[47]⟩ }) rfl)
      go_wp2_with fail
      go_meet
      exact ⟨_, _, Db, (by show _ = _; rw [if_pos trivial])⟩
    · have hkI : ¬ (kk : Int) = 8 := by omega
      go_wp2_with fail
      go_meet
      exact ⟨_, _, D8, (by show _ = _; rw [if_neg hk0])⟩
  case rest =>
  obtain ⟨o9, s11, D9, E8⟩ := hcut
  clear D8
  go_upto_if 93 with fail
  generalize hw9 : wc = wq at *
  clear hw9
  go_cut [] from 92 to 104 (fun wx => ∃ (o' : Op5) (s' : Sr), Hid (DP W w2 k w1.heap.size TB RB OB (.slice av ns.length cv) (.slice (some ⟨g, 0, none⟩) os.length cu) os o' s' wx) ∧ Hid ((o', s') = if kk = 9 then (⟨1, abcP (s11.next 2).1, o9.data, 0, true⟩, (s11.next 2).2) else (o9, s11)))
  case first =>
    by_cases hk0 : kk = 9
    · subst hk0
      have hl2 := s11.next_lt 2 (by omega)
      go_wp2_with fail
      refine (next_x wq k w1.heap.size 2 s11 D9.out.src (by omega)).mono ?_
      rintro e wa ⟨rfl, sa, ta⟩
      have Da := hd9 (D9.out.next DD.out sa ta)
      clear sa ta
      have hcv := conv_any (rd_one wa (97 + (s11.next 2).1))
      rw [strOf_one, show ((97 + (s11.next 2).1 : Nat) : Int) = 97 + ((s11.next 2).1 : Int) by omega] at hcv
      have Db := hd9 ((Da.out.setO DD.out 1 (.string (abcP (s11.next 2).1)) { o9 with path := abcP (s11.next 2).1 } rfl).below DD.out ((Below.refl _ _).alloc (Nat.le_refl _) (.cells #[.int .u8 (97 + ((s11.next 2).1 : Int))] 5)))
      unfold abcP at Db
      have y1 := Da.out.b.cl 1 _ rfl
      have x1 := Da.out.b.fz 1
      have hOBl := Da.out.b.lt
      have hOBn : OB ≠ wa.heap.size := by omega
      go_upto_region 32 with fail
      clear y1 x1 hOBl hOBn hcv Da
      generalize (wa.setCell ⟨OB, 1, none⟩ (.string _)).alloc (.cells #[.int .u8 (97 + ((s11.next 2).1 : Int))] 5) = wb at *
      have y0 := Db.out.b.cl 0 _ rfl
      have y3 := Db.out.b.cl 3 _ rfl
      have y4 := Db.out.b.cl 4 _ rfl
      have x0 := Db.out.b.fz 0
      have x3 := Db.out.b.fz 3
      have x4 := Db.out.b.fz 4
      have hOBl := Db.out.b.lt
      have Dc := hd9 (((Db.out.setO DD.out 0 (.int .i64 1) { o9 with path := abcP (s11.next 2).1, kind := 1 } rfl).setO DD.out 3 (.int .i64 0) { o9 with path := abcP (s11.next 2).1, kind := 1, ver := 0 } rfl).setO DD.out 4 (.bool true) ⟨1, abcP (s11.next 2).1, o9.data, 0, true⟩ rfl)
      clear Db
      go_wp2_with fail
      go_meet
      exact ⟨_, _, Dc, (by show _ = _; rw [if_pos trivial])⟩
    · have hkI : ¬ (kk : Int) = 9 := by omega
      go_wp2_with fail
      go_meet
      exact ⟨_, _, D9, (by show _ = _; rw [if_neg hk0])⟩
  case rest =>
  obtain ⟨o10, s12, D10, E9⟩ := hcut
  clear D9
  go_upto_if 106 with fail
  generalize hw9 : wc = wq at *
  clear hw9
  go_cut [] from 105 to 110 (fun wx => ∃ (o' : Op5) (s' : Sr), Hid (DP W w2 k w1.heap.size TB RB OB (.slice av ns.length cv) (.slice (some ⟨g, 0, none⟩) os.length cu) os o' s' wx) ∧ Hid ((o', s') = if kk = 10 then ({ o10 with ver := 2147483647 + ((s12.next 2).1 : Int) }, (s12.next 2).2) else (o10, s12)))
  case first =>
    by_cases hk0 : kk = 10
    · subst hk0
      have hl2 := s12.next_lt 2 (by omega)
      go_wp2_with fail
      refine (next_x wq k w1.heap.size 2 s12 D10.out.src (by omega)).mono ?_
      rintro e wa ⟨rfl, sa, ta⟩
      have Da := hd9 (D10.out.next DD.out sa ta)
      clear sa ta
      have y0 := Da.out.b.cl 3 _ rfl
      have y1 := Da.out.b.fz 3
      have y2 := Da.out.b.lt
      have Db := hd9 (Da.out.setO DD.out 3 (.int .i64 (2147483647 + ((s12.next 2).1 : Int))) ({ o10 with ver := 2147483647 + ((s12.next 2).1 : Int) }) rfl)
      go_wp2_with fail
      go_meet
      exact ⟨_, _, Db, (by show _ = _; rw [if_pos trivial])⟩
    · have hkI : ¬ (kk : Int) = 10 := by omega
      go_wp2_with fail
      go_meet
      exact ⟨_, _, D10, (by show _ = _; rw [if_neg hk0])⟩
  case rest =>
  obtain ⟨o11, s13, D11, E10⟩ := hcut
  clear D10
  generalize hw9 : wc = wq at *
  clear hw9
  have hgn := World.ownsRow.lt D11.out.own g rfl
  have hcell : ∀ j, j < 5 → ∃ x, wq.cell? ⟨g, i * 5 + j, none⟩ = some x := fun j hj => by
    have hh := orow_get os i j hil hj
    obtain ⟨u9, hu9⟩ : ∃ u9, (opL (oAt os i))[j]? = some u9 := ⟨_, List.getElem?_eq_getElem (by show j < 5; exact hj)⟩
    rw [hu9] at hh
    have := World.ownsRow.cells D11.out.own (g := g) rfl (i * 5 + j) _ hh
    rw [Addr.add_lit, Nat.zero_add] at this
    exact ⟨_, this⟩
  obtain ⟨v0, e0⟩ := hcell 0 (by omega)
  obtain ⟨v1, e1⟩ := hcell 1 (by omega)
  obtain ⟨v2, e2⟩ := hcell 2 (by omega)
  obtain ⟨v3, e3⟩ := hcell 3 (by omega)
  obtain ⟨v4, e4⟩ := hcell 4 (by omega)
  rw [Nat.add_zero] at e0
  clear hcell
  have f0 := World.ownsRow.frozenAt D11.out.own (i * 5)
  have f1 := World.ownsRow.frozenAt D11.out.own (i * 5 + 1)
  have f2 := World.ownsRow.frozenAt D11.out.own (i * 5 + 2)
  have f3 := World.ownsRow.frozenAt D11.out.own (i * 5 + 3)
  have f4 := World.ownsRow.frozenAt D11.out.own (i * 5 + 4)
  have b0 := D11.out.b.cl 0 _ rfl
  have b1 := D11.out.b.cl 1 _ rfl
  have b2 := D11.out.b.cl 2 _ rfl
  have b3 := D11.out.b.cl 3 _ rfl
  have b4 := D11.out.b.cl 4 _ rfl
  have q0 := D11.out.q.cl 0 _ rfl
  have DU := hd9 (D11.out.putU DD.out i hil)
  go_upto_region 38 with fail
  clear e0 e1 e2 e3 e4 f0 f1 f2 f3 f4 b0 b1 b2 b3 b4 q0 D11
  generalize ((((wq.setCell _ _).setCell _ _).setCell _ _).setCell _ _).setCell _ _ = w14 at *
  have bD : Below w14.heap.size w14 w14.drew := below_drewN' w14 1
  have Dd := hd9 (DU.out.below DD.out bD)
  refine wp_region_held_drew (S := fun w9 => w9.cell? ⟨TB, 0, none⟩ = some (.slice av ns.length cv) ∧ w9.cell? ⟨RB, 0, none⟩ = some (.slice (some ⟨g, 0, none⟩) os.length cu)) (by kernel_rfl) ⟨Dd.out.t.cl 0 _ rfl, Dd.out.q.cl 0 _ rfl⟩ (fun hHeld => ?_)
  clear bD DU
  generalize w14.drew = wd at *
  refine wpAnyH_take (i := 0) (oi := { dst := some 116, op := _, type := _, pos := _, after := _, guard := _ }) (v := (.agg #[.slice av ns.length cv])) rfl (by kernel_rfl) (by kernel_rfl) (by kernel_rfl) (fun _ _ _ h => h) (Or.inl ⟨by rfl, fun w9 hS9 => by (obtain ⟨h9, h8⟩ := hS9; go_simp; try with_reducible rfl)⟩) (by assumption) ?_
  try simp only [Act.put, List.setIfInBounds_toArray, List.set_cons_zero, List.set_cons_succ]
  refine wpAnyH_take (i := 1) (oi := { dst := some 117, op := _, type := _, pos := _, after := _, guard := _ }) (v := (.agg #[.slice (some ⟨g, 0, none⟩) os.length cu])) rfl (by kernel_rfl) (by kernel_rfl) (by kernel_rfl) (fun _ _ _ h => h) (Or.inl ⟨by rfl, fun w9 hS9 => by (obtain ⟨h9, h8⟩ := hS9; go_simp; try with_reducible rfl)⟩) (by assumption) ?_
  try simp only [Act.put, List.setIfInBounds_toArray, List.set_cons_zero, List.set_cons_succ]
  refine wpAnyH_take (i := 2) (oi := { dst := some 118, op := _, type := _, pos := _, after := _, guard := _ }) (v := (.int .i64 z2')) rfl (by kernel_rfl) (by kernel_rfl) (by kernel_rfl) (fun _ _ _ h => h) (Or.inl ⟨by rfl, fun w9 hS9 => by (clear hS9; go_simp; try with_reducible rfl)⟩) (by assumption) ?_
  try simp only [Act.put, List.setIfInBounds_toArray, List.set_cons_zero, List.set_cons_succ]
  have F := hd9 (Dd.out.fin DD.out HRD.out)
  have hdk := DD.out.ak
  have hdB := DD.out.aB
  have hdT := DD.out.aT
  have hdR := DD.out.aR
  have S0 := hd9 (Dd.out.r0.set 0 (.slice av ns.length cv))
  have S1 := hd9 (Dd.out.r1.tch (tch_set9 wd W.heap.size 0 (.slice av ns.length cv)) (by omega))
  have T0 := hd9 (Dd.out.t.tch (tch_set9 wd W.heap.size 0 (.slice av ns.length cv)) (by omega))
  have Q0 := hd9 (Dd.out.q.tch (tch_set9 wd W.heap.size 0 (.slice av ns.length cv)) (by omega))
  refine wpAnyH_ready (rs := [3]) (by kernel_rfl) (by simp) ?_
  refine AllReadyH.cons (o := { dst := none, op := _, type := _, pos := _, after := _, guard := _ }) rfl (fun K hK => ?_) AllReadyH.nil
  have y0 := Dd.out.r0.cl 0 _ rfl
  have y1 := Dd.out.r0.fz 0
  go_simp
  refine hK.out _ _ ⟨T0.out.cl 0 _ rfl, Q0.out.cl 0 _ rfl⟩ (fun hx9 => ?_)
  clear hK K hHeld y0 y1
  have hHeld := hx9
  clear hx9
  try simp only [Act.put, List.setIfInBounds_toArray, List.set_cons_zero, List.set_cons_succ]
  refine wpAnyH_ready (rs := [4]) (by kernel_rfl) (by simp) ?_
  refine AllReadyH.cons (o := { dst := none, op := _, type := _, pos := _, after := _, guard := _ }) rfl (fun K hK => ?_) AllReadyH.nil
  have y0 := S1.out.cl 0 _ rfl
  have y1 := S1.out.fz 0
  go_simp
  have S2 := hd9 (S1.out.set 0 (.slice (some ⟨g, 0, none⟩) os.length cu))
  have S3 := hd9 (S0.out.tch (tch_set9 _ (W.heap.size + 1) 0 (.slice (some ⟨g, 0, none⟩) os.length cu)) (by omega))
  refine hK.out _ _ ⟨(T0.out.tch (tch_set9 _ (W.heap.size + 1) 0 (.slice (some ⟨g, 0, none⟩) os.length cu)) (by omega)).cl 0 _ rfl, (Q0.out.tch (tch_set9 _ (W.heap.size + 1) 0 (.slice (some ⟨g, 0, none⟩) os.length cu)) (by omega)).cl 0 _ rfl⟩ (fun hx9 => ?_)
  clear hK K hHeld y0 y1
  have hHeld := hx9
  clear hx9
  try simp only [Act.put, List.setIfInBounds_toArray, List.set_cons_zero, List.set_cons_succ]
  refine wpAnyH_take (i := 5) (oi := { dst := some 4, op := _, type := _, pos := _, after := _, guard := _ }) (v := (.int .i64 z2')) rfl (by kernel_rfl) (by kernel_rfl) (by kernel_rfl) (fun _ _ _ h => h) (Or.inl ⟨by rfl, fun w9 hS9 => by (clear hS9; go_simp; try with_reducible rfl)⟩) (by assumption) ?_
  try simp only [Act.put, List.setIfInBounds_toArray, List.set_cons_zero, List.set_cons_succ]
  refine wpAnyH_done (by kernel_rfl) ?_ _
  clear hHeld Dd S0 S1 T0 Q0
  have x0 := S3.out.cl 0 _ rfl
  have x1 := S2.out.cl 0 _ rfl
  clear S2 S3
  have HR9 : Hid ((ns, os.set i o11, z2') = RES) := by
    have a := HRES.out
    rw [← prpK_steps E0.out E1.out hk2.out hk3.out E4.out E5.out E6.out E7.out E8.out E9.out E10.out] at a
    exact a
  clear E0 E1 E4 E5 E6 E7 E8 E9 E10 hk2 hk3
  have h9 := HR9.out
  clear HR9 HRES
  subst h9
  go_wp2
  exact bodyPost_ret (v := .tuple #[.agg #[.slice av ns.length cv], .agg #[.slice (some ⟨g, 0, none⟩) os.length cu], .int .i64 z2']) (by simp [results, Tryz.results6, go_sem, x0, x1]) rfl ⟨_, _, rfl, F.out.1, F.out.2.1, F.out.2.2, hnk.out⟩

end Go.Proofs.YtdiingonnddkcaaGreatDoor
namespace Go.Proofs.YtdiingonnddkcaaGreatDoor
open Go.RowKit
section
variable {P : Program} {md : Region.Mode} {ops : Array Oper} {Q : Exit → Act → World → Prop} {S : World → Prop} {fuel : Nat} {listed : Array Bool} {a : Act} {w : World} {d : Option Nat} {op : Op} {ty : TypeId} {ps : String} {af : Array Edge} {gu : Option (Nat × Bool)} {os : List Oper}
theorem tkE9 (i : Nat) (v : Value) (hi : ops[i]? = some ⟨d, op, ty, ps, af, gu⟩) (hb : ((Region.noSelect ops && (Region.free md ops listed i && (Region.ready md ops listed).contains i)) && (Region.wanted ⟨d, op, ty, ps, af, gu⟩ (yielded ops a.tmps) == true)) = true) (hQ : ∀ p : List PanicEntry × Act × World, Q (.panic p.1) (p.2.1.put d v) p.2.2 → Q (.panic p.1) p.2.1 p.2.2) (hS : S w) (hy : ∀ w, S w → (execOp a.eval ⟨d, op, ty, ps, af, gu⟩).run P w = .ok (.value v) w) (h : wpAnyH P md ops Q S fuel (listed.setIfInBounds i true) (a.put d v) w) : wpAnyH P md ops Q S (fuel + 1) listed a w := tkL9 hi (Bool.and_eq_true_iff.1 hb).1 (fun c a w h => hQ (c, a, w) h) (beq_iff_eq.1 (Bool.and_eq_true_iff.1 hb).2) hS hy h
theorem tkI9 (v : Value) (hb : (ops[ops.size - (os.length + 1)]?, ((Region.noSelect ops && (Region.free md ops listed (ops.size - (os.length + 1)) && (Region.ready md ops listed).contains (ops.size - (os.length + 1)))) && (Region.wanted ⟨d, op, ty, ps, af, gu⟩ (yielded ops a.tmps) == true))) = (some ⟨d, op, ty, ps, af, gu⟩, true)) (hQ : ∀ p : List PanicEntry × Act × World, Q (.panic p.1) (p.2.1.put d v) p.2.2 → Q (.panic p.1) p.2.1 p.2.2) (hS : S w) (hy : ∀ w, S w → (execOp a.eval ⟨d, op, ty, ps, af, gu⟩).run P w = .ok (.value v) w) (h : wpAnyH P md ops Q S os.length (listed.setIfInBounds (ops.size - (os.length + 1)) true) (a.put d v) w) : wpAnyH P md ops Q S (⟨d, op, ty, ps, af, gu⟩ :: os).length listed a w := tkE9 _ v (Prod.mk.inj hb).1 (Prod.mk.inj hb).2 hQ hS hy h
theorem tkU9 (i : Nat) (hi : ops[i]? = some ⟨d, op, ty, ps, af, gu⟩) (hb : ((Region.noSelect ops && (Region.free md ops listed i && (Region.ready md ops listed).contains i)) && (Region.wanted ⟨d, op, ty, ps, af, gu⟩ (yielded ops a.tmps) == false)) = true) (hQ : ∀ p : List PanicEntry × Act × World, Q (.panic p.1) (p.2.1.put d undef) p.2.2 → Q (.panic p.1) p.2.1 p.2.2) (hS : S w) (h : wpAnyH P md ops Q S fuel (listed.setIfInBounds i true) (a.put d undef) w) : wpAnyH P md ops Q S (fuel + 1) listed a w := tkR9 hi (Bool.and_eq_true_iff.1 hb).1 (fun c a w h => hQ (c, a, w) h) (beq_iff_eq.1 (Bool.and_eq_true_iff.1 hb).2) hS h
theorem tkN9 (hb : (ops[ops.size - (os.length + 1)]?, ((Region.noSelect ops && (Region.free md ops listed (ops.size - (os.length + 1)) && (Region.ready md ops listed).contains (ops.size - (os.length + 1)))) && (Region.wanted ⟨d, op, ty, ps, af, gu⟩ (yielded ops a.tmps) == false))) = (some ⟨d, op, ty, ps, af, gu⟩, true)) (hQ : ∀ p : List PanicEntry × Act × World, Q (.panic p.1) (p.2.1.put d undef) p.2.2 → Q (.panic p.1) p.2.1 p.2.2) (hS : S w) (h : wpAnyH P md ops Q S os.length (listed.setIfInBounds (ops.size - (os.length + 1)) true) (a.put d undef) w) : wpAnyH P md ops Q S (⟨d, op, ty, ps, af, gu⟩ :: os).length listed a w := tkU9 _ (Prod.mk.inj hb).1 (Prod.mk.inj hb).2 hQ hS h
theorem rdA9 (i : Nat) (ho : ops[i]? = some ⟨d, op, ty, ps, af, gu⟩) (hr : Region.ready md ops listed = [i]) (h : ∀ K' : Act → World → Prop, Shut (∀ a w, S w → (S w → wpAnyH P md ops Q S fuel (listed.setIfInBounds i true) a w) → K' a w) → if Region.wanted ⟨d, op, ty, ps, af, gu⟩ (yielded ops a.tmps) = true then Oper.wp P ⟨d, op, ty, ps, af, gu⟩ a w K' Q else K' (a.put d undef) w) : wpAnyH P md ops Q S (fuel + 1) listed a w := wpAnyH_ready hr (by simp) (AllReadyH.cons ho h AllReadyH.nil)
theorem rdB9 (i j : Nat) {d2 : Option Nat} {op2 : Op} {ty2 : TypeId} {ps2 : String} {af2 : Array Edge} {gu2 : Option (Nat × Bool)} (ho : ops[i]? = some ⟨d, op, ty, ps, af, gu⟩) (ho2 : ops[j]? = some ⟨d2, op2, ty2, ps2, af2, gu2⟩) (hr : Region.ready md ops listed = [i, j]) (h : ∀ K' : Act → World → Prop, Shut (∀ a w, S w → (S w → wpAnyH P md ops Q S fuel (listed.setIfInBounds i true) a w) → K' a w) → if Region.wanted ⟨d, op, ty, ps, af, gu⟩ (yielded ops a.tmps) = true then Oper.wp P ⟨d, op, ty, ps, af, gu⟩ a w K' Q else K' (a.put d undef) w) (h2 : ∀ K' : Act → World → Prop, Shut (∀ a w, S w → (S w → wpAnyH P md ops Q S fuel (listed.setIfInBounds j true) a w) → K' a w) → if Region.wanted ⟨d2, op2, ty2, ps2, af2, gu2⟩ (yielded ops a.tmps) = true then Oper.wp P ⟨d2, op2, ty2, ps2, af2, gu2⟩ a w K' Q else K' (a.put d2 undef) w) : wpAnyH P md ops Q S (fuel + 1) listed a w := wpAnyH_ready hr (by simp) (AllReadyH.cons ho h (AllReadyH.cons ho2 h2 AllReadyH.nil))
end
end Go.Proofs.YtdiingonnddkcaaGreatDoor
namespace Go.Proofs.YtdiingonnddkcaaGreatDoor
open Go.RowKit Go.Shelf

theorem OwnN.at {e : TypeId} {w : World} {lo : Nat} {v : Value} {ns : List Nd} (h : OwnN e w lo v ns) {k : Nat} (hk : k < ns.length) : ∃ g c, v = .slice (some ⟨g, 0, none⟩) ns.length c ∧ lo ≤ g ∧ g < w.heap.size ∧ ∀ i, i < ns.length → CellsN w g (i * 7) (nAt ns i) := by
  have hr := h.rd
  rcases h.2 with ⟨rfl, h0⟩ | ⟨g, cap, cur, rfl, hb, hg, hn, hm, hs, ht⟩
  · omega
  · refine ⟨g, cap, rfl, hb, (Array.getElem?_eq_some_iff.1 hg).1, fun i hi => ?_⟩
    obtain ⟨ao, c9, e9, -, -, h3⟩ := hr
    simp only [Value.slice.injEq] at e9
    rcases h3 with h3 | ⟨b, off, e8, hlt, hc⟩
    · rw [h3] at hk; simp at hk
    · rw [e8] at e9
      simp only [Option.some.injEq, Addr.mk.injEq] at e9
      obtain ⟨⟨rfl, rfl, -⟩, -⟩ := e9
      have := hc i hi
      rwa [Nat.zero_add] at this
/-- A fault. -/
def flt (c : Int) : Value := .iface 71 (.agg #[.int .i64 c])
/-- What wanted answers. -/
def wanV (ns : List Nd) (o : Op5) : Array Value :=
  if ¬ ns.findIdx (isP o.path) < ns.length then #[.int .i64 0, flt 2]
  else if o.ver ≠ -1 ∧ o.ver ≠ (nAt ns (ns.findIdx (isP o.path))).ver then #[.int .i64 0, flt 4]
  else #[.int .i64 (ns.findIdx (isP o.path) : Int), .nilIface]

set_option linter.unusedSimpArgs false in
set_option maxHeartbeats 2000000 in
set_option maxRecDepth 100000 in
theorem wanted_any (w : World) (D lo : Nat) (z : Int) (v : Value) (ns : List Nd) (o : Op5) (h : Df w D lo z v ns) :
    Calls Tryz.prog 110 #[.pointer (some ⟨D, 0, none⟩), .agg #[.int .i64 o.kind, .string o.path, .string o.data, .int .i64 o.ver, .bool o.seq]] w fun e w' => e = .returned (.tuple (wanV ns o)) ∧ Below w.heap.size w w' := by
  obtain ⟨kind, path, data, ver, seq⟩ := o
  simp only at *
  have hlt := h.s.lt
  obtain ⟨FD, hFD⟩ : ∃ b, b = decide (ns.findIdx (isP path) < ns.length) := ⟨_, rfl⟩
  have HF : Hid (∀ W, Below w.heap.size w W → Calls Tryz.prog 35 #[v, .string path] W fun e w' => e = .returned (.tuple #[.int .i64 (plc ns path : Int), .bool FD]) ∧ Below W.heap.size W w') := fun W hW => by
    rw [hFD]; exact find9 W v ns path (h.o.below hW).rd h.n
  have HFD := hd9 hFD
  clear hFD
  have B0 : Hid (Below w.heap.size w (w.alloc (.cells #[.int .i64 kind, .string path, .string data, .int .i64 ver, .bool seq] 40))) := (Below.refl _ _).alloc (Nat.le_refl _) _
  have XO : Hid (St (w.alloc (.cells #[.int .i64 kind, .string path, .string data, .int .i64 ver, .bool seq] 40)) w.heap.size [.int .i64 kind, .string path, .string data, .int .i64 ver, .bool seq]) := St.new _ _ _
  have XD : Hid (Df (w.alloc (.cells #[.int .i64 kind, .string path, .string data, .int .i64 ver, .bool seq] 40)) D lo z v ns) := h.below B0.out
  clear h
  go_enter Tryz.func110, Tryz.ntmps110
  go_wp2_with fail
  generalize w.alloc _ = w0 at *
  refine wp_region_held_drew (S := fun W => W.cell? ⟨D, 0, none⟩ = some v ∧ W.cell? ⟨w.heap.size, 1, none⟩ = some (.string path)) (by kernel_rfl) ⟨(XD.out.below (below_drewN' w0 1)).s.cl 0 _ rfl, (XO.out.below (below_drewN' w0 1)).cl 1 _ rfl⟩ (fun hHeld => ?_)
  have B1 : Hid (Below w.heap.size w w0.drew) := B0.out.trans ((below_drewN' w0 1).mono B0.out.size)
  have X1 : Hid (St w0.drew w.heap.size [.int .i64 kind, .string path, .string data, .int .i64 ver, .bool seq]) := XO.out.below (below_drewN' w0 1)
  have D1 : Hid (Df w0.drew D lo z v ns) := XD.out.below (below_drewN' w0 1)
  clear B0 XO XD
  generalize w0.drew = w1 at *
  iterate 6 (refine tkI9 ?_ (by kernel_rfl) (fun _ => id) hHeld ?_ ?_; rotate_left; · intro w9 hS9; obtain ⟨k0, k1⟩ := hS9; go_simp; try with_reducible rfl)
  refine rdA9 6 rfl (by kernel_rfl) (fun K hK => ?_)
  go_simp
  refine (HF.out _ B1.out).mono ?_
  rintro e w2 ⟨rfl, b2⟩
  have B2 : Hid (Below w.heap.size w w2) := B1.out.trans (b2.mono B1.out.size)
  have X2 : Hid (St w2 w.heap.size [.int .i64 kind, .string path, .string data, .int .i64 ver, .bool seq]) := X1.out.below b2
  have D2 : Hid (Df w2 D lo z v ns) := D1.out.below b2
  clear hHeld b2 B1 X1 D1
  refine hK.out _ _ ⟨D2.out.s.cl 0 _ rfl, X2.out.cl 1 _ rfl⟩ (fun hHeld => ?_)
  clear hK K
  iterate 5 (refine tkI9 ?_ (by kernel_rfl) (fun _ => id) hHeld ?_ ?_; rotate_left; · intro w9 hS9; clear hS9; go_simp; try with_reducible rfl)
  refine wpAnyH_done (by kernel_rfl) ?_ _
  simp only [Act.put, sT9, sZ9, sS9]
  clear hHeld HF
  cases FD with
  | true =>
    have hf : ns.findIdx (isP path) < ns.length := of_decide_eq_true HFD.out.symm
    have hpl := (idx_some D2.out.n.1 hf).2
    rw [hpl]
    clear hpl HFD
    obtain ⟨I, hI⟩ : ∃ I, I = ns.findIdx (isP path) := ⟨_, rfl⟩
    rw [← hI] at hf ⊢
    have hL : (I : Int) < (ns.length : Int) := by omega
    obtain ⟨g, gc, hv, hlo, hgl, hce⟩ := D2.out.o.at hf
    subst hv
    have HI := hd9 hI
    have HCE := hd9 hce
    clear hI hce
    have hg0 : (0 : Int) ≤ (I : Int) := by omega
    have HVR : Hid (wanV ns ⟨kind, path, data, ver, seq⟩ = (if ver ≠ -1 ∧ ver ≠ (nAt ns I).ver then #[.int .i64 0, flt 4] else #[.int .i64 (I : Int), .nilIface])) := by
      show _ = _
      unfold wanV
      simp only
      rw [if_neg (by rw [← HI.out]; omega), ← HI.out]
    clear HI
    go_wp2_with fail
    have X3 : Hid (St w2.drew w.heap.size [.int .i64 kind, .string path, .string data, .int .i64 ver, .bool seq]) := X2.out.below (below_drewN' w2 1)
    have D3 : Hid (Df w2.drew D lo z (.slice (some ⟨g, 0, none⟩) ns.length gc) ns) := D2.out.below (below_drewN' w2 1)
    have B3 : Hid (Below w.heap.size w w2.drew) := B2.out.trans ((below_drewN' w2 1).mono B2.out.size)
    refine wp_region_held_drew (S := fun W => W.cell? ⟨w.heap.size, 3, none⟩ = some (.int .i64 ver) ∧ W.cell? ⟨D, 0, none⟩ = some (.slice (some ⟨g, 0, none⟩) ns.length gc) ∧ W.cell? ⟨g, I * 7 + 2, none⟩ = some (.int .i64 (nAt ns I).ver)) (by kernel_rfl) ⟨X3.out.cl 3 _ rfl, D3.out.s.cl 0 _ rfl, ((HCE.out I hf).below (below_drewN' w2 1) hgl).all.2.2.1⟩ (fun hHeld => ?_)
    generalize w2.drew = w3 at *
    by_cases hv1 : ver = -1
    · subst hv1
      iterate 4 (refine tkI9 ?_ (by kernel_rfl) (fun _ => id) hHeld ?_ ?_; rotate_left; · intro w9 hS9; obtain ⟨k0, k1, k2⟩ := hS9; go_simp; try with_reducible rfl)
      iterate 11 (refine tkN9 (by kernel_rfl) (fun _ => id) hHeld ?_)
      iterate 1 (refine tkI9 ?_ (by kernel_rfl) (fun _ => id) hHeld ?_ ?_; rotate_left; · intro w9 hS9; clear hS9; go_simp; try with_reducible rfl)
      refine wpAnyH_done (by kernel_rfl) ?_ _
      simp only [Act.put, sT9, sZ9, sS9]
      clear hHeld
      have HV : Hid (wanV ns ⟨kind, path, data, -1, seq⟩ = #[.int .i64 (I : Int), .nilIface]) := by show _ = _; rw [HVR.out]; simp
      go_wp2_with fail
      rw [HV.out]
      exact bodyPost_ret (v := .tuple #[.int .i64 (I : Int), .nilIface]) (by simp [results, Tryz.results110, go_sem]) rfl ⟨rfl, B3.out⟩
    · have hne : (ver != -1) = true := by simp [hv1]
      by_cases hv2 : ver = (nAt ns I).ver
      · have hn2 : (ver != (nAt ns I).ver) = false := by simp [hv2]
        have HV : Hid (wanV ns ⟨kind, path, data, ver, seq⟩ = #[.int .i64 (I : Int), .nilIface]) := by show _ = _; rw [HVR.out, if_neg (by simp [hv2])]
        clear HVR
        iterate 2 (refine tkI9 ?_ (by kernel_rfl) (fun _ => id) hHeld ?_ ?_; rotate_left; · intro w9 hS9; obtain ⟨k0, k1, k2⟩ := hS9; go_simp; try with_reducible rfl)
        refine tkI9 (.bool true) (by kernel_rfl) (fun _ => id) hHeld ?_ ?_
        · intro w9 hS9; clear hS9; go_simp; try (first | exact hv1 | simp_all)
        iterate 11 (refine tkI9 ?_ (by kernel_rfl) (fun _ => id) hHeld ?_ ?_; rotate_left; · intro w9 hS9; obtain ⟨k0, k1, k2⟩ := hS9; go_simp; try with_reducible rfl)
        refine tkI9 (.bool false) (by kernel_rfl) (fun _ => id) hHeld ?_ ?_
        · intro w9 hS9; clear hS9; go_simp; try (first | exact hv1 | simp_all)
        iterate 1 (refine tkI9 ?_ (by kernel_rfl) (fun _ => id) hHeld ?_ ?_; rotate_left; · intro w9 hS9; clear hS9; go_simp; try with_reducible rfl)
        refine wpAnyH_done (by kernel_rfl) ?_ _
        simp only [Act.put, sT9, sZ9, sS9]
        clear hHeld hv1 hne hn2
        go_wp2_with fail
        rw [HV.out]
        exact bodyPost_ret (v := .tuple #[.int .i64 (I : Int), .nilIface]) (by simp [results, Tryz.results110, go_sem, flt]) rfl ⟨rfl, B3.out⟩
      · have hn2 : (ver != (nAt ns I).ver) = true := by simp [hv2]
        have HV : Hid (wanV ns ⟨kind, path, data, ver, seq⟩ = #[.int .i64 0, flt 4]) := by show _ = _; rw [HVR.out, if_pos ⟨hv1, hv2⟩]
        clear HVR
        iterate 2 (refine tkI9 ?_ (by kernel_rfl) (fun _ => id) hHeld ?_ ?_; rotate_left; · intro w9 hS9; obtain ⟨k0, k1, k2⟩ := hS9; go_simp; try with_reducible rfl)
        refine tkI9 (.bool true) (by kernel_rfl) (fun _ => id) hHeld ?_ ?_
        · intro w9 hS9; clear hS9; go_simp; try (first | exact hv1 | simp_all)
        iterate 11 (refine tkI9 ?_ (by kernel_rfl) (fun _ => id) hHeld ?_ ?_; rotate_left; · intro w9 hS9; obtain ⟨k0, k1, k2⟩ := hS9; go_simp; try with_reducible rfl)
        refine tkI9 (.bool true) (by kernel_rfl) (fun _ => id) hHeld ?_ ?_
        · intro w9 hS9; clear hS9; go_simp; try (first | exact hv1 | simp_all)
        iterate 1 (refine tkI9 ?_ (by kernel_rfl) (fun _ => id) hHeld ?_ ?_; rotate_left; · intro w9 hS9; clear hS9; go_simp; try with_reducible rfl)
        refine wpAnyH_done (by kernel_rfl) ?_ _
        simp only [Act.put, sT9, sZ9, sS9]
        clear hHeld hv1 hne hn2
        go_wp2_with fail
        rw [HV.out]
        exact bodyPost_ret (v := .tuple #[.int .i64 0, flt 4]) (by simp [results, Tryz.results110, go_sem, flt]) rfl ⟨rfl, B3.out⟩
  | false =>
    have hf : ¬ ns.findIdx (isP path) < ns.length := of_decide_eq_false HFD.out.symm
    have HV : Hid (wanV ns ⟨kind, path, data, ver, seq⟩ = #[.int .i64 0, flt 2]) := by show _ = _; unfold wanV; rw [if_pos hf]
    clear hf HFD
    go_wp2_with fail
    rw [HV.out]
    exact bodyPost_ret (v := .tuple #[.int .i64 0, flt 2]) (by simp [results, Tryz.results110, go_sem, flt]) rfl ⟨rfl, B2.out⟩

end Go.Proofs.YtdiingonnddkcaaGreatDoor


