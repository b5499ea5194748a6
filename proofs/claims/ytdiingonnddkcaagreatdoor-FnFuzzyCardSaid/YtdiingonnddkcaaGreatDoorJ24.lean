import Derived.Test.YtdiingonnddkcaaGreatDoorJ22
import Derived.Test.YtdiingonnddkcaaGreatDoorJ23
import Derived.Test.YtdiingonnddkcaaGreatDoorJ05
namespace Go.Proofs.YtdiingonnddkcaaGreatDoor
open Go.RowKit Go.Shelf

/-- A slice without an address has no room. -/
def NilOk (v : Value) : Prop := ∀ n c, v = .slice none n c → n = 0 ∧ c = 0
theorem OwnN.nilOk {e : TypeId} {w : World} {lo : Nat} {v : Value} {ns : List Nd} (h : OwnN e w lo v ns) : NilOk v := by
  intro n c hv
  rcases h.2 with ⟨rfl, _⟩ | ⟨g, cap, cur, rfl, _⟩
  · simp only [Value.slice.injEq, true_and] at hv
    exact ⟨hv.1.symm, hv.2.symm⟩
  · simp at hv
theorem nrow_take {R : List Nd} {L j : Nat} {u : Value} (h : (nrow (R.take L))[j]? = some u) : (nrow R)[j]? = some u := by
  have e : nrow R = nrow (R.take L) ++ nrow (R.drop L) := by rw [← nrow_append, List.take_append_drop]
  rw [e, List.getElem?_append_left (List.getElem?_eq_some_iff.1 h).1]
  exact h
theorem RdN.rowCells {w : World} {ao : Option Addr} {c : Nat} {R : List Nd} (h : RdN w (.slice ao R.length c) R) : ∀ ad, ao = some ad → ∀ j u, (nrow R)[j]? = some u → w.cell? (ad.add j) = some u := by
  obtain ⟨ao', c', e, -, -, h3⟩ := h
  simp only [Value.slice.injEq] at e
  obtain ⟨rfl, -, rfl⟩ := e
  intro ad had j u hu
  rcases h3 with rfl | ⟨b, o, rfl, hb, hc⟩
  · simp [nrow] at hu
  · obtain rfl := Option.some.inj had
    have hj : j < R.length * 7 := by have := (List.getElem?_eq_some_iff.1 hu).1; rw [nrow_length] at this; exact this
    have h7 : j % 7 < 7 := Nat.mod_lt _ (by decide)
    have hr := nrow_get R (j / 7) (j % 7) (by omega) h7
    rw [show j / 7 * 7 + j % 7 = j by omega, hu] at hr
    have hcc := hc (j / 7) (by omega)
    rw [Addr.add_lit]
    have e : o + j = o + j / 7 * 7 + j % 7 := by omega
    rw [e]
    clear e hu hj
    generalize j % 7 = r at *
    match r, h7 with
    | 0, _ => rw [Nat.add_zero, hcc.c0]; exact hr.symm
    | 1, _ => rw [hcc.c1]; exact hr.symm
    | 2, _ => rw [hcc.c2]; exact hr.symm
    | 3, _ => rw [hcc.c3]; exact hr.symm
    | 4, _ => rw [hcc.c4]; exact hr.symm
    | 5, _ => rw [hcc.c5]; exact hr.symm
    | 6, _ => rw [hcc.c6]; exact hr.symm
theorem ndL_ones (R : List Nd) : ∀ u ∈ nrow R, u.oneCell' = true := by
  intro u hu
  unfold nrow at hu
  obtain ⟨n, _, hn⟩ := List.mem_flatMap.1 hu
  exact ndL_one n u hn
theorem run_head (ao : Option Addr) (n c L : Nat) (h1 : L ≤ n) (h2 : n ≤ c) (W : World) : (Instr.slice 23 (.slice ao n c) none (some (.int .i64 (L : Int))) none).run Tryz.prog W = .ok (.slice ao L c) W := by
  have h : (0 : Int) ≤ (L : Int) := by omega
  have h' : (L : Int) ≤ (c : Int) := by omega
  have he : Tryz.prog.elem 23 = 42 := by kernel_rfl
  rw [run_slice_h W 23 ao n c (by rw [he]; exact Tryz.underlying23) .i64 (L : Int) h h', he]
  go_simp
theorem run_tail (ao : Option Addr) (n c L : Nat) (h1 : L ≤ n) (W : World) : (Instr.slice 23 (.slice ao n c) (some (.int .i64 (L : Int))) none none).run Tryz.prog W = .ok (.slice (if c = L then ao else ao.map (·.add (L * 7))) (n - L) (c - L)) W := by
  have h : (0 : Int) ≤ (L : Int) := by omega
  have h' : (L : Int) ≤ (n : Int) := by omega
  have he : Tryz.prog.elem 23 = 42 := by kernel_rfl
  rw [run_slice_l W 23 ao n c (by rw [he]; exact Tryz.underlying23) .i64 (L : Int) h h', he]
  go_simp
theorem slice_tail {w : World} {ao : Option Addr} {c : Nat} {R : List Nd} (h : RdN w (.slice ao R.length c) R) (hn : NilOk (.slice ao R.length c)) (L : Nat) (hL : L ≤ R.length) :
    ∃ a2, (∀ W, (Instr.slice 23 (.slice ao R.length c) (some (.int .i64 (L : Int))) none none).run Tryz.prog W = .ok (.slice a2 (R.length - L) (c - L)) W) ∧ RdN w (.slice a2 (R.length - L) (c - L)) (R.drop L) ∧ NilOk (.slice a2 (R.length - L) (c - L)) := by
  obtain ⟨ao', c', e, h1, h2, h3⟩ := h
  simp only [Value.slice.injEq] at e
  obtain ⟨rfl, -, rfl⟩ := e
  refine ⟨if c = L then ao else ao.map (·.add (L * 7)), run_tail ao _ c L hL, ⟨_, _, by rw [List.length_drop], by rw [List.length_drop]; omega, by omega, ?_⟩, ?_⟩
  · rcases h3 with rfl | ⟨b, o, rfl, hb, hc⟩
    · exact .inl (by simp)
    · by_cases hcl : c = L
      · exact .inl (List.drop_eq_nil_of_le (by omega))
      · refine .inr ⟨b, o + L * 7, by rw [if_neg hcl, Option.map_some, Addr.add_lit], hb, fun i hi => ?_⟩
        rw [List.length_drop] at hi
        have := hc (L + i) (by omega)
        have e1 : nAt (R.drop L) i = nAt R (L + i) := by unfold nAt; simp [List.getD]
        rw [e1, show o + L * 7 + i * 7 = o + (L + i) * 7 by omega]
        exact this
  · intro n' c2 hv
    simp only [Value.slice.injEq] at hv
    obtain ⟨ha, rfl, rfl⟩ := hv
    have hao : ao = none := by
      by_cases hcl : c = L
      · rw [if_pos hcl] at ha; exact ha
      · rw [if_neg hcl] at ha; simpa using ha
    subst hao
    have := hn _ _ rfl
    omega
theorem apI_rest (ns : List Nd) (es : List Ef) : (apI ns es).2.length ≤ ns.length := by
  have : ∀ (es : List Ef) (st : List Nd × List Nd), (es.foldl apS st).2.length ≤ st.2.length := by
    intro es
    induction es with
    | nil => exact fun st => Nat.le_refl _
    | cons e es ih =>
      intro st
      rw [List.foldl_cons]
      refine Nat.le_trans (ih _) ?_
      unfold apS
      rw [List.length_drop]
      omega
  exact this es ([], ns)
theorem BoxE.grown {w w' : World} {B g : Nat} {n : Ef} (h : BoxE w B n) (hg : w.grownBy w' (some g)) (hne : B ≠ g) : BoxE w' B n := by
  have e := hg.block B h.lt (by simpa using hne)
  have cc : ∀ i, w'.cell? ⟨B, i, none⟩ = w.cell? ⟨B, i, none⟩ := fun i => by simp [World.cell?, e]
  have hs := hg.size
  exact ⟨Nat.lt_of_lt_of_le h.lt hs, (cc _).trans h.c0, (cc _).trans h.c1, (cc _).trans h.c2, (cc _).trans h.c3, (cc _).trans h.c4, (cc _).trans h.c5, (cc _).trans h.c6, (cc _).trans h.c7⟩

/-- What a call of ApplyTxn holds behind k effects. -/
structure ApS (w : World) (g C : Nat) (st : List Nd × List Nd) (v : Value) (z : Int) (vx : Value) (vo vr : Value) (W : World) : Prop where
  own : W.ownsRow (w.heap.size + 3) 42 7 vo st.1.length (nrow st.1)
  head : vo = .slice (some ⟨g, 0, none⟩) st.1.length C
  rest : RdN w vr st.2
  nil : NilOk vr
  below : Below w.heap.size w W
  box : ApB w.heap.size v z vx W

set_option maxHeartbeats 2000000 in
set_option maxRecDepth 100000 in
theorem implApply_any (w : World) (v : Value) (ns : List Nd) (z : Int) (vx : Value) (es : List Ef) (h : RdN w v ns) (hnil : NilOk v) (hx : RdE w vx es)
    (hsz : ∀ i, (nAt ns i).path.size ≤ 1048576 ∧ (nAt ns i).data.size ≤ 1048576) (hsx : ∀ i, (eAt es i).nd.path.size ≤ 1048576 ∧ (eAt es i).nd.data.size ≤ 1048576) :
    Calls Tryz.prog 11 #[.agg #[v], .agg #[.int .i64 z, vx]] w fun e w' => ∃ v', e = .returned (.agg #[v']) ∧ OwnN 42 w' w.heap.size v' (resA ns z es) ∧ Below w.heap.size w w' := by
  obtain ⟨i0, hi, hz0, hz1, hz2⟩ := info_parts Tryz.infoN
  obtain ⟨ao, ca, rfl, _, _⟩ := h.len
  obtain ⟨xo, cx, rfl, _, _⟩ := hx.len
  have HR := hd9 h
  have HX := hd9 hx
  have HN := hd9 hnil
  have HZ := hd9 hsz
  have HZX := hd9 hsx
  have B0 : Hid (Below w.heap.size w (((w.alloc (.cells #[.slice ao ns.length ca] 25)).alloc (.cells #[.int .i64 z, .slice xo es.length cx] 35)).alloc (.cells #[.slice none 0 0] 25))) := (((Below.refl _ _).alloc (Nat.le_refl _) _).alloc (by simp) _).alloc (by simp; omega) _
  have X0 : Hid (ApB w.heap.size (.slice ao ns.length ca) z (.slice xo es.length cx) (((w.alloc (.cells #[.slice ao ns.length ca] 25)).alloc (.cells #[.int .i64 z, .slice xo es.length cx] 35)).alloc (.cells #[.slice none 0 0] 25))) := ApB.new _ _ _ _
  clear h hx hsz hsx hnil
  go_enter Tryz.func11, Tryz.ntmps11
  go_wp2_with fail
  generalize ((w.alloc (.cells #[.slice ao ns.length ca] 25)).alloc (.cells #[.int .i64 z, .slice xo es.length cx] 35)).alloc (.cells #[.slice none 0 0] 25) = w0 at *
  refine (implTree_any _ _ ns (HR.out.below B0.out) HZ.out).mono ?_
  rintro e w1 ⟨rfl, b1⟩
  have B1 := hd9 (B0.out.trans (b1.mono B0.out.size))
  have X1 := hd9 (X0.out.below b1 X0.out.size)
  clear b1 X0 B0
  by_cases hok : okTree ns = true
  rotate_left
  · have hok' : okTree ns = false := by simpa using hok
    have HT : Hid (resA ns z es = []) := by show _ = _; unfold resA; rw [hok']; rfl
    rw [hok']
    clear hok hok'
    have c0 := X1.out.r.cell
    have f0 := X1.out.r.frozen
    go_wp2
    refine bodyPost_ret (v := .agg #[.slice none 0 0]) (by simp [results, Tryz.results11, go_sem, c0]) rfl ⟨_, rfl, (by rw [HT.out]; exact World.ownsRow_nil _ _ _ _), ?_⟩
    repeat (first | exact B1.out | refine Below.setCell ?_ (by simp; try omega) _)
  rw [hok]
  have cx0 := X1.out.x.cells
  go_wp2_with fail
  clear cx0
  refine (implTxn_any _ _ _ es (HX.out.below B1.out) HZX.out).mono ?_
  rintro e w2 ⟨rfl, b2⟩
  have B2 := hd9 (B1.out.trans (b2.mono B1.out.size))
  have X2 := hd9 (X1.out.below b2 X1.out.size)
  clear b2 X1 B1
  by_cases hpp : okTxn z es = true
  rotate_left
  · have hpp' : okTxn z es = false := by simpa using hpp
    have HT : Hid (resA ns z es = []) := by show _ = _; unfold resA; rw [hpp']; simp
    rw [hpp']
    clear hpp hpp' hok
    have c0 := X2.out.r.cell
    have f0 := X2.out.r.frozen
    go_wp2
    refine bodyPost_ret (v := .agg #[.slice none 0 0]) (by simp [results, Tryz.results11, go_sem, c0]) rfl ⟨_, rfl, (by rw [HT.out]; exact World.ownsRow_nil _ _ _ _), ?_⟩
    repeat (first | exact B2.out | refine Below.setCell ?_ (by simp; try omega) _)
  have hn1 := okTree_len hok
  have he1 := (okTxn_es hpp).2
  have HT : Hid (resA ns z es = apL ns es) := by show _ = _; unfold resA; rw [hok, hpp]; rfl
  have HA := hd9 (okTree_asc hok)
  have HE := hd9 (okEs_asc (okTxn_es hpp).1)
  rw [hpp]
  clear hok hpp
  have ct := X2.out.t.cell
  obtain ⟨y0, y1⟩ := X2.out.x.cells
  have s2 := X2.out.size
  generalize hen : es.length = n at *
  have HP := hd9 hen
  clear hen
  generalize hnn : ns.length = m at *
  have HM := hd9 hnn
  clear hnn
  go_wp2_with (at_make; go_must (refine wpList_make_own _ rfl _ _ 23 rfl (w.heap.size + 3) 42 i0 (.agg #[.string ByteArray.empty, .string ByteArray.empty, .int .i64 0, .int .i64 0, .int .i64 0, .int .i64 0, .int .i64 0]) 7 Tryz.underlying23 hi hz0 hz1 _ _ _ (m + n) rfl rfl ?c0 ?b2 ?b3 ?b4 ?_))
  case c0 => omega
  case b2 => rw [hz2]; omega
  case b3 => unfold maxLen; omega
  case b4 => exact s2
  intro w3 ho3 hg3
  have BG := hd9 ((Below.refl _ _).grown hg3 (Nat.le_refl _) (fun q hq => by simp at hq))
  have S3 : Hid (ApS w w2.heap.size (m + n) (apI ns (es.take 0)) (.slice ao m ca) z (.slice xo n cx) (.slice (some ⟨w2.heap.size, 0, none⟩) 0 (m + n)) (.slice ao m ca) w3) := ⟨ho3, rfl, HR.out, HN.out, B2.out.trans (BG.out.mono B2.out.size), X2.out.below BG.out s2⟩
  clear ho3 hg3 BG ct y0 y1
  have ct := S3.out.box.t.cell
  obtain ⟨y0, y1⟩ := S3.out.box.x.cells
  generalize hg : w2.heap.size = g at *
  clear X2 B2 hg
  go_wp2
  go_loopw [5, 6, 33] (fun vo vr vk wr => ∃ k : Nat, k ≤ n ∧ vk = .int .i64 k ∧ Hid (ApS w g (m + n) (apI ns (es.take k)) (.slice ao m ca) z (.slice xo n cx) vo vr wr)) (fun _ _ i _ => n - (intOf i).toNat)
  case atStart => exact ⟨0, Nat.zero_le _, rfl, S3⟩
  case round =>
    clear ct y0 y1 S3
    obtain ⟨k, hk, rfl, HS⟩ := hrel
    obtain ⟨A, R, hAR⟩ : ∃ A R, apI ns (es.take k) = (A, R) := ⟨_, _, rfl⟩
    have hlen : A.length + R.length ≤ m + k := by
      have := apI_len ns es k
      rw [hAR, HM.out] at this
      exact this
    have hrl : R.length ≤ m := by
      have := apI_rest ns (es.take k)
      rw [hAR, HM.out] at this
      exact this
    have HAsc : Hid (Asc R) := by
      have := apI_asc HA.out (es.take k)
      rw [hAR] at this
      exact this
    have HAR := hd9 hAR
    rw [hAR] at HS
    clear hAR
    obtain ⟨OW0, hd0, RR0, NN0, HB0, HBX0⟩ := HS.out
    obtain ⟨ro, rc, h6, hr1, hr2⟩ := RR0.len
    have OW : Hid (OwnN 42 wr (w.heap.size + 3) (.slice (some ⟨g, 0, none⟩) A.length (m + n)) A) := by rw [hd0] at OW0; exact OW0
    have RR : Hid (RdN w (.slice ro R.length rc) R) := by rw [h6] at RR0; exact RR0
    have NN : Hid (NilOk (.slice ro R.length rc)) := by rw [h6] at NN0; exact NN0
    have HB := hd9 HB0
    have HBX := hd9 HBX0
    have hr1' : R.length ≤ rc := hr1
    replace hd0 : u5 = .slice (some ⟨g, 0, none⟩) A.length (m + n) := hd0
    replace h6 : u6 = .slice ro R.length rc := h6
    subst hd0 h6
    clear OW0 RR0 NN0 HB0 HBX0 HS hr1 hr2
    have sB := HB.out.size
    have hgl := (World.ownsRow.lt OW.out g rfl).2
    by_cases hlt : k < n
    · have hltI : (k : Int) < (n : Int) := by omega
      obtain ⟨b, o, hao, hb, hc⟩ : ∃ b o, xo = some ⟨b, o, none⟩ ∧ b < w.heap.size ∧ CellsE w b (o + k * 8) (eAt es k) := by
        obtain ⟨ao', cap', e', -, -, h3⟩ := HX.out
        simp only [Value.slice.injEq] at e'
        obtain ⟨rfl, -, -⟩ := e'
        rcases h3 with h3 | ⟨b, o, rfl, hb, hc⟩
        · have := HP.out; rw [h3] at this; simp at this; omega
        · exact ⟨b, o, rfl, hb, hc k (by rw [HP.out]; exact hlt)⟩
      subst hao
      obtain ⟨c0, c1, c2, c3, c4, c5, c6, c7⟩ := hc.below HB.out hb
      clear hc
      have HS1 : Hid (apI ns (es.take (k + 1)) = apS (A, R) (eAt es k)) := by
        show _ = _
        rw [← HAR.out]
        exact apI_succ ns es k (by rw [HP.out]; exact hlt)
      clear HAR
      go_wp2_with fail
      clear c0 c1 c2 c3 c4 c5 c6 c7
      generalize eAt es k = f at *
      have BA : Hid (Below wr.heap.size wr (wr.alloc (.cells #[.bool f.del, .string f.nd.path, .string f.nd.data, .int .i64 f.nd.ver, .int .i64 f.nd.cver, .int .i64 f.nd.cz, .int .i64 f.nd.mz, .int .i64 f.nd.pz] 59))) := (Below.refl _ _).alloc (Nat.le_refl _) _
      have EX : Hid (BoxE (wr.alloc (.cells #[.bool f.del, .string f.nd.path, .string f.nd.data, .int .i64 f.nd.ver, .int .i64 f.nd.cver, .int .i64 f.nd.cz, .int .i64 f.nd.mz, .int .i64 f.nd.pz] 59)) wr.heap.size f) := BoxE.new _ _ _
      generalize wr.alloc (.cells #[.bool f.del, .string f.nd.path, .string f.nd.data, .int .i64 f.nd.ver, .int .i64 f.nd.cver, .int .i64 f.nd.cz, .int .i64 f.nd.mz, .int .i64 f.nd.pz] 59) = wA at *
      generalize hB : wr.heap.size = B at *
      have HG : Hid (B ≠ g) := by show _ ≠ _; omega
      have OWA := hd9 (OW.out.below (hB ▸ BA.out))
      have B1 := hd9 (HB.out.trans (BA.out.mono sB))
      have X1 := hd9 (HBX.out.below BA.out (by omega))
      clear OW HB HBX BA hB
      obtain ⟨L, hL⟩ : ∃ L, L = plc R f.nd.path := ⟨_, rfl⟩
      have hLR : L ≤ R.length := by rw [hL]; exact plc_le _ _
      have HLow : Hid (Low R f.nd.path L) := by rw [hL]; exact low_plc R _ HAsc.out
      have HS2 : Hid (apI ns (es.take (k + 1)) = (A ++ R.take L ++ (if f.del then [] else [f.nd]), R.drop (L + if fnd R f.nd.path L then 1 else 0))) := by
        show _ = _
        rw [HS1.out, hL]
        rfl
      have HF1 : Hid (fnd R f.nd.path L = true → L < R.length) := by
        intro hh
        unfold fnd at hh
        simp only [Bool.and_eq_true, decide_eq_true_eq] at hh
        exact hh.1
      clear HS1 hL
      refine (findNode_any wA _ R f.nd.path L (RR.out.below B1.out) (by omega) HLow.out).mono ?_
      rintro e w4 ⟨rfl, b4⟩
      have OW4 := hd9 (OWA.out.below b4)
      have B4 := hd9 (B1.out.trans (b4.mono B1.out.size))
      have X4 := hd9 (X1.out.below b4 X1.out.size)
      have E4 := hd9 (EX.out.below b4)
      clear b4 OWA B1 X1 EX
      have hs1 := run_head ro R.length rc L hLR hr1'
      go_wp2_with (at_builtin; go_must (refine wpList_append_fits_any _ rfl _ _ 23 rfl (w.heap.size + 3) 42 i0 7 Tryz.underlying23 hi hz1 g A.length (m + n) (nrow A) rfl OW4.out ro L rc (nrow (R.take L)) rfl ?n1 ?n2 ?n3 ?n4 ?n5 ?_))
      case n1 => rw [nrow_length, List.length_take]; omega
      case n2 => exact fun e => by have := NN.out R.length rc (by rw [e]); omega
      case n3 => exact fun ad had j u hu => (RR.out.below B4.out).rowCells ad had j u (nrow_take hu)
      case n4 => exact ndL_ones _
      case n5 => omega
      intro w5 ho5 hg5
      have OW5 : Hid (OwnN 42 w5 (w.heap.size + 3) (.slice (some ⟨g, 0, none⟩) (A.length + L) (m + n)) (A ++ R.take L)) := by
        show World.ownsRow _ _ _ _ _ _ _
        rw [List.length_append, List.length_take, Nat.min_eq_left hLR, nrow_append]
        exact ho5
      have B5 := hd9 (B4.out.grown hg5 B4.out.size (fun q hq => by simp only [Option.some.injEq] at hq; omega))
      have X5 := hd9 (X4.out.below ((Below.refl (w.heap.size + 3) w4).grown hg5 X4.out.size (fun q hq => by simp only [Option.some.injEq] at hq; omega)) (Nat.le_refl _))
      have E5 := hd9 (E4.out.grown hg5 HG.out)
      have G5 := (World.ownsRow.lt OW5.out g rfl).2
      clear ho5 hg5 OW4 B4 X4 E4 hs1
      obtain ⟨a2, hs2, r2, n2⟩ := slice_tail RR.out NN.out L hLR
      have R2 := hd9 r2
      have N2 := hd9 n2
      clear r2 n2
      obtain ⟨e0, e1, e2, e3, e4, e5, e6, e7⟩ := E5.out.all
      obtain ⟨vr, Rn, hw⟩ : ∃ vr Rn, (Rn = R.drop (L + if fnd R f.nd.path L then 1 else 0) ∧ Hid (RdN w vr Rn) ∧ Hid (NilOk vr)) ∧ ((fnd R f.nd.path L = false ∧ vr = .slice a2 (R.length - L) (rc - L)) ∨ (fnd R f.nd.path L = true ∧ ∀ W, (Instr.slice 23 (.slice a2 (R.length - L) (rc - L)) (some (.int .i64 1)) none none).run Tryz.prog W = .ok vr W)) := by
        cases hf : fnd R f.nd.path L with
        | false => exact ⟨_, _, ⟨rfl, R2, N2⟩, .inl ⟨rfl, rfl⟩⟩
        | true =>
          have hl := HF1.out hf
          have R2' : RdN w (.slice a2 (R.drop L).length (rc - L)) (R.drop L) := by rw [List.length_drop]; exact R2.out
          have N2' : NilOk (.slice a2 (R.drop L).length (rc - L)) := by rw [List.length_drop]; exact N2.out
          obtain ⟨a3, hs3, r3, n3⟩ := slice_tail R2' N2' 1 (by rw [List.length_drop]; omega)
          rw [List.length_drop] at hs3 r3 n3
          rw [List.drop_drop] at r3
          exact ⟨_, _, ⟨rfl, r3, n3⟩, .inr ⟨rfl, hs3⟩⟩
      obtain ⟨⟨hRn, R3, N3⟩, hw⟩ := hw
      have HS3 : Hid (apI ns (es.take (k + 1)) = (A ++ R.take L ++ (if f.del then [] else [f.nd]), Rn)) := by rw [hRn]; exact HS2.out
      have HLT : Hid ((A ++ R.take L).length = A.length + L) := by show _ = _; rw [List.length_append, List.length_take, Nat.min_eq_left hLR]
      clear HS2 hRn
      cases hdel : f.del with
      | true =>
        rw [hdel] at e0
        have S9 : Hid (ApS w g (m + n) (apI ns (es.take (k + 1))) (.slice ao m ca) z (.slice (some ⟨b, o, none⟩) n cx) (.slice (some ⟨g, 0, none⟩) (A.length + L) (m + n)) vr w5) := by
          have e9 : apI ns (es.take (k + 1)) = (A ++ R.take L, Rn) := by rw [HS3.out, hdel]; simp
          rw [e9]
          exact ⟨OW5.out, by rw [HLT.out], R3.out, N3.out, B5.out, X5.out⟩
        clear HS3 HLT OW5 R3 N3 B5 X5 R2 N2
        rcases hw with ⟨hf, rfl⟩ | ⟨hf, hs3⟩
        · rw [hf]
          go_wp2
          exact ⟨⟨k + 1, by omega, by go_num, S9⟩, by simp [intOf]; omega⟩
        · rw [hf]
          go_wp2
          exact ⟨⟨k + 1, by omega, by go_num, S9⟩, by simp [intOf]; omega⟩
      | false =>
        rw [hdel] at e0
        have FIN : Hid (∀ w', w'.ownsRow (w.heap.size + 3) 42 7 (.slice (some ⟨g, 0, none⟩) (A.length + L + 1) (m + n)) (A.length + L + 1) (nrow (A ++ R.take L) ++ ndL f.nd) → ∀ t, (w5.alloc (.cells #[.string f.nd.path, .string f.nd.data, .int .i64 f.nd.ver, .int .i64 f.nd.cver, .int .i64 f.nd.cz, .int .i64 f.nd.mz, .int .i64 f.nd.pz] t)).grownBy w' (some g) → Hid (ApS w g (m + n) (apI ns (es.take (k + 1))) (.slice ao m ca) z (.slice (some ⟨b, o, none⟩) n cx) (.slice (some ⟨g, 0, none⟩) (A.length + L + 1) (m + n)) vr w')) := by
          intro w' how t hgw
          have e9 : apI ns (es.take (k + 1)) = (A ++ R.take L ++ [f.nd], Rn) := by rw [HS3.out, hdel]; simp
          have el : (A ++ R.take L ++ [f.nd]).length = A.length + L + 1 := by rw [List.length_append, HLT.out]; rfl
          rw [e9]
          have hb3 := ((Below.refl (w.heap.size + 3) w5).alloc X5.out.size _).grown hgw (by have := X5.out.size; simp; omega) (fun q hq => by simp only [Option.some.injEq] at hq; omega)
          refine ⟨?_, ?_, R3.out, N3.out, B5.out.trans (hb3.mono (by omega)), X5.out.below hb3 (Nat.le_refl _)⟩
          · show World.ownsRow _ _ _ _ _ (A ++ R.take L ++ [f.nd]).length (nrow (A ++ R.take L ++ [f.nd]))
            rw [el, nrow_one]
            exact how
          · show _ = Value.slice _ (A ++ R.take L ++ [f.nd]).length _
            rw [el]
        have OR : Hid (w5.ownsRow (w.heap.size + 3) 42 7 (.slice (some ⟨g, 0, none⟩) (A.length + L) (m + n)) (A.length + L) (nrow (A ++ R.take L))) := by
          have := OW5.out
          unfold OwnN at this
          rw [HLT.out] at this
          exact this
        clear HS3 HLT OW5 R3 N3 R2 N2
        rcases hw with ⟨hf, rfl⟩ | ⟨hf, hs3⟩
        · rw [hf]
          go_wp2_with (at_builtin; go_must (refine wpList_append_fits _ rfl _ _ 23 rfl (w.heap.size + 3) 42 i0 7 Tryz.underlying23 hi hz1 g (A.length + L) (m + n) _ rfl (OR.out.alloc _) ⟨w5.heap.size, 0, none⟩ 1 1 (ndL f.nd) rfl rfl (ndL_cells w5 f.nd _) (ndL_one f.nd) ?q1 ?_))
          case q1 => omega
          intro w6 ho6 hg6
          have S9 := FIN.out w6 ho6 _ hg6
          clear FIN OR ho6 hg6 e0 e1 e2 e3 e4 e5 e6 e7
          go_wp2
          exact ⟨⟨k + 1, by omega, by go_num, S9⟩, by simp [intOf]; omega⟩
        · rw [hf]
          go_wp2_with (at_builtin; go_must (refine wpList_append_fits _ rfl _ _ 23 rfl (w.heap.size + 3) 42 i0 7 Tryz.underlying23 hi hz1 g (A.length + L) (m + n) _ rfl (OR.out.alloc _) ⟨w5.heap.size, 0, none⟩ 1 1 (ndL f.nd) rfl rfl (ndL_cells w5 f.nd _) (ndL_one f.nd) ?q2 ?_))
          case q2 => have := HF1.out hf; omega
          intro w6 ho6 hg6
          have S9 := FIN.out w6 ho6 _ hg6
          clear FIN OR ho6 hg6 e0 e1 e2 e3 e4 e5 e6 e7
          go_wp2
          exact ⟨⟨k + 1, by omega, by go_num, S9⟩, by simp [intOf]; omega⟩
    · have hkn : k = n := by omega
      subst hkn
      have HF : Hid (A ++ R = resA ns z es) := by
        have := apI_all HA.out HE.out HP.out
        rw [HAR.out] at this
        rw [HT.out]
        exact this
      clear HAR
      go_wp2_with (at_builtin; go_must (refine wpList_append_fits_any _ rfl _ _ 23 rfl (w.heap.size + 3) 42 i0 7 Tryz.underlying23 hi hz1 g A.length (m + k) (nrow A) rfl OW.out ro R.length rc (nrow R) rfl ?m1 ?m2 ?m3 ?m4 ?m5 ?_))
      case m1 => rw [nrow_length]
      case m2 => exact fun e => NN.out R.length rc (by rw [e])
      case m3 => exact fun ad had j u hu => (RR.out.below HB.out).rowCells ad had j u hu
      case m4 => exact ndL_ones _
      case m5 => omega
      intro w5 ho5 hg5
      have OW5 : Hid (OwnN 42 w5 (w.heap.size + 3) (.slice (some ⟨g, 0, none⟩) (A.length + R.length) (m + k)) (resA ns z es)) := by
        rw [← HF.out]
        show World.ownsRow _ _ _ _ _ _ _
        rw [List.length_append, nrow_append]
        exact ho5
      have B5 := hd9 (HB.out.grown hg5 HB.out.size (fun q hq => by simp only [Option.some.injEq] at hq; omega))
      have X5 := hd9 (HBX.out.below ((Below.refl (w.heap.size + 3) wr).grown hg5 HBX.out.size (fun q hq => by simp only [Option.some.injEq] at hq; omega)) (Nat.le_refl _))
      clear ho5 hg5 OW HB HBX
      have c0 := X5.out.r.cell
      have f0 := X5.out.r.frozen
      go_wp2
      refine bodyPost_ret (v := .agg #[.slice (some ⟨g, 0, none⟩) (A.length + R.length) (m + k)]) (by simp [results, Tryz.results11, go_sem, c0]) rfl ⟨_, rfl, ?_, ?_⟩
      · refine OwnN.mono ?_ (show w.heap.size ≤ w.heap.size + 3 by omega)
        repeat (first | exact OW5.out | refine OwnN.setBelow ?_ (by simp; try omega) _)
      · repeat (first | exact B5.out | refine Below.setCell ?_ (by simp; try omega) _)


/-- What becomes of a grown tree. -/
def treeK (kk : Nat) (ns : List Nd) (i : Nat) (s2 : Sr) : List Nd × Sr :=
  if kk = 0 then (widN (999 + (s2.next 2).1), (s2.next 2).2)
  else if kk = 1 then (ns.set i { nAt ns i with ver := 2147483647, cver := 2147483647 }, s2)
  else if kk = 2 then (ns.set i { nAt ns i with mz := -1 }, s2)
  else if kk = 3 then (ns.set i { nAt ns i with path := ⟨#[47, 65]⟩ }, s2)
  else if kk = 4 then (ns.set i { nAt ns i with data := strOfNums (s2.bytes 65).1 }, (s2.bytes 65).2)
  else if kk = 5 then (ns.set i { nAt ns i with path := if 1 < ns.length then (nAt ns 0).path else (nAt ns i).path }, s2)
  else if kk = 6 then (ns.set i { nAt ns i with cver := 999999 + ((s2.next 2).1 : Int) }, (s2.next 2).2)
  else if kk = 7 then (ns.drop i, s2)
  else if kk = 8 then ([], s2)
  else (ns.set i (nAt ns i), s2)
def treeD (ns : List Nd) (s0 : Sr) : List Nd × Sr := treeK (s0.next 40).1 ns ((s0.next 40).2.next ns.length).1 ((s0.next 40).2.next ns.length).2
/-- A drawn tree. -/
def Sr.tree (s : Sr) : List Nd × Sr := treeD (s.grow (4 + 3 * s.size)).1 (s.grow (4 + 3 * s.size)).2.2

theorem NB.turn9 {W W' : World} {B k : Nat} {n : Nd} (h : NB W B n) (t : Tch k W W') (hne : B ≠ k) : NB W' B n := by
  obtain ⟨⟨nl, n0, n1, n2, n3, n4, n5, n6⟩, nf⟩ := h
  have b := t.2 B hne nl
  have q : ∀ j, W'.cell? ⟨B, j, none⟩ = W.cell? ⟨B, j, none⟩ := fun j => World.cell?_of_block (a := ⟨B, j, none⟩) b
  exact ⟨⟨Nat.lt_of_lt_of_le nl t.size, (q _).trans n0, (q _).trans n1, (q _).trans n2, (q _).trans n3, (q _).trans n4, (q _).trans n5, (q _).trans n6⟩, fun j => (World.frozen?_of_block b).trans (nf j)⟩

set_option maxHeartbeats 8000000 in
set_option maxRecDepth 100000 in
theorem tree_x (W : World) (k B : Nat) (s : Sr) (h : SRX W k B s) :
    Calls Tryz.prog 22 #[.pointer (some ⟨k, 0, none⟩)] W fun e w' => ∃ v, e = .returned (.agg #[v]) ∧ RdN w' v s.tree.1 ∧ SRX w' k B s.tree.2 ∧ Tch k W w' ∧ (∀ b o n c, v = .slice (some ⟨b, o, none⟩) n c → W.heap.size ≤ b) ∧ NilOk v := by
  have hk1 := h.kB
  have hk2 := h.lt
  have hkW : k < W.heap.size := by omega
  have hsz := h.sz
  have BR : Hid (Below W.heap.size W (W.alloc (.cells #[.slice none 0 0] 25))) := (Below.refl _ _).alloc (Nat.le_refl _) _
  have S0 : Hid (SRX (W.alloc (.cells #[.slice none 0 0] 25)) k B s) := h.keep (BR.out.mono hk2)
  have c3 := S0.out.c3
  have cr0 : Hid ((W.alloc (.cells #[.slice none 0 0] 25)).cell? ⟨W.heap.size, 0, none⟩ = some (.slice none 0 0)) := by show _ = _; simp
  have fr0 : Hid ((W.alloc (.cells #[.slice none 0 0] 25)).frozen? ⟨W.heap.size, 0, none⟩ = false) := by show _ = _; simp
  have hs0 : (W.alloc (.cells #[.slice none 0 0] 25)).heap.size = W.heap.size + 1 := by simp
  have HGI := s.grow_inv (4 + 3 * s.size) (by omega)
  have HPOS := (s.grow_root (4 + 3 * s.size) (by omega)).pos
  obtain ⟨res, hres⟩ : ∃ res, res = s.tree := ⟨_, rfl⟩
  have HRES : Hid (treeD (s.grow (4 + 3 * s.size)).1 (s.grow (4 + 3 * s.size)).2.2 = res) := hres.symm
  rw [← hres]
  have CG := grow_x (W.alloc (.cells #[.slice none 0 0] 25)) k B (4 + 3 * s.size) s S0.out (by omega)
  rw [show ((4 + 3 * s.size : Nat) : Int) = 4 + 3 * (s.size : Int) by omega] at CG
  clear h hres
  generalize s.grow (4 + 3 * s.size) = q at *
  go_enter Tryz.func22, Tryz.ntmps22
  go_wp2_with fail
  refine CG.mono ?_
  rintro e w1 ⟨v, rfl, o1, s1, t1⟩
  rw [hs0] at o1
  have hs1 := t1.size
  obtain ⟨av, cv, rfl⟩ := OwnN.slice9 o1
  have bA : Below w1.heap.size w1 (w1.alloc (.cells #[.slice av q.1.length cv] 25)) := (Below.refl _ _).alloc (Nat.le_refl _) _
  have G1 : Hid (GR W k B w1.heap.size (.slice av q.1.length cv) q.1 q.2.2 (w1.alloc (.cells #[.slice av q.1.length cv] 25))) := by
    have a := t1.2 W.heap.size (by omega) (by omega)
    refine ⟨s1.keep (bA.mono s1.lt), (Tch.of BR.out).trans (t1.trans (Tch.of bA)), (o1.mono (by omega)).below bA, by simp, by simp, (bA.cell (p := ⟨W.heap.size, 0, none⟩) (show W.heap.size < _ by omega)).trans ((World.cell?_of_block (a := ⟨W.heap.size, 0, none⟩) a).trans cr0.out), (bA.frozen (p := ⟨W.heap.size, 0, none⟩) (show W.heap.size < _ by omega)).trans ((World.frozen?_of_block a).trans fr0.out), by omega, by simp, ?_, ?_⟩
    · intro e; have := (World.ownsRow.lt o1 _ e).2; omega
    · intro e; have := (World.ownsRow.lt o1 _ e).1; omega
  obtain ⟨hsnd, hlen, -⟩ := HGI
  have HSN : Hid (Snd q.1) := hsnd
  have hgv : ∃ g, av = some ⟨g, 0, none⟩ := by
    rcases o1.2 with ⟨-, h0⟩ | ⟨g, cap, cur, h0, -⟩
    · omega
    · simp only [Value.slice.injEq] at h0; exact ⟨g, h0.1⟩
  obtain ⟨g, rfl⟩ := hgv
  clear o1 s1 t1 bA CG S0 BR cr0 fr0 c3 hsnd
  generalize q.1 = ns at *
  generalize q.2.2 = s0 at *
  generalize hTB : w1.heap.size = TB at *
  go_wp2_with fail
  generalize w1.alloc (.cells #[.slice (some ⟨g, 0, none⟩) ns.length cv] 25) = w2 at *
  refine (next_x _ k B 40 s0 G1.out.src (by omega)).mono ?_
  rintro e w3 ⟨rfl, s3, t3⟩
  have hk40 := s0.next_lt 40 (by omega)
  have HR3 : Hid (treeK (s0.next 40).1 ns ((s0.next 40).2.next ns.length).1 ((s0.next 40).2.next ns.length).2 = res) := HRES.out
  have G3 : Hid (GR W k B TB (.slice (some ⟨g, 0, none⟩) ns.length cv) ns (s0.next 40).2 w3) := G1.out.next s3 t3 hkW
  clear s3 t3 G1 HRES
  generalize (s0.next 40).2 = s1 at *
  generalize (s0.next 40).1 = kk at *
  have ct := G3.out.ct
  go_wp2_with fail
  clear ct
  refine (next_x _ k B ns.length s1 G3.out.src (by omega)).mono ?_
  rintro e w4 ⟨rfl, s4, t4⟩
  have hil := s1.next_lt ns.length HPOS
  have G4 : Hid (GR W k B TB (.slice (some ⟨g, 0, none⟩) ns.length cv) ns (s1.next ns.length).2 w4) := G3.out.next s4 t4 hkW
  clear s4 t4 G3
  generalize (s1.next ns.length).2 = s2 at *
  generalize (s1.next ns.length).1 = i at *
  have hiI : (i : Int) < (ns.length : Int) := by omega
  obtain ⟨m, hm⟩ : ∃ m, m = nAt ns i := ⟨_, rfl⟩
  have HCE : Hid (CellsN w4 g (i * 7) m) := by
    obtain ⟨ao', c', e', -, -, h3⟩ := G4.out.own.rd
    simp only [Value.slice.injEq] at e'
    obtain ⟨rfl, -, -⟩ := e'
    rcases h3 with h3 | ⟨b, o, h4, hb, hc⟩
    · rw [h3] at hil; simp at hil
    · have := hc i hil
      simp at h4
      obtain ⟨rfl, rfl⟩ := h4
      rw [Nat.zero_add] at this
      rw [hm]; exact this
  obtain ⟨e0, e1, e2, e3, e4, e5, e6⟩ := HCE.out
  have ct := G4.out.ct
  have bB : Below w4.heap.size w4 (w4.alloc (.cells #[.string m.path, .string m.data, .int .i64 m.ver, .int .i64 m.cver, .int .i64 m.cz, .int .i64 m.mz, .int .i64 m.pz] 42)) := (Below.refl _ _).alloc (Nat.le_refl _) _
  have G5 : Hid (GR W k B TB (.slice (some ⟨g, 0, none⟩) ns.length cv) ns s2 (w4.alloc (.cells #[.string m.path, .string m.data, .int .i64 m.ver, .int .i64 m.cver, .int .i64 m.cz, .int .i64 m.mz, .int .i64 m.pz] 42))) := G4.out.below bB hkW
  have N5 : Hid (NB (w4.alloc (.cells #[.string m.path, .string m.data, .int .i64 m.ver, .int .i64 m.cver, .int .i64 m.cz, .int .i64 m.mz, .int .i64 m.pz] 42)) w4.heap.size m) := NB.new _ _ _
  have hTN : TB < w4.heap.size := G4.out.lt
  have hgN : g < w4.heap.size := (World.ownsRow.lt G4.out.own g rfl).2
  have hgW : W.heap.size ≤ g := (World.ownsRow.lt G4.out.own g rfl).1
  have hgT : g ≠ TB := fun e => G4.out.vt (by rw [← e]; rfl)
  have hgR : g ≠ W.heap.size := fun e => G4.out.vr (by rw [← e]; rfl)
  have hBT : B ≤ TB := by have := G4.out.tb; omega
  have hTW : W.heap.size < TB := G4.out.tb
  clear bB
  unfold treeK at HR3
  rw [← hm] at HR3
  clear hm
  have HROW : Hid (∀ (w6 : World) (sx : Sr), GR W k B TB (.slice (some ⟨g, 0, none⟩) ns.length cv) ns sx w6 → ∀ j, j < 7 → (∃ c, w6.cell? ⟨g, i * 7 + j, none⟩ = some c) ∧ w6.frozen? ⟨g, i * 7 + j, none⟩ = false) := by
    intro w6 sx hg j hj
    refine ⟨⟨_, (World.ownsRow.cellAt hg.own (i * 7 + j) (by omega)).trans (List.getElem?_eq_getElem (by rw [nrow_length]; omega))⟩, World.ownsRow.frozenAt hg.own (i * 7 + j)⟩
  iterate 40 (try (first | go_values | go_skip | go_guarded | go_step | go_upon | go_back | go_simp))
  clear e0 e1 e2 e3 e4 e5 e6 ct HCE G4
  generalize w4.alloc (.cells #[.string m.path, .string m.data, .int .i64 m.ver, .int .i64 m.cver, .int .i64 m.cz, .int .i64 m.mz, .int .i64 m.pz] 42) = w5 at *
  generalize w4.heap.size = NK at *
  clear hTB hs1 hs0
  have hNR : NK ≠ W.heap.size := by omega
  have hNT : NK ≠ TB := by omega
  have hNg : NK ≠ g := by omega
  have hgK : g ≠ NK := by omega
  have hNk : NK ≠ k := by omega
  by_cases h9 : 9 ≤ kk
  · rw [if_neg (by omega), if_neg (by omega), if_neg (by omega), if_neg (by omega), if_neg (by omega), if_neg (by omega), if_neg (by omega), if_neg (by omega), if_neg (by omega)] at HR3
    have q0 : ((kk : Int) == 0) = false := beq_eq_false_iff_ne.2 (by omega)
    have q1 : ((kk : Int) == 1) = false := beq_eq_false_iff_ne.2 (by omega)
    have q2 : ((kk : Int) == 2) = false := beq_eq_false_iff_ne.2 (by omega)
    have q3 : ((kk : Int) == 3) = false := beq_eq_false_iff_ne.2 (by omega)
    have q4 : ((kk : Int) == 4) = false := beq_eq_false_iff_ne.2 (by omega)
    have q5 : ((kk : Int) == 5) = false := beq_eq_false_iff_ne.2 (by omega)
    have q6 : ((kk : Int) == 6) = false := beq_eq_false_iff_ne.2 (by omega)
    have q7 : ((kk : Int) == 7) = false := beq_eq_false_iff_ne.2 (by omega)
    have q8 : ((kk : Int) == 8) = false := beq_eq_false_iff_ne.2 (by omega)
    have GM : Hid (GR W k B TB (.slice (some ⟨g, 0, none⟩) ns.length cv) ns s2 (w5)) := G5
    have HF : Hid _ := (GM.out.setNd hil hk2 m).outN hk2
    have ct := G5.out.ct
    have cr := G5.out.cr
    have fr := G5.out.fr
    obtain ⟨⟨nl, n0, n1, n2, n3, n4, n5, n6⟩, nf⟩ := N5.out
    obtain ⟨⟨r0, k0⟩, f0⟩ := HROW.out _ _ G5.out 0 (by omega)
    obtain ⟨⟨r1, k1⟩, f1⟩ := HROW.out _ _ G5.out 1 (by omega)
    obtain ⟨⟨r2, k2⟩, f2⟩ := HROW.out _ _ G5.out 2 (by omega)
    obtain ⟨⟨r3, k3⟩, f3⟩ := HROW.out _ _ G5.out 3 (by omega)
    obtain ⟨⟨r4, k4⟩, f4⟩ := HROW.out _ _ G5.out 4 (by omega)
    obtain ⟨⟨r5, k5⟩, f5⟩ := HROW.out _ _ G5.out 5 (by omega)
    obtain ⟨⟨r6, k6⟩, f6⟩ := HROW.out _ _ G5.out 6 (by omega)
    rw [Nat.add_zero] at k0 f0
    have HNK : Hid (NilOk (Value.slice (some ⟨g, 0, none⟩) ns.length cv)) := fun n c e => by simp at e
    have HNB : Hid (∀ b o n c, (Value.slice (some ⟨g, 0, none⟩) ns.length cv) = .slice (some ⟨b, o, none⟩) n c → W.heap.size ≤ b) := fun b o n c e => by simp at e; omega
    clear HROW GM G5 N5 HSN
    iterate 260 (try (first | go_values | go_skip | go_guarded | go_step | go_upon))
    refine bodyPost_ret (v := .agg #[(.slice (some ⟨g, 0, none⟩) ns.length cv)]) ?a1 ?a2 ?a3
    case a1 => simp [results, Tryz.results22, go_sem, cr]
    case a2 => rfl
    case a3 => exact ⟨_, rfl, by rw [← HR3.out]; exact HF.out.1, by rw [← HR3.out]; exact HF.out.2.1, HF.out.2.2, HNB.out, HNK.out⟩
  by_cases h1 : kk = 1
  · subst h1
    rw [if_neg (by decide), if_pos rfl] at HR3
    have bM : Below NK w5 (((w5).setCell ⟨NK, 2, none⟩ (.int .i64 2147483647)).setCell ⟨NK, 3, none⟩ (.int .i64 2147483647)) := by
      iterate 2 refine Below.setCell ?_ (by show NK ≤ NK; exact Nat.le_refl _) _
      exact Below.refl _ _
    have GM : Hid (GR W k B TB (.slice (some ⟨g, 0, none⟩) ns.length cv) ns s2 (((w5).setCell ⟨NK, 2, none⟩ (.int .i64 2147483647)).setCell ⟨NK, 3, none⟩ (.int .i64 2147483647))) := G5.out.far bM hTN hBT (fun q e => by simp [Value.ownBlock] at e; omega)
    clear bM
    have HF : Hid _ := (GM.out.setNd hil hk2 ⟨m.path, m.data, 2147483647, 2147483647, m.cz, m.mz, m.pz⟩).outN hk2
    have ct := G5.out.ct
    have cr := G5.out.cr
    have fr := G5.out.fr
    obtain ⟨⟨nl, n0, n1, n2, n3, n4, n5, n6⟩, nf⟩ := N5.out
    obtain ⟨⟨r0, k0⟩, f0⟩ := HROW.out _ _ G5.out 0 (by omega)
    obtain ⟨⟨r1, k1⟩, f1⟩ := HROW.out _ _ G5.out 1 (by omega)
    obtain ⟨⟨r2, k2⟩, f2⟩ := HROW.out _ _ G5.out 2 (by omega)
    obtain ⟨⟨r3, k3⟩, f3⟩ := HROW.out _ _ G5.out 3 (by omega)
    obtain ⟨⟨r4, k4⟩, f4⟩ := HROW.out _ _ G5.out 4 (by omega)
    obtain ⟨⟨r5, k5⟩, f5⟩ := HROW.out _ _ G5.out 5 (by omega)
    obtain ⟨⟨r6, k6⟩, f6⟩ := HROW.out _ _ G5.out 6 (by omega)
    rw [Nat.add_zero] at k0 f0
    have HNK : Hid (NilOk (Value.slice (some ⟨g, 0, none⟩) ns.length cv)) := fun n c e => by simp at e
    have HNB : Hid (∀ b o n c, (Value.slice (some ⟨g, 0, none⟩) ns.length cv) = .slice (some ⟨b, o, none⟩) n c → W.heap.size ≤ b) := fun b o n c e => by simp at e; omega
    clear HROW GM G5 N5 HSN
    iterate 260 (try (first | go_values | go_skip | go_guarded | go_step | go_upon))
    refine bodyPost_ret (v := .agg #[(.slice (some ⟨g, 0, none⟩) ns.length cv)]) ?a1 ?a2 ?a3
    case a1 => simp [results, Tryz.results22, go_sem, cr]
    case a2 => rfl
    case a3 => exact ⟨_, rfl, by rw [← HR3.out]; exact HF.out.1, by rw [← HR3.out]; exact HF.out.2.1, HF.out.2.2, HNB.out, HNK.out⟩
  by_cases h2 : kk = 2
  · subst h2
    rw [if_neg (by decide), if_neg (by decide), if_pos rfl] at HR3
    have bM : Below NK w5 ((w5).setCell ⟨NK, 5, none⟩ (.int .i64 (-1))) := by
      iterate 1 refine Below.setCell ?_ (by show NK ≤ NK; exact Nat.le_refl _) _
      exact Below.refl _ _
    have GM : Hid (GR W k B TB (.slice (some ⟨g, 0, none⟩) ns.length cv) ns s2 ((w5).setCell ⟨NK, 5, none⟩ (.int .i64 (-1)))) := G5.out.far bM hTN hBT (fun q e => by simp [Value.ownBlock] at e; omega)
    clear bM
    have HF : Hid _ := (GM.out.setNd hil hk2 ⟨m.path, m.data, m.ver, m.cver, m.cz, (-1), m.pz⟩).outN hk2
    have ct := G5.out.ct
    have cr := G5.out.cr
    have fr := G5.out.fr
    obtain ⟨⟨nl, n0, n1, n2, n3, n4, n5, n6⟩, nf⟩ := N5.out
    obtain ⟨⟨r0, k0⟩, f0⟩ := HROW.out _ _ G5.out 0 (by omega)
    obtain ⟨⟨r1, k1⟩, f1⟩ := HROW.out _ _ G5.out 1 (by omega)
    obtain ⟨⟨r2, k2⟩, f2⟩ := HROW.out _ _ G5.out 2 (by omega)
    obtain ⟨⟨r3, k3⟩, f3⟩ := HROW.out _ _ G5.out 3 (by omega)
    obtain ⟨⟨r4, k4⟩, f4⟩ := HROW.out _ _ G5.out 4 (by omega)
    obtain ⟨⟨r5, k5⟩, f5⟩ := HROW.out _ _ G5.out 5 (by omega)
    obtain ⟨⟨r6, k6⟩, f6⟩ := HROW.out _ _ G5.out 6 (by omega)
    rw [Nat.add_zero] at k0 f0
    have HNK : Hid (NilOk (Value.slice (some ⟨g, 0, none⟩) ns.length cv)) := fun n c e => by simp at e
    have HNB : Hid (∀ b o n c, (Value.slice (some ⟨g, 0, none⟩) ns.length cv) = .slice (some ⟨b, o, none⟩) n c → W.heap.size ≤ b) := fun b o n c e => by simp at e; omega
    clear HROW GM G5 N5 HSN
    iterate 260 (try (first | go_values | go_skip | go_guarded | go_step | go_upon))
    refine bodyPost_ret (v := .agg #[(.slice (some ⟨g, 0, none⟩) ns.length cv)]) ?a1 ?a2 ?a3
    case a1 => simp [results, Tryz.results22, go_sem, cr]
    case a2 => rfl
    case a3 => exact ⟨_, rfl, by rw [← HR3.out]; exact HF.out.1, by rw [← HR3.out]; exact HF.out.2.1, HF.out.2.2, HNB.out, HNK.out⟩
  by_cases h3 : kk = 3
  · subst h3
    rw [if_neg (by decide), if_neg (by decide), if_neg (by decide), if_pos rfl] at HR3
    have bM : Below NK w5 ((w5).setCell ⟨NK, 0, none⟩ (.string ⟨#[47, 65]⟩)) := by
      iterate 1 refine Below.setCell ?_ (by show NK ≤ NK; exact Nat.le_refl _) _
      exact Below.refl _ _
    have GM : Hid (GR W k B TB (.slice (some ⟨g, 0, none⟩) ns.length cv) ns s2 ((w5).setCell ⟨NK, 0, none⟩ (.string ⟨#[47, 65]⟩))) := G5.out.far bM hTN hBT (fun q e => by simp [Value.ownBlock] at e; omega)
    clear bM
    have HF : Hid _ := (GM.out.setNd hil hk2 ⟨⟨#[47, 65]⟩, m.data, m.ver, m.cver, m.cz, m.mz, m.pz⟩).outN hk2
    have ct := G5.out.ct
    have cr := G5.out.cr
    have fr := G5.out.fr
    obtain ⟨⟨nl, n0, n1, n2, n3, n4, n5, n6⟩, nf⟩ := N5.out
    obtain ⟨⟨r0, k0⟩, f0⟩ := HROW.out _ _ G5.out 0 (by omega)
    obtain ⟨⟨r1, k1⟩, f1⟩ := HROW.out _ _ G5.out 1 (by omega)
    obtain ⟨⟨r2, k2⟩, f2⟩ := HROW.out _ _ G5.out 2 (by omega)
    obtain ⟨⟨r3, k3⟩, f3⟩ := HROW.out _ _ G5.out 3 (by omega)
    obtain ⟨⟨r4, k4⟩, f4⟩ := HROW.out _ _ G5.out 4 (by omega)
    obtain ⟨⟨r5, k5⟩, f5⟩ := HROW.out _ _ G5.out 5 (by omega)
    obtain ⟨⟨r6, k6⟩, f6⟩ := HROW.out _ _ G5.out 6 (by omega)
    rw [Nat.add_zero] at k0 f0
    have HNK : Hid (NilOk (Value.slice (some ⟨g, 0, none⟩) ns.length cv)) := fun n c e => by simp at e
    have HNB : Hid (∀ b o n c, (Value.slice (some ⟨g, 0, none⟩) ns.length cv) = .slice (some ⟨b, o, none⟩) n c → W.heap.size ≤ b) := fun b o n c e => by simp at e; omega
    clear HROW GM G5 N5 HSN
    iterate 260 (try (first | go_values | go_skip | go_guarded | go_step | go_upon))
    refine bodyPost_ret (v := .agg #[(.slice (some ⟨g, 0, none⟩) ns.length cv)]) ?a1 ?a2 ?a3
    case a1 => simp [results, Tryz.results22, go_sem, cr]
    case a2 => rfl
    case a3 => exact ⟨_, rfl, by rw [← HR3.out]; exact HF.out.1, by rw [← HR3.out]; exact HF.out.2.1, HF.out.2.2, HNB.out, HNK.out⟩
  by_cases h5 : kk = 5
  · subst h5
    rw [if_neg (by decide), if_neg (by decide), if_neg (by decide), if_neg (by decide), if_neg (by decide), if_pos rfl] at HR3
    by_cases hl1 : 1 < ns.length
    · rw [if_pos hl1] at HR3
      have hl1I : (1 : Int) < (ns.length : Int) := by omega
      have hl0I : (0 : Int) < (ns.length : Int) := by omega
      have kz : w5.cell? ⟨g, 0, none⟩ = some (.string (nAt ns 0).path) := by
        have := World.ownsRow.cellAt G5.out.own 0 (by omega)
        rw [this]
        have hh := nrow_get ns 0 0 (by omega) (by omega)
        simpa [ndL] using hh
      have bM : Below NK w5 ((w5).setCell ⟨NK, 0, none⟩ (.string (nAt ns 0).path)) := by
        iterate 1 refine Below.setCell ?_ (by show NK ≤ NK; exact Nat.le_refl _) _
        exact Below.refl _ _
      have GM : Hid (GR W k B TB (.slice (some ⟨g, 0, none⟩) ns.length cv) ns s2 ((w5).setCell ⟨NK, 0, none⟩ (.string (nAt ns 0).path))) := G5.out.far bM hTN hBT (fun q e => by simp [Value.ownBlock] at e; omega)
      clear bM
      have HF : Hid _ := (GM.out.setNd hil hk2 ⟨(nAt ns 0).path, m.data, m.ver, m.cver, m.cz, m.mz, m.pz⟩).outN hk2
      have ct := G5.out.ct
      have cr := G5.out.cr
      have fr := G5.out.fr
      obtain ⟨⟨nl, n0, n1, n2, n3, n4, n5, n6⟩, nf⟩ := N5.out
      obtain ⟨⟨r0, k0⟩, f0⟩ := HROW.out _ _ G5.out 0 (by omega)
      obtain ⟨⟨r1, k1⟩, f1⟩ := HROW.out _ _ G5.out 1 (by omega)
      obtain ⟨⟨r2, k2⟩, f2⟩ := HROW.out _ _ G5.out 2 (by omega)
      obtain ⟨⟨r3, k3⟩, f3⟩ := HROW.out _ _ G5.out 3 (by omega)
      obtain ⟨⟨r4, k4⟩, f4⟩ := HROW.out _ _ G5.out 4 (by omega)
      obtain ⟨⟨r5, k5⟩, f5⟩ := HROW.out _ _ G5.out 5 (by omega)
      obtain ⟨⟨r6, k6⟩, f6⟩ := HROW.out _ _ G5.out 6 (by omega)
      rw [Nat.add_zero] at k0 f0
      have HNK : Hid (NilOk (Value.slice (some ⟨g, 0, none⟩) ns.length cv)) := fun n c e => by simp at e
      have HNB : Hid (∀ b o n c, (Value.slice (some ⟨g, 0, none⟩) ns.length cv) = .slice (some ⟨b, o, none⟩) n c → W.heap.size ≤ b) := fun b o n c e => by simp at e; omega
      clear HROW GM G5 N5 HSN
      iterate 260 (try (first | go_values | go_skip | go_guarded | go_step | go_upon))
      refine bodyPost_ret (v := .agg #[(.slice (some ⟨g, 0, none⟩) ns.length cv)]) ?a1 ?a2 ?a3
      case a1 => simp [results, Tryz.results22, go_sem, cr]
      case a2 => rfl
      case a3 => exact ⟨_, rfl, by rw [← HR3.out]; exact HF.out.1, by rw [← HR3.out]; exact HF.out.2.1, HF.out.2.2, HNB.out, HNK.out⟩
    · rw [if_neg hl1] at HR3
      have hl1I : ¬ (1 : Int) < (ns.length : Int) := by omega
      have hl1d : decide ((1 : Int) < (ns.length : Int)) = false := by simpa using hl1I
      have GM : Hid (GR W k B TB (.slice (some ⟨g, 0, none⟩) ns.length cv) ns s2 (w5)) := G5
      have HF : Hid _ := (GM.out.setNd hil hk2 m).outN hk2
      have ct := G5.out.ct
      have cr := G5.out.cr
      have fr := G5.out.fr
      obtain ⟨⟨nl, n0, n1, n2, n3, n4, n5, n6⟩, nf⟩ := N5.out
      obtain ⟨⟨r0, k0⟩, f0⟩ := HROW.out _ _ G5.out 0 (by omega)
      obtain ⟨⟨r1, k1⟩, f1⟩ := HROW.out _ _ G5.out 1 (by omega)
      obtain ⟨⟨r2, k2⟩, f2⟩ := HROW.out _ _ G5.out 2 (by omega)
      obtain ⟨⟨r3, k3⟩, f3⟩ := HROW.out _ _ G5.out 3 (by omega)
      obtain ⟨⟨r4, k4⟩, f4⟩ := HROW.out _ _ G5.out 4 (by omega)
      obtain ⟨⟨r5, k5⟩, f5⟩ := HROW.out _ _ G5.out 5 (by omega)
      obtain ⟨⟨r6, k6⟩, f6⟩ := HROW.out _ _ G5.out 6 (by omega)
      rw [Nat.add_zero] at k0 f0
      have HNK : Hid (NilOk (Value.slice (some ⟨g, 0, none⟩) ns.length cv)) := fun n c e => by simp at e
      have HNB : Hid (∀ b o n c, (Value.slice (some ⟨g, 0, none⟩) ns.length cv) = .slice (some ⟨b, o, none⟩) n c → W.heap.size ≤ b) := fun b o n c e => by simp at e; omega
      clear HROW GM G5 N5 HSN
      iterate 260 (try (first | go_values | go_skip | go_guarded | go_step | go_upon))
      refine bodyPost_ret (v := .agg #[(.slice (some ⟨g, 0, none⟩) ns.length cv)]) ?a1 ?a2 ?a3
      case a1 => simp [results, Tryz.results22, go_sem, cr]
      case a2 => rfl
      case a3 => exact ⟨_, rfl, by rw [← HR3.out]; exact HF.out.1, by rw [← HR3.out]; exact HF.out.2.1, HF.out.2.2, HNB.out, HNK.out⟩
  by_cases h4 : kk = 4
  · subst h4
    rw [if_neg (by decide), if_neg (by decide), if_neg (by decide), if_neg (by decide), if_pos rfl] at HR3
    have CB := bytes_x w5 k B 65 s2 G5.out.src (by omega)
    generalize s2.bytes 65 = bq at *
    iterate 260 (try (first | go_values | go_skip | go_guarded | go_step | go_upon))
    refine CB.mono ?_
    rintro e w6 ⟨v6, rfl, o6, s6, t6⟩
    clear CB
    have hcv := conv_any o6.rd
    obtain ⟨a6, c6, rfl, -⟩ := o6.rd.len
    have G6 : Hid (GR W k B TB (.slice (some ⟨g, 0, none⟩) ns.length cv) ns bq.2 w6) := G5.out.next s6 t6 hkW
    have N6 : Hid (NB w6 NK m) := N5.out.turn9 t6 hNk
    clear o6 s6 t6 G5 N5
    simp only []
    have bM : Below NK w6 ((w6).setCell ⟨NK, 1, none⟩ (.string (strOfNums bq.1))) := by
      iterate 1 refine Below.setCell ?_ (by show NK ≤ NK; exact Nat.le_refl _) _
      exact Below.refl _ _
    have GM : Hid (GR W k B TB (.slice (some ⟨g, 0, none⟩) ns.length cv) ns bq.2 ((w6).setCell ⟨NK, 1, none⟩ (.string (strOfNums bq.1)))) := G6.out.far bM hTN hBT (fun q e => by simp [Value.ownBlock] at e; omega)
    clear bM
    have HF : Hid _ := (GM.out.setNd hil hk2 ⟨m.path, strOfNums bq.1, m.ver, m.cver, m.cz, m.mz, m.pz⟩).outN hk2
    have ct := G6.out.ct
    have cr := G6.out.cr
    have fr := G6.out.fr
    obtain ⟨⟨nl, n0, n1, n2, n3, n4, n5, n6⟩, nf⟩ := N6.out
    obtain ⟨⟨r0, k0⟩, f0⟩ := HROW.out _ _ G6.out 0 (by omega)
    obtain ⟨⟨r1, k1⟩, f1⟩ := HROW.out _ _ G6.out 1 (by omega)
    obtain ⟨⟨r2, k2⟩, f2⟩ := HROW.out _ _ G6.out 2 (by omega)
    obtain ⟨⟨r3, k3⟩, f3⟩ := HROW.out _ _ G6.out 3 (by omega)
    obtain ⟨⟨r4, k4⟩, f4⟩ := HROW.out _ _ G6.out 4 (by omega)
    obtain ⟨⟨r5, k5⟩, f5⟩ := HROW.out _ _ G6.out 5 (by omega)
    obtain ⟨⟨r6, k6⟩, f6⟩ := HROW.out _ _ G6.out 6 (by omega)
    rw [Nat.add_zero] at k0 f0
    have HNK : Hid (NilOk (Value.slice (some ⟨g, 0, none⟩) ns.length cv)) := fun n c e => by simp at e
    have HNB : Hid (∀ b o n c, (Value.slice (some ⟨g, 0, none⟩) ns.length cv) = .slice (some ⟨b, o, none⟩) n c → W.heap.size ≤ b) := fun b o n c e => by simp at e; omega
    clear HROW GM G6 N6 HSN
    iterate 260 (try (first | go_values | go_skip | go_guarded | go_step | go_upon))
    refine bodyPost_ret (v := .agg #[(.slice (some ⟨g, 0, none⟩) ns.length cv)]) ?a1 ?a2 ?a3
    case a1 => simp [results, Tryz.results22, go_sem, cr]
    case a2 => rfl
    case a3 => exact ⟨_, rfl, by rw [← HR3.out]; exact HF.out.1, by rw [← HR3.out]; exact HF.out.2.1, HF.out.2.2, HNB.out, HNK.out⟩
  by_cases h6 : kk = 6
  · subst h6
    rw [if_neg (by decide), if_neg (by decide), if_neg (by decide), if_neg (by decide), if_neg (by decide), if_neg (by decide), if_pos rfl] at HR3
    iterate 260 (try (first | go_values | go_skip | go_guarded | go_step | go_upon))
    refine (next_x _ k B 2 s2 G5.out.src (by omega)).mono ?_
    rintro e w6 ⟨rfl, s6, t6⟩
    have hn6 := s2.next_lt 2 (by omega)
    have G6 : Hid (GR W k B TB (.slice (some ⟨g, 0, none⟩) ns.length cv) ns (s2.next 2).2 w6) := G5.out.next s6 t6 hkW
    have N6 : Hid (NB w6 NK m) := N5.out.turn9 t6 hNk
    clear s6 t6 G5 N5
    generalize (s2.next 2).2 = s6 at *
    generalize (s2.next 2).1 = n6' at *
    simp only []
    have bM : Below NK w6 ((w6).setCell ⟨NK, 3, none⟩ (.int .i64 (999999 + (n6' : Int)))) := by
      iterate 1 refine Below.setCell ?_ (by show NK ≤ NK; exact Nat.le_refl _) _
      exact Below.refl _ _
    have GM : Hid (GR W k B TB (.slice (some ⟨g, 0, none⟩) ns.length cv) ns s6 ((w6).setCell ⟨NK, 3, none⟩ (.int .i64 (999999 + (n6' : Int))))) := G6.out.far bM hTN hBT (fun q e => by simp [Value.ownBlock] at e; omega)
    clear bM
    have HF : Hid _ := (GM.out.setNd hil hk2 ⟨m.path, m.data, m.ver, 999999 + (n6' : Int), m.cz, m.mz, m.pz⟩).outN hk2
    have ct := G6.out.ct
    have cr := G6.out.cr
    have fr := G6.out.fr
    obtain ⟨⟨nl, n0, n1, n2, n3, n4, n5, n6⟩, nf⟩ := N6.out
    obtain ⟨⟨r0, k0⟩, f0⟩ := HROW.out _ _ G6.out 0 (by omega)
    obtain ⟨⟨r1, k1⟩, f1⟩ := HROW.out _ _ G6.out 1 (by omega)
    obtain ⟨⟨r2, k2⟩, f2⟩ := HROW.out _ _ G6.out 2 (by omega)
    obtain ⟨⟨r3, k3⟩, f3⟩ := HROW.out _ _ G6.out 3 (by omega)
    obtain ⟨⟨r4, k4⟩, f4⟩ := HROW.out _ _ G6.out 4 (by omega)
    obtain ⟨⟨r5, k5⟩, f5⟩ := HROW.out _ _ G6.out 5 (by omega)
    obtain ⟨⟨r6, k6⟩, f6⟩ := HROW.out _ _ G6.out 6 (by omega)
    rw [Nat.add_zero] at k0 f0
    have HNK : Hid (NilOk (Value.slice (some ⟨g, 0, none⟩) ns.length cv)) := fun n c e => by simp at e
    have HNB : Hid (∀ b o n c, (Value.slice (some ⟨g, 0, none⟩) ns.length cv) = .slice (some ⟨b, o, none⟩) n c → W.heap.size ≤ b) := fun b o n c e => by simp at e; omega
    clear HROW GM G6 N6 HSN
    iterate 260 (try (first | go_values | go_skip | go_guarded | go_step | go_upon))
    refine bodyPost_ret (v := .agg #[(.slice (some ⟨g, 0, none⟩) ns.length cv)]) ?a1 ?a2 ?a3
    case a1 => simp [results, Tryz.results22, go_sem, cr]
    case a2 => rfl
    case a3 => exact ⟨_, rfl, by rw [← HR3.out]; exact HF.out.1, by rw [← HR3.out]; exact HF.out.2.1, HF.out.2.2, HNB.out, HNK.out⟩
  by_cases h0 : kk = 0
  · subst h0
    rw [if_pos rfl] at HR3
    iterate 260 (try (first | go_values | go_skip | go_guarded | go_step | go_upon))
    refine (next_x _ k B 2 s2 G5.out.src (by omega)).mono ?_
    rintro e w6 ⟨rfl, s6, t6⟩
    have hn6 := s2.next_lt 2 (by omega)
    have G6 : Hid (GR W k B TB (.slice (some ⟨g, 0, none⟩) ns.length cv) ns (s2.next 2).2 w6) := G5.out.next s6 t6 hkW
    clear s6 t6 G5 N5
    generalize (s2.next 2).2 = s6 at *
    generalize (s2.next 2).1 = n6' at *
    have CW := wide_x w6 (1000 + n6') (by omega) (by omega)
    rw [show ((1000 + n6' : Nat) : Int) = 1000 + (n6' : Int) by omega, show 1000 + n6' - 1 = 999 + n6' by omega] at CW
    generalize widN (999 + n6') = WN at *
    simp only []
    iterate 260 (try (first | go_values | go_skip | go_guarded | go_step | go_upon))
    refine CW.mono ?_
    rintro e w7 ⟨v7, rfl, o7, b7⟩
    obtain ⟨a7, c7, rfl⟩ := OwnN.slice9 o7
    have G7 : Hid (GR W k B TB (.slice (some ⟨g, 0, none⟩) ns.length cv) ns s6 w7) := G6.out.below b7 hkW
    have cr := G7.out.cr
    have fr := G7.out.fr
    have hvr : Value.ownBlock (.slice a7 WN.length c7) ≠ some W.heap.size := fun e => by have h1 := (World.ownsRow.lt o7 _ e).1; have h2 := G6.out.lt; omega
    have bS : Below W.heap.size w7 (w7.setCell ⟨W.heap.size, 0, none⟩ (.slice a7 WN.length c7)) := (Below.refl _ _).setCell (by show W.heap.size ≤ W.heap.size; exact Nat.le_refl _) _
    have HF : Hid (RdN (w7.setCell ⟨W.heap.size, 0, none⟩ (.slice a7 WN.length c7)) (.slice a7 WN.length c7) WN ∧ SRX (w7.setCell ⟨W.heap.size, 0, none⟩ (.slice a7 WN.length c7)) k B s6 ∧ Tch k W (w7.setCell ⟨W.heap.size, 0, none⟩ (.slice a7 WN.length c7))) := ⟨(OwnN.setO o7 hvr _).rd, G7.out.src.keep (bS.mono hk2), G7.out.tch.then bS⟩
    have HNK : Hid (NilOk (Value.slice a7 WN.length c7)) := OwnN.nilOk o7
    have HNB : Hid (∀ b o n c, (Value.slice a7 WN.length c7) = .slice (some ⟨b, o, none⟩) n c → W.heap.size ≤ b) := fun b o n c e => by
      have h1 := (World.ownsRow.lt o7 b (by rw [e]; rfl)).1
      have h2 := G6.out.lt
      omega
    clear CW o7 b7 G6 G7 bS HROW HSN
    simp only []
    iterate 260 (try (first | go_values | go_skip | go_guarded | go_step | go_upon))
    refine bodyPost_ret (v := .agg #[.slice a7 WN.length c7]) ?a1 ?a2 ?a3
    case a1 => simp [results, Tryz.results22, go_sem, cr]
    case a2 => rfl
    case a3 => exact ⟨_, rfl, by rw [← HR3.out]; exact HF.out.1, by rw [← HR3.out]; exact HF.out.2.1, HF.out.2.2, HNB.out, HNK.out⟩
  by_cases h7 : kk = 7
  · subst h7
    rw [if_neg (by decide), if_neg (by decide), if_neg (by decide), if_neg (by decide), if_neg (by decide), if_neg (by decide), if_neg (by decide), if_pos rfl] at HR3
    obtain ⟨a2, hrt, hrd, hnk⟩ := slice_tail G5.out.own.rd (OwnN.nilOk G5.out.own) i (by omega)
    have hrt5 := hrt w5
    have ct := G5.out.ct
    have cr := G5.out.cr
    have fr := G5.out.fr
    have bS : Below W.heap.size w5 (w5.setCell ⟨W.heap.size, 0, none⟩ (.slice a2 (ns.length - i) (cv - i))) := (Below.refl _ _).setCell (by show W.heap.size ≤ W.heap.size; exact Nat.le_refl _) _
    have HF : Hid (RdN (w5.setCell ⟨W.heap.size, 0, none⟩ (.slice a2 (ns.length - i) (cv - i))) (.slice a2 (ns.length - i) (cv - i)) (ns.drop i) ∧ SRX (w5.setCell ⟨W.heap.size, 0, none⟩ (.slice a2 (ns.length - i) (cv - i))) k B s2 ∧ Tch k W (w5.setCell ⟨W.heap.size, 0, none⟩ (.slice a2 (ns.length - i) (cv - i)))) := by
      have h3 := slice_tail (OwnN.setO (b := W.heap.size) (j := 0) G5.out.own G5.out.vr (.slice a2 (ns.length - i) (cv - i))).rd (OwnN.nilOk G5.out.own) i (by omega)
      obtain ⟨a3, hr3, hrd3, -⟩ := h3
      have e3 := (hrt w5).symm.trans (hr3 w5)
      simp only [Result.ok.injEq, Value.slice.injEq, and_true] at e3
      rw [← e3] at hrd3
      exact ⟨hrd3, G5.out.src.keep (bS.mono hk2), G5.out.tch.then bS⟩
    have HNK : Hid (NilOk (Value.slice a2 (ns.length - i) (cv - i))) := hnk
    have HNB : Hid (∀ b o n c, (Value.slice a2 (ns.length - i) (cv - i)) = .slice (some ⟨b, o, none⟩) n c → W.heap.size ≤ b) := fun b o n c e => by
      have e3 := (hrt w5).symm.trans (run_tail (some ⟨g, 0, none⟩) ns.length cv i (by omega) w5)
      simp only [Result.ok.injEq, Value.slice.injEq, and_true] at e3
      simp only [Value.slice.injEq] at e
      rw [e3] at e
      obtain ⟨e, -, -⟩ := e
      by_cases hc : cv = i
      · rw [if_pos hc] at e; simp at e; omega
      · rw [if_neg hc, Option.map_some, Addr.add_lit] at e; simp at e; omega
    clear hrt hrd hnk bS G5 N5 HROW HSN
    iterate 260 (try (first | go_values | go_skip | go_guarded | go_step | go_upon))
    refine bodyPost_ret (v := .agg #[.slice a2 (ns.length - i) (cv - i)]) ?a1 ?a2 ?a3
    case a1 => simp [results, Tryz.results22, go_sem, cr]
    case a2 => rfl
    case a3 => exact ⟨_, rfl, by rw [← HR3.out]; exact HF.out.1, by rw [← HR3.out]; exact HF.out.2.1, HF.out.2.2, HNB.out, HNK.out⟩
  have h8k : kk = 8 := by omega
  subst h8k
  rw [if_neg (by decide), if_neg (by decide), if_neg (by decide), if_neg (by decide), if_neg (by decide), if_neg (by decide), if_neg (by decide), if_neg (by decide), if_pos rfl] at HR3
  have cr := G5.out.cr
  have fr := G5.out.fr
  have bS : Below W.heap.size w5 (w5.setCell ⟨W.heap.size, 0, none⟩ (.slice none 0 0)) := (Below.refl _ _).setCell (by show W.heap.size ≤ W.heap.size; exact Nat.le_refl _) _
  have HF : Hid (RdN (w5.setCell ⟨W.heap.size, 0, none⟩ (.slice none 0 0)) (.slice none 0 0) [] ∧ SRX (w5.setCell ⟨W.heap.size, 0, none⟩ (.slice none 0 0)) k B s2 ∧ Tch k W (w5.setCell ⟨W.heap.size, 0, none⟩ (.slice none 0 0))) := ⟨⟨none, 0, rfl, Nat.le_refl _, Nat.zero_le _, .inl rfl⟩, G5.out.src.keep (bS.mono hk2), G5.out.tch.then bS⟩
  have HNK : Hid (NilOk (Value.slice none 0 0)) := fun n c e => by simp at e; omega
  have HNB : Hid (∀ b o n c, (Value.slice none 0 0) = .slice (some ⟨b, o, none⟩) n c → W.heap.size ≤ b) := fun b o n c e => by simp at e
  clear bS G5 N5 HROW HSN
  iterate 260 (try (first | go_values | go_skip | go_guarded | go_step | go_upon))
  refine bodyPost_ret (v := .agg #[.slice none 0 0]) ?a1 ?a2 ?a3
  case a1 => simp [results, Tryz.results22, go_sem, cr]
  case a2 => rfl
  case a3 => exact ⟨_, rfl, by rw [← HR3.out]; exact HF.out.1, by rw [← HR3.out]; exact HF.out.2.1, HF.out.2.2, HNB.out, HNK.out⟩

end Go.Proofs.YtdiingonnddkcaaGreatDoor
namespace Go.Proofs.YtdiingonnddkcaaGreatDoor
open Go.RowKit

end Go.Proofs.YtdiingonnddkcaaGreatDoor


