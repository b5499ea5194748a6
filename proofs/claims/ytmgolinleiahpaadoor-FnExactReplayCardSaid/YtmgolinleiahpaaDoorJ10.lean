import Derived.Test.YtmgolinleiahpaaDoorJ06
import Derived.Test.YtmgolinleiahpaaDoorJ09
import Derived.Test.YtmgolinleiahpaaDoorJ07
import Derived.Deep.QuietTactic
import Derived.BigQuiet
import Derived.Test.YtmgolinleiahpaaDoorJ08
import Derived.Test.YtmgolinleiahpaaDoorJ01
import Derived.Test.YtmgolinleiahpaaDoorJ03
import Derived.Lib.AppendZeros
import Derived.Lib.AppendStr
namespace Go.Proofs.YtmgolinleiahpaaDoor
open Go.RowKit Go.Shelf

/-- A slice without an address has no room. -/
def NilOk (v : Value) : Prop := ∀ n c, v = .slice none n c → n = 0 ∧ c = 0
theorem OwnN.nilOk {e : TypeId} {w : World} {lo : Nat} {v : Value} {ns : List Nd} (h : OwnN e w lo v ns) : NilOk v := by
  intro n c hv
  rcases h.2 with ⟨rfl, _⟩ | ⟨g, cap, cur, rfl, _⟩
  · simp only [Value.slice.injEq, true_and] at hv
    exact ⟨hv.1.symm, hv.2.symm⟩
  · simp at hv
theorem nrow_take {R : List Nd} {L j : Nat} {u : Value} (h : (nrow (R.take L))[j]? = some u) : (nrow R)[j]? = some u := by
  have e : nrow R = nrow (R.take L) ++ nrow (R.drop L) := by rw [← nrow_append, List.take_append_drop]
  rw [e, List.getElem?_append_left (List.getElem?_eq_some_iff.1 h).1]
  exact h
theorem RdN.rowCells {w : World} {ao : Option Addr} {c : Nat} {R : List Nd} (h : RdN w (.slice ao R.length c) R) : ∀ ad, ao = some ad → ∀ j u, (nrow R)[j]? = some u → w.cell? (ad.add j) = some u := by
  obtain ⟨ao', c', e, -, -, h3⟩ := h
  simp only [Value.slice.injEq] at e
  obtain ⟨rfl, -, rfl⟩ := e
  intro ad had j u hu
  rcases h3 with rfl | ⟨b, o, rfl, hb, hc⟩
  · simp [nrow] at hu
  · obtain rfl := Option.some.inj had
    have hj : j < R.length * 7 := by have := (List.getElem?_eq_some_iff.1 hu).1; rw [nrow_length] at this; exact this
    have h7 : j % 7 < 7 := Nat.mod_lt _ (by decide)
    have hr := nrow_get R (j / 7) (j % 7) (by omega) h7
    rw [show j / 7 * 7 + j % 7 = j by omega, hu] at hr
    have hcc := hc (j / 7) (by omega)
    rw [Addr.add_lit]
    have e : o + j = o + j / 7 * 7 + j % 7 := by omega
    rw [e]
    clear e hu hj
    generalize j % 7 = r at *
    match r, h7 with
    | 0, _ => rw [Nat.add_zero, hcc.c0]; exact hr.symm
    | 1, _ => rw [hcc.c1]; exact hr.symm
    | 2, _ => rw [hcc.c2]; exact hr.symm
    | 3, _ => rw [hcc.c3]; exact hr.symm
    | 4, _ => rw [hcc.c4]; exact hr.symm
    | 5, _ => rw [hcc.c5]; exact hr.symm
    | 6, _ => rw [hcc.c6]; exact hr.symm
theorem ndL_ones (R : List Nd) : ∀ u ∈ nrow R, u.oneCell' = true := by
  intro u hu
  unfold nrow at hu
  obtain ⟨n, _, hn⟩ := List.mem_flatMap.1 hu
  exact ndL_one n u hn
theorem run_head (ao : Option Addr) (n c L : Nat) (h1 : L ≤ n) (h2 : n ≤ c) (W : World) : (Instr.slice 34 (.slice ao n c) none (some (.int .i64 (L : Int))) none).run Tryd.prog W = .ok (.slice ao L c) W := by
  have h : (0 : Int) ≤ (L : Int) := by omega
  have h' : (L : Int) ≤ (c : Int) := by omega
  have he : Tryd.prog.elem 34 = 84 := by kernel_rfl
  rw [run_slice_h W 34 ao n c (by rw [he]; exact Tryd.underlying34) .i64 (L : Int) h h', he]
  go_simp
theorem run_tail (ao : Option Addr) (n c L : Nat) (h1 : L ≤ n) (W : World) : (Instr.slice 34 (.slice ao n c) (some (.int .i64 (L : Int))) none none).run Tryd.prog W = .ok (.slice (if c = L then ao else ao.map (·.add (L * 7))) (n - L) (c - L)) W := by
  have h : (0 : Int) ≤ (L : Int) := by omega
  have h' : (L : Int) ≤ (n : Int) := by omega
  have he : Tryd.prog.elem 34 = 84 := by kernel_rfl
  rw [run_slice_l W 34 ao n c (by rw [he]; exact Tryd.underlying34) .i64 (L : Int) h h', he]
  go_simp
theorem slice_tail {w : World} {ao : Option Addr} {c : Nat} {R : List Nd} (h : RdN w (.slice ao R.length c) R) (hn : NilOk (.slice ao R.length c)) (L : Nat) (hL : L ≤ R.length) :
    ∃ a2, (∀ W, (Instr.slice 34 (.slice ao R.length c) (some (.int .i64 (L : Int))) none none).run Tryd.prog W = .ok (.slice a2 (R.length - L) (c - L)) W) ∧ RdN w (.slice a2 (R.length - L) (c - L)) (R.drop L) ∧ NilOk (.slice a2 (R.length - L) (c - L)) := by
  obtain ⟨ao', c', e, h1, h2, h3⟩ := h
  simp only [Value.slice.injEq] at e
  obtain ⟨rfl, -, rfl⟩ := e
  refine ⟨if c = L then ao else ao.map (·.add (L * 7)), run_tail ao _ c L hL, ⟨_, _, by rw [List.length_drop], by rw [List.length_drop]; omega, by omega, ?_⟩, ?_⟩
  · rcases h3 with rfl | ⟨b, o, rfl, hb, hc⟩
    · exact .inl (by simp)
    · by_cases hcl : c = L
      · exact .inl (List.drop_eq_nil_of_le (by omega))
      · refine .inr ⟨b, o + L * 7, by rw [if_neg hcl, Option.map_some, Addr.add_lit], hb, fun i hi => ?_⟩
        rw [List.length_drop] at hi
        have := hc (L + i) (by omega)
        have e1 : nAt (R.drop L) i = nAt R (L + i) := by unfold nAt; simp [List.getD]
        rw [e1, show o + L * 7 + i * 7 = o + (L + i) * 7 by omega]
        exact this
  · intro n' c2 hv
    simp only [Value.slice.injEq] at hv
    obtain ⟨ha, rfl, rfl⟩ := hv
    have hao : ao = none := by
      by_cases hcl : c = L
      · rw [if_pos hcl] at ha; exact ha
      · rw [if_neg hcl] at ha; simpa using ha
    subst hao
    have := hn _ _ rfl
    omega
theorem apI_rest (ns : List Nd) (es : List Ef) : (apI ns es).2.length ≤ ns.length := by
  have : ∀ (es : List Ef) (st : List Nd × List Nd), (es.foldl apS st).2.length ≤ st.2.length := by
    intro es
    induction es with
    | nil => exact fun st => Nat.le_refl _
    | cons e es ih =>
      intro st
      rw [List.foldl_cons]
      refine Nat.le_trans (ih _) ?_
      unfold apS
      rw [List.length_drop]
      omega
  exact this es ([], ns)
theorem BoxE.grown {w w' : World} {B g : Nat} {n : Ef} (h : BoxE w B n) (hg : w.grownBy w' (some g)) (hne : B ≠ g) : BoxE w' B n := by
  have e := hg.block B h.lt (by simpa using hne)
  have cc : ∀ i, w'.cell? ⟨B, i, none⟩ = w.cell? ⟨B, i, none⟩ := fun i => by simp [World.cell?, e]
  have hs : w.heap.size ≤ w'.heap.size := hg.size
  exact ⟨Nat.lt_of_lt_of_le h.lt hs, (cc _).trans h.c0, (cc _).trans h.c1, (cc _).trans h.c2, (cc _).trans h.c3, (cc _).trans h.c4, (cc _).trans h.c5, (cc _).trans h.c6, (cc _).trans h.c7⟩

/-- What a call of ApplyTxn holds behind k effects. -/
structure ApS (w : World) (g C : Nat) (st : List Nd × List Nd) (v : Value) (z : Int) (vx : Value) (vo vr : Value) (W : World) : Prop where
  own : W.ownsRow (w.heap.size + 3) 84 7 vo st.1.length (nrow st.1)
  head : vo = .slice (some ⟨g, 0, none⟩) st.1.length C
  rest : RdN w vr st.2
  nil : NilOk vr
  below : Below w.heap.size w W
  box : ApB w.heap.size v z vx W

set_option maxHeartbeats 2000000 in
set_option maxRecDepth 100000 in
theorem implApply_any (w : World) (v : Value) (ns : List Nd) (z : Int) (vx : Value) (es : List Ef) (h : RdN w v ns) (hnil : NilOk v) (hx : RdE w vx es)
    (hsz : ∀ i, (nAt ns i).path.size ≤ 1048576 ∧ (nAt ns i).data.size ≤ 1048576) (hsx : ∀ i, (eAt es i).nd.path.size ≤ 1048576 ∧ (eAt es i).nd.data.size ≤ 1048576) :
    Calls Tryd.prog 118 #[.agg #[v], .agg #[.int .i64 z, vx]] w fun e w' => ∃ v', e = .returned (.agg #[v']) ∧ OwnN 84 w' w.heap.size v' (resA ns z es) ∧ Below w.heap.size w w' := by
  obtain ⟨i0, hi, hz0, hz1, hz2⟩ := info_parts Tryd.infoN
  obtain ⟨ao, ca, rfl, _, _⟩ := h.len
  obtain ⟨xo, cx, rfl, _, _⟩ := hx.len
  have HR : Hid (RdN w (.slice ao ns.length ca) ns) := h
  have HX : Hid (RdE w (.slice xo es.length cx) es) := hx
  have HN : Hid (NilOk (.slice ao ns.length ca)) := hnil
  have HZ : Hid (∀ i, (nAt ns i).path.size ≤ 1048576 ∧ (nAt ns i).data.size ≤ 1048576) := hsz
  have HZX : Hid (∀ i, (eAt es i).nd.path.size ≤ 1048576 ∧ (eAt es i).nd.data.size ≤ 1048576) := hsx
  have B0 : Hid (Below w.heap.size w (((w.alloc (.cells #[.slice ao ns.length ca] 36)).alloc (.cells #[.int .i64 z, .slice xo es.length cx] 106)).alloc (.cells #[.slice none 0 0] 36))) := (((Below.refl _ _).alloc (Nat.le_refl _) _).alloc (by simp) _).alloc (by simp; omega) _
  have X0 : Hid (ApB w.heap.size (.slice ao ns.length ca) z (.slice xo es.length cx) (((w.alloc (.cells #[.slice ao ns.length ca] 36)).alloc (.cells #[.int .i64 z, .slice xo es.length cx] 106)).alloc (.cells #[.slice none 0 0] 36))) := ApB.new _ _ _ _
  clear h hx hsz hsx hnil
  go_enter Tryd.func118, Tryd.ntmps118
  go_wp2_with fail
  generalize ((w.alloc (.cells #[.slice ao ns.length ca] 36)).alloc (.cells #[.int .i64 z, .slice xo es.length cx] 106)).alloc (.cells #[.slice none 0 0] 36) = w0 at *
  refine (implTree_any _ _ ns (HR.out.below B0.out) HZ.out).mono ?_
  rintro e w1 ⟨rfl, b1⟩
  have B1 : Hid (Below w.heap.size w w1) := B0.out.trans (b1.mono B0.out.size)
  have X1 : Hid (ApB w.heap.size (.slice ao ns.length ca) z (.slice xo es.length cx) w1) := X0.out.below b1 X0.out.size
  clear b1 X0 B0
  by_cases hok : okTree ns = true
  rotate_left
  · have hok' : okTree ns = false := by simpa using hok
    have HT : Hid (resA ns z es = []) := by show _ = _; unfold resA; rw [hok']; rfl
    rw [hok']
    clear hok hok'
    have c0 := X1.out.r.cell
    have f0 := X1.out.r.frozen
    go_wp2
    refine bodyPost_ret (v := .agg #[.slice none 0 0]) (by simp [results, Tryd.results118, go_sem, c0]) rfl ⟨_, rfl, (by rw [HT.out]; exact World.ownsRow_nil _ _ _ _), ?_⟩
    repeat (first | exact B1.out | refine Below.setCell ?_ (by simp; try omega) _)
  rw [hok]
  have cx0 := X1.out.x.cells
  go_wp2_with fail
  clear cx0
  refine (implTxn_any _ _ _ es (HX.out.below B1.out) HZX.out).mono ?_
  rintro e w2 ⟨rfl, b2⟩
  have B2 : Hid (Below w.heap.size w w2) := B1.out.trans (b2.mono B1.out.size)
  have X2 : Hid (ApB w.heap.size (.slice ao ns.length ca) z (.slice xo es.length cx) w2) := X1.out.below b2 X1.out.size
  clear b2 X1 B1
  by_cases hpp : okTxn z es = true
  rotate_left
  · have hpp' : okTxn z es = false := by simpa using hpp
    have HT : Hid (resA ns z es = []) := by show _ = _; unfold resA; rw [hpp']; simp
    rw [hpp']
    clear hpp hpp' hok
    have c0 := X2.out.r.cell
    have f0 := X2.out.r.frozen
    go_wp2
    refine bodyPost_ret (v := .agg #[.slice none 0 0]) (by simp [results, Tryd.results118, go_sem, c0]) rfl ⟨_, rfl, (by rw [HT.out]; exact World.ownsRow_nil _ _ _ _), ?_⟩
    repeat (first | exact B2.out | refine Below.setCell ?_ (by simp; try omega) _)
  have hn1 : ns.length ≤ 1000 := okTree_len hok
  have he1 : es.length ≤ 1000 := (okTxn_es hpp).2
  have HT : Hid (resA ns z es = apL ns es) := by show _ = _; unfold resA; rw [hok, hpp]; rfl
  have HA : Hid (Asc ns) := okTree_asc hok
  have HE : Hid (AscE es) := okEs_asc (okTxn_es hpp).1
  rw [hpp]
  clear hok hpp
  have ct := X2.out.t.cell
  obtain ⟨y0, y1⟩ := X2.out.x.cells
  have s2 := X2.out.size
  generalize hen : es.length = n at *
  have HP : Hid (es.length = n) := hen
  clear hen
  generalize hnn : ns.length = m at *
  have HM : Hid (ns.length = m) := hnn
  clear hnn
  go_wp2_with (at_make; go_must (refine wpList_make_own _ rfl _ _ 34 rfl (w.heap.size + 3) 84 i0 (.agg #[.string ByteArray.empty, .string ByteArray.empty, .int .i64 0, .int .i64 0, .int .i64 0, .int .i64 0, .int .i64 0]) 7 Tryd.underlying34 hi hz0 hz1 _ _ _ (m + n) rfl rfl ?c0 ?b2 ?b3 ?b4 ?_))
  case c0 => omega
  case b2 => rw [hz2]; omega
  case b3 => unfold maxLen; omega
  case b4 => exact s2
  intro w3 ho3 hg3
  have BG : Hid (Below w2.heap.size w2 w3) := (Below.refl _ _).grown hg3 (Nat.le_refl _) (fun q hq => by simp at hq)
  have S3 : Hid (ApS w w2.heap.size (m + n) (apI ns (es.take 0)) (.slice ao m ca) z (.slice xo n cx) (.slice (some ⟨w2.heap.size, 0, none⟩) 0 (m + n)) (.slice ao m ca) w3) := ⟨ho3, rfl, HR.out, HN.out, B2.out.trans (BG.out.mono B2.out.size), X2.out.below BG.out s2⟩
  clear ho3 hg3 BG ct y0 y1
  have ct := S3.out.box.t.cell
  obtain ⟨y0, y1⟩ := S3.out.box.x.cells
  generalize hg : w2.heap.size = g at *
  clear X2 B2 hg
  go_wp2
  go_loopw [5, 6, 33] (fun vo vr vk wr => ∃ k : Nat, k ≤ n ∧ vk = .int .i64 k ∧ Hid (ApS w g (m + n) (apI ns (es.take k)) (.slice ao m ca) z (.slice xo n cx) vo vr wr)) (fun _ _ i _ => n - (intOf i).toNat)
  case atStart => exact ⟨0, Nat.zero_le _, rfl, S3⟩
  case round =>
    clear ct y0 y1 S3
    obtain ⟨k, hk, rfl, HS⟩ := hrel
    obtain ⟨A, R, hAR⟩ : ∃ A R, apI ns (es.take k) = (A, R) := ⟨_, _, rfl⟩
    have hlen : A.length + R.length ≤ m + k := by
      have := apI_len ns es k
      rw [hAR, HM.out] at this
      exact this
    have hrl : R.length ≤ m := by
      have := apI_rest ns (es.take k)
      rw [hAR, HM.out] at this
      exact this
    have HAsc : Hid (Asc R) := by
      have := apI_asc HA.out (es.take k)
      rw [hAR] at this
      exact this
    have HAR : Hid (apI ns (es.take k) = (A, R)) := hAR
    rw [hAR] at HS
    clear hAR
    obtain ⟨OW0, hd0, RR0, NN0, HB0, HBX0⟩ := HS.out
    obtain ⟨ro, rc, h6, hr1, hr2⟩ := RR0.len
    have OW : Hid (OwnN 84 wr (w.heap.size + 3) (.slice (some ⟨g, 0, none⟩) A.length (m + n)) A) := by rw [hd0] at OW0; exact OW0
    have RR : Hid (RdN w (.slice ro R.length rc) R) := by rw [h6] at RR0; exact RR0
    have NN : Hid (NilOk (.slice ro R.length rc)) := by rw [h6] at NN0; exact NN0
    have HB : Hid (Below w.heap.size w wr) := HB0
    have HBX : Hid (ApB w.heap.size (.slice ao m ca) z (.slice xo n cx) wr) := HBX0
    have hr1' : R.length ≤ rc := hr1
    replace hd0 : u5 = .slice (some ⟨g, 0, none⟩) A.length (m + n) := hd0
    replace h6 : u6 = .slice ro R.length rc := h6
    subst hd0 h6
    clear OW0 RR0 NN0 HB0 HBX0 HS hr1 hr2
    have sB := HB.out.size
    have hgl : g < wr.heap.size := (World.ownsRow.lt OW.out g rfl).2
    by_cases hlt : k < n
    · have hltI : (k : Int) < (n : Int) := by omega
      obtain ⟨b, o, hao, hb, hc⟩ : ∃ b o, xo = some ⟨b, o, none⟩ ∧ b < w.heap.size ∧ CellsE w b (o + k * 8) (eAt es k) := by
        obtain ⟨ao', cap', e', -, -, h3⟩ := HX.out
        simp only [Value.slice.injEq] at e'
        obtain ⟨rfl, -, -⟩ := e'
        rcases h3 with h3 | ⟨b, o, rfl, hb, hc⟩
        · have := HP.out; rw [h3] at this; simp at this; omega
        · exact ⟨b, o, rfl, hb, hc k (by rw [HP.out]; exact hlt)⟩
      subst hao
      obtain ⟨c0, c1, c2, c3, c4, c5, c6, c7⟩ := hc.below HB.out hb
      clear hc
      have HS1 : Hid (apI ns (es.take (k + 1)) = apS (A, R) (eAt es k)) := by
        show _ = _
        rw [← HAR.out]
        exact apI_succ ns es k (by rw [HP.out]; exact hlt)
      clear HAR
      go_wp2_with fail
      clear c0 c1 c2 c3 c4 c5 c6 c7
      generalize eAt es k = f at *
      have BA : Hid (Below wr.heap.size wr (wr.alloc (.cells #[.bool f.del, .string f.nd.path, .string f.nd.data, .int .i64 f.nd.ver, .int .i64 f.nd.cver, .int .i64 f.nd.cz, .int .i64 f.nd.mz, .int .i64 f.nd.pz] 157))) := (Below.refl _ _).alloc (Nat.le_refl _) _
      have EX : Hid (BoxE (wr.alloc (.cells #[.bool f.del, .string f.nd.path, .string f.nd.data, .int .i64 f.nd.ver, .int .i64 f.nd.cver, .int .i64 f.nd.cz, .int .i64 f.nd.mz, .int .i64 f.nd.pz] 157)) wr.heap.size f) := BoxE.new _ _ _
      generalize wr.alloc (.cells #[.bool f.del, .string f.nd.path, .string f.nd.data, .int .i64 f.nd.ver, .int .i64 f.nd.cver, .int .i64 f.nd.cz, .int .i64 f.nd.mz, .int .i64 f.nd.pz] 157) = wA at *
      generalize hB : wr.heap.size = B at *
      have HG : Hid (B ≠ g) := by show _ ≠ _; omega
      have OWA : Hid (OwnN 84 wA (w.heap.size + 3) (.slice (some ⟨g, 0, none⟩) A.length (m + n)) A) := OW.out.below (hB ▸ BA.out)
      have B1 : Hid (Below w.heap.size w wA) := HB.out.trans (BA.out.mono sB)
      have X1 : Hid (ApB w.heap.size (.slice ao m ca) z (.slice (some ⟨b, o, none⟩) n cx) wA) := HBX.out.below BA.out (by omega)
      clear OW HB HBX BA hB
      obtain ⟨L, hL⟩ : ∃ L, L = plc R f.nd.path := ⟨_, rfl⟩
      have hLR : L ≤ R.length := by rw [hL]; exact plc_le _ _
      have HLow : Hid (Low R f.nd.path L) := by rw [hL]; exact low_plc R _ HAsc.out
      have HS2 : Hid (apI ns (es.take (k + 1)) = (A ++ R.take L ++ (if f.del then [] else [f.nd]), R.drop (L + if fnd R f.nd.path L then 1 else 0))) := by
        show _ = _
        rw [HS1.out, hL]
        rfl
      have HF1 : Hid (fnd R f.nd.path L = true → L < R.length) := by
        intro hh
        unfold fnd at hh
        simp only [Bool.and_eq_true, decide_eq_true_eq] at hh
        exact hh.1
      clear HS1 hL
      refine (findNode_any wA _ R f.nd.path L (RR.out.below B1.out) (by omega) HLow.out).mono ?_
      rintro e w4 ⟨rfl, b4⟩
      have OW4 : Hid (OwnN 84 w4 (w.heap.size + 3) (.slice (some ⟨g, 0, none⟩) A.length (m + n)) A) := OWA.out.below b4
      have B4 : Hid (Below w.heap.size w w4) := B1.out.trans (b4.mono B1.out.size)
      have X4 : Hid (ApB w.heap.size (.slice ao m ca) z (.slice (some ⟨b, o, none⟩) n cx) w4) := X1.out.below b4 X1.out.size
      have E4 : Hid (BoxE w4 B f) := EX.out.below b4
      clear b4 OWA B1 X1 EX
      have hs1 := run_head ro R.length rc L hLR hr1'
      go_wp2_with (at_builtin; go_must (refine wpList_append_fits_any _ rfl _ _ 34 rfl (w.heap.size + 3) 84 i0 7 Tryd.underlying34 hi hz1 g A.length (m + n) (nrow A) rfl OW4.out ro L rc (nrow (R.take L)) rfl ?n1 ?n2 ?n3 ?n4 ?n5 ?_))
      case n1 => rw [nrow_length, List.length_take]; omega
      case n2 => exact fun e => by have := NN.out R.length rc (by rw [e]); omega
      case n3 => exact fun ad had j u hu => (RR.out.below B4.out).rowCells ad had j u (nrow_take hu)
      case n4 => exact ndL_ones _
      case n5 => omega
      intro w5 ho5 hg5
      have OW5 : Hid (OwnN 84 w5 (w.heap.size + 3) (.slice (some ⟨g, 0, none⟩) (A.length + L) (m + n)) (A ++ R.take L)) := by
        show World.ownsRow _ _ _ _ _ _ _
        rw [List.length_append, List.length_take, Nat.min_eq_left hLR, nrow_append]
        exact ho5
      have B5 : Hid (Below w.heap.size w w5) := B4.out.grown hg5 B4.out.size (fun q hq => by simp only [Option.some.injEq] at hq; omega)
      have X5 : Hid (ApB w.heap.size (.slice ao m ca) z (.slice (some ⟨b, o, none⟩) n cx) w5) := X4.out.below ((Below.refl (w.heap.size + 3) w4).grown hg5 X4.out.size (fun q hq => by simp only [Option.some.injEq] at hq; omega)) (Nat.le_refl _)
      have E5 : Hid (BoxE w5 B f) := E4.out.grown hg5 HG.out
      have G5 : g < w5.heap.size := (World.ownsRow.lt OW5.out g rfl).2
      clear ho5 hg5 OW4 B4 X4 E4 hs1
      obtain ⟨a2, hs2, r2, n2⟩ := slice_tail RR.out NN.out L hLR
      have R2 : Hid (RdN w (.slice a2 (R.length - L) (rc - L)) (R.drop L)) := r2
      have N2 : Hid (NilOk (.slice a2 (R.length - L) (rc - L))) := n2
      clear r2 n2
      obtain ⟨e0, e1, e2, e3, e4, e5, e6, e7⟩ := E5.out.all
      obtain ⟨vr, Rn, hw⟩ : ∃ vr Rn, (Rn = R.drop (L + if fnd R f.nd.path L then 1 else 0) ∧ Hid (RdN w vr Rn) ∧ Hid (NilOk vr)) ∧ ((fnd R f.nd.path L = false ∧ vr = .slice a2 (R.length - L) (rc - L)) ∨ (fnd R f.nd.path L = true ∧ ∀ W, (Instr.slice 34 (.slice a2 (R.length - L) (rc - L)) (some (.int .i64 1)) none none).run Tryd.prog W = .ok vr W)) := by
        cases hf : fnd R f.nd.path L with
        | false => exact ⟨_, _, ⟨rfl, R2, N2⟩, .inl ⟨rfl, rfl⟩⟩
        | true =>
          have hl := HF1.out hf
          have R2' : RdN w (.slice a2 (R.drop L).length (rc - L)) (R.drop L) := by rw [List.length_drop]; exact R2.out
          have N2' : NilOk (.slice a2 (R.drop L).length (rc - L)) := by rw [List.length_drop]; exact N2.out
          obtain ⟨a3, hs3, r3, n3⟩ := slice_tail R2' N2' 1 (by rw [List.length_drop]; omega)
          rw [List.length_drop] at hs3 r3 n3
          rw [List.drop_drop] at r3
          exact ⟨_, _, ⟨rfl, r3, n3⟩, .inr ⟨rfl, hs3⟩⟩
      obtain ⟨⟨hRn, R3, N3⟩, hw⟩ := hw
      have HS3 : Hid (apI ns (es.take (k + 1)) = (A ++ R.take L ++ (if f.del then [] else [f.nd]), Rn)) := by rw [hRn]; exact HS2.out
      have HLT : Hid ((A ++ R.take L).length = A.length + L) := by show _ = _; rw [List.length_append, List.length_take, Nat.min_eq_left hLR]
      clear HS2 hRn
      cases hdel : f.del with
      | true =>
        rw [hdel] at e0
        have S9 : Hid (ApS w g (m + n) (apI ns (es.take (k + 1))) (.slice ao m ca) z (.slice (some ⟨b, o, none⟩) n cx) (.slice (some ⟨g, 0, none⟩) (A.length + L) (m + n)) vr w5) := by
          have e9 : apI ns (es.take (k + 1)) = (A ++ R.take L, Rn) := by rw [HS3.out, hdel]; simp
          rw [e9]
          exact ⟨OW5.out, by rw [HLT.out], R3.out, N3.out, B5.out, X5.out⟩
        clear HS3 HLT OW5 R3 N3 B5 X5 R2 N2
        rcases hw with ⟨hf, rfl⟩ | ⟨hf, hs3⟩
        · rw [hf]
          go_wp2
          exact ⟨⟨k + 1, by omega, by go_num, S9⟩, by simp [intOf]; omega⟩
        · rw [hf]
          go_wp2
          exact ⟨⟨k + 1, by omega, by go_num, S9⟩, by simp [intOf]; omega⟩
      | false =>
        rw [hdel] at e0
        have FIN : Hid (∀ w', w'.ownsRow (w.heap.size + 3) 84 7 (.slice (some ⟨g, 0, none⟩) (A.length + L + 1) (m + n)) (A.length + L + 1) (nrow (A ++ R.take L) ++ ndL f.nd) → ∀ t, (w5.alloc (.cells #[.string f.nd.path, .string f.nd.data, .int .i64 f.nd.ver, .int .i64 f.nd.cver, .int .i64 f.nd.cz, .int .i64 f.nd.mz, .int .i64 f.nd.pz] t)).grownBy w' (some g) → Hid (ApS w g (m + n) (apI ns (es.take (k + 1))) (.slice ao m ca) z (.slice (some ⟨b, o, none⟩) n cx) (.slice (some ⟨g, 0, none⟩) (A.length + L + 1) (m + n)) vr w')) := by
          intro w' how t hgw
          have e9 : apI ns (es.take (k + 1)) = (A ++ R.take L ++ [f.nd], Rn) := by rw [HS3.out, hdel]; simp
          have el : (A ++ R.take L ++ [f.nd]).length = A.length + L + 1 := by rw [List.length_append, HLT.out]; rfl
          rw [e9]
          have hb3 : Below (w.heap.size + 3) w5 w' := ((Below.refl (w.heap.size + 3) w5).alloc X5.out.size _).grown hgw (by have := X5.out.size; simp; omega) (fun q hq => by simp only [Option.some.injEq] at hq; omega)
          refine ⟨?_, ?_, R3.out, N3.out, B5.out.trans (hb3.mono (by omega)), X5.out.below hb3 (Nat.le_refl _)⟩
          · show World.ownsRow _ _ _ _ _ (A ++ R.take L ++ [f.nd]).length (nrow (A ++ R.take L ++ [f.nd]))
            rw [el, nrow_one]
            exact how
          · show _ = Value.slice _ (A ++ R.take L ++ [f.nd]).length _
            rw [el]
        have OR : Hid (w5.ownsRow (w.heap.size + 3) 84 7 (.slice (some ⟨g, 0, none⟩) (A.length + L) (m + n)) (A.length + L) (nrow (A ++ R.take L))) := by
          have := OW5.out
          unfold OwnN at this
          rw [HLT.out] at this
          exact this
        clear HS3 HLT OW5 R3 N3 R2 N2
        rcases hw with ⟨hf, rfl⟩ | ⟨hf, hs3⟩
        · rw [hf]
          go_wp2_with (at_builtin; go_must (refine wpList_append_fits _ rfl _ _ 34 rfl (w.heap.size + 3) 84 i0 7 Tryd.underlying34 hi hz1 g (A.length + L) (m + n) _ rfl (OR.out.alloc _) ⟨w5.heap.size, 0, none⟩ 1 1 (ndL f.nd) rfl rfl (ndL_cells w5 f.nd _) (ndL_one f.nd) ?q1 ?_))
          case q1 => omega
          intro w6 ho6 hg6
          have S9 := FIN.out w6 ho6 _ hg6
          clear FIN OR ho6 hg6 e0 e1 e2 e3 e4 e5 e6 e7
          go_wp2
          exact ⟨⟨k + 1, by omega, by go_num, S9⟩, by simp [intOf]; omega⟩
        · rw [hf]
          go_wp2_with (at_builtin; go_must (refine wpList_append_fits _ rfl _ _ 34 rfl (w.heap.size + 3) 84 i0 7 Tryd.underlying34 hi hz1 g (A.length + L) (m + n) _ rfl (OR.out.alloc _) ⟨w5.heap.size, 0, none⟩ 1 1 (ndL f.nd) rfl rfl (ndL_cells w5 f.nd _) (ndL_one f.nd) ?q2 ?_))
          case q2 => have := HF1.out hf; omega
          intro w6 ho6 hg6
          have S9 := FIN.out w6 ho6 _ hg6
          clear FIN OR ho6 hg6 e0 e1 e2 e3 e4 e5 e6 e7
          go_wp2
          exact ⟨⟨k + 1, by omega, by go_num, S9⟩, by simp [intOf]; omega⟩
    · have hkn : k = n := by omega
      subst hkn
      have HF : Hid (A ++ R = resA ns z es) := by
        have := apI_all HA.out HE.out HP.out
        rw [HAR.out] at this
        rw [HT.out]
        exact this
      clear HAR
      go_wp2_with (at_builtin; go_must (refine wpList_append_fits_any _ rfl _ _ 34 rfl (w.heap.size + 3) 84 i0 7 Tryd.underlying34 hi hz1 g A.length (m + k) (nrow A) rfl OW.out ro R.length rc (nrow R) rfl ?m1 ?m2 ?m3 ?m4 ?m5 ?_))
      case m1 => rw [nrow_length]
      case m2 => exact fun e => NN.out R.length rc (by rw [e])
      case m3 => exact fun ad had j u hu => (RR.out.below HB.out).rowCells ad had j u hu
      case m4 => exact ndL_ones _
      case m5 => omega
      intro w5 ho5 hg5
      have OW5 : Hid (OwnN 84 w5 (w.heap.size + 3) (.slice (some ⟨g, 0, none⟩) (A.length + R.length) (m + k)) (resA ns z es)) := by
        rw [← HF.out]
        show World.ownsRow _ _ _ _ _ _ _
        rw [List.length_append, nrow_append]
        exact ho5
      have B5 : Hid (Below w.heap.size w w5) := HB.out.grown hg5 HB.out.size (fun q hq => by simp only [Option.some.injEq] at hq; omega)
      have X5 : Hid (ApB w.heap.size (.slice ao m ca) z (.slice xo k cx) w5) := HBX.out.below ((Below.refl (w.heap.size + 3) wr).grown hg5 HBX.out.size (fun q hq => by simp only [Option.some.injEq] at hq; omega)) (Nat.le_refl _)
      clear ho5 hg5 OW HB HBX
      have c0 := X5.out.r.cell
      have f0 := X5.out.r.frozen
      go_wp2
      refine bodyPost_ret (v := .agg #[.slice (some ⟨g, 0, none⟩) (A.length + R.length) (m + k)]) (by simp [results, Tryd.results118, go_sem, c0]) rfl ⟨_, rfl, ?_, ?_⟩
      · refine OwnN.mono ?_ (show w.heap.size ≤ w.heap.size + 3 by omega)
        repeat (first | exact OW5.out | refine OwnN.setBelow ?_ (by simp; try omega) _)
      · repeat (first | exact B5.out | refine Below.setCell ?_ (by simp; try omega) _)

end Go.Proofs.YtmgolinleiahpaaDoor

namespace Go.Proofs.YtmgolinleiahpaaDoor
open Go.RowKit Go.Shelf

set_option maxHeartbeats 1000000 in
set_option maxRecDepth 100000 in
theorem follows_any (w : World) (Br : Nat) (v : Value) (zx en last z : Int) (k : Nat) (xa : Option Addr) (xl xc : Nat) (h : B4F w Br v (.int .i64 zx) (.int .i64 (k : Int)) (.int .i64 en)) (hx : -1 ≤ zx ∧ zx ≤ 2147483647) (hl : 0 < k → 1 ≤ last ∧ last ≤ 2147483647) :
    Calls Tryd.prog 76 #[.pointer (some ⟨Br, 0, none⟩), .int .i64 last, .agg #[.int .i64 z, .slice xa xl xc]] w fun e w' => e = .returned (.bool (if k = 0 then decide (z ≤ zx + 1) else decide (z = last + 1))) ∧ Below w.heap.size w w' := by
  have B0 : Hid (Below w.heap.size w (w.alloc (.cells #[.int .i64 z, .slice xa xl xc] 106))) := (Below.refl _ _).alloc (Nat.le_refl _) _
  have H0 : Hid (B4F (w.alloc (.cells #[.int .i64 z, .slice xa xl xc] 106)) Br v (.int .i64 zx) (.int .i64 (k : Int)) (.int .i64 en)) := h.below B0.out
  have HT : Hid (Box2 (w.alloc (.cells #[.int .i64 z, .slice xa xl xc] 106)) w.heap.size (.int .i64 z) (.slice xa xl xc)) := Box2.new _ _ _ _
  clear h
  by_cases hk0 : k = 0
  · subst hk0
    rw [if_pos rfl]
    cases hle : decide (z ≤ zx + 1) with
    | true =>
      have hle' : z ≤ zx + 1 := by simpa using hle
      obtain ⟨z0, ⟨c0, c1, c2, c3⟩, -⟩ := H0.out
      go_enter Tryd.func76, Tryd.ntmps76
      go_wp2_with fail
      obtain ⟨z1, t0, t1⟩ := HT.out
      generalize w.alloc (.cells #[.int .i64 z, .slice xa xl xc] 106) = w0 at *
      go_quiet (fail)
      go_wp2
      go_ret
      exact ⟨rfl, below_drewQ B0.out _⟩
    | false =>
      have hle' : ¬ z ≤ zx + 1 := by simpa using hle
      obtain ⟨z0, ⟨c0, c1, c2, c3⟩, -⟩ := H0.out
      go_enter Tryd.func76, Tryd.ntmps76
      go_wp2_with fail
      obtain ⟨z1, t0, t1⟩ := HT.out
      generalize w.alloc (.cells #[.int .i64 z, .slice xa xl xc] 106) = w0 at *
      go_quiet (fail)
      go_wp2
      go_ret
      exact ⟨rfl, below_drewQ B0.out _⟩
  · rw [if_neg hk0]
    have hl' := hl (by omega)
    have hkI : ¬ (k : Int) = 0 := by omega
    have hkb : ((k : Int) == 0) = false := by simpa using hkI
    clear hl
    obtain ⟨z0, ⟨c0, c1, c2, c3⟩, -⟩ := H0.out
    obtain ⟨b, hb⟩ : ∃ b, b = (z == last + 1) := ⟨_, rfl⟩
    have HE : Hid (decide (z = last + 1) = b) := by rw [hb]; show _ = _; cases h : (z == last + 1) <;> simp_all
    rw [HE.out]
    go_enter Tryd.func76, Tryd.ntmps76
    go_wp2
    go_ret
    exact ⟨by rw [hb]; rfl, B0.out⟩

/-- What reach leaves behind. -/
def ReachPost (w : World) (Br : Nat) (ns : List Nd) (zx : Int) (k : Nat) (en z : Int) (es : List Ef) (e : Ending) (w' : World) : Prop :=
  (z ≤ zx ∧ e = .returned (.bool true) ∧ Below w.heap.size w w') ∨ (zx < z ∧ 1000 < (resA ns z es).length ∧ e = .returned (.bool false) ∧ Below w.heap.size w w') ∨
    (zx < z ∧ ¬ 1000 < (resA ns z es).length ∧ e = .returned (.bool true) ∧ ∃ v', B4F w' Br v' (.int .i64 z) (.int .i64 (k : Int)) (.int .i64 en) ∧ OwnN 84 w' w.heap.size v' (resA ns z es) ∧ w.grownBy w' (some Br))

set_option maxHeartbeats 2000000 in
set_option maxRecDepth 100000 in
theorem reach_any (w : World) (Br : Nat) (va : Option Addr) (vc : Nat) (ns : List Nd) (zx en z : Int) (k : Nat) (xa : Option Addr) (xc : Nat) (es : List Ef) (h : B4F w Br (.slice va ns.length vc) (.int .i64 zx) (.int .i64 (k : Int)) (.int .i64 en)) (hn : RdN w (.slice va ns.length vc) ns) (hnil : NilOk (.slice va ns.length vc)) (hg : Good ns) (hx : RdE w (.slice xa es.length xc) es) (hok : okTxn z es = true) :
    Calls Tryd.prog 77 #[.pointer (some ⟨Br, 0, none⟩), .agg #[.int .i64 z, .slice xa es.length xc]] w (ReachPost w Br ns zx k en z es) := by
  have B0 : Hid (Below w.heap.size w (w.alloc (.cells #[.int .i64 z, .slice xa es.length xc] 106))) := (Below.refl _ _).alloc (Nat.le_refl _) _
  have H0 : Hid (B4F (w.alloc (.cells #[.int .i64 z, .slice xa es.length xc] 106)) Br (.slice va ns.length vc) (.int .i64 zx) (.int .i64 (k : Int)) (.int .i64 en)) := h.below B0.out
  have HT : Hid (Box2 (w.alloc (.cells #[.int .i64 z, .slice xa es.length xc] 106)) w.heap.size (.int .i64 z) (.slice xa es.length xc)) := Box2.new _ _ _ _
  have HBr : Hid (Br < w.heap.size) := h.1
  have HN : Hid (RdN w (.slice va ns.length vc) ns) := hn
  have HX : Hid (RdE w (.slice xa es.length xc) es) := hx
  have HNIL : Hid (NilOk (.slice va ns.length vc)) := hnil
  have HG : Hid (Good ns) := hg
  have HOK : Hid (okTxn z es = true) := hok
  clear h hn hx hnil hg hok
  go_enter Tryd.func77, Tryd.ntmps77
  go_wp2_with fail
  obtain ⟨z0, ⟨c0, c1, c2, c3⟩, -⟩ := H0.out
  obtain ⟨z1, t0, t1⟩ := HT.out
  have HS0 : Hid ((w.alloc (.cells #[.int .i64 z, .slice xa es.length xc] 106)).heap.size = w.heap.size + 1) := by show _ = _; simp
  generalize w.alloc (.cells #[.int .i64 z, .slice xa es.length xc] 106) = w0 at *
  by_cases hle : z ≤ zx
  · go_quiet (fail)
    go_wp2
    go_ret
    exact .inl ⟨hle, rfl, below_drewQ B0.out _⟩
  · go_quiet (fail)
    have bq : Below w0.heap.size w0 (w0.drewN nq) := below_drewN' w0 nq
    have B1 : Hid (Below w.heap.size w (w0.drewN nq)) := B0.out.trans (bq.mono B0.out.size)
    have H1 : Hid (B4F (w0.drewN nq) Br (.slice va ns.length vc) (.int .i64 zx) (.int .i64 (k : Int)) (.int .i64 en)) := H0.out.below bq
    have T1 : Hid (Box2 (w0.drewN nq) w.heap.size (.int .i64 z) (.slice xa es.length xc)) := HT.out.below bq
    clear bq z0 c0 c1 c2 c3 z1 t0 t1 B0 H0 HT
    go_wp2_with fail
    generalize w0.drewN nq = w1 at *
    obtain ⟨z1, t0, t1⟩ := T1.out
    obtain ⟨z0, ⟨c0, c1, c2, c3⟩, -⟩ := H1.out
    have HAP : Hid (∀ W, Below w1.heap.size w1 W → Calls Tryd.prog 118 #[.agg #[.slice va ns.length vc], .agg #[.int .i64 z, .slice xa es.length xc]] W fun e w' => ∃ ra rc, e = .returned (.agg #[.slice ra (resA ns z es).length rc]) ∧ OwnN 84 w' W.heap.size (.slice ra (resA ns z es).length rc) (resA ns z es) ∧ Below W.heap.size W w') := by
      intro W hW
      have hb := B1.out.trans (hW.mono B1.out.size)
      refine (implApply_any W _ ns z _ es (HN.out.below hb) HNIL.out (HX.out.below hb) (good_sz HG.out) (es_sz HOK.out)).mono ?_
      rintro e w' ⟨v', rfl, o, b⟩
      obtain ⟨ra, rc, rfl⟩ := OwnN.slice9 o
      exact ⟨ra, rc, rfl, o, b⟩
    have hrl := resA_len ns z es
    have bP : Below w1.heap.size w1 w1.drew := below_drewN' w1 1
    refine wp_region_held_drew (S := fun W => W.cell? ⟨Br, 0, none⟩ = some (.slice va ns.length vc) ∧ W.cell? ⟨w.heap.size, 0, none⟩ = some (.int .i64 z) ∧ W.cell? ⟨w.heap.size, 1, none⟩ = some (.slice xa es.length xc)) (by kernel_rfl) (⟨(bP.cell (p := ⟨Br, 0, none⟩) H1.out.1).trans H1.out.2.1.1, (bP.cell (p := ⟨w.heap.size, 0, none⟩) T1.out.1).trans T1.out.2.1, (bP.cell (p := ⟨w.heap.size, 1, none⟩) T1.out.1).trans T1.out.2.2⟩) (fun hHeld => ?_)
    have BP : Hid (Below w1.heap.size w1 w1.drew) := bP
    clear bP
    generalize w1.drew = p1 at *
    refine wpAnyH_take (i := 0) (oi := { dst := some 13, op := _, type := _, pos := _, after := _, guard := _ }) (v := (.pointer (some ⟨Br, 0, none⟩))) rfl (by kernel_rfl) (by kernel_rfl) (by kernel_rfl) (fun _ _ _ h => h) (Or.inl ⟨by rfl, ?hy6⟩) (by assumption) ?rest6
    case hy6 =>
      intro w9 hS9
      obtain ⟨k0, k1, k2⟩ := hS9
      go_simp
      try with_reducible rfl
    try simp only [Act.put, List.setIfInBounds_toArray, List.set_cons_zero, List.set_cons_succ]
    refine wpAnyH_take (i := 1) (oi := { dst := some 14, op := _, type := _, pos := _, after := _, guard := _ }) (v := (.pointer (some ⟨Br, 0, none⟩))) rfl (by kernel_rfl) (by kernel_rfl) (by kernel_rfl) (fun _ _ _ h => h) (Or.inl ⟨by rfl, ?hy7⟩) (by assumption) ?rest7
    case hy7 =>
      intro w9 hS9
      obtain ⟨k0, k1, k2⟩ := hS9
      go_simp
      try with_reducible rfl
    try simp only [Act.put, List.setIfInBounds_toArray, List.set_cons_zero, List.set_cons_succ]
    refine wpAnyH_take (i := 2) (oi := { dst := some 15, op := _, type := _, pos := _, after := _, guard := _ }) (v := (.pointer (some ⟨Br, 0, none⟩))) rfl (by kernel_rfl) (by kernel_rfl) (by kernel_rfl) (fun _ _ _ h => h) (Or.inl ⟨by rfl, ?hy8⟩) (by assumption) ?rest8
    case hy8 =>
      intro w9 hS9
      obtain ⟨k0, k1, k2⟩ := hS9
      go_simp
      try with_reducible rfl
    try simp only [Act.put, List.setIfInBounds_toArray, List.set_cons_zero, List.set_cons_succ]
    refine wpAnyH_take (i := 3) (oi := { dst := some 16, op := _, type := _, pos := _, after := _, guard := _ }) (v := (.agg #[.slice va ns.length vc])) rfl (by kernel_rfl) (by kernel_rfl) (by kernel_rfl) (fun _ _ _ h => h) (Or.inl ⟨by rfl, ?hy9⟩) (by assumption) ?rest9
    case hy9 =>
      intro w9 hS9
      obtain ⟨k0, k1, k2⟩ := hS9
      go_simp
      try with_reducible rfl
    try simp only [Act.put, List.setIfInBounds_toArray, List.set_cons_zero, List.set_cons_succ]
    refine wpAnyH_take (i := 4) (oi := { dst := some 17, op := _, type := _, pos := _, after := _, guard := _ }) (v := (.agg #[.int .i64 z, .slice xa es.length xc])) rfl (by kernel_rfl) (by kernel_rfl) (by kernel_rfl) (fun _ _ _ h => h) (Or.inl ⟨by rfl, ?hy10⟩) (by assumption) ?rest10
    case hy10 =>
      intro w9 hS9
      obtain ⟨k0, k1, k2⟩ := hS9
      go_simp
      try with_reducible rfl
    try simp only [Act.put, List.setIfInBounds_toArray, List.set_cons_zero, List.set_cons_succ]
    refine wpAnyH_ready (rs := [5, 6]) (by kernel_rfl) (by simp) ?_
    refine (AllReadyH.cons (o := { dst := some 18, op := _, type := _, pos := _, after := _, guard := _ }) rfl (fun K hK => ?_) (AllReadyH.cons (o := { dst := some 5, op := _, type := _, pos := _, after := _, guard := _ }) rfl (fun K hK => ?_) AllReadyH.nil))
    · go_simp
      refine (HAP.out p1 BP.out).mono ?_
      rintro e w2 ⟨ra, rc, rfl, o2, b2⟩
      have B2 : Hid (Below w1.heap.size w1 w2) := BP.out.trans (b2.mono BP.out.size)
      have O2 : Hid (OwnN 84 w2 w1.heap.size (.slice ra (resA ns z es).length rc) (resA ns z es)) := o2.mono BP.out.size
      clear b2 o2
      refine hK.out _ _ (⟨(B2.out.cell (p := ⟨Br, 0, none⟩) H1.out.1).trans H1.out.2.1.1, (B2.out.cell (p := ⟨w.heap.size, 0, none⟩) T1.out.1).trans T1.out.2.1, (B2.out.cell (p := ⟨w.heap.size, 1, none⟩) T1.out.1).trans T1.out.2.2⟩) (fun hx9 => ?_)
      clear hK K hx9 hHeld
      have hHeld := (⟨(B2.out.cell (p := ⟨Br, 0, none⟩) H1.out.1).trans H1.out.2.1.1, (B2.out.cell (p := ⟨w.heap.size, 0, none⟩) T1.out.1).trans T1.out.2.1, (B2.out.cell (p := ⟨w.heap.size, 1, none⟩) T1.out.1).trans T1.out.2.2⟩ : (fun W => W.cell? ⟨Br, 0, none⟩ = some (.slice va ns.length vc) ∧ W.cell? ⟨w.heap.size, 0, none⟩ = some (.int .i64 z) ∧ W.cell? ⟨w.heap.size, 1, none⟩ = some (.slice xa es.length xc)) w2)
      try simp only [Act.put, List.setIfInBounds_toArray, List.set_cons_zero, List.set_cons_succ]
      refine wpAnyH_ready (rs := [6]) (by kernel_rfl) (by simp) ?_
      refine (AllReadyH.cons (o := { dst := some 5, op := _, type := _, pos := _, after := _, guard := _ }) rfl (fun K hK => ?_) AllReadyH.nil)
      go_simp
      have BA : Hid (Below w1.heap.size w1 (w2.alloc (.cells #[.slice none 0 0] 36))) := B2.out.alloc B2.out.size _
      refine hK.out _ _ (⟨(BA.out.cell (p := ⟨Br, 0, none⟩) H1.out.1).trans H1.out.2.1.1, (BA.out.cell (p := ⟨w.heap.size, 0, none⟩) T1.out.1).trans T1.out.2.1, (BA.out.cell (p := ⟨w.heap.size, 1, none⟩) T1.out.1).trans T1.out.2.2⟩) (fun hx9 => ?_)
      clear hK K hx9 hHeld
      have hHeld := (⟨(BA.out.cell (p := ⟨Br, 0, none⟩) H1.out.1).trans H1.out.2.1.1, (BA.out.cell (p := ⟨w.heap.size, 0, none⟩) T1.out.1).trans T1.out.2.1, (BA.out.cell (p := ⟨w.heap.size, 1, none⟩) T1.out.1).trans T1.out.2.2⟩ : (fun W => W.cell? ⟨Br, 0, none⟩ = some (.slice va ns.length vc) ∧ W.cell? ⟨w.heap.size, 0, none⟩ = some (.int .i64 z) ∧ W.cell? ⟨w.heap.size, 1, none⟩ = some (.slice xa es.length xc)) (w2.alloc (.cells #[.slice none 0 0] 36)))
      try simp only [Act.put, List.setIfInBounds_toArray, List.set_cons_zero, List.set_cons_succ]
      refine wpAnyH_ready (rs := [7]) (by kernel_rfl) (by simp) ?_
      refine (AllReadyH.cons (o := { dst := none, op := _, type := _, pos := _, after := _, guard := _ }) rfl (fun K hK => ?_) AllReadyH.nil)
      go_simp
      have B3 : Hid (Below w1.heap.size w1 (w2.alloc (.cells #[(.slice ra (resA ns z es).length rc)] 36))) := B2.out.alloc B2.out.size _
      have Y3 : Hid (w2.heap.size < (w2.alloc (.cells #[(.slice ra (resA ns z es).length rc)] 36)).heap.size ∧ (w2.alloc (.cells #[(.slice ra (resA ns z es).length rc)] 36)).cell? ⟨w2.heap.size, 0, none⟩ = some (.slice ra (resA ns z es).length rc)) := ⟨by simp, by simp⟩
      have O3 : Hid (OwnN 84 (w2.alloc (.cells #[(.slice ra (resA ns z es).length rc)] 36)) w1.heap.size (.slice ra (resA ns z es).length rc) (resA ns z es)) := O2.out.below ((Below.refl _ _).alloc (Nat.le_refl _) _)
      have N3 : Hid (w1.heap.size ≤ w2.heap.size) := B2.out.size
      clear BA B2 O2
      refine hK.out _ _ (⟨(B3.out.cell (p := ⟨Br, 0, none⟩) H1.out.1).trans H1.out.2.1.1, (B3.out.cell (p := ⟨w.heap.size, 0, none⟩) T1.out.1).trans T1.out.2.1, (B3.out.cell (p := ⟨w.heap.size, 1, none⟩) T1.out.1).trans T1.out.2.2⟩) (fun hx9 => ?_)
      clear hK K hx9 hHeld
      have hHeld := (⟨(B3.out.cell (p := ⟨Br, 0, none⟩) H1.out.1).trans H1.out.2.1.1, (B3.out.cell (p := ⟨w.heap.size, 0, none⟩) T1.out.1).trans T1.out.2.1, (B3.out.cell (p := ⟨w.heap.size, 1, none⟩) T1.out.1).trans T1.out.2.2⟩ : (fun W => W.cell? ⟨Br, 0, none⟩ = some (.slice va ns.length vc) ∧ W.cell? ⟨w.heap.size, 0, none⟩ = some (.int .i64 z) ∧ W.cell? ⟨w.heap.size, 1, none⟩ = some (.slice xa es.length xc)) ((w2.alloc (.cells #[(.slice ra (resA ns z es).length rc)] 36))))
      try simp only [Act.put, List.setIfInBounds_toArray, List.set_cons_zero, List.set_cons_succ]
      refine wpAnyH_done (by kernel_rfl) ?_ _
      clear hHeld
      generalize (w2.alloc (.cells #[(.slice ra (resA ns z es).length rc)] 36)) = w3 at *
      generalize hBy : w2.heap.size = By at *
      clear hBy
      have B3w : Hid (Below w.heap.size w w3) := B1.out.trans (B3.out.mono B1.out.size)
      have H3 : Hid (B4F w3 Br (.slice va ns.length vc) (.int .i64 zx) (.int .i64 (k : Int)) (.int .i64 en)) := H1.out.below B3.out
      have T3 : Hid (Box2 w3 w.heap.size (.int .i64 z) (.slice xa es.length xc)) := T1.out.below B3.out
      have S31 := B3.out.size
      have s1w := B1.out.size
      have hBr := HBr.out
      clear H1 T1 B1 z0 c0 c1 c2 c3 z1 t0 t1 HAP BP
      obtain ⟨z1, t0, t1⟩ := T3.out
      obtain ⟨z0, ⟨c0, c1, c2, c3⟩, f0, f1, f2, f3⟩ := H3.out
      obtain ⟨zy, y0⟩ := Y3.out
      by_cases hbig : 1000 < (resA ns z es).length
      · have hbigI : (1000 : Int) < ((resA ns z es).length : Int) := by omega
        go_wp2
        go_ret
        exact .inr (.inl ⟨by omega, hbig, rfl, B3w.out⟩)
      · have hbigI : ¬ (1000 : Int) < ((resA ns z es).length : Int) := by omega
        go_wp2_with fail
        have hyb : By ≠ Br := by have := N3.out; omega
        have hyb2 : Br ≠ By := fun e => hyb e.symm
        have hwb : w.heap.size ≠ Br := by omega
        have hwb2 : Br ≠ w.heap.size := by omega
        have NE : Hid (Value.ownBlock (.slice ra (resA ns z es).length rc) ≠ some Br) := fun e => by have h1 : w1.heap.size ≤ Br := (World.ownsRow.lt O3.out _ e).1; omega
        have FX : Hid (B4F (((w3.setCell ⟨Br, 0, none⟩ (.slice ra (resA ns z es).length rc)).setCell ⟨Br, 1, none⟩ (.int .i64 z))) Br (.slice ra (resA ns z es).length rc) (.int .i64 z) (.int .i64 (k : Int)) (.int .i64 en)) := (H3.out.set0 _).set1 _
        have FO : Hid (OwnN 84 (((w3.setCell ⟨Br, 0, none⟩ (.slice ra (resA ns z es).length rc)).setCell ⟨Br, 1, none⟩ (.int .i64 z))) w.heap.size (.slice ra (resA ns z es).length rc) (resA ns z es)) := ((O3.out.setO NE.out _).setO NE.out _).mono s1w
        have FG : Hid (w.grownBy (((w3.setCell ⟨Br, 0, none⟩ (.slice ra (resA ns z es).length rc)).setCell ⟨Br, 1, none⟩ (.int .i64 z))) (some Br)) := grownBy_set _ _ _ _ _ (grownBy_set _ _ _ _ _ ⟨B3w.out.os, B3w.out.tape, B3w.out.output, B3w.out.size, fun q hq _ => B3w.out.block q hq⟩)
        clear H3 T3 O3 B3 B3w NE
        go_region_law (fail)
        all_goals
          generalize ((w3.setCell ⟨Br, 0, none⟩ (.slice ra (resA ns z es).length rc)).setCell ⟨Br, 1, none⟩ (.int .i64 z)) = w9 at *
          go_wp2
          go_ret
          exact .inr (.inr ⟨by omega, hbig, rfl, _, FX.out.below (below_drewN' w9 1), FO.out.below (below_drewN' w9 1), ⟨FG.out.os, FG.out.tape, FG.out.output, FG.out.size, FG.out.block⟩⟩)
    · go_simp
      have BQ : Hid (Below w1.heap.size w1 (p1.alloc (.cells #[.slice none 0 0] 36))) := BP.out.alloc BP.out.size _
      have YQ : Hid (p1.heap.size < (p1.alloc (.cells #[.slice none 0 0] 36)).heap.size ∧ (p1.alloc (.cells #[.slice none 0 0] 36)).cell? ⟨p1.heap.size, 0, none⟩ = some (.slice none 0 0) ∧ (p1.alloc (.cells #[.slice none 0 0] 36)).frozen? ⟨p1.heap.size, 0, none⟩ = false) := ⟨by simp, by simp, by simp⟩
      refine hK.out _ _ (⟨(BQ.out.cell (p := ⟨Br, 0, none⟩) H1.out.1).trans H1.out.2.1.1, (BQ.out.cell (p := ⟨w.heap.size, 0, none⟩) T1.out.1).trans T1.out.2.1, (BQ.out.cell (p := ⟨w.heap.size, 1, none⟩) T1.out.1).trans T1.out.2.2⟩) (fun hx9 => ?_)
      clear hK K hx9 hHeld
      have hHeld := (⟨(BQ.out.cell (p := ⟨Br, 0, none⟩) H1.out.1).trans H1.out.2.1.1, (BQ.out.cell (p := ⟨w.heap.size, 0, none⟩) T1.out.1).trans T1.out.2.1, (BQ.out.cell (p := ⟨w.heap.size, 1, none⟩) T1.out.1).trans T1.out.2.2⟩ : (fun W => W.cell? ⟨Br, 0, none⟩ = some (.slice va ns.length vc) ∧ W.cell? ⟨w.heap.size, 0, none⟩ = some (.int .i64 z) ∧ W.cell? ⟨w.heap.size, 1, none⟩ = some (.slice xa es.length xc)) (p1.alloc (.cells #[.slice none 0 0] 36)))
      try simp only [Act.put, List.setIfInBounds_toArray, List.set_cons_zero, List.set_cons_succ]
      have SQ : Hid ((p1.alloc (.cells #[.slice none 0 0] 36)).heap.size = p1.heap.size + 1) := by show _ = _; simp
      generalize (p1.alloc (.cells #[.slice none 0 0] 36)) = q1 at *
      refine wpAnyH_ready (rs := [5]) (by kernel_rfl) (by simp) ?_
      refine (AllReadyH.cons (o := { dst := some 18, op := _, type := _, pos := _, after := _, guard := _ }) rfl (fun K hK => ?_) AllReadyH.nil)
      go_simp
      refine (HAP.out q1 BQ.out).mono ?_
      rintro e w2 ⟨ra, rc, rfl, o2, b2⟩
      have B2 : Hid (Below w1.heap.size w1 w2) := BQ.out.trans (b2.mono BQ.out.size)
      have O2 : Hid (OwnN 84 w2 q1.heap.size (.slice ra (resA ns z es).length rc) (resA ns z es)) := o2
      have Y2 : Hid (p1.heap.size < w2.heap.size ∧ w2.cell? ⟨p1.heap.size, 0, none⟩ = some (.slice none 0 0) ∧ w2.frozen? ⟨p1.heap.size, 0, none⟩ = false) := ⟨Nat.lt_of_lt_of_le YQ.out.1 b2.size, (b2.cell (p := ⟨p1.heap.size, 0, none⟩) YQ.out.1).trans YQ.out.2.1, (b2.frozen (p := ⟨p1.heap.size, 0, none⟩) YQ.out.1).trans YQ.out.2.2⟩
      clear b2 o2
      refine hK.out _ _ (⟨(B2.out.cell (p := ⟨Br, 0, none⟩) H1.out.1).trans H1.out.2.1.1, (B2.out.cell (p := ⟨w.heap.size, 0, none⟩) T1.out.1).trans T1.out.2.1, (B2.out.cell (p := ⟨w.heap.size, 1, none⟩) T1.out.1).trans T1.out.2.2⟩) (fun hx9 => ?_)
      clear hK K hx9 hHeld
      have hHeld := (⟨(B2.out.cell (p := ⟨Br, 0, none⟩) H1.out.1).trans H1.out.2.1.1, (B2.out.cell (p := ⟨w.heap.size, 0, none⟩) T1.out.1).trans T1.out.2.1, (B2.out.cell (p := ⟨w.heap.size, 1, none⟩) T1.out.1).trans T1.out.2.2⟩ : (fun W => W.cell? ⟨Br, 0, none⟩ = some (.slice va ns.length vc) ∧ W.cell? ⟨w.heap.size, 0, none⟩ = some (.int .i64 z) ∧ W.cell? ⟨w.heap.size, 1, none⟩ = some (.slice xa es.length xc)) w2)
      try simp only [Act.put, List.setIfInBounds_toArray, List.set_cons_zero, List.set_cons_succ]
      obtain ⟨zz, zc, zf⟩ := Y2.out
      refine wpAnyH_ready (rs := [7]) (by kernel_rfl) (by simp) ?_
      refine (AllReadyH.cons (o := { dst := none, op := _, type := _, pos := _, after := _, guard := _ }) rfl (fun K hK => ?_) AllReadyH.nil)
      go_simp
      have B3 : Hid (Below w1.heap.size w1 (w2.setCell ⟨p1.heap.size, 0, none⟩ (.slice ra (resA ns z es).length rc))) := B2.out.setCell BP.out.size _
      have Y3 : Hid (p1.heap.size < (w2.setCell ⟨p1.heap.size, 0, none⟩ (.slice ra (resA ns z es).length rc)).heap.size ∧ (w2.setCell ⟨p1.heap.size, 0, none⟩ (.slice ra (resA ns z es).length rc)).cell? ⟨p1.heap.size, 0, none⟩ = some (.slice ra (resA ns z es).length rc)) := ⟨by simpa using zz, World.cell?_setCell_same _ _ _ zc⟩
      have O3 : Hid (OwnN 84 (w2.setCell ⟨p1.heap.size, 0, none⟩ (.slice ra (resA ns z es).length rc)) w1.heap.size (.slice ra (resA ns z es).length rc) (resA ns z es)) := (OwnN.setO O2.out (fun e => by have h1 : q1.heap.size ≤ p1.heap.size := (World.ownsRow.lt O2.out _ e).1; have := SQ.out; omega) _).mono (by have := SQ.out; have := BP.out.size; omega)
      have N3 : Hid (w1.heap.size ≤ p1.heap.size) := BP.out.size
      clear BQ YQ B2 O2 Y2 zz zc zf SQ
      refine hK.out _ _ (⟨(B3.out.cell (p := ⟨Br, 0, none⟩) H1.out.1).trans H1.out.2.1.1, (B3.out.cell (p := ⟨w.heap.size, 0, none⟩) T1.out.1).trans T1.out.2.1, (B3.out.cell (p := ⟨w.heap.size, 1, none⟩) T1.out.1).trans T1.out.2.2⟩) (fun hx9 => ?_)
      clear hK K hx9 hHeld
      have hHeld := (⟨(B3.out.cell (p := ⟨Br, 0, none⟩) H1.out.1).trans H1.out.2.1.1, (B3.out.cell (p := ⟨w.heap.size, 0, none⟩) T1.out.1).trans T1.out.2.1, (B3.out.cell (p := ⟨w.heap.size, 1, none⟩) T1.out.1).trans T1.out.2.2⟩ : (fun W => W.cell? ⟨Br, 0, none⟩ = some (.slice va ns.length vc) ∧ W.cell? ⟨w.heap.size, 0, none⟩ = some (.int .i64 z) ∧ W.cell? ⟨w.heap.size, 1, none⟩ = some (.slice xa es.length xc)) ((w2.setCell ⟨p1.heap.size, 0, none⟩ (.slice ra (resA ns z es).length rc))))
      try simp only [Act.put, List.setIfInBounds_toArray, List.set_cons_zero, List.set_cons_succ]
      refine wpAnyH_done (by kernel_rfl) ?_ _
      clear hHeld
      generalize (w2.setCell ⟨p1.heap.size, 0, none⟩ (.slice ra (resA ns z es).length rc)) = w3 at *
      generalize hBy : p1.heap.size = By at *
      clear hBy
      have B3w : Hid (Below w.heap.size w w3) := B1.out.trans (B3.out.mono B1.out.size)
      have H3 : Hid (B4F w3 Br (.slice va ns.length vc) (.int .i64 zx) (.int .i64 (k : Int)) (.int .i64 en)) := H1.out.below B3.out
      have T3 : Hid (Box2 w3 w.heap.size (.int .i64 z) (.slice xa es.length xc)) := T1.out.below B3.out
      have S31 := B3.out.size
      have s1w := B1.out.size
      have hBr := HBr.out
      clear H1 T1 B1 z0 c0 c1 c2 c3 z1 t0 t1 HAP BP
      obtain ⟨z1, t0, t1⟩ := T3.out
      obtain ⟨z0, ⟨c0, c1, c2, c3⟩, f0, f1, f2, f3⟩ := H3.out
      obtain ⟨zy, y0⟩ := Y3.out
      by_cases hbig : 1000 < (resA ns z es).length
      · have hbigI : (1000 : Int) < ((resA ns z es).length : Int) := by omega
        go_wp2
        go_ret
        exact .inr (.inl ⟨by omega, hbig, rfl, B3w.out⟩)
      · have hbigI : ¬ (1000 : Int) < ((resA ns z es).length : Int) := by omega
        go_wp2_with fail
        have hyb : By ≠ Br := by have := N3.out; omega
        have hyb2 : Br ≠ By := fun e => hyb e.symm
        have hwb : w.heap.size ≠ Br := by omega
        have hwb2 : Br ≠ w.heap.size := by omega
        have NE : Hid (Value.ownBlock (.slice ra (resA ns z es).length rc) ≠ some Br) := fun e => by have h1 : w1.heap.size ≤ Br := (World.ownsRow.lt O3.out _ e).1; omega
        have FX : Hid (B4F (((w3.setCell ⟨Br, 0, none⟩ (.slice ra (resA ns z es).length rc)).setCell ⟨Br, 1, none⟩ (.int .i64 z))) Br (.slice ra (resA ns z es).length rc) (.int .i64 z) (.int .i64 (k : Int)) (.int .i64 en)) := (H3.out.set0 _).set1 _
        have FO : Hid (OwnN 84 (((w3.setCell ⟨Br, 0, none⟩ (.slice ra (resA ns z es).length rc)).setCell ⟨Br, 1, none⟩ (.int .i64 z))) w.heap.size (.slice ra (resA ns z es).length rc) (resA ns z es)) := ((O3.out.setO NE.out _).setO NE.out _).mono s1w
        have FG : Hid (w.grownBy (((w3.setCell ⟨Br, 0, none⟩ (.slice ra (resA ns z es).length rc)).setCell ⟨Br, 1, none⟩ (.int .i64 z))) (some Br)) := grownBy_set _ _ _ _ _ (grownBy_set _ _ _ _ _ ⟨B3w.out.os, B3w.out.tape, B3w.out.output, B3w.out.size, fun q hq _ => B3w.out.block q hq⟩)
        clear H3 T3 O3 B3 B3w NE
        go_region_law (fail)
        all_goals
          generalize ((w3.setCell ⟨Br, 0, none⟩ (.slice ra (resA ns z es).length rc)).setCell ⟨Br, 1, none⟩ (.int .i64 z)) = w9 at *
          go_wp2
          go_ret
          exact .inr (.inr ⟨by omega, hbig, rfl, _, FX.out.below (below_drewN' w9 1), FO.out.below (below_drewN' w9 1), ⟨FG.out.os, FG.out.tape, FG.out.output, FG.out.size, FG.out.block⟩⟩)

end Go.Proofs.YtmgolinleiahpaaDoor

namespace Go.Proofs.YtmgolinleiahpaaDoor
open Go.RowKit Go.Shelf

set_option maxHeartbeats 1000000 in
set_option maxRecDepth 100000 in
theorem cloneN_any (w : World) (ao : Option Addr) (cap : Nat) (ns : List Nd) (h : RdN w (.slice ao ns.length cap) ns) (hn : ns.length ≤ 1000) :
    Calls Tryd.prog 73 #[.slice ao ns.length cap] w fun e w' => ∃ v', e = .returned v' ∧ OwnN 84 w' w.heap.size v' ns ∧ Below w.heap.size w w' := by
  obtain ⟨i0, hi, hz0, hz1, hz2⟩ := info_parts Tryd.infoN
  have q22 : ∀ (w : World) (a : Option Addr) (n c n' c' : Nat), (binOp .eql 34 (.slice a n c) (.slice none n' c')).run Tryd.prog w = .ok (.bool a.isNone) w := fun w a n c n' c' => Lib.run_eql_slice_nil w _ _ a n c n' c' Tryd.underlying34
  have HE : Hid ((w.alloc (.cells #[] 84)).ownsRow w.heap.size 84 7 (.slice (some ⟨w.heap.size, 0, none⟩) 0 0) 0 []) := World.ownsRow_lit w #[] 0 (Nat.le_refl _) (Nat.zero_le _) rfl
  have HB : Hid (Below w.heap.size w (w.alloc (.cells #[] 84))) := (Below.refl _ _).alloc (Nat.le_refl _) _
  have HR : Hid (RdN w (.slice ao ns.length cap) ns) := h
  cases ao with
  | none =>
    have hx : ns = [] := by
      obtain ⟨a', c', e, -, -, h3⟩ := h
      simp only [Value.slice.injEq] at e
      rcases h3 with h3 | ⟨b, o, e2, _⟩
      · exact h3
      · rw [← e.1] at e2; cases e2
    subst hx
    clear h HR
    go_enter Tryd.func73, Tryd.ntmps73
    go_wp2
    go_ret
    exact ⟨_, rfl, World.ownsRow_nil _ _ _ _, Below.refl _ _⟩
  | some a =>
    have HCS : Hid (∀ j u, (nrow ns)[j]? = some u → (w.alloc (.cells #[] 84)).cell? (a.add j) = some u) := fun j u hu => (HR.out.below HB.out).rowCells a rfl j u hu
    clear h
    generalize hl : ns.length = m at *
    have HL : Hid (ns.length = m) := hl
    clear hl
    go_enter Tryd.func73, Tryd.ntmps73
    go_wp2_with (at_builtin; go_must (refine wpList_append_own _ rfl _ _ 34 rfl w.heap.size 84 i0 _ 7 72 Tryd.underlying34 hi hz0 hz1 hz2 rfl (by decide) _ _ _ rfl HE.out a m cap (nrow ns) rfl ?c0 HCS.out (ndL_ones _) ?c3 ?c4 ?c5 ?_))
    case c0 => rw [nrow_length, HL.out]
    case c3 => unfold maxLen; omega
    case c4 => omega
    case c5 => simp
    intro v2 w2 ho2 hg2 _
    have HO2 : Hid (OwnN 84 w2 w.heap.size v2 ns) := by
      show World.ownsRow _ _ _ _ _ _ _
      rw [HL.out]
      exact ho2
    have HG2 : Hid (Below w.heap.size w w2) := HB.out.grown hg2 (by simp) (by intro q hq; simp [Value.ownBlock] at hq; omega)
    clear ho2 hg2
    go_wp2
    go_ret
    exact ⟨_, rfl, HO2.out, HG2.out⟩

end Go.Proofs.YtmgolinleiahpaaDoor

namespace Go.Proofs.YtmgolinleiahpaaDoor
open Go.RowKit Go.Shelf

attribute [local go_sem] Oper.semAt_some

set_option maxHeartbeats 2000000 in
set_option maxRecDepth 100000 in
theorem frames1_br (nn : Nat) (hn1 : 1 ≤ nn) (l Ba : Nat) (blk o n cap : Nat) (a : List Int) (hl : a.length = n) (hby : Byt a) (hn : n ≤ 8192)
    (St : List Value → World → Prop) (Bk StX BkX : World → Prop)
    (hSB : ∀ s X Y, Below X.heap.size X Y → St s X → St s Y) (hBB : ∀ X Y, Below X.heap.size X Y → Bk X → Bk Y)
    (hSR : ∀ s W, St s W → W.cell? ⟨Ba, 0, none⟩ = some (.slice (some ⟨blk, o, none⟩) n cap) ∧ Rd .u8 W (.slice (some ⟨blk, o, none⟩) n cap) a)
    (hY : ∀ s vs W, St s W → Bk W → PreS (scn n a) St s vs W → YieldAt Fence.wide (nn - 1) Tryd.prog l vs W fun e W' => (e = .returned (.bool true) ∧ St (s ++ [uOf vs]) W' ∧ Bk W') ∨ (e = .returned (.bool false) ∧ StX W' ∧ BkX W'))
    (W : World) (h0 : St [] W) (h1 : Bk W) :
    CallsIn Fence.wide nn Tryd.prog 112 #[.func (.yield l) #[] #[], .pointer (some ⟨Ba, 0, none⟩)] W fun e W' => (∃ v, e = .returned v) ∧ ((∃ s, s.length = (scn n a).length ∧ St s W' ∧ Bk W') ∨ (StX W' ∧ BkX W')) := by
  have HY : Hid (∀ s vs W, St s W → Bk W → PreS (scn n a) St s vs W → YieldAt Fence.wide (nn - 1) Tryd.prog l vs W fun e W' => (e = .returned (.bool true) ∧ St (s ++ [uOf vs]) W' ∧ Bk W') ∨ (e = .returned (.bool false) ∧ StX W' ∧ BkX W')) := hY
  have HSB : Hid (∀ s X Y, Below X.heap.size X Y → St s X → St s Y) := hSB
  have HBB : Hid (∀ X Y, Below X.heap.size X Y → Bk X → Bk Y) := hBB
  have HSR : Hid (∀ s W, St s W → W.cell? ⟨Ba, 0, none⟩ = some (.slice (some ⟨blk, o, none⟩) n cap) ∧ Rd .u8 W (.slice (some ⟨blk, o, none⟩) n cap) a) := hSR
  have H0 : Hid (St [] W) := h0
  have H1 : Hid (Bk W) := h1
  have HL : Hid (a.length = n) := hl
  have HBY : Hid (Byt a) := hby
  have HALL : Hid _ := scn_all n a (by omega)
  clear hY hSB hBB hSR h0 h1 hl hby
  obtain ⟨c0, r0⟩ := HSR.out [] W H0.out
  have hcn : n ≤ cap ∧ cap ≤ maxLen := by
    obtain ⟨_, _, e1, hc1, hc2⟩ := r0.len
    simp only [Value.slice.injEq] at e1; have := HL.out; omega
  clear c0 r0
  obtain ⟨hcn1, hcn2⟩ := hcn
  have HCM : Hid (cap ≤ maxLen) := hcn2
  unfold maxLen at hcn2
  generalize scn n a = R at *
  refine callsIn_of_wp Tryd.func112 rfl trivial ?_ rfl
  simp only [Tryd.ntmps112, List.size_toArray, List.length_cons, List.length_nil, Nat.reduceAdd, Nat.reduceSub, Array.replicate_succ, Array.replicate_zero, List.push_toArray, List.append_toArray, List.nil_append, List.cons_append]
  gi_wp2
  gi_loopw [3] (fun i wr => ∃ s : List Value, ∃ p : Nat, s.length ≤ R.length ∧ Hid (pos R s.length = p) ∧ p ≤ n ∧ i = .int .i64 p ∧ Hid (St s wr) ∧ Hid (Bk wr)) (fun i _ => n - (intOf i).toNat)
  case atStart => exact ⟨[], 0, Nat.zero_le _, pos_zero _, Nat.zero_le _, rfl, H0.out, H1.out⟩
  case round =>
    obtain ⟨s, p, hs, HP, hp, rfl, HS, HB⟩ := hrel
    obtain ⟨cB, rA⟩ := HSR.out s wr HS.out
    have RA : Hid (Rd .u8 wr (.slice (some ⟨blk, o, none⟩) n cap) a) := rA
    clear rA
    by_cases hcp : cap = p
    · have RS : Hid (Rd .u8 wr (.slice (some ⟨blk, o, none⟩) (n - p) 0) (a.drop p)) := by
        have e1 : n - p = 0 := by omega
        have e2 : a.drop p = [] := List.eq_nil_of_length_eq_zero (by rw [List.length_drop, HL.out]; exact e1)
        rw [e1, e2]; exact rd_empty _ _ _ (Nat.zero_le _)
      gi_wp2_with fail
      refine ⟨trivial, ?_⟩
      refine (callsIn_wide.2 (recordAt_any wr (some ⟨blk, o, none⟩) (n - p) 0 (a.drop p) RS.out (by rw [List.length_drop, HL.out]) (fun x hx => HBY.out x (List.mem_of_mem_drop hx)) (by omega))).mono ?_
      rintro e w2 ⟨⟨u, sz, rfl, hc⟩, b2⟩
      have HS2 : Hid (St s w2) := HSB.out s wr w2 b2 HS.out
      have HB2 : Hid (Bk w2) := HBB.out wr w2 b2 HB.out
      by_cases hlt : s.length < R.length
      · rcases hc with ⟨hf, -, -⟩ | ⟨hf, hsz, o2⟩
        · have := (HALL.out.1 s.length hlt).1; rw [HP.out, hf] at this; cases this
        · subst hsz
          have hget := (HALL.out.1 s.length hlt).2
          have hps := pos_succ R s.length hlt
          have hle := HALL.out.2.2 (s.length + 1) hlt
          rw [HP.out] at hget hps
          rw [hget] at hps
          rw [HL.out] at hle
          rw [hps] at hle
          omega
      · rcases hc with ⟨hf, rfl, rfl⟩ | ⟨hf, -, -⟩
        · have hsl : Hid (s.length = R.length) := by show _ = _; omega
          gi_wp2
          refine bodyPost_ret (results_none rfl _ _ _) rfl ?_
          exact ⟨⟨_, rfl⟩, .inl ⟨s, hsl.out, HSB.out s _ _ ((Below.refl _ _).alloc (Nat.le_refl _) _) HS2.out, HBB.out _ _ ((Below.refl _ _).alloc (Nat.le_refl _) _) HB2.out⟩⟩
        · have h9 := HALL.out.2.1
          have e9 : s.length = R.length := by omega
          rw [← e9, HP.out, hf] at h9; cases h9
    · have RS : Hid (Rd .u8 wr (.slice (some ⟨blk, o + p, none⟩) (n - p) (cap - p)) (a.drop p)) := rd_cutN RA.out HL.out blk o rfl p hp
      gi_wp2_with fail
      refine ⟨trivial, ?_⟩
      refine (callsIn_wide.2 (recordAt_any wr (some ⟨blk, o + p, none⟩) (n - p) (cap - p) (a.drop p) RS.out (by rw [List.length_drop, HL.out]) (fun x hx => HBY.out x (List.mem_of_mem_drop hx)) (by omega))).mono ?_
      rintro e w2 ⟨⟨u, sz, rfl, hc⟩, b2⟩
      have HS2 : Hid (St s w2) := HSB.out s wr w2 b2 HS.out
      have HB2 : Hid (Bk w2) := HBB.out wr w2 b2 HB.out
      by_cases hlt : s.length < R.length
      · rcases hc with ⟨hf, -, -⟩ | ⟨hf, hsz, o2⟩
        · have := (HALL.out.1 s.length hlt).1; rw [HP.out, hf] at this; cases this
        · subst hsz
          have hget := (HALL.out.1 s.length hlt).2
          have hps := pos_succ R s.length hlt
          have hle := HALL.out.2.2 (s.length + 1) hlt
          rw [HP.out] at hget hps
          rw [hget] at hps
          rw [HL.out] at hle
          have hP2 : Hid (pos R (s.length + 1) = p + (2 + frm_m (a.drop p))) := hps
          have hle2 : p + (2 + frm_m (a.drop p)) ≤ n := by rw [hps] at hle; exact hle
          obtain ⟨ua, uc, rfl⟩ := Own.slice o2
          have hul : (frm_p (a.drop p)).length ≤ maxLen := by obtain ⟨_, _, e, h1, h2⟩ := o2.rd.len; simp only [Value.slice.injEq] at e; omega
          unfold maxLen at hul
          have BA : Below w2.heap.size w2 (w2.alloc (.cells #[.slice ua (frm_p (a.drop p)).length uc] 111)) := (Below.refl _ _).alloc (Nat.le_refl _) _
          have hpre : PreS R St s #[.int .i64 (((p : Nat) : Int) + ((2 + frm_m (a.drop p) : Nat) : Int)), .agg #[.slice ua (frm_p (a.drop p)).length uc]] (w2.alloc (.cells #[.slice ua (frm_p (a.drop p)).length uc] 111)) := ⟨_, wr, by rw [hP2.out, Int.natCast_add p], hlt, HS.out, b2.trans (BA.mono b2.size), by rw [hget]; exact o2.below BA⟩
          have hYx := HY.out s _ _ (HSB.out s _ _ BA HS2.out) (HBB.out _ _ BA HB2.out) hpre
          clear hpre hget hps hle hf o2 b2 cB HS HB BA HS2 HB2
          have hszI : ¬ (((2 + frm_m (a.drop p) : Nat) : Int) = 0) := by omega
          generalize (frm_p (a.drop p)).length = ul at *
          generalize 2 + frm_m (a.drop p) = sz at *
          have hszb : ((sz : Int) == 0) = false := by simpa using hszI
          obtain ⟨fn, tmps, assign, body, hy, hR⟩ := hYx
          gi_wp2
          refine hR.mono ?_
          rintro e W3 (⟨rfl, hS3, hB3⟩ | ⟨rfl, hS3, hB3⟩)
          rotate_left
          · have HX3 : Hid (StX W3 ∧ BkX W3) := ⟨hS3, hB3⟩
            clear hS3 hB3 hy hR
            gi_wp2
            refine bodyPost_ret (results_none rfl _ _ _) rfl ?_
            exact ⟨⟨_, rfl⟩, .inr HX3.out⟩
          have HS3 : Hid (St (s ++ [.slice ua ul uc]) W3) := hS3
          have HB3 : Hid (Bk W3) := hB3
          clear hS3 hB3 hy hR
          gi_wp2
          go_roundw
          case rel => exact ⟨s ++ [.slice ua ul uc], p + sz, by rw [List.length_append]; exact hlt, by rw [List.length_append]; exact hP2.out, hle2, by go_num, HS3, HB3⟩
          case measure => simp [intOf]; omega
      · rcases hc with ⟨hf, rfl, rfl⟩ | ⟨hf, -, -⟩
        · have hsl : Hid (s.length = R.length) := by show _ = _; omega
          gi_wp2
          refine bodyPost_ret (results_none rfl _ _ _) rfl ?_
          exact ⟨⟨_, rfl⟩, .inl ⟨s, hsl.out, HSB.out s _ _ ((Below.refl _ _).alloc (Nat.le_refl _) _) HS2.out, HBB.out _ _ ((Below.refl _ _).alloc (Nat.le_refl _) _) HB2.out⟩⟩
        · have h9 := HALL.out.2.1
          have e9 : s.length = R.length := by omega
          rw [← e9, HP.out, hf] at h9; cases h9

set_option maxHeartbeats 1000000 in
set_option maxRecDepth 100000 in
theorem frames1_brnil (nn : Nat) (hn1 : 1 ≤ nn) (l Ba : Nat) (St : List Value → World → Prop) (Bk StX BkX : World → Prop)
    (hSB : ∀ s X Y, Below X.heap.size X Y → St s X → St s Y) (hBB : ∀ X Y, Below X.heap.size X Y → Bk X → Bk Y)
    (hSR : ∀ s W, St s W → W.cell? ⟨Ba, 0, none⟩ = some (.slice none 0 0))
    (W : World) (h0 : St [] W) (h1 : Bk W) :
    CallsIn Fence.wide nn Tryd.prog 112 #[.func (.yield l) #[] #[], .pointer (some ⟨Ba, 0, none⟩)] W fun e W' => (∃ v, e = .returned v) ∧ ((∃ s, s.length = (scn 0 []).length ∧ St s W' ∧ Bk W') ∨ (StX W' ∧ BkX W')) := by
  have HSB : Hid (∀ s X Y, Below X.heap.size X Y → St s X → St s Y) := hSB
  have HBB : Hid (∀ X Y, Below X.heap.size X Y → Bk X → Bk Y) := hBB
  have HSR : Hid (∀ s W, St s W → W.cell? ⟨Ba, 0, none⟩ = some (.slice none 0 0)) := hSR
  have H0 : Hid (St [] W) := h0
  have H1 : Hid (Bk W) := h1
  clear hSB hBB hSR h0 h1
  refine callsIn_of_wp Tryd.func112 rfl trivial ?_ rfl
  simp only [Tryd.ntmps112, List.size_toArray, List.length_cons, List.length_nil, Nat.reduceAdd, Nat.reduceSub, Array.replicate_succ, Array.replicate_zero, List.push_toArray, List.append_toArray, List.nil_append, List.cons_append]
  gi_wp2
  gi_loopw [3] (fun i wr => i = .int .i64 0 ∧ Hid (St [] wr) ∧ Hid (Bk wr)) (fun _ _ => 0)
  case atStart => exact ⟨rfl, H0.out, H1.out⟩
  case round =>
    obtain ⟨rfl, HS, HB⟩ := hrel
    have cB := HSR.out [] wr HS.out
    gi_wp2_with fail
    refine ⟨trivial, ?_⟩
    refine (callsIn_wide.2 (recordAt_any wr none 0 0 [] (rd_empty _ _ _ (Nat.zero_le _)) rfl (fun x hx => by cases hx) (by omega))).mono ?_
    rintro e w2 ⟨⟨u, sz, rfl, hc⟩, b2⟩
    have HS2 : Hid (St [] w2) := HSB.out [] wr w2 b2 HS.out
    have HB2 : Hid (Bk w2) := HBB.out wr w2 b2 HB.out
    rcases hc with ⟨hf, rfl, rfl⟩ | ⟨hf, -, -⟩
    · clear hf
      gi_wp2
      refine bodyPost_ret (results_none rfl _ _ _) rfl ?_
      exact ⟨⟨_, rfl⟩, .inl ⟨[], rfl, HSB.out [] _ _ ((Below.refl _ _).alloc (Nat.le_refl _) _) HS2.out, HBB.out _ _ ((Below.refl _ _).alloc (Nat.le_refl _) _) HB2.out⟩⟩
    · have := ((frmB_iff []).1 hf).1
      simp at this

end Go.Proofs.YtmgolinleiahpaaDoor

namespace Go.Proofs.YtmgolinleiahpaaDoor
open Go.RowKit Go.Shelf

/-- The same, where the body may leave by a break of block L (StX: what it has left then). -/
theorem range_breaks {L : Nat} {F : Fence} {n : Nat} {P : Program} {β : Type} {g : Operand} {ps : Array Tmp} {assign body : Code} {Q : Exit → Act → World → Prop} {a : Act} {w : World}
    (hro : F.round = none) (h1 : 1 ≤ n) {gf : Nat} {lb : Array Value} (hg : a.eval g = .func (.func gf) #[] lb) (hFg : F.fn gf) (eg : ∀ args w, (callFunc gf args).run P w = .ok (.enter gf args) w)
    (St : β → World → Prop) (Pre : β → Array Value → World → Prop) (step : β → Array Value → β) (Kp : World → World → Prop) (Fin : β → Prop) (StX : World → Prop) (hStX : OwnFrom w.heap.size (fun (_ : Unit) W => StX W)) (s0 : β)
    (hSt : OwnFrom w.heap.size St) (hKt : ∀ {A B C : World}, Kp A B → Kp B C → Kp A C)
    (hKb : ∀ (W : World) (l : Nat) (o o' : Obj), w.heap.size ≤ l → W.heap[l]? = some o → o.isCells = false → o.isWalk = false → Kp W (W.putObj l o'))
    (hps : ∀ s vs W, Pre s vs W → vs.size = ps.size) (h0 : St s0 w)
    (Ax : β → Array Value → Act → World → Prop) (hAx : ∀ s vs a', OwnFrom w.heap.size (fun (_ : Unit) W => Ax s vs a' W))
    (hassign : ∀ (l : Nat) (s : β) (vs : Array Value) (W : World) (K : Act → World → Prop), St s W → Pre s vs W → (∀ a' W', KeepsFrom w.heap.size W W' → Kp W W' → Ax s vs a' W' → K a' W') →
      assign.wpIn (F.inRound l) (n - 1 - 1) P (Exit.then K (fun _ _ _ => False)) { tmps := (ps.zip vs).foldl (fun t (p, v) => t.setIfInBounds p v) a.tmps, defers := [] } W)
    (hbody : ∀ (l : Nat) (s : β) (vs : Array Value) (a' : Act) (W : World), Ax s vs a' W → body.wpIn (F.inRound l) (n - 1 - 1) P (fun e _ W' => (e = .normal ∧ KeepsFrom w.heap.size W W' ∧ Kp W W' ∧ St (step s vs) W') ∨ (e = .exit L ∧ KeepsFrom w.heap.size W W' ∧ StX W')) a' W)
    (hcall : ∀ (Bk BkX : World → Prop) (W1 : World), (∀ X Y, KeepsFrom w.heap.size X Y → Bk X → Bk Y) → (∀ X Y, KeepsFrom w.heap.size X Y → BkX X → BkX Y) →
      (∀ s vs W, St s W → Bk W → Pre s vs W → YieldAt F (n - 1 - 1) P (w.heap.size + 1) vs W fun e W' => (e = .returned (.bool true) ∧ St (step s vs) W' ∧ Bk W' ∧ Kp W W') ∨ (e = .returned (.bool false) ∧ StX W' ∧ BkX W')) →
      Below w.heap.size w W1 → w.heap.size + 2 ≤ W1.heap.size → St s0 W1 → Bk W1 →
      CallsIn F (n - 1) P gf (#[.func (.yield (w.heap.size + 1)) #[] #[]] ++ lb) W1 fun e W' => (∃ v, e = .returned v) ∧ ((∃ s, Fin s ∧ St s W' ∧ Bk W') ∨ (StX W' ∧ BkX W')))
    (hdone : ∀ (D : Nat) (s : β) (W : World), w.heap.size ≤ D → Fin s → St s W → W.heap[D]? = some (.deferred (some [])) → Q .normal { a with defers := { target := .collected D, args := #[] } :: a.defers } W)
    (hstop : ∀ (D : Nat) (W : World), w.heap.size ≤ D → StX W → W.heap[D]? = some (.deferred (some [])) → (Code.exit L).wpIn F n P Q { a with defers := { target := .collected D, args := #[] } :: a.defers } W) :
    (Code.rangeFunc g ps assign body).wpIn F n P Q a w := by
  refine wpIn_rangeFunc ?_
  intro fn hfn
  rw [hro]
  obtain ⟨r0, hr0⟩ : ∃ r : Loop, r = { state := .ready, pending := none, fn, tmps := a.tmps, params := ps, assign, body, defers := w.heap.size } := ⟨_, rfl⟩
  have hst : r0.state = .ready := by rw [hr0]
  have hpe : r0.pending = none := by rw [hr0]
  have hgrow : Below w.heap.size w ((w.alloc (.deferred (some []))).alloc (.loop r0)) := ((Below.refl _ w).alloc (Nat.le_refl _) _).alloc (by simp) _
  have hbook : Book r0 w.heap.size ((w.alloc (.deferred (some []))).alloc (.loop r0)) := by
    constructor
    · have := heap_alloc_new (w.alloc (.deferred (some []))) (.loop r0)
      rwa [World.size_alloc] at this
    · exact (Below.heap_alloc _ _ _ (by simp)).trans (heap_alloc_new w _)
  have hst1 : St s0 ((w.alloc (.deferred (some []))).alloc (.loop r0)) := hSt.alloc _ (hSt.alloc _ h0)
  have hsz : w.heap.size + 2 ≤ ((w.alloc (.deferred (some []))).alloc (.loop r0)).heap.size := by simp
  have henter : (Instr.enterLoop fn a.tmps ps assign body none).run P w = .ok (w.heap.size + 1, [{ target := .collected w.heap.size, args := #[] }]) ((w.alloc (.deferred (some []))).alloc (.loop r0)) := by
    rw [hr0]; exact run_enterLoop_outer _ _ _ _ _
  generalize (w.alloc (.deferred (some []))).alloc (.loop r0) = W1 at *
  refine ⟨_, _, W1, { target := .fn (.func gf) lb, args := #[.func (.yield (w.heap.size + 1)) #[] #[]] }, W1, gf, #[.func (.yield (w.heap.size + 1)) #[] #[]] ++ lb, W1, henter, ?_, ?_, ?_, fun _ => h1, ?_⟩
  · simp only [resolve, hg]
    simp [go_sem]
  · intro f' hf'
    simp [Target.leads] at hf'
    subst hf'
    exact hFg
  · simp [invoke, go_sem, eg]
  refine (hcall (Book r0 w.heap.size) (Book { r0 with state := .done, pending := some (.exit L) } w.heap.size) W1 (fun X Y hk hb => hb.keep hk) (fun X Y hk hb => hb.keep hk) ?_ hgrow hsz hst1 hbook).mono ?_
  · intro s vs W hs hb hp
    have hy := run_yield (P := P) (args := vs) hb.1 (by rw [hr0]; exact hps s vs W hp)
    rw [hr0] at hy
    refine ⟨fn, _, assign, body, hy, roundIn_of_wpIn hfn (hassign _ s vs W _ hs hp ?_)⟩
    clear hy
    intro a' Wa hka hkp hax
    have hba := hb.keep hka
    have hlt : w.heap.size + 1 < Wa.heap.size := (Array.getElem?_eq_some_iff.1 hba.1).1
    refine ⟨_, run_beginRound hba.1 hst, ?_⟩
    have hl2 : (Wa.putObj (w.heap.size + 1) (.loop { r0 with state := .busy })).heap[w.heap.size + 1]? = some (.loop { r0 with state := .busy }) := World.putObj_heap_same hlt
    have hk2 : (Wa.putObj (w.heap.size + 1) (.loop { r0 with state := .busy })).heap[w.heap.size]? = some (.deferred (some [])) := (World.putObj_heap_other (by omega)).trans hba.2
    have hkb : Kp Wa (Wa.putObj (w.heap.size + 1) (.loop { r0 with state := .busy })) := hKb _ _ _ _ (by omega) hba.1 rfl rfl
    refine wpIn_mono (hbody _ s vs a' _ ((hAx s vs a').putObj (s := ()) _ hax (by omega) hba.1 rfl)) ?_
    rintro e a3 W3 (⟨rfl, hk3, hp3, hs3⟩ | ⟨rfl, hk3, hs3⟩)
    · have hl3 := hk3.same _ _ (by omega) hl2 rfl
      have hd3 := hk3.same _ _ (Nat.le_refl _) hk2 rfl
      have hend := run_endRound (P := P) none hl3
      have hr1 : ({ { r0 with state := .busy } with state := if (none : Option Code).isNone then .ready else .done, pending := none } : Loop) = r0 := by rw [hr0]; rfl
      rw [hr1] at hend
      exact ⟨_, _, hend, .inl ⟨rfl, hSt.putObj _ hs3 (by omega) hl3 rfl, ⟨World.putObj_heap_same (Array.getElem?_eq_some_iff.1 hl3).1, (World.putObj_heap_other (by omega)).trans hd3⟩, hKt hkp (hKt (hKt hkb hp3) (hKb _ _ _ _ (by omega) hl3 rfl rfl))⟩⟩
    · have hl3 := hk3.same _ _ (by omega) hl2 rfl
      have hd3 := hk3.same _ _ (Nat.le_refl _) hk2 rfl
      have hend := run_endRound (P := P) (some (.exit L)) hl3
      have hr1 : ({ { r0 with state := .busy } with state := if (some (Code.exit L) : Option Code).isNone then .ready else .done, pending := some (.exit L) } : Loop) = { r0 with state := .done, pending := some (.exit L) } := by rw [hr0]; rfl
      rw [hr1] at hend
      exact ⟨_, _, hend, .inr ⟨rfl, hStX.putObj (s := ()) _ hs3 (by omega) hl3 rfl, ⟨World.putObj_heap_same (Array.getElem?_eq_some_iff.1 hl3).1, (World.putObj_heap_other (by omega)).trans hd3⟩⟩⟩
  · rintro e W2 ⟨⟨v, rfl⟩, (⟨s, hF, hs, hb⟩ | ⟨hs, hb⟩)⟩
    · have hend := run_endLoop (P := P) hb.1 (by rw [hst]; simp)
      rw [hpe] at hend
      exact ⟨none, _, hend, hdone _ s _ (Nat.le_refl _) hF (hSt.putObj _ hs (by omega) hb.1 rfl) ((World.putObj_heap_other (by omega)).trans hb.2)⟩
    · have hend := run_endLoop (P := P) hb.1 (by simp)
      exact ⟨some (.exit L), _, hend, hstop _ _ (Nat.le_refl _) (hStX.putObj (s := ()) _ hs (by omega) hb.1 rfl) ((World.putObj_heap_other (by omega)).trans hb.2)⟩

end Go.Proofs.YtmgolinleiahpaaDoor

namespace Go.Proofs.YtmgolinleiahpaaDoor
open Go.RowKit

section
variable {P : Program} (w : World)

theorem zeros_list (m : Nat) : (Builtin.zeroCells (Value.int .u8 0).cells m).toList = List.replicate m (Value.int .u8 0) := by
  apply List.ext_getElem
  · simp [Builtin.zeroCells, Value.cells]
  · intro j h1 h2
    simp [Builtin.zeroCells, Value.cells, Nat.mod_one]

theorem run_append_own_zeros (base : Nat) (t tn ty e : TypeId) (i : TypeInfo) (k kn : IntKind) (ht : P.underlying t = some (.slice e)) (htn : P.underlying tn = some (.int kn)) (hi : P.info? e = some i) (hz : i.zero = some (.int .u8 0))
    (hsize : i.size = 1) (hby : i.bytes = 1) (g n cap : Nat) (xs : List Value) (hown : w.ownsRow base e 1 (.slice (some ⟨g, 0, none⟩) n cap) n xs) (m : Nat) (h0 : 0 < m) (hm : n + m ≤ 1048576) (hbase : base ≤ w.heap.size) :
    ∃ v' w', (Builtin.append_ #[t, tn] ty #[.slice (some ⟨g, 0, none⟩) n cap, .int k m]).run P w = .ok v' w' ∧ w'.ownsRow base e 1 v' (n + m) (xs ++ List.replicate m (Value.int .u8 0)) ∧ w.grownBy w' (some g) := by
  have hxl : xs.length = n := by simpa using hown.1
  have hlen : (xs ++ List.replicate m (Value.int .u8 0)).length = (n + m) * 1 := by rw [List.length_append, hxl, List.length_replicate, Nat.mul_one]
  have hw : IntKind.i64.wrap (m : Int) = m := by rw [IntKind.wrap_i64]; omega
  have h63' : ¬ (9223372036854775807 < ((n : Int) + (m : Int))) := by omega
  have h48i : ¬ (281474976710656 < (m : Int)) := by omega
  have hneg : ¬ ((m : Int) < 0) := by omega
  have hns : ¬ (m = 0) := by omega
  have hcells := zeros_list m
  have hone : ∀ u ∈ List.replicate m (Value.int .u8 0), u.oneCell' = true := by intro u hu; rw [List.eq_of_mem_replicate hu]; rfl
  rcases hown.2 with ⟨h1, -⟩ | ⟨g', cap', cur, h1, hbg, hg, hnc, hcm, hcs, htake⟩
  · simp at h1
  · simp only [Value.slice.injEq, Option.some.injEq, Addr.mk.injEq, and_true] at h1
    obtain ⟨rfl, -, rfl⟩ := h1
    by_cases hroom : n + m ≤ cap
    · have hcs' : cur.size = cap := by simpa using hcs
      have hst := run_storeCells_at P g n e (List.replicate m (Value.int .u8 0)) 0 cur w hg (by simp; omega) hone
      simp only [Nat.add_zero, List.length_replicate] at hst
      refine ⟨.slice (some ⟨g, 0, none⟩) (n + m) cap, w.setRow g (cur.toList.take n ++ List.replicate m (Value.int .u8 0) ++ cur.toList.drop (n + m)).toArray, ?_, ⟨hlen, .inr ⟨g, cap, _, rfl, hbg, setRow_heap w g cur _ e _ hg, hroom, hcm, ?_, ?_⟩⟩, ⟨rfl, rfl, rfl, by simp, fun k _ hk => setRow_other w g k _ (fun e => hk (by simp [e]))⟩⟩
      · simp [Builtin.append_, run_underlying ht, run_underlying htn, sizeOf, typeInfo, zeroValue, hi, hz, hsize, hby, asInt, asIntOf, hw, hneg, hns, h48i, hroom, hcells, Addr.add_lit, hst]
      · simp only [List.size_toArray, List.length_append, List.length_take, List.length_drop, Array.length_toList, List.length_replicate]
        omega
      · have ht' : cur.toList.take n = xs := by simpa using htake
        rw [ht', ← hlen]
        exact List.take_left
    · have holds : ∀ j u, xs[j]? = some u → w.cell? ((⟨g, 0, none⟩ : Addr).add j) = some u := hown.cells (g := g) rfl
      have hn : ¬ (n + m ≤ cap) := hroom
      have h48' : ¬ (281474976710656 < Builtin.nextslicecap (n + m) cap) := by
        have := growslice_fits (need := n + m) (old := cap) (bytes := 1) (by omega) (by omega)
        omega
      have hfo := run_firstCells_some (P := P) w.drew 1 n ⟨g, 0, none⟩ n cap xs (by omega) (by simpa using holds)
      have hge := grownCap_ge w (n + m) cap e
      have hcm2 : grownCap w (n + m) cap e ≤ maxLen := grownCap_le_maxLen w (n + m) cap e (by unfold maxLen; omega)
      refine ⟨.slice (some ⟨w.heap.size, 0, none⟩) (n + m) (grownCap w (n + m) cap e), w.drew.alloc (.cells (xs.toArray ++ (Builtin.zeroCells (Value.int .u8 0).cells m) ++ Builtin.zeroCells (Value.int .u8 0).cells (grownCap w (n + m) cap e - (n + m))) e), ?_, ⟨hlen, .inr ⟨w.heap.size, _, _, rfl, hbase, heap_alloc_new w.drew _, hge, hcm2, ?_, ?_⟩⟩, ⟨rfl, rfl, rfl, by simp, fun k hk _ => Below.heap_alloc w.drew _ k hk⟩⟩
      · simp [Builtin.append_, run_underlying ht, run_underlying htn, sizeOf, typeInfo, zeroValue, hi, hz, hsize, hby, asInt, asIntOf, hw, hneg, hns, h48i, hn, h63', h48', Question.forced, hfo, newRow, grownCap]
      · have hz1 : (Value.int IntKind.u8 0).cells.size = 1 := rfl
        simp only [Array.size_append, List.size_toArray, size_zeroCells, hz1, hxl]
        omega
      · simp only [Array.toList_append, List.append_assoc, hcells]
        rw [← List.append_assoc, ← hlen]
        exact List.take_left

theorem wpList_append_zeros {ops : Array Oper} {rest : List Oper} {o : Oper} {a : Act} {Q : Exit → Act → World → Prop} (hgd : o.guard = none) (sl x : Operand) (t tn : TypeId)
    (ho : o.op = .call { callee := .builtin .append, args := #[sl, x], argTypes := #[t, tn] })
    (base : Nat) (e : TypeId) (i : TypeInfo) (k kn : IntKind) (ht : P.underlying t = some (.slice e)) (htn : P.underlying tn = some (.int kn)) (hi : P.info? e = some i) (hz : i.zero = some (.int .u8 0))
    (hsize : i.size = 1) (hby : i.bytes = 1) (g n cap : Nat) (xs : List Value) (hs : a.eval sl = .slice (some ⟨g, 0, none⟩) n cap) (hown : w.ownsRow base e 1 (.slice (some ⟨g, 0, none⟩) n cap) n xs) (m : Nat) (hx : a.eval x = .int k m)
    (h0 : 0 < m) (hm : n + m ≤ 1048576) (hbase : base ≤ w.heap.size)
    (h : ∀ v' w', w'.ownsRow base e 1 v' (n + m) (xs ++ List.replicate m (Value.int .u8 0)) → w.grownBy w' (some g) → wpList P ops Q rest (a.put o.dst v') w') : wpList P ops Q (o :: rest) a w := by
  obtain ⟨v', w', hr, h2, h3⟩ := run_append_own_zeros (P := P) w base t tn o.type e i k kn ht htn hi hz hsize hby g n cap xs hown m h0 hm hbase
  exact Lib.wpList_append_run w hgd sl x t tn ho _ _ hs hx v' w' hr (h v' w' h2 h3)

end
end Go.Proofs.YtmgolinleiahpaaDoor

namespace Go.Proofs.YtmgolinleiahpaaDoor
open Go.RowKit

set_option maxHeartbeats 400000 in
theorem implStat_any (w : World) (s : Int) :
    Calls Tryd.prog 72 #[.int .i64 s] w fun e w' => e = .returned (.bool (decide (0 ≤ s ∧ s ≤ 2147483647))) ∧ w' = w := by
  by_cases h1 : 0 ≤ s
  · by_cases h2 : s ≤ 2147483647
    · go_enter Tryd.func72, Tryd.ntmps72
      go_wp2
      go_ret
      exact ⟨ret_bool (by simp; omega), rfl⟩
    · go_enter Tryd.func72, Tryd.ntmps72
      go_wp2
      go_ret
      exact ⟨ret_bool (by simp; omega), rfl⟩
  · go_enter Tryd.func72, Tryd.ntmps72
    go_wp2
    go_ret
    exact ⟨ret_bool (by simp; omega), rfl⟩

set_option maxHeartbeats 1000000 in
set_option maxRecDepth 100000 in
theorem implNumberS_any (w : World) (base : Nat) (v : Value) (xs : List Int) (N n : Nat) (h : Own .u8 5 w base v xs) (hb : base ≤ w.heap.size) (hl : xs.length ≤ 1048576) (hn : n ≤ 8) :
    Calls Tryd.prog 88 #[v, .int .i64 N, .int .i64 n] w fun e w' => ∃ v', e = .returned v' ∧ Own .u8 5 w' base v' (xs ++ bigR N n) ∧ Below base w w' := by
  obtain ⟨i0, hi, hz0, hz1, hz2⟩ := info_parts Tryd.infoB
  have HO : Hid (Own .u8 5 w base v xs) := h
  clear h
  go_enter Tryd.func88, Tryd.ntmps88
  go_wp2
  go_loopw [0, 7] (fun vi vl wr => ∃ (k : Nat) (z : Int), k ≤ n ∧ vl = .int .i64 z ∧ z + 1 + (k : Int) = (n : Int) ∧ Hid (Own .u8 5 wr base vi (xs ++ bigR (N / 2 ^ (8 * (n - k))) k)) ∧ Hid (Below base w wr)) (fun _ i _ => ((intOf i) + 1).toNat)
  case atStart => exact ⟨0, (n : Int) - 1, Nat.zero_le _, rfl, by omega, by show Own _ _ _ _ _ _; unfold bigR; rw [List.append_nil]; exact HO.out, Below.refl _ _⟩
  case round =>
    obtain ⟨k, z, hk, rfl, hz, HW, HB⟩ := hrel
    have sB := HB.out.size
    by_cases hz0' : 0 ≤ z
    · obtain ⟨l, rfl⟩ : ∃ l : Nat, z = (l : Int) := ⟨z.toNat, by omega⟩
      have hl8 : l ≤ 7 := by omega
      have HST : Hid (bigR (N / 2 ^ (8 * (n - k))) k ++ [((N / 2 ^ (8 * l) % 256 : Nat) : Int)] = bigR (N / 2 ^ (8 * (n - (k + 1)))) (k + 1)) := by
        show _ = _
        rw [show n - k = l + 1 by omega, show n - (k + 1) = l by omega]; exact bigR_step N l k
      obtain ⟨ys, hys⟩ : ∃ ys, ys = xs ++ bigR (N / 2 ^ (8 * (n - k))) k := ⟨_, rfl⟩
      have HYS : Hid (ys = xs ++ bigR (N / 2 ^ (8 * (n - k))) k) := hys
      have HW1 : Hid (wr.ownsRow base 5 1 u0 ys.length (ys.map (Value.int .u8))) := by rw [hys]; exact HW.out
      have hyl : ys.length ≤ 1048600 := by rw [hys, List.length_append, bigR_len]; omega
      clear hys HW
      have HV : Hid ((N : Int) / 2 ^ (8 * l) % 256 = ((N / 2 ^ (8 * l) % 256 : Nat) : Int)) := by show _ = _; rw [shr_cast]; rfl
      go_wp2_with (at_builtin; go_must (refine wpList_append_own _ rfl _ _ 24 rfl base 5 i0 (.int .u8 0) 1 1 Tryd.underlying24 hi hz0 hz1 hz2 rfl (by decide) _ _ _ rfl (World.ownsRow.alloc HW1.out _) ⟨wr.heap.size, 0, none⟩ 1 1 [.int .u8 ((N : Int) / 2 ^ (8 * l) % 256)] rfl rfl (cell_one_new _ _ _) (by intro u hu; simp at hu; subst hu; rfl) ?c3 ?c4 ?c5 ?_))
      case c3 => unfold maxLen; omega
      case c4 => omega
      case c5 => simp; omega
      intro v2 w2 ho2 hg2 _
      have HO2 : Hid (Own .u8 5 w2 base v2 (xs ++ bigR (N / 2 ^ (8 * (n - (k + 1)))) (k + 1))) := by
        rw [HV.out] at ho2
        refine own_of (q := ys.length + 1) (ys := ys ++ [((N / 2 ^ (8 * l) % 256 : Nat) : Int)]) (by simp) ?_ (by rw [List.map_append]; exact ho2)
        rw [← HST.out, ← List.append_assoc, ← HYS.out]
      have HB2 : Hid (Below base w w2) := (HB.out.alloc (by omega) _).grown hg2 (by simp; omega) (fun q hq => (World.ownsRow.lt HW1.out q hq).1)
      clear ho2 hg2 HW1 HB
      go_wp2
      exact ⟨⟨k + 1, (l : Int) - 1, by omega, by go_num, by omega, HO2, HB2⟩, by simp [intOf]⟩
    · have hkn : k = n := by omega
      subst hkn
      have hzI : ¬ (0 : Int) ≤ z := hz0'
      go_wp2
      go_ret
      refine ⟨_, rfl, ?_, HB.out⟩
      have := HW.out
      rw [Nat.sub_self, Nat.mul_zero, Nat.pow_zero, Nat.div_one] at this
      exact this

set_option maxHeartbeats 1000000 in
set_option maxRecDepth 100000 in
theorem implOk_any (w : World) (g b s l c : Int) :
    Calls Tryd.prog 87 #[.agg #[.int .i64 g, .int .i64 b, .int .i64 s, .int .i64 l, .int .i64 c]] w fun e w' => e = .returned (.bool (supOk g b s l c)) ∧ Below w.heap.size w w' := by
  go_enter Tryd.func87, Tryd.ntmps87
  go_wp2
  all_goals
    go_ret
    refine ⟨ret_bool ?_, (Below.refl _ _).alloc (Nat.le_refl _) _⟩
    unfold supOk
    rw [Bool.eq_iff_iff]
    simp only [Bool.and_eq_true, Bool.or_eq_true, decide_eq_true_eq, Bool.false_eq_true, false_iff]
    omega

theorem own_slice' {k : IntKind} {e : TypeId} {w : World} {lo : Nat} {v : Value} {xs : List Int} (h : Own k e w lo v xs) : ∃ a c, v = .slice a xs.length c := by
  obtain ⟨a, c, h0, _⟩ := h.rd.len
  exact ⟨a, c, h0⟩

theorem own_some {k : IntKind} {e : TypeId} {w : World} {lo : Nat} {v : Value} {xs : List Int} (h : Own k e w lo v xs) (h0 : 0 < xs.length) : ∃ g c, v = .slice (some ⟨g, 0, none⟩) xs.length c := by
  rcases h.2 with ⟨rfl, h1⟩ | ⟨g, cap, cur, rfl, -⟩
  · omega
  · exact ⟨g, cap, rfl⟩

/-- A local superblock: five cells. -/
def Bx5 (w : World) (k : Nat) (g b s l c : Int) : Prop :=
  k < w.heap.size ∧ w.cell? ⟨k, 0, none⟩ = some (.int .i64 g) ∧ w.cell? ⟨k, 1, none⟩ = some (.int .i64 b) ∧ w.cell? ⟨k, 2, none⟩ = some (.int .i64 s) ∧ w.cell? ⟨k, 3, none⟩ = some (.int .i64 l) ∧ w.cell? ⟨k, 4, none⟩ = some (.int .i64 c)
theorem Bx5.new (w : World) (g b s l c : Int) (t : TypeId) : Bx5 (w.alloc (.cells #[.int .i64 g, .int .i64 b, .int .i64 s, .int .i64 l, .int .i64 c] t)) w.heap.size g b s l c :=
  ⟨by simp, (by go_simp), (by go_simp), (by go_simp), (by go_simp), (by go_simp)⟩
theorem Bx5.below {w w' : World} {k B : Nat} {g b s l c : Int} (h : Bx5 w k g b s l c) (hb : Below B w w') (hk : k < B) : Bx5 w' k g b s l c := by
  obtain ⟨h0, h1, h2, h3, h4, h5⟩ := h
  exact ⟨Nat.lt_of_lt_of_le h0 hb.size, (hb.cell (p := ⟨k, 0, none⟩) hk).trans h1, (hb.cell (p := ⟨k, 1, none⟩) hk).trans h2, (hb.cell (p := ⟨k, 2, none⟩) hk).trans h3, (hb.cell (p := ⟨k, 3, none⟩) hk).trans h4, (hb.cell (p := ⟨k, 4, none⟩) hk).trans h5⟩

set_option maxHeartbeats 1000000 in
set_option maxRecDepth 100000 in
theorem implSuper_no (w : World) (g b s l c : Int) (h : supOk g b s l c = false) :
    Calls Tryd.prog 47 #[.agg #[.int .i64 g, .int .i64 b, .int .i64 s, .int .i64 l, .int .i64 c]] w fun e w' => ∃ v', e = .returned v' ∧ Own .u8 5 w' w.heap.size v' [] ∧ Below w.heap.size w w' := by
  have H : Hid (supOk g b s l c = false) := h
  clear h
  go_enter Tryd.func47, Tryd.ntmps47
  go_wp2_with fail
  refine (implOk_any _ g b s l c).mono ?_
  rintro e w1 ⟨rfl, b1⟩
  rw [H.out]
  have B1 : Hid (Below w.heap.size w w1) := ((Below.refl _ _).alloc (Nat.le_refl _) _).trans (b1.mono (by simp))
  clear b1
  go_wp2
  go_ret
  exact ⟨_, rfl, World.ownsRow_nil _ _ _ _, B1.out⟩

set_option maxHeartbeats 2000000 in
set_option maxRecDepth 100000 in
theorem implSuper_yes (w : World) (g b s l c : Nat) (h : supOk g b s l c = true) :
    Calls Tryd.prog 47 #[.agg #[.int .i64 g, .int .i64 b, .int .i64 s, .int .i64 l, .int .i64 c]] w fun e w' => ∃ v', e = .returned v' ∧ Own .u8 5 w' w.heap.size v' (supB g b s l c) ∧ Below w.heap.size w w' := by
  obtain ⟨i0, hi, hz0, hz1, hz2⟩ := info_parts Tryd.infoB
  have H : Hid (supOk g b s l c = true) := h
  clear h
  go_enter Tryd.func47, Tryd.ntmps47
  go_wp2_with fail
  refine (implOk_any _ g b s l c).mono ?_
  rintro e w1 ⟨rfl, b1⟩
  rw [H.out]
  have X1 : Hid (Bx5 w1 w.heap.size g b s l c) := (Bx5.new w g b s l c _).below b1 (by simp)
  have B1 : Hid (Below w.heap.size w w1) := ((Below.refl _ _).alloc (Nat.le_refl _) _).trans (b1.mono (by simp))
  have s1 : w.heap.size + 1 ≤ w1.heap.size := by have := b1.size; simpa using this
  clear b1
  have O1 : Hid (Own .u8 5 w1 (w.heap.size + 1) (.slice none 0 0) []) := World.ownsRow_nil _ _ _ _
  obtain ⟨-, x0, x1, x2, x3, x4⟩ := X1.out
  go_wp2_with fail
  refine (implNumberS_any _ (w.heap.size + 1) _ ([]) g 8 O1.out s1 (by simp) (by omega)).mono ?_
  rintro e w2 ⟨v2, rfl, o2, b2⟩
  have X2 : Hid (Bx5 w2 w.heap.size g b s l c) := X1.out.below b2 (by omega)
  have B2 : Hid (Below w.heap.size w w2) := B1.out.trans (b2.mono (by omega))
  have s2 : w.heap.size + 1 ≤ w2.heap.size := Nat.le_trans s1 b2.size
  have O2 : Hid (Own .u8 5 w2 (w.heap.size + 1) v2 ([] ++ bigR g 8)) := o2
  clear x0 x1 x2 x3 x4 o2 b2 X1 B1 O1
  obtain ⟨-, x0, x1, x2, x3, x4⟩ := X2.out
  go_wp2_with fail
  refine (implNumberS_any _ (w.heap.size + 1) _ ([] ++ bigR g 8) b 1 O2.out s2 (by simp [bigR_len]) (by omega)).mono ?_
  rintro e w3 ⟨v3, rfl, o3, b3⟩
  have X3 : Hid (Bx5 w3 w.heap.size g b s l c) := X2.out.below b3 (by omega)
  have B3 : Hid (Below w.heap.size w w3) := B2.out.trans (b3.mono (by omega))
  have s3 : w.heap.size + 1 ≤ w3.heap.size := Nat.le_trans s2 b3.size
  have O3 : Hid (Own .u8 5 w3 (w.heap.size + 1) v3 ([] ++ bigR g 8 ++ bigR b 1)) := o3
  clear x0 x1 x2 x3 x4 o3 b3 X2 B2 O2
  obtain ⟨-, x0, x1, x2, x3, x4⟩ := X3.out
  go_wp2_with fail
  refine (implNumberS_any _ (w.heap.size + 1) _ ([] ++ bigR g 8 ++ bigR b 1) s 4 O3.out s3 (by simp [bigR_len]) (by omega)).mono ?_
  rintro e w4 ⟨v4, rfl, o4, b4⟩
  have X4 : Hid (Bx5 w4 w.heap.size g b s l c) := X3.out.below b4 (by omega)
  have B4 : Hid (Below w.heap.size w w4) := B3.out.trans (b4.mono (by omega))
  have s4 : w.heap.size + 1 ≤ w4.heap.size := Nat.le_trans s3 b4.size
  have O4 : Hid (Own .u8 5 w4 (w.heap.size + 1) v4 ([] ++ bigR g 8 ++ bigR b 1 ++ bigR s 4)) := o4
  clear x0 x1 x2 x3 x4 o4 b4 X3 B3 O3
  obtain ⟨-, x0, x1, x2, x3, x4⟩ := X4.out
  go_wp2_with fail
  refine (implNumberS_any _ (w.heap.size + 1) _ ([] ++ bigR g 8 ++ bigR b 1 ++ bigR s 4) l 4 O4.out s4 (by simp [bigR_len]) (by omega)).mono ?_
  rintro e w5 ⟨v5, rfl, o5, b5⟩
  have X5 : Hid (Bx5 w5 w.heap.size g b s l c) := X4.out.below b5 (by omega)
  have B5 : Hid (Below w.heap.size w w5) := B4.out.trans (b5.mono (by omega))
  have s5 : w.heap.size + 1 ≤ w5.heap.size := Nat.le_trans s4 b5.size
  have O5 : Hid (Own .u8 5 w5 (w.heap.size + 1) v5 ([] ++ bigR g 8 ++ bigR b 1 ++ bigR s 4 ++ bigR l 4)) := o5
  clear x0 x1 x2 x3 x4 o5 b5 X4 B4 O4
  obtain ⟨-, x0, x1, x2, x3, x4⟩ := X5.out
  go_wp2_with fail
  refine (implNumberS_any _ (w.heap.size + 1) _ ([] ++ bigR g 8 ++ bigR b 1 ++ bigR s 4 ++ bigR l 4) c 4 O5.out s5 (by simp [bigR_len]) (by omega)).mono ?_
  rintro e w6 ⟨v6, rfl, o6, b6⟩
  have X6 : Hid (Bx5 w6 w.heap.size g b s l c) := X5.out.below b6 (by omega)
  have B6 : Hid (Below w.heap.size w w6) := B5.out.trans (b6.mono (by omega))
  have s6 : w.heap.size + 1 ≤ w6.heap.size := Nat.le_trans s5 b6.size
  have O6 : Hid (Own .u8 5 w6 (w.heap.size + 1) v6 ([] ++ bigR g 8 ++ bigR b 1 ++ bigR s 4 ++ bigR l 4 ++ bigR c 4)) := o6
  clear x0 x1 x2 x3 x4 o6 b6 X5 B5 O5
  have hlen6 : ([] ++ bigR g 8 ++ bigR b 1 ++ bigR s 4 ++ bigR l 4 ++ bigR c 4).length = 21 := by simp [bigR_len]
  obtain ⟨g6, c6, hv6⟩ := own_some O6.out (by rw [hlen6]; omega)
  rw [hlen6] at hv6
  subst hv6
  have O6' : Hid (w6.ownsRow (w.heap.size + 1) 5 1 (.slice (some ⟨g6, 0, none⟩) 21 c6) 21 (([] ++ bigR g 8 ++ bigR b 1 ++ bigR s 4 ++ bigR l 4 ++ bigR c 4).map (Value.int .u8))) := by have := O6.out; unfold Own at this; rw [hlen6] at this; exact this
  clear O6 hlen6
  generalize hLg : ([] ++ bigR g 8 ++ bigR b 1 ++ bigR s 4 ++ bigR l 4 ++ bigR c 4) = L6 at *
  have HLg : Hid (([] ++ bigR g 8 ++ bigR b 1 ++ bigR s 4 ++ bigR l 4 ++ bigR c 4) = L6) := hLg
  clear hLg
  obtain ⟨-, x0, x1, x2, x3, x4⟩ := X6.out
  go_wp2_with (at_builtin; go_must (refine wpList_append_zeros _ rfl _ _ 24 3 rfl (w.heap.size + 1) 5 i0 .i64 .i64 Tryd.underlying24 Tryd.underlying3 hi hz0 hz1 hz2 g6 21 c6 _ rfl O6'.out 35 rfl (by omega) (by omega) s6 ?_))
  intro v7 w7 ho7 hg7
  have b7 : Below (w.heap.size + 1) w6 w7 := (Below.refl _ _).grown hg7 s6 (fun q hq => by injection hq with hq; subst hq; exact (World.ownsRow.lt O6'.out _ rfl).1)
  have O7 : Hid (Own .u8 5 w7 (w.heap.size + 1) v7 (L6 ++ List.replicate 35 0)) := own_of (q := 21 + 35) (by rw [← HLg.out]; simp [bigR_len]) rfl (by rw [List.map_append, List.map_replicate]; exact ho7)
  have X7 : Hid (Bx5 w7 w.heap.size g b s l c) := X6.out.below b7 (by omega)
  have B7 : Hid (Below w.heap.size w w7) := B6.out.trans (b7.mono (by omega))
  have s7 : w.heap.size + 1 ≤ w7.heap.size := Nat.le_trans s6 b7.size
  clear x0 x1 x2 x3 x4 ho7 hg7 b7 X6 B6 O6'
  obtain ⟨-, x0, x1, x2, x3, x4⟩ := X7.out
  go_wp2_with fail
  refine (implNumberS_any _ (w.heap.size + 1) _ (L6 ++ List.replicate 35 0) g 8 O7.out s7 (by rw [← HLg.out]; simp [bigR_len]) (by omega)).mono ?_
  rintro e w8 ⟨v8, rfl, o8, b8⟩
  have B8 : Hid (Below w.heap.size w w8) := B7.out.trans (b8.mono (by omega))
  have O8 : Hid (Own .u8 5 w8 w.heap.size v8 (supB g b s l c)) := by
    have h8 := o8.mono (show w.heap.size ≤ w.heap.size + 1 by omega)
    rw [← HLg.out, List.nil_append] at h8
    exact h8
  clear o8 b8
  go_wp2
  go_ret
  exact ⟨_, rfl, O8.out, B8.out⟩

theorem supOk_nat {g b s l c : Int} (h : supOk g b s l c = true) : ∃ g' b' s' l' c' : Nat, g = g' ∧ b = b' ∧ s = s' ∧ l = l' ∧ c = c' := by
  unfold supOk at h
  simp only [Bool.and_eq_true, Bool.or_eq_true, decide_eq_true_eq] at h
  exact ⟨g.toNat, b.toNat, s.toNat, l.toNat, c.toNat, by omega, by omega, by omega, by omega, by omega⟩

theorem implSuper_any (w : World) (g b s l c : Int) :
    Calls Tryd.prog 47 #[.agg #[.int .i64 g, .int .i64 b, .int .i64 s, .int .i64 l, .int .i64 c]] w fun e w' => ∃ v', e = .returned v' ∧ Own .u8 5 w' w.heap.size v' (sup g b s l c) ∧ Below w.heap.size w w' := by
  unfold sup
  by_cases h : supOk g b s l c = true
  · rw [if_pos h]
    obtain ⟨g, b, s, l, c, rfl, rfl, rfl, rfl, rfl⟩ := supOk_nat h
    exact implSuper_yes w g b s l c h
  · rw [if_neg h]
    exact implSuper_no w g b s l c (by simpa using h)

end Go.Proofs.YtmgolinleiahpaaDoor

namespace Go.Proofs.YtmgolinleiahpaaDoor
open Go.RowKit Go.Shelf

attribute [local go_sem] Oper.semAt_some

theorem B4F.other {W W' : World} {b : Nat} {x0 x1 x2 x3 : Value} {row : Option Nat} (h : B4F W b x0 x1 x2 x3) (hg : W.grownBy W' row) (hne : some b ≠ row) : B4F W' b x0 x1 x2 x3 := by
  have hbl := hg.block b h.1 hne
  exact ⟨Nat.lt_of_lt_of_le h.1 hg.size, ⟨(World.cell?_of_block (a := ⟨b, 0, none⟩) hbl).trans h.2.1.1, (World.cell?_of_block (a := ⟨b, 1, none⟩) hbl).trans h.2.1.2.1, (World.cell?_of_block (a := ⟨b, 2, none⟩) hbl).trans h.2.1.2.2.1, (World.cell?_of_block (a := ⟨b, 3, none⟩) hbl).trans h.2.1.2.2.2⟩,
    (World.frozen?_of_block (a := ⟨b, 0, none⟩) hbl).trans h.2.2.1, (World.frozen?_of_block (a := ⟨b, 1, none⟩) hbl).trans h.2.2.2.1, (World.frozen?_of_block (a := ⟨b, 2, none⟩) hbl).trans h.2.2.2.2.1, (World.frozen?_of_block (a := ⟨b, 3, none⟩) hbl).trans h.2.2.2.2.2⟩
theorem RpS.other {w : World} {vt : Value} {W W' : World} {row : Option Nat} (h : RpS w vt W) (hg : W.grownBy W' row) (hr : ∀ r, row = some r → w.heap.size + 2 ≤ r) : RpS w vt W' :=
  ⟨h.1.grown hg (by have := h.2.1; omega) (fun q e => by have := hr q e; omega), Nat.le_trans h.2.1 hg.size, (World.cell?_of_block (a := ⟨w.heap.size, 0, none⟩) (hg.block w.heap.size (by have := h.2.1; omega) (fun e => by have := hr _ e.symm; omega))).trans h.2.2.1, h.2.2.2.other hg (fun e => by have := hr _ e.symm; omega)⟩
/-- A box of one cell that may be written. -/
def B1F (W : World) (b : Nat) (x : Value) : Prop := b < W.heap.size ∧ W.cell? ⟨b, 0, none⟩ = some x ∧ W.frozen? ⟨b, 0, none⟩ = false
theorem B1F.below {W W' : World} {b : Nat} {x : Value} (h : B1F W b x) (hb : Below W.heap.size W W') : B1F W' b x := ⟨Nat.lt_of_lt_of_le h.1 hb.size, (hb.cell (p := ⟨b, 0, none⟩) h.1).trans h.2.1, (hb.frozen (p := ⟨b, 0, none⟩) h.1).trans h.2.2⟩
theorem B1F.other {W W' : World} {b : Nat} {x : Value} {row : Option Nat} (h : B1F W b x) (hg : W.grownBy W' row) (hne : some b ≠ row) : B1F W' b x := by
  have hbl := hg.block b h.1 hne
  exact ⟨Nat.lt_of_lt_of_le h.1 hg.size, (World.cell?_of_block (a := ⟨b, 0, none⟩) hbl).trans h.2.1, (World.frozen?_of_block (a := ⟨b, 0, none⟩) hbl).trans h.2.2⟩

/-- The replay under way in the program. -/
structure RpI (w : World) (vt : Value) (Bo : Nat) (ao : Option Addr) (n cap : Nat) (R : List (List Int × Nat)) (start : Int) (res : List Nd × Int × Nat) (k : Nat) (v : Value) (ns : List Nd) (zx last : Int) (W : World) : Prop where
  head : RpS w vt W
  out : B4F W Bo v (.int .i64 zx) (.int .i64 (k : Int)) (.int .i64 ((pos R k : Nat) : Int))
  own : OwnN 84 W (w.heap.size + 2) v ns
  ne : v.ownBlock ≠ some Bo ∧ v.ownBlock ≠ some (Bo + 1)
  lastb : B1F W (Bo + 1) (.int .i64 last)
  area : Boxed W (Bo + 2) 24 (.slice ao n cap)
  size : Bo + 3 ≤ W.heap.size
  low : w.heap.size + 2 ≤ Bo
  good : Good ns
  len : ns.length ≤ 1000
  zx0 : -1 ≤ zx ∧ zx ≤ 2147483647
  last0 : 0 < k → 1 ≤ last ∧ last ≤ 2147483647
  first : k = 0 → zx = start
  kle : k ≤ R.length
  goes : rpl start k ((R.drop k).map (·.1)) ns zx last = res
theorem RpI.later {w : World} {vt : Value} {Bo : Nat} {ao : Option Addr} {n cap : Nat} {R : List (List Int × Nat)} {start : Int} {res : List Nd × Int × Nat} {k : Nat} {v : Value} {ns : List Nd} {zx last : Int} {W W' : World} (h : RpI w vt Bo ao n cap R start res k v ns zx last W) (hb : Below W.heap.size W W') : RpI w vt Bo ao n cap R start res k v ns zx last W' :=
  ⟨h.head.below hb, h.out.below hb, h.own.below hb, h.ne, h.lastb.below hb, (hb.block _ (by have := h.size; omega)).trans h.area, Nat.le_trans h.size hb.size, h.low, h.good, h.len, h.zx0, h.last0, h.first, h.kle, h.goes⟩
theorem OwnN.notCells {W W' : World} {row : Option Nat} {lo : Nat} {v : Value} {ns : List Nd} (h : OwnN 84 W lo v ns) (hg : W.grownBy W' row) (hr : ∀ r, row = some r → ∃ o : Obj, W.heap[r]? = some o ∧ o.isCells = false) : OwnN 84 W' lo v ns := ownsRow_notCells h hg hr
theorem RpI.notCells {w : World} {vt : Value} {Bo : Nat} {ao : Option Addr} {n cap : Nat} {R : List (List Int × Nat)} {start : Int} {res : List Nd × Int × Nat} {k : Nat} {v : Value} {ns : List Nd} {zx last : Int} {W W' : World} {row : Option Nat} (h : RpI w vt Bo ao n cap R start res k v ns zx last W) (hg : W.grownBy W' row) (hr : ∀ r, row = some r → Bo + 3 ≤ r ∧ ∃ o : Obj, W.heap[r]? = some o ∧ o.isCells = false) : RpI w vt Bo ao n cap R start res k v ns zx last W' :=
  ⟨h.head.other hg (fun r e => by have := (hr r e).1; have := h.low; omega), h.out.other hg (fun e => by have := (hr _ e.symm).1; omega), h.own.notCells hg (fun r e => (hr r e).2), h.ne, h.lastb.other hg (fun e => by have := (hr _ e.symm).1; omega),
   (hg.block _ (by have := h.size; omega) (fun e => by have := (hr _ e.symm).1; omega)).trans h.area, Nat.le_trans h.size hg.size, h.low, h.good, h.len, h.zx0, h.last0, h.first, h.kle, h.goes⟩
/-- The replay at its end. -/
def RpX (w : World) (vt : Value) (Bo : Nat) (R : List (List Int × Nat)) (res : List Nd × Int × Nat) (W : World) : Prop :=
  ∃ v ns zx k, RpS w vt W ∧ B4F W Bo v (.int .i64 zx) (.int .i64 ((k : Nat) : Int)) (.int .i64 ((pos R k : Nat) : Int)) ∧ OwnN 84 W (w.heap.size + 2) v ns ∧ res = (ns, zx, k) ∧ w.heap.size + 2 ≤ Bo ∧ Bo + 3 ≤ W.heap.size
theorem RpX.notCells {w : World} {vt : Value} {Bo : Nat} {R : List (List Int × Nat)} {res : List Nd × Int × Nat} {W W' : World} {row : Option Nat} (h : RpX w vt Bo R res W) (hg : W.grownBy W' row) (hr : ∀ r, row = some r → Bo + 3 ≤ r ∧ ∃ o : Obj, W.heap[r]? = some o ∧ o.isCells = false) : RpX w vt Bo R res W' := by
  obtain ⟨v, ns, zx, k, h1, h2, h3, h4, h5, h6⟩ := h
  exact ⟨v, ns, zx, k, h1.other hg (fun r e => by have := (hr r e).1; omega), h2.other hg (fun e => by have := (hr _ e.symm).1; omega), h3.notCells hg (fun r e => (hr r e).2), h4, h5, Nat.le_trans h6 hg.size⟩
theorem RpI.stop {w : World} {vt : Value} {Bo : Nat} {ao : Option Addr} {n cap : Nat} {R : List (List Int × Nat)} {start : Int} {res : List Nd × Int × Nat} {k : Nat} {v : Value} {ns : List Nd} {zx last : Int} {W : World} (h : RpI w vt Bo ao n cap R start res k v ns zx last W) (hr : res = (ns, zx, k)) : RpX w vt Bo R res W :=
  ⟨v, ns, zx, k, h.head, h.out, h.own, hr, h.low, h.size⟩

theorem rpI_next {w : World} {vt : Value} {Bo : Nat} {ao : Option Addr} {n cap : Nat} {R : List (List Int × Nat)} {start : Int} {res : List Nd × Int × Nat} {k : Nat} {v x : Value} {ns : List Nd} {zx z : Int} {W : World} (h1 : RpS w vt W) (h2 : B4F W Bo v (.int .i64 zx) (.int .i64 (k : Int)) (.int .i64 ((pos R k : Nat) : Int))) (h3 : OwnN 84 W (w.heap.size + 2) v ns) (h4 : v.ownBlock ≠ some Bo ∧ v.ownBlock ≠ some (Bo + 1)) (h5 : B1F W (Bo + 1) x) (h6 : Boxed W (Bo + 2) 24 (.slice ao n cap)) (h7 : Bo + 3 ≤ W.heap.size) (h8 : w.heap.size + 2 ≤ Bo) (h9 : Good ns) (h10 : ns.length ≤ 1000) (h11 : -1 ≤ zx ∧ zx ≤ 2147483647) (h12 : 1 ≤ z ∧ z ≤ 2147483647) (h13 : k + 1 ≤ R.length) (h14 : rpl start (k + 1) ((R.drop (k + 1)).map (·.1)) ns zx z = res) :
    RpI w vt Bo ao n cap R start res (k + 1) v ns zx z (((W.setCell ⟨Bo + 1, 0, none⟩ (.int .i64 z)).setCell ⟨Bo, 2, none⟩ (.int .i64 ((k : Int) + 1))).setCell ⟨Bo, 3, none⟩ (.int .i64 ((pos R (k + 1) : Nat) : Int))) := by
  refine ⟨((h1.setO (by omega) _).setO h8 _).setO h8 _, ?_, ((h3.setO h4.2 _).setO h4.1 _).setO h4.1 _, h4, ?_, ?_, by simpa using h7, h8, h9, h10, h11, fun _ => h12, fun h => by omega, h13, h14⟩
  · have hb : Below (Bo + 1) W (W.setCell ⟨Bo + 1, 0, none⟩ (.int .i64 z)) := by refine Below.setCell (Below.refl _ _) ?_ _; exact Nat.le_refl _
    have := ((h2.belowB hb (by omega)).set2 (.int .i64 ((k : Int) + 1))).set3 (.int .i64 ((pos R (k + 1) : Nat) : Int))
    rw [show ((k + 1 : Nat) : Int) = (k : Int) + 1 by omega]
    exact this
  · have h : B1F (W.setCell ⟨Bo + 1, 0, none⟩ (.int .i64 z)) (Bo + 1) (.int .i64 z) := ⟨by simpa using h5.1, World.cell?_setCell_same _ _ _ h5.2.1, by simpa using h5.2.2⟩
    exact (h.other (gset _ Bo 2 _) (by simp)).other (gset _ Bo 3 _) (by simp)
  · show _ = _
    rw [Below.heap_setCell _ _ _ _ (by simp), Below.heap_setCell _ _ _ _ (by simp), Below.heap_setCell _ _ _ _ (by simp)]
    exact h6
theorem keeps_other {B Br : Nat} {X Y : World} (hg : X.grownBy Y (some Br)) (h : Br < B) : KeepsFrom B X Y := ⟨hg.size, fun k _ hB hk _ => (hg.block k (Array.getElem?_eq_some_iff.1 hk).1 (fun e => by simp at e; omega)).trans hk⟩

/-- What the body finds. -/
def AxR (w : World) (vt : Value) (Bo : Nat) (ao : Option Addr) (n cap : Nat) (R : List (List Int × Nat)) (start : Int) (res : List Nd × Int × Nat) (tm : Value → Value → Value → Array Value) (s : List Value) (vs : Array Value) (a' : Act) (W : World) : Prop :=
  ∃ ua uc v ns' zx last Bx, uOf vs = .slice ua (pR (R.map (·.1)) s.length).length uc ∧ s.length < R.length ∧ RpI w vt Bo ao n cap R start res s.length v ns' zx last W ∧ Own .u8 5 W (Bo + 3) (.slice ua (pR (R.map (·.1)) s.length).length uc) (pR (R.map (·.1)) s.length) ∧
    Boxed W Bx 111 (.slice ua (pR (R.map (·.1)) s.length).length uc) ∧ a' = { tmps := tm (.int .i64 ((pos R (s.length + 1) : Nat) : Int)) (.pointer (some ⟨Bx, 0, none⟩)) (.agg #[.slice ua (pR (R.map (·.1)) s.length).length uc]), defers := [] }

set_option maxHeartbeats 4000000 in
set_option maxRecDepth 100000 in
theorem implReplay_yes (w : World) (ta : Option Addr) (tc : Nat) (ns : List Nd) (start : Int) (ao : Option Addr) (n cap : Nat) (a : List Int) (ht : RdN w (.slice ta ns.length tc) ns) (hok : okTree ns = true) (hs : okS start = true) (hr : Rd .u8 w (.slice ao n cap) a) (hl : a.length = n) (hby : Byt a) (hn : n ≤ 8192) (hform : (ao = none ∧ n = 0 ∧ cap = 0) ∨ ∃ blk o, ao = some ⟨blk, o, none⟩) :
    Calls Tryd.prog 25 #[.agg #[.slice ta ns.length tc], .int .i64 start, .slice ao n cap] w (RpPost w (scn n a) (rpl start 0 ((scn n a).map (·.1)) ns start 0)) := by
  have HN : Hid (RdN w (.slice ta ns.length tc) ns) := ht
  have HOK : Hid (okTree ns = true) := hok
  have HR : Hid (Rd .u8 w (.slice ao n cap) a) := hr
  have HL : Hid (a.length = n) := hl
  have HBY : Hid (Byt a) := hby
  have HF : Hid ((ao = none ∧ n = 0 ∧ cap = 0) ∨ ∃ blk o, ao = some ⟨blk, o, none⟩) := hform
  have hnl : ns.length ≤ 1000 := by unfold okTree at hok; simp only [Bool.and_eq_true, decide_eq_true_eq] at hok; exact hok.1
  have hst : 0 ≤ start ∧ start ≤ 2147483647 := by unfold okS at hs; simpa using hs
  have HST : Hid (decide (0 ≤ start ∧ start ≤ 2147483647) = true) := by show _ = _; rw [decide_eq_true_eq]; exact hst
  have HG : Hid (Good ns) := good_tree hok
  obtain ⟨res, hres⟩ : ∃ res, res = rpl start 0 ((scn n a).map (·.1)) ns start 0 := ⟨_, rfl⟩
  have HRES : Hid (rpl start 0 ((scn n a).map (·.1)) ns start 0 = res) := hres.symm
  rw [← hres]
  have hn2 : ¬ (8192 : Int) < (n : Int) := by omega
  have hn2d : decide ((8192 : Int) < (n : Int)) = false := by simpa using hn2
  clear ht hok hs hr hl hby hres hform
  refine (callsIn_wide (n := 6)).1 ?_
  refine callsIn_of_wp_marks Tryd.func25 rfl trivial ?_ rfl
  simp only [Tryd.ntmps25, List.size_toArray, List.length_cons, List.length_nil, Nat.reduceAdd, Nat.reduceSub, Array.replicate_succ, Array.replicate_zero, List.push_toArray, List.append_toArray, List.nil_append, List.cons_append]
  gi_wp2_with fail
  have F0 : Hid (RpS w (.slice ta ns.length tc) ((w.alloc (.cells #[.slice ta ns.length tc] 36)).alloc (.cells #[.slice none 0 0, .int .i64 0, .int .i64 0, .int .i64 0] 53))) := RpS.new _ _ _ _
  generalize (w.alloc (.cells #[.slice ta ns.length tc] 36)).alloc (.cells #[.slice none 0 0, .int .i64 0, .int .i64 0, .int .i64 0] 53) = w0 at *
  refine ⟨trivial, ?_⟩
  refine (callsIn_wide.2 (implTree_any _ _ ns (HN.out.below F0.out.1) (good_sz HG.out))).mono ?_
  rintro e w1 ⟨rfl, b1⟩
  rw [HOK.out]
  have F1 : Hid (RpS w (.slice ta ns.length tc) w1) := F0.out.below b1
  clear b1 F0
  gi_wp2_with fail
  refine ⟨trivial, ?_⟩
  refine (callsIn_wide.2 (implStat_any _ start)).mono ?_
  rintro e wq ⟨rfl, hwq⟩
  rw [HST.out, hwq]
  clear hwq
  obtain ⟨-, -, x0, -⟩ := F1.out
  gi_wp2_with fail
  clear x0
  refine ⟨trivial, ?_⟩
  refine (callsIn_wide.2 (cloneN_any _ ta tc ns (HN.out.below F1.out.1) hnl)).mono ?_
  rintro e w2 ⟨v2, rfl, o2, b2⟩
  obtain ⟨na, nc, rfl⟩ := OwnN.slice9 o2
  have F2 : Hid (RpS w (.slice ta ns.length tc) w2) := F1.out.below b2
  have O2 : Hid (OwnN 84 w2 w1.heap.size (.slice na ns.length nc) ns) := o2
  have s1 := F1.out.2.1
  clear o2 b2 F1
  gi_wp2_with fail
  refine ⟨trivial, ?_⟩
  refine (frames_in Fence.wide _ trivial rfl _ _ _ _).mono ?_
  rintro e w5 ⟨rfl, hw5⟩
  gi_wp2_with fail
  have s2 : w.heap.size + 2 ≤ w2.heap.size := F2.out.2.1
  have HST0 : Hid (RpI w (.slice ta ns.length tc) w2.heap.size ao n cap (scn n a) start res 0 (.slice na ns.length nc) ns start 0 w5) := by
    rw [hw5]
    have bA : Below w2.heap.size w2 (w2.alloc (.cells #[.slice na ns.length nc, .int .i64 start, .int .i64 0, .int .i64 0] 53)) := (Below.refl _ _).alloc (Nat.le_refl _) _
    have hO := O2.out.below bA
    have hF := F2.out.below bA
    have hX := B4F.new w2 (.slice na ns.length nc) (.int .i64 start) (.int .i64 0) (.int .i64 0) 53
    have sA : (w2.alloc (.cells #[.slice na ns.length nc, .int .i64 start, .int .i64 0, .int .i64 0] 53)).heap.size = w2.heap.size + 1 := by simp
    have hlt := fun q hq => World.ownsRow.lt O2.out q hq
    generalize w2.alloc (.cells #[.slice na ns.length nc, .int .i64 start, .int .i64 0, .int .i64 0] 53) = wA at *
    have bB : Below wA.heap.size wA (wA.alloc (.cells #[.int .i64 0] 2)) := (Below.refl _ _).alloc (Nat.le_refl _) _
    have hL : B1F (wA.alloc (.cells #[.int .i64 0] 2)) (w2.heap.size + 1) (.int .i64 0) := by rw [← sA]; exact ⟨by simp, by simp, by simp⟩
    have sB : (wA.alloc (.cells #[.int .i64 0] 2)).heap.size = w2.heap.size + 2 := by simp [sA]
    generalize wA.alloc (.cells #[.int .i64 0] 2) = wB at *
    have bC : Below wB.heap.size wB (wB.alloc (.cells #[.slice ao n cap] 24)) := (Below.refl _ _).alloc (Nat.le_refl _) _
    refine ⟨(hF.below bB).below bC, by rw [pos_zero]; exact (hX.below bB).below bC, ((hO.below bB).below bC).mono (by omega), ⟨fun e => by have := hlt _ e; omega, fun e => by have := hlt _ e; omega⟩, hL.below bC, ?_, by simp [sB], s2, HG.out, hnl, ⟨by omega, by omega⟩, fun h => by omega, fun _ => rfl, Nat.zero_le _, by rw [List.drop_zero]; exact HRES.out⟩
    have := Boxed.new wB 24 (.slice ao n cap)
    rw [sB] at this
    exact this
  have s5 : w5.heap.size = w2.heap.size + 3 := by rw [hw5]; simp
  rw [← hw5]
  clear hw5 O2 F2
  refine range_breaks (L := 0) (F := Fence.wide) (n := 6) rfl (by omega) (gf := 112) (lb := #[.pointer (some ⟨w2.heap.size + 2, 0, none⟩)]) rfl trivial (enters_of Tryd.func112 (by kernel_rfl) rfl)
    (fun s W => ∃ v ns' zx last, RpI w (.slice ta ns.length tc) w2.heap.size ao n cap (scn n a) start res s.length v ns' zx last W) (PreS (scn n a) (fun s W => ∃ v ns' zx last, RpI w (.slice ta ns.length tc) w2.heap.size ao n cap (scn n a) start res s.length v ns' zx last W)) (fun s vs => s ++ [uOf vs]) (fun _ _ => True) (fun s => s.length = (scn n a).length) (RpX w (.slice ta ns.length tc) w2.heap.size (scn n a) res)
    (fun s X Y row hs hg hr => hs.notCells hg (fun r e => by have := hr r e; rw [s5] at this; exact this)) []
    (fun s X Y row hs hg hr => by obtain ⟨v, ns', zx, last, hs⟩ := hs; exact ⟨v, ns', zx, last, hs.notCells hg (fun r e => by have := hr r e; rw [s5] at this; exact this)⟩) (fun _ _ => trivial) (fun _ _ _ _ _ _ _ _ => trivial)
    (fun s vs W hp => by obtain ⟨u, W0, rfl, -⟩ := hp; rfl) ⟨_, _, _, _, HST0.out⟩ (AxR w (.slice ta ns.length tc) w2.heap.size ao n cap (scn n a) start res (fun e b p => #[.agg #[.slice ta ns.length tc], .int .i64 start, .slice ao n cap, .pointer (some ⟨w.heap.size, 0, none⟩), undef, undef, .pointer (some ⟨w.heap.size + 1, 0, none⟩), .pointer (some ⟨w2.heap.size, 0, none⟩), .pointer (some ⟨w2.heap.size + 1, 0, none⟩), e, b, undef, .agg #[.slice ta ns.length tc], .bool true, .bool false, .bool false, .int .i64 start, .bool true, .bool false, .bool false, .bool false, .slice ao n cap, .int .i64 n, .bool false, .bool false, undef, .pointer (some ⟨w.heap.size, 0, none⟩), .slice ta ns.length tc, .slice na ns.length nc, .agg #[.slice na ns.length nc], .int .i64 start, .agg #[.slice na ns.length nc, .int .i64 start, .int .i64 0, .int .i64 0], .slice ao n cap, .func (.func 112) #[] #[.pointer (some ⟨w2.heap.size + 2, 0, none⟩)], e, p, undef, undef, undef, undef, undef, undef, undef, undef, undef, undef, undef, undef, undef, undef, undef, undef, undef, undef, undef, undef, undef, undef, undef, undef, undef, undef, undef, undef, undef]))
    ?ax ?assign ?body ?call ?done ?stop
  case ax =>
    rintro s vs a' _ X Y row ⟨ua, uc, v, ns', zx, last, Bx, h1, h2, h3, h6, h7, h8⟩ hg hr
    refine ⟨ua, uc, v, ns', zx, last, Bx, h1, h2, h3.notCells hg (fun r e => by have := hr r e; rw [s5] at this; exact this), ownsRow_notCells h6 hg (fun r e => (hr r e).2), ?_, h8⟩
    exact (hg.block Bx (Array.getElem?_eq_some_iff.1 h7).1 (fun e => by obtain ⟨-, o, ho, hc⟩ := hr Bx e.symm; rw [h7] at ho; injection ho with ho; rw [← ho] at hc; cases hc)).trans h7
  case assign =>
    rintro l s vs W K - ⟨u, W0, rfl, hlt, ⟨v, ns', zx, last, hs⟩, hb, ho⟩ hK
    have hpr : ((scn n a).getD s.length ([], 0)).1 = pR ((scn n a).map (·.1)) s.length := (pR_map _ _ hlt).symm
    rw [hpr] at ho
    obtain ⟨ua, uc, rfl⟩ := Own.slice ho
    have HO : Hid (Own .u8 5 W W0.heap.size (.slice ua (pR ((scn n a).map (·.1)) s.length).length uc) (pR ((scn n a).map (·.1)) s.length)) := ho
    have HS : Hid (RpI w (.slice ta ns.length tc) w2.heap.size ao n cap (scn n a) start res s.length v ns' zx last W0) := hs
    have HB : Hid (Below W0.heap.size W0 W) := hb
    have HK : Hid (∀ a' W', KeepsFrom w5.heap.size W W' → True → (AxR w (.slice ta ns.length tc) w2.heap.size ao n cap (scn n a) start res (fun e b p => #[.agg #[.slice ta ns.length tc], .int .i64 start, .slice ao n cap, .pointer (some ⟨w.heap.size, 0, none⟩), undef, undef, .pointer (some ⟨w.heap.size + 1, 0, none⟩), .pointer (some ⟨w2.heap.size, 0, none⟩), .pointer (some ⟨w2.heap.size + 1, 0, none⟩), e, b, undef, .agg #[.slice ta ns.length tc], .bool true, .bool false, .bool false, .int .i64 start, .bool true, .bool false, .bool false, .bool false, .slice ao n cap, .int .i64 n, .bool false, .bool false, undef, .pointer (some ⟨w.heap.size, 0, none⟩), .slice ta ns.length tc, .slice na ns.length nc, .agg #[.slice na ns.length nc], .int .i64 start, .agg #[.slice na ns.length nc, .int .i64 start, .int .i64 0, .int .i64 0], .slice ao n cap, .func (.func 112) #[] #[.pointer (some ⟨w2.heap.size + 2, 0, none⟩)], e, p, undef, undef, undef, undef, undef, undef, undef, undef, undef, undef, undef, undef, undef, undef, undef, undef, undef, undef, undef, undef, undef, undef, undef, undef, undef, undef, undef, undef, undef])) s _ a' W' → K a' W') := hK
    clear ho hs hb hK hpr
    generalize hq : pR ((scn n a).map (·.1)) s.length = q at *
    have HLT0 : Hid (s.length < (scn n a).length) := hlt
    clear hlt
    gi_wp2
    refine HK.out _ _ (below_keeps ((Below.refl _ _).alloc (Nat.le_refl _) _)) trivial ⟨ua, uc, v, ns', zx, last, W.heap.size, by rw [hq]; rfl, HLT0.out, (HS.out.later HB.out).later ((Below.refl _ _).alloc (Nat.le_refl _) _), by rw [hq]; exact (HO.out.below ((Below.refl _ _).alloc (Nat.le_refl _) _)).mono HS.out.size, by rw [hq]; exact Boxed.new _ _ _, by rw [hq]⟩
  case body =>
    rintro l s vs a' W ⟨ua, uc, v, ns', zx, last, Bx, hu, hlt, hS, ho, hx, rfl⟩
    obtain ⟨va, vc, rfl⟩ := OwnN.slice9 hS.own
    have HS : Hid (RpI w (.slice ta ns.length tc) w2.heap.size ao n cap (scn n a) start res s.length (.slice va ns'.length vc) ns' zx last W) := hS
    have HO : Hid (Own .u8 5 W (w2.heap.size + 3) (.slice ua (pR ((scn n a).map (·.1)) s.length).length uc) (pR ((scn n a).map (·.1)) s.length)) := ho
    have HU : Hid (uOf vs = .slice ua (pR ((scn n a).map (·.1)) s.length).length uc) := hu
    have hbt := rec_byt HL.out s.length hlt
    have HBT : Hid (Byt (pR ((scn n a).map (·.1)) s.length)) := hbt.1
    have hpl := hbt.2.1
    have cx := hx.cell
    have zx9 : Bx < W.heap.size := (Array.getElem?_eq_some_iff.1 hx).1
    have hdrop := rec_drop (scn n a) s.length hlt
    have HDR : Hid (((scn n a).drop s.length).map (·.1) = pR ((scn n a).map (·.1)) s.length :: ((scn n a).drop (s.length + 1)).map (·.1)) := hdrop
    have hk1 : Hid (s.length + 1 ≤ (scn n a).length) := hlt
    have hps := (scn_all n a (by rw [HL.out]; exact Nat.le_refl _)).2.2 (s.length + 1) hlt
    rw [HL.out] at hps
    have hsl : s.length ≤ 8192 := by have := scn_len n a; omega
    clear hS ho hu hbt hx hdrop hlt
    generalize pR ((scn n a).map (·.1)) s.length = p9 at *
    generalize scn n a = R at *
    generalize hk : s.length = k at *
    have HKE : Hid (s.length = k) := hk
    clear hk
    have sW := HS.out.size
    have slo := HS.out.low
    gi_wp2_with fail
    refine ⟨trivial, ?_⟩
    refine (callsIn_wide.2 (implDecX_any _ _ p9 HO.out.rd HBT.out (by omega))).mono ?_
    rintro e W1 ⟨b1, hd⟩
    rename_i K10 hK10 K9 hK9
    have HK10 : Hid _ := hK10
    clear hK10
    have HS1 : Hid (RpI w (.slice ta ns.length tc) w2.heap.size ao n cap R start res k (.slice va ns'.length vc) ns' zx last W1) := HS.out.later b1
    have KP1 : Hid (KeepsFrom (w2.heap.size + 3) W W1) := below_keeps b1
    clear b1 HS cx
    rcases hd with ⟨hd, rfl⟩ | ⟨z, es, vx, hd, rfl, ox⟩
    · have HRES9 : Hid (res = (ns', zx, k)) := by
        have := HS1.out.goes
        rw [HDR.out, rpl_none hd] at this
        exact this.symm
      clear hd
      have bA : Below W1.heap.size W1 (W1.alloc (.cells #[.bool false, .int .i64 0, .slice none 0 0] 108)) := (Below.refl _ _).alloc (Nat.le_refl _) _
      have HX2 : Hid (RpI w (.slice ta ns.length tc) w2.heap.size ao n cap R start res k (.slice va ns'.length vc) ns' zx last (W1.alloc (.cells #[.bool false, .int .i64 0, .slice none 0 0] 108))) := HS1.out.later bA
      have KP2 : Hid (KeepsFrom (w2.heap.size + 3) W (W1.alloc (.cells #[.bool false, .int .i64 0, .slice none 0 0] 108))) := KP1.out.trans (below_keeps bA)
      have t0 : (W1.alloc (.cells #[.bool false, .int .i64 0, .slice none 0 0] 108)).cell? ⟨W1.heap.size, 0, none⟩ = some (.bool false) := by simp
      clear bA HS1 KP1
      unfold zeroX
      gi_wp2_with fail
      generalize W1.alloc (.cells #[.bool false, .int .i64 0, .slice none 0 0] 108) = W2 at *
      refine HK10.out _ _ ?_
      clear HK10
      gi_wp2
      refine ⟨trivial, ?_⟩
      gi_wp2
      refine ⟨trivial, ?_⟩
      gi_wp2
      exact ⟨KP2.out, HX2.out.stop HRES9.out⟩
    · have hzz := okTxn_z (decX_ok hd)
      have HD : Hid (decX p9 = some (z, es)) := hd
      obtain ⟨xa, xc, rfl⟩ := OwnE.slice9 ox
      have bA : Below W1.heap.size W1 (W1.alloc (.cells #[.bool true, .int .i64 z, .slice xa es.length xc] 108)) := (Below.refl _ _).alloc (Nat.le_refl _) _
      have HX2 : Hid (RpI w (.slice ta ns.length tc) w2.heap.size ao n cap R start res k (.slice va ns'.length vc) ns' zx last (W1.alloc (.cells #[.bool true, .int .i64 z, .slice xa es.length xc] 108))) := HS1.out.later bA
      have KP2 : Hid (KeepsFrom (w2.heap.size + 3) W (W1.alloc (.cells #[.bool true, .int .i64 z, .slice xa es.length xc] 108))) := KP1.out.trans (below_keeps bA)
      have OX2 : Hid (RdE (W1.alloc (.cells #[.bool true, .int .i64 z, .slice xa es.length xc] 108)) (.slice xa es.length xc) es) := (OwnE.rd ox).below bA
      have t0 : (W1.alloc (.cells #[.bool true, .int .i64 z, .slice xa es.length xc] 108)).cell? ⟨W1.heap.size, 0, none⟩ = some (.bool true) := by simp
      have t1 : (W1.alloc (.cells #[.bool true, .int .i64 z, .slice xa es.length xc] 108)).cell? ⟨W1.heap.size, 1, none⟩ = some (.int .i64 z) := by simp
      have t2 : (W1.alloc (.cells #[.bool true, .int .i64 z, .slice xa es.length xc] 108)).cell? ⟨W1.heap.size, 2, none⟩ = some (.slice xa es.length xc) := by simp
      have T2 : Hid (W1.heap.size < (W1.alloc (.cells #[.bool true, .int .i64 z, .slice xa es.length xc] 108)).heap.size ∧ (W1.alloc (.cells #[.bool true, .int .i64 z, .slice xa es.length xc] 108)).cell? ⟨W1.heap.size, 1, none⟩ = some (.int .i64 z) ∧ (W1.alloc (.cells #[.bool true, .int .i64 z, .slice xa es.length xc] 108)).cell? ⟨W1.heap.size, 2, none⟩ = some (.slice xa es.length xc)) := ⟨by simp, t1, t2⟩
      have S1 : Hid (w2.heap.size + 3 ≤ W1.heap.size) := HS1.out.size
      clear bA HS1 KP1 ox hd
      gi_wp2_with fail
      generalize W1.alloc (.cells #[.bool true, .int .i64 z, .slice xa es.length xc] 108) = W2 at *
      generalize hBt : W1.heap.size = Bt at *
      clear hBt
      refine HK10.out _ _ ?_
      clear HK10
      obtain ⟨zl, l0, lf⟩ := HX2.out.lastb
      gi_wp2_with fail
      clear l0 lf zl t0 t1 t2
      have hzx := HX2.out.zx0
      refine ⟨trivial, ?_⟩
      refine (callsIn_wide.2 (follows_any W2 w2.heap.size (.slice va ns'.length vc) zx _ last z k xa es.length xc HX2.out.out hzx HX2.out.last0)).mono ?_
      rintro e W3 ⟨rfl, b3⟩
      have HX3 : Hid (RpI w (.slice ta ns.length tc) w2.heap.size ao n cap R start res k (.slice va ns'.length vc) ns' zx last W3) := HX2.out.later b3
      have KP3 : Hid (KeepsFrom (w2.heap.size + 3) W W3) := KP2.out.trans (below_keeps b3)
      have OX3 : Hid (RdE W3 (.slice xa es.length xc) es) := OX2.out.below b3
      have T3 : Hid (Bt < W3.heap.size ∧ W3.cell? ⟨Bt, 1, none⟩ = some (.int .i64 z) ∧ W3.cell? ⟨Bt, 2, none⟩ = some (.slice xa es.length xc)) := ⟨Nat.lt_of_lt_of_le T2.out.1 b3.size, (b3.cell (p := ⟨Bt, 1, none⟩) T2.out.1).trans T2.out.2.1, (b3.cell (p := ⟨Bt, 2, none⟩) T2.out.1).trans T2.out.2.2⟩
      clear b3 HX2 KP2 OX2 T2
      obtain ⟨fl, hfl⟩ : ∃ fl, fl = (if k = 0 then decide (z ≤ zx + 1) else decide (z = last + 1)) := ⟨_, rfl⟩
      have HBAD : Hid ((if k = 0 then decide (start + 1 < z) else decide (z ≠ last + 1)) = !fl) := by
        rw [hfl]
        show _ = _
        by_cases hk0 : k = 0
        · rw [if_pos hk0, if_pos hk0, HX3.out.first hk0]
          by_cases h : z ≤ start + 1
          · rw [decide_eq_false (by omega), decide_eq_true h]; rfl
          · rw [decide_eq_true (by omega), decide_eq_false h]; rfl
        · rw [if_neg hk0, if_neg hk0]
          by_cases h : z = last + 1
          · rw [decide_eq_false (by omega), decide_eq_true h]; rfl
          · rw [decide_eq_true h, decide_eq_false h]; rfl
      rw [← hfl]
      clear hfl
      cases fl with
      | false =>
        have HRES9 : Hid (res = (ns', zx, k)) := by
          have := HX3.out.goes
          rw [HDR.out, rpl_bad HD.out HBAD.out] at this
          exact this.symm
        gi_wp2
        refine ⟨trivial, ?_⟩
        gi_wp2
        exact ⟨KP3.out, HX3.out.stop HRES9.out⟩
      | true =>
        obtain ⟨-, t1, t2⟩ := T3.out
        gi_wp2_with fail
        clear t1 t2
        refine ⟨trivial, ?_⟩
        refine (callsIn_wide.2 (reach_any W3 w2.heap.size va vc ns' zx _ z k xa xc es HX3.out.out HX3.out.own.rd HX3.out.own.nilOk HX3.out.good OX3.out (decX_ok HD.out))).mono ?_
        rintro e W4 hrp
        rcases hrp with ⟨hz, rfl, b4⟩ | ⟨hz, hbig, rfl, b4⟩ | ⟨hz, hbig, rfl, v4, x4, o4, g4⟩
        · have GOES : Hid (rpl start (k + 1) ((R.drop (k + 1)).map (·.1)) ns' zx z = res) := by
            have := HX3.out.goes
            rw [HDR.out, rpl_pass HD.out HBAD.out (by omega)] at this
            exact this
          have HX4 : Hid (RpI w (.slice ta ns.length tc) w2.heap.size ao n cap R start res k (.slice va ns'.length vc) ns' zx last W4) := HX3.out.later b4
          have KP4 : Hid (KeepsFrom (w2.heap.size + 3) W W4) := KP3.out.trans (below_keeps b4)
          have t1 := (b4.cell (p := ⟨Bt, 1, none⟩) T3.out.1).trans T3.out.2.1
          have FIN : Hid (RpI w (.slice ta ns.length tc) w2.heap.size ao n cap R start res (k + 1) (.slice va ns'.length vc) ns' zx z (((W4.setCell ⟨w2.heap.size + 1, 0, none⟩ (.int .i64 z)).setCell ⟨w2.heap.size, 2, none⟩ (.int .i64 ((k : Int) + 1))).setCell ⟨w2.heap.size, 3, none⟩ (.int .i64 ((pos R (k + 1) : Nat) : Int)))) := rpI_next HX4.out.head HX4.out.out HX4.out.own HX4.out.ne HX4.out.lastb HX4.out.area HX4.out.size HX4.out.low HX4.out.good HX4.out.len HX4.out.zx0 hzz hk1.out GOES.out
          have KP5 : Hid (KeepsFrom (w2.heap.size + 3) W (((W4.setCell ⟨w2.heap.size + 1, 0, none⟩ (.int .i64 z)).setCell ⟨w2.heap.size, 2, none⟩ (.int .i64 ((k : Int) + 1))).setCell ⟨w2.heap.size, 3, none⟩ (.int .i64 ((pos R (k + 1) : Nat) : Int)))) := KP4.out.trans ((((KeepsOthers.setCell _ _ _).from _).trans ((KeepsOthers.setCell _ _ _).from _)).trans ((KeepsOthers.setCell _ _ _).from _))
          obtain ⟨zo, ⟨e0, e1, e2, e3⟩, f0, f1, f2, f3⟩ := HX4.out.out
          obtain ⟨zl, l0, lf⟩ := HX4.out.lastb
          have hbt1 : Bt ≠ w2.heap.size + 1 := by have := S1.out; omega
          have hbt2 : Bt ≠ w2.heap.size := by have := S1.out; omega
          clear b4 HX3 KP3 OX3 T3 HX4 KP4
          gi_wp2
          refine ⟨KP5.out, .slice va ns'.length vc, ns', zx, z, ?_⟩
          rw [HKE.out]
          exact FIN.out
        · have HRES9 : Hid (res = (ns', zx, k)) := by
            have := HX3.out.goes
            rw [HDR.out, rpl_big HD.out HBAD.out hz hbig] at this
            exact this.symm
          have HX4 : Hid (RpI w (.slice ta ns.length tc) w2.heap.size ao n cap R start res k (.slice va ns'.length vc) ns' zx last W4) := HX3.out.later b4
          have KP4 : Hid (KeepsFrom (w2.heap.size + 3) W W4) := KP3.out.trans (below_keeps b4)
          clear b4
          gi_wp2
          exact ⟨KP4.out, HX4.out.stop HRES9.out⟩
        · have GOES : Hid (rpl start (k + 1) ((R.drop (k + 1)).map (·.1)) (resA ns' z es) z z = res) := by
            have := HX3.out.goes
            rw [HDR.out, rpl_app HD.out HBAD.out hz hbig] at this
            exact this
          have KP4 : Hid (KeepsFrom (w2.heap.size + 3) W W4) := KP3.out.trans (keeps_other g4 (by omega))
          have s3W := HX3.out.size
          have t1 := (World.cell?_of_block (a := ⟨Bt, 1, none⟩) (g4.block Bt T3.out.1 (fun e => by simp at e; have := S1.out; omega))).trans T3.out.2.1
          have LB4 : Hid (B1F W4 (w2.heap.size + 1) (.int .i64 last)) := HX3.out.lastb.other g4 (by simp)
          have X4 : Hid (B4F W4 w2.heap.size v4 (.int .i64 z) (.int .i64 (k : Int)) (.int .i64 ((pos R k : Nat) : Int))) := x4
          have AR4 : Hid (Boxed W4 (w2.heap.size + 2) 24 (.slice ao n cap)) := (g4.block (w2.heap.size + 2) (by omega) (by simp)).trans HX3.out.area
          have HD4 : Hid (RpS w (.slice ta ns.length tc) W4) := HX3.out.head.other g4 (fun r e => by simp at e; omega)
          have NE4 : Hid (v4.ownBlock ≠ some w2.heap.size ∧ v4.ownBlock ≠ some (w2.heap.size + 1)) := ⟨fun e => by have := (World.ownsRow.lt o4 _ e).1; omega, fun e => by have := (World.ownsRow.lt o4 _ e).1; omega⟩
          have O4 : Hid (OwnN 84 W4 (w.heap.size + 2) v4 (resA ns' z es)) := o4.mono (by omega)
          have FIN : Hid (RpI w (.slice ta ns.length tc) w2.heap.size ao n cap R start res (k + 1) v4 (resA ns' z es) z z (((W4.setCell ⟨w2.heap.size + 1, 0, none⟩ (.int .i64 z)).setCell ⟨w2.heap.size, 2, none⟩ (.int .i64 ((k : Int) + 1))).setCell ⟨w2.heap.size, 3, none⟩ (.int .i64 ((pos R (k + 1) : Nat) : Int)))) := rpI_next HD4.out X4.out O4.out NE4.out LB4.out AR4.out (Nat.le_trans s3W g4.size) HX3.out.low (good_resA HX3.out.good (decX_ok HD.out)) (by omega) ⟨by omega, by omega⟩ hzz hk1.out GOES.out
          have KP5 : Hid (KeepsFrom (w2.heap.size + 3) W (((W4.setCell ⟨w2.heap.size + 1, 0, none⟩ (.int .i64 z)).setCell ⟨w2.heap.size, 2, none⟩ (.int .i64 ((k : Int) + 1))).setCell ⟨w2.heap.size, 3, none⟩ (.int .i64 ((pos R (k + 1) : Nat) : Int)))) := KP4.out.trans ((((KeepsOthers.setCell _ _ _).from _).trans ((KeepsOthers.setCell _ _ _).from _)).trans ((KeepsOthers.setCell _ _ _).from _))
          obtain ⟨zo, ⟨e0, e1, e2, e3⟩, f0, f1, f2, f3⟩ := X4.out
          obtain ⟨zl, l0, lf⟩ := LB4.out
          have hbt1 : Bt ≠ w2.heap.size + 1 := by have := S1.out; omega
          have hbt2 : Bt ≠ w2.heap.size := by have := S1.out; omega
          clear g4 x4 o4 HX3 KP3 OX3 T3 X4 LB4 AR4 HD4 NE4 O4 KP4
          gi_wp2
          refine ⟨KP5.out, v4, resA ns' z es, z, z, ?_⟩
          rw [HKE.out]
          exact FIN.out
  case call =>
    intro Bk BkX W1 hBk hBkX hY _ _ hs0 hb0
    have hY' : ∀ s vs W, (fun s W => ∃ v ns' zx last, RpI w (.slice ta ns.length tc) w2.heap.size ao n cap (scn n a) start res s.length v ns' zx last W) s W → Bk W → PreS (scn n a) (fun s W => ∃ v ns' zx last, RpI w (.slice ta ns.length tc) w2.heap.size ao n cap (scn n a) start res s.length v ns' zx last W) s vs W → YieldAt Fence.wide (5 - 1) Tryd.prog (w5.heap.size + 1) vs W fun e W' => (e = .returned (.bool true) ∧ (fun s W => ∃ v ns' zx last, RpI w (.slice ta ns.length tc) w2.heap.size ao n cap (scn n a) start res s.length v ns' zx last W) (s ++ [uOf vs]) W' ∧ Bk W') ∨ (e = .returned (.bool false) ∧ (RpX w (.slice ta ns.length tc) w2.heap.size (scn n a) res) W' ∧ BkX W') := by
      intro s vs W hs hb hp
      obtain ⟨fn, tm, asg, bd, hy, hR⟩ := hY s vs W hs hb hp
      exact ⟨fn, tm, asg, bd, hy, hR.mono (fun e W' h => by rcases h with h | h; exact .inl ⟨h.1, h.2.1, h.2.2.1⟩; exact .inr h)⟩
    rcases HF.out with ⟨ho, hn0, hc0⟩ | ⟨blk, o, ho⟩
    · have ha : a = [] := List.eq_nil_of_length_eq_zero (by rw [HL.out]; exact hn0)
      have hr := frames1_brnil 5 (by omega) (w5.heap.size + 1) (w2.heap.size + 2) (fun s W => ∃ v ns' zx last, RpI w (.slice ta ns.length tc) w2.heap.size ao n cap (scn n a) start res s.length v ns' zx last W) Bk (RpX w (.slice ta ns.length tc) w2.heap.size (scn n a) res) BkX (fun s X Y hb ⟨v, ns', zx, last, h⟩ => ⟨v, ns', zx, last, h.later hb⟩) (fun X Y hb h => hBk X Y (below_keeps hb) h) (fun s W ⟨v, ns', zx, last, h⟩ => by have := h.area.cell; rw [ho, hn0, hc0] at this; exact this) W1 hs0 hb0
      refine hr.mono ?_
      rintro e W' ⟨h1, (⟨s, h2, h3⟩ | h3)⟩
      · exact ⟨h1, .inl ⟨s, by rw [h2, hn0, ha], h3⟩⟩
      · exact ⟨h1, .inr h3⟩
    · exact frames1_br 5 (by omega) (w5.heap.size + 1) (w2.heap.size + 2) blk o n cap a HL.out HBY.out hn (fun s W => ∃ v ns' zx last, RpI w (.slice ta ns.length tc) w2.heap.size ao n cap (scn n a) start res s.length v ns' zx last W) Bk (RpX w (.slice ta ns.length tc) w2.heap.size (scn n a) res) BkX (fun s X Y hb ⟨v, ns', zx, last, h⟩ => ⟨v, ns', zx, last, h.later hb⟩) (fun X Y hb h => hBk X Y (below_keeps hb) h) (fun s W ⟨v, ns', zx, last, h⟩ => by rw [← ho]; exact ⟨h.area.cell, HR.out.below h.head.1⟩) hY' W1 hs0 hb0
  case done =>
    rintro D s W hD hfin ⟨v, ns', zx, last, hS⟩ hK
    obtain ⟨hH, hX, hO, hlow, hsz⟩ := (⟨hS.head, hS.out, hS.own, hS.low, hS.size⟩ : _ ∧ _ ∧ _ ∧ _ ∧ _)
    have hres : res = (ns', zx, s.length) := by
      have := hS.goes
      rw [hfin, List.drop_length, List.map_nil, rpl] at this
      rw [← this, hfin]
    clear hS hfin
    generalize s.length = k at *
    obtain ⟨va, vc, rfl⟩ := OwnN.slice9 hO
    have HO : Hid (OwnN 84 W (w.heap.size + 2) (.slice va ns'.length vc) ns') := hO
    have HH : Hid (RpS w (.slice ta ns.length tc) W) := hH
    have HRES9 : Hid (res = (ns', zx, k)) := hres
    have HKD : Hid (W.heap[D]? = some (.deferred (some []))) := hK
    have hB : Below w.heap.size w W := hH.1
    obtain ⟨zo, ⟨e0, e1, e2, e3⟩, -⟩ := hX
    obtain ⟨zr, ⟨d0, d1, d2, d3⟩, f0, f1, f2, f3⟩ := hH.2.2.2
    clear hO hH hres hK
    obtain ⟨ps, hps⟩ : ∃ ps, ps = pos (scn n a) k := ⟨_, rfl⟩
    rw [← hps] at e3
    have HPS : Hid (ps = pos (scn n a) k) := hps
    clear hps
    gi_wp2
    have hK2 : ((((W.setCell ⟨w.heap.size + 1, 0, none⟩ (.slice va ns'.length vc)).setCell ⟨w.heap.size + 1, 1, none⟩ (.int .i64 zx)).setCell ⟨w.heap.size + 1, 2, none⟩ (.int .i64 (k : Int))).setCell ⟨w.heap.size + 1, 3, none⟩ (.int .i64 (ps : Int))).heap[D]? = some (.deferred (some [])) := (KeepsOthers.setCell _ _ _).same D _ ((KeepsOthers.setCell _ _ _).same D _ ((KeepsOthers.setCell _ _ _).same D _ ((KeepsOthers.setCell _ _ _).same D _ HKD.out rfl) rfl) rfl) rfl
    refine ⟨by simp, .inl ⟨_, _, rfl, run_takeDeferred hK2, ?_⟩⟩
    have XB : B4F ((((W.setCell ⟨w.heap.size + 1, 0, none⟩ (.slice va ns'.length vc)).setCell ⟨w.heap.size + 1, 1, none⟩ (.int .i64 zx)).setCell ⟨w.heap.size + 1, 2, none⟩ (.int .i64 (k : Int))).setCell ⟨w.heap.size + 1, 3, none⟩ (.int .i64 (ps : Int))) (w.heap.size + 1) (.slice va ns'.length vc) (.int .i64 zx) (.int .i64 (k : Int)) (.int .i64 (ps : Int)) := (((HH.out.2.2.2.set0 _).set1 _).set2 _).set3 _
    have OX : OwnN 84 ((((W.setCell ⟨w.heap.size + 1, 0, none⟩ (.slice va ns'.length vc)).setCell ⟨w.heap.size + 1, 1, none⟩ (.int .i64 zx)).setCell ⟨w.heap.size + 1, 2, none⟩ (.int .i64 (k : Int))).setCell ⟨w.heap.size + 1, 3, none⟩ (.int .i64 (ps : Int))) (w.heap.size + 2) (.slice va ns'.length vc) ns' := (((HO.out.setBelow (show w.heap.size + 1 < w.heap.size + 2 by omega) _).setBelow (show w.heap.size + 1 < w.heap.size + 2 by omega) _).setBelow (show w.heap.size + 1 < w.heap.size + 2 by omega) _).setBelow (show w.heap.size + 1 < w.heap.size + 2 by omega) _
    have BX : Below w.heap.size w ((((W.setCell ⟨w.heap.size + 1, 0, none⟩ (.slice va ns'.length vc)).setCell ⟨w.heap.size + 1, 1, none⟩ (.int .i64 zx)).setCell ⟨w.heap.size + 1, 2, none⟩ (.int .i64 (k : Int))).setCell ⟨w.heap.size + 1, 3, none⟩ (.int .i64 (ps : Int))) := (((hB.setCell (by simp) _).setCell (by simp) _).setCell (by simp) _).setCell (by simp) _
    have SX : ((((W.setCell ⟨w.heap.size + 1, 0, none⟩ (.slice va ns'.length vc)).setCell ⟨w.heap.size + 1, 1, none⟩ (.int .i64 zx)).setCell ⟨w.heap.size + 1, 2, none⟩ (.int .i64 (k : Int))).setCell ⟨w.heap.size + 1, 3, none⟩ (.int .i64 (ps : Int))).heap.size = W.heap.size := by simp
    generalize ((((W.setCell ⟨w.heap.size + 1, 0, none⟩ (.slice va ns'.length vc)).setCell ⟨w.heap.size + 1, 1, none⟩ (.int .i64 zx)).setCell ⟨w.heap.size + 1, 2, none⟩ (.int .i64 (k : Int))).setCell ⟨w.heap.size + 1, 3, none⟩ (.int .i64 (ps : Int))) = X at *
    have GX := grownBy_putObj' X D (.deferred none)
    have hDw : w.heap.size + 1 < D := by omega
    have YB := XB.other GX (by simp; omega)
    have OF : OwnN 84 (X.putObj D (.deferred none)) (w.heap.size + 2) (.slice va ns'.length vc) ns' := OX.notCells GX (fun r e => by injection e with e; subst e; exact ⟨_, hK2, rfl⟩)
    have BF : Below w.heap.size w (X.putObj D (.deferred none)) := BX.grown GX (by omega) (fun q e => by injection e with e; omega)
    generalize X.putObj D (.deferred none) = Z at *
    obtain ⟨-, ⟨y0, y1, y2, y3⟩, -⟩ := YB
    refine ⟨.agg #[.slice va ns'.length vc, .int .i64 zx, .int .i64 (k : Int), .int .i64 (ps : Int)], ?_, ?_⟩
    · simp [results, Tryd.results25, go_sem, y0, y1, y2, y3]
    · rw [HRES9.out, HPS.out]
      exact ⟨_, rfl, OF.mono (by omega), BF⟩
  case stop =>
    rintro D W hD ⟨v, ns', zx, k, hH, hX, hO, hres, hlow, hsz⟩ hK
    obtain ⟨va, vc, rfl⟩ := OwnN.slice9 hO
    have HO : Hid (OwnN 84 W (w.heap.size + 2) (.slice va ns'.length vc) ns') := hO
    have HH : Hid (RpS w (.slice ta ns.length tc) W) := hH
    have HRES9 : Hid (res = (ns', zx, k)) := hres
    have HKD : Hid (W.heap[D]? = some (.deferred (some []))) := hK
    have hB : Below w.heap.size w W := hH.1
    obtain ⟨zo, ⟨e0, e1, e2, e3⟩, -⟩ := hX
    obtain ⟨zr, ⟨d0, d1, d2, d3⟩, f0, f1, f2, f3⟩ := hH.2.2.2
    clear hO hH hres hK
    obtain ⟨ps, hps⟩ : ∃ ps, ps = pos (scn n a) k := ⟨_, rfl⟩
    rw [← hps] at e3
    have HPS : Hid (ps = pos (scn n a) k) := hps
    clear hps
    gi_wp2
    have hK2 : ((((W.setCell ⟨w.heap.size + 1, 0, none⟩ (.slice va ns'.length vc)).setCell ⟨w.heap.size + 1, 1, none⟩ (.int .i64 zx)).setCell ⟨w.heap.size + 1, 2, none⟩ (.int .i64 (k : Int))).setCell ⟨w.heap.size + 1, 3, none⟩ (.int .i64 (ps : Int))).heap[D]? = some (.deferred (some [])) := (KeepsOthers.setCell _ _ _).same D _ ((KeepsOthers.setCell _ _ _).same D _ ((KeepsOthers.setCell _ _ _).same D _ ((KeepsOthers.setCell _ _ _).same D _ HKD.out rfl) rfl) rfl) rfl
    refine ⟨by simp, .inl ⟨_, _, rfl, run_takeDeferred hK2, ?_⟩⟩
    have XB : B4F ((((W.setCell ⟨w.heap.size + 1, 0, none⟩ (.slice va ns'.length vc)).setCell ⟨w.heap.size + 1, 1, none⟩ (.int .i64 zx)).setCell ⟨w.heap.size + 1, 2, none⟩ (.int .i64 (k : Int))).setCell ⟨w.heap.size + 1, 3, none⟩ (.int .i64 (ps : Int))) (w.heap.size + 1) (.slice va ns'.length vc) (.int .i64 zx) (.int .i64 (k : Int)) (.int .i64 (ps : Int)) := (((HH.out.2.2.2.set0 _).set1 _).set2 _).set3 _
    have OX : OwnN 84 ((((W.setCell ⟨w.heap.size + 1, 0, none⟩ (.slice va ns'.length vc)).setCell ⟨w.heap.size + 1, 1, none⟩ (.int .i64 zx)).setCell ⟨w.heap.size + 1, 2, none⟩ (.int .i64 (k : Int))).setCell ⟨w.heap.size + 1, 3, none⟩ (.int .i64 (ps : Int))) (w.heap.size + 2) (.slice va ns'.length vc) ns' := (((HO.out.setBelow (show w.heap.size + 1 < w.heap.size + 2 by omega) _).setBelow (show w.heap.size + 1 < w.heap.size + 2 by omega) _).setBelow (show w.heap.size + 1 < w.heap.size + 2 by omega) _).setBelow (show w.heap.size + 1 < w.heap.size + 2 by omega) _
    have BX : Below w.heap.size w ((((W.setCell ⟨w.heap.size + 1, 0, none⟩ (.slice va ns'.length vc)).setCell ⟨w.heap.size + 1, 1, none⟩ (.int .i64 zx)).setCell ⟨w.heap.size + 1, 2, none⟩ (.int .i64 (k : Int))).setCell ⟨w.heap.size + 1, 3, none⟩ (.int .i64 (ps : Int))) := (((hB.setCell (by simp) _).setCell (by simp) _).setCell (by simp) _).setCell (by simp) _
    have SX : ((((W.setCell ⟨w.heap.size + 1, 0, none⟩ (.slice va ns'.length vc)).setCell ⟨w.heap.size + 1, 1, none⟩ (.int .i64 zx)).setCell ⟨w.heap.size + 1, 2, none⟩ (.int .i64 (k : Int))).setCell ⟨w.heap.size + 1, 3, none⟩ (.int .i64 (ps : Int))).heap.size = W.heap.size := by simp
    generalize ((((W.setCell ⟨w.heap.size + 1, 0, none⟩ (.slice va ns'.length vc)).setCell ⟨w.heap.size + 1, 1, none⟩ (.int .i64 zx)).setCell ⟨w.heap.size + 1, 2, none⟩ (.int .i64 (k : Int))).setCell ⟨w.heap.size + 1, 3, none⟩ (.int .i64 (ps : Int))) = X at *
    have GX := grownBy_putObj' X D (.deferred none)
    have hDw : w.heap.size + 1 < D := by omega
    have YB := XB.other GX (by simp; omega)
    have OF : OwnN 84 (X.putObj D (.deferred none)) (w.heap.size + 2) (.slice va ns'.length vc) ns' := OX.notCells GX (fun r e => by injection e with e; subst e; exact ⟨_, hK2, rfl⟩)
    have BF : Below w.heap.size w (X.putObj D (.deferred none)) := BX.grown GX (by omega) (fun q e => by injection e with e; omega)
    generalize X.putObj D (.deferred none) = Z at *
    obtain ⟨-, ⟨y0, y1, y2, y3⟩, -⟩ := YB
    refine ⟨.agg #[.slice va ns'.length vc, .int .i64 zx, .int .i64 (k : Int), .int .i64 (ps : Int)], ?_, ?_⟩
    · simp [results, Tryd.results25, go_sem, y0, y1, y2, y3]
    · rw [HRES9.out, HPS.out]
      exact ⟨_, rfl, OF.mono (by omega), BF⟩

end Go.Proofs.YtmgolinleiahpaaDoor

namespace Go.Proofs.YtmgolinleiahpaaDoor
open Go.RowKit Go.Shelf

/-- Is there a replay? -/
def rpOk (ns : List Nd) (start : Int) (n : Nat) : Bool := okTree ns && okS start && decide (n ≤ 8192)
def rpR (ns : List Nd) (start : Int) (a : List Int) : List Nd × Int × Nat := if rpOk ns start a.length then rpl start 0 ((scn a.length a).map (·.1)) ns start 0 else ([], 0, 0)
def rpE (ns : List Nd) (start : Int) (a : List Int) : Int := if rpOk ns start a.length then ((pos (scn a.length a) (rpR ns start a).2.2 : Nat) : Int) else 0
/-- What Replay answers. -/
def RqPost (w : World) (ns : List Nd) (start : Int) (a : List Int) (e : Ending) (w' : World) : Prop :=
  ∃ va vc, e = .returned (.agg #[.slice va (rpR ns start a).1.length vc, .int .i64 (rpR ns start a).2.1, .int .i64 (((rpR ns start a).2.2 : Nat) : Int), .int .i64 (rpE ns start a)]) ∧ OwnN 84 w' w.heap.size (.slice va (rpR ns start a).1.length vc) (rpR ns start a).1 ∧ Below w.heap.size w w'
theorem rq_yes {w w' : World} {ns : List Nd} {start : Int} {a : List Int} {e : Ending} (hok : rpOk ns start a.length = true) (h : RpPost w (scn a.length a) (rpl start 0 ((scn a.length a).map (·.1)) ns start 0) e w') : RqPost w ns start a e w' := by
  have e1 : rpR ns start a = rpl start 0 ((scn a.length a).map (·.1)) ns start 0 := if_pos hok
  have e2 : rpE ns start a = ((pos (scn a.length a) (rpR ns start a).2.2 : Nat) : Int) := if_pos hok
  obtain ⟨v, rfl, o, b⟩ := h
  rw [← e1] at o ⊢
  obtain ⟨va, vc, rfl⟩ := OwnN.slice9 o
  exact ⟨va, vc, by rw [e2], o, b⟩
theorem rq_no {w w' : World} {ns : List Nd} {start : Int} {a : List Int} {e : Ending} (hok : rpOk ns start a.length = false) (h : e = .returned (.agg #[.slice none 0 0, .int .i64 0, .int .i64 0, .int .i64 0]) ∧ Below w.heap.size w w') : RqPost w ns start a e w' := by
  have e1 : rpR ns start a = ([], 0, 0) := if_neg (by rw [hok]; simp)
  have e2 : rpE ns start a = 0 := if_neg (by rw [hok]; simp)
  unfold RqPost
  rw [e1, e2]
  exact ⟨none, 0, h.1, World.ownsRow_nil _ _ _ _, h.2⟩
theorem rpR_sz {ns : List Nd} {start : Int} {a : List Int} : (rpR ns start a).1.length ≤ 2000 ∧ Good (rpR ns start a).1 := by
  have key : ∀ (R : List (List Int)) (k : Nat) (ns : List Nd) (zx last : Int), ns.length ≤ 1000 → Good ns → (rpl start k R ns zx last).1.length ≤ 2000 ∧ Good (rpl start k R ns zx last).1 := by
    intro R
    induction R with
    | nil => intro k ns zx last h1 h2; exact ⟨by simp only [rpl]; omega, by simp only [rpl]; exact h2⟩
    | cons p R ih =>
      intro k ns zx last h1 h2
      rw [rpl]
      split
      · exact ⟨by simp only; omega, h2⟩
      · rename_i z es hd
        generalize (if k = 0 then decide (start + 1 < z) else decide (z ≠ last + 1)) = c
        split
        · exact ⟨by simp only; omega, h2⟩
        · split
          · split
            · exact ⟨by simp only; omega, h2⟩
            · exact ih _ _ _ _ (by omega) (good_resA h2 (decX_ok hd))
          · exact ih _ _ _ _ h1 h2
  unfold rpR
  split
  · rename_i h
    unfold rpOk at h
    simp only [Bool.and_eq_true] at h
    refine key _ _ _ _ _ ?_ (good_tree h.1.1)
    have h3 := h.1.1
    unfold okTree at h3
    simp only [Bool.and_eq_true, decide_eq_true_eq] at h3
    exact h3.1
  · exact ⟨by simp, fun n hn => by simp at hn⟩

set_option maxHeartbeats 1000000 in
set_option maxRecDepth 100000 in
theorem specReplay_no (w : World) (ta : Option Addr) (tc : Nat) (ns : List Nd) (start : Int) (ao : Option Addr) (n cap : Nat) (ht : RdN w (.slice ta ns.length tc) ns) (hn : ns.length ≤ 1048576) (hsz : ∀ i, (nAt ns i).path.size ≤ 1048576 ∧ (nAt ns i).data.size ≤ 1048576) (hm : n ≤ 1048576) (hno : rpOk ns start n = false) :
    Calls Tryd.prog 22 #[.agg #[.slice ta ns.length tc], .int .i64 start, .slice ao n cap] w fun e w' => e = .returned (.agg #[.slice none 0 0, .int .i64 0, .int .i64 0, .int .i64 0]) ∧ Below w.heap.size w w' := by
  have HN : Hid (RdN w (.slice ta ns.length tc) ns) := ht
  have HSZ : Hid (∀ i, (nAt ns i).path.size ≤ 1048576 ∧ (nAt ns i).data.size ≤ 1048576) := hsz
  have HNO : Hid (rpOk ns start n = false) := hno
  clear ht hsz hno
  go_enter Tryd.func22, Tryd.ntmps22
  go_wp2_with fail
  have F0 : Hid (RpS w (.slice ta ns.length tc) ((w.alloc (.cells #[.slice ta ns.length tc] 36)).alloc (.cells #[.slice none 0 0, .int .i64 0, .int .i64 0, .int .i64 0] 53))) := RpS.new _ _ _ _
  generalize (w.alloc (.cells #[.slice ta ns.length tc] 36)).alloc (.cells #[.slice none 0 0, .int .i64 0, .int .i64 0, .int .i64 0] 53) = w0 at *
  refine (specTree_any _ _ ns (HN.out.below F0.out.1) hn HSZ.out).mono ?_
  rintro e w1 ⟨rfl, b1⟩
  have F1 : Hid (RpS w (.slice ta ns.length tc) w1) := F0.out.below b1
  clear b1 F0
  obtain ⟨zr, ⟨d0, d1, d2, d3⟩, f0, f1, f2, f3⟩ := F1.out.2.2.2
  cases hT : okTree ns with
  | false =>
    clear hT
    go_wp2
    refine bodyPost_ret (v := .agg #[.slice none 0 0, .int .i64 0, .int .i64 0, .int .i64 0]) (by simp [results, Tryd.results22, go_sem, d0, d1, d2, d3]) rfl ⟨rfl, ?_⟩
    repeat (first | exact F1.out.1 | refine Below.setCell ?_ (by simp) _)
  | true =>
    have HT : Hid (okTree ns = true) := hT
    clear hT
    go_wp2_with fail
    refine (stat_any _ start).mono ?_
    rintro e wq ⟨rfl, hwq⟩
    rw [hwq]
    clear hwq
    obtain ⟨b, hb⟩ : ∃ b, b = okS start := ⟨_, rfl⟩
    rw [← hb]
    have HB : Hid (okS start = b) := hb.symm
    clear hb
    cases b with
    | false =>
      go_wp2
      refine bodyPost_ret (v := .agg #[.slice none 0 0, .int .i64 0, .int .i64 0, .int .i64 0]) (by simp [results, Tryd.results22, go_sem, d0, d1, d2, d3]) rfl ⟨rfl, ?_⟩
      repeat (first | exact F1.out.1 | refine Below.setCell ?_ (by simp) _)
    | true =>
      have hbig : ¬ n ≤ 8192 := fun h => by
        have h2 := HNO.out
        unfold rpOk at h2
        rw [HT.out, HB.out, decide_eq_true h] at h2
        cases h2
      have hbI : (8192 : Int) < (n : Int) := by omega
      have hbD : decide ((8192 : Int) < (n : Int)) = true := by simpa using hbI
      clear hbig
      go_wp2
      refine bodyPost_ret (v := .agg #[.slice none 0 0, .int .i64 0, .int .i64 0, .int .i64 0]) (by simp [results, Tryd.results22, go_sem, d0, d1, d2, d3]) rfl ⟨rfl, ?_⟩
      repeat (first | exact F1.out.1 | refine Below.setCell ?_ (by simp) _)

set_option maxHeartbeats 1000000 in
set_option maxRecDepth 100000 in
theorem implReplay_no (w : World) (ta : Option Addr) (tc : Nat) (ns : List Nd) (start : Int) (ao : Option Addr) (n cap : Nat) (ht : RdN w (.slice ta ns.length tc) ns) (_hn : ns.length ≤ 1048576) (hsz : ∀ i, (nAt ns i).path.size ≤ 1048576 ∧ (nAt ns i).data.size ≤ 1048576) (hm : n ≤ 1048576) (hno : rpOk ns start n = false) :
    Calls Tryd.prog 25 #[.agg #[.slice ta ns.length tc], .int .i64 start, .slice ao n cap] w fun e w' => e = .returned (.agg #[.slice none 0 0, .int .i64 0, .int .i64 0, .int .i64 0]) ∧ Below w.heap.size w w' := by
  have HN : Hid (RdN w (.slice ta ns.length tc) ns) := ht
  have HSZ : Hid (∀ i, (nAt ns i).path.size ≤ 1048576 ∧ (nAt ns i).data.size ≤ 1048576) := hsz
  have HNO : Hid (rpOk ns start n = false) := hno
  clear ht hsz hno
  go_enter Tryd.func25, Tryd.ntmps25
  go_wp2_with fail
  have F0 : Hid (RpS w (.slice ta ns.length tc) ((w.alloc (.cells #[.slice ta ns.length tc] 36)).alloc (.cells #[.slice none 0 0, .int .i64 0, .int .i64 0, .int .i64 0] 53))) := RpS.new _ _ _ _
  generalize (w.alloc (.cells #[.slice ta ns.length tc] 36)).alloc (.cells #[.slice none 0 0, .int .i64 0, .int .i64 0, .int .i64 0] 53) = w0 at *
  refine (implTree_any _ _ ns (HN.out.below F0.out.1) HSZ.out).mono ?_
  rintro e w1 ⟨rfl, b1⟩
  have F1 : Hid (RpS w (.slice ta ns.length tc) w1) := F0.out.below b1
  clear b1 F0
  obtain ⟨zr, ⟨d0, d1, d2, d3⟩, f0, f1, f2, f3⟩ := F1.out.2.2.2
  cases hT : okTree ns with
  | false =>
    clear hT
    go_wp2
    refine bodyPost_ret (v := .agg #[.slice none 0 0, .int .i64 0, .int .i64 0, .int .i64 0]) (by simp [results, Tryd.results25, go_sem, d0, d1, d2, d3]) rfl ⟨rfl, ?_⟩
    repeat (first | exact F1.out.1 | refine Below.setCell ?_ (by simp) _)
  | true =>
    have HT : Hid (okTree ns = true) := hT
    clear hT
    go_wp2_with fail
    refine (implStat_any _ start).mono ?_
    rintro e wq ⟨rfl, hwq⟩
    rw [hwq]
    clear hwq
    obtain ⟨b, hb⟩ : ∃ b, b = okS start := ⟨_, rfl⟩
    rw [show decide (0 ≤ start ∧ start ≤ 2147483647) = b by rw [hb]; unfold okS; rw [Bool.decide_and]]
    have HB : Hid (okS start = b) := hb.symm
    clear hb
    cases b with
    | false =>
      go_wp2
      refine bodyPost_ret (v := .agg #[.slice none 0 0, .int .i64 0, .int .i64 0, .int .i64 0]) (by simp [results, Tryd.results25, go_sem, d0, d1, d2, d3]) rfl ⟨rfl, ?_⟩
      repeat (first | exact F1.out.1 | refine Below.setCell ?_ (by simp) _)
    | true =>
      have hbig : ¬ n ≤ 8192 := fun h => by
        have h2 := HNO.out
        unfold rpOk at h2
        rw [HT.out, HB.out, decide_eq_true h] at h2
        cases h2
      have hbI : (8192 : Int) < (n : Int) := by omega
      have hbD : decide ((8192 : Int) < (n : Int)) = true := by simpa using hbI
      clear hbig
      go_wp2
      refine bodyPost_ret (v := .agg #[.slice none 0 0, .int .i64 0, .int .i64 0, .int .i64 0]) (by simp [results, Tryd.results25, go_sem, d0, d1, d2, d3]) rfl ⟨rfl, ?_⟩
      repeat (first | exact F1.out.1 | refine Below.setCell ?_ (by simp) _)

theorem specReplay_any (w : World) (ta : Option Addr) (tc : Nat) (ns : List Nd) (start : Int) (ao : Option Addr) (cap : Nat) (a : List Int) (ht : RdN w (.slice ta ns.length tc) ns) (hn : ns.length ≤ 1048576) (hsz : ∀ i, (nAt ns i).path.size ≤ 1048576 ∧ (nAt ns i).data.size ≤ 1048576) (hr : Rd .u8 w (.slice ao a.length cap) a) (hby : Byt a) (hm : a.length ≤ 1048576) :
    Calls Tryd.prog 22 #[.agg #[.slice ta ns.length tc], .int .i64 start, .slice ao a.length cap] w (RqPost w ns start a) := by
  cases h : rpOk ns start a.length with
  | true =>
    have h2 := h
    unfold rpOk at h2
    simp only [Bool.and_eq_true, decide_eq_true_eq] at h2
    exact (specReplay_yes w ta tc ns start ao a.length cap a ht h2.1.1 h2.1.2 hr rfl hby h2.2).mono (fun e w' hp => rq_yes h hp)
  | false => exact (specReplay_no w ta tc ns start ao a.length cap ht hn hsz hm h).mono (fun e w' hp => rq_no h hp)
theorem implReplay_any (w : World) (ta : Option Addr) (tc : Nat) (ns : List Nd) (start : Int) (ao : Option Addr) (cap : Nat) (a : List Int) (ht : RdN w (.slice ta ns.length tc) ns) (hn : ns.length ≤ 1048576) (hsz : ∀ i, (nAt ns i).path.size ≤ 1048576 ∧ (nAt ns i).data.size ≤ 1048576) (hr : Rd .u8 w (.slice ao a.length cap) a) (hby : Byt a) (hm : a.length ≤ 1048576) (hform : (ao = none ∧ a.length = 0 ∧ cap = 0) ∨ ∃ blk o, ao = some ⟨blk, o, none⟩) :
    Calls Tryd.prog 25 #[.agg #[.slice ta ns.length tc], .int .i64 start, .slice ao a.length cap] w (RqPost w ns start a) := by
  cases h : rpOk ns start a.length with
  | true =>
    have h2 := h
    unfold rpOk at h2
    simp only [Bool.and_eq_true, decide_eq_true_eq] at h2
    exact (implReplay_yes w ta tc ns start ao a.length cap a ht h2.1.1 h2.1.2 hr rfl hby h2.2 hform).mono (fun e w' hp => rq_yes h hp)
  | false => exact (implReplay_no w ta tc ns start ao a.length cap ht hn hsz hm h).mono (fun e w' hp => rq_no h hp)

end Go.Proofs.YtmgolinleiahpaaDoor

