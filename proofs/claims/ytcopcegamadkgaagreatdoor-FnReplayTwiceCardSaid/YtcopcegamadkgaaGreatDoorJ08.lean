import Derived.Test.YtcopcegamadkgaaGreatDoorJ06
import Derived.Test.YtcopcegamadkgaaGreatDoorJ07
import Derived.Test.YtcopcegamadkgaaGreatDoorJ03
import Derived.Test.YtcopcegamadkgaaGreatDoorJ01
import Derived.Lib.AppendZeros
import Derived.Lib.AppendStr
import Derived.Test.YtcopcegamadkgaaGreatDoorJ02
import Derived.Test.YtcopcegamadkgaaGreatDoorRows
import Derived.Deep.RegionWith
import Derived.Deep.RegionLaw
import Derived.Laws.Cover3
import Derived.Deep.MidRow
import Derived.Laws.CopyOwn
import Derived.Deep.AppendLies
import Derived.Great.BuildSlice
import Derived.Maps.OwnSet
import Derived.Deep.RegionHeld3
import Derived.BigRegion
import Derived.RangeFuncNested
import Derived.RangeFuncLeaves
import Derived.Shelf.Abstract
import Derived.OwnWalkIn
import Derived.TacticsInMore
import Derived.LoopNIn
import Derived.LoopIn
set_option maxRecDepth 100000
set_option maxHeartbeats 16000000
namespace Go.Proofs.YtcopcegamadkgaaGreatDoor
open Go.RowKit Go.Shelf
def NilOk (v : Value) : Prop := ∀ n c, v = .slice none n c → n = 0 ∧ c = 0
theorem OwnN.nilOk {e : TypeId} {w : World} {lo : Nat} {v : Value} {ns : List Nd} (h : OwnN e w lo v ns) : NilOk v := by
 intro n c hv
 rcases h.2 with ⟨rfl, _⟩ | ⟨g, cap, cur, rfl, _⟩
 · simp only [Value.slice.injEq, true_and] at hv
   exact ⟨hv.1.symm, hv.2.symm⟩
 · simp at hv
theorem nrow_take {R : List Nd} {L j : Nat} {u : Value} (h : (nrow (R.take L))[j]? = some u) : (nrow R)[j]? = some u := by
 have e : nrow R = nrow (R.take L) ++ nrow (R.drop L) := by rw [← nrow_append, List.take_append_drop]
 rw [e, List.getElem?_append_left (List.getElem?_eq_some_iff.1 h).1]
 exact h
theorem RdN.rowCells {w : World} {ao : Option Addr} {c : Nat} {R : List Nd} (h : RdN w (.slice ao R.length c) R) : ∀ ad, ao = some ad → ∀ j u, (nrow R)[j]? = some u → w.cell? (ad.add j) = some u := by
 obtain ⟨ao', c', e, -, -, h3⟩ := h
 simp only [Value.slice.injEq] at e
 obtain ⟨rfl, -, rfl⟩ := e
 intro ad had j u hu
 rcases h3 with rfl | ⟨b, o, rfl, hb, hc⟩
 · simp [nrow] at hu
 · obtain rfl := Option.some.inj had
   have hj : j < R.length * 7 := by have := (List.getElem?_eq_some_iff.1 hu).1; rw [nrow_length] at this; exact this
   have h7 : j % 7 < 7 := Nat.mod_lt _ (by decide)
   have hr := nrow_get R (j / 7) (j % 7) (by omega) h7
   rw [show j / 7 * 7 + j % 7 = j by omega, hu] at hr
   have hcc := hc (j / 7) (by omega)
   rw [Addr.add_lit]
   have e : o + j = o + j / 7 * 7 + j % 7 := by omega
   rw [e]
   clear e hu hj
   generalize j % 7 = r at *
   match r, h7 with
   | 0, _ => rw [Nat.add_zero, hcc.c0]; exact hr.symm
   | 1, _ => rw [hcc.c1]; exact hr.symm
   | 2, _ => rw [hcc.c2]; exact hr.symm
   | 3, _ => rw [hcc.c3]; exact hr.symm
   | 4, _ => rw [hcc.c4]; exact hr.symm
   | 5, _ => rw [hcc.c5]; exact hr.symm
   | 6, _ => rw [hcc.c6]; exact hr.symm
theorem ndL_ones (R : List Nd) : ∀ u ∈ nrow R, u.oneCell' = true := by
 intro u hu
 unfold nrow at hu
 obtain ⟨n, _, hn⟩ := List.mem_flatMap.1 hu
 exact ndL_one n u hn
theorem run_head (ao : Option Addr) (n c L : Nat) (h1 : L ≤ n) (h2 : n ≤ c) (W : World) : (Instr.slice 23 (.slice ao n c) none (some (.int .i64 (L : Int))) none).run Tryz.prog W = .ok (.slice ao L c) W := by
 have h : (0 : Int) ≤ (L : Int) := by omega
 have h' : (L : Int) ≤ (c : Int) := by omega
 have he : Tryz.prog.elem 23 = 85 := by kernel_rfl
 rw [run_slice_h W 23 ao n c (by rw [he]; exact Tryz.underlying23) .i64 (L : Int) h h', he]
 go_simp
theorem run_tail (ao : Option Addr) (n c L : Nat) (h1 : L ≤ n) (W : World) : (Instr.slice 23 (.slice ao n c) (some (.int .i64 (L : Int))) none none).run Tryz.prog W = .ok (.slice (if c = L then ao else ao.map (·.add (L * 7))) (n - L) (c - L)) W := by
 have h : (0 : Int) ≤ (L : Int) := by omega
 have h' : (L : Int) ≤ (n : Int) := by omega
 have he : Tryz.prog.elem 23 = 85 := by kernel_rfl
 rw [run_slice_l W 23 ao n c (by rw [he]; exact Tryz.underlying23) .i64 (L : Int) h h', he]
 go_simp
theorem slice_tail {w : World} {ao : Option Addr} {c : Nat} {R : List Nd} (h : RdN w (.slice ao R.length c) R) (hn : NilOk (.slice ao R.length c)) (L : Nat) (hL : L ≤ R.length) :
    ∃ a2, (∀ W, (Instr.slice 23 (.slice ao R.length c) (some (.int .i64 (L : Int))) none none).run Tryz.prog W = .ok (.slice a2 (R.length - L) (c - L)) W) ∧ RdN w (.slice a2 (R.length - L) (c - L)) (R.drop L) ∧ NilOk (.slice a2 (R.length - L) (c - L)) := by
 obtain ⟨ao', c', e, h1, h2, h3⟩ := h
 simp only [Value.slice.injEq] at e
 obtain ⟨rfl, -, rfl⟩ := e
 refine ⟨if c = L then ao else ao.map (·.add (L * 7)), run_tail ao _ c L hL, ⟨_, _, by rw [List.length_drop], by rw [List.length_drop]; omega, by omega, ?_⟩, ?_⟩
 · rcases h3 with rfl | ⟨b, o, rfl, hb, hc⟩
   · exact .inl (by simp)
   · by_cases hcl : c = L
     · exact .inl (List.drop_eq_nil_of_le (by omega))
     · refine .inr ⟨b, o + L * 7, by rw [if_neg hcl, Option.map_some, Addr.add_lit], hb, fun i hi => ?_⟩
       rw [List.length_drop] at hi
       have := hc (L + i) (by omega)
       have e1 : nAt (R.drop L) i = nAt R (L + i) := by unfold nAt; simp [List.getD]
       rw [e1, show o + L * 7 + i * 7 = o + (L + i) * 7 by omega]
       exact this
 · intro n' c2 hv
   simp only [Value.slice.injEq] at hv
   obtain ⟨ha, rfl, rfl⟩ := hv
   have hao : ao = none := by
    by_cases hcl : c = L
    · rw [if_pos hcl] at ha; exact ha
    · rw [if_neg hcl] at ha; simpa using ha
   subst hao
   have := hn _ _ rfl
   omega
theorem apI_rest (ns : List Nd) (es : List Ef) : (apI ns es).2.length ≤ ns.length := by
 have : ∀ (es : List Ef) (st : List Nd × List Nd), (es.foldl apS st).2.length ≤ st.2.length := by
  intro es
  induction es with
  | nil => exact fun st => Nat.le_refl _
  | cons e es ih =>
   intro st
   rw [List.foldl_cons]
   refine Nat.le_trans (ih _) ?_
   unfold apS
   rw [List.length_drop]
   omega
 exact this es ([], ns)
theorem BoxE.grown {w w' : World} {B g : Nat} {n : Ef} (h : BoxE w B n) (hg : w.grownBy w' (some g)) (hne : B ≠ g) : BoxE w' B n := by
 have e := hg.block B h.lt (by simpa using hne)
 have cc : ∀ i, w'.cell? ⟨B, i, none⟩ = w.cell? ⟨B, i, none⟩ := fun i => by simp [World.cell?, e]
 have hs : w.heap.size ≤ w'.heap.size := hg.size
 exact ⟨Nat.lt_of_lt_of_le h.lt hs, (cc _).trans h.c0, (cc _).trans h.c1, (cc _).trans h.c2, (cc _).trans h.c3, (cc _).trans h.c4, (cc _).trans h.c5, (cc _).trans h.c6, (cc _).trans h.c7⟩
structure ApS (w : World) (g C : Nat) (st : List Nd × List Nd) (v : Value) (z : Int) (vx : Value) (vo vr : Value) (W : World) : Prop where
 own : W.ownsRow (w.heap.size + 3) 85 7 vo st.1.length (nrow st.1)
 head : vo = .slice (some ⟨g, 0, none⟩) st.1.length C
 rest : RdN w vr st.2
 nil : NilOk vr
 below : Below w.heap.size w W
 box : ApB w.heap.size v z vx W
theorem implApply_any (w : World) (v : Value) (ns : List Nd) (z : Int) (vx : Value) (es : List Ef) (h : RdN w v ns) (hnil : NilOk v) (hx : RdE w vx es)
    (hsz : ∀ i, (nAt ns i).path.size ≤ 1048576 ∧ (nAt ns i).data.size ≤ 1048576) (hsx : ∀ i, (eAt es i).nd.path.size ≤ 1048576 ∧ (eAt es i).nd.data.size ≤ 1048576) :
    Calls Tryz.prog 98 #[.agg #[v], .agg #[.int .i64 z, vx]] w fun e w' => ∃ v', e = .returned (.agg #[v']) ∧ OwnN 85 w' w.heap.size v' (resA ns z es) ∧ Below w.heap.size w w' := by
 obtain ⟨i0, hi, hz0, hz1, hz2⟩ := info_parts Tryz.infoN
 obtain ⟨ao, ca, rfl, _, _⟩ := h.len
 obtain ⟨xo, cx, rfl, _, _⟩ := hx.len
 have HR : Hid (RdN w (.slice ao ns.length ca) ns) := h
 have HX : Hid (RdE w (.slice xo es.length cx) es) := hx
 have HN : Hid (NilOk (.slice ao ns.length ca)) := hnil
 have HZ : Hid (∀ i, (nAt ns i).path.size ≤ 1048576 ∧ (nAt ns i).data.size ≤ 1048576) := hsz
 have HZX : Hid (∀ i, (eAt es i).nd.path.size ≤ 1048576 ∧ (eAt es i).nd.data.size ≤ 1048576) := hsx
 have B0 : Hid (Below w.heap.size w (((w.alloc (.cells #[.slice ao ns.length ca] 25)).alloc (.cells #[.int .i64 z, .slice xo es.length cx] 78)).alloc (.cells #[.slice none 0 0] 25))) := (((Below.refl _ _).alloc (Nat.le_refl _) _).alloc (by simp) _).alloc (by simp; omega) _
 have X0 : Hid (ApB w.heap.size (.slice ao ns.length ca) z (.slice xo es.length cx) (((w.alloc (.cells #[.slice ao ns.length ca] 25)).alloc (.cells #[.int .i64 z, .slice xo es.length cx] 78)).alloc (.cells #[.slice none 0 0] 25))) := ApB.new _ _ _ _
 clear h hx hsz hsx hnil
 go_enter Tryz.func98, Tryz.ntmps98
 go_wp2_with fail
 generalize ((w.alloc (.cells #[.slice ao ns.length ca] 25)).alloc (.cells #[.int .i64 z, .slice xo es.length cx] 78)).alloc (.cells #[.slice none 0 0] 25) = w0 at *
 refine (implTree_any _ _ ns (HR.out.below B0.out) HZ.out).mono ?_
 rintro e w1 ⟨rfl, b1⟩
 have B1 := hd9 (B0.out.trans (b1.mono B0.out.size))
 have X1 := hd9 (X0.out.below b1 X0.out.size)
 clear b1 X0 B0
 by_cases hok : okTree ns = true
 rotate_left
 · have hok' : okTree ns = false := by simpa using hok
   have HT : Hid (resA ns z es = []) := by show _ = _; unfold resA; rw [hok']; rfl
   rw [hok']
   clear hok hok'
   have c0 := X1.out.r.cell
   have f0 := X1.out.r.frozen
   go_wp2
   refine bodyPost_ret (v := .agg #[.slice none 0 0]) (by simp [results, Tryz.results98, go_sem, c0]) rfl ⟨_, rfl, (by rw [HT.out]; exact World.ownsRow_nil _ _ _ _), ?_⟩
   repeat (first | exact B1.out | refine Below.setCell ?_ (by simp; try omega) _)
 rw [hok]
 have cx0 := X1.out.x.cells
 go_wp2_with fail
 clear cx0
 refine (implTxn_any _ _ _ es (HX.out.below B1.out) HZX.out).mono ?_
 rintro e w2 ⟨rfl, b2⟩
 have B2 := hd9 (B1.out.trans (b2.mono B1.out.size))
 have X2 := hd9 (X1.out.below b2 X1.out.size)
 clear b2 X1 B1
 by_cases hpp : okTxn z es = true
 rotate_left
 · have hpp' : okTxn z es = false := by simpa using hpp
   have HT : Hid (resA ns z es = []) := by show _ = _; unfold resA; rw [hpp']; simp
   rw [hpp']
   clear hpp hpp' hok
   have c0 := X2.out.r.cell
   have f0 := X2.out.r.frozen
   go_wp2
   refine bodyPost_ret (v := .agg #[.slice none 0 0]) (by simp [results, Tryz.results98, go_sem, c0]) rfl ⟨_, rfl, (by rw [HT.out]; exact World.ownsRow_nil _ _ _ _), ?_⟩
   repeat (first | exact B2.out | refine Below.setCell ?_ (by simp; try omega) _)
 have hn1 : ns.length ≤ 1000 := okTree_len hok
 have he1 : es.length ≤ 1000 := (okTxn_es hpp).2
 have HT : Hid (resA ns z es = apL ns es) := by show _ = _; unfold resA; rw [hok, hpp]; rfl
 have HA : Hid (Asc ns) := okTree_asc hok
 have HE : Hid (AscE es) := okEs_asc (okTxn_es hpp).1
 rw [hpp]
 clear hok hpp
 have ct := X2.out.t.cell
 obtain ⟨y0, y1⟩ := X2.out.x.cells
 have s2 := X2.out.size
 generalize hen : es.length = n at *
 have HP : Hid (es.length = n) := hen
 clear hen
 generalize hnn : ns.length = m at *
 have HM : Hid (ns.length = m) := hnn
 clear hnn
 go_wp2_with (at_make; go_must (refine wpList_make_own _ rfl _ _ 23 rfl (w.heap.size + 3) 85 i0 (.agg #[.string ByteArray.empty, .string ByteArray.empty, .int .i64 0, .int .i64 0, .int .i64 0, .int .i64 0, .int .i64 0]) 7 Tryz.underlying23 hi hz0 hz1 _ _ _ (m + n) rfl rfl ?c0 ?b2 ?b3 ?b4 ?_))
 case c0 => omega
 case b2 => rw [hz2]; omega
 case b3 => unfold maxLen; omega
 case b4 => exact s2
 intro w3 ho3 hg3
 have BG : Hid (Below w2.heap.size w2 w3) := (Below.refl _ _).grown hg3 (Nat.le_refl _) (fun q hq => by simp at hq)
 have S3 : Hid (ApS w w2.heap.size (m + n) (apI ns (es.take 0)) (.slice ao m ca) z (.slice xo n cx) (.slice (some ⟨w2.heap.size, 0, none⟩) 0 (m + n)) (.slice ao m ca) w3) := ⟨ho3, rfl, HR.out, HN.out, B2.out.trans (BG.out.mono B2.out.size), X2.out.below BG.out s2⟩
 clear ho3 hg3 BG ct y0 y1
 have ct := S3.out.box.t.cell
 obtain ⟨y0, y1⟩ := S3.out.box.x.cells
 generalize hg : w2.heap.size = g at *
 clear X2 B2 hg
 go_wp2
 go_loopw [5, 6, 33] (fun vo vr vk wr => ∃ k : Nat, k ≤ n ∧ vk = .int .i64 k ∧ Hid (ApS w g (m + n) (apI ns (es.take k)) (.slice ao m ca) z (.slice xo n cx) vo vr wr)) (fun _ _ i _ => n - (intOf i).toNat)
 case atStart => exact ⟨0, Nat.zero_le _, rfl, S3⟩
 case round =>
  clear ct y0 y1 S3
  obtain ⟨k, hk, rfl, HS⟩ := hrel
  obtain ⟨A, R, hAR⟩ : ∃ A R, apI ns (es.take k) = (A, R) := ⟨_, _, rfl⟩
  have hlen : A.length + R.length ≤ m + k := by
   have := apI_len ns es k
   rw [hAR, HM.out] at this
   exact this
  have hrl : R.length ≤ m := by
   have := apI_rest ns (es.take k)
   rw [hAR, HM.out] at this
   exact this
  have HAsc : Hid (Asc R) := by
   have := apI_asc HA.out (es.take k)
   rw [hAR] at this
   exact this
  have HAR : Hid (apI ns (es.take k) = (A, R)) := hAR
  rw [hAR] at HS
  clear hAR
  obtain ⟨OW0, hd0, RR0, NN0, HB0, HBX0⟩ := HS.out
  obtain ⟨ro, rc, h6, hr1, hr2⟩ := RR0.len
  have OW : Hid (OwnN 85 wr (w.heap.size + 3) (.slice (some ⟨g, 0, none⟩) A.length (m + n)) A) := by rw [hd0] at OW0; exact OW0
  have RR : Hid (RdN w (.slice ro R.length rc) R) := by rw [h6] at RR0; exact RR0
  have NN : Hid (NilOk (.slice ro R.length rc)) := by rw [h6] at NN0; exact NN0
  have HB : Hid (Below w.heap.size w wr) := HB0
  have HBX : Hid (ApB w.heap.size (.slice ao m ca) z (.slice xo n cx) wr) := HBX0
  have hr1' : R.length ≤ rc := hr1
  replace hd0 : u5 = .slice (some ⟨g, 0, none⟩) A.length (m + n) := hd0
  replace h6 : u6 = .slice ro R.length rc := h6
  subst hd0 h6
  clear OW0 RR0 NN0 HB0 HBX0 HS hr1 hr2
  have sB := HB.out.size
  have hgl : g < wr.heap.size := (World.ownsRow.lt OW.out g rfl).2
  by_cases hlt : k < n
  · have hltI : (k : Int) < (n : Int) := by omega
    obtain ⟨b, o, hao, hb, hc⟩ : ∃ b o, xo = some ⟨b, o, none⟩ ∧ b < w.heap.size ∧ CellsE w b (o + k * 8) (eAt es k) := by
     obtain ⟨ao', cap', e', -, -, h3⟩ := HX.out
     simp only [Value.slice.injEq] at e'
     obtain ⟨rfl, -, -⟩ := e'
     rcases h3 with h3 | ⟨b, o, rfl, hb, hc⟩
     · have := HP.out; rw [h3] at this; simp at this; omega
     · exact ⟨b, o, rfl, hb, hc k (by rw [HP.out]; exact hlt)⟩
    subst hao
    obtain ⟨c0, c1, c2, c3, c4, c5, c6, c7⟩ := hc.below HB.out hb
    clear hc
    have HS1 : Hid (apI ns (es.take (k + 1)) = apS (A, R) (eAt es k)) := by
     show _ = _
     rw [← HAR.out]
     exact apI_succ ns es k (by rw [HP.out]; exact hlt)
    clear HAR
    go_wp2_with fail
    clear c0 c1 c2 c3 c4 c5 c6 c7
    generalize eAt es k = f at *
    have BA : Hid (Below wr.heap.size wr (wr.alloc (.cells #[.bool f.del, .string f.nd.path, .string f.nd.data, .int .i64 f.nd.ver, .int .i64 f.nd.cver, .int .i64 f.nd.cz, .int .i64 f.nd.mz, .int .i64 f.nd.pz] 139))) := (Below.refl _ _).alloc (Nat.le_refl _) _
    have EX : Hid (BoxE (wr.alloc (.cells #[.bool f.del, .string f.nd.path, .string f.nd.data, .int .i64 f.nd.ver, .int .i64 f.nd.cver, .int .i64 f.nd.cz, .int .i64 f.nd.mz, .int .i64 f.nd.pz] 139)) wr.heap.size f) := BoxE.new _ _ _
    generalize wr.alloc (.cells #[.bool f.del, .string f.nd.path, .string f.nd.data, .int .i64 f.nd.ver, .int .i64 f.nd.cver, .int .i64 f.nd.cz, .int .i64 f.nd.mz, .int .i64 f.nd.pz] 139) = wA at *
    generalize hB : wr.heap.size = B at *
    have HG : Hid (B ≠ g) := by show _ ≠ _; omega
    have OWA := hd9 (OW.out.below (hB ▸ BA.out))
    have B1 := hd9 (HB.out.trans (BA.out.mono sB))
    have X1 := hd9 (HBX.out.below BA.out (by omega))
    clear OW HB HBX BA hB
    obtain ⟨L, hL⟩ : ∃ L, L = plc R f.nd.path := ⟨_, rfl⟩
    have hLR : L ≤ R.length := by rw [hL]; exact plc_le _ _
    have HLow : Hid (Low R f.nd.path L) := by rw [hL]; exact low_plc R _ HAsc.out
    have HS2 : Hid (apI ns (es.take (k + 1)) = (A ++ R.take L ++ (if f.del then [] else [f.nd]), R.drop (L + if fnd R f.nd.path L then 1 else 0))) := by
     show _ = _
     rw [HS1.out, hL]
     rfl
    have HF1 : Hid (fnd R f.nd.path L = true → L < R.length) := by
     intro hh
     unfold fnd at hh
     simp only [Bool.and_eq_true, decide_eq_true_eq] at hh
     exact hh.1
    clear HS1 hL
    refine (findNode_any wA _ R f.nd.path L (RR.out.below B1.out) (by omega) HLow.out).mono ?_
    rintro e w4 ⟨rfl, b4⟩
    have OW4 := hd9 (OWA.out.below b4)
    have B4 := hd9 (B1.out.trans (b4.mono B1.out.size))
    have X4 := hd9 (X1.out.below b4 X1.out.size)
    have E4 := hd9 (EX.out.below b4)
    clear b4 OWA B1 X1 EX
    have hs1 := run_head ro R.length rc L hLR hr1'
    go_wp2_with (at_builtin; go_must (refine wpList_append_fits_any _ rfl _ _ 23 rfl (w.heap.size + 3) 85 i0 7 Tryz.underlying23 hi hz1 g A.length (m + n) (nrow A) rfl OW4.out ro L rc (nrow (R.take L)) rfl ?n1 ?n2 ?n3 ?n4 ?n5 ?_))
    case n1 => rw [nrow_length, List.length_take]; omega
    case n2 => exact fun e => by have := NN.out R.length rc (by rw [e]); omega
    case n3 => exact fun ad had j u hu => (RR.out.below B4.out).rowCells ad had j u (nrow_take hu)
    case n4 => exact ndL_ones _
    case n5 => omega
    intro w5 ho5 hg5
    have OW5 : Hid (OwnN 85 w5 (w.heap.size + 3) (.slice (some ⟨g, 0, none⟩) (A.length + L) (m + n)) (A ++ R.take L)) := by
     show World.ownsRow _ _ _ _ _ _ _
     rw [List.length_append, List.length_take, Nat.min_eq_left hLR, nrow_append]
     exact ho5
    have B5 : Hid (Below w.heap.size w w5) := B4.out.grown hg5 B4.out.size (fun q hq => by simp only [Option.some.injEq] at hq; omega)
    have X5 : Hid (ApB w.heap.size (.slice ao m ca) z (.slice (some ⟨b, o, none⟩) n cx) w5) := X4.out.below ((Below.refl (w.heap.size + 3) w4).grown hg5 X4.out.size (fun q hq => by simp only [Option.some.injEq] at hq; omega)) (Nat.le_refl _)
    have E5 : Hid (BoxE w5 B f) := E4.out.grown hg5 HG.out
    have G5 : g < w5.heap.size := (World.ownsRow.lt OW5.out g rfl).2
    clear ho5 hg5 OW4 B4 X4 E4 hs1
    obtain ⟨a2, hs2, r2, n2⟩ := slice_tail RR.out NN.out L hLR
    have R2 : Hid (RdN w (.slice a2 (R.length - L) (rc - L)) (R.drop L)) := r2
    have N2 : Hid (NilOk (.slice a2 (R.length - L) (rc - L))) := n2
    clear r2 n2
    obtain ⟨e0, e1, e2, e3, e4, e5, e6, e7⟩ := E5.out.all
    obtain ⟨vr, Rn, hw⟩ : ∃ vr Rn, (Rn = R.drop (L + if fnd R f.nd.path L then 1 else 0) ∧ Hid (RdN w vr Rn) ∧ Hid (NilOk vr)) ∧ ((fnd R f.nd.path L = false ∧ vr = .slice a2 (R.length - L) (rc - L)) ∨ (fnd R f.nd.path L = true ∧ ∀ W, (Instr.slice 23 (.slice a2 (R.length - L) (rc - L)) (some (.int .i64 1)) none none).run Tryz.prog W = .ok vr W)) := by
     cases hf : fnd R f.nd.path L with
     | false => exact ⟨_, _, ⟨rfl, R2, N2⟩, .inl ⟨rfl, rfl⟩⟩
     | true =>
      have hl := HF1.out hf
      have R2' : RdN w (.slice a2 (R.drop L).length (rc - L)) (R.drop L) := by rw [List.length_drop]; exact R2.out
      have N2' : NilOk (.slice a2 (R.drop L).length (rc - L)) := by rw [List.length_drop]; exact N2.out
      obtain ⟨a3, hs3, r3, n3⟩ := slice_tail R2' N2' 1 (by rw [List.length_drop]; omega)
      rw [List.length_drop] at hs3 r3 n3
      rw [List.drop_drop] at r3
      exact ⟨_, _, ⟨rfl, r3, n3⟩, .inr ⟨rfl, hs3⟩⟩
    obtain ⟨⟨hRn, R3, N3⟩, hw⟩ := hw
    have HS3 : Hid (apI ns (es.take (k + 1)) = (A ++ R.take L ++ (if f.del then [] else [f.nd]), Rn)) := by rw [hRn]; exact HS2.out
    have HLT : Hid ((A ++ R.take L).length = A.length + L) := by show _ = _; rw [List.length_append, List.length_take, Nat.min_eq_left hLR]
    clear HS2 hRn
    cases hdel : f.del with
    | true =>
     rw [hdel] at e0
     have S9 : Hid (ApS w g (m + n) (apI ns (es.take (k + 1))) (.slice ao m ca) z (.slice (some ⟨b, o, none⟩) n cx) (.slice (some ⟨g, 0, none⟩) (A.length + L) (m + n)) vr w5) := by
      have e9 : apI ns (es.take (k + 1)) = (A ++ R.take L, Rn) := by rw [HS3.out, hdel]; simp
      rw [e9]
      exact ⟨OW5.out, by rw [HLT.out], R3.out, N3.out, B5.out, X5.out⟩
     clear HS3 HLT OW5 R3 N3 B5 X5 R2 N2
     rcases hw with ⟨hf, rfl⟩ | ⟨hf, hs3⟩
     · rw [hf]
       go_wp2
       exact ⟨⟨k + 1, by omega, by go_num, S9⟩, by simp [intOf]; omega⟩
     · rw [hf]
       go_wp2
       exact ⟨⟨k + 1, by omega, by go_num, S9⟩, by simp [intOf]; omega⟩
    | false =>
     rw [hdel] at e0
     have FIN : Hid (∀ w', w'.ownsRow (w.heap.size + 3) 85 7 (.slice (some ⟨g, 0, none⟩) (A.length + L + 1) (m + n)) (A.length + L + 1) (nrow (A ++ R.take L) ++ ndL f.nd) → ∀ t, (w5.alloc (.cells #[.string f.nd.path, .string f.nd.data, .int .i64 f.nd.ver, .int .i64 f.nd.cver, .int .i64 f.nd.cz, .int .i64 f.nd.mz, .int .i64 f.nd.pz] t)).grownBy w' (some g) → Hid (ApS w g (m + n) (apI ns (es.take (k + 1))) (.slice ao m ca) z (.slice (some ⟨b, o, none⟩) n cx) (.slice (some ⟨g, 0, none⟩) (A.length + L + 1) (m + n)) vr w')) := by
      intro w' how t hgw
      have e9 : apI ns (es.take (k + 1)) = (A ++ R.take L ++ [f.nd], Rn) := by rw [HS3.out, hdel]; simp
      have el : (A ++ R.take L ++ [f.nd]).length = A.length + L + 1 := by rw [List.length_append, HLT.out]; rfl
      rw [e9]
      have hb3 : Below (w.heap.size + 3) w5 w' := ((Below.refl (w.heap.size + 3) w5).alloc X5.out.size _).grown hgw (by have := X5.out.size; simp; omega) (fun q hq => by simp only [Option.some.injEq] at hq; omega)
      refine ⟨?_, ?_, R3.out, N3.out, B5.out.trans (hb3.mono (by omega)), X5.out.below hb3 (Nat.le_refl _)⟩
      · show World.ownsRow _ _ _ _ _ (A ++ R.take L ++ [f.nd]).length (nrow (A ++ R.take L ++ [f.nd]))
        rw [el, nrow_one]
        exact how
      · show _ = Value.slice _ (A ++ R.take L ++ [f.nd]).length _
        rw [el]
     have OR : Hid (w5.ownsRow (w.heap.size + 3) 85 7 (.slice (some ⟨g, 0, none⟩) (A.length + L) (m + n)) (A.length + L) (nrow (A ++ R.take L))) := by
      have := OW5.out
      unfold OwnN at this
      rw [HLT.out] at this
      exact this
     clear HS3 HLT OW5 R3 N3 R2 N2
     rcases hw with ⟨hf, rfl⟩ | ⟨hf, hs3⟩
     · rw [hf]
       go_wp2_with (at_builtin; go_must (refine wpList_append_fits _ rfl _ _ 23 rfl (w.heap.size + 3) 85 i0 7 Tryz.underlying23 hi hz1 g (A.length + L) (m + n) _ rfl (OR.out.alloc _) ⟨w5.heap.size, 0, none⟩ 1 1 (ndL f.nd) rfl rfl (ndL_cells w5 f.nd _) (ndL_one f.nd) ?q1 ?_))
       case q1 => omega
       intro w6 ho6 hg6
       have S9 := FIN.out w6 ho6 _ hg6
       clear FIN OR ho6 hg6 e0 e1 e2 e3 e4 e5 e6 e7
       go_wp2
       exact ⟨⟨k + 1, by omega, by go_num, S9⟩, by simp [intOf]; omega⟩
     · rw [hf]
       go_wp2_with (at_builtin; go_must (refine wpList_append_fits _ rfl _ _ 23 rfl (w.heap.size + 3) 85 i0 7 Tryz.underlying23 hi hz1 g (A.length + L) (m + n) _ rfl (OR.out.alloc _) ⟨w5.heap.size, 0, none⟩ 1 1 (ndL f.nd) rfl rfl (ndL_cells w5 f.nd _) (ndL_one f.nd) ?q2 ?_))
       case q2 => have := HF1.out hf; omega
       intro w6 ho6 hg6
       have S9 := FIN.out w6 ho6 _ hg6
       clear FIN OR ho6 hg6 e0 e1 e2 e3 e4 e5 e6 e7
       go_wp2
       exact ⟨⟨k + 1, by omega, by go_num, S9⟩, by simp [intOf]; omega⟩
  · have hkn : k = n := by omega
    subst hkn
    have HF : Hid (A ++ R = resA ns z es) := by
     have := apI_all HA.out HE.out HP.out
     rw [HAR.out] at this
     rw [HT.out]
     exact this
    clear HAR
    go_wp2_with (at_builtin; go_must (refine wpList_append_fits_any _ rfl _ _ 23 rfl (w.heap.size + 3) 85 i0 7 Tryz.underlying23 hi hz1 g A.length (m + k) (nrow A) rfl OW.out ro R.length rc (nrow R) rfl ?m1 ?m2 ?m3 ?m4 ?m5 ?_))
    case m1 => rw [nrow_length]
    case m2 => exact fun e => NN.out R.length rc (by rw [e])
    case m3 => exact fun ad had j u hu => (RR.out.below HB.out).rowCells ad had j u hu
    case m4 => exact ndL_ones _
    case m5 => omega
    intro w5 ho5 hg5
    have OW5 : Hid (OwnN 85 w5 (w.heap.size + 3) (.slice (some ⟨g, 0, none⟩) (A.length + R.length) (m + k)) (resA ns z es)) := by
     rw [← HF.out]
     show World.ownsRow _ _ _ _ _ _ _
     rw [List.length_append, nrow_append]
     exact ho5
    have B5 : Hid (Below w.heap.size w w5) := HB.out.grown hg5 HB.out.size (fun q hq => by simp only [Option.some.injEq] at hq; omega)
    have X5 : Hid (ApB w.heap.size (.slice ao m ca) z (.slice xo k cx) w5) := HBX.out.below ((Below.refl (w.heap.size + 3) wr).grown hg5 HBX.out.size (fun q hq => by simp only [Option.some.injEq] at hq; omega)) (Nat.le_refl _)
    clear ho5 hg5 OW HB HBX
    have c0 := X5.out.r.cell
    have f0 := X5.out.r.frozen
    go_wp2
    refine bodyPost_ret (v := .agg #[.slice (some ⟨g, 0, none⟩) (A.length + R.length) (m + k)]) (by simp [results, Tryz.results98, go_sem, c0]) rfl ⟨_, rfl, ?_, ?_⟩
    · refine OwnN.mono ?_ (show w.heap.size ≤ w.heap.size + 3 by omega)
      repeat (first | exact OW5.out | refine OwnN.setBelow ?_ (by simp; try omega) _)
    · repeat (first | exact B5.out | refine Below.setCell ?_ (by simp; try omega) _)
def treeK (kk : Nat) (ns : List Nd) (i : Nat) (s2 : Sr) : List Nd × Sr :=
 if kk = 0 then (widN (999 + (s2.next 2).1), (s2.next 2).2)
 else if kk = 1 then (ns.set i { nAt ns i with ver := 2147483647, cver := 2147483647 }, s2)
 else if kk = 2 then (ns.set i { nAt ns i with mz := -1 }, s2)
 else if kk = 3 then (ns.set i { nAt ns i with path := ⟨#[47, 65]⟩ }, s2)
 else if kk = 4 then (ns.set i { nAt ns i with data := strOfNums (s2.bytes 65).1 }, (s2.bytes 65).2)
 else if kk = 5 then (ns.set i { nAt ns i with path := if 1 < ns.length then (nAt ns 0).path else (nAt ns i).path }, s2)
 else if kk = 6 then (ns.set i { nAt ns i with cver := 999999 + ((s2.next 2).1 : Int) }, (s2.next 2).2)
 else if kk = 7 then (ns.drop i, s2)
 else if kk = 8 then ([], s2)
 else (ns.set i (nAt ns i), s2)
def treeD (ns : List Nd) (s0 : Sr) : List Nd × Sr := treeK (s0.next 40).1 ns ((s0.next 40).2.next ns.length).1 ((s0.next 40).2.next ns.length).2
def Sr.tree (s : Sr) : List Nd × Sr := treeD (s.grow (4 + 3 * s.size)).1 (s.grow (4 + 3 * s.size)).2.2
theorem NB.turn9 {W W' : World} {B k : Nat} {n : Nd} (h : NB W B n) (t : Tch k W W') (hne : B ≠ k) : NB W' B n := by
 obtain ⟨⟨nl, n0, n1, n2, n3, n4, n5, n6⟩, nf⟩ := h
 have b := t.2 B hne nl
 have q : ∀ j, W'.cell? ⟨B, j, none⟩ = W.cell? ⟨B, j, none⟩ := fun j => World.cell?_of_block (a := ⟨B, j, none⟩) b
 exact ⟨⟨Nat.lt_of_lt_of_le nl t.size, (q _).trans n0, (q _).trans n1, (q _).trans n2, (q _).trans n3, (q _).trans n4, (q _).trans n5, (q _).trans n6⟩, fun j => (World.frozen?_of_block b).trans (nf j)⟩
theorem tree_x (W : World) (k B : Nat) (s : Sr) (h : SRX W k B s) :
    Calls Tryz.prog 27 #[.pointer (some ⟨k, 0, none⟩)] W fun e w' => ∃ v, e = .returned (.agg #[v]) ∧ RdN w' v s.tree.1 ∧ SRX w' k B s.tree.2 ∧ Tch k W w' ∧ ∀ b o n c, v = .slice (some ⟨b, o, none⟩) n c → W.heap.size ≤ b := by
 have hk1 := h.kB
 have hk2 := h.lt
 have hkW : k < W.heap.size := by omega
 have hsz := h.sz
 have BR : Hid (Below W.heap.size W (W.alloc (.cells #[.slice none 0 0] 25))) := (Below.refl _ _).alloc (Nat.le_refl _) _
 have S0 : Hid (SRX (W.alloc (.cells #[.slice none 0 0] 25)) k B s) := h.keep (BR.out.mono hk2)
 have c3 := S0.out.c3
 have cr0 : Hid ((W.alloc (.cells #[.slice none 0 0] 25)).cell? ⟨W.heap.size, 0, none⟩ = some (.slice none 0 0)) := by show _ = _; simp
 have fr0 : Hid ((W.alloc (.cells #[.slice none 0 0] 25)).frozen? ⟨W.heap.size, 0, none⟩ = false) := by show _ = _; simp
 have hs0 : (W.alloc (.cells #[.slice none 0 0] 25)).heap.size = W.heap.size + 1 := by simp
 have HGI := s.grow_inv (4 + 3 * s.size) (by omega)
 have HPOS := (s.grow_root (4 + 3 * s.size) (by omega)).pos
 obtain ⟨res, hres⟩ : ∃ res, res = s.tree := ⟨_, rfl⟩
 have HRES : Hid (treeD (s.grow (4 + 3 * s.size)).1 (s.grow (4 + 3 * s.size)).2.2 = res) := hres.symm
 rw [← hres]
 have CG := grow_x (W.alloc (.cells #[.slice none 0 0] 25)) k B (4 + 3 * s.size) s S0.out (by omega)
 rw [show ((4 + 3 * s.size : Nat) : Int) = 4 + 3 * (s.size : Int) by omega] at CG
 clear h hres
 generalize s.grow (4 + 3 * s.size) = q at *
 go_enter Tryz.func27, Tryz.ntmps27
 go_wp2_with fail
 refine CG.mono ?_
 rintro e w1 ⟨v, rfl, o1, s1, t1⟩
 rw [hs0] at o1
 have hs1 := t1.size
 obtain ⟨av, cv, rfl⟩ := OwnN.slice9 o1
 have bA : Below w1.heap.size w1 (w1.alloc (.cells #[.slice av q.1.length cv] 25)) := (Below.refl _ _).alloc (Nat.le_refl _) _
 have G1 : Hid (GR W k B w1.heap.size (.slice av q.1.length cv) q.1 q.2.2 (w1.alloc (.cells #[.slice av q.1.length cv] 25))) := by
  have a := t1.2 W.heap.size (by omega) (by omega)
  refine ⟨s1.keep (bA.mono s1.lt), (Tch.of BR.out).trans (t1.trans (Tch.of bA)), (o1.mono (by omega)).below bA, by simp, by simp, (bA.cell (p := ⟨W.heap.size, 0, none⟩) (show W.heap.size < _ by omega)).trans ((World.cell?_of_block (a := ⟨W.heap.size, 0, none⟩) a).trans cr0.out), (bA.frozen (p := ⟨W.heap.size, 0, none⟩) (show W.heap.size < _ by omega)).trans ((World.frozen?_of_block a).trans fr0.out), by omega, by simp, ?_, ?_⟩
  · intro e; have := (World.ownsRow.lt o1 _ e).2; omega
  · intro e; have := (World.ownsRow.lt o1 _ e).1; omega
 obtain ⟨hsnd, hlen, -⟩ := HGI
 have HSN : Hid (Snd q.1) := hsnd
 have hgv : ∃ g, av = some ⟨g, 0, none⟩ := by
  rcases o1.2 with ⟨-, h0⟩ | ⟨g, cap, cur, h0, -⟩
  · omega
  · simp only [Value.slice.injEq] at h0; exact ⟨g, h0.1⟩
 obtain ⟨g, rfl⟩ := hgv
 clear o1 s1 t1 bA CG S0 BR cr0 fr0 c3 hsnd
 generalize q.1 = ns at *
 generalize q.2.2 = s0 at *
 generalize hTB : w1.heap.size = TB at *
 go_wp2_with fail
 generalize w1.alloc (.cells #[.slice (some ⟨g, 0, none⟩) ns.length cv] 25) = w2 at *
 refine (next_x _ k B 40 s0 G1.out.src (by omega)).mono ?_
 rintro e w3 ⟨rfl, s3, t3⟩
 have hk40 := s0.next_lt 40 (by omega)
 have HR3 : Hid (treeK (s0.next 40).1 ns ((s0.next 40).2.next ns.length).1 ((s0.next 40).2.next ns.length).2 = res) := HRES.out
 have G3 := hd9 (G1.out.next s3 t3 hkW)
 clear s3 t3 G1 HRES
 generalize (s0.next 40).2 = s1 at *
 generalize (s0.next 40).1 = kk at *
 have ct := G3.out.ct
 go_wp2_with fail
 clear ct
 refine (next_x _ k B ns.length s1 G3.out.src (by omega)).mono ?_
 rintro e w4 ⟨rfl, s4, t4⟩
 have hil := s1.next_lt ns.length HPOS
 have G4 := hd9 (G3.out.next s4 t4 hkW)
 clear s4 t4 G3
 generalize (s1.next ns.length).2 = s2 at *
 generalize (s1.next ns.length).1 = i at *
 have hiI : (i : Int) < (ns.length : Int) := by omega
 obtain ⟨m, hm⟩ : ∃ m, m = nAt ns i := ⟨_, rfl⟩
 have HCE : Hid (CellsN w4 g (i * 7) m) := by
  obtain ⟨ao', c', e', -, -, h3⟩ := G4.out.own.rd
  simp only [Value.slice.injEq] at e'
  obtain ⟨rfl, -, -⟩ := e'
  rcases h3 with h3 | ⟨b, o, h4, hb, hc⟩
  · rw [h3] at hil; simp at hil
  · have := hc i hil
    simp at h4
    obtain ⟨rfl, rfl⟩ := h4
    rw [Nat.zero_add] at this
    rw [hm]; exact this
 obtain ⟨e0, e1, e2, e3, e4, e5, e6⟩ := HCE.out
 have ct := G4.out.ct
 have bB : Below w4.heap.size w4 (w4.alloc (.cells #[.string m.path, .string m.data, .int .i64 m.ver, .int .i64 m.cver, .int .i64 m.cz, .int .i64 m.mz, .int .i64 m.pz] 85)) := (Below.refl _ _).alloc (Nat.le_refl _) _
 have G5 := hd9 (G4.out.below bB hkW)
 have N5 : Hid (NB (w4.alloc (.cells #[.string m.path, .string m.data, .int .i64 m.ver, .int .i64 m.cver, .int .i64 m.cz, .int .i64 m.mz, .int .i64 m.pz] 85)) w4.heap.size m) := NB.new _ _ _
 have hTN : TB < w4.heap.size := G4.out.lt
 have hgN : g < w4.heap.size := (World.ownsRow.lt G4.out.own g rfl).2
 have hgW : W.heap.size ≤ g := (World.ownsRow.lt G4.out.own g rfl).1
 have hgT : g ≠ TB := fun e => G4.out.vt (by rw [← e]; rfl)
 have hgR : g ≠ W.heap.size := fun e => G4.out.vr (by rw [← e]; rfl)
 have hBT : B ≤ TB := by have := G4.out.tb; omega
 have hTW : W.heap.size < TB := G4.out.tb
 clear bB
 unfold treeK at HR3
 rw [← hm] at HR3
 clear hm
 have HROW : Hid (∀ (w6 : World) (sx : Sr), GR W k B TB (.slice (some ⟨g, 0, none⟩) ns.length cv) ns sx w6 → ∀ j, j < 7 → (∃ c, w6.cell? ⟨g, i * 7 + j, none⟩ = some c) ∧ w6.frozen? ⟨g, i * 7 + j, none⟩ = false) := by
  intro w6 sx hg j hj
  refine ⟨⟨_, (World.ownsRow.cellAt hg.own (i * 7 + j) (by omega)).trans (List.getElem?_eq_getElem (by rw [nrow_length]; omega))⟩, World.ownsRow.frozenAt hg.own (i * 7 + j)⟩
 iterate 40 (try (first | go_values | go_skip | go_guarded | go_step | go_upon | go_back | go_simp))
 clear e0 e1 e2 e3 e4 e5 e6 ct HCE G4
 generalize w4.alloc (.cells #[.string m.path, .string m.data, .int .i64 m.ver, .int .i64 m.cver, .int .i64 m.cz, .int .i64 m.mz, .int .i64 m.pz] 85) = w5 at *
 generalize w4.heap.size = NK at *
 clear hTB hs1 hs0
 have hNR : NK ≠ W.heap.size := by omega
 have hNT : NK ≠ TB := by omega
 have hNg : NK ≠ g := by omega
 have hgK : g ≠ NK := by omega
 have hNk : NK ≠ k := by omega
 by_cases h9 : 9 ≤ kk
 · rw [if_neg (by omega), if_neg (by omega), if_neg (by omega), if_neg (by omega), if_neg (by omega), if_neg (by omega), if_neg (by omega), if_neg (by omega), if_neg (by omega)] at HR3
   have q0 : ((kk : Int) == 0) = false := beq_eq_false_iff_ne.2 (by omega)
   have q1 : ((kk : Int) == 1) = false := beq_eq_false_iff_ne.2 (by omega)
   have q2 : ((kk : Int) == 2) = false := beq_eq_false_iff_ne.2 (by omega)
   have q3 : ((kk : Int) == 3) = false := beq_eq_false_iff_ne.2 (by omega)
   have q4 : ((kk : Int) == 4) = false := beq_eq_false_iff_ne.2 (by omega)
   have q5 : ((kk : Int) == 5) = false := beq_eq_false_iff_ne.2 (by omega)
   have q6 : ((kk : Int) == 6) = false := beq_eq_false_iff_ne.2 (by omega)
   have q7 : ((kk : Int) == 7) = false := beq_eq_false_iff_ne.2 (by omega)
   have q8 : ((kk : Int) == 8) = false := beq_eq_false_iff_ne.2 (by omega)
   have GM : Hid (GR W k B TB (.slice (some ⟨g, 0, none⟩) ns.length cv) ns s2 (w5)) := G5
   have HF : Hid _ := (GM.out.setNd hil hk2 m).outN hk2
   have ct := G5.out.ct
   have cr := G5.out.cr
   have fr := G5.out.fr
   obtain ⟨⟨nl, n0, n1, n2, n3, n4, n5, n6⟩, nf⟩ := N5.out
   obtain ⟨⟨r0, k0⟩, f0⟩ := HROW.out _ _ G5.out 0 (by omega)
   obtain ⟨⟨r1, k1⟩, f1⟩ := HROW.out _ _ G5.out 1 (by omega)
   obtain ⟨⟨r2, k2⟩, f2⟩ := HROW.out _ _ G5.out 2 (by omega)
   obtain ⟨⟨r3, k3⟩, f3⟩ := HROW.out _ _ G5.out 3 (by omega)
   obtain ⟨⟨r4, k4⟩, f4⟩ := HROW.out _ _ G5.out 4 (by omega)
   obtain ⟨⟨r5, k5⟩, f5⟩ := HROW.out _ _ G5.out 5 (by omega)
   obtain ⟨⟨r6, k6⟩, f6⟩ := HROW.out _ _ G5.out 6 (by omega)
   rw [Nat.add_zero] at k0 f0
   have HNB : Hid (∀ b o n c, (Value.slice (some ⟨g, 0, none⟩) ns.length cv) = .slice (some ⟨b, o, none⟩) n c → W.heap.size ≤ b) := fun b o n c e => by simp at e; omega
   clear HROW GM G5 N5 HSN
   iterate 260 (try (first | go_values | go_skip | go_guarded | go_step | go_upon))
   refine bodyPost_ret (v := .agg #[(.slice (some ⟨g, 0, none⟩) ns.length cv)]) ?a1 ?a2 ?a3
   case a1 => simp [results, Tryz.results27, go_sem, cr]
   case a2 => rfl
   case a3 => exact ⟨_, rfl, by rw [← HR3.out]; exact HF.out.1, by rw [← HR3.out]; exact HF.out.2.1, HF.out.2.2, HNB.out⟩
 by_cases h1 : kk = 1
 · subst h1
   rw [if_neg (by decide), if_pos rfl] at HR3
   have bM : Below NK w5 (((w5).setCell ⟨NK, 2, none⟩ (.int .i64 2147483647)).setCell ⟨NK, 3, none⟩ (.int .i64 2147483647)) := by
    iterate 2 refine Below.setCell ?_ (by show NK ≤ NK; exact Nat.le_refl _) _
    exact Below.refl _ _
   have GM : Hid (GR W k B TB (.slice (some ⟨g, 0, none⟩) ns.length cv) ns s2 (((w5).setCell ⟨NK, 2, none⟩ (.int .i64 2147483647)).setCell ⟨NK, 3, none⟩ (.int .i64 2147483647))) := G5.out.far bM hTN hBT (fun q e => by simp [Value.ownBlock] at e; omega)
   clear bM
   have HF : Hid _ := (GM.out.setNd hil hk2 ⟨m.path, m.data, 2147483647, 2147483647, m.cz, m.mz, m.pz⟩).outN hk2
   have ct := G5.out.ct
   have cr := G5.out.cr
   have fr := G5.out.fr
   obtain ⟨⟨nl, n0, n1, n2, n3, n4, n5, n6⟩, nf⟩ := N5.out
   obtain ⟨⟨r0, k0⟩, f0⟩ := HROW.out _ _ G5.out 0 (by omega)
   obtain ⟨⟨r1, k1⟩, f1⟩ := HROW.out _ _ G5.out 1 (by omega)
   obtain ⟨⟨r2, k2⟩, f2⟩ := HROW.out _ _ G5.out 2 (by omega)
   obtain ⟨⟨r3, k3⟩, f3⟩ := HROW.out _ _ G5.out 3 (by omega)
   obtain ⟨⟨r4, k4⟩, f4⟩ := HROW.out _ _ G5.out 4 (by omega)
   obtain ⟨⟨r5, k5⟩, f5⟩ := HROW.out _ _ G5.out 5 (by omega)
   obtain ⟨⟨r6, k6⟩, f6⟩ := HROW.out _ _ G5.out 6 (by omega)
   rw [Nat.add_zero] at k0 f0
   have HNB : Hid (∀ b o n c, (Value.slice (some ⟨g, 0, none⟩) ns.length cv) = .slice (some ⟨b, o, none⟩) n c → W.heap.size ≤ b) := fun b o n c e => by simp at e; omega
   clear HROW GM G5 N5 HSN
   iterate 260 (try (first | go_values | go_skip | go_guarded | go_step | go_upon))
   refine bodyPost_ret (v := .agg #[(.slice (some ⟨g, 0, none⟩) ns.length cv)]) ?a1 ?a2 ?a3
   case a1 => simp [results, Tryz.results27, go_sem, cr]
   case a2 => rfl
   case a3 => exact ⟨_, rfl, by rw [← HR3.out]; exact HF.out.1, by rw [← HR3.out]; exact HF.out.2.1, HF.out.2.2, HNB.out⟩
 by_cases h2 : kk = 2
 · subst h2
   rw [if_neg (by decide), if_neg (by decide), if_pos rfl] at HR3
   have bM : Below NK w5 ((w5).setCell ⟨NK, 5, none⟩ (.int .i64 (-1))) := by
    iterate 1 refine Below.setCell ?_ (by show NK ≤ NK; exact Nat.le_refl _) _
    exact Below.refl _ _
   have GM : Hid (GR W k B TB (.slice (some ⟨g, 0, none⟩) ns.length cv) ns s2 ((w5).setCell ⟨NK, 5, none⟩ (.int .i64 (-1)))) := G5.out.far bM hTN hBT (fun q e => by simp [Value.ownBlock] at e; omega)
   clear bM
   have HF : Hid _ := (GM.out.setNd hil hk2 ⟨m.path, m.data, m.ver, m.cver, m.cz, (-1), m.pz⟩).outN hk2
   have ct := G5.out.ct
   have cr := G5.out.cr
   have fr := G5.out.fr
   obtain ⟨⟨nl, n0, n1, n2, n3, n4, n5, n6⟩, nf⟩ := N5.out
   obtain ⟨⟨r0, k0⟩, f0⟩ := HROW.out _ _ G5.out 0 (by omega)
   obtain ⟨⟨r1, k1⟩, f1⟩ := HROW.out _ _ G5.out 1 (by omega)
   obtain ⟨⟨r2, k2⟩, f2⟩ := HROW.out _ _ G5.out 2 (by omega)
   obtain ⟨⟨r3, k3⟩, f3⟩ := HROW.out _ _ G5.out 3 (by omega)
   obtain ⟨⟨r4, k4⟩, f4⟩ := HROW.out _ _ G5.out 4 (by omega)
   obtain ⟨⟨r5, k5⟩, f5⟩ := HROW.out _ _ G5.out 5 (by omega)
   obtain ⟨⟨r6, k6⟩, f6⟩ := HROW.out _ _ G5.out 6 (by omega)
   rw [Nat.add_zero] at k0 f0
   have HNB : Hid (∀ b o n c, (Value.slice (some ⟨g, 0, none⟩) ns.length cv) = .slice (some ⟨b, o, none⟩) n c → W.heap.size ≤ b) := fun b o n c e => by simp at e; omega
   clear HROW GM G5 N5 HSN
   iterate 260 (try (first | go_values | go_skip | go_guarded | go_step | go_upon))
   refine bodyPost_ret (v := .agg #[(.slice (some ⟨g, 0, none⟩) ns.length cv)]) ?a1 ?a2 ?a3
   case a1 => simp [results, Tryz.results27, go_sem, cr]
   case a2 => rfl
   case a3 => exact ⟨_, rfl, by rw [← HR3.out]; exact HF.out.1, by rw [← HR3.out]; exact HF.out.2.1, HF.out.2.2, HNB.out⟩
 by_cases h3 : kk = 3
 · subst h3
   rw [if_neg (by decide), if_neg (by decide), if_neg (by decide), if_pos rfl] at HR3
   have bM : Below NK w5 ((w5).setCell ⟨NK, 0, none⟩ (.string ⟨#[47, 65]⟩)) := by
    iterate 1 refine Below.setCell ?_ (by show NK ≤ NK; exact Nat.le_refl _) _
    exact Below.refl _ _
   have GM : Hid (GR W k B TB (.slice (some ⟨g, 0, none⟩) ns.length cv) ns s2 ((w5).setCell ⟨NK, 0, none⟩ (.string ⟨#[47, 65]⟩))) := G5.out.far bM hTN hBT (fun q e => by simp [Value.ownBlock] at e; omega)
   clear bM
   have HF : Hid _ := (GM.out.setNd hil hk2 ⟨⟨#[47, 65]⟩, m.data, m.ver, m.cver, m.cz, m.mz, m.pz⟩).outN hk2
   have ct := G5.out.ct
   have cr := G5.out.cr
   have fr := G5.out.fr
   obtain ⟨⟨nl, n0, n1, n2, n3, n4, n5, n6⟩, nf⟩ := N5.out
   obtain ⟨⟨r0, k0⟩, f0⟩ := HROW.out _ _ G5.out 0 (by omega)
   obtain ⟨⟨r1, k1⟩, f1⟩ := HROW.out _ _ G5.out 1 (by omega)
   obtain ⟨⟨r2, k2⟩, f2⟩ := HROW.out _ _ G5.out 2 (by omega)
   obtain ⟨⟨r3, k3⟩, f3⟩ := HROW.out _ _ G5.out 3 (by omega)
   obtain ⟨⟨r4, k4⟩, f4⟩ := HROW.out _ _ G5.out 4 (by omega)
   obtain ⟨⟨r5, k5⟩, f5⟩ := HROW.out _ _ G5.out 5 (by omega)
   obtain ⟨⟨r6, k6⟩, f6⟩ := HROW.out _ _ G5.out 6 (by omega)
   rw [Nat.add_zero] at k0 f0
   have HNB : Hid (∀ b o n c, (Value.slice (some ⟨g, 0, none⟩) ns.length cv) = .slice (some ⟨b, o, none⟩) n c → W.heap.size ≤ b) := fun b o n c e => by simp at e; omega
   clear HROW GM G5 N5 HSN
   iterate 260 (try (first | go_values | go_skip | go_guarded | go_step | go_upon))
   refine bodyPost_ret (v := .agg #[(.slice (some ⟨g, 0, none⟩) ns.length cv)]) ?a1 ?a2 ?a3
   case a1 => simp [results, Tryz.results27, go_sem, cr]
   case a2 => rfl
   case a3 => exact ⟨_, rfl, by rw [← HR3.out]; exact HF.out.1, by rw [← HR3.out]; exact HF.out.2.1, HF.out.2.2, HNB.out⟩
 by_cases h5 : kk = 5
 · subst h5
   rw [if_neg (by decide), if_neg (by decide), if_neg (by decide), if_neg (by decide), if_neg (by decide), if_pos rfl] at HR3
   by_cases hl1 : 1 < ns.length
   · rw [if_pos hl1] at HR3
     have hl1I : (1 : Int) < (ns.length : Int) := by omega
     have hl0I : (0 : Int) < (ns.length : Int) := by omega
     have kz : w5.cell? ⟨g, 0, none⟩ = some (.string (nAt ns 0).path) := by
      have := World.ownsRow.cellAt G5.out.own 0 (by omega)
      rw [this]
      have hh := nrow_get ns 0 0 (by omega) (by omega)
      simpa [ndL] using hh
     have bM : Below NK w5 ((w5).setCell ⟨NK, 0, none⟩ (.string (nAt ns 0).path)) := by
      iterate 1 refine Below.setCell ?_ (by show NK ≤ NK; exact Nat.le_refl _) _
      exact Below.refl _ _
     have GM : Hid (GR W k B TB (.slice (some ⟨g, 0, none⟩) ns.length cv) ns s2 ((w5).setCell ⟨NK, 0, none⟩ (.string (nAt ns 0).path))) := G5.out.far bM hTN hBT (fun q e => by simp [Value.ownBlock] at e; omega)
     clear bM
     have HF : Hid _ := (GM.out.setNd hil hk2 ⟨(nAt ns 0).path, m.data, m.ver, m.cver, m.cz, m.mz, m.pz⟩).outN hk2
     have ct := G5.out.ct
     have cr := G5.out.cr
     have fr := G5.out.fr
     obtain ⟨⟨nl, n0, n1, n2, n3, n4, n5, n6⟩, nf⟩ := N5.out
     obtain ⟨⟨r0, k0⟩, f0⟩ := HROW.out _ _ G5.out 0 (by omega)
     obtain ⟨⟨r1, k1⟩, f1⟩ := HROW.out _ _ G5.out 1 (by omega)
     obtain ⟨⟨r2, k2⟩, f2⟩ := HROW.out _ _ G5.out 2 (by omega)
     obtain ⟨⟨r3, k3⟩, f3⟩ := HROW.out _ _ G5.out 3 (by omega)
     obtain ⟨⟨r4, k4⟩, f4⟩ := HROW.out _ _ G5.out 4 (by omega)
     obtain ⟨⟨r5, k5⟩, f5⟩ := HROW.out _ _ G5.out 5 (by omega)
     obtain ⟨⟨r6, k6⟩, f6⟩ := HROW.out _ _ G5.out 6 (by omega)
     rw [Nat.add_zero] at k0 f0
     have HNB : Hid (∀ b o n c, (Value.slice (some ⟨g, 0, none⟩) ns.length cv) = .slice (some ⟨b, o, none⟩) n c → W.heap.size ≤ b) := fun b o n c e => by simp at e; omega
     clear HROW GM G5 N5 HSN
     iterate 260 (try (first | go_values | go_skip | go_guarded | go_step | go_upon))
     refine bodyPost_ret (v := .agg #[(.slice (some ⟨g, 0, none⟩) ns.length cv)]) ?a1 ?a2 ?a3
     case a1 => simp [results, Tryz.results27, go_sem, cr]
     case a2 => rfl
     case a3 => exact ⟨_, rfl, by rw [← HR3.out]; exact HF.out.1, by rw [← HR3.out]; exact HF.out.2.1, HF.out.2.2, HNB.out⟩
   · rw [if_neg hl1] at HR3
     have hl1I : ¬ (1 : Int) < (ns.length : Int) := by omega
     have hl1d : decide ((1 : Int) < (ns.length : Int)) = false := by simpa using hl1I
     have GM : Hid (GR W k B TB (.slice (some ⟨g, 0, none⟩) ns.length cv) ns s2 (w5)) := G5
     have HF : Hid _ := (GM.out.setNd hil hk2 m).outN hk2
     have ct := G5.out.ct
     have cr := G5.out.cr
     have fr := G5.out.fr
     obtain ⟨⟨nl, n0, n1, n2, n3, n4, n5, n6⟩, nf⟩ := N5.out
     obtain ⟨⟨r0, k0⟩, f0⟩ := HROW.out _ _ G5.out 0 (by omega)
     obtain ⟨⟨r1, k1⟩, f1⟩ := HROW.out _ _ G5.out 1 (by omega)
     obtain ⟨⟨r2, k2⟩, f2⟩ := HROW.out _ _ G5.out 2 (by omega)
     obtain ⟨⟨r3, k3⟩, f3⟩ := HROW.out _ _ G5.out 3 (by omega)
     obtain ⟨⟨r4, k4⟩, f4⟩ := HROW.out _ _ G5.out 4 (by omega)
     obtain ⟨⟨r5, k5⟩, f5⟩ := HROW.out _ _ G5.out 5 (by omega)
     obtain ⟨⟨r6, k6⟩, f6⟩ := HROW.out _ _ G5.out 6 (by omega)
     rw [Nat.add_zero] at k0 f0
     have HNB : Hid (∀ b o n c, (Value.slice (some ⟨g, 0, none⟩) ns.length cv) = .slice (some ⟨b, o, none⟩) n c → W.heap.size ≤ b) := fun b o n c e => by simp at e; omega
     clear HROW GM G5 N5 HSN
     iterate 260 (try (first | go_values | go_skip | go_guarded | go_step | go_upon))
     refine bodyPost_ret (v := .agg #[(.slice (some ⟨g, 0, none⟩) ns.length cv)]) ?a1 ?a2 ?a3
     case a1 => simp [results, Tryz.results27, go_sem, cr]
     case a2 => rfl
     case a3 => exact ⟨_, rfl, by rw [← HR3.out]; exact HF.out.1, by rw [← HR3.out]; exact HF.out.2.1, HF.out.2.2, HNB.out⟩
 by_cases h4 : kk = 4
 · subst h4
   rw [if_neg (by decide), if_neg (by decide), if_neg (by decide), if_neg (by decide), if_pos rfl] at HR3
   have CB := bytes_x w5 k B 65 s2 G5.out.src (by omega)
   generalize s2.bytes 65 = bq at *
   iterate 260 (try (first | go_values | go_skip | go_guarded | go_step | go_upon))
   refine CB.mono ?_
   rintro e w6 ⟨v6, rfl, o6, s6, t6⟩
   clear CB
   have hcv := conv_any o6.rd
   obtain ⟨a6, c6, rfl, -⟩ := o6.rd.len
   have G6 := hd9 (G5.out.next s6 t6 hkW)
   have N6 : Hid (NB w6 NK m) := N5.out.turn9 t6 hNk
   clear o6 s6 t6 G5 N5
   simp only []
   have bM : Below NK w6 ((w6).setCell ⟨NK, 1, none⟩ (.string (strOfNums bq.1))) := by
    iterate 1 refine Below.setCell ?_ (by show NK ≤ NK; exact Nat.le_refl _) _
    exact Below.refl _ _
   have GM : Hid (GR W k B TB (.slice (some ⟨g, 0, none⟩) ns.length cv) ns bq.2 ((w6).setCell ⟨NK, 1, none⟩ (.string (strOfNums bq.1)))) := G6.out.far bM hTN hBT (fun q e => by simp [Value.ownBlock] at e; omega)
   clear bM
   have HF : Hid _ := (GM.out.setNd hil hk2 ⟨m.path, strOfNums bq.1, m.ver, m.cver, m.cz, m.mz, m.pz⟩).outN hk2
   have ct := G6.out.ct
   have cr := G6.out.cr
   have fr := G6.out.fr
   obtain ⟨⟨nl, n0, n1, n2, n3, n4, n5, n6⟩, nf⟩ := N6.out
   obtain ⟨⟨r0, k0⟩, f0⟩ := HROW.out _ _ G6.out 0 (by omega)
   obtain ⟨⟨r1, k1⟩, f1⟩ := HROW.out _ _ G6.out 1 (by omega)
   obtain ⟨⟨r2, k2⟩, f2⟩ := HROW.out _ _ G6.out 2 (by omega)
   obtain ⟨⟨r3, k3⟩, f3⟩ := HROW.out _ _ G6.out 3 (by omega)
   obtain ⟨⟨r4, k4⟩, f4⟩ := HROW.out _ _ G6.out 4 (by omega)
   obtain ⟨⟨r5, k5⟩, f5⟩ := HROW.out _ _ G6.out 5 (by omega)
   obtain ⟨⟨r6, k6⟩, f6⟩ := HROW.out _ _ G6.out 6 (by omega)
   rw [Nat.add_zero] at k0 f0
   have HNB : Hid (∀ b o n c, (Value.slice (some ⟨g, 0, none⟩) ns.length cv) = .slice (some ⟨b, o, none⟩) n c → W.heap.size ≤ b) := fun b o n c e => by simp at e; omega
   clear HROW GM G6 N6 HSN
   iterate 260 (try (first | go_values | go_skip | go_guarded | go_step | go_upon))
   refine bodyPost_ret (v := .agg #[(.slice (some ⟨g, 0, none⟩) ns.length cv)]) ?a1 ?a2 ?a3
   case a1 => simp [results, Tryz.results27, go_sem, cr]
   case a2 => rfl
   case a3 => exact ⟨_, rfl, by rw [← HR3.out]; exact HF.out.1, by rw [← HR3.out]; exact HF.out.2.1, HF.out.2.2, HNB.out⟩
 by_cases h6 : kk = 6
 · subst h6
   rw [if_neg (by decide), if_neg (by decide), if_neg (by decide), if_neg (by decide), if_neg (by decide), if_neg (by decide), if_pos rfl] at HR3
   iterate 260 (try (first | go_values | go_skip | go_guarded | go_step | go_upon))
   refine (next_x _ k B 2 s2 G5.out.src (by omega)).mono ?_
   rintro e w6 ⟨rfl, s6, t6⟩
   have hn6 := s2.next_lt 2 (by omega)
   have G6 := hd9 (G5.out.next s6 t6 hkW)
   have N6 : Hid (NB w6 NK m) := N5.out.turn9 t6 hNk
   clear s6 t6 G5 N5
   generalize (s2.next 2).2 = s6 at *
   generalize (s2.next 2).1 = n6' at *
   simp only []
   have bM : Below NK w6 ((w6).setCell ⟨NK, 3, none⟩ (.int .i64 (999999 + (n6' : Int)))) := by
    iterate 1 refine Below.setCell ?_ (by show NK ≤ NK; exact Nat.le_refl _) _
    exact Below.refl _ _
   have GM : Hid (GR W k B TB (.slice (some ⟨g, 0, none⟩) ns.length cv) ns s6 ((w6).setCell ⟨NK, 3, none⟩ (.int .i64 (999999 + (n6' : Int))))) := G6.out.far bM hTN hBT (fun q e => by simp [Value.ownBlock] at e; omega)
   clear bM
   have HF : Hid _ := (GM.out.setNd hil hk2 ⟨m.path, m.data, m.ver, 999999 + (n6' : Int), m.cz, m.mz, m.pz⟩).outN hk2
   have ct := G6.out.ct
   have cr := G6.out.cr
   have fr := G6.out.fr
   obtain ⟨⟨nl, n0, n1, n2, n3, n4, n5, n6⟩, nf⟩ := N6.out
   obtain ⟨⟨r0, k0⟩, f0⟩ := HROW.out _ _ G6.out 0 (by omega)
   obtain ⟨⟨r1, k1⟩, f1⟩ := HROW.out _ _ G6.out 1 (by omega)
   obtain ⟨⟨r2, k2⟩, f2⟩ := HROW.out _ _ G6.out 2 (by omega)
   obtain ⟨⟨r3, k3⟩, f3⟩ := HROW.out _ _ G6.out 3 (by omega)
   obtain ⟨⟨r4, k4⟩, f4⟩ := HROW.out _ _ G6.out 4 (by omega)
   obtain ⟨⟨r5, k5⟩, f5⟩ := HROW.out _ _ G6.out 5 (by omega)
   obtain ⟨⟨r6, k6⟩, f6⟩ := HROW.out _ _ G6.out 6 (by omega)
   rw [Nat.add_zero] at k0 f0
   have HNB : Hid (∀ b o n c, (Value.slice (some ⟨g, 0, none⟩) ns.length cv) = .slice (some ⟨b, o, none⟩) n c → W.heap.size ≤ b) := fun b o n c e => by simp at e; omega
   clear HROW GM G6 N6 HSN
   iterate 260 (try (first | go_values | go_skip | go_guarded | go_step | go_upon))
   refine bodyPost_ret (v := .agg #[(.slice (some ⟨g, 0, none⟩) ns.length cv)]) ?a1 ?a2 ?a3
   case a1 => simp [results, Tryz.results27, go_sem, cr]
   case a2 => rfl
   case a3 => exact ⟨_, rfl, by rw [← HR3.out]; exact HF.out.1, by rw [← HR3.out]; exact HF.out.2.1, HF.out.2.2, HNB.out⟩
 by_cases h0 : kk = 0
 · subst h0
   rw [if_pos rfl] at HR3
   iterate 260 (try (first | go_values | go_skip | go_guarded | go_step | go_upon))
   refine (next_x _ k B 2 s2 G5.out.src (by omega)).mono ?_
   rintro e w6 ⟨rfl, s6, t6⟩
   have hn6 := s2.next_lt 2 (by omega)
   have G6 := hd9 (G5.out.next s6 t6 hkW)
   clear s6 t6 G5 N5
   generalize (s2.next 2).2 = s6 at *
   generalize (s2.next 2).1 = n6' at *
   have CW := wide_x w6 (1000 + n6') (by omega) (by omega)
   rw [show ((1000 + n6' : Nat) : Int) = 1000 + (n6' : Int) by omega, show 1000 + n6' - 1 = 999 + n6' by omega] at CW
   generalize widN (999 + n6') = WN at *
   simp only []
   iterate 260 (try (first | go_values | go_skip | go_guarded | go_step | go_upon))
   refine CW.mono ?_
   rintro e w7 ⟨v7, rfl, o7, b7⟩
   obtain ⟨a7, c7, rfl⟩ := OwnN.slice9 o7
   have G7 := hd9 (G6.out.below b7 hkW)
   have cr := G7.out.cr
   have fr := G7.out.fr
   have hvr : Value.ownBlock (.slice a7 WN.length c7) ≠ some W.heap.size := fun e => by have h1 := (World.ownsRow.lt o7 _ e).1; have h2 := G6.out.lt; omega
   have bS : Below W.heap.size w7 (w7.setCell ⟨W.heap.size, 0, none⟩ (.slice a7 WN.length c7)) := (Below.refl _ _).setCell (by show W.heap.size ≤ W.heap.size; exact Nat.le_refl _) _
   have HF : Hid (RdN (w7.setCell ⟨W.heap.size, 0, none⟩ (.slice a7 WN.length c7)) (.slice a7 WN.length c7) WN ∧ SRX (w7.setCell ⟨W.heap.size, 0, none⟩ (.slice a7 WN.length c7)) k B s6 ∧ Tch k W (w7.setCell ⟨W.heap.size, 0, none⟩ (.slice a7 WN.length c7))) := ⟨(OwnN.setO o7 hvr _).rd, G7.out.src.keep (bS.mono hk2), G7.out.tch.then bS⟩
   have HNB : Hid (∀ b o n c, (Value.slice a7 WN.length c7) = .slice (some ⟨b, o, none⟩) n c → W.heap.size ≤ b) := fun b o n c e => by
    have h1 := (World.ownsRow.lt o7 b (by rw [e]; rfl)).1
    have h2 := G6.out.lt
    omega
   clear CW o7 b7 G6 G7 bS HROW HSN
   simp only []
   iterate 260 (try (first | go_values | go_skip | go_guarded | go_step | go_upon))
   refine bodyPost_ret (v := .agg #[.slice a7 WN.length c7]) ?a1 ?a2 ?a3
   case a1 => simp [results, Tryz.results27, go_sem, cr]
   case a2 => rfl
   case a3 => exact ⟨_, rfl, by rw [← HR3.out]; exact HF.out.1, by rw [← HR3.out]; exact HF.out.2.1, HF.out.2.2, HNB.out⟩
 by_cases h7 : kk = 7
 · subst h7
   rw [if_neg (by decide), if_neg (by decide), if_neg (by decide), if_neg (by decide), if_neg (by decide), if_neg (by decide), if_neg (by decide), if_pos rfl] at HR3
   obtain ⟨a2, hrt, hrd, -⟩ := slice_tail G5.out.own.rd (OwnN.nilOk G5.out.own) i (by omega)
   have hrt5 := hrt w5
   have ct := G5.out.ct
   have cr := G5.out.cr
   have fr := G5.out.fr
   have bS : Below W.heap.size w5 (w5.setCell ⟨W.heap.size, 0, none⟩ (.slice a2 (ns.length - i) (cv - i))) := (Below.refl _ _).setCell (by show W.heap.size ≤ W.heap.size; exact Nat.le_refl _) _
   have HF : Hid (RdN (w5.setCell ⟨W.heap.size, 0, none⟩ (.slice a2 (ns.length - i) (cv - i))) (.slice a2 (ns.length - i) (cv - i)) (ns.drop i) ∧ SRX (w5.setCell ⟨W.heap.size, 0, none⟩ (.slice a2 (ns.length - i) (cv - i))) k B s2 ∧ Tch k W (w5.setCell ⟨W.heap.size, 0, none⟩ (.slice a2 (ns.length - i) (cv - i)))) := by
    have h3 := slice_tail (OwnN.setO (b := W.heap.size) (j := 0) G5.out.own G5.out.vr (.slice a2 (ns.length - i) (cv - i))).rd (OwnN.nilOk G5.out.own) i (by omega)
    obtain ⟨a3, hr3, hrd3, -⟩ := h3
    have e3 := (hrt w5).symm.trans (hr3 w5)
    simp only [Result.ok.injEq, Value.slice.injEq, and_true] at e3
    rw [← e3] at hrd3
    exact ⟨hrd3, G5.out.src.keep (bS.mono hk2), G5.out.tch.then bS⟩
   have HNB : Hid (∀ b o n c, (Value.slice a2 (ns.length - i) (cv - i)) = .slice (some ⟨b, o, none⟩) n c → W.heap.size ≤ b) := fun b o n c e => by
    have e3 := (hrt w5).symm.trans (run_tail (some ⟨g, 0, none⟩) ns.length cv i (by omega) w5)
    simp only [Result.ok.injEq, Value.slice.injEq, and_true] at e3
    simp only [Value.slice.injEq] at e
    rw [e3] at e
    obtain ⟨e, -, -⟩ := e
    by_cases hc : cv = i
    · rw [if_pos hc] at e; simp at e; omega
    · rw [if_neg hc, Option.map_some, Addr.add_lit] at e; simp at e; omega
   clear hrt hrd bS G5 N5 HROW HSN
   iterate 260 (try (first | go_values | go_skip | go_guarded | go_step | go_upon))
   refine bodyPost_ret (v := .agg #[.slice a2 (ns.length - i) (cv - i)]) ?a1 ?a2 ?a3
   case a1 => simp [results, Tryz.results27, go_sem, cr]
   case a2 => rfl
   case a3 => exact ⟨_, rfl, by rw [← HR3.out]; exact HF.out.1, by rw [← HR3.out]; exact HF.out.2.1, HF.out.2.2, HNB.out⟩
 have h8k : kk = 8 := by omega
 subst h8k
 rw [if_neg (by decide), if_neg (by decide), if_neg (by decide), if_neg (by decide), if_neg (by decide), if_neg (by decide), if_neg (by decide), if_neg (by decide), if_pos rfl] at HR3
 have cr := G5.out.cr
 have fr := G5.out.fr
 have bS : Below W.heap.size w5 (w5.setCell ⟨W.heap.size, 0, none⟩ (.slice none 0 0)) := (Below.refl _ _).setCell (by show W.heap.size ≤ W.heap.size; exact Nat.le_refl _) _
 have HF : Hid (RdN (w5.setCell ⟨W.heap.size, 0, none⟩ (.slice none 0 0)) (.slice none 0 0) [] ∧ SRX (w5.setCell ⟨W.heap.size, 0, none⟩ (.slice none 0 0)) k B s2 ∧ Tch k W (w5.setCell ⟨W.heap.size, 0, none⟩ (.slice none 0 0))) := ⟨⟨none, 0, rfl, Nat.le_refl _, Nat.zero_le _, .inl rfl⟩, G5.out.src.keep (bS.mono hk2), G5.out.tch.then bS⟩
 have HNB : Hid (∀ b o n c, (Value.slice none 0 0) = .slice (some ⟨b, o, none⟩) n c → W.heap.size ≤ b) := fun b o n c e => by simp at e
 clear bS G5 N5 HROW HSN
 iterate 260 (try (first | go_values | go_skip | go_guarded | go_step | go_upon))
 refine bodyPost_ret (v := .agg #[.slice none 0 0]) ?a1 ?a2 ?a3
 case a1 => simp [results, Tryz.results27, go_sem, cr]
 case a2 => rfl
 case a3 => exact ⟨_, rfl, by rw [← HR3.out]; exact HF.out.1, by rw [← HR3.out]; exact HF.out.2.1, HF.out.2.2, HNB.out⟩
end Go.Proofs.YtcopcegamadkgaaGreatDoor
namespace Go.Proofs.YtcopcegamadkgaaGreatDoor
open Go.RowKit
section
variable {P : Program} (w : World)
end
theorem implStat_any (w : World) (s : Int) :
    Calls Tryz.prog 34 #[.int .i64 s] w fun e w' => e = .returned (.bool (decide (0 ≤ s ∧ s ≤ 2147483647))) ∧ w' = w := by
 by_cases h1 : 0 ≤ s
 · by_cases h2 : s ≤ 2147483647
   · go_enter Tryz.func34, Tryz.ntmps34
     go_wp2
     go_ret
     exact ⟨ret_bool (by simp; omega), rfl⟩
   · go_enter Tryz.func34, Tryz.ntmps34
     go_wp2
     go_ret
     exact ⟨ret_bool (by simp; omega), rfl⟩
 · go_enter Tryz.func34, Tryz.ntmps34
   go_wp2
   go_ret
   exact ⟨ret_bool (by simp; omega), rfl⟩
def Box (w : World) (b : Nat) (v : Value) : Prop := b < w.heap.size ∧ w.cell? ⟨b, 0, none⟩ = some v
theorem Box.below {w w' : World} {b : Nat} {v : Value} (h : Box w b v) (hb : Below w.heap.size w w') : Box w' b v :=
 ⟨Nat.lt_of_lt_of_le h.1 hb.size, (hb.cell (p := ⟨b, 0, none⟩) h.1).trans h.2⟩
theorem Box.new (w : World) (v : Value) (t : TypeId) : Box (w.alloc (.cells #[v] t)) w.heap.size v := ⟨by simp, by simp⟩
theorem Box.drewN {w : World} {b : Nat} {v : Value} (h : Box w b v) (n : Nat) : Box (w.drewN n) b v := h
def zeros (n : Nat) : List Int := List.replicate n 0
theorem zeros_len (n : Nat) : (zeros n).length = n := by simp [zeros]
def Box2 (w : World) (b : Nat) (x y : Value) : Prop := b < w.heap.size ∧ w.cell? ⟨b, 0, none⟩ = some x ∧ w.cell? ⟨b, 1, none⟩ = some y
theorem Box2.below {w w' : World} {b : Nat} {x y : Value} (h : Box2 w b x y) (hb : Below w.heap.size w w') : Box2 w' b x y :=
 ⟨Nat.lt_of_lt_of_le h.1 hb.size, (hb.cell (p := ⟨b, 0, none⟩) h.1).trans h.2.1, (hb.cell (p := ⟨b, 1, none⟩) h.1).trans h.2.2⟩
theorem Box2.other {w w' : World} {b : Nat} {x y : Value} {row : Option Nat} (h : Box2 w b x y) (hg : w.grownBy w' row) (hne : some b ≠ row) : Box2 w' b x y :=
 ⟨Nat.lt_of_lt_of_le h.1 hg.size, hg.cell h.2.1 hne, hg.cell h.2.2 hne⟩
theorem Box2.new (w : World) (x y : Value) (t : TypeId) : Box2 (w.alloc (.cells #[x, y] t)) w.heap.size x y := ⟨by simp, by simp, by simp⟩
def Ne2 (a b : Value) : Prop := a.ownBlock = none ∨ a.ownBlock ≠ b.ownBlock
theorem Own.slice {k : IntKind} {e : TypeId} {w : World} {lo : Nat} {v : Value} {xs : List Int} (h : Own k e w lo v xs) : ∃ a c, v = .slice a xs.length c := by
 obtain ⟨a, c, h0, _⟩ := h.rd.len
 exact ⟨a, c, h0⟩
theorem Own.setAt {k : IntKind} {e : TypeId} {w : World} {lo g j : Nat} {v u : Value} {xs : List Int} (h : Own k e w lo v xs) (hne : v.ownBlock = none ∨ v.ownBlock ≠ some g) : Own k e (w.setCell ⟨g, j, none⟩ u) lo v xs :=
 h.other (grownBy_set w w g j u (World.grownBy.refl _ _)) hne
theorem l1Copy_row (w : World) (b o n cap : Nat) (xs : List Int) (hx : xs.length = n) (hb : b < w.heap.size) (hc : ∀ i, i < n → w.cell? ⟨b, o + i, none⟩ = some (.int .u8 (xs.getD i 0))) (hn : n ≤ 1099511627776) :
    Calls Tryz.prog 82 #[.slice (some ⟨b, o, none⟩) n cap] w fun e w' => ∃ v', e = .returned v' ∧ Own .u8 5 w' w.heap.size v' xs ∧ Below w.heap.size w w' := by
 obtain ⟨i0, hi, hz0, hz1, hz2⟩ := info_parts Tryz.infoB
 have HC : Hid (∀ i, i < n → w.cell? ⟨b, o + i, none⟩ = some (.int .u8 (xs.getD i 0))) := hc
 have HX : Hid (xs.length = n) := hx
 clear hc hx
 go_enter Tryz.func82, Tryz.ntmps82
 go_wp2
 go_loopw [3, 4] (fun v i wr => ∃ k : Nat, k ≤ n ∧ i = .int .i64 k ∧ wr.ownsRow w.heap.size 5 1 v k ((xs.take k).map (Value.int .u8)) ∧ Below w.heap.size w wr) (fun _ i _ => n - (intOf i).toNat)
 case atStart => exact ⟨0, Nat.zero_le _, rfl, World.ownsRow_lit w #[] 0 (Nat.le_refl _) (Nat.zero_le _) rfl, (Below.refl _ _).alloc (Nat.le_refl _) _⟩
 case round =>
  obtain ⟨k, hk, rfl, ho, hg⟩ := hrel
  by_cases hlt : k < n
  · have hltI : (k : Int) < (n : Int) := by omega
    have hsrc : wr.cell? ⟨b, o + k, none⟩ = some (.int .u8 (xs.getD k 0)) := (hg.cell (p := ⟨b, o + k, none⟩) hb).trans (HC.out k hlt)
    have HTK : Hid (xs.take (k + 1) = xs.take k ++ [xs.getD k 0]) := take_succ_getD xs k (by rw [HX.out]; exact hlt)
    generalize xs.getD k 0 = x at *
    go_wp2_with (at_builtin; go_must (refine wpList_append_own _ rfl _ _ 22 rfl w.heap.size 5 i0 (.int .u8 0) 1 1 Tryz.underlying22 hi hz0 hz1 hz2 rfl (by decide) _ _ _ rfl (ho.alloc _) ⟨wr.heap.size, 0, none⟩ 1 1 [.int .u8 x] rfl rfl (cell_one_new _ _ _) (by intro u hu; simp at hu; subst hu; rfl) ?c3 ?c4 ?c5 ?_))
    case c3 => unfold maxLen; omega
    case c4 => omega
    case c5 => have := hg.size; simp; omega
    intro v2 w2 ho2 hg2 _
    have HO2 : Hid (w2.ownsRow w.heap.size 5 1 v2 (k + 1) ((xs.take (k + 1)).map (Value.int .u8))) := by
     show World.ownsRow _ _ _ _ _ _ _; rw [HTK.out, List.map_append, List.map_take]; exact ho2
    have HG2 : Hid (Below w.heap.size w w2) := (hg.alloc (hg.size) _).grown hg2 (by have := hg.size; simp; omega) (fun q hq => (ho.lt q hq).1)
    clear ho2 hg2 ho hg
    go_wp2
    go_roundw
    case rel => exact ⟨k + 1, by omega, by go_num, HO2.out, HG2.out⟩
    case measure => simp [intOf]; omega
  · have hkn : k = n := by omega
    subst hkn
    go_wp2
    go_ret
    exact ⟨_, rfl, own_of (ys := xs) HX.out rfl (by rw [List.take_of_length_le (by rw [HX.out]; exact Nat.le_refl _)] at ho; exact ho), hg⟩
theorem l1Copy_nil (w : World) (ao : Option Addr) (cap : Nat) :
    Calls Tryz.prog 82 #[.slice ao 0 cap] w fun e w' => ∃ v', e = .returned v' ∧ Own .u8 5 w' w.heap.size v' [] ∧ Below w.heap.size w w' := by
 go_enter Tryz.func82, Tryz.ntmps82
 go_wp2
 go_rounds 1
 go_ret
 exact ⟨_, rfl, World.ownsRow_lit w #[] 0 (Nat.le_refl _) (Nat.zero_le _) rfl, (Below.refl _ _).alloc (Nat.le_refl _) _⟩
theorem l1Copy_any (w : World) (v : Value) (xs : List Int) (h : Rd .u8 w v xs) (hn : xs.length ≤ 1099511627776) :
    Calls Tryz.prog 82 #[v] w fun e w' => ∃ v', e = .returned v' ∧ Own .u8 5 w' w.heap.size v' xs ∧ Below w.heap.size w w' := by
 obtain ⟨ao, cap, rfl, h1, h2, h3⟩ := h
 rcases h3 with rfl | ⟨b, o, rfl, hb, hc⟩
 · exact l1Copy_nil w ao cap
 · exact l1Copy_row w b o xs.length cap xs rfl hb hc hn
def BoxF (w : World) (b : Nat) (x y : Value) : Prop := Box2 w b x y ∧ w.frozen? ⟨b, 0, none⟩ = false ∧ w.frozen? ⟨b, 1, none⟩ = false
theorem BoxF.below {w w' : World} {b : Nat} {x y : Value} (h : BoxF w b x y) (hb : Below w.heap.size w w') : BoxF w' b x y :=
 ⟨h.1.below hb, (hb.frozen (p := ⟨b, 0, none⟩) h.1.1).trans h.2.1, (hb.frozen (p := ⟨b, 1, none⟩) h.1.1).trans h.2.2⟩
theorem BoxF.new (w : World) (x y : Value) (t : TypeId) : BoxF (w.alloc (.cells #[x, y] t)) w.heap.size x y := ⟨Box2.new _ _ _ _, by simp, by simp⟩
theorem BoxF.other {w w' : World} {b : Nat} {x y : Value} {row : Option Nat} (h : BoxF w b x y) (hg : w.grownBy w' row) (hne : some b ≠ row) : BoxF w' b x y :=
 ⟨h.1.other hg hne, (hg.frozen_far ⟨b, 0, none⟩ h.1.1 hne).trans h.2.1, (hg.frozen_far ⟨b, 1, none⟩ h.1.1 hne).trans h.2.2⟩
def blk (D : List Int) (b : Nat) : List Int := (D.drop (b * 64)).take 64
end Go.Proofs.YtcopcegamadkgaaGreatDoor
namespace Go.Proofs.YtcopcegamadkgaaGreatDoor
open Go.RowKit Go.Shelf
attribute [local go_sem] Oper.semAt_some
attribute [local go_sem] Oper.semAt_some
end Go.Proofs.YtcopcegamadkgaaGreatDoor
namespace Go.Proofs.YtcopcegamadkgaaGreatDoor
open Go.RowKit
end Go.Proofs.YtcopcegamadkgaaGreatDoor
namespace Go.Proofs.YtcopcegamadkgaaGreatDoor
def cP : Nat := 2197175160
def cT (r : Nat) : Nat := (r / 2) ^^^ (if r % 2 = 1 then cP else 0)
def cT4 (r : Nat) : Nat := cT (cT (cT (cT r)))
def cB (r x : Nat) : Nat := cT4 (cT4 (r ^^^ x))
def cS (r x : Nat) : Nat → Nat
 | 0 => r
 | j + 1 => (cS r x j / 2) ^^^ (if (cS r x j + x / 2 ^ j) % 2 = 1 then cP else 0)
def crcL (r : Nat) (xs : List Int) : Nat := xs.foldl (fun a x => cB a x.toNat) r
end Go.Proofs.YtcopcegamadkgaaGreatDoor
namespace Go.Proofs.YtcopcegamadkgaaGreatDoor
open Go.RowKit
def lenV : Value → Nat
 | .slice _ n _ => n
 | _ => 0
def I0 : List Int := treeB [rootN]
def C0 : Nat := 4294967295 - crcL 4294967295 I0
theorem l5Pad_any (w : World) (v : Value) (xs : List Int) (N : Nat) (h : Rd .u8 w v xs) (hx : xs.length ≤ N) (hN : N ≤ 1048576) :
    Calls Tryz.prog 28 #[v, .int .i64 (N : Int)] w fun e w' => ∃ v', e = .returned v' ∧ Own .u8 5 w' w.heap.size v' (xs ++ zeros (N - xs.length)) ∧ Below w.heap.size w w' := by
 obtain ⟨i0, hi, hz0, hz1, hz2⟩ := info_parts Tryz.infoB
 obtain ⟨va, ca, rfl, -⟩ := h.len
 have HR : Hid (Rd .u8 w (.slice va xs.length ca) xs) := h
 clear h
 generalize hm : xs.length = m at *
 have HM : Hid (xs.length = m) := hm
 clear hm
 go_enter Tryz.func28, Tryz.ntmps28
 go_wp2_with fail
 refine (l1Copy_any _ _ xs HR.out (by rw [HM.out]; omega)).mono ?_
 rintro e w1 ⟨v1, rfl, o1, b1⟩
 have O1 : Hid (Own .u8 5 w1 w.heap.size v1 (xs ++ zeros 0)) := by show Own _ _ _ _ _ _; unfold zeros; simpa using o1
 have B1 : Hid (Below w.heap.size w w1) := b1
 clear o1 b1
 go_wp2
 go_loopw [5] (fun u wr => ∃ k a c, m + k ≤ N ∧ u = .slice a (m + k) c ∧ Hid (Own .u8 5 wr w.heap.size (.slice a (m + k) c) (xs ++ zeros k)) ∧ Hid (Below w.heap.size w wr)) (fun u _ => N - lenV u)
 case atStart =>
  have ho := O1.out
  obtain ⟨a, c, hv⟩ := Own.slice ho
  rw [List.length_append, zeros_len, HM.out] at hv
  subst hv
  exact ⟨0, a, c, by omega, rfl, ho, B1.out⟩
 case round =>
  clear O1 B1
  obtain ⟨k, a, c, hk, rfl, HO, HB⟩ := hrel
  by_cases hlt : m + k < N
  · have hltI : ((m + k : Nat) : Int) < (N : Int) := by omega
    have hltI2 : (m : Int) + (k : Int) < (N : Int) := by omega
    have HW : Hid ((wr.alloc (.cells #[.int .u8 0] 5)).ownsRow w.heap.size 5 1 (.slice a (m + k) c) (m + k) ((xs ++ zeros k).map (Value.int .u8))) := by
     have := HO.out
     unfold Own at this
     rw [List.length_append, zeros_len, HM.out] at this
     exact World.ownsRow.alloc this _
    have sB := HB.out.size
    go_wp2_with (at_builtin; go_must (refine wpList_append_own _ rfl _ _ 22 rfl w.heap.size 5 i0 (.int .u8 0) 1 1 Tryz.underlying22 hi hz0 hz1 hz2 rfl (by decide) _ _ _ rfl HW.out ⟨wr.heap.size, 0, none⟩ 1 1 [.int .u8 0] rfl rfl (cell_one_new _ _ _) (by intro u hu; simp at hu; subst hu; rfl) ?c3 ?c4 ?c5 ?_))
    case c3 => unfold maxLen; omega
    case c4 => omega
    case c5 => simp; omega
    intro v2 w2 ho2 hg2 _
    obtain ⟨a2, c2, rfl⟩ : ∃ a2 c2, v2 = .slice a2 (m + k + 1) c2 := by
     rcases ho2.2 with ⟨-, h⟩ | ⟨g, gc, cur, rfl, -⟩
     · omega
     · exact ⟨_, gc, rfl⟩
    have O2 : Hid (Own .u8 5 w2 w.heap.size (.slice a2 (m + (k + 1)) c2) (xs ++ zeros (k + 1))) := by
     refine own_of (q := m + k + 1) (ys := (xs ++ zeros k) ++ [0]) (by rw [List.length_append, List.length_append, zeros_len, HM.out]; rfl) ?_ ?_
     · unfold zeros; rw [List.append_assoc, List.replicate_succ']
     · rw [List.map_append, List.map_append, List.append_assoc]; exact ho2
    have B2 : Hid (Below w.heap.size w w2) := (HB.out.alloc sB _).grown hg2 (by simp; omega) (fun q hq => (World.ownsRow.lt HW.out q hq).1)
    clear ho2 hg2 HW HO HB
    go_wp2
    exact ⟨⟨k + 1, a2, c2, by omega, rfl, O2, B2⟩, by simp [lenV]; omega⟩
  · have hkn : m + k = N := by omega
    have hltI : ¬ ((m + k : Nat) : Int) < (N : Int) := by omega
    have HK : Hid (N - m = k) := by show _ = _; omega
    clear hkn
    have hltI2 : ¬ (m : Int) + (k : Int) < (N : Int) := by omega
    go_wp2
    go_ret
    rw [HK.out]
    exact ⟨_, rfl, HO.out, HB.out⟩
end Go.Proofs.YtcopcegamadkgaaGreatDoor
namespace Go.Proofs.YtcopcegamadkgaaGreatDoor
theorem Sr.next_size (s : Sr) (n : Nat) : (s.next n).2.size = s.size := by
 unfold Sr.next
 split
 · rfl
 · split <;> rfl
theorem Sr.bytes_size (s : Sr) : ∀ n, (s.bytes n).2.size = s.size
 | 0 => rfl
 | n + 1 => by
  show ((s.bytes n).2.next 256).2.size = _
  rw [Sr.next_size, s.bytes_size n]
theorem drP_size : ∀ (d : Nat) (out : List UInt8) (s : Sr), (drP d out s).2.size = s.size
 | 0, _, _ => rfl
 | d + 1, out, s => by
  unfold drP
  split
  · rw [drP_size d, Sr.next_size]
  · split
    · rw [drP_size d, Sr.next_size]
    · split
      · rw [drP_size d, Sr.next_size]
      · exact Sr.next_size _ _
theorem Sr.path_size (s : Sr) : s.path.2.size = s.size := by
 unfold Sr.path
 rw [drP_size, Sr.next_size]
theorem Sr.data_size (s : Sr) : s.data.2.size = s.size := by
 unfold Sr.data
 split
 · exact Sr.next_size _ _
 · split
   · dsimp only
     rw [Sr.bytes_size, Sr.next_size]
   · dsimp only
     rw [Sr.bytes_size, Sr.next_size, Sr.next_size]
theorem Sr.near_size9 (s : Sr) (ns : List Nd) : (s.near ns).2.size = s.size := by
 unfold Sr.near
 split
 · exact s.path_size
 · split
   · show ((s.next ns.length).2.next 2).2.size = _
     rw [Sr.next_size, Sr.next_size]
   · show (((s.next ns.length).2.next 2).2.next 4).2.size = _
     rw [Sr.next_size, Sr.next_size, Sr.next_size]
theorem Sr.vers_size (s : Sr) : s.vers.2.size = s.size := by
 unfold Sr.vers
 split
 · show ((s.next 3).2.next 3).2.size = _
   rw [Sr.next_size, Sr.next_size]
 · exact Sr.next_size _ _
theorem Sr.op_size9 (s : Sr) (ns : List Nd) : (s.op ns).2.size = s.size := by
 unfold Sr.op
 split
 · show (((s.next 12).2.near ns).2.data.2.next 4).2.size = _
   rw [Sr.next_size, Sr.data_size, Sr.near_size9, Sr.next_size]
 · split
   · show ((s.next 12).2.vers.2.near ns).2.size = _
     rw [Sr.near_size9, Sr.vers_size, Sr.next_size]
   · split
     · show ((s.next 12).2.vers.2.near ns).2.data.2.size = _
       rw [Sr.data_size, Sr.near_size9, Sr.vers_size, Sr.next_size]
     · show ((s.next 12).2.vers.2.near ns).2.size = _
       rw [Sr.near_size9, Sr.vers_size, Sr.next_size]
theorem Sr.tries_size (ns : List Nd) : ∀ (n : Nat) (q : Op5 × Sr), (Sr.tries ns n q).2.size = q.2.size
 | 0, _ => rfl
 | n + 1, q => by
  unfold Sr.tries
  split
  · rfl
  · rw [Sr.tries_size ns n, Sr.op_size9]
theorem Sr.rop_size (s : Sr) (ns : List Nd) (n : Nat) : (s.rop ns n).2.size = s.size := by
 unfold Sr.rop
 split
 · split
   · show ((s.op ns).2.next 4).2.size = _
     rw [Sr.next_size, Sr.op_size9]
   · rw [Sr.tries_size]
     show ((s.op ns).2.next 4).2.size = _
     rw [Sr.next_size, Sr.op_size9]
 · exact s.op_size9 ns
theorem Sr.rops_size (s : Sr) (ns : List Nd) (n : Nat) : ∀ j, (s.rops ns n j).2.size = s.size
 | 0 => rfl
 | j + 1 => by
  show ((s.rops ns n j).2.rop ns n).2.size = _
  rw [Sr.rop_size, s.rops_size ns n j]
theorem Sr.req_size (s : Sr) (ns : List Nd) : (s.req ns).2.size = s.size := by
 unfold Sr.req
 rw [Sr.rops_size]
 unfold Sr.reqN
 split
 · show ((s.next 3).2.next 5).2.size = _
   rw [Sr.next_size, Sr.next_size]
 · exact Sr.next_size _ _
theorem LgS.jump_size (g : LgS) : g.jump.s.size = g.s.size := by
 unfold LgS.jump
 split
 · show ((g.s.next 30).2.next 3).2.size = _
   rw [Sr.next_size, Sr.next_size]
 · exact Sr.next_size _ _
theorem LgS.junk_size (g : LgS) : g.junk.s.size = g.s.size := by
 unfold LgS.junk
 split
 · dsimp only
   rw [Sr.bytes_size, Sr.next_size]
 · exact Sr.next_size _ _
theorem LgS.step_size (g : LgS) : g.step.s.size = g.s.size := by
 unfold LgS.step
 split
 · rw [LgS.junk_size, LgS.jump_size]
   exact g.s.req_size g.ns
 · exact g.s.req_size g.ns
theorem LgS.run_size (g : LgS) : ∀ n, (g.run n).s.size = g.s.size
 | 0 => rfl
 | n + 1 => by
  show (g.run n).step.s.size = _
  rw [LgS.step_size, g.run_size n]
end Go.Proofs.YtcopcegamadkgaaGreatDoor
namespace Go.Proofs.YtcopcegamadkgaaGreatDoor
open Go.RowKit Go.Shelf
def rpK (kk : Nat) (ns : List Nd) (z : Nat) (xs : List Int) (s : Sr) : List Nd × Int × List Int :=
 if kk = 0 then (ns, (z : Int) + ((s.next 4).1 : Int) - 1, xs ++ zeros ((s.next 4).2.next 30).1)
 else if kk = 1 then (s.tree.1, (z : Int), xs ++ zeros (s.tree.2.next 30).1)
 else if kk = 2 then (ns, -1, xs ++ zeros (s.next 30).1)
 else if kk = 3 then (ns, (z : Int), if 0 < (xs ++ zeros (s.next 30).1).length then (xs ++ zeros (s.next 30).1).set ((s.next 30).2.next (xs ++ zeros (s.next 30).1).length).1 0 else xs ++ zeros (s.next 30).1)
 else if kk = 4 then (ns, (z : Int) + (((s.next 30).2.next 3).1 : Int), xs ++ zeros (s.next 30).1)
 else (ns, (z : Int), xs ++ zeros (s.next 30).1)
def rpG (s : Sr) : LgS := (LgS.mk (s.grow (4 + s.size)).1 (s.grow (4 + s.size)).2.1 [] (s.grow (4 + s.size)).2.2).run (2 + (s.grow (4 + s.size)).2.2.size)
def rpD (s : Sr) : List Nd × Int × List Int := rpK ((rpG s).s.next 16).1 (s.grow (4 + s.size)).1 (s.grow (4 + s.size)).2.1 (rpG s).xs ((rpG s).s.next 16).2
structure DY (W : World) (k B TB : Nat) (v va : Value) (ns : List Nd) (xs : List Int) (s : Sr) (w : World) : Prop where
 src : SRX w k B s
 bel : Below W.heap.size W w
 cr : w.cell? ⟨W.heap.size, 0, none⟩ = some (.slice none 0 0)
 fr : w.frozen? ⟨W.heap.size, 0, none⟩ = false
 ct : w.cell? ⟨TB, 0, none⟩ = some v
 ft : w.frozen? ⟨TB, 0, none⟩ = false
 rdn : RdN w v ns
 offk : OffK k v
 fb : ∀ b o n c, v = .slice (some ⟨b, o, none⟩) n c → W.heap.size + 1 ≤ b
 ow : Own .u8 5 w (TB + 1) va xs
 lt : TB + 1 ≤ w.heap.size
theorem DY.next {W w w' : World} {k B TB : Nat} {v va : Value} {ns : List Nd} {xs : List Int} {s s' : Sr} (h : DY W k B TB v va ns xs s w) (hs : SRX w' k B s') (t : Tch k w w') (hk : W.heap.size < k) (hT : k < TB) : DY W k B TB v va ns xs s' w' := by
 have hl := h.lt
 have a := t.2 W.heap.size (by omega) (by omega)
 have b := t.2 TB (by omega) (by omega)
 exact ⟨hs, h.bel.trans (t.below (by omega) (by omega)), (World.cell?_of_block (w := w) (a := ⟨W.heap.size, 0, none⟩) a).trans h.cr, (World.frozen?_of_block (w := w) a).trans h.fr, (World.cell?_of_block (w := w) (a := ⟨TB, 0, none⟩) b).trans h.ct, (World.frozen?_of_block (w := w) b).trans h.ft, h.rdn.tchK h.offk t, h.offk, h.fb, rowTch h.ow t (by omega), Nat.le_trans hl t.size⟩
theorem DY.below {W w w' : World} {k B TB : Nat} {v va : Value} {ns : List Nd} {xs : List Int} {s : Sr} (h : DY W k B TB v va ns xs s w) (hb : Below w.heap.size w w') (hk : W.heap.size < k) (hT : k < TB) : DY W k B TB v va ns xs s w' :=
 h.next (h.src.keep (hb.mono h.src.lt)) (Tch.of hb) hk hT
theorem DY.tree {W w : World} {k B TB : Nat} {v v' va : Value} {ns ns' : List Nd} {xs : List Int} {s : Sr} (h : DY W k B TB v va ns xs s w) (r : RdN w v' ns') (hb : ∀ b o n c, v' = .slice (some ⟨b, o, none⟩) n c → TB + 1 ≤ b) (hk : W.heap.size < k) (hkB : k < B) (hT : B ≤ TB) : DY W k B TB v' va ns' xs s (w.setCell ⟨TB, 0, none⟩ v') := by
 have hl := h.lt
 have t := tch_set w TB 0 v'
 have bT : Below TB w (w.setCell ⟨TB, 0, none⟩ v') := t.below (Nat.le_refl _) (by omega)
 have G : w.grownBy (w.setCell ⟨TB, 0, none⟩ v') (some TB) := grownBy_set _ _ _ _ _ (World.grownBy.refl _ _)
 refine ⟨h.src.keep (bT.mono hT), h.bel.trans (bT.mono (by omega)), (bT.cell (p := ⟨W.heap.size, 0, none⟩) (show W.heap.size < _ by omega)).trans h.cr, (bT.frozen (p := ⟨W.heap.size, 0, none⟩) (show W.heap.size < _ by omega)).trans h.fr, World.cell?_setCell_same _ _ _ h.ct, by rw [World.frozen?_setCell]; exact h.ft, r.tchK (fun b o n c e e2 => by have := hb b o n c e; omega) t, fun b o n c e e2 => by have := hb b o n c e; omega, fun b o n c e => by have := hb b o n c e; omega, World.ownsRow.kept h.ow G (.inr (fun e => by have := (h.ow.lt _ e).1; omega)), by simpa using hl⟩
theorem DY.pad {W w w' : World} {k B TB : Nat} {v va va' : Value} {ns : List Nd} {xs ys : List Int} {s : Sr} (h : DY W k B TB v va ns xs s w) (hb : Below w.heap.size w w') (o : Own .u8 5 w' w.heap.size va' ys) (hk : W.heap.size < k) (hT : k < TB) : DY W k B TB v va' ns ys s w' := by
 have h2 := h.below hb hk hT
 have hl := h.lt
 exact ⟨h2.src, h2.bel, h2.cr, h2.fr, h2.ct, h2.ft, h2.rdn, h2.offk, h2.fb, o.mono hl, h2.lt⟩
theorem DY.fin {W w : World} {k B TB : Nat} {v va : Value} {ns : List Nd} {xs : List Int} {s : Sr} (h : DY W k B TB v va ns xs s w) (hT : W.heap.size < TB) : RdN (w.setCell ⟨W.heap.size, 0, none⟩ v) v ns ∧ Own .u8 5 (w.setCell ⟨W.heap.size, 0, none⟩ v) W.heap.size va xs ∧ Below W.heap.size W (w.setCell ⟨W.heap.size, 0, none⟩ v) ∧ ∀ b o n c, v = .slice (some ⟨b, o, none⟩) n c → W.heap.size + 1 ≤ b := by
 have G : w.grownBy (w.setCell ⟨W.heap.size, 0, none⟩ v) (some W.heap.size) := grownBy_set _ _ _ _ _ (World.grownBy.refl _ _)
 have o : Own .u8 5 (w.setCell ⟨W.heap.size, 0, none⟩ v) (TB + 1) va xs := World.ownsRow.kept h.ow G (.inr (fun e => by have := (h.ow.lt _ e).1; omega))
 exact ⟨h.rdn.tchK (fun b o n c e e2 => by have := h.fb b o n c e; omega) (tch_set w _ 0 v), o.mono (by omega), h.bel.setCell (by show W.heap.size ≤ W.heap.size; omega) _, h.fb⟩
theorem drawRep_x (W : World) (vc : Value) (cs : List Int) (h : Rd .u8 W vc cs) (hby : Byt cs) (hn : cs.length ≤ 1048576) :
    Calls Tryz.prog 5 #[vc] W fun e w' => ∃ v va, e = .returned (.tuple #[.agg #[v], .int .i64 (rpD (srcOf cs)).2.1, va]) ∧ RdN w' v (rpD (srcOf cs)).1 ∧ Own .u8 5 w' W.heap.size va (rpD (srcOf cs)).2.2 ∧ Below W.heap.size W w' ∧ ∀ b o n c, v = .slice (some ⟨b, o, none⟩) n c → W.heap.size + 1 ≤ b := by
 have BR : Hid (Below W.heap.size W (W.alloc (.cells #[.slice none 0 0] 25))) := (Below.refl _ _).alloc (Nat.le_refl _) _
 have HR : Hid (Rd .u8 (W.alloc (.cells #[.slice none 0 0] 25)) vc cs) := h.below BR.out
 have c0 : Hid ((W.alloc (.cells #[.slice none 0 0] 25)).cell? ⟨W.heap.size, 0, none⟩ = some (.slice none 0 0)) := by show _ = _; simp
 have f0 : Hid ((W.alloc (.cells #[.slice none 0 0] 25)).frozen? ⟨W.heap.size, 0, none⟩ = false) := by show _ = _; simp
 have hs : (W.alloc (.cells #[.slice none 0 0] 25)).heap.size = W.heap.size + 1 := by simp
 obtain ⟨ca, cc, rfl, -⟩ := h.len
 obtain ⟨RES, hRES⟩ : ∃ r, r = rpD (srcOf cs) := ⟨_, rfl⟩
 rw [← hRES]
 have HRES : Hid (rpD (srcOf cs) = RES) := hRES.symm
 clear h hRES
 go_enter Tryz.func5, Tryz.ntmps5
 go_wp2_with fail
 generalize W.alloc (.cells #[.slice none 0 0] 25) = w0 at *
 refine (sourceX_any w0 _ cs HR.out hby hn).mono ?_
 rintro e w1 ⟨k, rfl, hk, s1, b1⟩
 generalize srcOf cs = s at *
 have hsz := s1.sz
 have hz1 := b1.size
 have hkB := s1.kB
 have S1 : Hid (SRX w1 k w1.heap.size s) := s1
 have B1 : Hid (Below w0.heap.size w0 w1) := b1
 have c3 := s1.c3
 have HGI := s.grow_inv (4 + s.size) (by omega)
 have CG := grow_x w1 k w1.heap.size (4 + s.size) s s1 (by omega)
 rw [show ((4 + s.size : Nat) : Int) = 4 + (s.size : Int) by omega] at CG
 clear s1 b1 HR
 unfold rpD rpG at HRES
 generalize s.grow (4 + s.size) = q at *
 go_wp2_with fail
 refine CG.mono ?_
 rintro e w2 ⟨v, rfl, o2, s2, t2⟩
 clear CG c3
 have hz2 := t2.size
 obtain ⟨av, cv, rfl⟩ := OwnN.slice9 o2
 have hsz2 := s2.sz
 have bA : Below w2.heap.size w2 (w2.alloc (.cells #[.slice av q.1.length cv] 25)) := (Below.refl _ _).alloc (Nat.le_refl _) _
 have S3 : Hid (SRX (w2.alloc (.cells #[.slice av q.1.length cv] 25)) k w1.heap.size q.2.2) := s2.keep (bA.mono s2.lt)
 have O3 : Hid (OwnN 85 (w2.alloc (.cells #[.slice av q.1.length cv] 25)) w1.heap.size (.slice av q.1.length cv) q.1) := o2.below bA
 have HVT : Hid (∀ b o n c, Value.slice av q.1.length cv = .slice (some ⟨b, o, none⟩) n c → w1.heap.size ≤ b ∧ b < w2.heap.size) := fun b o n c e => by
  cases e
  rcases o2.2 with ⟨h9, -⟩ | ⟨g, cap, cur, h9, -⟩
  · cases h9
  · have h8 : (Value.slice (some ⟨b, o, none⟩) q.1.length cv).ownBlock = some g := by rw [h9]; rfl
    cases h9
    exact World.ownsRow.lt o2 _ rfl
 have B3 : Hid (Below (W.heap.size + 1) w0 (w2.alloc (.cells #[.slice av q.1.length cv] 25))) := by
  rw [← hs]
  exact B1.out.trans ((t2.below (by omega) (by omega)).trans (bA.mono (by omega)))
 have CT3 : Hid ((w2.alloc (.cells #[.slice av q.1.length cv] 25)).cell? ⟨w2.heap.size, 0, none⟩ = some (.slice av q.1.length cv)) := by show _ = _; simp
 have FT3 : Hid ((w2.alloc (.cells #[.slice av q.1.length cv] 25)).frozen? ⟨w2.heap.size, 0, none⟩ = false) := by show _ = _; simp
 have z3 : (w2.alloc (.cells #[.slice av q.1.length cv] 25)).heap.size = w2.heap.size + 1 := by simp
 clear bA o2 s2 t2
 go_wp2_with fail
 generalize w2.alloc (.cells #[.slice av q.1.length cv] 25) = w3 at *
 generalize w2.heap.size = TB at *
 obtain ⟨hsnd, hlen, hzq⟩ := HGI
 have S3d : Hid (SRX (w3.drewN 1) k w1.heap.size q.2.2) := S3.out.keep ((below_drewN' w3 1).mono S3.out.lt)
 have O3d : Hid (OwnN 85 (w3.drewN 1) w1.heap.size (.slice av q.1.length cv) q.1) := O3.out.below (below_drewN' w3 1)
 have CL := log_x (w3.drewN 1) k w1.heap.size w1.heap.size (2 + q.2.2.size) q.2.1 q.2.2 _ q.1 S3d.out O3d.out hkB (show w1.heap.size ≤ w3.heap.size by omega) hsnd (by omega) (by omega) (by omega)
 rw [show ((2 + q.2.2.size : Nat) : Int) = 2 + (q.2.2.size : Int) by omega] at CL
 have HLI : Hid (((LgS.mk q.1 q.2.1 [] q.2.2).run (2 + q.2.2.size)).xs.length ≤ 92000 ∧ Byt ((LgS.mk q.1 q.2.1 [] q.2.2).run (2 + q.2.2.size)).xs) := by
  have h9 := LgI.run (g := LgS.mk q.1 q.2.1 [] q.2.2) (c := 100) (d := 1000) (e := 0) ⟨hsnd, by show q.1.length ≤ _; omega, by show q.2.1 ≤ _; omega, Nat.le_refl _, fun x hx => by cases hx⟩ (by omega) (2 + q.2.2.size) (by omega)
  have h8 := h9.xs
  exact ⟨by omega, h9.byt⟩
 clear hsnd
 refine wp_region_held_drew (S := fun w9 => (w9.cell? ⟨TB, 0, none⟩ = some (.slice av q.1.length cv)) ∧ (w9.cell? ⟨k, 3, none⟩ = some (.int .i64 (q.2.2.size : Int)))) (by kernel_rfl) (⟨CT3.out, S3d.out.c3⟩) (fun hHeld => ?_)
 refine tkL9 (i := 0) (oi := ⟨some 23, _, _, _, _, _⟩) (v := (.pointer (some ⟨k, 0, none⟩))) rfl (by kernel_rfl) (fun _ _ _ h => h) (by rfl) (by assumption) ?hy1 ?_
 case hy1 => intro w9 hS9; obtain ⟨h9, h8⟩ := hS9; go_simp; try with_reducible rfl
 try simp only [Act.put, sT9, sZ9, sS9]
 refine tkL9 (i := 1) (oi := ⟨some 24, _, _, _, _, _⟩) (v := (.agg #[.slice av q.1.length cv])) rfl (by kernel_rfl) (fun _ _ _ h => h) (by rfl) (by assumption) ?hy2 ?_
 case hy2 => intro w9 hS9; obtain ⟨h9, h8⟩ := hS9; go_simp; try with_reducible rfl
 try simp only [Act.put, sT9, sZ9, sS9]
 refine tkL9 (i := 2) (oi := ⟨some 25, _, _, _, _, _⟩) (v := (.int .i64 (q.2.1 : Int))) rfl (by kernel_rfl) (fun _ _ _ h => h) (by rfl) (by assumption) ?hy3 ?_
 case hy3 => intro w9 hS9; obtain ⟨h9, h8⟩ := hS9; go_simp; try with_reducible rfl
 try simp only [Act.put, sT9, sZ9, sS9]
 refine tkL9 (i := 3) (oi := ⟨some 26, _, _, _, _, _⟩) (v := (.pointer (some ⟨k, 0, none⟩))) rfl (by kernel_rfl) (fun _ _ _ h => h) (by rfl) (by assumption) ?hy4 ?_
 case hy4 => intro w9 hS9; obtain ⟨h9, h8⟩ := hS9; go_simp; try with_reducible rfl
 try simp only [Act.put, sT9, sZ9, sS9]
 refine tkL9 (i := 4) (oi := ⟨some 27, _, _, _, _, _⟩) (v := (.pointer (some ⟨k, 0, none⟩))) rfl (by kernel_rfl) (fun _ _ _ h => h) (by rfl) (by assumption) ?hy5 ?_
 case hy5 => intro w9 hS9; obtain ⟨h9, h8⟩ := hS9; go_simp; try with_reducible rfl
 try simp only [Act.put, sT9, sZ9, sS9]
 refine tkL9 (i := 5) (oi := ⟨some 28, _, _, _, _, _⟩) (v := (.pointer (some ⟨k, 3, none⟩))) rfl (by kernel_rfl) (fun _ _ _ h => h) (by rfl) (by assumption) ?hy6 ?_
 case hy6 => intro w9 hS9; obtain ⟨h9, h8⟩ := hS9; go_simp; try with_reducible rfl
 try simp only [Act.put, sT9, sZ9, sS9]
 refine tkL9 (i := 6) (oi := ⟨some 29, _, _, _, _, _⟩) (v := (.int .i64 (q.2.2.size : Int))) rfl (by kernel_rfl) (fun _ _ _ h => h) (by rfl) (by assumption) ?hy7 ?_
 case hy7 => intro w9 hS9; obtain ⟨h9, h8⟩ := hS9; go_simp; try with_reducible rfl
 try simp only [Act.put, sT9, sZ9, sS9]
 refine tkL9 (i := 7) (oi := ⟨some 30, _, _, _, _, _⟩) (v := (.int .i64 (2 + (q.2.2.size : Int)))) rfl (by kernel_rfl) (fun _ _ _ h => h) (by rfl) (by assumption) ?hy8 ?_
 case hy8 => intro w9 hS9; obtain ⟨h9, h8⟩ := hS9; go_simp; rw [IntKind.wrap_i64]; omega
 try simp only [Act.put, sT9, sZ9, sS9]
 refine wpAnyH_ready (rs := [8]) (by kernel_rfl) (by simp) ?_
 refine AllReadyH.cons (o := ⟨some 31, _, _, _, _, _⟩) rfl (fun K hK => ?_) AllReadyH.nil
 go_simp
 refine CL.mono ?_
 clear CL
 rintro e w4 ⟨va, rfl, o4, s4, t4⟩
 have hrs := (LgS.mk q.1 q.2.1 [] q.2.2).run_size (2 + q.2.2.size)
 have HZR : Hid (((LgS.mk q.1 q.2.1 [] q.2.2).run (2 + q.2.2.size)).xs.length ≤ 92000 ∧ Byt ((LgS.mk q.1 q.2.1 [] q.2.2).run (2 + q.2.2.size)).xs) := HLI.out
 generalize (LgS.mk q.1 q.2.1 [] q.2.2).run (2 + q.2.2.size) = G at *
 have hne : TB ≠ k := by omega
 have hd3 : (w3.drewN 1).heap.size = w3.heap.size := rfl
 have b34 : Below (W.heap.size + 1) w3 w4 := ((below_drewN' w3 1).mono (by omega)).trans (t4.below (by omega) (by omega))
 have b04 : Below (W.heap.size + 1) w0 w4 := B3.out.trans b34
 have eT := t4.2 TB hne (by omega)
 have D4 : Hid (DY W k w1.heap.size TB (.slice av q.1.length cv) va q.1 G.xs G.s w4) := by
  refine ⟨s4, BR.out.trans (b04.mono (by omega)), (b04.cell (p := ⟨W.heap.size, 0, none⟩) (show W.heap.size < _ by omega)).trans c0.out, (b04.frozen (p := ⟨W.heap.size, 0, none⟩) (show W.heap.size < _ by omega)).trans f0.out, (World.cell?_of_block (a := ⟨TB, 0, none⟩) eT).trans CT3.out, (World.frozen?_of_block eT).trans FT3.out, (OwnN.rd O3d.out).tchK (OwnN.offK O3d.out hkB) t4, OwnN.offK O3d.out hkB, fun b o n c e => by have := (HVT.out b o n c e).1; omega, o4.mono (by omega), by have := t4.size; omega⟩
 have hS4 : (w4.cell? ⟨TB, 0, none⟩ = some (.slice av q.1.length cv)) ∧ (w4.cell? ⟨k, 3, none⟩ = some (.int .i64 (q.2.2.size : Int))) := ⟨D4.out.ct, by rw [← hrs]; exact s4.c3⟩
 refine hK.out _ _ hS4 (fun hx9 => ?_)
 clear hK K hHeld
 have hHeld := hx9
 clear hx9
 try simp only [Act.put, sT9, sZ9, sS9]
 refine tkL9 (i := 9) (oi := ⟨some 8, _, _, _, _, _⟩) (v := va) rfl (by kernel_rfl) (fun _ _ _ h => h) (by rfl) (by assumption) ?hy99 ?_
 case hy99 => intro w9 hS9; go_simp; try with_reducible rfl
 try simp only [Act.put, sT9, sZ9, sS9]
 refine wpAnyH_done (by kernel_rfl) ?_ _
 clear hHeld hS4 o4 s4 t4 b34 b04 eT S3d O3d S3 O3 B3 CT3 FT3 c0 f0 BR B1 S1
 obtain ⟨va1, vc1, rfl⟩ := ownB_slice D4.out.ow
 have hxl := HZR.out.1
 have hk1 : W.heap.size < k := by omega
 have hkT : k < TB := by omega
 have hBT : w1.heap.size ≤ TB := hz2
 go_wp2_with fail
 refine (next_x _ k w1.heap.size 16 G.s D4.out.src (by omega)).mono ?_
 rintro e w5 ⟨rfl, s5, t5⟩
 have D5 := hd9 (D4.out.next s5 t5 hk1 hkT)
 have hlt16 := G.s.next_lt 16 (by omega)
 clear s5 t5 D4
 generalize (G.s.next 16).1 = kk at *
 generalize (G.s.next 16).2 = s16 at *
 unfold rpK at HRES
 generalize G.xs = xs at *
 generalize q.1 = ns at *
 generalize q.2.1 = z at *
 by_cases h0 : kk = 0
 · subst h0
   rw [if_pos rfl] at HRES
   go_wp2_with fail
   refine (next_x _ k w1.heap.size 4 s16 D5.out.src (by omega)).mono ?_
   rintro e w6 ⟨rfl, s6, t6⟩
   have D6 := hd9 (D5.out.next s6 t6 hk1 hkT)
   have hl4 := s16.next_lt 4 (by omega)
   clear s6 t6 D5
   generalize s16.next 4 = n4 at *
   go_wp2_with fail
   refine (next_x _ k w1.heap.size 30 n4.2 D6.out.src (by omega)).mono ?_
   rintro e w7 ⟨rfl, s7, t7⟩
   have D7 := hd9 (D6.out.next s7 t7 hk1 hkT)
   have hl30 := n4.2.next_lt 30 (by omega)
   clear s7 t7 D6
   generalize n4.2.next 30 = n30 at *
   have CP := l5Pad_any w7 (.slice va1 xs.length vc1) xs (xs.length + n30.1) D7.out.ow.rd (by omega) (by omega)
   rw [Nat.add_sub_cancel_left, show ((xs.length + n30.1 : Nat) : Int) = (xs.length : Int) + (n30.1 : Int) by omega] at CP
   go_wp2_with fail
   refine CP.mono ?_
   clear CP
   rintro e w8 ⟨vp, rfl, o8, b8⟩
   have D8 : Hid (DY W k w1.heap.size TB (.slice av ns.length cv) vp ns (xs ++ zeros n30.1) n30.2 w8) := D7.out.pad b8 o8 hk1 hkT
   clear o8 b8 D7
   have hyl : (xs ++ zeros n30.1).length ≤ 92100 := by rw [List.length_append, zeros_len]; omega
   generalize xs ++ zeros n30.1 = ys at *
   obtain ⟨pa, pc, rfl⟩ := ownB_slice D8.out.ow
   have F : Hid (RdN (w8.setCell ⟨W.heap.size, 0, none⟩ (.slice av ns.length cv)) (.slice av ns.length cv) RES.1 ∧ Own .u8 5 (w8.setCell ⟨W.heap.size, 0, none⟩ (.slice av ns.length cv)) W.heap.size (.slice pa ys.length pc) RES.2.2 ∧ Below W.heap.size W (w8.setCell ⟨W.heap.size, 0, none⟩ (.slice av ns.length cv)) ∧ ∀ b o n c, (.slice av ns.length cv) = Value.slice (some ⟨b, o, none⟩) n c → W.heap.size + 1 ≤ b) := by
    rw [← HRES.out]
    exact D8.out.fin (by omega)
   have HS : Hid (RES.2.1 = (z : Int) + (n4.1 : Int) - 1) := by show _ = _; rw [← HRES.out]
   have ct := D8.out.ct
   have cr := D8.out.cr
   have fr := D8.out.fr
   have hne3 : TB ≠ W.heap.size := by omega
   clear D8 HRES
   go_wp2
   rw [HS.out]
   exact bodyPost_ret (v := .tuple #[.agg #[(.slice av ns.length cv)], .int .i64 ((z : Int) + (n4.1 : Int) - 1), .slice pa ys.length pc]) (by simp [results, Tryz.results5, go_sem, cr]) rfl ⟨_, _, rfl, F.out.1, F.out.2.1, F.out.2.2⟩
 by_cases h1 : kk = 1
 · subst h1
   rw [if_neg (by decide)] at HRES
   rw [if_pos rfl] at HRES
   go_wp2_with fail
   refine (tree_x w5 k w1.heap.size s16 D5.out.src).mono ?_
   rintro e w6 ⟨v6, rfl, r6, s6, t6, hb6⟩
   have D6 := hd9 (D5.out.next s6 t6 hk1 hkT)
   have hl5 := D5.out.lt
   have D6' : Hid (DY W k w1.heap.size TB v6 (.slice va1 xs.length vc1) s16.tree.1 xs s16.tree.2 (w6.setCell ⟨TB, 0, none⟩ v6)) := D6.out.tree r6 (fun b o n c e => by have := hb6 b o n c e; omega) hk1 hkB hBT
   obtain ⟨a6, c6, rfl, -⟩ := r6.len
   have ct6 := D6.out.ct
   have ft6 := D6.out.ft
   clear s6 t6 D5 D6 r6 hb6
   go_wp2_with fail
   clear ct6 ft6
   generalize w6.setCell ⟨TB, 0, none⟩ (.slice a6 s16.tree.1.length c6) = w6s at *
   generalize s16.tree = tq at *
   go_wp2_with fail
   refine (next_x _ k w1.heap.size 30 tq.2 D6'.out.src (by omega)).mono ?_
   rintro e w7 ⟨rfl, s7, t7⟩
   have D7 := hd9 (D6'.out.next s7 t7 hk1 hkT)
   have hl30 := tq.2.next_lt 30 (by omega)
   clear s7 t7 D6'
   generalize tq.2.next 30 = n30 at *
   have CP := l5Pad_any w7 (.slice va1 xs.length vc1) xs (xs.length + n30.1) D7.out.ow.rd (by omega) (by omega)
   rw [Nat.add_sub_cancel_left, show ((xs.length + n30.1 : Nat) : Int) = (xs.length : Int) + (n30.1 : Int) by omega] at CP
   go_wp2_with fail
   refine CP.mono ?_
   clear CP
   rintro e w8 ⟨vp, rfl, o8, b8⟩
   have D8 : Hid (DY W k w1.heap.size TB (.slice a6 tq.1.length c6) vp tq.1 (xs ++ zeros n30.1) n30.2 w8) := D7.out.pad b8 o8 hk1 hkT
   clear o8 b8 D7
   have hyl : (xs ++ zeros n30.1).length ≤ 92100 := by rw [List.length_append, zeros_len]; omega
   generalize xs ++ zeros n30.1 = ys at *
   obtain ⟨pa, pc, rfl⟩ := ownB_slice D8.out.ow
   have F : Hid (RdN (w8.setCell ⟨W.heap.size, 0, none⟩ (.slice a6 tq.1.length c6)) (.slice a6 tq.1.length c6) RES.1 ∧ Own .u8 5 (w8.setCell ⟨W.heap.size, 0, none⟩ (.slice a6 tq.1.length c6)) W.heap.size (.slice pa ys.length pc) RES.2.2 ∧ Below W.heap.size W (w8.setCell ⟨W.heap.size, 0, none⟩ (.slice a6 tq.1.length c6)) ∧ ∀ b o n c, (.slice a6 tq.1.length c6) = Value.slice (some ⟨b, o, none⟩) n c → W.heap.size + 1 ≤ b) := by
    rw [← HRES.out]
    exact D8.out.fin (by omega)
   have HS : Hid (RES.2.1 = (z : Int)) := by show _ = _; rw [← HRES.out]
   have ct := D8.out.ct
   have cr := D8.out.cr
   have fr := D8.out.fr
   have hne3 : TB ≠ W.heap.size := by omega
   clear D8 HRES
   go_wp2
   rw [HS.out]
   exact bodyPost_ret (v := .tuple #[.agg #[(.slice a6 tq.1.length c6)], .int .i64 ((z : Int)), .slice pa ys.length pc]) (by simp [results, Tryz.results5, go_sem, cr]) rfl ⟨_, _, rfl, F.out.1, F.out.2.1, F.out.2.2⟩
 by_cases h2 : kk = 2
 · subst h2
   rw [if_neg (by decide)] at HRES
   rw [if_neg (by decide)] at HRES
   rw [if_pos rfl] at HRES
   go_wp2_with fail
   refine (next_x _ k w1.heap.size 30 s16 D5.out.src (by omega)).mono ?_
   rintro e w7 ⟨rfl, s7, t7⟩
   have D7 := hd9 (D5.out.next s7 t7 hk1 hkT)
   have hl30 := s16.next_lt 30 (by omega)
   clear s7 t7 D5
   generalize s16.next 30 = n30 at *
   have CP := l5Pad_any w7 (.slice va1 xs.length vc1) xs (xs.length + n30.1) D7.out.ow.rd (by omega) (by omega)
   rw [Nat.add_sub_cancel_left, show ((xs.length + n30.1 : Nat) : Int) = (xs.length : Int) + (n30.1 : Int) by omega] at CP
   go_wp2_with fail
   refine CP.mono ?_
   clear CP
   rintro e w8 ⟨vp, rfl, o8, b8⟩
   have D8 : Hid (DY W k w1.heap.size TB (.slice av ns.length cv) vp ns (xs ++ zeros n30.1) n30.2 w8) := D7.out.pad b8 o8 hk1 hkT
   clear o8 b8 D7
   have hyl : (xs ++ zeros n30.1).length ≤ 92100 := by rw [List.length_append, zeros_len]; omega
   generalize xs ++ zeros n30.1 = ys at *
   obtain ⟨pa, pc, rfl⟩ := ownB_slice D8.out.ow
   have F : Hid (RdN (w8.setCell ⟨W.heap.size, 0, none⟩ (.slice av ns.length cv)) (.slice av ns.length cv) RES.1 ∧ Own .u8 5 (w8.setCell ⟨W.heap.size, 0, none⟩ (.slice av ns.length cv)) W.heap.size (.slice pa ys.length pc) RES.2.2 ∧ Below W.heap.size W (w8.setCell ⟨W.heap.size, 0, none⟩ (.slice av ns.length cv)) ∧ ∀ b o n c, (.slice av ns.length cv) = Value.slice (some ⟨b, o, none⟩) n c → W.heap.size + 1 ≤ b) := by
    rw [← HRES.out]
    exact D8.out.fin (by omega)
   have HS : Hid (RES.2.1 = -1) := by show _ = _; rw [← HRES.out]
   have ct := D8.out.ct
   have cr := D8.out.cr
   have fr := D8.out.fr
   have hne3 : TB ≠ W.heap.size := by omega
   clear D8 HRES
   go_wp2
   rw [HS.out]
   exact bodyPost_ret (v := .tuple #[.agg #[(.slice av ns.length cv)], .int .i64 (-1), .slice pa ys.length pc]) (by simp [results, Tryz.results5, go_sem, cr]) rfl ⟨_, _, rfl, F.out.1, F.out.2.1, F.out.2.2⟩
 by_cases h3 : kk = 3
 · subst h3
   rw [if_neg (by decide)] at HRES
   rw [if_neg (by decide)] at HRES
   rw [if_neg (by decide)] at HRES
   rw [if_pos rfl] at HRES
   go_wp2_with fail
   refine (next_x _ k w1.heap.size 30 s16 D5.out.src (by omega)).mono ?_
   rintro e w7 ⟨rfl, s7, t7⟩
   have D7 := hd9 (D5.out.next s7 t7 hk1 hkT)
   have hl30 := s16.next_lt 30 (by omega)
   clear s7 t7 D5
   generalize s16.next 30 = n30 at *
   have CP := l5Pad_any w7 (.slice va1 xs.length vc1) xs (xs.length + n30.1) D7.out.ow.rd (by omega) (by omega)
   rw [Nat.add_sub_cancel_left, show ((xs.length + n30.1 : Nat) : Int) = (xs.length : Int) + (n30.1 : Int) by omega] at CP
   go_wp2_with fail
   refine CP.mono ?_
   clear CP
   rintro e w8 ⟨vp, rfl, o8, b8⟩
   have D8 : Hid (DY W k w1.heap.size TB (.slice av ns.length cv) vp ns (xs ++ zeros n30.1) n30.2 w8) := D7.out.pad b8 o8 hk1 hkT
   clear o8 b8 D7
   have hyl : (xs ++ zeros n30.1).length ≤ 92100 := by rw [List.length_append, zeros_len]; omega
   generalize xs ++ zeros n30.1 = ys at *
   obtain ⟨pa, pc, rfl⟩ := ownB_slice D8.out.ow
   by_cases hpos : 0 < ys.length
   · rw [if_pos hpos] at HRES
     have hposI : (0 : Int) < (ys.length : Int) := by omega
     go_wp2_with fail
     refine (next_x _ k w1.heap.size ys.length n30.2 D8.out.src (by omega)).mono ?_
     rintro e w9 ⟨rfl, s9, t9⟩
     have D9 := hd9 (D8.out.next s9 t9 hk1 hkT)
     have hli := n30.2.next_lt ys.length (by omega)
     clear s9 t9 D8
     generalize n30.2.next ys.length = ni at *
     obtain ⟨g, rfl⟩ : ∃ g, pa = some ⟨g, 0, none⟩ := by
      rcases D9.out.ow.2 with ⟨h9, h8⟩ | ⟨g, cap, cur, h9, -⟩
      · omega
      · simp only [Value.slice.injEq] at h9; exact ⟨g, h9.1⟩
     have hgl := (D9.out.ow.lt g rfl)
     have ow9 : w9.ownsRow (TB + 1) 5 1 (.slice (some ⟨g, 0, none⟩) ys.length pc) ys.length (ys.map (Value.int .u8)) := D9.out.ow
     have hf := World.ownsRow.frozenAt ow9 ni.1
     obtain ⟨cc9, hc⟩ : ∃ c, w9.cell? ⟨g, ni.1, none⟩ = some c := ⟨_, (World.ownsRow.cellAt ow9 ni.1 (by omega)).trans (List.getElem?_eq_getElem (by simp; exact hli))⟩
     have ow10 := (World.ownsRow.stored ow9 ni.1 (.int .u8 0)).1
     rw [← List.map_set] at ow10
     have hyl2 : (ys.set ni.1 0).length = ys.length := by simp
     have D10 : Hid (DY W k w1.heap.size TB (.slice av ns.length cv) (.slice (some ⟨g, 0, none⟩) ys.length pc) ns (ys.set ni.1 0) ni.2 (w9.setCell ⟨g, ni.1, none⟩ (.int .u8 0))) := by
      have t := tch_set w9 g ni.1 (.int .u8 0)
      have hl9 := D9.out.lt
      have bg : Below (TB + 1) w9 (w9.setCell ⟨g, ni.1, none⟩ (.int .u8 0)) := t.below hgl.1 (by omega)
      refine ⟨D9.out.src.keep (bg.mono (by omega)), D9.out.bel.trans (bg.mono (by omega)), (bg.cell (p := ⟨W.heap.size, 0, none⟩) (show W.heap.size < _ by omega)).trans D9.out.cr, (bg.frozen (p := ⟨W.heap.size, 0, none⟩) (show W.heap.size < _ by omega)).trans D9.out.fr, (bg.cell (p := ⟨TB, 0, none⟩) (show TB < _ by omega)).trans D9.out.ct, (bg.frozen (p := ⟨TB, 0, none⟩) (show TB < _ by omega)).trans D9.out.ft, D9.out.rdn.tchK (fun b o n c e e2 => by have := (HVT.out b o n c e).2; omega) t, D9.out.offk, D9.out.fb, ?_, by simpa using hl9⟩
      show World.ownsRow _ _ _ _ _ _ _
      rw [hyl2]
      exact ow10
     have F : Hid (RdN ((w9.setCell ⟨g, ni.1, none⟩ (.int .u8 0)).setCell ⟨W.heap.size, 0, none⟩ (.slice av ns.length cv)) (.slice av ns.length cv) RES.1 ∧ Own .u8 5 ((w9.setCell ⟨g, ni.1, none⟩ (.int .u8 0)).setCell ⟨W.heap.size, 0, none⟩ (.slice av ns.length cv)) W.heap.size (.slice (some ⟨g, 0, none⟩) ys.length pc) RES.2.2 ∧ Below W.heap.size W ((w9.setCell ⟨g, ni.1, none⟩ (.int .u8 0)).setCell ⟨W.heap.size, 0, none⟩ (.slice av ns.length cv)) ∧ ∀ b o n c, (.slice av ns.length cv) = Value.slice (some ⟨b, o, none⟩) n c → W.heap.size + 1 ≤ b) := by
      rw [← HRES.out]
      exact D10.out.fin (by omega)
     have HS : Hid (RES.2.1 = (z : Int)) := by show _ = _; rw [← HRES.out]
     have ct := D10.out.ct
     have cr := D10.out.cr
     have fr := D10.out.fr
     have hne3 : TB ≠ W.heap.size := by omega
     have hliI : (ni.1 : Int) < (ys.length : Int) := by omega
     clear D9 D10 HRES ow9 ow10 hyl2
     go_wp2
     rw [HS.out]
     exact bodyPost_ret (v := .tuple #[.agg #[(.slice av ns.length cv)], .int .i64 (z : Int), .slice (some ⟨g, 0, none⟩) ys.length pc]) (by simp [results, Tryz.results5, go_sem, cr]) rfl ⟨_, _, rfl, F.out.1, F.out.2.1, F.out.2.2⟩
   · rw [if_neg hpos] at HRES
     have hposI : ¬ (0 : Int) < (ys.length : Int) := by omega
     have F : Hid (RdN (w8.setCell ⟨W.heap.size, 0, none⟩ (.slice av ns.length cv)) (.slice av ns.length cv) RES.1 ∧ Own .u8 5 (w8.setCell ⟨W.heap.size, 0, none⟩ (.slice av ns.length cv)) W.heap.size (.slice pa ys.length pc) RES.2.2 ∧ Below W.heap.size W (w8.setCell ⟨W.heap.size, 0, none⟩ (.slice av ns.length cv)) ∧ ∀ b o n c, (.slice av ns.length cv) = Value.slice (some ⟨b, o, none⟩) n c → W.heap.size + 1 ≤ b) := by
      rw [← HRES.out]
      exact D8.out.fin (by omega)
     have HS : Hid (RES.2.1 = (z : Int)) := by show _ = _; rw [← HRES.out]
     have ct := D8.out.ct
     have cr := D8.out.cr
     have fr := D8.out.fr
     have hne3 : TB ≠ W.heap.size := by omega
     clear D8 HRES
     go_wp2
     rw [HS.out]
     exact bodyPost_ret (v := .tuple #[.agg #[(.slice av ns.length cv)], .int .i64 ((z : Int)), .slice pa ys.length pc]) (by simp [results, Tryz.results5, go_sem, cr]) rfl ⟨_, _, rfl, F.out.1, F.out.2.1, F.out.2.2⟩
 by_cases h4 : kk = 4
 · subst h4
   rw [if_neg (by decide)] at HRES
   rw [if_neg (by decide)] at HRES
   rw [if_neg (by decide)] at HRES
   rw [if_neg (by decide)] at HRES
   rw [if_pos rfl] at HRES
   go_wp2_with fail
   refine (next_x _ k w1.heap.size 30 s16 D5.out.src (by omega)).mono ?_
   rintro e w7 ⟨rfl, s7, t7⟩
   have D7 := hd9 (D5.out.next s7 t7 hk1 hkT)
   have hl30 := s16.next_lt 30 (by omega)
   clear s7 t7 D5
   generalize s16.next 30 = n30 at *
   have CP := l5Pad_any w7 (.slice va1 xs.length vc1) xs (xs.length + n30.1) D7.out.ow.rd (by omega) (by omega)
   rw [Nat.add_sub_cancel_left, show ((xs.length + n30.1 : Nat) : Int) = (xs.length : Int) + (n30.1 : Int) by omega] at CP
   go_wp2_with fail
   refine CP.mono ?_
   clear CP
   rintro e w8 ⟨vp, rfl, o8, b8⟩
   have D8 : Hid (DY W k w1.heap.size TB (.slice av ns.length cv) vp ns (xs ++ zeros n30.1) n30.2 w8) := D7.out.pad b8 o8 hk1 hkT
   clear o8 b8 D7
   have hyl : (xs ++ zeros n30.1).length ≤ 92100 := by rw [List.length_append, zeros_len]; omega
   generalize xs ++ zeros n30.1 = ys at *
   obtain ⟨pa, pc, rfl⟩ := ownB_slice D8.out.ow
   go_wp2_with fail
   refine (next_x _ k w1.heap.size 3 n30.2 D8.out.src (by omega)).mono ?_
   rintro e w9 ⟨rfl, s9, t9⟩
   have D9 := hd9 (D8.out.next s9 t9 hk1 hkT)
   have hl3 := n30.2.next_lt 3 (by omega)
   clear s9 t9 D8
   generalize n30.2.next 3 = n3 at *
   have F : Hid (RdN (w9.setCell ⟨W.heap.size, 0, none⟩ (.slice av ns.length cv)) (.slice av ns.length cv) RES.1 ∧ Own .u8 5 (w9.setCell ⟨W.heap.size, 0, none⟩ (.slice av ns.length cv)) W.heap.size (.slice pa ys.length pc) RES.2.2 ∧ Below W.heap.size W (w9.setCell ⟨W.heap.size, 0, none⟩ (.slice av ns.length cv)) ∧ ∀ b o n c, (.slice av ns.length cv) = Value.slice (some ⟨b, o, none⟩) n c → W.heap.size + 1 ≤ b) := by
    rw [← HRES.out]
    exact D9.out.fin (by omega)
   have HS : Hid (RES.2.1 = (z : Int) + (n3.1 : Int)) := by show _ = _; rw [← HRES.out]
   have ct := D9.out.ct
   have cr := D9.out.cr
   have fr := D9.out.fr
   have hne3 : TB ≠ W.heap.size := by omega
   clear D9 HRES
   go_wp2
   rw [HS.out]
   exact bodyPost_ret (v := .tuple #[.agg #[(.slice av ns.length cv)], .int .i64 ((z : Int) + (n3.1 : Int)), .slice pa ys.length pc]) (by simp [results, Tryz.results5, go_sem, cr]) rfl ⟨_, _, rfl, F.out.1, F.out.2.1, F.out.2.2⟩
 rw [if_neg h0, if_neg h1, if_neg h2, if_neg h3, if_neg h4] at HRES
 have g0 : ((kk : Int) == 0) = false := by simp; omega
 have j0 : ¬ (kk : Int) = 0 := by omega
 have g1 : ((kk : Int) == 1) = false := by simp; omega
 have j1 : ¬ (kk : Int) = 1 := by omega
 have g2 : ((kk : Int) == 2) = false := by simp; omega
 have j2 : ¬ (kk : Int) = 2 := by omega
 have g3 : ((kk : Int) == 3) = false := by simp; omega
 have j3 : ¬ (kk : Int) = 3 := by omega
 have g4 : ((kk : Int) == 4) = false := by simp; omega
 have j4 : ¬ (kk : Int) = 4 := by omega
 go_wp2_with fail
 refine (next_x _ k w1.heap.size 30 s16 D5.out.src (by omega)).mono ?_
 rintro e w7 ⟨rfl, s7, t7⟩
 have D7 := hd9 (D5.out.next s7 t7 hk1 hkT)
 have hl30 := s16.next_lt 30 (by omega)
 clear s7 t7 D5
 generalize s16.next 30 = n30 at *
 have CP := l5Pad_any w7 (.slice va1 xs.length vc1) xs (xs.length + n30.1) D7.out.ow.rd (by omega) (by omega)
 rw [Nat.add_sub_cancel_left, show ((xs.length + n30.1 : Nat) : Int) = (xs.length : Int) + (n30.1 : Int) by omega] at CP
 go_wp2_with fail
 refine CP.mono ?_
 clear CP
 rintro e w8 ⟨vp, rfl, o8, b8⟩
 have D8 : Hid (DY W k w1.heap.size TB (.slice av ns.length cv) vp ns (xs ++ zeros n30.1) n30.2 w8) := D7.out.pad b8 o8 hk1 hkT
 clear o8 b8 D7
 have hyl : (xs ++ zeros n30.1).length ≤ 92100 := by rw [List.length_append, zeros_len]; omega
 generalize xs ++ zeros n30.1 = ys at *
 obtain ⟨pa, pc, rfl⟩ := ownB_slice D8.out.ow
 have F : Hid (RdN (w8.setCell ⟨W.heap.size, 0, none⟩ (.slice av ns.length cv)) (.slice av ns.length cv) RES.1 ∧ Own .u8 5 (w8.setCell ⟨W.heap.size, 0, none⟩ (.slice av ns.length cv)) W.heap.size (.slice pa ys.length pc) RES.2.2 ∧ Below W.heap.size W (w8.setCell ⟨W.heap.size, 0, none⟩ (.slice av ns.length cv)) ∧ ∀ b o n c, (.slice av ns.length cv) = Value.slice (some ⟨b, o, none⟩) n c → W.heap.size + 1 ≤ b) := by
  rw [← HRES.out]
  exact D8.out.fin (by omega)
 have HS : Hid (RES.2.1 = (z : Int)) := by show _ = _; rw [← HRES.out]
 have ct := D8.out.ct
 have cr := D8.out.cr
 have fr := D8.out.fr
 have hne3 : TB ≠ W.heap.size := by omega
 clear D8 HRES
 go_wp2
 rw [HS.out]
 exact bodyPost_ret (v := .tuple #[.agg #[(.slice av ns.length cv)], .int .i64 ((z : Int)), .slice pa ys.length pc]) (by simp [results, Tryz.results5, go_sem, cr]) rfl ⟨_, _, rfl, F.out.1, F.out.2.1, F.out.2.2⟩
end Go.Proofs.YtcopcegamadkgaaGreatDoor
namespace Go.Proofs.YtcopcegamadkgaaGreatDoor
open Go.RowKit
end Go.Proofs.YtcopcegamadkgaaGreatDoor
namespace Go.Proofs.YtcopcegamadkgaaGreatDoor
open Go.RowKit Go.Shelf
theorem widO_sz (i : Nat) : (widO i).path.size ≤ 1000 ∧ (widO i).data.size ≤ 1000 := by
 unfold widO
 constructor
 · show ((⟨#[47, 110]⟩ : ByteArray) ++ ⟨(six 5 i 4).toArray⟩).size ≤ 1000
   have := six_len 5 i 4
   rw [ByteArray.size_append]
   show 2 + (six 5 i 4).toArray.size ≤ 1000
   simp; omega
 · exact Nat.zero_le _
def Sz9 (ns : List Nd) : Prop := ∀ n ∈ ns, n.path.size ≤ 1000 ∧ n.data.size ≤ 1000
theorem Sz9.at {ns : List Nd} (h : Sz9 ns) (i : Nat) : (nAt ns i).path.size ≤ 1048576 ∧ (nAt ns i).data.size ≤ 1048576 := by
 by_cases hi : i < ns.length
 · have := h _ (List.getElem_mem hi)
   rw [nAt_get hi]; omega
 · have : nAt ns i = nd0 := by unfold nAt; simp [List.getD, List.getElem?_eq_none (show ns.length ≤ i by omega)]
   rw [this]; simp [nd0]
theorem snd_sz9 {ns : List Nd} (h : Snd ns) : Sz9 ns := fun n hn => by have := okNd_all (h.2.1 n hn); omega
theorem Sz9.set {ns : List Nd} (h : Sz9 ns) (i : Nat) {x : Nd} (hx : x.path.size ≤ 1000 ∧ x.data.size ≤ 1000) : Sz9 (ns.set i x) := fun n hn => by
 rcases List.mem_or_eq_of_mem_set hn with h1 | h1
 · exact h n h1
 · rw [h1]; exact hx
theorem wid_sz9 : ∀ n, Sz9 (widN n)
 | 0 => fun n hn => by
  have : n = rootN := by simpa [widN] using hn
  rw [this]; decide
 | k + 1 => fun n hn => by
  rcases List.mem_append.1 hn with h | h
  · exact wid_sz9 k n h
  · have : n = widO (k + 1) := by simpa using h
    rw [this]; exact widO_sz _
theorem tree_sz9 (s : Sr) (hs : s.size ≤ 7) : Sz9 s.tree.1 ∧ s.tree.1.length ≤ 1048576 := by
 obtain ⟨h1, h2, -⟩ := s.grow_inv (4 + 3 * s.size) (by omega)
 have hz := snd_sz9 h1
 unfold Sr.tree treeD
 generalize (s.grow (4 + 3 * s.size)).1 = ns at *
 generalize (s.grow (4 + 3 * s.size)).2.2 = s0 at *
 generalize ((s0.next 40).2.next ns.length).1 = i
 generalize ((s0.next 40).2.next ns.length).2 = s2
 have hm : ∀ j, (nAt ns j).path.size ≤ 1000 ∧ (nAt ns j).data.size ≤ 1000 := snd_sz h1
 have hmi := hm i
 have hm0 := hm 0
 have e2 : (⟨#[47, 65]⟩ : ByteArray).size = 2 := rfl
 have hset : ∀ x : Nd, x.path.size ≤ 1000 ∧ x.data.size ≤ 1000 → Sz9 (ns.set i x) ∧ (ns.set i x).length ≤ 1048576 := fun x hx => ⟨hz.set _ hx, by rw [List.length_set]; omega⟩
 unfold treeK
 split
 · exact ⟨wid_sz9 _, by show (widN _).length ≤ _; rw [widN_len]; have := s2.next_lt 2 (by omega); omega⟩
 split
 · exact hset _ hmi
 split
 · exact hset _ hmi
 split
 · exact hset _ ⟨by show (⟨#[47, 65]⟩ : ByteArray).size ≤ _; rw [e2]; omega, hmi.2⟩
 split
 · exact hset _ ⟨hmi.1, by show (strOfNums _).size ≤ _; rw [strOfNums_size, Sr.bytes_len]; omega⟩
 split
 · refine hset _ ⟨?_, hmi.2⟩
   show (if 1 < ns.length then (nAt ns 0).path else (nAt ns i).path).size ≤ _
   split
   · exact hm0.1
   · exact hmi.1
 split
 · exact hset _ hmi
 split
 · exact ⟨fun n hn => hz n (List.mem_of_mem_drop hn), by show (ns.drop i).length ≤ _; rw [List.length_drop]; omega⟩
 split
 · exact ⟨fun n hn => (by cases hn), Nat.zero_le _⟩
 · exact hset _ hmi
theorem Sr.gop_size9 (s : Sr) (ns : List Nd) (i : Nat) : (s.gop ns i).2.size = s.size := by
 unfold Sr.gop
 split
 · dsimp only
   rw [Sr.near_size9, Sr.op_size9]
 · exact s.op_size9 ns
theorem Sr.grow_size (s : Sr) : ∀ i, (s.grow i).2.2.size = s.size
 | 0 => rfl
 | i + 1 => by
  unfold Sr.grow
  split
  · dsimp only
    rw [Sr.gop_size9, s.grow_size i]
  · dsimp only
    rw [Sr.gop_size9, s.grow_size i]
theorem byt_zeros (n : Nat) : Byt (zeros n) := fun x hx => by
 unfold zeros at hx
 have := (List.mem_replicate.1 hx).2
 omega
theorem byt_set {xs : List Int} (h : Byt xs) (i : Nat) : Byt (xs.set i 0) := fun x hx => by
 rcases List.mem_or_eq_of_mem_set hx with h1 | h1
 · exact h x h1
 · omega
theorem rpD_ok (s : Sr) (hs : 1 ≤ s.size ∧ s.size ≤ 7) : Sz9 (rpD s).1 ∧ (rpD s).1.length ≤ 1048576 ∧ (rpD s).2.2.length ≤ 92200 ∧ Byt (rpD s).2.2 := by
 obtain ⟨hsnd, hlen, hz⟩ := s.grow_inv (4 + s.size) (by omega)
 have hgs := s.grow_size (4 + s.size)
 have hrs : (rpG s).s.size = s.size := by
  unfold rpG
  rw [LgS.run_size]
  exact hgs
 have hI : LgI (rpG s) (100 + 5 * (2 + (s.grow (4 + s.size)).2.2.size)) (1000 + 3 * (2 + (s.grow (4 + s.size)).2.2.size)) (0 + 4600 * (2 + (s.grow (4 + s.size)).2.2.size)) := by
  unfold rpG
  exact LgI.run (c := 100) (d := 1000) (e := 0) ⟨hsnd, by show (s.grow (4 + s.size)).1.length ≤ _; omega, by show (s.grow (4 + s.size)).2.1 ≤ _; omega, Nat.le_refl _, fun x hx => by cases hx⟩ (by omega) _ (by omega)
 have hx := hI.xs
 have hb := hI.byt
 have hz9 : Sz9 (s.grow (4 + s.size)).1 := snd_sz9 hsnd
 have hns : ((rpG s).s.next 16).2.size ≤ 7 := by rw [Sr.next_size, hrs]; omega
 obtain ⟨ht1, ht2⟩ := tree_sz9 ((rpG s).s.next 16).2 hns
 unfold rpD
 generalize ((rpG s).s.next 16).2 = s2 at *
 generalize ((rpG s).s.next 16).1 = kk at *
 generalize (s.grow (4 + s.size)).1 = ns at *
 generalize (s.grow (4 + s.size)).2.1 = z at *
 have hpl : ∀ m, m < 30 → ((rpG s).xs ++ zeros m).length ≤ 92200 := fun m hm => by rw [List.length_append, zeros_len]; omega
 have hpb : ∀ m, Byt ((rpG s).xs ++ zeros m) := fun m => byt_app hb (byt_zeros m)
 have hln : ns.length ≤ 1048576 := by omega
 generalize (rpG s).xs = xs at *
 have h30 : ∀ t : Sr, (t.next 30).1 < 30 := fun t => t.next_lt 30 (by omega)
 unfold rpK
 split
 · exact ⟨hz9, hln, hpl _ (h30 _), hpb _⟩
 split
 · exact ⟨ht1, ht2, hpl _ (h30 _), hpb _⟩
 split
 · exact ⟨hz9, hln, hpl _ (h30 _), hpb _⟩
 split
 · have q1 := hpl _ (h30 s2)
   have q2 := hpb (s2.next 30).1
   generalize xs ++ zeros (s2.next 30).1 = ys at *
   refine ⟨hz9, hln, ?_, ?_⟩
   · dsimp only
     split
     · rw [List.length_set]; exact q1
     · exact q1
   · dsimp only
     split
     · exact byt_set q2 _
     · exact q2
 split
 · exact ⟨hz9, hln, hpl _ (h30 _), hpb _⟩
 · exact ⟨hz9, hln, hpl _ (h30 _), hpb _⟩
theorem srcOf_size (cs : List Int) : 1 ≤ (srcOf cs).size ∧ (srcOf cs).size ≤ 7 := by
 show 1 ≤ min 7 (1 + _) ∧ min 7 (1 + _) ≤ 7
 omega
end Go.Proofs.YtcopcegamadkgaaGreatDoor
namespace Go.Proofs.YtcopcegamadkgaaGreatDoor
open Go.RowKit
def ndP (s : ByteArray) : Nd := ⟨s, ByteArray.empty, 0, 0, 0, 0, 0⟩
def rdE : List Int → Option (Ef × List Int)
 | [] => none
 | y :: r => if y = 1 then (rdNd r).map (fun q => (⟨false, q.1⟩, q.2)) else if y = 2 then (rdT r).map (fun q => (⟨true, ndP q.1⟩, q.2)) else none
theorem rdE_byt {ys r : List Int} {e : Ef} (h : rdE ys = some (e, r)) (hb : Byt ys) : Byt r ∧ r.length < ys.length ∧ e.nd.path.size < 256 ∧ e.nd.data.size < 256 := by
 cases ys with
 | nil => simp [rdE] at h
 | cons y t =>
  have ht : Byt t := fun x hx => hb x (List.mem_cons_of_mem _ hx)
  simp only [rdE] at h
  split at h
  · obtain ⟨⟨n, r'⟩, h1, h2⟩ := Option.map_eq_some_iff.1 h
    simp only [Prod.mk.injEq] at h2
    obtain ⟨rfl, rfl⟩ := h2
    have := rdNd_byt h1 ht
    exact ⟨this.1, by simp; omega, this.2.2.1, this.2.2.2⟩
  · split at h
    · obtain ⟨⟨s, r'⟩, h1, h2⟩ := Option.map_eq_some_iff.1 h
      simp only [Prod.mk.injEq] at h2
      obtain ⟨rfl, rfl⟩ := h2
      have := rdT_byt h1 ht
      exact ⟨this.1, by simp; omega, this.2.2, by show ByteArray.empty.size < 256; decide⟩
    · cases h
def pEs : Nat → List Int → Option (List Ef × List Int)
 | 0, ys => some ([], ys)
 | c + 1, ys =>
  match rdE ys with
  | none => none
  | some (e, r) => (pEs c r).map fun q => (e :: q.1, q.2)
def ParE (C : Nat) (ys : List Int) (es : List Ef) (r : List Int) (c : Nat) : Prop := pEs C ys = (pEs c r).map (fun q => (es ++ q.1, q.2)) ∧ es.length + r.length ≤ ys.length
theorem ParE.start (C : Nat) (ys : List Int) : ParE C ys [] ys C := ⟨by simp, by simp⟩
theorem ParE.step {C c : Nat} {ys : List Int} {es : List Ef} {r r' : List Int} {e : Ef} (h : ParE C ys es r (c + 1)) (hb : Byt r) (hr : rdE r = some (e, r')) : ParE C ys (es ++ [e]) r' c := by
 obtain ⟨he, hl⟩ := h
 have h1 := (rdE_byt hr hb).2.1
 refine ⟨?_, by simp; omega⟩
 rw [he]
 simp only [pEs, hr, Option.map_map]
 congr 1
 funext q
 simp
theorem ParE.done {C : Nat} {ys : List Int} {es : List Ef} {r : List Int} (h : ParE C ys es r 0) : pEs C ys = some (es, r) := by
 rw [h.1]; simp [pEs]
theorem ParE.bad {C c : Nat} {ys : List Int} {es : List Ef} {r : List Int} (h : ParE C ys es r (c + 1)) (hr : rdE r = none) : pEs C ys = none := by
 rw [h.1]; simp [pEs, hr]
def cntX (ys : List Int) : Nat := numB ((ys.drop 4).take 2)
def zX (ys : List Int) : Nat := numB (ys.take 4)
def decX (ys : List Int) : Option (Int × List Ef) :=
 if ys.length < 6 then none else
 match pEs (cntX ys) (ys.drop 6) with
 | none => none
 | some (es, r) => if r = [] ∧ okTxn (zX ys) es = true then some ((zX ys : Int), es) else none
theorem wrap2 {ys : List Int} (h : Byt ys) : wrap64 ((numB (ys.take 2) : Nat) : Int) = ((numB (ys.take 2) : Nat) : Int) ∧ numB (ys.take 2) < 65536 := by
 have hb := (bigR_numB (ys.take 2).length (ys.take 2) rfl (fun x hx => h x (List.mem_of_mem_take hx))).2
 have h1 : 256 ^ (ys.take 2).length ≤ 256 ^ 2 := Nat.pow_le_pow_right (by omega) (by rw [List.length_take]; omega)
 have h2 : numB (ys.take 2) < 65536 := Nat.lt_of_lt_of_le hb h1
 unfold wrap64
 omega
def SzE (es : List Ef) : Prop := ∀ n ∈ es, n.nd.path.size < 256 ∧ n.nd.data.size < 256
theorem SzE.at {ns : List Ef} (h : SzE ns) (i : Nat) : (eAt ns i).nd.path.size ≤ 1048576 ∧ (eAt ns i).nd.data.size ≤ 1048576 := by
 by_cases hi : i < ns.length
 · rw [eAt_get hi]
   have := h _ (List.getElem_mem hi)
   omega
 · unfold eAt; rw [List.getD, List.getElem?_eq_none (by omega)]; exact ⟨Nat.zero_le _, Nat.zero_le _⟩
theorem SzE.snoc {es : List Ef} {e : Ef} (h : SzE es) (h1 : e.nd.path.size < 256) (h2 : e.nd.data.size < 256) : SzE (es ++ [e]) := by
 intro m hm
 rcases List.mem_append.1 hm with hm | hm
 · exact h m hm
 · simp at hm; subst hm; exact ⟨h1, h2⟩
def EB (W : World) (B : Nat) (n : Nd) (m : Int) : Prop := NB W B n ∧ W.cell? ⟨B, 7, none⟩ = some (.int .u8 m)
theorem EB.turn {W W' : World} {B : Nat} {n : Nd} {m : Int} {row : Option Nat} (h : EB W B n m) (hg : W.grownBy W' row) (hne : some B ≠ row) : EB W' B n m :=
 ⟨h.1.turn hg hne, (World.cell?_of_block (a := ⟨B, 7, none⟩) (hg.block B h.1.1.lt hne)).trans h.2⟩
theorem EB.other {W : World} {B B' : Nat} {n : Nd} {m : Int} (h : EB W B n m) (hne : B ≠ B') (i : Nat) (u : Value) : EB (W.setCell ⟨B', i, none⟩ u) B n m :=
 ⟨h.1.other hne i u, (World.cell?_setCell_other _ _ _ _ (by intro e; injection e with e; omega)).trans h.2⟩
theorem EB.new (w : World) (n : Nd) (m : Int) (t : TypeId) : EB (w.alloc (.cells #[.string n.path, .string n.data, .int .i64 n.ver, .int .i64 n.cver, .int .i64 n.cz, .int .i64 n.mz, .int .i64 n.pz, .int .u8 m] t)) w.heap.size n m := by
 have := heap_alloc_new w (.cells #[.string n.path, .string n.data, .int .i64 n.ver, .int .i64 n.cver, .int .i64 n.cz, .int .i64 n.mz, .int .i64 n.pz, .int .u8 m] t)
 exact ⟨⟨⟨by simp, (cell_of this _).trans rfl, (cell_of this _).trans rfl, (cell_of this _).trans rfl, (cell_of this _).trans rfl, (cell_of this _).trans rfl, (cell_of this _).trans rfl, (cell_of this _).trans rfl⟩, fun j => (by go_simp)⟩, (cell_of this _).trans rfl⟩
theorem cell7_set {W : World} {B i : Nat} {u x : Value} (h : W.cell? ⟨B, 7, none⟩ = some x) (hi : i ≠ 7) : (W.setCell ⟨B, i, none⟩ u).cell? ⟨B, 7, none⟩ = some x :=
 (World.cell?_setCell_other _ _ _ _ (by intro e; injection e with _ e; omega)).trans h
theorem EB.putN {W : World} {B : Nat} {n : Nd} {m : Int} (h : EB W B n m) (n' : Nd) :
    EB (((((((W.setCell ⟨B, 0, none⟩ (.string n'.path)).setCell ⟨B, 1, none⟩ (.string n'.data)).setCell ⟨B, 2, none⟩ (.int .i64 n'.ver)).setCell ⟨B, 3, none⟩ (.int .i64 n'.cver)).setCell ⟨B, 4, none⟩ (.int .i64 n'.cz)).setCell ⟨B, 5, none⟩ (.int .i64 n'.mz)).setCell ⟨B, 6, none⟩ (.int .i64 n'.pz)) B n' m := by
 refine ⟨((((((h.1.put0 n'.path).put1 n'.data).put2 n'.ver).put3 n'.cver).put4 n'.cz).put5 n'.mz).put6 n'.pz, ?_⟩
 iterate 7 refine cell7_set ?_ (by omega)
 exact h.2
theorem EB.putP {W : World} {B : Nat} {n : Nd} {m : Int} (h : EB W B n m) (s : ByteArray) : EB (W.setCell ⟨B, 0, none⟩ (.string s)) B { n with path := s } m :=
 ⟨h.1.put0 s, cell7_set h.2 (by omega)⟩
def efIV (e : Ef) : Value := .agg #[.string e.nd.path, .string e.nd.data, .int .i64 e.nd.ver, .int .i64 e.nd.cver, .int .i64 e.nd.cz, .int .i64 e.nd.mz, .int .i64 e.nd.pz, .int .u8 (mkB e)]
def EfPost (w0 w : World) (k : Nat) (ys : List Int) (e : Ending) (w' : World) : Prop :=
 w.grownBy w' (some k) ∧ ((rdE ys = none ∧ e = .panicked badChain) ∨ ∃ ef r, rdE ys = some (ef, r) ∧ e = .returned (efIV ef) ∧ RS w0 w' k r)
theorem effectImage_any (w0 w : World) (k : Nat) (ys : List Int) (h : RS w0 w k ys) (hby : Byt ys) :
    Calls Tryz.prog 94 #[.pointer (some ⟨k, 0, none⟩)] w fun e w' => EfPost w0 w k ys e w' := by
 have hk := h.2.1
 have hk0 := h.1
 have HS : Hid (RS w0 (w.alloc (.cells #[.string ⟨#[]⟩, .string ⟨#[]⟩, .int .i64 0, .int .i64 0, .int .i64 0, .int .i64 0, .int .i64 0, .int .u8 0] 157)) k ys) := h.new ((Below.refl _ _).alloc (Nat.le_refl _) _)
 have E1 : Hid (EB (w.alloc (.cells #[.string ⟨#[]⟩, .string ⟨#[]⟩, .int .i64 0, .int .i64 0, .int .i64 0, .int .i64 0, .int .i64 0, .int .u8 0] 157)) w.heap.size nd0 0) := EB.new w nd0 0 _
 have G1 : Hid (w.grownBy (w.alloc (.cells #[.string ⟨#[]⟩, .string ⟨#[]⟩, .int .i64 0, .int .i64 0, .int .i64 0, .int .i64 0, .int .i64 0, .int .u8 0] 157)) (some k)) := grown_alloc _ _ _
 have s1 : w.heap.size + 1 ≤ (w.alloc (.cells #[.string ⟨#[]⟩, .string ⟨#[]⟩, .int .i64 0, .int .i64 0, .int .i64 0, .int .i64 0, .int .i64 0, .int .u8 0] 157)).heap.size := by simp
 clear h
 go_enter Tryz.func94, Tryz.ntmps94
 go_wp2_with fail
 generalize w.alloc (.cells #[.string ⟨#[]⟩, .string ⟨#[]⟩, .int .i64 0, .int .i64 0, .int .i64 0, .int .i64 0, .int .i64 0, .int .u8 0] 157) = w1 at *
 cases ys with
 | nil =>
  refine (oneByte_none w0 w1 k HS.out).mono ?_
  rintro e w2 ⟨rfl, rfl⟩
  exact ⟨rfl, G1.out, .inl ⟨rfl, rfl⟩⟩
 | cons y r =>
  have hy := hby y (by simp)
  have HBR : Hid (Byt r) := fun x hx => hby x (List.mem_cons_of_mem _ hx)
  obtain ⟨m, rfl⟩ : ∃ m : Nat, y = (m : Int) := ⟨y.toNat, by omega⟩
  have hm : m < 256 := by omega
  clear hby hy
  refine (oneByte_any w0 w1 k m r HS.out).mono ?_
  rintro e w2 ⟨rfl, r2, g2⟩
  have s2 := g2.size
  have R2 : Hid (RS w0 w2 k r) := r2
  have G2 := hd9 (G1.out.trans g2)
  have E2 := hd9 (E1.out.turn g2 (by simp; omega))
  clear r2 g2 HS E1 G1
  have R3 : Hid (RS w0 (w2.alloc (.cells #[.string ⟨#[]⟩, .string ⟨#[]⟩, .int .i64 0, .int .i64 0, .int .i64 0, .int .i64 0, .int .i64 0, .int .u8 (m : Int)] 157)) k r) := R2.out.new ((Below.refl _ _).alloc (Nat.le_refl _) _)
  have G3 : Hid (w.grownBy (w2.alloc (.cells #[.string ⟨#[]⟩, .string ⟨#[]⟩, .int .i64 0, .int .i64 0, .int .i64 0, .int .i64 0, .int .i64 0, .int .u8 (m : Int)] 157)) (some k)) := G2.out.trans (grown_alloc _ _ _)
  have E3 : Hid (EB (w2.alloc (.cells #[.string ⟨#[]⟩, .string ⟨#[]⟩, .int .i64 0, .int .i64 0, .int .i64 0, .int .i64 0, .int .i64 0, .int .u8 (m : Int)] 157)) w.heap.size nd0 0) := E2.out.turn (grown_alloc _ _ none) (by simp)
  have F3 : Hid (EB (w2.alloc (.cells #[.string ⟨#[]⟩, .string ⟨#[]⟩, .int .i64 0, .int .i64 0, .int .i64 0, .int .i64 0, .int .i64 0, .int .u8 (m : Int)] 157)) w2.heap.size nd0 m) := EB.new w2 nd0 m _
  clear R2 G2 E2
  have hw2 : w.heap.size < w2.heap.size := by omega
  have hk2 : k < w2.heap.size := by omega
  by_cases h1 : m = 1
  · subst h1
    go_wp2_with fail
    generalize w2.alloc (.cells #[.string ⟨#[]⟩, .string ⟨#[]⟩, .int .i64 0, .int .i64 0, .int .i64 0, .int .i64 0, .int .i64 0, .int .u8 1] 157) = w3 at *
    generalize w2.heap.size = B3 at *
    refine (nodeImage_any w0 w3 k r R3.out HBR.out).mono ?_
    rintro e w4 ⟨g4, hp⟩
    rcases hp with ⟨hp, rfl⟩ | ⟨n, r', hp, rfl, hr4⟩
    · exact ⟨rfl, G3.out.trans g4, .inl ⟨by simp [rdE, hp], rfl⟩⟩
    have HRD : Hid (rdE (((1 : Nat) : Int) :: r) = some (⟨false, n⟩, r')) := by show _ = _; simp [rdE, hp]
    have G4 := hd9 (G3.out.trans g4)
    have R4 : Hid (RS w0 w4 k r') := hr4
    have E4 := hd9 (E3.out.turn g4 (by simp; omega))
    have F4 := hd9 (F3.out.turn g4 (by simp; omega))
    clear g4 hp hr4 G3 R3 E3 F3
    rename_i K1 a1 K0 a0
    have HK1 : Hid _ := a1
    clear a1
    have hne : w.heap.size ≠ B3 := by omega
    have F5 : Hid (EB (((((((w4.setCell ⟨B3, 0, none⟩ (.string n.path)).setCell ⟨B3, 1, none⟩ (.string n.data)).setCell ⟨B3, 2, none⟩ (.int .i64 n.ver)).setCell ⟨B3, 3, none⟩ (.int .i64 n.cver)).setCell ⟨B3, 4, none⟩ (.int .i64 n.cz)).setCell ⟨B3, 5, none⟩ (.int .i64 n.mz)).setCell ⟨B3, 6, none⟩ (.int .i64 n.pz)) B3 n 1) := F4.out.putN n
    have E5 : Hid (EB (((((((w4.setCell ⟨B3, 0, none⟩ (.string n.path)).setCell ⟨B3, 1, none⟩ (.string n.data)).setCell ⟨B3, 2, none⟩ (.int .i64 n.ver)).setCell ⟨B3, 3, none⟩ (.int .i64 n.cver)).setCell ⟨B3, 4, none⟩ (.int .i64 n.cz)).setCell ⟨B3, 5, none⟩ (.int .i64 n.mz)).setCell ⟨B3, 6, none⟩ (.int .i64 n.pz)) w.heap.size nd0 0) := (((((((E4.out.other hne _ _).other hne _ _).other hne _ _).other hne _ _).other hne _ _).other hne _ _).other hne _ _)
    have R5 : Hid (RS w0 (((((((w4.setCell ⟨B3, 0, none⟩ (.string n.path)).setCell ⟨B3, 1, none⟩ (.string n.data)).setCell ⟨B3, 2, none⟩ (.int .i64 n.ver)).setCell ⟨B3, 3, none⟩ (.int .i64 n.cver)).setCell ⟨B3, 4, none⟩ (.int .i64 n.cz)).setCell ⟨B3, 5, none⟩ (.int .i64 n.mz)).setCell ⟨B3, 6, none⟩ (.int .i64 n.pz)) k r') := (((((((R4.out.setOther (by omega) (by omega) _ _).setOther (by omega) (by omega) _ _).setOther (by omega) (by omega) _ _).setOther (by omega) (by omega) _ _).setOther (by omega) (by omega) _ _).setOther (by omega) (by omega) _ _).setOther (by omega) (by omega) _ _)
    have G5 : Hid (w.grownBy (((((((w4.setCell ⟨B3, 0, none⟩ (.string n.path)).setCell ⟨B3, 1, none⟩ (.string n.data)).setCell ⟨B3, 2, none⟩ (.int .i64 n.ver)).setCell ⟨B3, 3, none⟩ (.int .i64 n.cver)).setCell ⟨B3, 4, none⟩ (.int .i64 n.cz)).setCell ⟨B3, 5, none⟩ (.int .i64 n.mz)).setCell ⟨B3, 6, none⟩ (.int .i64 n.pz)) (some k)) := (grown_new (grown_new (grown_new (grown_new (grown_new (grown_new (grown_new G4.out (Nat.le_of_lt hw2) _ _) (Nat.le_of_lt hw2) _ _) (Nat.le_of_lt hw2) _ _) (Nat.le_of_lt hw2) _ _) (Nat.le_of_lt hw2) _ _) (Nat.le_of_lt hw2) _ _) (Nat.le_of_lt hw2) _ _)
    obtain ⟨⟨⟨dl, d0, d1, d2, d3, d4, d5, d6⟩, df⟩, d7⟩ := F4.out
    unfold ndV
    go_wp2
    refine HK1.out _ _ ?_
    clear dl d0 d1 d2 d3 d4 d5 d6 df d7 F4 E4 R4 G4 HK1
    generalize (((((((w4.setCell ⟨B3, 0, none⟩ (.string n.path)).setCell ⟨B3, 1, none⟩ (.string n.data)).setCell ⟨B3, 2, none⟩ (.int .i64 n.ver)).setCell ⟨B3, 3, none⟩ (.int .i64 n.cver)).setCell ⟨B3, 4, none⟩ (.int .i64 n.cz)).setCell ⟨B3, 5, none⟩ (.int .i64 n.mz)).setCell ⟨B3, 6, none⟩ (.int .i64 n.pz)) = w5 at *
    obtain ⟨⟨⟨dl, d0, d1, d2, d3, d4, d5, d6⟩, df⟩, d7⟩ := F5.out
    obtain ⟨⟨⟨xl, x0, x1, x2, x3, x4, x5, x6⟩, xf⟩, x7⟩ := E5.out
    clear dl df xl
    go_wp2
    refine bodyPost_ret (v := efIV ⟨false, n⟩) (by simp [results, Tryz.results94, go_sem, efIV, mkB, x0, x1, x2, x3, x4, x5, x6, x7]) rfl ⟨?_, .inr ⟨_, r', HRD.out, rfl, ?_⟩⟩
    · iterate 8 refine grown_new ?_ (Nat.le_refl _) _ _
      exact G5.out
    · iterate 8 refine RS.setOther ?_ (by omega) (by omega) _ _
      exact R5.out
  · have h1b : ((m : Int) == 1) = false := beq_eq_false_iff_ne.2 (by omega)
    by_cases h2 : m = 2
    · subst h2
      go_wp2_with fail
      generalize w2.alloc (.cells #[.string ⟨#[]⟩, .string ⟨#[]⟩, .int .i64 0, .int .i64 0, .int .i64 0, .int .i64 0, .int .i64 0, .int .u8 2] 157) = w3 at *
      generalize w2.heap.size = B3 at *
      refine (text_any w0 w3 k r R3.out HBR.out).mono ?_
      rintro e w4 ⟨g4, hp⟩
      rcases hp with ⟨hp, rfl⟩ | ⟨s, r', hp, rfl, hr4⟩
      · exact ⟨rfl, G3.out.trans g4, .inl ⟨by simp [rdE, hp], rfl⟩⟩
      have HRD : Hid (rdE (((2 : Nat) : Int) :: r) = some (⟨true, ndP s⟩, r')) := by show _ = _; simp [rdE, hp]
      have G4 := hd9 (G3.out.trans g4)
      have R4 : Hid (RS w0 w4 k r') := hr4
      have E4 := hd9 (E3.out.turn g4 (by simp; omega))
      have F4 := hd9 (F3.out.turn g4 (by simp; omega))
      clear g4 hp hr4 G3 R3 E3 F3
      rename_i K1 a1 K0 a0
      have HK1 : Hid _ := a1
      clear a1
      have hne : w.heap.size ≠ B3 := by omega
      have F5 : Hid (EB (w4.setCell ⟨B3, 0, none⟩ (.string s)) B3 (ndP s) 2) := F4.out.putP s
      have E5 : Hid (EB (w4.setCell ⟨B3, 0, none⟩ (.string s)) w.heap.size nd0 0) := E4.out.other hne _ _
      have R5 : Hid (RS w0 (w4.setCell ⟨B3, 0, none⟩ (.string s)) k r') := R4.out.setOther (by omega) (by omega) _ _
      have G5 : Hid (w.grownBy (w4.setCell ⟨B3, 0, none⟩ (.string s)) (some k)) := grown_new G4.out (Nat.le_of_lt hw2) _ _
      obtain ⟨⟨⟨dl, d0, d1, d2, d3, d4, d5, d6⟩, df⟩, d7⟩ := F4.out
      go_wp2
      refine HK1.out _ _ ?_
      clear dl d0 d1 d2 d3 d4 d5 d6 df d7 F4 E4 R4 G4 HK1
      generalize (w4.setCell ⟨B3, 0, none⟩ (.string s)) = w5 at *
      obtain ⟨⟨⟨dl, d0, d1, d2, d3, d4, d5, d6⟩, df⟩, d7⟩ := F5.out
      obtain ⟨⟨⟨xl, x0, x1, x2, x3, x4, x5, x6⟩, xf⟩, x7⟩ := E5.out
      clear dl df xl
      go_wp2
      refine bodyPost_ret (v := efIV ⟨true, ndP s⟩) (by simp [results, Tryz.results94, go_sem, efIV, mkB, x0, x1, x2, x3, x4, x5, x6, x7]) rfl ⟨?_, .inr ⟨_, r', HRD.out, rfl, ?_⟩⟩
      · iterate 8 refine grown_new ?_ (Nat.le_refl _) _ _
        exact G5.out
      · iterate 8 refine RS.setOther ?_ (by omega) (by omega) _ _
        exact R5.out
    · have h2b : ((m : Int) == 2) = false := beq_eq_false_iff_ne.2 (by omega)
      have HRD : Hid (rdE ((m : Int) :: r) = none) := by show _ = _; simp only [rdE]; rw [if_neg (by omega), if_neg (by omega)]
      go_wp2
      exact ⟨rfl, G3.out, .inl ⟨HRD.out, rfl⟩⟩
def efV (e : Ef) : Value := .agg #[.bool e.del, .string e.nd.path, .string e.nd.data, .int .i64 e.nd.ver, .int .i64 e.nd.cver, .int .i64 e.nd.cz, .int .i64 e.nd.mz, .int .i64 e.nd.pz]
theorem effect_m (w : World) (b : Nat) (n : Nd) (M : Int) (D : Bool) (hM : (M == 2) = D) (h : EB w b n M) :
    Calls Tryz.prog 95 #[.pointer (some ⟨b, 0, none⟩)] w fun e w' => e = .returned (efV ⟨D, n⟩) ∧ Below w.heap.size w w' := by
 have hb := h.1.1.lt
 have H : Hid (EB (w.alloc (.cells #[.bool false, .string ⟨#[]⟩, .string ⟨#[]⟩, .int .i64 0, .int .i64 0, .int .i64 0, .int .i64 0, .int .i64 0] 139)) b n M) := h.turn (grown_alloc _ _ none) (by simp)
 have HM : Hid ((M == 2) = D) := hM
 clear h hM
 obtain ⟨⟨⟨-, x0, x1, x2, x3, x4, x5, x6⟩, -⟩, x7⟩ := H.out
 have B0 : Hid (Below w.heap.size w (w.alloc (.cells #[.bool false, .string ⟨#[]⟩, .string ⟨#[]⟩, .int .i64 0, .int .i64 0, .int .i64 0, .int .i64 0, .int .i64 0] 139))) := (Below.refl _ _).alloc (Nat.le_refl _) _
 go_enter Tryz.func95, Tryz.ntmps95
 go_wp2
 refine wp_region_held_drew (S := fun W => W.cell? ⟨b, 7, none⟩ = some (.int .u8 M) ∧ W.cell? ⟨b, 0, none⟩ = some (.string n.path) ∧ W.cell? ⟨b, 1, none⟩ = some (.string n.data) ∧ W.cell? ⟨b, 2, none⟩ = some (.int .i64 n.ver) ∧ W.cell? ⟨b, 3, none⟩ = some (.int .i64 n.cver) ∧ W.cell? ⟨b, 4, none⟩ = some (.int .i64 n.cz) ∧ W.cell? ⟨b, 5, none⟩ = some (.int .i64 n.mz) ∧ W.cell? ⟨b, 6, none⟩ = some (.int .i64 n.pz)) (by kernel_rfl) (⟨x7, x0, x1, x2, x3, x4, x5, x6⟩) (fun hHeld => ?_)
 refine tkL9 (i := 0) (oi := ⟨some 3, _, _, _, _, _⟩) (v := (.pointer (some ⟨b, 0, none⟩))) rfl (by kernel_rfl) (fun _ _ _ h => h) (by rfl) (by assumption) ?hy1 ?_
 case hy1 => intro w9 hS9; obtain ⟨y7, y0, y1, y2, y3, y4, y5, y6⟩ := hS9; go_simp; try with_reducible rfl
 try simp only [Act.put, sT9, sZ9, sS9]
 refine tkL9 (i := 1) (oi := ⟨some 4, _, _, _, _, _⟩) (v := (.pointer (some ⟨b, 0, none⟩))) rfl (by kernel_rfl) (fun _ _ _ h => h) (by rfl) (by assumption) ?hy2 ?_
 case hy2 => intro w9 hS9; obtain ⟨y7, y0, y1, y2, y3, y4, y5, y6⟩ := hS9; go_simp; try with_reducible rfl
 try simp only [Act.put, sT9, sZ9, sS9]
 refine tkL9 (i := 2) (oi := ⟨some 5, _, _, _, _, _⟩) (v := (.pointer (some ⟨b, 7, none⟩))) rfl (by kernel_rfl) (fun _ _ _ h => h) (by rfl) (by assumption) ?hy3 ?_
 case hy3 => intro w9 hS9; obtain ⟨y7, y0, y1, y2, y3, y4, y5, y6⟩ := hS9; go_simp; try with_reducible rfl
 try simp only [Act.put, sT9, sZ9, sS9]
 refine tkL9 (i := 3) (oi := ⟨some 6, _, _, _, _, _⟩) (v := (.int .u8 M)) rfl (by kernel_rfl) (fun _ _ _ h => h) (by rfl) (by assumption) ?hy4 ?_
 case hy4 => intro w9 hS9; obtain ⟨y7, y0, y1, y2, y3, y4, y5, y6⟩ := hS9; go_simp; try with_reducible rfl
 try simp only [Act.put, sT9, sZ9, sS9]
 refine tkL9 (i := 4) (oi := ⟨some 7, _, _, _, _, _⟩) (v := (.bool D)) rfl (by kernel_rfl) (fun _ _ _ h => h) (by rfl) (by assumption) ?hy5 ?_
 case hy5 => intro w9 hS9; go_simp; exact HM.out
 try simp only [Act.put, sT9, sZ9, sS9]
 refine tkL9 (i := 5) (oi := ⟨some 8, _, _, _, _, _⟩) (v := (.pointer (some ⟨b, 0, none⟩))) rfl (by kernel_rfl) (fun _ _ _ h => h) (by rfl) (by assumption) ?hy6 ?_
 case hy6 => intro w9 hS9; obtain ⟨y7, y0, y1, y2, y3, y4, y5, y6⟩ := hS9; go_simp; try with_reducible rfl
 try simp only [Act.put, sT9, sZ9, sS9]
 refine tkL9 (i := 6) (oi := ⟨some 9, _, _, _, _, _⟩) (v := (.pointer (some ⟨b, 0, none⟩))) rfl (by kernel_rfl) (fun _ _ _ h => h) (by rfl) (by assumption) ?hy7 ?_
 case hy7 => intro w9 hS9; obtain ⟨y7, y0, y1, y2, y3, y4, y5, y6⟩ := hS9; go_simp; try with_reducible rfl
 try simp only [Act.put, sT9, sZ9, sS9]
 refine tkL9 (i := 7) (oi := ⟨some 10, _, _, _, _, _⟩) (v := (.pointer (some ⟨b, 0, none⟩))) rfl (by kernel_rfl) (fun _ _ _ h => h) (by rfl) (by assumption) ?hy8 ?_
 case hy8 => intro w9 hS9; obtain ⟨y7, y0, y1, y2, y3, y4, y5, y6⟩ := hS9; go_simp; try with_reducible rfl
 try simp only [Act.put, sT9, sZ9, sS9]
 refine tkL9 (i := 8) (oi := ⟨some 11, _, _, _, _, _⟩) (v := (.pointer (some ⟨b, 0, none⟩))) rfl (by kernel_rfl) (fun _ _ _ h => h) (by rfl) (by assumption) ?hy9 ?_
 case hy9 => intro w9 hS9; obtain ⟨y7, y0, y1, y2, y3, y4, y5, y6⟩ := hS9; go_simp; try with_reducible rfl
 try simp only [Act.put, sT9, sZ9, sS9]
 refine tkL9 (i := 9) (oi := ⟨some 12, _, _, _, _, _⟩) (v := (.agg #[.string n.path, .string n.data, .int .i64 n.ver, .int .i64 n.cver, .int .i64 n.cz, .int .i64 n.mz, .int .i64 n.pz])) rfl (by kernel_rfl) (fun _ _ _ h => h) (by rfl) (by assumption) ?hy10 ?_
 case hy10 => intro w9 hS9; obtain ⟨y7, y0, y1, y2, y3, y4, y5, y6⟩ := hS9; go_simp; try with_reducible rfl
 try simp only [Act.put, sT9, sZ9, sS9]
 refine tkL9 (i := 10) (oi := ⟨some 13, _, _, _, _, _⟩) (v := (.agg #[.bool D, .string n.path, .string n.data, .int .i64 n.ver, .int .i64 n.cver, .int .i64 n.cz, .int .i64 n.mz, .int .i64 n.pz])) rfl (by kernel_rfl) (fun _ _ _ h => h) (by rfl) (by assumption) ?hy11 ?_
 case hy11 => intro w9 hS9; obtain ⟨y7, y0, y1, y2, y3, y4, y5, y6⟩ := hS9; go_simp; try with_reducible rfl
 try simp only [Act.put, sT9, sZ9, sS9]
 refine wpAnyH_ready (rs := [11]) (by kernel_rfl) (by simp) ?_
 refine AllReadyH.cons (o := ⟨none, _, _, _, _, _⟩) rfl (fun K hK => ?_) AllReadyH.nil
 go_simp
 have H2 : EB (w.alloc (.cells #[.bool D, .string n.path, .string n.data, .int .i64 n.ver, .int .i64 n.cver, .int .i64 n.cz, .int .i64 n.mz, .int .i64 n.pz] 139)) b n M := by
  have h0 : EB w b n M := by
   have hbl : (w.alloc (.cells #[.bool false, .string ⟨#[]⟩, .string ⟨#[]⟩, .int .i64 0, .int .i64 0, .int .i64 0, .int .i64 0, .int .i64 0] 139)).heap[b]? = w.heap[b]? := B0.out.block b hb
   have e : ∀ q, w.cell? ⟨b, q, none⟩ = (w.alloc (.cells #[.bool false, .string ⟨#[]⟩, .string ⟨#[]⟩, .int .i64 0, .int .i64 0, .int .i64 0, .int .i64 0, .int .i64 0] 139)).cell? ⟨b, q, none⟩ := fun q => (World.cell?_of_block (a := ⟨b, q, none⟩) hbl).symm
   exact ⟨⟨⟨hb, (e _).trans x0, (e _).trans x1, (e _).trans x2, (e _).trans x3, (e _).trans x4, (e _).trans x5, (e _).trans x6⟩, fun j => by rw [← World.frozen?_of_block (a := ⟨b, j, none⟩) hbl]; exact H.out.1.2 j⟩, (e _).trans x7⟩
  exact h0.turn (grown_alloc _ _ none) (by simp)
 obtain ⟨⟨⟨-, z0, z1, z2, z3, z4, z5, z6⟩, -⟩, z7⟩ := H2
 refine hK.out _ _ ⟨z7, z0, z1, z2, z3, z4, z5, z6⟩ (fun hx9 => ?_)
 clear hK K hHeld hx9
 refine wpAnyH_done (by kernel_rfl) ?_ _
 go_wp2
 refine bodyPost_ret (v := efV ⟨D, n⟩) (by simp [results, Tryz.results95, go_sem, efV]) rfl ⟨rfl, ?_⟩
 exact ((Below.refl _ _).alloc (Nat.le_refl _) _).trans ((below_drewN' _ 1).mono (by simp))
theorem effect_any (w : World) (b : Nat) (e : Ef) (h : EB w b e.nd (mkB e)) :
    Calls Tryz.prog 95 #[.pointer (some ⟨b, 0, none⟩)] w fun r w' => r = .returned (efV e) ∧ Below w.heap.size w w' := by
 obtain ⟨d, n⟩ := e
 cases d with
 | true => exact effect_m w b n 2 true rfl h
 | false => exact effect_m w b n 1 false rfl h
end Go.Proofs.YtcopcegamadkgaaGreatDoor


