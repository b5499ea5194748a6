import Derived.Test.YtdiingonnddkcaaGreatDoorJ14
import Derived.Deep.AppendLies
import Derived.Test.YtdiingonnddkcaaGreatDoorJ13
namespace Go.Proofs.YtdiingonnddkcaaGreatDoor
open Go.RowKit Go.Shelf

theorem rowP_below {w w' : World} {lo n m : Nat} {e : TypeId} {v : Value} {us : List Value} (h : w.ownsRow lo e m v n us) (hb : Below w.heap.size w w') : w'.ownsRow lo e m v n us := by
  refine ⟨h.1, ?_⟩
  rcases h.2 with hn | ⟨g, cap, cur, rfl, hbg, hgg, rest⟩
  · exact .inl hn
  · exact .inr ⟨g, cap, cur, rfl, hbg, by rw [hb.block g (Array.getElem?_eq_some_iff.1 hgg).1]; exact hgg, rest⟩
/-- Two values that lie in different blocks. -/
def NotAt (u v : Value) : Prop := ∀ b o n c, u = .slice (some ⟨b, o, none⟩) n c → v.ownBlock ≠ some b
theorem RdN.grown {w w' : World} {v u : Value} {ns : List Nd} (h : RdN w v ns) (hg : w.grownBy w' u.ownBlock) (hne : ns = [] ∨ NotAt v u) : RdN w' v ns := by
  obtain ⟨ao, cap, rfl, h1, h2, h3⟩ := h
  refine ⟨ao, cap, rfl, h1, h2, ?_⟩
  rcases h3 with h3 | ⟨b, off, rfl, hlt, hc⟩
  · exact .inl h3
  · rcases hne with hne | hne
    · exact .inl hne
    refine .inr ⟨b, off, rfl, Nat.lt_of_lt_of_le hlt hg.size, fun i hi => ?_⟩
    have hb := hg.block b hlt (fun e => hne b off _ _ rfl e.symm)
    have q : ∀ j, w'.cell? ⟨b, j, none⟩ = w.cell? ⟨b, j, none⟩ := fun j => World.cell?_of_block (a := ⟨b, j, none⟩) hb
    obtain ⟨c0, c1, c2, c3, c4, c5, c6⟩ := hc i hi
    exact ⟨(q _).trans c0, (q _).trans c1, (q _).trans c2, (q _).trans c3, (q _).trans c4, (q _).trans c5, (q _).trans c6⟩
theorem rowP_mono {w : World} {lo lo' n m : Nat} {e : TypeId} {v : Value} {us : List Value} (h : w.ownsRow lo e m v n us) (hl : lo' ≤ lo) : w.ownsRow lo' e m v n us := by
  refine ⟨h.1, ?_⟩
  rcases h.2 with hn | ⟨g, cap, cur, rfl, hbg, rest⟩
  · exact .inl hn
  · exact .inr ⟨g, cap, cur, rfl, by omega, rest⟩

theorem Tryz.infoStr9 : (Tryz.prog.info? 9).map (fun i => (i.zero, i.size, i.bytes)) = some (some (.string ByteArray.empty), 1, 16) := by kernel_rfl

set_option maxHeartbeats 4000000 in
set_option maxRecDepth 100000 in
theorem specPrep_ok (w : World) (v vo : Value) (ns : List Nd) (os : List Op5) (z : Int) (h : RdN w v ns) (ho : RdO w vo os) (hos : ∀ i, i < os.length → (oAt os i).path.size ≤ 1048576 ∧ (oAt os i).data.size ≤ 1048576) (hb : okPrep ns os z = true) :
    Calls Tryz.prog 9 #[.agg #[v], .agg #[vo], .int .i64 z] w fun e w' => PrOk w ns z (runO z os ns 0 []) e w' := by
  obtain ⟨i0, hi, hz0, hz1, hz2⟩ := info_parts Tryz.infoStr9
  unfold okPrep at hb
  simp only [Bool.and_eq_true, decide_eq_true_eq] at hb
  obtain ⟨hok, h1, h2, h3, h4⟩ := hb
  have HSND : Hid (Snd ns) := okTree_snd.1 hok
  have HOK : Hid (okTree ns = true) := hok
  have hn : ns.length ≤ 1000 := HSND.out.2.2
  obtain ⟨ao, ca, rfl, _, _⟩ := h.len
  obtain ⟨bo, cb, rfl, _, _⟩ := ho.len
  have HR : Hid (RdN w (.slice ao ns.length ca) ns) := h
  have HOR : Hid (RdO w (.slice bo os.length cb) os) := ho
  have HOS : Hid (∀ i, i < os.length → (oAt os i).path.size ≤ 1048576 ∧ (oAt os i).data.size ≤ 1048576) := hos
  have HSZ : Hid (∀ i, (nAt ns i).path.size ≤ 1048576 ∧ (nAt ns i).data.size ≤ 1048576) := by
    intro i
    by_cases hi : i < ns.length
    · have := okNd_all (HSND.out.2.1 _ (List.getElem_mem hi))
      rw [nAt_get hi]; omega
    · have : nAt ns i = nd0 := by unfold nAt; simp [List.getD, List.getElem?_eq_none (show ns.length ≤ i by omega)]
      rw [this]; simp [nd0]
  obtain ⟨res, hres⟩ : ∃ res, res = runO z os ns 0 [] := ⟨_, rfl⟩
  have HRES : Hid (runO z (os.drop 0) ns 0 [] = res) := hres.symm
  rw [← hres]
  have X0 : Hid (PrB w (.slice ao ns.length ca) (.slice bo os.length cb) (((w.alloc (.cells #[.slice ao ns.length ca] 25)).alloc (.cells #[.slice bo os.length cb] 28)).alloc (.cells #[.int .i64 0, .int .i64 0, .slice none 0 0, .int .i64 0, .slice none 0 0] 37))) := PrB.new _ _ _ _ _ _
  obtain ⟨bb, bof, rfl, hbb, HC⟩ : ∃ b off, bo = some ⟨b, off, none⟩ ∧ b < w.heap.size ∧ Hid (∀ i, i < os.length → CellsO w b (off + i * 5) (oAt os i)) := by
    obtain ⟨ao', cap', e', -, -, h3⟩ := ho
    simp only [Value.slice.injEq] at e'
    obtain ⟨rfl, -, -⟩ := e'
    rcases h3 with h3 | ⟨b, o, rfl, hb, hc⟩
    · rw [h3] at h1; simp at h1
    · exact ⟨b, o, rfl, hb, hc⟩
  have h1I : ¬ (os.length : Int) < 1 := by omega
  have h1d : decide ((os.length : Int) < 1) = false := by simpa using h1I
  have h2I : ¬ (64 : Int) < (os.length : Int) := by omega
  have h2d : decide ((64 : Int) < (os.length : Int)) = false := by simpa using h2I
  have h3I : ¬ z < 1 := by omega
  have h3d : decide (z < 1) = false := by simpa using h3I
  have h4I : ¬ (2147483647 : Int) < z := by omega
  have h4d : decide ((2147483647 : Int) < z) = false := by simpa using h4I
  have HZ : Hid (okS z = true) := by show _ = _; unfold okS; simp; omega
  clear h ho hos hok hres
  go_enter Tryz.func9, Tryz.ntmps9
  go_wp2_with fail
  generalize ((w.alloc (.cells #[.slice ao ns.length ca] 25)).alloc (.cells #[.slice (some ⟨bb, bof, none⟩) os.length cb] 28)).alloc (.cells #[.int .i64 0, .int .i64 0, .slice none 0 0, .int .i64 0, .slice none 0 0] 37) = w0 at *
  obtain ⟨-, -, a0, -⟩ := X0.out
  go_wp2_with fail
  clear a0
  refine (specTree_any _ _ ns (HR.out.below X0.out.1) (by omega) HSZ.out).mono ?_
  rintro e w1 ⟨rfl, b1⟩
  rw [HOK.out]
  have X1 : Hid (PrB w (.slice ao ns.length ca) (.slice (some ⟨bb, bof, none⟩) os.length cb) w1) := X0.out.below b1
  clear b1 X0 HOK
  have zz : w.heap.size + 3 ≤ w1.heap.size := X1.out.2.1
  obtain ⟨-, -, a0, a1, -⟩ := X1.out
  go_wp2
  clear a0 a1
  have BL : Hid (Below w1.heap.size w1 (w1.alloc (.cells #[] 9))) := (Below.refl _ _).alloc (Nat.le_refl _) _
  have NA0 : Hid (ns = [] ∨ NotAt (.slice ao ns.length ca) (.slice (some ⟨w1.heap.size, 0, none⟩) 0 0)) := by
    obtain ⟨ao', cap', e', -, -, h3⟩ := HR.out
    simp only [Value.slice.injEq] at e'
    obtain ⟨rfl, -, -⟩ := e'
    rcases h3 with h3 | ⟨b', o', h4, hb, -⟩
    · exact .inl h3
    · refine .inr (fun b o n c e => ?_)
      simp only [Value.slice.injEq] at e
      rw [h4] at e
      simp at e
      simp [Value.ownBlock]
      omega
  go_loopw [7, 8, 9] (fun vk vn i wr => ∃ (j : Nat) (uk un : Value) (nk : List Nd) (nm : List ByteArray), j ≤ os.length ∧ uk = vk ∧ un = vn ∧ i = .int .i64 j ∧ Hid (RdN wr uk nk) ∧ Hid (Snd nk) ∧ Hid (nm.length = j) ∧ Hid (wr.ownsRow w1.heap.size 9 1 un j (nm.map Value.string)) ∧ Hid (runO z (os.drop j) nk j nm = res) ∧ Hid (Below w1.heap.size w1 wr) ∧ Hid (nk = [] ∨ NotAt uk un)) (fun _ _ i _ => os.length - (intOf i).toNat)
  case atStart => exact ⟨0, _, _, ns, [], Nat.zero_le _, rfl, rfl, rfl, HR.out.below (X1.out.1.trans (BL.out.mono (by omega))), HSND, (show _ = _ from rfl), World.ownsRow_lit w1 #[] 0 (Nat.le_refl _) (Nat.zero_le _) rfl, HRES, BL, NA0⟩
  case round =>
    clear BL HRES
    obtain ⟨j, uk, un, nk, nm, hj, rfl, rfl, rfl, RK, SK, NL, ON, HRS, BK, NA⟩ := hrel
    clear NA0
    have XK : Hid (PrB w (.slice ao ns.length ca) (.slice (some ⟨bb, bof, none⟩) os.length cb) wr) := X1.out.belowB BK.out zz
    obtain ⟨ka, kc, rfl, _, _⟩ := RK.out.len
    obtain ⟨-, zk, a0, a1, -⟩ := XK.out
    by_cases hlt : j < os.length
    · have hltI : (j : Int) < (os.length : Int) := by omega
      obtain ⟨q0, q1, q2, q3, q4⟩ := (HC.out j hlt).below (XK.out.1) hbb
      obtain ⟨hp, hd⟩ := HOS.out j hlt
      have HGO : Hid ((doO nk (oAt os j) z).1 ≠ 0 → ((doO nk (oAt os j) z).1, j, nk, nm) = res) := fun hne => (runO_bad hlt hne).symm.trans HRS.out
      have HGN : Hid ((doO nk (oAt os j) z).1 = 0 → runO z (os.drop (j + 1)) (doO nk (oAt os j) z).2.1 (j + 1) (nm ++ [(doO nk (oAt os j) z).2.2]) = res) := fun he => (runO_good hlt he).symm.trans HRS.out
      have SN : Hid (Snd (doO nk (oAt os j) z).2.1) := doO_snd SK.out _ HZ.out
      have CD := l3Do_any wr _ nk (oAt os j) z RK.out SK.out.2.2 (fun i hi => by rw [nAt_get hi]; exact SK.out.2.1 _ (List.getElem_mem hi)) hp hd
      unfold DoPost at CD
      have HNA : Hid (∀ (a : Option Addr) (c : Nat) (l : List Nd), Fresh wr (.slice ka nk.length kc) (.slice a l.length c) → l = [] ∨ NotAt (.slice a l.length c) un) := by
        intro a c l hf
        rcases hf with h9 | ⟨n, c, h9⟩ | ⟨g, n, c, h9, hg⟩
        · rw [h9]
          rcases NA.out with h8 | h8
          · left
            simp only [Value.slice.injEq] at h9
            exact List.eq_nil_of_length_eq_zero (by rw [h9.2.1, h8]; rfl)
          · exact .inr h8
        · rw [h9]
          exact .inr (fun b o n c e => by simp at e)
        · rw [h9]
          refine .inr (fun b o n c e => ?_)
          simp at e
          intro e2
          have := (ON.out.lt b e2).2
          omega
      clear RK SK HRS
      generalize oAt os j = oj at *
      go_wp2_with fail
      refine CD.mono ?_
      rintro e w2 ⟨v2, rfl, r2, f2, b2⟩
      clear CD q0 q1 q2 q3 q4 a0 a1
      have X2 : Hid (PrB w (.slice ao ns.length ca) (.slice (some ⟨bb, bof, none⟩) os.length cb) w2) := XK.out.below b2
      have B2 : Hid (Below w1.heap.size w1 w2) := BK.out.trans (b2.mono BK.out.size)
      have O2 : Hid (w2.ownsRow w1.heap.size 9 1 un j (nm.map Value.string)) := rowP_below ON.out b2
      generalize doO nk oj z = dd at *
      obtain ⟨a2, c2, rfl, _, _⟩ := r2.len
      have R2 : Hid (RdN w2 (.slice a2 dd.2.1.length c2) dd.2.1) := r2
      have N2 : Hid (dd.2.1 = [] ∨ NotAt (.slice a2 dd.2.1.length c2) un) := HNA.out _ _ _ f2
      have s2 := b2.size
      clear r2 b2 f2 XK BK HNA
      by_cases hc : dd.1 = 0
      · have HN2 : Hid (runO z (os.drop (j + 1)) dd.2.1 (j + 1) (nm ++ [dd.2.2]) = res) := HGN.out hc
        rw [hc]
        clear HGO HGN ON
        obtain ⟨-, z2, -⟩ := X2.out
        go_wp2_with (at_builtin; go_must (refine wpList_append_lies _ rfl _ _ 32 rfl w1.heap.size 9 i0 (.string ByteArray.empty) 1 16 Tryz.underlying32 hi hz0 hz1 hz2 rfl (by decide) _ _ _ rfl (O2.out.alloc _) ⟨w2.heap.size, 0, none⟩ 1 1 [.string dd.2.2] rfl rfl (cell_one_new _ _ _) (by intro u hu; simp at hu; subst hu; rfl) (by decide) ?c3 ?c4 ?c5 (w2.heap.size + 1) (by simp) ?_))
        case c3 => unfold maxLen; omega
        case c4 => omega
        case c5 => have := B2.out.size; simp; omega
        intro g3 cap3 w3 ho3 hg3 hat _
        have bg : Below w1.heap.size w2 w3 := ((Below.refl _ w2).alloc B2.out.size _).grown hg3 (by have := B2.out.size; simp; omega) (fun q hq => (O2.out.lt q hq).1)
        have hgb : w2.grownBy w3 un.ownBlock := World.grownBy.trans (World.grownBy_alloc w2 _ _) hg3
        have R3 : Hid (RdN w3 (.slice a2 dd.2.1.length c2) dd.2.1) := R2.out.grown hgb N2.out
        have N3 : Hid (dd.2.1 = [] ∨ NotAt (.slice a2 dd.2.1.length c2) (.slice (some ⟨g3, 0, none⟩) (j + 1) cap3)) := by
          by_cases he : dd.2.1 = []
          · exact .inl he
          refine .inr (fun b o n c e => ?_)
          rcases hat with h9 | h9
          · rcases N2.out with h8 | h8
            · exact absurd h8 he
            · have := h8 b o n c e
              rw [h9] at this
              exact this
          · obtain ⟨ao', cap', e', -, -, h3⟩ := R2.out
            simp only [Value.slice.injEq] at e e'
            obtain ⟨rfl, -, -⟩ := e'
            rcases h3 with h3 | ⟨b', o', h4, hb, -⟩
            · exact absurd h3 he
            · rw [h4] at e
              simp at e
              simp [Value.ownBlock]
              omega
        have B3 : Hid (Below w1.heap.size w1 w3) := B2.out.trans bg
        have NL3 : Hid ((nm ++ [dd.2.2]).length = j + 1) := by show _ = _; rw [List.length_append, NL.out]; rfl
        have O3 : Hid (w3.ownsRow w1.heap.size 9 1 (.slice (some ⟨g3, 0, none⟩) (j + 1) cap3) (j + 1) ((nm ++ [dd.2.2]).map Value.string)) := by
          show World.ownsRow _ _ _ _ _ _ _; rw [List.map_append]; exact ho3
        clear ho3 hg3 hat bg hgb R2 N2 O2 B2 X2
        go_wp2
        go_roundw
        case rel => exact ⟨j + 1, _, _, dd.2.1, nm ++ [dd.2.2], by omega, rfl, rfl, by go_num, R3, SN, NL3, O3, HN2, B3, N3⟩
        case measure => simp [intOf]; omega
      · have HN2 : Hid ((dd.1, j, nk, nm) = res) := HGO.out hc
        have hcb : (dd.1 == 0) = false := by simpa using hc
        clear HGO HGN ON O2 N2 R2
        obtain ⟨-, z2, -, -, ⟨d0, d1, d2, d3, d4⟩, df⟩ := X2.out
        have f0 := df 0
        have f1 := df 1
        have f2 := df 2
        have f3 := df 3
        have f4 := df 4
        clear df
        have FB : Hid (∀ W', Below w.heap.size w2 W' → Below w.heap.size w W') := fun W' hW => X2.out.1.trans hW
        generalize dd.1 = d9 at *
        clear X2 B2
        go_wp2
        refine bodyPost_ret (v := .agg #[.int .i64 d9, .int .i64 (j : Int), .slice none 0 0, .int .i64 0, .slice none 0 0]) (by simp [results, Tryz.results9, go_sem, d0, d1, d2, d3, d4]) rfl ?_
        rw [← HN2.out]
        refine ⟨FB.out _ ?_, .inl ⟨hc, rfl⟩⟩
        repeat (first | exact Below.refl _ _ | refine Below.setCell ?_ (by simp; try omega) _)
    · have hjn : j = os.length := by omega
      have HN2 : Hid ((0, j, nk, nm) = res) := by
        have := HRS.out
        rw [List.drop_of_length_le (by omega)] at this
        exact this
      subst hjn
      go_wp2_with fail
      clear a0 a1
      refine (l3Diff_any wr _ _ ns nk (HR.out.below XK.out.1) RK.out hn SK.out.2.2).mono ?_
      rintro e w2 ⟨v2, rfl, o2, b2⟩
      have X2 : Hid (PrB w (.slice ao ns.length ca) (.slice (some ⟨bb, bof, none⟩) os.length cb) w2) := XK.out.below b2
      have O2 : Hid (w2.ownsRow w1.heap.size 9 1 un os.length (nm.map Value.string)) := rowP_below ON.out b2
      obtain ⟨ea, ec, rfl, _, _⟩ := (OwnE.rd o2).len
      have E2 : Hid (OwnE 59 w2 wr.heap.size (.slice ea (dif ns nk).length ec) (dif ns nk)) := o2
      clear o2 b2 XK ON RK SK HRS
      obtain ⟨-, z2, -, -, ⟨d0, d1, d2, d3, d4⟩, df⟩ := X2.out
      have f0 := df 0
      have f1 := df 1
      have f2 := df 2
      have f3 := df 3
      have f4 := df 4
      clear df
      have FB : Hid (∀ W', Below w.heap.size w2 W' → Below w.heap.size w W') := fun W' hW => X2.out.1.trans hW
      have hzr : w1.heap.size ≤ wr.heap.size := BK.out.size
      have hun : ∃ ua uc, un = .slice ua os.length uc := by
        rcases O2.out.2 with ⟨rfl, h0⟩ | ⟨g, cap, cur, rfl, -⟩
        · exact ⟨_, _, by rw [h0]⟩
        · exact ⟨_, _, rfl⟩
      obtain ⟨ua, uc, rfl⟩ := hun
      have HDL : Hid ((dif ns nk).length = (dif ns nk).length) := rfl
      clear X2 BK NA HC HOS
      go_wp2
      refine bodyPost_ret (v := .agg #[.int .i64 0, .int .i64 0, .slice ua os.length uc, .int .i64 z, .slice ea (dif ns nk).length ec]) (by simp [results, Tryz.results9, go_sem, d0, d1, d2, d3, d4]) rfl ?_
      rw [← HN2.out]
      refine ⟨FB.out _ ?_, .inr ⟨rfl, _, _, rfl, ?_, ?_⟩⟩
      · repeat (first | exact Below.refl _ _ | refine Below.setCell ?_ (by simp; try omega) _)
      · refine rowP_mono (lo := w1.heap.size) ?_ (by omega)
        show World.ownsRow _ _ _ _ _ nm.length (nm.map Value.string)
        rw [NL.out]
        iterate 5 refine ownsRow_setCell_below ?_ (by simp; omega) _
        exact O2.out
      · unfold OwnE
        refine rowP_mono (lo := wr.heap.size) ?_ (by omega)
        iterate 5 refine ownsRow_setCell_below ?_ (by simp; omega) _
        exact E2.out


/-- The judges of a draft. -/
def judL (D : Nat) : List Value := [.nilFunc, .func (.func 92) #[.pointer (some ⟨D, 0, none⟩)] #[], .func (.func 93) #[.pointer (some ⟨D, 0, none⟩)] #[], .func (.func 94) #[.pointer (some ⟨D, 0, none⟩)] #[], .func (.func 95) #[.pointer (some ⟨D, 0, none⟩)] #[]]

set_option maxHeartbeats 2000000 in
set_option maxRecDepth 100000 in
theorem judges_any (w : World) (D : Nat) :
    Calls Tryz.prog 58 #[.pointer (some ⟨D, 0, none⟩)] w fun e w' => e = .returned (.agg (judL D).toArray) ∧ Below w.heap.size w w' := by
  have o1 : ∀ (W : World) (a : Addr) (m : Mode), (store a .nilFunc m).run Tryz.prog W = stored Tryz.prog W a .nilFunc m := fun W a m => run_store _ W a _ m rfl
  have o2 : ∀ (W : World) (a : Addr) (m : Mode) (f : Fn) (x y : Array Value), (store a (.func f x y) m).run Tryz.prog W = stored Tryz.prog W a (.func f x y) m := fun W a m f x y => run_store _ W a _ m rfl
  go_enter Tryz.func58, Tryz.ntmps58
  go_wp2
  exact bodyPost_ret (v := .agg (judL D).toArray) (by simp [results, Tryz.results58, go_sem, judL]) rfl ⟨rfl, (Below.refl _ _).alloc (Nat.le_refl _) _⟩

theorem St.grown {W W' : World} {b : Nat} {L : List Value} {r : Option Nat} (h : St W b L) (hg : W.grownBy W' r) (hr : some b ≠ r) : St W' b L := by
  have e := hg.block b h.lt hr
  refine ⟨Nat.lt_of_lt_of_le h.lt hg.size, fun j => ?_, fun j v hv => (World.cell?_of_block (w := W) (a := ⟨b, j, none⟩) e).trans (h.cl j v hv)⟩
  have := h.fz j
  unfold World.frozen? at this ⊢
  rw [e]; exact this
theorem Df.grown {W W' : World} {D lo : Nat} {z : Int} {v : Value} {ns : List Nd} {r : Option Nat} (h : Df W D lo z v ns) (hg : W.grownBy W' r) (hr : some D ≠ r) (hv : ∀ g, v.ownBlock = some g → some g ≠ r) : Df W' D lo z v ns :=
  ⟨h.s.grown hg hr, World.ownsRow.kept h.o hg (by
    cases hb : v.ownBlock with
    | none => exact .inl rfl
    | some g => exact .inr (hv g hb)), h.ne, h.n⟩
/-- Rows of different kinds lie apart. -/
theorem rows_apart {w : World} {lo lo' n n' k k' : Nat} {e e' : TypeId} {v v' : Value} {xs xs' : List Value} (h : w.ownsRow lo e k v n xs) (h' : w.ownsRow lo' e' k' v' n' xs') (hne : e ≠ e') : ∀ g, v.ownBlock = some g → some g ≠ v'.ownBlock := by
  intro g hg e9
  rcases h.2 with ⟨rfl, _⟩ | ⟨g1, c1, cur1, rfl, _, h1, _⟩
  · cases hg
  rcases h'.2 with ⟨rfl, _⟩ | ⟨g2, c2, cur2, rfl, _, h2, _⟩
  · cases e9
  simp only [Value.ownBlock, Option.some.injEq] at hg e9
  subst hg
  subst e9
  rw [h1] at h2
  simp at h2
  exact hne h2.2
theorem rowP_tw {w w' : World} {b lo k n : Nat} {o o' : Option Nat} {e : TypeId} {v : Value} {xs : List Value} (h : w.ownsRow lo e k v n xs) (t : Tw w b o w' o') (hb : ∀ g, v.ownBlock = some g → g ≠ b) (ho : ∀ g, v.ownBlock = some g → o ≠ some g) : w'.ownsRow lo e k v n xs := by
  refine ⟨h.1, ?_⟩
  rcases h.2 with hn | ⟨g, cap, cur, rfl, hbg, hgg, rest⟩
  · exact .inl hn
  · exact .inr ⟨g, cap, cur, rfl, hbg, by rw [t.block g (Array.getElem?_eq_some_iff.1 hgg).1 (hb g rfl) (ho g rfl)]; exact hgg, rest⟩
/-- The judge of an operation. -/
theorem judge_any (W : World) (D lo : Nat) (z : Int) (v : Value) (ns : List Nd) (o : Op5) (h : Df W D lo z v ns) (hw : wfO o = true) (hz : okS z = true) (hlo : lo ≤ W.heap.size)
    (hsf : ∀ W', Below W.heap.size W W' → ∀ n : Int, 0 ≤ n → n ≤ 2147483647 → Calls Tryz.prog 107 #[.int .i64 n] W' fun e w' => e = .returned (.string ⟨(six 12 n.toNat 6).toArray⟩) ∧ Below W'.heap.size W' w') :
    (o.kind = 1 → Calls Tryz.prog 92 #[.pointer (some ⟨D, 0, none⟩), .agg #[.int .i64 o.kind, .string o.path, .string o.data, .int .i64 o.ver, .bool o.seq]] W (JP W D lo z v (doO ns o z))) ∧
    (o.kind = 2 → Calls Tryz.prog 93 #[.pointer (some ⟨D, 0, none⟩), .agg #[.int .i64 o.kind, .string o.path, .string o.data, .int .i64 o.ver, .bool o.seq]] W (JP W D lo z v (doO ns o z))) ∧
    (o.kind = 3 → Calls Tryz.prog 94 #[.pointer (some ⟨D, 0, none⟩), .agg #[.int .i64 o.kind, .string o.path, .string o.data, .int .i64 o.ver, .bool o.seq]] W (JP W D lo z v (doO ns o z))) ∧
    (o.kind = 4 → Calls Tryz.prog 95 #[.pointer (some ⟨D, 0, none⟩), .agg #[.int .i64 o.kind, .string o.path, .string o.data, .int .i64 o.ver, .bool o.seq]] W (JP W D lo z v (doO ns o z))) :=
  ⟨fun hk => create_judge W D lo z v ns o h hw hk hz hlo hsf, fun hk => remove_judge W D lo z v ns o h hw hk hz, fun hk => set_judge W D lo z v ns o h hw hk hz, fun hk => check_judge W D lo z v ns o h hw hk⟩
/-- What doAll leaves behind. -/
def AllP (w0 : World) (lb D : Nat) (z : Int) (res : Int × Nat × List Nd × List ByteArray) (e : Ending) (w' : World) : Prop :=
  Below w0.heap.size w0 w' ∧
    ((res.1 ≠ 0 ∧ e = .returned (.tuple #[.slice none 0 0, .iface 115 (.agg #[.int .i64 (res.2.1 : Int), flt res.1])])) ∨
     (res.1 = 0 ∧ ∃ vn v', e = .returned (.tuple #[vn, .nilIface]) ∧ w'.ownsRow lb 9 1 vn res.2.2.2.length (res.2.2.2.map Value.string) ∧ Df w' D w0.heap.size z v' res.2.2.1))

set_option linter.unusedSimpArgs false in
set_option maxHeartbeats 4000000 in
set_option maxRecDepth 100000 in
theorem doAll_any (w0 w : World) (D : Nat) (z : Int) (v vo : Value) (ns : List Nd) (os : List Op5) (hB : Below w0.heap.size w0 w) (h : Df w D w0.heap.size z v ns) (hDlo : w0.heap.size ≤ D) (ho : RdO w0 vo os) (hos : ∀ i, i < os.length → (oAt os i).path.size ≤ 1048576 ∧ (oAt os i).data.size ≤ 1048576) (hz : okS z = true) (h1 : 1 ≤ os.length) (h2 : os.length ≤ 64)
    (hsf : ∀ W, Below w0.heap.size w0 W → ∀ n : Int, 0 ≤ n → n ≤ 2147483647 → Calls Tryz.prog 107 #[.int .i64 n] W fun e w' => e = .returned (.string ⟨(six 12 n.toNat 6).toArray⟩) ∧ Below W.heap.size W w') :
    Calls Tryz.prog 30 #[.pointer (some ⟨D, 0, none⟩), vo] w (AllP w0 w.heap.size D z (runO z os ns 0 [])) := by
  obtain ⟨i0, hi, hz0, hz1, hz2⟩ := info_parts Tryz.infoStr9
  obtain ⟨bo, cb, rfl, _, _⟩ := ho.len
  obtain ⟨res, hres⟩ : ∃ res, res = runO z os ns 0 [] := ⟨_, rfl⟩
  have HRES : Hid (runO z (os.drop 0) ns 0 [] = res) := hres.symm
  rw [← hres]
  have HB := hd9 hB
  have HD := hd9 h
  have HOS := hd9 hos
  have HZ := hd9 hz
  have HSF := hd9 hsf
  obtain ⟨bb, bof, rfl, hbb, HC⟩ : ∃ b off, bo = some ⟨b, off, none⟩ ∧ b < w0.heap.size ∧ Hid (∀ i, i < os.length → CellsO w0 b (off + i * 5) (oAt os i)) := by
    obtain ⟨ao', cap', e', -, -, h3⟩ := ho
    simp only [Value.slice.injEq] at e'
    obtain ⟨rfl, -, -⟩ := e'
    rcases h3 with h3 | ⟨b, o, rfl, hb, hc⟩
    · rw [h3] at h1; simp at h1
    · exact ⟨b, o, rfl, hb, hc⟩
  clear h ho hos hres hz hB hsf
  have hlt := HD.out.s.lt
  go_enter Tryz.func30, Tryz.ntmps30
  go_wp2_with fail
  refine (judges_any w D).mono ?_
  rintro e w1 ⟨rfl, b1⟩
  have B1 := hd9 b1
  have J2 : Hid (St (w1.alloc (.cells (judL D).toArray 121)) w1.heap.size (judL D)) := St.new _ _ _
  have B2 : Hid (Below w.heap.size w (w1.alloc (.cells (judL D).toArray 121))) := B1.out.alloc B1.out.size _
  unfold judL
  clear b1
  have o1 : ∀ (W : World) (a : Addr) (m : Mode), (store a .nilFunc m).run Tryz.prog W = stored Tryz.prog W a .nilFunc m := fun W a m => run_store _ W a _ m rfl
  have o2 : ∀ (W : World) (a : Addr) (m : Mode) (f : Fn) (x y : Array Value), (store a (.func f x y) m).run Tryz.prog W = stored Tryz.prog W a (.func f x y) m := fun W a m f x y => run_store _ W a _ m rfl
  go_wp2_with (at_make; go_must (refine wpList_make_own _ rfl _ _ 32 rfl (w1.heap.size + 1) 9 i0 (.string ByteArray.empty) 1 Tryz.underlying32 hi hz0 hz1 _ _ _ os.length rfl rfl ?b1 ?b2 ?b3 ?b4 ?_))
  case b1 => omega
  case b2 => rw [hz2]; omega
  case b3 => unfold maxLen; omega
  case b4 => simp
  intro w3 hown hgrow
  clear o1 o2
  have hs2 : (w1.alloc (.cells (judL D).toArray 121)).heap.size = w1.heap.size + 1 := by simp
  have HS2 := hd9 hs2
  change Hid (St _ _ _) at J2
  have B3 : Hid (Below (w1.heap.size + 1) (w1.alloc (.cells (judL D).toArray 121)) w3) := (Below.refl _ _).grown hgrow (by rw [hs2]; exact Nat.le_refl _) (by simp)
  have J3 := hd9 (J2.out.belowB B3.out (Nat.lt_succ_self _))
  have B3w := hd9 (B2.out.trans (B3.out.mono (by have := B1.out.size; omega)))
  have D3 := hd9 (HD.out.below B3w.out)
  have B30 := hd9 (HB.out.trans (B3w.out.mono HB.out.size))
  have hDJ : D < w1.heap.size := by have := B1.out.size; omega
  have O3 := hd9 hown
  have HDL := hd9 HD.out.o
  clear hgrow hs2 B3 J2 B2 hown HD
  have NJ0 : Hid (∀ g, v.ownBlock = some g → g ≠ w1.heap.size) := fun g hg => by have := (World.ownsRow.lt HDL.out g hg).2; have := B1.out.size; omega
  go_wp2_with fail
  go_loopw [7, 19] (fun vn i wr => ∃ (j : Nat) (un uv : Value) (nk : List Nd) (nm : List ByteArray), j ≤ os.length ∧ un = vn ∧ i = .int .i64 j ∧ Hid (Df wr D w0.heap.size z uv nk) ∧ Hid (St wr w1.heap.size (judL D)) ∧ Hid (nm.length = j) ∧ Hid (wr.ownsRow (w1.heap.size + 1) 9 1 un j (nm.map Value.string)) ∧ Hid (runO z (os.drop j) nk j nm = res) ∧ Hid (Below w0.heap.size w0 wr) ∧ Hid (∀ g, uv.ownBlock = some g → g ≠ w1.heap.size)) (fun _ i _ => os.length - (intOf i).toNat)
  case atStart => exact ⟨0, _, v, ns, [], Nat.zero_le _, rfl, rfl, D3, J3, (show _ = _ from rfl), O3, HRES, B30, NJ0⟩
  case round =>
    clear HRES D3 J3 O3 B30 NJ0 B3w
    obtain ⟨j, un, uv, nk, nm, hj, rfl, rfl, DK, JK, NL, ON, HRS, BK, NJ⟩ := hrel
    by_cases hlt : j < os.length
    · have hltI : (j : Int) < (os.length : Int) := by omega
      obtain ⟨q0, q1, q2, q3, q4⟩ := (HC.out j hlt).below BK.out hbb
      have HGO : Hid ((doO nk (oAt os j) z).1 ≠ 0 → ((doO nk (oAt os j) z).1, j, nk, nm) = res) := fun hne => (runO_bad hlt hne).symm.trans HRS.out
      have HGN : Hid ((doO nk (oAt os j) z).1 = 0 → runO z (os.drop (j + 1)) (doO nk (oAt os j) z).2.1 (j + 1) (nm ++ [(doO nk (oAt os j) z).2.2]) = res) := fun he => (runO_good hlt he).symm.trans HRS.out
      have HIW : Hid (∀ W, Calls Tryz.prog 59 #[.agg #[.int .i64 (oAt os j).kind, .string (oAt os j).path, .string (oAt os j).data, .int .i64 (oAt os j).ver, .bool (oAt os j).seq]] W fun e w' => e = .returned (.bool (wfO (oAt os j))) ∧ Below W.heap.size W w') := fun W => iwell_any W _ (HOS.out j hlt).2
      clear HRS
      generalize oAt os j = oj at *
      have BA : Hid (Below wr.heap.size wr (wr.alloc (.cells #[.int .i64 oj.kind, .string oj.path, .string oj.data, .int .i64 oj.ver, .bool oj.seq] 40))) := (Below.refl _ _).alloc (Nat.le_refl _) _
      have XA : Hid (St (wr.alloc (.cells #[.int .i64 oj.kind, .string oj.path, .string oj.data, .int .i64 oj.ver, .bool oj.seq] 40)) wr.heap.size [.int .i64 oj.kind, .string oj.path, .string oj.data, .int .i64 oj.ver, .bool oj.seq]) := St.new _ _ _
      go_wp2_with fail
      clear q0 q1 q2 q3 q4
      generalize wr.alloc _ = wa at *
      refine (HIW.out _).mono ?_
      rintro e w2 ⟨rfl, b2⟩
      have X2 := hd9 (XA.out.below b2)
      have B2 := hd9 (BA.out.trans (b2.mono BA.out.size))
      clear b2 XA BA HIW
      have D2 := hd9 (DK.out.below B2.out)
      have J2 := hd9 (JK.out.below B2.out)
      have O2 := hd9 (rowP_below ON.out B2.out)
      have BW := hd9 (BK.out.trans (B2.out.mono BK.out.size))
      have hJr : w1.heap.size < wr.heap.size := JK.out.lt
      have HUV : Hid (∀ g, uv.ownBlock = some g → g < wr.heap.size) := fun g hg => (World.ownsRow.lt DK.out.o g hg).2
      clear DK JK ON BK B2
      cases hwf : wfO oj with
      | false =>
        have HR9 : Hid ((1, j, nk, nm) = res) := by
          have e9 : doO nk oj z = (1, nk, ⟨#[]⟩) := by unfold doO; rw [hwf]; rfl
          have := HGO.out
          rw [e9] at this
          exact this (show (1 : Int) ≠ 0 by decide)
        clear HGO HGN hwf
        go_wp2_with fail
        rw [← HR9.out]
        exact bodyPost_ret (v := .tuple #[.slice none 0 0, .iface 115 (.agg #[.int .i64 (j : Int), flt 1])]) (by simp [results, Tryz.results30, go_sem, flt]) rfl ⟨BW.out, .inl ⟨show (1 : Int) ≠ 0 by decide, rfl⟩⟩
      | true =>
        obtain ⟨kk, pp, da, vv, sq⟩ := oj
        have D3 : Hid (Df w2.drew D w0.heap.size z uv nk) := D2.out.below (below_drewN' w2 1)
        have J3 : Hid (St w2.drew w1.heap.size (judL D)) := J2.out.below (below_drewN' w2 1)
        have O3 : Hid (w2.drew.ownsRow (w1.heap.size + 1) 9 1 un j (nm.map Value.string)) := O2.out
        have X3 : Hid (St w2.drew wr.heap.size [.int .i64 kk, .string pp, .string da, .int .i64 vv, .bool sq]) := X2.out.below (below_drewN' w2 1)
        have B3 : Hid (Below w0.heap.size w0 w2.drew) := BW.out.trans ((below_drewN' w2 1).mono BW.out.size)
        obtain ⟨HC1, HC2, HC3, HC4⟩ : Hid _ ∧ Hid _ ∧ Hid _ ∧ Hid _ := judge_any w2.drew D w0.heap.size z uv nk ⟨kk, pp, da, vv, sq⟩ D3.out hwf HZ.out B3.out.size (fun W' hW' => HSF.out W' (B3.out.trans (hW'.mono B3.out.size)))
        have hkk : kk = 1 ∨ kk = 2 ∨ kk = 3 ∨ kk = 4 := wfO_kind hwf
        clear D2 J2 O2 X2 BW hwf
        go_wp2_with fail
        generalize doO nk ⟨kk, pp, da, vv, sq⟩ z = dd at *
        have SN9 : Hid (∃ F, w2.drew.cell? ⟨w1.heap.size, kk.toNat, none⟩ = some F ∧ F = (judL D).getD kk.toNat undef) := by
          rcases hkk with rfl | rfl | rfl | rfl
          · exact ⟨_, J3.out.cl 1 _ rfl, rfl⟩
          · exact ⟨_, J3.out.cl 2 _ rfl, rfl⟩
          · exact ⟨_, J3.out.cl 3 _ rfl, rfl⟩
          · exact ⟨_, J3.out.cl 4 _ rfl, rfl⟩
        obtain ⟨F, hF, hF2⟩ := SN9.out
        have HS9 : Hid (∀ W : World, St W wr.heap.size [.int .i64 kk, .string pp, .string da, .int .i64 vv, .bool sq] → St W w1.heap.size (judL D) → W.cell? ⟨wr.heap.size, 0, none⟩ = some (.int .i64 kk) ∧ W.cell? ⟨wr.heap.size, 1, none⟩ = some (.string pp) ∧ W.cell? ⟨wr.heap.size, 2, none⟩ = some (.string da) ∧ W.cell? ⟨wr.heap.size, 3, none⟩ = some (.int .i64 vv) ∧ W.cell? ⟨wr.heap.size, 4, none⟩ = some (.bool sq) ∧ W.cell? ⟨w1.heap.size, kk.toNat, none⟩ = some F) := by
          intro W hx hj
          refine ⟨hx.cl 0 _ rfl, hx.cl 1 _ rfl, hx.cl 2 _ rfl, hx.cl 3 _ rfl, hx.cl 4 _ rfl, hj.cl _ _ ?_⟩
          rw [hF2]
          rcases hkk with rfl | rfl | rfl | rfl <;> rfl
        clear SN9 hF
        refine wp_region_held_drew (S := fun W => W.cell? ⟨wr.heap.size, 0, none⟩ = some (.int .i64 kk) ∧ W.cell? ⟨wr.heap.size, 1, none⟩ = some (.string pp) ∧ W.cell? ⟨wr.heap.size, 2, none⟩ = some (.string da) ∧ W.cell? ⟨wr.heap.size, 3, none⟩ = some (.int .i64 vv) ∧ W.cell? ⟨wr.heap.size, 4, none⟩ = some (.bool sq) ∧ W.cell? ⟨w1.heap.size, kk.toNat, none⟩ = some F) (by kernel_rfl) (HS9.out _ X3.out J3.out) (fun hHeld => ?_)
        generalize w2.drew = w3 at *
        have hDb : wr.heap.size ≠ D := by omega
        have hJD : w1.heap.size ≠ D := by omega
        rcases hkk with rfl | rfl | rfl | rfl
        all_goals
          simp only [judL, List.getD_cons_succ, List.getD_cons_zero, show Int.toNat 1 = 1 from rfl, show Int.toNat 2 = 2 from rfl, show Int.toNat 3 = 3 from rfl, show Int.toNat 4 = 4 from rfl] at hF2
          subst hF2
          iterate 5 (refine tkI9 ?_ (by kernel_rfl) (fun _ => id) hHeld ?_ ?_; rotate_left; · intro w9 hS9; obtain ⟨k0, k1, k2, k3, k4, k5⟩ := hS9; simp only [show Int.toNat 1 = 1 from rfl, show Int.toNat 2 = 2 from rfl, show Int.toNat 3 = 3 from rfl, show Int.toNat 4 = 4 from rfl] at k5; go_simp; try with_reducible rfl)
          refine rdA9 5 rfl (by kernel_rfl) (fun K hK => ?_)
          go_simp
          first | refine (HC1.out rfl).mono ?_ | refine (HC2.out rfl).mono ?_ | refine (HC3.out rfl).mono ?_ | refine (HC4.out rfl).mono ?_
          rintro e w4 ⟨v4, rfl, d4, t4⟩
          have X4 := hd9 (t4.st X3.out hDb (fun e => by have := HUV.out _ e; omega))
          have J4 := hd9 (t4.st J3.out hJD (fun e => NJ.out _ e rfl))
          have O4 := hd9 (rowP_tw O3.out t4 (fun g hg => by have := (World.ownsRow.lt O3.out g hg).1; omega) (fun g hg e => rows_apart O3.out D3.out.o (by decide) g hg e.symm))
          have B4 := hd9 (B3.out.trans (t4.below B3.out.size hDlo (fun g hg => (World.ownsRow.lt D3.out.o g hg).1)))
          have NJ4 : Hid (∀ g, v4.ownBlock = some g → g ≠ w1.heap.size) := fun g hg => by
            rcases t4.own with e | e | ⟨q, e, hq⟩
            · exact NJ.out g (e ▸ hg)
            · rw [e] at hg; cases hg
            · rw [e] at hg; have := Option.some.inj hg; have := J3.out.lt; omega
          have D4 := hd9 d4
          clear d4 t4 hHeld HC1 HC2 HC3 HC4
          refine hK.out _ _ (HS9.out _ X4.out J4.out) (fun hHeld => ?_)
          clear hK K
          by_cases hc : dd.1 = 0
          · have HN2 := hd9 (HGN.out hc)
            have HJV : JV dd = #[.string dd.2.2, .nilIface] := by unfold JV; rw [if_pos hc]
            rw [HJV]
            clear HGO HGN HJV hc
            iterate 5 (refine tkI9 ?_ (by kernel_rfl) (fun _ => id) hHeld ?_ ?_; rotate_left; · intro w9 hS9; clear hS9; go_simp; try with_reducible rfl)
            refine wpAnyH_done (by kernel_rfl) ?_ _
            simp only [Act.put, sT9, sZ9, sS9]
            clear hHeld HS9 X3 J3 O3 B3 D3 X4
            have hJ4 := J4.out.lt
            go_wp2_with (at_builtin; go_must (refine wpList_append_lies _ rfl _ _ 32 rfl (w1.heap.size + 1) 9 i0 (.string ByteArray.empty) 1 16 Tryz.underlying32 hi hz0 hz1 hz2 rfl (by decide) _ _ _ rfl (O4.out.alloc _) ⟨w4.heap.size, 0, none⟩ 1 1 [.string dd.2.2] rfl rfl (cell_one_new _ _ _) (by intro u hu; simp at hu; subst hu; rfl) (by decide) ?c3 ?c4 ?c5 (w4.heap.size + 1) (by simp) ?_))
            case c3 => unfold maxLen; omega
            case c4 => omega
            case c5 => simp; omega
            intro g5 cap5 w5 ho5 hg5 hat _
            have A5 : Below w4.heap.size w4 (w4.alloc (.cells #[.string dd.2.2] 9)) := (Below.refl _ _).alloc (Nat.le_refl _) _
            have D5 := hd9 ((D4.out.below A5).grown hg5 (fun e => by have := (World.ownsRow.lt O4.out D e.symm).1; omega) (fun g hg e => rows_apart O4.out D4.out.o (by decide) g e.symm hg.symm))
            have J5 := hd9 ((J4.out.below A5).grown hg5 (fun e => by have := (World.ownsRow.lt O4.out _ e.symm).1; omega))
            have B5 := hd9 ((B4.out.trans (A5.mono B4.out.size)).grown hg5 (Nat.le_trans B4.out.size A5.size) (fun k hk => by have := (World.ownsRow.lt O4.out k hk).1; omega))
            have NL5 : Hid ((nm ++ [dd.2.2]).length = j + 1) := by show _ = _; rw [List.length_append, NL.out]; rfl
            have O5 : Hid (w5.ownsRow (w1.heap.size + 1) 9 1 (.slice (some ⟨g5, 0, none⟩) (j + 1) cap5) (j + 1) ((nm ++ [dd.2.2]).map Value.string)) := by
              show World.ownsRow _ _ _ _ _ _ _; rw [List.map_append]; exact ho5
            clear ho5 hg5 hat A5 D4 J4 O4 B4
            go_wp2
            go_roundw
            case rel => exact ⟨j + 1, _, v4, dd.2.1, nm ++ [dd.2.2], by omega, rfl, by go_num, D5, J5, NL5, O5, HN2, B5, NJ4⟩
            case measure => simp [intOf]; omega
          · have HN2 := hd9 (HGO.out hc)
            have HJV : JV dd = #[.string ByteArray.empty, flt dd.1] := by unfold JV; rw [if_neg hc]
            rw [HJV]
            clear HGO HGN HJV
            unfold flt
            iterate 5 (refine tkI9 ?_ (by kernel_rfl) (fun _ => id) hHeld ?_ ?_; rotate_left; · intro w9 hS9; clear hS9; go_simp; try with_reducible rfl)
            refine wpAnyH_done (by kernel_rfl) ?_ _
            simp only [Act.put, sT9, sZ9, sS9]
            clear hHeld HS9 X3 J3 O3 B3 D3 X4
            go_wp2_with fail
            rw [← HN2.out]
            exact bodyPost_ret (v := .tuple #[.slice none 0 0, .iface 115 (.agg #[.int .i64 (j : Int), flt dd.1])]) (by simp [results, Tryz.results30, go_sem, flt]) rfl ⟨B4.out, .inl ⟨hc, rfl⟩⟩
    · have hjn : j = os.length := by omega
      have HN2 : Hid ((0, j, nk, nm) = res) := by
        have := HRS.out
        rw [List.drop_of_length_le (by omega)] at this
        exact this
      subst hjn
      have hun : ∃ ua uc, un = .slice ua os.length uc := by
        rcases ON.out.2 with ⟨rfl, h0⟩ | ⟨g, cap, cur, rfl, -⟩
        · exact ⟨_, _, by rw [h0]⟩
        · exact ⟨_, _, rfl⟩
      obtain ⟨ua, uc, rfl⟩ := hun
      go_wp2_with fail
      rw [← HN2.out]
      refine bodyPost_ret (v := .tuple #[.slice ua os.length uc, .nilIface]) (by simp [results, Tryz.results30, go_sem]) rfl ⟨BK.out, .inr ⟨rfl, _, uv, rfl, ?_, DK.out⟩⟩
      show World.ownsRow _ _ _ _ _ nm.length (nm.map Value.string)
      rw [NL.out]
      exact rowP_mono ON.out (by have := B1.out.size; omega)

end Go.Proofs.YtdiingonnddkcaaGreatDoor


