import Derived.Test.YtdiingonnddkcaaGreatDoorK24
import Derived.Test.YtdiingonnddkcaaGreatDoorK25
import Derived.Test.YtdiingonnddkcaaGreatDoorK07
import Derived.Test.YtdiingonnddkcaaGreatDoorK10
import Derived.Test.YtdiingonnddkcaaGreatDoorK15
import Derived.Test.YtdiingonnddkcaaGreatDoorK22
import Derived.Test.YtdiingonnddkcaaGreatDoorK23
import Derived.Test.YtdiingonnddkcaaGreatDoorK20
import Derived.Test.YtdiingonnddkcaaGreatDoorK01
import Derived.Deep.Slices
import Derived.Deep.QuietTactic
namespace Go.Proofs.YtdiingonnddkcaaGreatDoor
open Go.RowKit Go.Shelf

theorem RdN.rowCells9 {w : World} {ao : Option Addr} {c : Nat} {R : List Nd} (h : RdN w (.slice ao R.length c) R) : ∀ ad, ao = some ad → ∀ j u, (nrow R)[j]? = some u → w.cell? (ad.add j) = some u := by
  obtain ⟨a', c', e, -, -, h3⟩ := h
  simp only [Value.slice.injEq] at e
  obtain ⟨rfl, -, -⟩ := e
  intro ad had j u hu
  have hj := (List.getElem?_eq_some_iff.1 hu).1
  rw [nrow_length] at hj
  rcases h3 with rfl | ⟨b, off, rfl, hb, hc⟩
  · simp at hj
  · obtain rfl := Option.some.inj had
    have hi : j / 7 < R.length := by omega
    have hm : j % 7 < 7 := Nat.mod_lt _ (by omega)
    rw [show j = j / 7 * 7 + j % 7 by omega, nrow_get R (j / 7) (j % 7) hi hm] at hu
    obtain ⟨k0, k1, k2, k3, k4, k5, k6⟩ := hc (j / 7) hi
    rw [Addr.add_lit, show off + j = off + j / 7 * 7 + j % 7 by omega]
    generalize j % 7 = m at *
    match m, hm with
    | 0, _ => exact k0.trans hu
    | 1, _ => exact k1.trans hu
    | 2, _ => exact k2.trans hu
    | 3, _ => exact k3.trans hu
    | 4, _ => exact k4.trans hu
    | 5, _ => exact k5.trans hu
    | 6, _ => exact k6.trans hu

set_option maxHeartbeats 1000000 in
set_option maxRecDepth 100000 in
theorem cloneN9 (w : World) (ao : Option Addr) (cap : Nat) (ns : List Nd) (h : RdN w (.slice ao ns.length cap) ns) (hn : ns.length ≤ 1000) :
    Calls Tryz.prog 29 #[.slice ao ns.length cap] w fun e w' => ∃ v', e = .returned v' ∧ OwnN 42 w' w.heap.size v' ns ∧ Below w.heap.size w w' := by
  obtain ⟨i0, hi, hz0, hz1, hz2⟩ := info_parts Tryz.infoN
  have q22 : ∀ (w : World) (a : Option Addr) (n c n' c' : Nat), (binOp .eql 23 (.slice a n c) (.slice none n' c')).run Tryz.prog w = .ok (.bool a.isNone) w := fun w a n c n' c' => Lib.run_eql_slice_nil w _ _ a n c n' c' Tryz.underlying23
  have HE : Hid ((w.alloc (.cells #[] 42)).ownsRow w.heap.size 42 7 (.slice (some ⟨w.heap.size, 0, none⟩) 0 0) 0 []) := World.ownsRow_lit w #[] 0 (Nat.le_refl _) (Nat.zero_le _) rfl
  have HB : Hid (Below w.heap.size w (w.alloc (.cells #[] 42))) := (Below.refl _ _).alloc (Nat.le_refl _) _
  have HR := hd9 h
  cases ao with
  | none =>
    have hx : ns = [] := by
      obtain ⟨a', c', e, -, -, h3⟩ := h
      simp only [Value.slice.injEq] at e
      rcases h3 with h3 | ⟨b, o, e2, _⟩
      · exact h3
      · rw [← e.1] at e2; cases e2
    subst hx
    clear h HR
    go_enter Tryz.func29, Tryz.ntmps29
    go_wp2
    go_ret
    exact ⟨_, rfl, World.ownsRow_nil _ _ _ _, Below.refl _ _⟩
  | some a =>
    have HCS : Hid (∀ j u, (nrow ns)[j]? = some u → (w.alloc (.cells #[] 42)).cell? (a.add j) = some u) := fun j u hu => (HR.out.below HB.out).rowCells9 a rfl j u hu
    clear h
    generalize hl : ns.length = m at *
    have HL := hd9 hl
    clear hl
    go_enter Tryz.func29, Tryz.ntmps29
    go_wp2_with (at_builtin; go_must (refine wpList_append_own _ rfl _ _ 23 rfl w.heap.size 42 i0 _ 7 72 Tryz.underlying23 hi hz0 hz1 hz2 rfl (by decide) _ _ _ rfl HE.out a m cap (nrow ns) rfl ?c0 HCS.out (nrow_one7 _) ?c3 ?c4 ?c5 ?_))
    case c0 => rw [nrow_length, HL.out]
    case c3 => unfold maxLen; omega
    case c4 => omega
    case c5 => simp
    intro v2 w2 ho2 hg2 _
    have HO2 : Hid (OwnN 42 w2 w.heap.size v2 ns) := by
      show World.ownsRow _ _ _ _ _ _ _
      rw [HL.out]
      exact ho2
    have HG2 := hd9 (HB.out.grown hg2 (by simp) (by intro q hq; simp [Value.ownBlock] at hq; omega))
    clear ho2 hg2
    go_wp2
    go_ret
    exact ⟨_, rfl, HO2.out, HG2.out⟩
theorem zxid_any (w : World) (z : Int) : Calls Tryz.prog 27 #[.int .i64 z] w fun e w' => e = .returned (.bool (decide (1 ≤ z) && decide (z ≤ 2147483647))) ∧ w' = w := by
  obtain ⟨r, hr⟩ : ∃ r, r = (decide (1 ≤ z) && decide (z ≤ 2147483647)) := ⟨_, rfl⟩
  rw [← hr]
  by_cases h1 : 1 ≤ z
  · by_cases h2 : z ≤ 2147483647
    · rw [decide_eq_true h1, decide_eq_true h2] at hr
      have HR := hd9 hr
      clear hr
      go_enter Tryz.func27, Tryz.ntmps27
      go_wp2
      go_ret
      exact ⟨by rw [HR.out]; rfl, rfl⟩
    · rw [decide_eq_true h1, decide_eq_false h2] at hr
      have HR := hd9 hr
      clear hr
      go_enter Tryz.func27, Tryz.ntmps27
      go_wp2
      go_ret
      exact ⟨by rw [HR.out]; rfl, rfl⟩
  · rw [decide_eq_false h1] at hr
    have HR := hd9 hr
    clear hr
    go_enter Tryz.func27, Tryz.ntmps27
    go_wp2
    go_ret
    exact ⟨by rw [HR.out]; rfl, rfl⟩
theorem tab_below {w W : World} {nm : String} {k : IntKind} {zs : List Int} (h : Lib.TabIs Tryz.prog w nm k zs) (hb : Below w.heap.size w W) : Lib.TabIs Tryz.prog W nm k zs := by
  unfold Lib.TabIs World.var? at *
  cases hg : Tryz.prog.globalNamed nm with
  | none => rw [hg] at h; cases h
  | some g =>
    rw [hg] at h
    simp only [Option.bind_some] at h ⊢
    by_cases hl : g < w.heap.size
    · rw [hb.block g hl]; exact h
    · rw [Array.getElem?_eq_none (by omega)] at h; cases h

set_option linter.unusedSimpArgs false in
set_option maxHeartbeats 4000000 in
set_option maxRecDepth 100000 in
theorem implPrep_bad (w : World) (v vo : Value) (ns : List Nd) (os : List Op5) (z : Int) (h : RdN w v ns) (ho : RdO w vo os) (hsz : ∀ i, (nAt ns i).path.size ≤ 1048576 ∧ (nAt ns i).data.size ≤ 1048576) (hb : okPrep ns os z = false)
    (hg : w.cell? ⟨0, 0, none⟩ = some (.iface 171 (.agg #[.pointer (some ⟨7, 77, none⟩)]))) (h0 : 0 < w.heap.size) :
    Calls Tryz.prog 8 #[.agg #[v], .agg #[vo], .int .i64 z] w fun e w' => e = .returned (.agg #[.int .i64 9, .int .i64 0, .slice none 0 0, .int .i64 0, .slice none 0 0]) ∧ Below w.heap.size w w' := by
  obtain ⟨ao, ca, rfl, _, _⟩ := h.len
  obtain ⟨bo, cb, rfl, _, _⟩ := ho.len
  have HR := hd9 h
  have HSZ := hd9 hsz
  have HG := hd9 hg
  have HBAD := hd9 hb
  have X0 : Hid (PrB w (.slice ao ns.length ca) (.slice bo os.length cb) (((w.alloc (.cells #[.slice ao ns.length ca] 25)).alloc (.cells #[.slice bo os.length cb] 28)).alloc (.cells #[.int .i64 0, .int .i64 0, .slice none 0 0, .int .i64 0, .slice none 0 0] 37))) := PrB.new _ _ _ _ _ _
  clear h ho hsz hb hg
  go_enter Tryz.func8, Tryz.ntmps8
  go_wp2_with fail
  generalize ((w.alloc (.cells #[.slice ao ns.length ca] 25)).alloc (.cells #[.slice bo os.length cb] 28)).alloc (.cells #[.int .i64 0, .int .i64 0, .slice none 0 0, .int .i64 0, .slice none 0 0] 37) = w0 at *
  refine (implTree_any _ _ ns (HR.out.below X0.out.1) HSZ.out).mono ?_
  rintro e w1 ⟨rfl, b1⟩
  have X1 : Hid (PrB w (.slice ao ns.length ca) (.slice bo os.length cb) w1) := X0.out.below b1
  clear b1 X0
  obtain ⟨-, zz, a0, a1, -⟩ := X1.out
  have HRF := hd9 (refused_f w1 9 ((X1.out.1.cell (p := ⟨0, 0, none⟩) h0).trans HG.out) (by omega))
  have HZX : Hid (∀ W, Calls Tryz.prog 27 #[.int .i64 z] W fun e w' => e = .returned (.bool (decide (1 ≤ z) && decide (z ≤ 2147483647))) ∧ w' = W) := fun W => zxid_any W z
  have hB := HBAD.out
  unfold okPrep at hB
  clear HBAD
  cases ht : okTree ns with
  | false =>
    clear hB
    go_wp2_with (first | (go_at_call 27; refine (HZX.out _).mono ?_; rintro e w' ⟨rfl, rfl⟩) | (go_at_call 28; refine HRF.out.mono ?_))
    rintro e w2 ⟨rfl, b2⟩
    have X2 := hd9 (X1.out.below b2)
    clear b2
    obtain ⟨-, zz, -, -, ⟨d0, d1, d2, d3, d4⟩, df⟩ := X2.out
    have f0 := df 0
    have f1 := df 1
    have f2 := df 2
    have f3 := df 3
    have f4 := df 4
    clear df
    go_wp2_with fail
    refine bodyPost_ret (v := .agg #[.int .i64 9, .int .i64 0, .slice none 0 0, .int .i64 0, .slice none 0 0]) (by simp [results, Tryz.results8, go_sem, d0, d1, d2, d3, d4]) rfl ⟨rfl, X2.out.1.trans ?_⟩
    repeat (first | exact Below.refl _ _ | refine Below.setCell ?_ (by simp; try omega) _)
  | true =>
    rw [ht, Bool.true_and] at hB
    clear ht
    by_cases h1 : 1 ≤ os.length
    · rw [decide_eq_true h1, Bool.true_and] at hB
      have h1I : ¬ (os.length : Int) < 1 := by omega
      by_cases h2 : os.length ≤ 64
      · rw [decide_eq_true h2, Bool.true_and] at hB
        have h2I : ¬ (64 : Int) < (os.length : Int) := by omega
        rw [hB] at HZX
        clear hB
        go_wp2_with (first | (go_at_call 27; refine (HZX.out _).mono ?_; rintro e w' ⟨rfl, rfl⟩) | (go_at_call 28; refine HRF.out.mono ?_))
        rintro e w2 ⟨rfl, b2⟩
        have X2 := hd9 (X1.out.below b2)
        clear b2
        obtain ⟨-, zz, -, -, ⟨d0, d1, d2, d3, d4⟩, df⟩ := X2.out
        have f0 := df 0
        have f1 := df 1
        have f2 := df 2
        have f3 := df 3
        have f4 := df 4
        clear df
        go_wp2_with fail
        refine bodyPost_ret (v := .agg #[.int .i64 9, .int .i64 0, .slice none 0 0, .int .i64 0, .slice none 0 0]) (by simp [results, Tryz.results8, go_sem, d0, d1, d2, d3, d4]) rfl ⟨rfl, X2.out.1.trans ?_⟩
        repeat (first | exact Below.refl _ _ | refine Below.setCell ?_ (by simp; try omega) _)
      · have h2I : (64 : Int) < (os.length : Int) := by omega
        clear hB
        go_wp2_with (first | (go_at_call 27; refine (HZX.out _).mono ?_; rintro e w' ⟨rfl, rfl⟩) | (go_at_call 28; refine HRF.out.mono ?_))
        rintro e w2 ⟨rfl, b2⟩
        have X2 := hd9 (X1.out.below b2)
        clear b2
        obtain ⟨-, zz, -, -, ⟨d0, d1, d2, d3, d4⟩, df⟩ := X2.out
        have f0 := df 0
        have f1 := df 1
        have f2 := df 2
        have f3 := df 3
        have f4 := df 4
        clear df
        go_wp2_with fail
        refine bodyPost_ret (v := .agg #[.int .i64 9, .int .i64 0, .slice none 0 0, .int .i64 0, .slice none 0 0]) (by simp [results, Tryz.results8, go_sem, d0, d1, d2, d3, d4]) rfl ⟨rfl, X2.out.1.trans ?_⟩
        repeat (first | exact Below.refl _ _ | refine Below.setCell ?_ (by simp; try omega) _)
    · have h1I : (os.length : Int) < 1 := by omega
      clear hB
      go_wp2_with (first | (go_at_call 27; refine (HZX.out _).mono ?_; rintro e w' ⟨rfl, rfl⟩) | (go_at_call 28; refine HRF.out.mono ?_))
      rintro e w2 ⟨rfl, b2⟩
      have X2 := hd9 (X1.out.below b2)
      clear b2
      obtain ⟨-, zz, -, -, ⟨d0, d1, d2, d3, d4⟩, df⟩ := X2.out
      have f0 := df 0
      have f1 := df 1
      have f2 := df 2
      have f3 := df 3
      have f4 := df 4
      clear df
      go_wp2_with fail
      refine bodyPost_ret (v := .agg #[.int .i64 9, .int .i64 0, .slice none 0 0, .int .i64 0, .slice none 0 0]) (by simp [results, Tryz.results8, go_sem, d0, d1, d2, d3, d4]) rfl ⟨rfl, X2.out.1.trans ?_⟩
      repeat (first | exact Below.refl _ _ | refine Below.setCell ?_ (by simp; try omega) _)


set_option linter.unusedSimpArgs false in
set_option maxHeartbeats 4000000 in
set_option maxRecDepth 100000 in
theorem implPrep_ok (w : World) (v vo : Value) (ns : List Nd) (os : List Op5) (z : Int) (h : RdN w v ns) (ho : RdO w vo os) (hos : ∀ i, i < os.length → (oAt os i).path.size ≤ 1048576 ∧ (oAt os i).data.size ≤ 1048576) (hb : okPrep ns os z = true)
    (hg : w.cell? ⟨0, 0, none⟩ = some (.iface 171 (.agg #[.pointer (some ⟨7, 77, none⟩)]))) (h0 : 0 < w.heap.size) (htab : Lib.TabIs Tryz.prog w "internal/strconv.uint64pow10" .u64 Lib.pow10Tab) :
    Calls Tryz.prog 8 #[.agg #[v], .agg #[vo], .int .i64 z] w fun e w' => PrOk w ns z (runO z os ns 0 []) e w' := by
  unfold okPrep at hb
  simp only [Bool.and_eq_true, decide_eq_true_eq] at hb
  obtain ⟨hok, h1, h2, h3, h4⟩ := hb
  have HSND := hd9 (okTree_snd.1 hok)
  have HOK := hd9 hok
  have hn : ns.length ≤ 1000 := HSND.out.2.2
  obtain ⟨ao, ca, rfl, _, _⟩ := h.len
  obtain ⟨bo, cb, rfl, _, _⟩ := ho.len
  have HR := hd9 h
  have HOR := hd9 ho
  have HOS := hd9 hos
  have HG := hd9 hg
  have HT := hd9 htab
  have HSZ : Hid (∀ i, (nAt ns i).path.size ≤ 1048576 ∧ (nAt ns i).data.size ≤ 1048576) := by
    intro i
    by_cases hi : i < ns.length
    · have := okNd_all (HSND.out.2.1 _ (List.getElem_mem hi))
      rw [nAt_get hi]; omega
    · have : nAt ns i = nd0 := by unfold nAt; simp [List.getD, List.getElem?_eq_none (show ns.length ≤ i by omega)]
      rw [this]; simp [nd0]
  have HSF : Hid (∀ W, Below w.heap.size w W → ∀ n : Int, 0 ≤ n → n ≤ 2147483647 → Calls Tryz.prog 107 #[.int .i64 n] W fun e w' => e = .returned (.string ⟨(six 12 n.toNat 6).toArray⟩) ∧ Below W.heap.size W w') := fun W hW n a b => suffix_any W n a b (tab_below HT.out hW)
  have h1I : ¬ (os.length : Int) < 1 := by omega
  have h2I : ¬ (64 : Int) < (os.length : Int) := by omega
  have HZ : Hid (okS z = true) := by show _ = _; unfold okS; simp; omega
  have HZX : Hid (∀ W, Calls Tryz.prog 27 #[.int .i64 z] W fun e w' => e = .returned (.bool true) ∧ W = w') := fun W => by
    have := zxid_any W z
    rw [decide_eq_true h3, decide_eq_true h4] at this
    exact this.mono fun e w' h9 => ⟨h9.1, h9.2.symm⟩
  have X0 : Hid (PrB w (.slice ao ns.length ca) (.slice bo os.length cb) (((w.alloc (.cells #[.slice ao ns.length ca] 25)).alloc (.cells #[.slice bo os.length cb] 28)).alloc (.cells #[.int .i64 0, .int .i64 0, .slice none 0 0, .int .i64 0, .slice none 0 0] 37))) := PrB.new _ _ _ _ _ _
  obtain ⟨res, hres⟩ : ∃ res, res = runO z os ns 0 [] := ⟨_, rfl⟩
  rw [← hres]
  have HRE := hd9 hres
  clear h ho hos hok hg htab hres
  go_enter Tryz.func8, Tryz.ntmps8
  go_wp2_with fail
  generalize ((w.alloc (.cells #[.slice ao ns.length ca] 25)).alloc (.cells #[.slice bo os.length cb] 28)).alloc (.cells #[.int .i64 0, .int .i64 0, .slice none 0 0, .int .i64 0, .slice none 0 0] 37) = w0 at *
  refine (implTree_any _ _ ns (HR.out.below X0.out.1) HSZ.out).mono ?_
  rintro e w1 ⟨rfl, b1⟩
  rw [HOK.out]
  have X1 : Hid (PrB w (.slice ao ns.length ca) (.slice bo os.length cb) w1) := X0.out.below b1
  clear b1 X0 HOK
  have zz : w.heap.size + 3 ≤ w1.heap.size := X1.out.2.1
  obtain ⟨-, -, a0, a1, -⟩ := X1.out
  have HCL := hd9 (cloneN9 w1 ao ca ns (HR.out.below X1.out.1) hn)
  go_wp2_with (first | (go_at_call 27; refine (HZX.out _).mono ?_; rintro e w' ⟨rfl, rfl⟩) | (go_at_call 29; refine HCL.out.mono ?_))
  rintro e w2 ⟨v2, rfl, o2, b2⟩
  have X2 := hd9 (X1.out.below b2)
  have B2 := hd9 b2
  have O2 := hd9 o2
  have V2 : Hid (∀ g, v2.ownBlock = some g → g < w2.heap.size) := fun g hg => (World.ownsRow.lt o2 g hg).2
  have s2 := b2.size
  obtain ⟨va2, vc2, rfl⟩ := o2.slice9
  clear o2 b2 HCL a0 a1
  have B3 : Hid (Below w2.heap.size w2 (w2.alloc (.cells #[.slice va2 ns.length vc2, .int .i64 z] 75))) := (Below.refl _ _).alloc (Nat.le_refl _) _
  have D3 : Hid (Df (w2.alloc (.cells #[.slice va2 ns.length vc2, .int .i64 z] 75)) w2.heap.size w1.heap.size z (.slice va2 ns.length vc2) ns) := ⟨St.new _ _ _, O2.out.below B3.out, fun e => by have := V2.out _ e; omega, HSND.out⟩
  have X3 := hd9 (X2.out.below B3.out)
  have e3 : (w2.alloc (.cells #[.slice va2 ns.length vc2, .int .i64 z] 75)).heap.size = w2.heap.size + 1 := by simp
  have E3 := hd9 e3
  clear e3 O2 V2 X2
  obtain ⟨-, -, a0, a1, -⟩ := X3.out
  go_wp2_with fail
  clear a0 a1
  generalize w2.alloc _ = w3 at *
  have B3w := hd9 (B2.out.trans (B3.out.mono B2.out.size))
  refine (doAll_any w1 w3 w2.heap.size z _ _ ns os B3w.out D3.out B2.out.size (HOR.out.below X1.out.1) HOS.out HZ.out h1 h2 (fun W hW => HSF.out W (X1.out.1.trans (hW.mono X1.out.1.size)))).mono ?_
  rw [← HRE.out]
  rintro e w4 ⟨b4, hA | hA⟩
  · obtain ⟨hne, rfl⟩ := hA
    have X4 := hd9 (X1.out.belowB b4 zz)
    have HRF := hd9 (refused_o w4 (res.2.1 : Int) res.1 ((X4.out.1.cell (p := ⟨0, 0, none⟩) h0).trans HG.out) (by have := b4.size; omega))
    clear b4
    unfold flt
    go_wp2_with (go_at_call 28; refine HRF.out.mono ?_)
    rintro e w5 ⟨rfl, b5⟩
    have X5 := hd9 (X4.out.below b5)
    clear b5
    obtain ⟨-, z5, -, -, ⟨d0, d1, d2, d3, d4⟩, df⟩ := X5.out
    have f0 := df 0
    have f1 := df 1
    have f2 := df 2
    have f3 := df 3
    have f4 := df 4
    clear df
    go_wp2_with fail
    refine bodyPost_ret (v := .agg #[.int .i64 res.1, .int .i64 (res.2.1 : Int), .slice none 0 0, .int .i64 0, .slice none 0 0]) (by simp [results, Tryz.results8, go_sem, d0, d1, d2, d3, d4]) rfl ⟨X5.out.1.trans ?_, .inl ⟨hne, rfl⟩⟩
    repeat (first | exact Below.refl _ _ | refine Below.setCell ?_ (by simp; try omega) _)
  · obtain ⟨he0, vn, v4, rfl, hvn, d4⟩ := hA
    have X4 := hd9 (X1.out.belowB b4 zz)
    have s4 := b4.size
    have D4 := hd9 d4
    have N4 := hd9 hvn
    clear b4 d4 hvn
    go_wp2_with fail
    have s3 := B3w.out.size
    have e3 := E3.out
    have X5 : Hid (PrB w (.slice ao ns.length ca) (.slice bo os.length cb) w4.drew) := X4.out.below (below_drewN' w4 1)
    have D5 : Hid (Df w4.drew w2.heap.size w1.heap.size z v4 res.2.2.1) := D4.out.below (below_drewN' w4 1)
    have N5 : Hid (w4.drew.ownsRow w3.heap.size 9 1 vn res.2.2.2.length (res.2.2.2.map Value.string)) := N4.out
    have s5 : w1.heap.size ≤ w4.drew.heap.size := s4
    clear X4 D4 N4 s4
    refine wp_region_held_drew (S := fun W => W.cell? ⟨w.heap.size, 0, none⟩ = some (.slice ao ns.length ca) ∧ W.cell? ⟨w2.heap.size, 0, none⟩ = some v4) (by kernel_rfl) ⟨X5.out.2.2.1, D5.out.s.cl 0 _ rfl⟩ (fun hHeld => ?_)
    generalize w4.drew = w5 at *
    iterate 8 (refine tkI9 ?_ (by kernel_rfl) (fun _ => id) hHeld ?_ ?_; rotate_left; · intro w9 hS9; obtain ⟨k0, k1⟩ := hS9; go_simp; try with_reducible rfl)
    refine rdA9 8 rfl (by kernel_rfl) (fun K hK => ?_)
    go_simp
    refine (diffs_any w5 _ _ ns res.2.2.1 (HR.out.below X5.out.1) D5.out.o.rd hn D5.out.n.2.2).mono ?_
    rintro e w6 ⟨v6, rfl, o6, b6⟩
    have X6 := hd9 (X5.out.below b6)
    have D6 := hd9 (D5.out.below b6)
    have N6 := hd9 (rowP_below N5.out b6)
    obtain ⟨ea, ec, rfl⟩ := o6.slice9
    have E6 := hd9 o6
    have s6 := b6.size
    clear o6 b6 hHeld X5 D5 N5
    refine hK.out _ _ ⟨X6.out.2.2.1, D6.out.s.cl 0 _ rfl⟩ (fun hHeld => ?_)
    clear hK K
    have hun : ∃ ua uc, vn = .slice ua res.2.2.2.length uc := by
      rcases N6.out.2 with ⟨rfl, hx⟩ | ⟨g, cap, cur, rfl, -⟩
      · exact ⟨_, _, by rw [hx]⟩
      · exact ⟨_, _, rfl⟩
    obtain ⟨ua, uc, rfl⟩ := hun
    iterate 2 (refine tkI9 ?_ (by kernel_rfl) (fun _ => id) hHeld ?_ ?_; rotate_left; · intro w9 hS9; clear hS9; go_simp; try with_reducible rfl)
    obtain ⟨-, z6, -, -, ⟨d0, d1, d2, d3, d4⟩, df⟩ := X6.out
    have f0 := df 0
    have f1 := df 1
    have f2 := df 2
    have f3 := df 3
    have f4 := df 4
    clear df
    refine rdA9 11 rfl (by kernel_rfl) (fun K hK => ?_)
    go_simp
    have T9 := hd9 ((((((Tw.refl w6 (w.heap.size + 1 + 1) none).set (j := 0) (x := .int .i64 0)).set (j := 1) (x := .int .i64 0)).set (j := 2) (x := .slice ua res.2.2.2.length uc)).set (j := 3) (x := .int .i64 z)).set (j := 4) (x := .slice ea (dif ns res.2.2.1).length ec))
    have k0 := (World.cell?_of_block (w := w6) (a := ⟨w.heap.size, 0, none⟩) (T9.out.block w.heap.size (by omega) (by omega) (by simp))).trans X6.out.2.2.1
    have k1 := (T9.out.st D6.out.s (by omega) (by simp)).cl 0 _ rfl
    refine hK.out _ _ ⟨k0, k1⟩ (fun hHeld => ?_)
    clear hK K k0 k1
    refine wpAnyH_done (by kernel_rfl) ?_ _
    try simp only [Act.put, sT9, sZ9, sS9]
    clear hHeld
    have HF : Hid (PrOk w ns z res (.returned (.agg #[.int .i64 0, .int .i64 0, .slice ua res.2.2.2.length uc, .int .i64 z, .slice ea (dif ns res.2.2.1).length ec])) (((((w6.setCell ⟨w.heap.size + 1 + 1, 0, none⟩ (.int .i64 0)).setCell ⟨w.heap.size + 1 + 1, 1, none⟩ (.int .i64 0)).setCell ⟨w.heap.size + 1 + 1, 2, none⟩ (.slice ua res.2.2.2.length uc)).setCell ⟨w.heap.size + 1 + 1, 3, none⟩ (.int .i64 z)).setCell ⟨w.heap.size + 1 + 1, 4, none⟩ (.slice ea (dif ns res.2.2.1).length ec))) := by
      refine ⟨X6.out.1.trans (T9.out.below (by omega) (by omega) (fun g h => by cases h)), .inr ⟨he0, _, _, rfl, ?_, ?_⟩⟩
      · refine rowP_mono (lo := w3.heap.size) (rowP_tw N6.out T9.out (fun g hg => ?_) (fun g hg => by simp)) (by omega)
        have := (World.ownsRow.lt N6.out g hg).1
        omega
      · unfold OwnE
        refine rowP_mono (lo := w5.heap.size) (rowP_tw E6.out T9.out (fun g hg => ?_) (fun g hg => by simp)) (by omega)
        have := (World.ownsRow.lt E6.out g hg).1
        omega
    clear T9 N6 E6 X6 D6
    go_wp2_with fail
    exact bodyPost_ret (v := .agg #[.int .i64 0, .int .i64 0, .slice ua res.2.2.2.length uc, .int .i64 z, .slice ea (dif ns res.2.2.1).length ec]) (by simp [results, Tryz.results8, go_sem, d0, d1, d2, d3, d4]) rfl HF.out


/-- Names as lists of bytes. -/
def nmL (nm : List ByteArray) : List (List UInt8) := nm.map fun s => s.data.toList
theorem nmL_map (nm : List ByteArray) : (nmL nm).map sV = nm.map Value.string := by
  unfold nmL
  rw [List.map_map]
  apply List.map_congr_left
  intro s _
  simp [sV]
/-- What Prepare answers. -/
structure Pa where
  c : Int
  i : Int
  z : Int
  L : List (List UInt8)
  es : List Ef
def prF (ns : List Nd) (os : List Op5) (z : Int) : Pa :=
  if okPrep ns os z = true then
    (if (runO z os ns 0 []).1 = 0 then ⟨0, 0, z, nmL (runO z os ns 0 []).2.2.2, dif ns (runO z os ns 0 []).2.2.1⟩
     else ⟨(runO z os ns 0 []).1, ((runO z os ns 0 []).2.1 : Nat), 0, [], []⟩)
  else ⟨9, 0, 0, [], []⟩
def PA (w : World) (a : Pa) (e : Ending) (w' : World) : Prop :=
  ∃ vn ve, e = .returned (.agg #[.int .i64 a.c, .int .i64 a.i, vn, .int .i64 a.z, ve]) ∧ OwnS w' w.heap.size vn a.L ∧ OwnE 59 w' w.heap.size ve a.es ∧ Below w.heap.size w w'
theorem PA.bad {w w' : World} {c i z : Int} {e : Ending} (he : e = .returned (.agg #[.int .i64 c, .int .i64 i, .slice none 0 0, .int .i64 z, .slice none 0 0])) (hb : Below w.heap.size w w') : PA w ⟨c, i, z, [], []⟩ e w' :=
  ⟨_, _, he, World.ownsRow_nil _ _ _ _, World.ownsRow_nil _ _ _ _, hb⟩
theorem PA.ok {w w' : World} {ns : List Nd} {os : List Op5} {z : Int} {e : Ending} (hk : okPrep ns os z = true) (h : PrOk w ns z (runO z os ns 0 []) e w') : PA w (prF ns os z) e w' := by
  obtain ⟨hb, h⟩ := h
  unfold prF
  rw [if_pos hk]
  rcases h with ⟨h0, he⟩ | ⟨h0, vn, ve, he, h1, h2⟩
  · rw [if_neg h0]
    exact PA.bad he hb
  · rw [if_pos h0]
    refine ⟨vn, ve, he, ?_, h2, hb⟩
    show World.ownsRow _ _ _ _ _ _ _
    rw [nmL_map]
    have : (nmL (runO z os ns 0 []).2.2.2).length = (runO z os ns 0 []).2.2.2.length := by simp [nmL]
    rw [this]
    exact h1
theorem runO_sl {z : Int} (hz : okS z = true) : ∀ (os : List Op5) (ns : List Nd) (i : Nat) (nm : List ByteArray), Snd ns → Snd (runO z os ns i nm).2.2.1 ∧ (runO z os ns i nm).2.2.2.length ≤ nm.length + os.length
  | [], ns, i, nm, h => ⟨h, Nat.le_refl _⟩
  | o :: os, ns, i, nm, h => by
    unfold runO
    split
    · exact ⟨h, by simp⟩
    · have := runO_sl hz os (doO ns o z).2.1 (i + 1) (nm ++ [(doO ns o z).2.2]) (doO_snd h o hz)
      refine ⟨this.1, Nat.le_trans this.2 ?_⟩
      simp; omega
theorem specP_any (w : World) (v vo : Value) (ns : List Nd) (os : List Op5) (z : Int) (h : RdN w v ns) (ho : RdO w vo os) (hn : ns.length ≤ 1048576) (hsz : ∀ i, (nAt ns i).path.size ≤ 1048576 ∧ (nAt ns i).data.size ≤ 1048576) (hos : ∀ i, (oAt os i).path.size ≤ 1048576 ∧ (oAt os i).data.size ≤ 1048576) :
    Calls Tryz.prog 9 #[.agg #[v], .agg #[vo], .int .i64 z] w fun e w' => PA w (prF ns os z) e w' := by
  by_cases hk : okPrep ns os z = true
  · exact (specPrep_ok w v vo ns os z h ho (fun i _ => hos i) hk).mono fun e w' h9 => PA.ok hk h9
  · refine (specPrep_bad w v vo ns os z h ho hn hsz (by simpa using hk)).mono fun e w' h9 => ?_
    unfold prF
    rw [if_neg hk]
    exact PA.bad h9.1 h9.2
theorem implP_any (w : World) (v vo : Value) (ns : List Nd) (os : List Op5) (z : Int) (h : RdN w v ns) (ho : RdO w vo os) (hsz : ∀ i, (nAt ns i).path.size ≤ 1048576 ∧ (nAt ns i).data.size ≤ 1048576) (hos : ∀ i, (oAt os i).path.size ≤ 1048576 ∧ (oAt os i).data.size ≤ 1048576)
    (hg : w.cell? ⟨0, 0, none⟩ = some (.iface 171 (.agg #[.pointer (some ⟨7, 77, none⟩)]))) (h0 : 0 < w.heap.size) (htab : Lib.TabIs Tryz.prog w "internal/strconv.uint64pow10" .u64 Lib.pow10Tab) :
    Calls Tryz.prog 8 #[.agg #[v], .agg #[vo], .int .i64 z] w fun e w' => PA w (prF ns os z) e w' := by
  by_cases hk : okPrep ns os z = true
  · exact (implPrep_ok w v vo ns os z h ho (fun i _ => hos i) hk hg h0 htab).mono fun e w' h9 => PA.ok hk h9
  · refine (implPrep_bad w v vo ns os z h ho hsz (by simpa using hk) hg h0).mono fun e w' h9 => ?_
    unfold prF
    rw [if_neg hk]
    exact PA.bad h9.1 h9.2


theorem asc_uniq {ns : List Nd} (h : Asc ns) {a b : Nd} (ha : a ∈ ns) (hb : b ∈ ns) (e : a.path = b.path) : a = b := by
  obtain ⟨i, hi, rfl⟩ := List.getElem_of_mem ha
  obtain ⟨j, hj, rfl⟩ := List.getElem_of_mem hb
  rcases Nat.lt_trichotomy i j with hlt | rfl | hlt
  · have := List.pairwise_iff_getElem.1 h i j hi hj hlt
    rw [e, ltP_irr] at this; cases this
  · rfl
  · have := List.pairwise_iff_getElem.1 h j i hj hi hlt
    rw [e, ltP_irr] at this; cases this
/-- What an effect of two trees is. -/
theorem dif_mem (A B : List Nd) : Asc A → Asc B → ∀ e ∈ dif A B, (∃ b, b ∈ B ∧ b ∉ A ∧ e = putE b) ∨ (∃ a, a ∈ A ∧ (∀ b ∈ B, b.path ≠ a.path) ∧ e = delE a) := by
  have hne : ∀ {p q : ByteArray}, ltP p q = true → p ≠ q := fun h e => by rw [e, ltP_irr] at h; cases h
  fun_induction dif A B with
  | case1 now => intro _ _ e he; obtain ⟨b, hb, rfl⟩ := List.mem_map.1 he; exact .inl ⟨b, hb, by simp, rfl⟩
  | case2 a was => intro _ _ e he; obtain ⟨b, hb, rfl⟩ := List.mem_map.1 he; exact .inr ⟨b, hb, (fun x hx => by cases hx), rfl⟩
  | case3 a was b now hl ih =>
    intro hA hB e he
    obtain ⟨h1, h2⟩ := asc_tail hA
    obtain ⟨h3, h4⟩ := asc_tail hB
    rcases List.mem_cons.1 he with rfl | he
    · refine .inl ⟨b, List.mem_cons_self .., fun hm => ?_, rfl⟩
      rcases List.mem_cons.1 hm with rfl | hm
      · exact hne hl rfl
      · exact hne (ltP_trans hl (h2 b hm)) rfl
    · rcases ih hA h3 e he with ⟨c, hc, hn, rfl⟩ | ⟨c, hc, hn, rfl⟩
      · exact .inl ⟨c, List.mem_cons_of_mem _ hc, hn, rfl⟩
      · refine .inr ⟨c, hc, fun x hx => ?_, rfl⟩
        rcases List.mem_cons.1 hx with rfl | hx
        · rcases List.mem_cons.1 hc with rfl | hc
          · exact hne hl
          · exact hne (ltP_trans hl (h2 c hc))
        · exact hn x hx
  | case4 a was b now hl hg ih =>
    intro hA hB e he
    obtain ⟨h1, h2⟩ := asc_tail hA
    obtain ⟨h3, h4⟩ := asc_tail hB
    rcases List.mem_cons.1 he with rfl | he
    · refine .inr ⟨a, List.mem_cons_self .., fun x hx => ?_, rfl⟩
      rcases List.mem_cons.1 hx with rfl | hx
      · exact fun e => hne hg e.symm
      · exact fun e => hne (ltP_trans hg (h4 x hx)) e.symm
    · rcases ih h1 hB e he with ⟨c, hc, hn, rfl⟩ | ⟨c, hc, hn, rfl⟩
      · refine .inl ⟨c, hc, fun hm => ?_, rfl⟩
        rcases List.mem_cons.1 hm with rfl | hm
        · rcases List.mem_cons.1 hc with rfl | hc
          · exact hne hg rfl
          · exact hne (ltP_trans hg (h4 _ hc)) rfl
        · exact hn hm
      · exact .inr ⟨c, List.mem_cons_of_mem _ hc, hn, rfl⟩
  | case5 a was b now hl hg he' ih =>
    intro hA hB e he
    obtain ⟨h1, h2⟩ := asc_tail hA
    obtain ⟨h3, h4⟩ := asc_tail hB
    have hab : a = b := eqNd_eq he'
    subst hab
    rcases ih h1 h3 e he with ⟨c, hc, hn, rfl⟩ | ⟨c, hc, hn, rfl⟩
    · refine .inl ⟨c, List.mem_cons_of_mem _ hc, fun hm => ?_, rfl⟩
      rcases List.mem_cons.1 hm with rfl | hm
      · exact hne (h4 _ hc) rfl
      · exact hn hm
    · refine .inr ⟨c, List.mem_cons_of_mem _ hc, fun x hx => ?_, rfl⟩
      rcases List.mem_cons.1 hx with rfl | hx
      · exact hne (h2 c hc)
      · exact hn x hx
  | case6 a was b now hl hg he' ih =>
    intro hA hB e he
    obtain ⟨h1, h2⟩ := asc_tail hA
    obtain ⟨h3, h4⟩ := asc_tail hB
    have hs : a.path = b.path := eqL_bytes (ltP_same (by simpa using hg) (by simpa using hl))
    rcases List.mem_cons.1 he with rfl | he
    · refine .inl ⟨b, List.mem_cons_self .., fun hm => ?_, rfl⟩
      rcases List.mem_cons.1 hm with rfl | hm
      · apply he'
        unfold eqNd
        simp
      · exact hne (h2 b hm) hs
    · rcases ih h1 h3 e he with ⟨c, hc, hn, rfl⟩ | ⟨c, hc, hn, rfl⟩
      · refine .inl ⟨c, List.mem_cons_of_mem _ hc, fun hm => ?_, rfl⟩
        rcases List.mem_cons.1 hm with rfl | hm
        · exact hne (h4 _ hc) hs.symm
        · exact hn hm
      · refine .inr ⟨c, List.mem_cons_of_mem _ hc, fun x hx => ?_, rfl⟩
        rcases List.mem_cons.1 hx with rfl | hx
        · rw [← hs]; exact hne (h2 c hc)
        · exact hn x hx

/-- Two trees part at these paths alone. -/
def Off (A C : List Nd) (ps : List ByteArray) : Prop := ∀ n, (n ∈ A ∧ n ∉ C) ∨ (n ∈ C ∧ n ∉ A) → n.path ∈ ps
theorem Off.refl (A : List Nd) : Off A A [] := fun n h => by rcases h with ⟨h1, h2⟩ | ⟨h1, h2⟩ <;> exact absurd h1 h2
theorem wo_mem {ns : List Nd} {p : ByteArray} {m : Nd} : m ∈ woN ns p ↔ m ∈ ns ∧ m.path ≠ p := by
  unfold woN
  rw [List.mem_filter]
  constructor
  · rintro ⟨h1, h2⟩
    exact ⟨h1, fun e => by rw [e] at h2; simp at h2⟩
  · rintro ⟨h1, h2⟩
    refine ⟨h1, ?_⟩
    rw [Bool.not_eq_true']
    cases hb : (m.path.toList == p.toList) with
    | false => rfl
    | true => exact absurd (eqL_bytes hb) h2
theorem wi_mem9 {ns : List Nd} (h : Asc ns) {n m : Nd} (hm : m ∈ ns) (hp : m.path ≠ n.path) : m ∈ wiN ns n := by
  have h1 := wo_mem.2 ⟨hm, hp⟩
  have h2 := wo_all [] ns n.path (fun a ha => by cases ha) h
  simp only [List.nil_append] at h2
  rw [h2] at h1
  rw [wi_form n h]
  rcases List.mem_append.1 h1 with h1 | h1
  · exact List.mem_append_left _ h1
  · exact List.mem_append_right _ (List.mem_cons_of_mem _ h1)
theorem wi_self {ns : List Nd} (h : Asc ns) (n : Nd) : n ∈ wiN ns n := by
  rw [wi_form n h]
  exact List.mem_append_right _ (List.mem_cons_self ..)
theorem Off.wi {A C : List Nd} {ps : List ByteArray} (h : Off A C ps) (hC : Asc C) (n : Nd) : Off A (wiN C n) (n.path :: ps) := by
  intro m hm
  rcases hm with ⟨h1, h2⟩ | ⟨h1, h2⟩
  · by_cases hp : m.path = n.path
    · rw [hp]; exact List.mem_cons_self ..
    · exact List.mem_cons_of_mem _ (h m (.inl ⟨h1, fun hc => h2 (wi_mem9 hC hc hp)⟩))
  · rcases wi_mem h1 with hc | rfl
    · exact List.mem_cons_of_mem _ (h m (.inr ⟨hc, h2⟩))
    · exact List.mem_cons_self ..
theorem Off.wo {A C : List Nd} {ps : List ByteArray} (h : Off A C ps) (p : ByteArray) : Off A (woN C p) (p :: ps) := by
  intro m hm
  rcases hm with ⟨h1, h2⟩ | ⟨h1, h2⟩
  · by_cases hp : m.path = p
    · rw [hp]; exact List.mem_cons_self ..
    · exact List.mem_cons_of_mem _ (h m (.inl ⟨h1, fun hc => h2 (wo_mem.2 ⟨hc, hp⟩)⟩))
  · exact List.mem_cons_of_mem _ (h m (.inr ⟨(wo_mem.1 h1).1, h2⟩))
theorem Off.more {A C : List Nd} {ps qs : List ByteArray} (h : Off A C ps) (hs : ∀ p ∈ ps, p ∈ qs) : Off A C qs := fun n hn => hs _ (h n hn)
theorem Off.to {A C : List Nd} {ps : List ByteArray} (h : Off A C ps) (hC : Asc C) (p : ByteArray) (z : Int) : ∃ q, Off A (toN C p z) (q :: ps) := by
  unfold toN
  split
  · exact ⟨_, h.wi hC _⟩
  · exact ⟨p, h.more fun x hx => List.mem_cons_of_mem _ hx⟩
/-- An operation parts at two paths at most. -/
theorem Off.op {A C : List Nd} {ps : List ByteArray} (h : Off A C ps) (hC : Asc C) (o : Op5) (z : Int) : ∃ q1 q2, Off A (doO C o z).2.1 (q1 :: q2 :: ps) := by
  have h0 : ∃ q1 q2, Off A C (q1 :: q2 :: ps) := ⟨⟨#[]⟩, ⟨#[]⟩, h.more fun x hx => List.mem_cons_of_mem _ (List.mem_cons_of_mem _ hx)⟩
  unfold doO
  split
  · exact h0
  split
  · split
    · exact h0
    split
    · exact h0
    split
    · exact h0
    split
    · exact h0
    · obtain ⟨q, hq⟩ := (h.wi hC ⟨nameO C o, o.data, 0, 0, z, z, z⟩).to (asc_wi hC _) (parB o.path) z
      exact ⟨_, _, hq⟩
  split
  · exact h0
  split
  · exact h0
  split
  · split
    · exact h0
    · obtain ⟨q, hq⟩ := (h.wo o.path).to (asc_wo hC _) (parB o.path) z
      exact ⟨_, _, hq⟩
  split
  · refine ⟨(nAt C (C.findIdx (isP o.path))).path, ⟨#[]⟩, (h.wi hC _).more fun x hx => ?_⟩
    rcases List.mem_cons.1 hx with rfl | hx
    · exact List.mem_cons_self ..
    · exact List.mem_cons_of_mem _ (List.mem_cons_of_mem _ hx)
  · exact h0
theorem off_len {α : Type} {ps : List α} : ∀ {L : List α}, (L.Pairwise fun a b => a ≠ b) → (∀ x ∈ L, x ∈ ps) → L.length ≤ ps.length := by
  classical
  intro L
  induction L generalizing ps with
  | nil => intro _ _; exact Nat.zero_le _
  | cons x L ih =>
    intro hp hs
    obtain ⟨h1, h2⟩ := List.pairwise_cons.1 hp
    have hx := hs x (List.mem_cons_self ..)
    have h3 := ih (ps := ps.erase x) h2 (fun y hy => (List.mem_erase_of_ne (fun e => h1 y hy e.symm)).2 (hs y (List.mem_cons_of_mem _ hy)))
    rw [List.length_erase_of_mem hx] at h3
    have : 0 < ps.length := List.length_pos_of_mem hx
    simp only [List.length_cons]
    omega
/-- So many effects as paths, at most. -/
theorem Off.difl {A C : List Nd} {ps : List ByteArray} (h : Off A C ps) (hA : Asc A) (hC : Asc C) : (dif A C).length ≤ ps.length := by
  have h1 : ((dif A C).map fun e => e.nd.path).Pairwise fun a b => a ≠ b := by
    rw [List.pairwise_map]
    exact (dif_asc A C hA hC).imp fun {a b} hl e => by rw [e, ltP_irr] at hl; cases hl
  have h2 := off_len (ps := ps) h1 (fun x hx => by
    obtain ⟨e, he, rfl⟩ := List.mem_map.1 hx
    rcases dif_mem A C hA hC e he with ⟨b, hb, hn, rfl⟩ | ⟨a, ha, hn, rfl⟩
    · exact h b (.inr ⟨hb, hn⟩)
    · exact h a (.inl ⟨ha, fun hc => hn a hc rfl⟩))
  simpa using h2
theorem ap_again {A B : List Nd} (hA : Asc A) (hB : Asc B) : apL B (dif A B) = B := by
  have key : ∀ es : List Ef, (∀ e ∈ es, apQ B e = B) → apL B es = B := by
    intro es
    induction es with
    | nil => intro _; rfl
    | cons e es ih =>
      intro h
      show apL (apQ B e) es = B
      rw [h e (List.mem_cons_self ..)]
      exact ih fun x hx => h x (List.mem_cons_of_mem _ hx)
  refine key _ fun e he => ?_
  rcases dif_mem A B hA hB e he with ⟨b, hb, hn, rfl⟩ | ⟨a, ha, hn, rfl⟩
  · show wiN B b = B
    have hl : B.findIdx (isP b.path) < B.length := List.findIdx_lt_length_of_exists ⟨b, hb, by unfold isP; simp⟩
    rw [wi_set hB hl]
    have h1 := (found_mem hl)
    have h2 := asc_uniq hB h1.1 hb (eqL_bytes h1.2)
    rw [nAt_get hl] at h2
    exact List.ext_getElem (by simp) fun i hi hi2 => by
      rw [List.getElem_set]
      split
      · rename_i e; subst e; exact h2.symm
      · rfl
  · show woN B a.path = B
    unfold woN
    rw [List.filter_eq_self]
    intro x hx
    rw [Bool.not_eq_true']
    cases hb : (x.path.toList == a.path.toList) with
    | false => rfl
    | true => exact absurd (eqL_bytes hb) (hn x hx)


theorem runO_off {z : Int} (hz : okS z = true) {A : List Nd} : ∀ (os : List Op5) (ns : List Nd) (i : Nat) (nm : List ByteArray) (ps : List ByteArray), Snd ns → Off A ns ps → ∃ qs, qs.length ≤ ps.length + 2 * os.length ∧ Off A (runO z os ns i nm).2.2.1 qs
  | [], ns, i, nm, ps, _, h => ⟨ps, by simp, h⟩
  | o :: os, ns, i, nm, ps, hs, h => by
    unfold runO
    split
    · exact ⟨ps, by omega, h⟩
    · obtain ⟨q1, q2, hq⟩ := h.op hs.1 o z
      obtain ⟨qs, hl, hq⟩ := runO_off hz os (doO ns o z).2.1 (i + 1) (nm ++ [(doO ns o z).2.2]) _ (doO_snd hs o hz) hq
      refine ⟨qs, ?_, hq⟩
      simp only [List.length_cons] at hl ⊢
      omega
/-- An accepted request: its tree, and what its transaction does. -/
structure PrGood (ns : List Nd) (z : Int) (a : Pa) (B : List Nd) : Prop where
  zz : a.z = z
  s : Snd ns
  b : Snd B
  es : a.es = dif ns B
  ok : okTxn z a.es = true
  one : resA ns z a.es = B
  two : resA B z a.es = B
theorem prF_good {ns : List Nd} {os : List Op5} {z : Int} (h : (prF ns os z).c = 0) : PrGood ns z (prF ns os z) (runO z os ns 0 []).2.2.1 := by
  unfold prF at h ⊢
  split at h
  · rename_i hk
    rw [if_pos hk]
    split at h
    · rename_i h0
      rw [if_pos h0]
      unfold okPrep at hk
      simp only [Bool.and_eq_true, decide_eq_true_eq] at hk
      obtain ⟨hok, h1, h2, h3, h4⟩ := hk
      have hs := okTree_snd.1 hok
      have hz : okS z = true := by unfold okS; simp; omega
      have hb := (runO_sl hz os ns 0 [] hs).1
      obtain ⟨qs, hl, hq⟩ := runO_off hz os ns 0 [] [] hs (Off.refl ns)
      have hd := hq.difl hs.1 hb.1
      generalize (runO z os ns 0 []).2.2.1 = B at *
      have ok : okTxn z (dif ns B) = true := by
        unfold okTxn
        simp only [Bool.and_eq_true, decide_eq_true_eq]
        simp only [List.length_nil] at hl
        exact ⟨⟨⟨h3, h4⟩, by omega⟩, okEs_of (dif_asc ns B hs.1 hb.1) (dif_ok ns B hs.2.1 hb.2.1)⟩
      refine ⟨rfl, hs, hb, rfl, ok, ?_, ?_⟩
      · show resA ns z (dif ns B) = B
        unfold resA
        rw [okTree_snd.2 hs, ok]
        exact ap_dif0 hs.1 hb.1
      · show resA B z (dif ns B) = B
        unfold resA
        rw [okTree_snd.2 hb, ok]
        exact ap_again hs.1 hb.1
    · rename_i h0
      exact absurd h h0
  · exact absurd h (by decide)
theorem snd_szs {ns : List Nd} (h : Snd ns) (i : Nat) : (nAt ns i).path.size ≤ 1048576 ∧ (nAt ns i).data.size ≤ 1048576 := by
  by_cases hi : i < ns.length
  · have := okNd_all (h.2.1 _ (List.getElem_mem hi))
    rw [nAt_get hi]; omega
  · have : nAt ns i = nd0 := by unfold nAt; simp [List.getD, List.getElem?_eq_none (show ns.length ≤ i by omega)]
    rw [this]; simp [nd0]
theorem okTxn_szs {z : Int} {es : List Ef} (h : okTxn z es = true) (i : Nat) : (eAt es i).nd.path.size ≤ 1048576 ∧ (eAt es i).nd.data.size ≤ 1048576 := by
  by_cases hi : i < es.length
  · have h1 := okTxn_es h
    have h2 : okEf (eAt es i) = true := by
      have := h1.1
      unfold okEs at this
      have := List.all_eq_true.1 this i (by simpa using hi)
      unfold okEAt at this
      simp only [Bool.and_eq_true] at this
      exact this.1
    have h3 : okNd (eAt es i).nd = true := by
      unfold okEf at h2
      simp only [Bool.and_eq_true] at h2
      exact h2.1
    have := okNd_all h3
    omega
  · have : eAt es i = ef0 := by unfold eAt; rw [List.getD, List.getElem?_eq_none (by omega)]; rfl
    rw [this]; exact ⟨Nat.zero_le _, Nat.zero_le _⟩


theorem less_pre (x y : List UInt8) : ∀ p : List UInt8, Op.bytesLess (p ++ x) (p ++ y) = Op.bytesLess x y
  | [] => rfl
  | a :: p => by
    show (decide (a < a) || a == a && Op.bytesLess (p ++ x) (p ++ y)) = _
    rw [less_pre x y p]
    simp
theorem less_app : ∀ (x y : List UInt8) (a b : List UInt8), x.length = y.length → Op.bytesLess x y = true → Op.bytesLess (x ++ a) (y ++ b) = true
  | [], [], a, b, _, h => by simp [Op.bytesLess] at h
  | u :: x, v :: y, a, b, hl, h => by
    simp only [List.cons_append]
    unfold Op.bytesLess at h ⊢
    simp only [Bool.or_eq_true, Bool.and_eq_true] at h ⊢
    rcases h with h | ⟨h1, h2⟩
    · exact .inl h
    · exact .inr ⟨h1, less_app x y a b (by simpa using hl) h2⟩
  | [], _ :: _, _, _, hl, _ => by simp at hl
  | _ :: _, [], _, _, hl, _ => by simp at hl
theorem six_ln : ∀ (d f v : Nat), d ≤ f → v < 10 ^ d → (six f v d).length = d
  | 0, f, v, _, hv => by
    have : v = 0 := by simpa using hv
    subst this
    cases f with
    | zero => rfl
    | succ f => simp [six]
  | d + 1, 0, v, hf, _ => by omega
  | d + 1, f + 1, v, hf, hv => by
    unfold six
    rw [if_neg (by omega), List.length_append, Nat.add_sub_cancel, six_ln d f (v / 10) (by omega) (by rw [Nat.pow_succ] at hv; omega)]
    rfl
theorem six_lt : ∀ (d f a b : Nat), d ≤ f → a < b → b < 10 ^ d → Op.bytesLess (six f a d) (six f b d) = true
  | 0, f, a, b, _, h, hb => by simp at hb; omega
  | d + 1, 0, a, b, hf, _, _ => by omega
  | d + 1, f + 1, a, b, hf, h, hb => by
    have hb' : b / 10 < 10 ^ d := by rw [Nat.pow_succ] at hb; omega
    have ha' : a / 10 < 10 ^ d := by omega
    unfold six
    rw [if_neg (by omega), if_neg (by omega), Nat.add_sub_cancel]
    by_cases hq : a / 10 = b / 10
    · rw [hq, less_pre]
      have h1 : a % 10 < b % 10 := by omega
      have h2 : b % 10 < 10 := Nat.mod_lt _ (by omega)
      have : UInt8.ofNat (48 + a % 10) < UInt8.ofNat (48 + b % 10) := by
        rw [UInt8.lt_iff_toNat_lt, UInt8.toNat_ofNat', UInt8.toNat_ofNat']
        omega
      generalize UInt8.ofNat (48 + a % 10) = u at *
      generalize UInt8.ofNat (48 + b % 10) = v at *
      show (decide (u < v) || u == v && false) = true
      rw [decide_eq_true this]
      rfl
    · exact less_app _ _ _ _ (by rw [six_ln d f _ (by omega) ha', six_ln d f _ (by omega) hb']) (six_lt d f (a / 10) (b / 10) (by omega) (by omega) hb')

/-- The path without the root's slash. -/
def preB (p : ByteArray) : ByteArray := if p.data.toList = [47] then ⟨#[]⟩ else p
/-- A sequential create below a path. -/
def seqO (p : ByteArray) : Op5 := ⟨1, preB p ++ ⟨#[47, 115]⟩, ⟨#[100]⟩, 0, true⟩
theorem seqO_list (p : ByteArray) : (seqO p).path.data.toList = (preB p).data.toList ++ 47 :: [115] := by
  show (preB p ++ (⟨#[47, 115]⟩ : ByteArray)).data.toList = _
  rw [ByteArray.data_append]
  simp
theorem seq_head {p : ByteArray} (hp : okPath p = true) (ho : okPath (seqO p).path = true) : headL (seqO p).path = (preB p).data.toList ∧ parB (seqO p).path = p := by
  obtain ⟨a1, a0⟩ := okPath_head ho
  have e := path_split a1 a0
  have h1 : headL (seqO p).path = (preB p).data.toList := last_slash (L := lastL (seqO p).path) (L' := [115]) (by rw [← e, seqO_list]) (last_no _) (by decide)
  refine ⟨h1, ?_⟩
  unfold parB parL
  rw [h1]
  unfold preB
  split
  · rename_i h47
    rw [if_pos rfl]
    cases p with
    | mk a => simp only at h47; cases a; simp only at h47; rw [h47]
  · rename_i h47
    rw [if_neg (fun e0 => by
      obtain ⟨b1, -⟩ := okPath_head hp
      have : p.data.toList.length = p.size := by rw [Array.length_toList]; rfl
      rw [e0] at this; simp at this; omega)]

theorem name_head {X d6 : List UInt8} (ho : okPath ⟨X.toArray⟩ = true) (hn : okPath ⟨(X ++ d6).toArray⟩ = true) (hd : (47 : UInt8) ∉ d6) : headL ⟨(X ++ d6).toArray⟩ = headL ⟨X.toArray⟩ := by
  obtain ⟨a1, a0⟩ := okPath_head ho
  obtain ⟨b1, b0⟩ := okPath_head hn
  have ea := path_split a1 a0
  have eb := path_split b1 b0
  refine last_slash (L := lastL ⟨(X ++ d6).toArray⟩) (L' := lastL ⟨X.toArray⟩ ++ d6) ?_ (last_no _) ?_
  · rw [← eb]
    show X ++ d6 = _
    have ea' : X = headL ⟨X.toArray⟩ ++ 47 :: lastL ⟨X.toArray⟩ := ea
    conv => lhs; rw [ea']
    simp
  · intro hm
    rcases List.mem_append.1 hm with hm | hm
    · exact last_no _ hm
    · exact hd hm
/-- The name of a sequential create below n. -/
def seqN (n : Nd) : ByteArray := ⟨((seqO n.path).path.data.toList ++ six 12 n.cver.toNat 6).toArray⟩
theorem idx_of {ns : List Nd} (h : Asc ns) {n : Nd} (hn : n ∈ ns) : ns.findIdx (isP n.path) < ns.length ∧ nAt ns (ns.findIdx (isP n.path)) = n := by
  have hl : ns.findIdx (isP n.path) < ns.length := List.findIdx_lt_length_of_exists ⟨n, hn, by unfold isP; simp⟩
  have h1 := found_mem hl
  exact ⟨hl, asc_uniq h h1.1 hn (eqL_bytes h1.2)⟩
/-- A sequential create that goes well. -/
structure SeqG (ns : List Nd) (n : Nd) (z : Int) (B : List Nd) : Prop where
  op : doO ns (seqO n.path) z = (0, B, seqN n)
  o : okPath (seqO n.path).path = true
  nm : okPath (seqN n) = true
  s : Snd B
  new : ∃ m ∈ B, m.path = seqN n
  par : { n with cver := mor n.cver, pz := z } ∈ B
theorem seq_good {ns : List Nd} {n : Nd} {z : Int} (hs : Snd ns) (hn : n ∈ ns) (hz : okS z = true) (h : (doO ns (seqO n.path) z).1 = 0) : SeqG ns n z (doO ns (seqO n.path) z).2.1 := by
  have hsB := doO_snd hs (seqO n.path) hz
  have hpn : okPath n.path = true := okNd_path (hs.2.1 n hn)
  obtain ⟨hi, hni⟩ := idx_of hs.1 hn
  unfold doO at h hsB ⊢
  split at h
  · exact absurd (show ((_ : Int) = 0) from h) (by omega)
  rename_i hw
  simp only [Bool.not_eq_true', Bool.not_eq_false] at hw
  rw [if_neg (by rw [hw]; decide)] at hsB ⊢
  have ho : okPath (seqO n.path).path = true := by
    unfold wfO at hw
    simp only [Bool.and_eq_true] at hw
    exact hw.1.1.1.2
  obtain ⟨hh, hpar⟩ := seq_head hpn ho
  have hnm : nameO ns (seqO n.path) = seqN n := by
    unfold nameO seqN
    rw [if_pos (show (seqO n.path).seq = true from rfl), hpar, hni]
  rw [hpar, hnm] at h hsB ⊢
  rw [if_pos (show (seqO n.path).kind = 1 from rfl)] at h hsB ⊢
  rw [if_neg (by simpa using hi)] at h hsB ⊢
  split at h
  · exact absurd (show ((_ : Int) = 0) from h) (by omega)
  rename_i hok
  rw [if_neg hok] at hsB ⊢
  simp only [Bool.not_eq_true', Bool.not_eq_false] at hok
  split at h
  · exact absurd (show ((_ : Int) = 0) from h) (by omega)
  rename_i hnf
  rw [if_neg hnf] at hsB ⊢
  split at h
  · exact absurd (show ((_ : Int) = 0) from h) (by omega)
  rename_i hlen
  rw [if_neg hlen] at hsB ⊢
  clear h
  have hne : seqN n ≠ n.path := fun e => hnf (by rw [e]; exact hi)
  have hC : Asc (wiN ns ⟨seqN n, (seqO n.path).data, 0, 0, z, z, z⟩) := asc_wi hs.1 _
  have hnew := wi_self hs.1 ⟨seqN n, (seqO n.path).data, 0, 0, z, z, z⟩
  have hnC : n ∈ wiN ns ⟨seqN n, (seqO n.path).data, 0, 0, z, z, z⟩ := wi_mem9 hs.1 hn (fun e => hne e.symm)
  have hdo : doO ns (seqO n.path) z = (0, toN (wiN ns ⟨seqN n, (seqO n.path).data, 0, 0, z, z, z⟩) n.path z, seqN n) := by
    unfold doO
    rw [if_neg (by rw [hw]; decide), hpar, hnm, if_pos (show (seqO n.path).kind = 1 from rfl), if_neg (by simpa using hi), if_neg (by rw [hok]; decide), if_neg hnf, if_neg hlen]
  generalize wiN ns ⟨seqN n, (seqO n.path).data, 0, 0, z, z, z⟩ = C at *
  obtain ⟨hiC, hnC2⟩ := idx_of hC hnC
  have hto : toN C n.path z = wiN C { n with cver := mor n.cver, pz := z } := by
    unfold toN
    rw [if_pos hiC, hnC2]
  refine ⟨hdo, ho, hok, hsB, ?_, ?_⟩
  · refine ⟨⟨seqN n, (seqO n.path).data, 0, 0, z, z, z⟩, ?_, rfl⟩
    show (⟨seqN n, (seqO n.path).data, 0, 0, z, z, z⟩ : Nd) ∈ toN C n.path z
    rw [hto]
    exact wi_mem9 hC hnew hne
  · show _ ∈ toN C n.path z
    rw [hto]
    exact wi_self hC _
/-- The children show it. -/
theorem SeqG.child {ns B : List Nd} {n : Nd} {z : Int} (h : SeqG ns n z B) (hp : okPath n.path = true) : ∃ l ∈ resC B n.path, (preB n.path).data.toList ++ 47 :: l = (seqN n).data.toList := by
  obtain ⟨hh, hpar⟩ := seq_head hp h.o
  have h47 := six_no 12 n.cver.toNat 6
  have e1 : (⟨(seqO n.path).path.data.toList.toArray⟩ : ByteArray) = (seqO n.path).path := by simp
  have hhd : headL (seqN n) = headL (seqO n.path).path := by
    have := name_head (X := (seqO n.path).path.data.toList) (d6 := six 12 n.cver.toNat 6) (by rw [e1]; exact h.o) h.nm h47
    rw [e1] at this
    exact this
  obtain ⟨b1, b0⟩ := okPath_head h.nm
  have hsp := path_split b1 b0
  rw [hhd, hh] at hsp
  refine ⟨lastL (seqN n), ?_, hsp.symm⟩
  obtain ⟨m, hm, hmp⟩ := h.new
  unfold resC
  rw [okTree_snd.2 h.s, hp]
  show lastL (seqN n) ∈ (chN B n.path).map fun n => lastL n.path
  rw [List.mem_map]
  refine ⟨m, ?_, by rw [hmp]⟩
  unfold chN
  rw [List.mem_filter]
  refine ⟨hm, ?_⟩
  rw [hmp]
  unfold chB
  have hpl : parL (seqN n) = n.path.toList := by
    have : parB (seqN n) = n.path := by
      unfold parB parL at hpar ⊢
      rw [hhd]
      exact hpar
    rw [← this]
    unfold parB
    simp
  rw [hpl]
  have hnr : ((seqN n).toList == [47]) = false := by
    cases hb : ((seqN n).toList == [47]) with
    | false => rfl
    | true =>
      have e := eq_of_beq hb
      have e2 : (seqN n).data.toList = [47] := by rw [← e]; unfold seqN; simp
      have e3 := congrArg List.length e2
      unfold seqN at e3
      simp only [seqO_list, List.length_append, List.length_cons] at e3
      simp at e3
      omega
  rw [hnr]
  simp
/-- The next name is the larger one. -/
theorem seq_next {n n' : Nd} (hp : n'.path = n.path) (hc : n'.cver = mor n.cver) (h0 : 0 ≤ n.cver) (h1 : n.cver < 999999) : ltP (seqN n) (seqN n') = true := by
  unfold ltP seqN
  rw [hp, hc]
  have hm : mor n.cver = n.cver + 1 := by unfold mor; rw [if_neg (by omega)]
  rw [hm]
  have e : ∀ l : List UInt8, (⟨l.toArray⟩ : ByteArray).toList = l := fun l => by simp
  rw [e, e, less_pre]
  exact six_lt 6 12 _ _ (by omega) (by omega) (by omega)


/-- A sequential create, accepted: the tree behind it, the name. -/
theorem prF_seq {ns : List Nd} {n : Nd} {z : Int} (hs : Snd ns) (hn : n ∈ ns) (hz : 1 ≤ z ∧ z ≤ 2147483647) (h : (prF ns [seqO n.path] z).c = 0) :
    ∃ B, SeqG ns n z B ∧ PrGood ns z (prF ns [seqO n.path] z) B ∧ (prF ns [seqO n.path] z).L = [(seqN n).data.toList] := by
  have hz' : okS z = true := by unfold okS; simp; omega
  have hG := prF_good h
  have hd : (doO ns (seqO n.path) z).1 = 0 := by
    unfold prF at h
    split at h
    · split at h
      · rename_i h0
        unfold runO at h0
        split at h0
        · rename_i h1
          exact absurd h0 h1
        · rename_i h1
          exact Classical.not_not.1 h1
      · rename_i h0
        exact absurd h h0
    · exact absurd (show (9 : Int) = 0 from h) (by omega)
  have hr : runO z [seqO n.path] ns 0 [] = (0, 1, (doO ns (seqO n.path) z).2.1, [(doO ns (seqO n.path) z).2.2]) := by
    unfold runO
    rw [if_neg (fun h9 => h9 hd)]
    rfl
  have hg := seq_good hs hn hz' hd
  rw [hr] at hG
  refine ⟨_, hg, hG, ?_⟩
  have hop := hg.op
  have hnm : (doO ns (seqO n.path) z).2.2 = seqN n := by rw [hop]
  unfold prF at h ⊢
  split
  · rename_i hk
    rw [if_pos hk] at h
    rw [hr, hnm, if_pos rfl]
    rfl
  · rename_i hk
    rw [if_neg hk] at h
    exact absurd (show (9 : Int) = 0 from h) (by omega)
theorem seqO_sz {p : ByteArray} (h : okPath p = true) : (seqO p).path.size ≤ 1048576 ∧ (seqO p).data.size ≤ 1048576 := by
  have h1 := okPath_size h
  constructor
  · show (preB p ++ (⟨#[47, 115]⟩ : ByteArray)).size ≤ _
    rw [ByteArray.size_append]
    have e2 : (⟨#[47, 115]⟩ : ByteArray).size = 2 := rfl
    rw [e2]
    unfold preB
    split
    · have e0 : (⟨#[]⟩ : ByteArray).size = 0 := rfl
      rw [e0]; omega
    · omega
  · show (⟨#[100]⟩ : ByteArray).size ≤ _
    have e1 : (⟨#[100]⟩ : ByteArray).size = 1 := rfl
    rw [e1]; omega


theorem prp_szs (s : Sr) (hs : s.size ≤ 7) : (∀ i, (nAt s.prp.1 i).path.size ≤ 1048576 ∧ (nAt s.prp.1 i).data.size ≤ 1048576) ∧ s.prp.1.length ≤ 2000 ∧ SzQ s.prp.2.1 := by
  have h1 := (tree_sz9 s hs).1
  have h2 := tree_le s hs
  have h3 : ∀ o ∈ (s.tree.2.req s.tree.1).1, SzO o := by
    unfold Sr.req
    exact Sr.rops_sz _ (sz9_T h1) _ _
  unfold Sr.prp
  generalize s.tree = t at *
  generalize t.2.req t.1 = q at *
  refine ⟨h1.at, h2, ?_⟩
  unfold prpD
  exact prpK_sz _ _ _ _ h3
theorem OwnS.slice {w : World} {lo : Nat} {v : Value} {L : List (List UInt8)} (h : OwnS w lo v L) : ∃ a c, v = .slice a L.length c := by
  rcases h.2 with ⟨rfl, h0⟩ | ⟨g, cap, cur, rfl, _⟩
  · exact ⟨none, 0, by rw [h0]⟩
  · exact ⟨_, cap, rfl⟩

end Go.Proofs.YtdiingonnddkcaaGreatDoor
namespace Go.Proofs.YtdiingonnddkcaaGreatDoor
open Go.RowKit

set_option maxHeartbeats 2000000 in
set_option maxRecDepth 100000 in
theorem lwAt_any (w : World) (v : Value) (xs : List Int) (i n : Nat) (h : Rd .u8 w v xs) (hby : Byt xs) (hi : i ≤ 1000000) (hn : n ≤ 1000000) (hx : xs.length ≤ 1048576) :
    Calls Tryz.prog 10 #[v, .int .i64 (i : Int), .int .i64 (n : Int)] w fun e w' => ∃ r : Nat, e = .returned (.int .i64 (r : Int)) ∧ (1 ≤ n → r < n) ∧ Below w.heap.size w w' := by
  obtain ⟨ao, cap, rfl, h1, h2, h3⟩ := h
  by_cases hn1 : n ≤ 1
  · have hnI : (n : Int) ≤ 1 := by omega
    go_enter Tryz.func10, Tryz.ntmps10
    go_wp2
    go_ret
    exact ⟨0, rfl, fun h => by omega, Below.refl _ _⟩
  have hnI : ¬ (n : Int) ≤ 1 := by omega
  have hz : ((n : Int) == 0) = false := beq_eq_false_iff_ne.2 (by omega)
  by_cases hx0 : xs.length = 0
  · have hlt : (i * 7) % n < n := Nat.mod_lt _ (by omega)
    rw [hx0]
    go_enter Tryz.func10, Tryz.ntmps10
    go_wp2
    go_ret
    exact ⟨(i * 7) % n, ret_int (by rw [Int.natCast_emod, Int.natCast_mul]; rfl), fun _ => hlt, Below.refl _ _⟩
  · rcases h3 with h3 | ⟨b, o, rfl, hb, hc⟩
    · rw [h3] at hx0; simp at hx0
    have hl1 : 0 < xs.length := by omega
    have hxz : ((xs.length : Int) == 0) = false := beq_eq_false_iff_ne.2 (by omega)
    have hxq : ¬ (xs.length : Int) = 0 := by omega
    have hml : i % xs.length < xs.length := Nat.mod_lt _ hl1
    have hmI : (i : Int) % (xs.length : Int) < (xs.length : Int) := by rw [← Int.natCast_emod]; omega
    have hm0 : 0 ≤ (i : Int) % (xs.length : Int) := by rw [← Int.natCast_emod]; omega
    have hmN : ((i : Int) % (xs.length : Int)).toNat = i % xs.length := by rw [← Int.natCast_emod]; rfl
    obtain ⟨x, hx8, hxe⟩ := byt_at hby (i % xs.length)
    have cx := hc _ hml
    rw [hxe] at cx
    have hlt : (x + i / xs.length) % n < n := Nat.mod_lt _ (by omega)
    have hq : (i : Int) / (xs.length : Int) = ((i / xs.length : Nat) : Int) := by rw [Int.natCast_ediv]
    have hqb : i / xs.length ≤ 1000000 := Nat.le_trans (Nat.div_le_self _ _) hi
    generalize hq2 : i / xs.length = qq at *
    clear hc hby hxe
    go_enter Tryz.func10, Tryz.ntmps10
    go_wp2
    go_quiet (fail)
    go_wp2
    go_ret
    exact ⟨(x + qq) % n, ret_int (by rw [Int.natCast_emod, Int.natCast_add]), fun _ => hlt, below_drewN' w _⟩

end Go.Proofs.YtdiingonnddkcaaGreatDoor


