import Derived.Test.YtdiingonnddkcaaGreatDoorJ25
import Derived.Test.YtdiingonnddkcaaGreatDoorJ26
import Derived.Test.YtdiingonnddkcaaGreatDoorJ07
import Derived.Test.YtdiingonnddkcaaGreatDoorJ11
import Derived.Test.YtdiingonnddkcaaGreatDoorJ16
import Derived.Test.YtdiingonnddkcaaGreatDoorJ23
import Derived.Test.YtdiingonnddkcaaGreatDoorJ13
import Derived.Deep.QuietTactic
import Derived.Test.YtdiingonnddkcaaGreatDoorJ21
import Derived.Test.YtdiingonnddkcaaGreatDoorJ08
import Derived.Test.YtdiingonnddkcaaGreatDoorJ14
namespace Go.Proofs.YtdiingonnddkcaaGreatDoor
open Go.RowKit Go.Shelf

theorem RdN.rowCells9 {w : World} {ao : Option Addr} {c : Nat} {R : List Nd} (h : RdN w (.slice ao R.length c) R) : ∀ ad, ao = some ad → ∀ j u, (nrow R)[j]? = some u → w.cell? (ad.add j) = some u := by
  obtain ⟨a', c', e, -, -, h3⟩ := h
  simp only [Value.slice.injEq] at e
  obtain ⟨rfl, -, -⟩ := e
  intro ad had j u hu
  have hj := (List.getElem?_eq_some_iff.1 hu).1
  rw [nrow_length] at hj
  rcases h3 with rfl | ⟨b, off, rfl, hb, hc⟩
  · simp at hj
  · obtain rfl := Option.some.inj had
    have hi : j / 7 < R.length := by omega
    have hm : j % 7 < 7 := Nat.mod_lt _ (by omega)
    rw [show j = j / 7 * 7 + j % 7 by omega, nrow_get R (j / 7) (j % 7) hi hm] at hu
    obtain ⟨k0, k1, k2, k3, k4, k5, k6⟩ := hc (j / 7) hi
    rw [Addr.add_lit, show off + j = off + j / 7 * 7 + j % 7 by omega]
    generalize j % 7 = m at *
    match m, hm with
    | 0, _ => exact k0.trans hu
    | 1, _ => exact k1.trans hu
    | 2, _ => exact k2.trans hu
    | 3, _ => exact k3.trans hu
    | 4, _ => exact k4.trans hu
    | 5, _ => exact k5.trans hu
    | 6, _ => exact k6.trans hu

set_option maxHeartbeats 1000000 in
set_option maxRecDepth 100000 in
theorem cloneN9 (w : World) (ao : Option Addr) (cap : Nat) (ns : List Nd) (h : RdN w (.slice ao ns.length cap) ns) (hn : ns.length ≤ 1000) :
    Calls Tryz.prog 29 #[.slice ao ns.length cap] w fun e w' => ∃ v', e = .returned v' ∧ OwnN 42 w' w.heap.size v' ns ∧ Below w.heap.size w w' := by
  obtain ⟨i0, hi, hz0, hz1, hz2⟩ := info_parts Tryz.infoN
  have q22 : ∀ (w : World) (a : Option Addr) (n c n' c' : Nat), (binOp .eql 23 (.slice a n c) (.slice none n' c')).run Tryz.prog w = .ok (.bool a.isNone) w := fun w a n c n' c' => Lib.run_eql_slice_nil w _ _ a n c n' c' Tryz.underlying23
  have HE : Hid ((w.alloc (.cells #[] 42)).ownsRow w.heap.size 42 7 (.slice (some ⟨w.heap.size, 0, none⟩) 0 0) 0 []) := World.ownsRow_lit w #[] 0 (Nat.le_refl _) (Nat.zero_le _) rfl
  have HB : Hid (Below w.heap.size w (w.alloc (.cells #[] 42))) := (Below.refl _ _).alloc (Nat.le_refl _) _
  have HR := hd9 h
  cases ao with
  | none =>
    have hx : ns = [] := by
      obtain ⟨a', c', e, -, -, h3⟩ := h
      simp only [Value.slice.injEq] at e
      rcases h3 with h3 | ⟨b, o, e2, _⟩
      · exact h3
      · rw [← e.1] at e2; cases e2
    subst hx
    clear h HR
    go_enter Tryz.func29, Tryz.ntmps29
    go_wp2
    go_ret
    exact ⟨_, rfl, World.ownsRow_nil _ _ _ _, Below.refl _ _⟩
  | some a =>
    have HCS : Hid (∀ j u, (nrow ns)[j]? = some u → (w.alloc (.cells #[] 42)).cell? (a.add j) = some u) := fun j u hu => (HR.out.below HB.out).rowCells9 a rfl j u hu
    clear h
    generalize hl : ns.length = m at *
    have HL := hd9 hl
    clear hl
    go_enter Tryz.func29, Tryz.ntmps29
    go_wp2_with (at_builtin; go_must (refine wpList_append_own _ rfl _ _ 23 rfl w.heap.size 42 i0 _ 7 72 Tryz.underlying23 hi hz0 hz1 hz2 rfl (by decide) _ _ _ rfl HE.out a m cap (nrow ns) rfl ?c0 HCS.out (nrow_one7 _) ?c3 ?c4 ?c5 ?_))
    case c0 => rw [nrow_length, HL.out]
    case c3 => unfold maxLen; omega
    case c4 => omega
    case c5 => simp
    intro v2 w2 ho2 hg2 _
    have HO2 : Hid (OwnN 42 w2 w.heap.size v2 ns) := by
      show World.ownsRow _ _ _ _ _ _ _
      rw [HL.out]
      exact ho2
    have HG2 := hd9 (HB.out.grown hg2 (by simp) (by intro q hq; simp [Value.ownBlock] at hq; omega))
    clear ho2 hg2
    go_wp2
    go_ret
    exact ⟨_, rfl, HO2.out, HG2.out⟩
theorem zxid_any (w : World) (z : Int) : Calls Tryz.prog 27 #[.int .i64 z] w fun e w' => e = .returned (.bool (decide (1 ≤ z) && decide (z ≤ 2147483647))) ∧ w' = w := by
  obtain ⟨r, hr⟩ : ∃ r, r = (decide (1 ≤ z) && decide (z ≤ 2147483647)) := ⟨_, rfl⟩
  rw [← hr]
  by_cases h1 : 1 ≤ z
  · by_cases h2 : z ≤ 2147483647
    · rw [decide_eq_true h1, decide_eq_true h2] at hr
      have HR := hd9 hr
      clear hr
      go_enter Tryz.func27, Tryz.ntmps27
      go_wp2
      go_ret
      exact ⟨by rw [HR.out]; rfl, rfl⟩
    · rw [decide_eq_true h1, decide_eq_false h2] at hr
      have HR := hd9 hr
      clear hr
      go_enter Tryz.func27, Tryz.ntmps27
      go_wp2
      go_ret
      exact ⟨by rw [HR.out]; rfl, rfl⟩
  · rw [decide_eq_false h1] at hr
    have HR := hd9 hr
    clear hr
    go_enter Tryz.func27, Tryz.ntmps27
    go_wp2
    go_ret
    exact ⟨by rw [HR.out]; rfl, rfl⟩
theorem tab_below {w W : World} {nm : String} {k : IntKind} {zs : List Int} (h : Lib.TabIs Tryz.prog w nm k zs) (hb : Below w.heap.size w W) : Lib.TabIs Tryz.prog W nm k zs := by
  unfold Lib.TabIs World.var? at *
  cases hg : Tryz.prog.globalNamed nm with
  | none => rw [hg] at h; cases h
  | some g =>
    rw [hg] at h
    simp only [Option.bind_some] at h ⊢
    by_cases hl : g < w.heap.size
    · rw [hb.block g hl]; exact h
    · rw [Array.getElem?_eq_none (by omega)] at h; cases h

set_option linter.unusedSimpArgs false in
set_option maxHeartbeats 4000000 in
set_option maxRecDepth 100000 in
theorem implPrep_bad (w : World) (v vo : Value) (ns : List Nd) (os : List Op5) (z : Int) (h : RdN w v ns) (ho : RdO w vo os) (hsz : ∀ i, (nAt ns i).path.size ≤ 1048576 ∧ (nAt ns i).data.size ≤ 1048576) (hb : okPrep ns os z = false)
    (hg : w.cell? ⟨0, 0, none⟩ = some (.iface 171 (.agg #[.pointer (some ⟨7, 77, none⟩)]))) (h0 : 0 < w.heap.size) :
    Calls Tryz.prog 8 #[.agg #[v], .agg #[vo], .int .i64 z] w fun e w' => e = .returned (.agg #[.int .i64 9, .int .i64 0, .slice none 0 0, .int .i64 0, .slice none 0 0]) ∧ Below w.heap.size w w' := by
  obtain ⟨ao, ca, rfl, _, _⟩ := h.len
  obtain ⟨bo, cb, rfl, _, _⟩ := ho.len
  have HR := hd9 h
  have HSZ := hd9 hsz
  have HG := hd9 hg
  have HBAD := hd9 hb
  have X0 : Hid (PrB w (.slice ao ns.length ca) (.slice bo os.length cb) (((w.alloc (.cells #[.slice ao ns.length ca] 25)).alloc (.cells #[.slice bo os.length cb] 28)).alloc (.cells #[.int .i64 0, .int .i64 0, .slice none 0 0, .int .i64 0, .slice none 0 0] 37))) := PrB.new _ _ _ _ _ _
  clear h ho hsz hb hg
  go_enter Tryz.func8, Tryz.ntmps8
  go_wp2_with fail
  generalize ((w.alloc (.cells #[.slice ao ns.length ca] 25)).alloc (.cells #[.slice bo os.length cb] 28)).alloc (.cells #[.int .i64 0, .int .i64 0, .slice none 0 0, .int .i64 0, .slice none 0 0] 37) = w0 at *
  refine (implTree_any _ _ ns (HR.out.below X0.out.1) HSZ.out).mono ?_
  rintro e w1 ⟨rfl, b1⟩
  have X1 : Hid (PrB w (.slice ao ns.length ca) (.slice bo os.length cb) w1) := X0.out.below b1
  clear b1 X0
  obtain ⟨-, zz, a0, a1, -⟩ := X1.out
  have HRF := hd9 (refused_f w1 9 ((X1.out.1.cell (p := ⟨0, 0, none⟩) h0).trans HG.out) (by omega))
  have HZX : Hid (∀ W, Calls Tryz.prog 27 #[.int .i64 z] W fun e w' => e = .returned (.bool (decide (1 ≤ z) && decide (z ≤ 2147483647))) ∧ w' = W) := fun W => zxid_any W z
  have hB := HBAD.out
  unfold okPrep at hB
  clear HBAD
  cases ht : okTree ns with
  | false =>
    clear hB
    go_wp2_with (first | (go_at_call 27; refine (HZX.out _).mono ?_; rintro e w' ⟨rfl, rfl⟩) | (go_at_call 28; refine HRF.out.mono ?_))
    rintro e w2 ⟨rfl, b2⟩
    have X2 := hd9 (X1.out.below b2)
    clear b2
    obtain ⟨-, zz, -, -, ⟨d0, d1, d2, d3, d4⟩, df⟩ := X2.out
    have f0 := df 0
    have f1 := df 1
    have f2 := df 2
    have f3 := df 3
    have f4 := df 4
    clear df
    go_wp2_with fail
    refine bodyPost_ret (v := .agg #[.int .i64 9, .int .i64 0, .slice none 0 0, .int .i64 0, .slice none 0 0]) (by simp [results, Tryz.results8, go_sem, d0, d1, d2, d3, d4]) rfl ⟨rfl, X2.out.1.trans ?_⟩
    repeat (first | exact Below.refl _ _ | refine Below.setCell ?_ (by simp; try omega) _)
  | true =>
    rw [ht, Bool.true_and] at hB
    clear ht
    by_cases h1 : 1 ≤ os.length
    · rw [decide_eq_true h1, Bool.true_and] at hB
      have h1I : ¬ (os.length : Int) < 1 := by omega
      by_cases h2 : os.length ≤ 64
      · rw [decide_eq_true h2, Bool.true_and] at hB
        have h2I : ¬ (64 : Int) < (os.length : Int) := by omega
        rw [hB] at HZX
        clear hB
        go_wp2_with (first | (go_at_call 27; refine (HZX.out _).mono ?_; rintro e w' ⟨rfl, rfl⟩) | (go_at_call 28; refine HRF.out.mono ?_))
        rintro e w2 ⟨rfl, b2⟩
        have X2 := hd9 (X1.out.below b2)
        clear b2
        obtain ⟨-, zz, -, -, ⟨d0, d1, d2, d3, d4⟩, df⟩ := X2.out
        have f0 := df 0
        have f1 := df 1
        have f2 := df 2
        have f3 := df 3
        have f4 := df 4
        clear df
        go_wp2_with fail
        refine bodyPost_ret (v := .agg #[.int .i64 9, .int .i64 0, .slice none 0 0, .int .i64 0, .slice none 0 0]) (by simp [results, Tryz.results8, go_sem, d0, d1, d2, d3, d4]) rfl ⟨rfl, X2.out.1.trans ?_⟩
        repeat (first | exact Below.refl _ _ | refine Below.setCell ?_ (by simp; try omega) _)
      · have h2I : (64 : Int) < (os.length : Int) := by omega
        clear hB
        go_wp2_with (first | (go_at_call 27; refine (HZX.out _).mono ?_; rintro e w' ⟨rfl, rfl⟩) | (go_at_call 28; refine HRF.out.mono ?_))
        rintro e w2 ⟨rfl, b2⟩
        have X2 := hd9 (X1.out.below b2)
        clear b2
        obtain ⟨-, zz, -, -, ⟨d0, d1, d2, d3, d4⟩, df⟩ := X2.out
        have f0 := df 0
        have f1 := df 1
        have f2 := df 2
        have f3 := df 3
        have f4 := df 4
        clear df
        go_wp2_with fail
        refine bodyPost_ret (v := .agg #[.int .i64 9, .int .i64 0, .slice none 0 0, .int .i64 0, .slice none 0 0]) (by simp [results, Tryz.results8, go_sem, d0, d1, d2, d3, d4]) rfl ⟨rfl, X2.out.1.trans ?_⟩
        repeat (first | exact Below.refl _ _ | refine Below.setCell ?_ (by simp; try omega) _)
    · have h1I : (os.length : Int) < 1 := by omega
      clear hB
      go_wp2_with (first | (go_at_call 27; refine (HZX.out _).mono ?_; rintro e w' ⟨rfl, rfl⟩) | (go_at_call 28; refine HRF.out.mono ?_))
      rintro e w2 ⟨rfl, b2⟩
      have X2 := hd9 (X1.out.below b2)
      clear b2
      obtain ⟨-, zz, -, -, ⟨d0, d1, d2, d3, d4⟩, df⟩ := X2.out
      have f0 := df 0
      have f1 := df 1
      have f2 := df 2
      have f3 := df 3
      have f4 := df 4
      clear df
      go_wp2_with fail
      refine bodyPost_ret (v := .agg #[.int .i64 9, .int .i64 0, .slice none 0 0, .int .i64 0, .slice none 0 0]) (by simp [results, Tryz.results8, go_sem, d0, d1, d2, d3, d4]) rfl ⟨rfl, X2.out.1.trans ?_⟩
      repeat (first | exact Below.refl _ _ | refine Below.setCell ?_ (by simp; try omega) _)


set_option linter.unusedSimpArgs false in
set_option maxHeartbeats 4000000 in
set_option maxRecDepth 100000 in
theorem implPrep_ok (w : World) (v vo : Value) (ns : List Nd) (os : List Op5) (z : Int) (h : RdN w v ns) (ho : RdO w vo os) (hos : ∀ i, i < os.length → (oAt os i).path.size ≤ 1048576 ∧ (oAt os i).data.size ≤ 1048576) (hb : okPrep ns os z = true)
    (hg : w.cell? ⟨0, 0, none⟩ = some (.iface 171 (.agg #[.pointer (some ⟨7, 77, none⟩)]))) (h0 : 0 < w.heap.size) (htab : Lib.TabIs Tryz.prog w "internal/strconv.uint64pow10" .u64 Lib.pow10Tab) :
    Calls Tryz.prog 8 #[.agg #[v], .agg #[vo], .int .i64 z] w fun e w' => PrOk w ns z (runO z os ns 0 []) e w' := by
  unfold okPrep at hb
  simp only [Bool.and_eq_true, decide_eq_true_eq] at hb
  obtain ⟨hok, h1, h2, h3, h4⟩ := hb
  have HSND := hd9 (okTree_snd.1 hok)
  have HOK := hd9 hok
  have hn : ns.length ≤ 1000 := HSND.out.2.2
  obtain ⟨ao, ca, rfl, _, _⟩ := h.len
  obtain ⟨bo, cb, rfl, _, _⟩ := ho.len
  have HR := hd9 h
  have HOR := hd9 ho
  have HOS := hd9 hos
  have HG := hd9 hg
  have HT := hd9 htab
  have HSZ : Hid (∀ i, (nAt ns i).path.size ≤ 1048576 ∧ (nAt ns i).data.size ≤ 1048576) := by
    intro i
    by_cases hi : i < ns.length
    · have := okNd_all (HSND.out.2.1 _ (List.getElem_mem hi))
      rw [nAt_get hi]; omega
    · have : nAt ns i = nd0 := by unfold nAt; simp [List.getD, List.getElem?_eq_none (show ns.length ≤ i by omega)]
      rw [this]; simp [nd0]
  have HSF : Hid (∀ W, Below w.heap.size w W → ∀ n : Int, 0 ≤ n → n ≤ 2147483647 → Calls Tryz.prog 107 #[.int .i64 n] W fun e w' => e = .returned (.string ⟨(six 12 n.toNat 6).toArray⟩) ∧ Below W.heap.size W w') := fun W hW n a b => suffix_any W n a b (tab_below HT.out hW)
  have h1I : ¬ (os.length : Int) < 1 := by omega
  have h2I : ¬ (64 : Int) < (os.length : Int) := by omega
  have HZ : Hid (okS z = true) := by show _ = _; unfold okS; simp; omega
  have HZX : Hid (∀ W, Calls Tryz.prog 27 #[.int .i64 z] W fun e w' => e = .returned (.bool true) ∧ W = w') := fun W => by
    have := zxid_any W z
    rw [decide_eq_true h3, decide_eq_true h4] at this
    exact this.mono fun e w' h9 => ⟨h9.1, h9.2.symm⟩
  have X0 : Hid (PrB w (.slice ao ns.length ca) (.slice bo os.length cb) (((w.alloc (.cells #[.slice ao ns.length ca] 25)).alloc (.cells #[.slice bo os.length cb] 28)).alloc (.cells #[.int .i64 0, .int .i64 0, .slice none 0 0, .int .i64 0, .slice none 0 0] 37))) := PrB.new _ _ _ _ _ _
  obtain ⟨res, hres⟩ : ∃ res, res = runO z os ns 0 [] := ⟨_, rfl⟩
  rw [← hres]
  have HRE := hd9 hres
  clear h ho hos hok hg htab hres
  go_enter Tryz.func8, Tryz.ntmps8
  go_wp2_with fail
  generalize ((w.alloc (.cells #[.slice ao ns.length ca] 25)).alloc (.cells #[.slice bo os.length cb] 28)).alloc (.cells #[.int .i64 0, .int .i64 0, .slice none 0 0, .int .i64 0, .slice none 0 0] 37) = w0 at *
  refine (implTree_any _ _ ns (HR.out.below X0.out.1) HSZ.out).mono ?_
  rintro e w1 ⟨rfl, b1⟩
  rw [HOK.out]
  have X1 : Hid (PrB w (.slice ao ns.length ca) (.slice bo os.length cb) w1) := X0.out.below b1
  clear b1 X0 HOK
  have zz : w.heap.size + 3 ≤ w1.heap.size := X1.out.2.1
  obtain ⟨-, -, a0, a1, -⟩ := X1.out
  have HCL := hd9 (cloneN9 w1 ao ca ns (HR.out.below X1.out.1) hn)
  go_wp2_with (first | (go_at_call 27; refine (HZX.out _).mono ?_; rintro e w' ⟨rfl, rfl⟩) | (go_at_call 29; refine HCL.out.mono ?_))
  rintro e w2 ⟨v2, rfl, o2, b2⟩
  have X2 := hd9 (X1.out.below b2)
  have B2 := hd9 b2
  have O2 := hd9 o2
  have V2 : Hid (∀ g, v2.ownBlock = some g → g < w2.heap.size) := fun g hg => (World.ownsRow.lt o2 g hg).2
  have s2 := b2.size
  obtain ⟨va2, vc2, rfl⟩ := o2.slice9
  clear o2 b2 HCL a0 a1
  have B3 : Hid (Below w2.heap.size w2 (w2.alloc (.cells #[.slice va2 ns.length vc2, .int .i64 z] 75))) := (Below.refl _ _).alloc (Nat.le_refl _) _
  have D3 : Hid (Df (w2.alloc (.cells #[.slice va2 ns.length vc2, .int .i64 z] 75)) w2.heap.size w1.heap.size z (.slice va2 ns.length vc2) ns) := ⟨St.new _ _ _, O2.out.below B3.out, fun e => by have := V2.out _ e; omega, HSND.out⟩
  have X3 := hd9 (X2.out.below B3.out)
  have e3 : (w2.alloc (.cells #[.slice va2 ns.length vc2, .int .i64 z] 75)).heap.size = w2.heap.size + 1 := by simp
  have E3 := hd9 e3
  clear e3 O2 V2 X2
  obtain ⟨-, -, a0, a1, -⟩ := X3.out
  go_wp2_with fail
  clear a0 a1
  generalize w2.alloc _ = w3 at *
  have B3w := hd9 (B2.out.trans (B3.out.mono B2.out.size))
  refine (doAll_any w1 w3 w2.heap.size z _ _ ns os B3w.out D3.out B2.out.size (HOR.out.below X1.out.1) HOS.out HZ.out h1 h2 (fun W hW => HSF.out W (X1.out.1.trans (hW.mono X1.out.1.size)))).mono ?_
  rw [← HRE.out]
  rintro e w4 ⟨b4, hA | hA⟩
  · obtain ⟨hne, rfl⟩ := hA
    have X4 := hd9 (X1.out.belowB b4 zz)
    have HRF := hd9 (refused_o w4 (res.2.1 : Int) res.1 ((X4.out.1.cell (p := ⟨0, 0, none⟩) h0).trans HG.out) (by have := b4.size; omega))
    clear b4
    unfold flt
    go_wp2_with (go_at_call 28; refine HRF.out.mono ?_)
    rintro e w5 ⟨rfl, b5⟩
    have X5 := hd9 (X4.out.below b5)
    clear b5
    obtain ⟨-, z5, -, -, ⟨d0, d1, d2, d3, d4⟩, df⟩ := X5.out
    have f0 := df 0
    have f1 := df 1
    have f2 := df 2
    have f3 := df 3
    have f4 := df 4
    clear df
    go_wp2_with fail
    refine bodyPost_ret (v := .agg #[.int .i64 res.1, .int .i64 (res.2.1 : Int), .slice none 0 0, .int .i64 0, .slice none 0 0]) (by simp [results, Tryz.results8, go_sem, d0, d1, d2, d3, d4]) rfl ⟨X5.out.1.trans ?_, .inl ⟨hne, rfl⟩⟩
    repeat (first | exact Below.refl _ _ | refine Below.setCell ?_ (by simp; try omega) _)
  · obtain ⟨he0, vn, v4, rfl, hvn, d4⟩ := hA
    have X4 := hd9 (X1.out.belowB b4 zz)
    have s4 := b4.size
    have D4 := hd9 d4
    have N4 := hd9 hvn
    clear b4 d4 hvn
    go_wp2_with fail
    have s3 := B3w.out.size
    have e3 := E3.out
    have X5 : Hid (PrB w (.slice ao ns.length ca) (.slice bo os.length cb) w4.drew) := X4.out.below (below_drewN' w4 1)
    have D5 : Hid (Df w4.drew w2.heap.size w1.heap.size z v4 res.2.2.1) := D4.out.below (below_drewN' w4 1)
    have N5 : Hid (w4.drew.ownsRow w3.heap.size 9 1 vn res.2.2.2.length (res.2.2.2.map Value.string)) := N4.out
    have s5 : w1.heap.size ≤ w4.drew.heap.size := s4
    clear X4 D4 N4 s4
    refine wp_region_held_drew (S := fun W => W.cell? ⟨w.heap.size, 0, none⟩ = some (.slice ao ns.length ca) ∧ W.cell? ⟨w2.heap.size, 0, none⟩ = some v4) (by kernel_rfl) ⟨X5.out.2.2.1, D5.out.s.cl 0 _ rfl⟩ (fun hHeld => ?_)
    generalize w4.drew = w5 at *
    iterate 8 (refine tkI9 ?_ (by kernel_rfl) (fun _ => id) hHeld ?_ ?_; rotate_left; · intro w9 hS9; obtain ⟨k0, k1⟩ := hS9; go_simp; try with_reducible rfl)
    refine rdA9 8 rfl (by kernel_rfl) (fun K hK => ?_)
    go_simp
    refine (diffs_any w5 _ _ ns res.2.2.1 (HR.out.below X5.out.1) D5.out.o.rd hn D5.out.n.2.2).mono ?_
    rintro e w6 ⟨v6, rfl, o6, b6⟩
    have X6 := hd9 (X5.out.below b6)
    have D6 := hd9 (D5.out.below b6)
    have N6 := hd9 (rowP_below N5.out b6)
    obtain ⟨ea, ec, rfl⟩ := o6.slice9
    have E6 := hd9 o6
    have s6 := b6.size
    clear o6 b6 hHeld X5 D5 N5
    refine hK.out _ _ ⟨X6.out.2.2.1, D6.out.s.cl 0 _ rfl⟩ (fun hHeld => ?_)
    clear hK K
    have hun : ∃ ua uc, vn = .slice ua res.2.2.2.length uc := by
      rcases N6.out.2 with ⟨rfl, hx⟩ | ⟨g, cap, cur, rfl, -⟩
      · exact ⟨_, _, by rw [hx]⟩
      · exact ⟨_, _, rfl⟩
    obtain ⟨ua, uc, rfl⟩ := hun
    iterate 2 (refine tkI9 ?_ (by kernel_rfl) (fun _ => id) hHeld ?_ ?_; rotate_left; · intro w9 hS9; clear hS9; go_simp; try with_reducible rfl)
    obtain ⟨-, z6, -, -, ⟨d0, d1, d2, d3, d4⟩, df⟩ := X6.out
    have f0 := df 0
    have f1 := df 1
    have f2 := df 2
    have f3 := df 3
    have f4 := df 4
    clear df
    refine rdA9 11 rfl (by kernel_rfl) (fun K hK => ?_)
    go_simp
    have T9 := hd9 ((((((Tw.refl w6 (w.heap.size + 1 + 1) none).set (j := 0) (x := .int .i64 0)).set (j := 1) (x := .int .i64 0)).set (j := 2) (x := .slice ua res.2.2.2.length uc)).set (j := 3) (x := .int .i64 z)).set (j := 4) (x := .slice ea (dif ns res.2.2.1).length ec))
    have k0 := (World.cell?_of_block (w := w6) (a := ⟨w.heap.size, 0, none⟩) (T9.out.block w.heap.size (by omega) (by omega) (by simp))).trans X6.out.2.2.1
    have k1 := (T9.out.st D6.out.s (by omega) (by simp)).cl 0 _ rfl
    refine hK.out _ _ ⟨k0, k1⟩ (fun hHeld => ?_)
    clear hK K k0 k1
    refine wpAnyH_done (by kernel_rfl) ?_ _
    try simp only [Act.put, sT9, sZ9, sS9]
    clear hHeld
    have HF : Hid (PrOk w ns z res (.returned (.agg #[.int .i64 0, .int .i64 0, .slice ua res.2.2.2.length uc, .int .i64 z, .slice ea (dif ns res.2.2.1).length ec])) (((((w6.setCell ⟨w.heap.size + 1 + 1, 0, none⟩ (.int .i64 0)).setCell ⟨w.heap.size + 1 + 1, 1, none⟩ (.int .i64 0)).setCell ⟨w.heap.size + 1 + 1, 2, none⟩ (.slice ua res.2.2.2.length uc)).setCell ⟨w.heap.size + 1 + 1, 3, none⟩ (.int .i64 z)).setCell ⟨w.heap.size + 1 + 1, 4, none⟩ (.slice ea (dif ns res.2.2.1).length ec))) := by
      refine ⟨X6.out.1.trans (T9.out.below (by omega) (by omega) (fun g h => by cases h)), .inr ⟨he0, _, _, rfl, ?_, ?_⟩⟩
      · refine rowP_mono (lo := w3.heap.size) (rowP_tw N6.out T9.out (fun g hg => ?_) (fun g hg => by simp)) (by omega)
        have := (World.ownsRow.lt N6.out g hg).1
        omega
      · unfold OwnE
        refine rowP_mono (lo := w5.heap.size) (rowP_tw E6.out T9.out (fun g hg => ?_) (fun g hg => by simp)) (by omega)
        have := (World.ownsRow.lt E6.out g hg).1
        omega
    clear T9 N6 E6 X6 D6
    go_wp2_with fail
    exact bodyPost_ret (v := .agg #[.int .i64 0, .int .i64 0, .slice ua res.2.2.2.length uc, .int .i64 z, .slice ea (dif ns res.2.2.1).length ec]) (by simp [results, Tryz.results8, go_sem, d0, d1, d2, d3, d4]) rfl HF.out


/-- Names as lists of bytes. -/
def nmL (nm : List ByteArray) : List (List UInt8) := nm.map fun s => s.data.toList
theorem nmL_map (nm : List ByteArray) : (nmL nm).map sV = nm.map Value.string := by
  unfold nmL
  rw [List.map_map]
  apply List.map_congr_left
  intro s _
  simp [sV]
/-- What Prepare answers. -/
structure Pa where
  c : Int
  i : Int
  z : Int
  L : List (List UInt8)
  es : List Ef
def prF (ns : List Nd) (os : List Op5) (z : Int) : Pa :=
  if okPrep ns os z = true then
    (if (runO z os ns 0 []).1 = 0 then ⟨0, 0, z, nmL (runO z os ns 0 []).2.2.2, dif ns (runO z os ns 0 []).2.2.1⟩
     else ⟨(runO z os ns 0 []).1, ((runO z os ns 0 []).2.1 : Nat), 0, [], []⟩)
  else ⟨9, 0, 0, [], []⟩
def PA (w : World) (a : Pa) (e : Ending) (w' : World) : Prop :=
  ∃ vn ve, e = .returned (.agg #[.int .i64 a.c, .int .i64 a.i, vn, .int .i64 a.z, ve]) ∧ OwnS w' w.heap.size vn a.L ∧ OwnE 59 w' w.heap.size ve a.es ∧ Below w.heap.size w w'
theorem PA.bad {w w' : World} {c i z : Int} {e : Ending} (he : e = .returned (.agg #[.int .i64 c, .int .i64 i, .slice none 0 0, .int .i64 z, .slice none 0 0])) (hb : Below w.heap.size w w') : PA w ⟨c, i, z, [], []⟩ e w' :=
  ⟨_, _, he, World.ownsRow_nil _ _ _ _, World.ownsRow_nil _ _ _ _, hb⟩
theorem PA.ok {w w' : World} {ns : List Nd} {os : List Op5} {z : Int} {e : Ending} (hk : okPrep ns os z = true) (h : PrOk w ns z (runO z os ns 0 []) e w') : PA w (prF ns os z) e w' := by
  obtain ⟨hb, h⟩ := h
  unfold prF
  rw [if_pos hk]
  rcases h with ⟨h0, he⟩ | ⟨h0, vn, ve, he, h1, h2⟩
  · rw [if_neg h0]
    exact PA.bad he hb
  · rw [if_pos h0]
    refine ⟨vn, ve, he, ?_, h2, hb⟩
    show World.ownsRow _ _ _ _ _ _ _
    rw [nmL_map]
    have : (nmL (runO z os ns 0 []).2.2.2).length = (runO z os ns 0 []).2.2.2.length := by simp [nmL]
    rw [this]
    exact h1
theorem runO_sl {z : Int} (hz : okS z = true) : ∀ (os : List Op5) (ns : List Nd) (i : Nat) (nm : List ByteArray), Snd ns → Snd (runO z os ns i nm).2.2.1 ∧ (runO z os ns i nm).2.2.2.length ≤ nm.length + os.length
  | [], ns, i, nm, h => ⟨h, Nat.le_refl _⟩
  | o :: os, ns, i, nm, h => by
    unfold runO
    split
    · exact ⟨h, by simp⟩
    · have := runO_sl hz os (doO ns o z).2.1 (i + 1) (nm ++ [(doO ns o z).2.2]) (doO_snd h o hz)
      refine ⟨this.1, Nat.le_trans this.2 ?_⟩
      simp; omega
theorem prF_len (ns : List Nd) (os : List Op5) (z : Int) : (prF ns os z).L.length ≤ 2000 ∧ (prF ns os z).es.length ≤ 2000 := by
  unfold prF
  split
  · rename_i hk
    split
    · unfold okPrep at hk
      simp only [Bool.and_eq_true, decide_eq_true_eq] at hk
      obtain ⟨hok, h1, h2, h3, h4⟩ := hk
      have hs := okTree_snd.1 hok
      have hz : okS z = true := by unfold okS; simp; omega
      have h5 := runO_sl hz os ns 0 [] hs
      have h6 := dif_len ns (runO z os ns 0 []).2.2.1
      have h7 := hs.2.2
      have h8 := h5.1.2.2
      have h9 := h5.2
      constructor
      · show (nmL _).length ≤ _
        unfold nmL
        rw [List.length_map]
        simp at h9; omega
      · show (dif _ _).length ≤ _
        omega
    · exact ⟨Nat.zero_le _, Nat.zero_le _⟩
  · exact ⟨Nat.zero_le _, Nat.zero_le _⟩

theorem specP_any (w : World) (v vo : Value) (ns : List Nd) (os : List Op5) (z : Int) (h : RdN w v ns) (ho : RdO w vo os) (hn : ns.length ≤ 1048576) (hsz : ∀ i, (nAt ns i).path.size ≤ 1048576 ∧ (nAt ns i).data.size ≤ 1048576) (hos : ∀ i, (oAt os i).path.size ≤ 1048576 ∧ (oAt os i).data.size ≤ 1048576) :
    Calls Tryz.prog 9 #[.agg #[v], .agg #[vo], .int .i64 z] w fun e w' => PA w (prF ns os z) e w' := by
  by_cases hk : okPrep ns os z = true
  · exact (specPrep_ok w v vo ns os z h ho (fun i _ => hos i) hk).mono fun e w' h9 => PA.ok hk h9
  · refine (specPrep_bad w v vo ns os z h ho hn hsz (by simpa using hk)).mono fun e w' h9 => ?_
    unfold prF
    rw [if_neg hk]
    exact PA.bad h9.1 h9.2
theorem implP_any (w : World) (v vo : Value) (ns : List Nd) (os : List Op5) (z : Int) (h : RdN w v ns) (ho : RdO w vo os) (hsz : ∀ i, (nAt ns i).path.size ≤ 1048576 ∧ (nAt ns i).data.size ≤ 1048576) (hos : ∀ i, (oAt os i).path.size ≤ 1048576 ∧ (oAt os i).data.size ≤ 1048576)
    (hg : w.cell? ⟨0, 0, none⟩ = some (.iface 171 (.agg #[.pointer (some ⟨7, 77, none⟩)]))) (h0 : 0 < w.heap.size) (htab : Lib.TabIs Tryz.prog w "internal/strconv.uint64pow10" .u64 Lib.pow10Tab) :
    Calls Tryz.prog 8 #[.agg #[v], .agg #[vo], .int .i64 z] w fun e w' => PA w (prF ns os z) e w' := by
  by_cases hk : okPrep ns os z = true
  · exact (implPrep_ok w v vo ns os z h ho (fun i _ => hos i) hk hg h0 htab).mono fun e w' h9 => PA.ok hk h9
  · refine (implPrep_bad w v vo ns os z h ho hsz (by simpa using hk) hg h0).mono fun e w' h9 => ?_
    unfold prF
    rw [if_neg hk]
    exact PA.bad h9.1 h9.2


theorem asc_uniq {ns : List Nd} (h : Asc ns) {a b : Nd} (ha : a ∈ ns) (hb : b ∈ ns) (e : a.path = b.path) : a = b := by
  obtain ⟨i, hi, rfl⟩ := List.getElem_of_mem ha
  obtain ⟨j, hj, rfl⟩ := List.getElem_of_mem hb
  rcases Nat.lt_trichotomy i j with hlt | rfl | hlt
  · have := List.pairwise_iff_getElem.1 h i j hi hj hlt
    rw [e, ltP_irr] at this; cases this
  · rfl
  · have := List.pairwise_iff_getElem.1 h j i hj hi hlt
    rw [e, ltP_irr] at this; cases this
/-- What an effect of two trees is. -/
theorem dif_mem (A B : List Nd) : Asc A → Asc B → ∀ e ∈ dif A B, (∃ b, b ∈ B ∧ b ∉ A ∧ e = putE b) ∨ (∃ a, a ∈ A ∧ (∀ b ∈ B, b.path ≠ a.path) ∧ e = delE a) := by
  have hne : ∀ {p q : ByteArray}, ltP p q = true → p ≠ q := fun h e => by rw [e, ltP_irr] at h; cases h
  fun_induction dif A B with
  | case1 now => intro _ _ e he; obtain ⟨b, hb, rfl⟩ := List.mem_map.1 he; exact .inl ⟨b, hb, by simp, rfl⟩
  | case2 a was => intro _ _ e he; obtain ⟨b, hb, rfl⟩ := List.mem_map.1 he; exact .inr ⟨b, hb, (fun x hx => by cases hx), rfl⟩
  | case3 a was b now hl ih =>
    intro hA hB e he
    obtain ⟨h1, h2⟩ := asc_tail hA
    obtain ⟨h3, h4⟩ := asc_tail hB
    rcases List.mem_cons.1 he with rfl | he
    · refine .inl ⟨b, List.mem_cons_self .., fun hm => ?_, rfl⟩
      rcases List.mem_cons.1 hm with rfl | hm
      · exact hne hl rfl
      · exact hne (ltP_trans hl (h2 b hm)) rfl
    · rcases ih hA h3 e he with ⟨c, hc, hn, rfl⟩ | ⟨c, hc, hn, rfl⟩
      · exact .inl ⟨c, List.mem_cons_of_mem _ hc, hn, rfl⟩
      · refine .inr ⟨c, hc, fun x hx => ?_, rfl⟩
        rcases List.mem_cons.1 hx with rfl | hx
        · rcases List.mem_cons.1 hc with rfl | hc
          · exact hne hl
          · exact hne (ltP_trans hl (h2 c hc))
        · exact hn x hx
  | case4 a was b now hl hg ih =>
    intro hA hB e he
    obtain ⟨h1, h2⟩ := asc_tail hA
    obtain ⟨h3, h4⟩ := asc_tail hB
    rcases List.mem_cons.1 he with rfl | he
    · refine .inr ⟨a, List.mem_cons_self .., fun x hx => ?_, rfl⟩
      rcases List.mem_cons.1 hx with rfl | hx
      · exact fun e => hne hg e.symm
      · exact fun e => hne (ltP_trans hg (h4 x hx)) e.symm
    · rcases ih h1 hB e he with ⟨c, hc, hn, rfl⟩ | ⟨c, hc, hn, rfl⟩
      · refine .inl ⟨c, hc, fun hm => ?_, rfl⟩
        rcases List.mem_cons.1 hm with rfl | hm
        · rcases List.mem_cons.1 hc with rfl | hc
          · exact hne hg rfl
          · exact hne (ltP_trans hg (h4 _ hc)) rfl
        · exact hn hm
      · exact .inr ⟨c, List.mem_cons_of_mem _ hc, hn, rfl⟩
  | case5 a was b now hl hg he' ih =>
    intro hA hB e he
    obtain ⟨h1, h2⟩ := asc_tail hA
    obtain ⟨h3, h4⟩ := asc_tail hB
    have hab : a = b := eqNd_eq he'
    subst hab
    rcases ih h1 h3 e he with ⟨c, hc, hn, rfl⟩ | ⟨c, hc, hn, rfl⟩
    · refine .inl ⟨c, List.mem_cons_of_mem _ hc, fun hm => ?_, rfl⟩
      rcases List.mem_cons.1 hm with rfl | hm
      · exact hne (h4 _ hc) rfl
      · exact hn hm
    · refine .inr ⟨c, List.mem_cons_of_mem _ hc, fun x hx => ?_, rfl⟩
      rcases List.mem_cons.1 hx with rfl | hx
      · exact hne (h2 c hc)
      · exact hn x hx
  | case6 a was b now hl hg he' ih =>
    intro hA hB e he
    obtain ⟨h1, h2⟩ := asc_tail hA
    obtain ⟨h3, h4⟩ := asc_tail hB
    have hs : a.path = b.path := eqL_bytes (ltP_same (by simpa using hg) (by simpa using hl))
    rcases List.mem_cons.1 he with rfl | he
    · refine .inl ⟨b, List.mem_cons_self .., fun hm => ?_, rfl⟩
      rcases List.mem_cons.1 hm with rfl | hm
      · apply he'
        unfold eqNd
        simp
      · exact hne (h2 b hm) hs
    · rcases ih h1 h3 e he with ⟨c, hc, hn, rfl⟩ | ⟨c, hc, hn, rfl⟩
      · refine .inl ⟨c, List.mem_cons_of_mem _ hc, fun hm => ?_, rfl⟩
        rcases List.mem_cons.1 hm with rfl | hm
        · exact hne (h4 _ hc) hs.symm
        · exact hn hm
      · refine .inr ⟨c, List.mem_cons_of_mem _ hc, fun x hx => ?_, rfl⟩
        rcases List.mem_cons.1 hx with rfl | hx
        · rw [← hs]; exact hne (h2 c hc)
        · exact hn x hx

/-- Two trees part at these paths alone. -/
def Off (A C : List Nd) (ps : List ByteArray) : Prop := ∀ n, (n ∈ A ∧ n ∉ C) ∨ (n ∈ C ∧ n ∉ A) → n.path ∈ ps
theorem Off.refl (A : List Nd) : Off A A [] := fun n h => by rcases h with ⟨h1, h2⟩ | ⟨h1, h2⟩ <;> exact absurd h1 h2
theorem wo_mem {ns : List Nd} {p : ByteArray} {m : Nd} : m ∈ woN ns p ↔ m ∈ ns ∧ m.path ≠ p := by
  unfold woN
  rw [List.mem_filter]
  constructor
  · rintro ⟨h1, h2⟩
    exact ⟨h1, fun e => by rw [e] at h2; simp at h2⟩
  · rintro ⟨h1, h2⟩
    refine ⟨h1, ?_⟩
    rw [Bool.not_eq_true']
    cases hb : (m.path.toList == p.toList) with
    | false => rfl
    | true => exact absurd (eqL_bytes hb) h2
theorem wi_mem9 {ns : List Nd} (h : Asc ns) {n m : Nd} (hm : m ∈ ns) (hp : m.path ≠ n.path) : m ∈ wiN ns n := by
  have h1 := wo_mem.2 ⟨hm, hp⟩
  have h2 := wo_all [] ns n.path (fun a ha => by cases ha) h
  simp only [List.nil_append] at h2
  rw [h2] at h1
  rw [wi_form n h]
  rcases List.mem_append.1 h1 with h1 | h1
  · exact List.mem_append_left _ h1
  · exact List.mem_append_right _ (List.mem_cons_of_mem _ h1)
theorem Off.wi {A C : List Nd} {ps : List ByteArray} (h : Off A C ps) (hC : Asc C) (n : Nd) : Off A (wiN C n) (n.path :: ps) := by
  intro m hm
  rcases hm with ⟨h1, h2⟩ | ⟨h1, h2⟩
  · by_cases hp : m.path = n.path
    · rw [hp]; exact List.mem_cons_self ..
    · exact List.mem_cons_of_mem _ (h m (.inl ⟨h1, fun hc => h2 (wi_mem9 hC hc hp)⟩))
  · rcases wi_mem h1 with hc | rfl
    · exact List.mem_cons_of_mem _ (h m (.inr ⟨hc, h2⟩))
    · exact List.mem_cons_self ..
theorem Off.wo {A C : List Nd} {ps : List ByteArray} (h : Off A C ps) (p : ByteArray) : Off A (woN C p) (p :: ps) := by
  intro m hm
  rcases hm with ⟨h1, h2⟩ | ⟨h1, h2⟩
  · by_cases hp : m.path = p
    · rw [hp]; exact List.mem_cons_self ..
    · exact List.mem_cons_of_mem _ (h m (.inl ⟨h1, fun hc => h2 (wo_mem.2 ⟨hc, hp⟩)⟩))
  · exact List.mem_cons_of_mem _ (h m (.inr ⟨(wo_mem.1 h1).1, h2⟩))
theorem Off.more {A C : List Nd} {ps qs : List ByteArray} (h : Off A C ps) (hs : ∀ p ∈ ps, p ∈ qs) : Off A C qs := fun n hn => hs _ (h n hn)
theorem Off.to {A C : List Nd} {ps : List ByteArray} (h : Off A C ps) (hC : Asc C) (p : ByteArray) (z : Int) : ∃ q, Off A (toN C p z) (q :: ps) := by
  unfold toN
  split
  · exact ⟨_, h.wi hC _⟩
  · exact ⟨p, h.more fun x hx => List.mem_cons_of_mem _ hx⟩
/-- An operation parts at two paths at most. -/
theorem Off.op {A C : List Nd} {ps : List ByteArray} (h : Off A C ps) (hC : Asc C) (o : Op5) (z : Int) : ∃ q1 q2, Off A (doO C o z).2.1 (q1 :: q2 :: ps) := by
  have h0 : ∃ q1 q2, Off A C (q1 :: q2 :: ps) := ⟨⟨#[]⟩, ⟨#[]⟩, h.more fun x hx => List.mem_cons_of_mem _ (List.mem_cons_of_mem _ hx)⟩
  unfold doO
  split
  · exact h0
  split
  · split
    · exact h0
    split
    · exact h0
    split
    · exact h0
    split
    · exact h0
    · obtain ⟨q, hq⟩ := (h.wi hC ⟨nameO C o, o.data, 0, 0, z, z, z⟩).to (asc_wi hC _) (parB o.path) z
      exact ⟨_, _, hq⟩
  split
  · exact h0
  split
  · exact h0
  split
  · split
    · exact h0
    · obtain ⟨q, hq⟩ := (h.wo o.path).to (asc_wo hC _) (parB o.path) z
      exact ⟨_, _, hq⟩
  split
  · refine ⟨(nAt C (C.findIdx (isP o.path))).path, ⟨#[]⟩, (h.wi hC _).more fun x hx => ?_⟩
    rcases List.mem_cons.1 hx with rfl | hx
    · exact List.mem_cons_self ..
    · exact List.mem_cons_of_mem _ (List.mem_cons_of_mem _ hx)
  · exact h0
theorem off_len {α : Type} {ps : List α} : ∀ {L : List α}, (L.Pairwise fun a b => a ≠ b) → (∀ x ∈ L, x ∈ ps) → L.length ≤ ps.length := by
  classical
  intro L
  induction L generalizing ps with
  | nil => intro _ _; exact Nat.zero_le _
  | cons x L ih =>
    intro hp hs
    obtain ⟨h1, h2⟩ := List.pairwise_cons.1 hp
    have hx := hs x (List.mem_cons_self ..)
    have h3 := ih (ps := ps.erase x) h2 (fun y hy => (List.mem_erase_of_ne (fun e => h1 y hy e.symm)).2 (hs y (List.mem_cons_of_mem _ hy)))
    rw [List.length_erase_of_mem hx] at h3
    have : 0 < ps.length := List.length_pos_of_mem hx
    simp only [List.length_cons]
    omega
/-- So many effects as paths, at most. -/
theorem Off.difl {A C : List Nd} {ps : List ByteArray} (h : Off A C ps) (hA : Asc A) (hC : Asc C) : (dif A C).length ≤ ps.length := by
  have h1 : ((dif A C).map fun e => e.nd.path).Pairwise fun a b => a ≠ b := by
    rw [List.pairwise_map]
    exact (dif_asc A C hA hC).imp fun {a b} hl e => by rw [e, ltP_irr] at hl; cases hl
  have h2 := off_len (ps := ps) h1 (fun x hx => by
    obtain ⟨e, he, rfl⟩ := List.mem_map.1 hx
    rcases dif_mem A C hA hC e he with ⟨b, hb, hn, rfl⟩ | ⟨a, ha, hn, rfl⟩
    · exact h b (.inr ⟨hb, hn⟩)
    · exact h a (.inl ⟨ha, fun hc => hn a hc rfl⟩))
  simpa using h2
theorem ap_again {A B : List Nd} (hA : Asc A) (hB : Asc B) : apL B (dif A B) = B := by
  have key : ∀ es : List Ef, (∀ e ∈ es, apQ B e = B) → apL B es = B := by
    intro es
    induction es with
    | nil => intro _; rfl
    | cons e es ih =>
      intro h
      show apL (apQ B e) es = B
      rw [h e (List.mem_cons_self ..)]
      exact ih fun x hx => h x (List.mem_cons_of_mem _ hx)
  refine key _ fun e he => ?_
  rcases dif_mem A B hA hB e he with ⟨b, hb, hn, rfl⟩ | ⟨a, ha, hn, rfl⟩
  · show wiN B b = B
    have hl : B.findIdx (isP b.path) < B.length := List.findIdx_lt_length_of_exists ⟨b, hb, by unfold isP; simp⟩
    rw [wi_set hB hl]
    have h1 := (found_mem hl)
    have h2 := asc_uniq hB h1.1 hb (eqL_bytes h1.2)
    rw [nAt_get hl] at h2
    exact List.ext_getElem (by simp) fun i hi hi2 => by
      rw [List.getElem_set]
      split
      · rename_i e; subst e; exact h2.symm
      · rfl
  · show woN B a.path = B
    unfold woN
    rw [List.filter_eq_self]
    intro x hx
    rw [Bool.not_eq_true']
    cases hb : (x.path.toList == a.path.toList) with
    | false => rfl
    | true => exact absurd (eqL_bytes hb) (hn x hx)


theorem runO_off {z : Int} (hz : okS z = true) {A : List Nd} : ∀ (os : List Op5) (ns : List Nd) (i : Nat) (nm : List ByteArray) (ps : List ByteArray), Snd ns → Off A ns ps → ∃ qs, qs.length ≤ ps.length + 2 * os.length ∧ Off A (runO z os ns i nm).2.2.1 qs
  | [], ns, i, nm, ps, _, h => ⟨ps, by simp, h⟩
  | o :: os, ns, i, nm, ps, hs, h => by
    unfold runO
    split
    · exact ⟨ps, by omega, h⟩
    · obtain ⟨q1, q2, hq⟩ := h.op hs.1 o z
      obtain ⟨qs, hl, hq⟩ := runO_off hz os (doO ns o z).2.1 (i + 1) (nm ++ [(doO ns o z).2.2]) _ (doO_snd hs o hz) hq
      refine ⟨qs, ?_, hq⟩
      simp only [List.length_cons] at hl ⊢
      omega
/-- An accepted request: its tree, and what its transaction does. -/
structure PrGood (ns : List Nd) (z : Int) (a : Pa) (B : List Nd) : Prop where
  zz : a.z = z
  s : Snd ns
  b : Snd B
  es : a.es = dif ns B
  ok : okTxn z a.es = true
  one : resA ns z a.es = B
  two : resA B z a.es = B
theorem prF_good {ns : List Nd} {os : List Op5} {z : Int} (h : (prF ns os z).c = 0) : PrGood ns z (prF ns os z) (runO z os ns 0 []).2.2.1 := by
  unfold prF at h ⊢
  split at h
  · rename_i hk
    rw [if_pos hk]
    split at h
    · rename_i h0
      rw [if_pos h0]
      unfold okPrep at hk
      simp only [Bool.and_eq_true, decide_eq_true_eq] at hk
      obtain ⟨hok, h1, h2, h3, h4⟩ := hk
      have hs := okTree_snd.1 hok
      have hz : okS z = true := by unfold okS; simp; omega
      have hb := (runO_sl hz os ns 0 [] hs).1
      obtain ⟨qs, hl, hq⟩ := runO_off hz os ns 0 [] [] hs (Off.refl ns)
      have hd := hq.difl hs.1 hb.1
      generalize (runO z os ns 0 []).2.2.1 = B at *
      have ok : okTxn z (dif ns B) = true := by
        unfold okTxn
        simp only [Bool.and_eq_true, decide_eq_true_eq]
        simp only [List.length_nil] at hl
        exact ⟨⟨⟨h3, h4⟩, by omega⟩, okEs_of (dif_asc ns B hs.1 hb.1) (dif_ok ns B hs.2.1 hb.2.1)⟩
      refine ⟨rfl, hs, hb, rfl, ok, ?_, ?_⟩
      · show resA ns z (dif ns B) = B
        unfold resA
        rw [okTree_snd.2 hs, ok]
        exact ap_dif0 hs.1 hb.1
      · show resA B z (dif ns B) = B
        unfold resA
        rw [okTree_snd.2 hb, ok]
        exact ap_again hs.1 hb.1
    · rename_i h0
      exact absurd h h0
  · exact absurd h (by decide)
theorem prF_no {ns : List Nd} {os : List Op5} {z : Int} (h : (prF ns os z).c ≠ 0) : (prF ns os z).L = [] ∧ (prF ns os z).es = [] ∧ (prF ns os z).z = 0 := by
  unfold prF at h ⊢
  split
  · rename_i hk
    rw [if_pos hk] at h
    split
    · rename_i h0
      rw [if_pos h0] at h
      exact absurd rfl h
    · exact ⟨rfl, rfl, rfl⟩
  · exact ⟨rfl, rfl, rfl⟩
theorem snd_szs {ns : List Nd} (h : Snd ns) (i : Nat) : (nAt ns i).path.size ≤ 1048576 ∧ (nAt ns i).data.size ≤ 1048576 := by
  by_cases hi : i < ns.length
  · have := okNd_all (h.2.1 _ (List.getElem_mem hi))
    rw [nAt_get hi]; omega
  · have : nAt ns i = nd0 := by unfold nAt; simp [List.getD, List.getElem?_eq_none (show ns.length ≤ i by omega)]
    rw [this]; simp [nd0]
theorem okTxn_szs {z : Int} {es : List Ef} (h : okTxn z es = true) (i : Nat) : (eAt es i).nd.path.size ≤ 1048576 ∧ (eAt es i).nd.data.size ≤ 1048576 := by
  by_cases hi : i < es.length
  · have h1 := okTxn_es h
    have h2 : okEf (eAt es i) = true := by
      have := h1.1
      unfold okEs at this
      have := List.all_eq_true.1 this i (by simpa using hi)
      unfold okEAt at this
      simp only [Bool.and_eq_true] at this
      exact this.1
    have h3 : okNd (eAt es i).nd = true := by
      unfold okEf at h2
      simp only [Bool.and_eq_true] at h2
      exact h2.1
    have := okNd_all h3
    omega
  · have : eAt es i = ef0 := by unfold eAt; rw [List.getD, List.getElem?_eq_none (by omega)]; rfl
    rw [this]; exact ⟨Nat.zero_le _, Nat.zero_le _⟩


set_option maxHeartbeats 2000000 in
set_option maxRecDepth 100000 in
theorem sameTxn_yes (w : World) (z : Int) (va vb : Value) (ns : List Ef) (ha : RdE w va ns) (hb : RdE w vb ns) (hn : ns.length ≤ 1048576) :
    Calls Tryz.prog 17 #[.agg #[.int .i64 z, va], .agg #[.int .i64 z, vb]] w fun e w' => e = .returned (.bool true) ∧ Below w.heap.size w w' := by
  obtain ⟨ao, ca, rfl, _, _⟩ := ha.len
  obtain ⟨bo, cb, rfl, _, _⟩ := hb.len
  have HA : Hid (RdE w (.slice ao ns.length ca) ns) := ha
  have HB : Hid (RdE w (.slice bo ns.length cb) ns) := hb
  have B0 : Hid (Below w.heap.size w ((w.alloc (.cells #[.int .i64 z, .slice ao ns.length ca] 35)).alloc (.cells #[.int .i64 z, .slice bo ns.length cb] 35))) := ((Below.refl _ _).alloc (Nat.le_refl _) _).alloc (by simp) _
  have c0 : Hid (((w.alloc (.cells #[.int .i64 z, .slice ao ns.length ca] 35)).alloc (.cells #[.int .i64 z, .slice bo ns.length cb] 35)).cell? ⟨w.heap.size, 1, none⟩ = some (.slice ao ns.length ca)) := by show _ = _; go_simp
  have c1 : Hid (((w.alloc (.cells #[.int .i64 z, .slice ao ns.length ca] 35)).alloc (.cells #[.int .i64 z, .slice bo ns.length cb] 35)).cell? ⟨w.heap.size + 1, 1, none⟩ = some (.slice bo ns.length cb)) := by show _ = _; go_simp
  have hs : Hid (((w.alloc (.cells #[.int .i64 z, .slice ao ns.length ca] 35)).alloc (.cells #[.int .i64 z, .slice bo ns.length cb] 35)).heap.size = w.heap.size + 2) := by show _ = _; simp
  have hzz : (z != z) = false := by simp
  clear ha hb
  have HAT : Hid (∀ W, Below w.heap.size w W → ∀ (ao : Option Addr) (c : Nat), RdE w (.slice ao ns.length c) ns → ∀ i, i < ns.length → ∃ b o, ao = some ⟨b, o, none⟩ ∧ CellsE W b (o + i * 8) (eAt ns i)) := by
    intro W hW ao c hr i hi
    obtain ⟨ao', c', e', -, -, h3⟩ := hr.below hW
    simp only [Value.slice.injEq] at e'
    obtain ⟨rfl, -, -⟩ := e'
    rcases h3 with h3 | ⟨b, o, rfl, -, hc⟩
    · rw [h3] at hi; simp at hi
    · exact ⟨b, o, rfl, hc i hi⟩
  have d0 := c0.out
  have d1 := c1.out
  go_enter Tryz.func17, Tryz.ntmps17
  go_wp2
  clear d0 d1
  generalize (w.alloc (.cells #[.int .i64 z, .slice ao ns.length ca] 35)).alloc (.cells #[.int .i64 z, .slice bo ns.length cb] 35) = w0 at *
  go_loopw [5] (fun i wr => ∃ j : Nat, j ≤ ns.length ∧ i = .int .i64 j ∧ Hid (Below w0.heap.size w0 wr)) (fun i _ => ns.length - (intOf i).toNat)
  case atStart => exact ⟨0, Nat.zero_le _, rfl, Below.refl _ _⟩
  case round =>
    obtain ⟨j, hj, rfl, BK⟩ := hrel
    have d0 := (BK.out.cell (p := ⟨w.heap.size, 1, none⟩) (by rw [hs.out]; show w.heap.size < _; omega)).trans c0.out
    have d1 := (BK.out.cell (p := ⟨w.heap.size + 1, 1, none⟩) (by rw [hs.out]; show w.heap.size + 1 < _; omega)).trans c1.out
    have bW : Below w.heap.size w wr := B0.out.trans (BK.out.mono (by rw [hs.out]; omega))
    by_cases hlt : j < ns.length
    · have hltI : (j : Int) < (ns.length : Int) := by omega
      obtain ⟨b, o, rfl, hc⟩ := HAT.out wr bW ao ca HA.out j hlt
      obtain ⟨b', o', rfl, hc'⟩ := HAT.out wr bW bo cb HB.out j hlt
      obtain ⟨a0, a1, a2, a3, a4, a5, a6, a7⟩ := hc
      obtain ⟨e0, e1, e2, e3, e4, e5, e6, e7⟩ := hc'
      generalize eAt ns j = m at *
      have BD : Hid (∀ q, Below w0.heap.size w0 (wr.drewN q)) := fun q => BK.out.trans ((below_drewN' wr q).mono BK.out.size)
      clear bW
      go_wp2
      go_quiet (fail)
      go_wp2
      go_roundw
      case rel => exact ⟨j + 1, by omega, by go_num, BD.out _⟩
      case measure => simp [intOf]; omega
    · go_wp2
      go_ret
      exact ⟨rfl, bW⟩


set_option maxHeartbeats 2000000 in
set_option maxRecDepth 100000 in
theorem sameTree_yes (w : World) (va vb : Value) (ns : List Nd) (ha : RdN w va ns) (hb : RdN w vb ns) (hn : ns.length ≤ 1048576) :
    Calls Tryz.prog 14 #[.agg #[va], .agg #[vb]] w fun e w' => e = .returned (.bool true) ∧ Below w.heap.size w w' := by
  obtain ⟨ao, ca, rfl, _, _⟩ := ha.len
  obtain ⟨bo, cb, rfl, _, _⟩ := hb.len
  have HA : Hid (RdN w (.slice ao ns.length ca) ns) := ha
  have HB : Hid (RdN w (.slice bo ns.length cb) ns) := hb
  have B0 : Hid (Below w.heap.size w ((w.alloc (.cells #[.slice ao ns.length ca] 25)).alloc (.cells #[.slice bo ns.length cb] 25))) := ((Below.refl _ _).alloc (Nat.le_refl _) _).alloc (by simp) _
  have c0 : Hid (((w.alloc (.cells #[.slice ao ns.length ca] 25)).alloc (.cells #[.slice bo ns.length cb] 25)).cell? ⟨w.heap.size, 0, none⟩ = some (.slice ao ns.length ca)) := by show _ = _; go_simp
  have c1 : Hid (((w.alloc (.cells #[.slice ao ns.length ca] 25)).alloc (.cells #[.slice bo ns.length cb] 25)).cell? ⟨w.heap.size + 1, 0, none⟩ = some (.slice bo ns.length cb)) := by show _ = _; go_simp
  have hs : Hid (((w.alloc (.cells #[.slice ao ns.length ca] 25)).alloc (.cells #[.slice bo ns.length cb] 25)).heap.size = w.heap.size + 2) := by show _ = _; simp
  clear ha hb
  have HAT : Hid (∀ W, Below w.heap.size w W → ∀ (ao : Option Addr) (c : Nat), RdN w (.slice ao ns.length c) ns → ∀ i, i < ns.length → ∃ b o, ao = some ⟨b, o, none⟩ ∧ CellsN W b (o + i * 7) (nAt ns i)) := by
    intro W hW ao c hr i hi
    obtain ⟨ao', c', e', -, -, h3⟩ := hr.below hW
    simp only [Value.slice.injEq] at e'
    obtain ⟨rfl, -, -⟩ := e'
    rcases h3 with h3 | ⟨b, o, rfl, -, hc⟩
    · rw [h3] at hi; simp at hi
    · exact ⟨b, o, rfl, hc i hi⟩
  have d0 := c0.out
  have d1 := c1.out
  go_enter Tryz.func14, Tryz.ntmps14
  go_wp2
  clear d0 d1
  generalize (w.alloc (.cells #[.slice ao ns.length ca] 25)).alloc (.cells #[.slice bo ns.length cb] 25) = w0 at *
  go_loopw [5] (fun i wr => ∃ j : Nat, j ≤ ns.length ∧ i = .int .i64 j ∧ Hid (Below w0.heap.size w0 wr)) (fun i _ => ns.length - (intOf i).toNat)
  case atStart => exact ⟨0, Nat.zero_le _, rfl, Below.refl _ _⟩
  case round =>
    obtain ⟨j, hj, rfl, BK⟩ := hrel
    have d0 := (BK.out.cell (p := ⟨w.heap.size, 0, none⟩) (by rw [hs.out]; show w.heap.size < _; omega)).trans c0.out
    have d1 := (BK.out.cell (p := ⟨w.heap.size + 1, 0, none⟩) (by rw [hs.out]; show w.heap.size + 1 < _; omega)).trans c1.out
    have bW : Below w.heap.size w wr := B0.out.trans (BK.out.mono (by rw [hs.out]; omega))
    by_cases hlt : j < ns.length
    · have hltI : (j : Int) < (ns.length : Int) := by omega
      obtain ⟨b, o, rfl, hc⟩ := HAT.out wr bW ao ca HA.out j hlt
      obtain ⟨b', o', rfl, hc'⟩ := HAT.out wr bW bo cb HB.out j hlt
      obtain ⟨a0, a1, a2, a3, a4, a5, a6⟩ := hc
      obtain ⟨e0, e1, e2, e3, e4, e5, e6⟩ := hc'
      generalize nAt ns j = m at *
      have BD : Hid (∀ q, Below w0.heap.size w0 (wr.drewN q)) := fun q => BK.out.trans ((below_drewN' wr q).mono BK.out.size)
      clear bW
      go_wp2
      go_quiet (fail)
      go_wp2
      go_roundw
      case rel => exact ⟨j + 1, by omega, by go_num, BD.out _⟩
      case measure => simp [intOf]; omega
    · go_wp2
      go_ret
      exact ⟨rfl, bW⟩



/-- The image of an effect. -/
def mkB (e : Ef) : Int := if e.del then 2 else 1
def effB (e : Ef) : List Int := if e.del then [2] ++ txB e.nd.path else [1] ++ nodeB e.nd
def effsB (es : List Ef) : List Int := es.flatMap effB
def txnB (z : Int) (es : List Ef) : List Int := if okTxn z es then bigR z.toNat 4 ++ bigR es.length 2 ++ effsB es else []
theorem okEf_nd' {e : Ef} (h : okEf e = true) : okNd e.nd = true := by
  unfold okEf at h
  simp only [Bool.and_eq_true] at h
  exact h.1
theorem effB_len {e : Ef} (h : okEf e = true) : (effB e).length ≤ 189 ∧ 0 < (effB e).length := by
  have h1 := okNd_all (okEf_nd' h)
  unfold effB
  split
  · rw [List.length_append, txB_len]; simp; omega
  · rw [List.length_append, nodeB_len]; simp; omega
theorem effsB_succ (es : List Ef) (k : Nat) (h : k < es.length) : effsB (es.take k) ++ effB (eAt es k) = effsB (es.take (k + 1)) := by
  unfold effsB
  rw [List.take_succ_eq_append_getElem h, List.flatMap_append, eAt_get h]
  simp
theorem effsB_all (es : List Ef) (k : Nat) (h : es.length ≤ k) : effsB (es.take k) = effsB es := by rw [List.take_of_length_le h]
theorem effsB_len {es : List Ef} (h : ∀ k, k < es.length → okEf (eAt es k) = true) : ∀ k, k ≤ es.length → (effsB (es.take k)).length ≤ k * 189
  | 0, _ => by simp [effsB]
  | k + 1, hk => by
    have h1 := effsB_len h k (by omega)
    have h2 := effB_len (h k (by omega))
    rw [← effsB_succ es k (by omega), List.length_append]
    omega
theorem okTxn_all {z : Int} {es : List Ef} (h : okTxn z es = true) : 1 ≤ z ∧ z ≤ 2147483647 ∧ es.length ≤ 1000 ∧ ∀ k, k < es.length → okEf (eAt es k) = true := by
  unfold okTxn okEs at h
  simp only [Bool.and_eq_true, decide_eq_true_eq] at h
  refine ⟨h.1.1.1, h.1.1.2, h.1.2, fun k hk => ?_⟩
  have := List.all_eq_true.1 h.2 k (by simpa using hk)
  unfold okEAt at this
  simp only [Bool.and_eq_true] at this
  exact this.1
theorem txnB_len (z : Int) (es : List Ef) : (txnB z es).length ≤ 189006 := by
  unfold txnB
  split
  · rename_i h
    obtain ⟨-, -, h1, h2⟩ := okTxn_all h
    have h3 := effsB_len h2 es.length (Nat.le_refl _)
    rw [effsB_all es _ (Nat.le_refl _)] at h3
    simp only [List.length_append, bigR_len]
    omega
  · simp

/-- An effect's image in a box of its own. -/
def BxE (w : World) (b : Nat) (e : Ef) : Prop := BxN w b e.nd ∧ w.cell? ⟨b, 7, none⟩ = some (.int .u8 (mkB e))
theorem BxE.keep {w w' : World} {b : Nat} {e : Ef} (h : BxE w b e) (hk : KT 5 w w') : BxE w' b e := by
  obtain ⟨A, t, f, h1, h2⟩ := h.1.1
  exact ⟨h.1.keep hk, (hk.cell h1 h2 7).trans h.2⟩

set_option maxHeartbeats 1000000 in
set_option maxRecDepth 100000 in
theorem imageOf_any (w : World) (e : Ef) :
    Calls Tryz.prog 49 #[.agg #[.bool e.del, .string e.nd.path, .string e.nd.data, .int .i64 e.nd.ver, .int .i64 e.nd.cver, .int .i64 e.nd.cz, .int .i64 e.nd.mz, .int .i64 e.nd.pz]] w fun r w' =>
      r = .returned (.agg #[.string e.nd.path, .string e.nd.data, .int .i64 e.nd.ver, .int .i64 e.nd.cver, .int .i64 e.nd.cz, .int .i64 e.nd.mz, .int .i64 e.nd.pz, .int .u8 (mkB e)]) ∧ Below w.heap.size w w' := by
  have HB : Hid (∀ o1 o2, Below w.heap.size w ((w.alloc o1).alloc o2)) := fun o1 o2 => ((Below.refl _ _).alloc (Nat.le_refl _) _).alloc (by simp) _
  go_enter Tryz.func49, Tryz.ntmps49
  obtain ⟨del, nd⟩ := e
  cases del with
  | true =>
    go_wp2
    refine bodyPost_ret (v := .agg #[.string nd.path, .string nd.data, .int .i64 nd.ver, .int .i64 nd.cver, .int .i64 nd.cz, .int .i64 nd.mz, .int .i64 nd.pz, .int .u8 2]) (by simp [results, Tryz.results49, go_sem]) rfl ⟨rfl, HB.out _ _⟩
  | false =>
    go_wp2
    refine bodyPost_ret (v := .agg #[.string nd.path, .string nd.data, .int .i64 nd.ver, .int .i64 nd.cver, .int .i64 nd.cz, .int .i64 nd.mz, .int .i64 nd.pz, .int .u8 1]) (by simp [results, Tryz.results49, go_sem]) rfl ⟨rfl, HB.out _ _⟩

set_option maxHeartbeats 1000000 in
set_option maxRecDepth 100000 in
theorem encEff_any (w : World) (base : Nat) (v : Value) (xs : List Int) (b : Nat) (n : Ef) (h : Own .u8 5 w base v xs) (hb : base ≤ w.heap.size) (hl : xs.length ≤ 900000) (hx : BxE w b n) (hn : okEf n = true) :
    Calls Tryz.prog 50 #[.pointer (some ⟨b, 0, none⟩), v] w fun e w' => ∃ v', e = .returned v' ∧ Own .u8 5 w' base v' (xs ++ effB n) ∧ Below base w w' ∧ KT 5 w w' := by
  obtain ⟨i0, hi, hz0, hz1, hz2⟩ := info_parts Tryz.infoB
  have hnd := okEf_nd' hn
  have hpz := (okNd_all hnd).1
  have HN : Hid (okNd n.nd = true) := hnd
  have HX : Hid (BxE w b n) := hx
  have HO : Hid (w.ownsRow base 5 1 v xs.length (xs.map (Value.int .u8))) := h
  have HE : Hid ((n.del = true ∧ mkB n = 2 ∧ effB n = [2] ++ txB n.nd.path) ∨ (n.del = false ∧ mkB n = 1 ∧ effB n = [1] ++ nodeB n.nd)) := by
    show _ ∨ _
    unfold mkB effB
    cases n.del with
    | true => exact .inl ⟨rfl, rfl, rfl⟩
    | false => exact .inr ⟨rfl, rfl, rfl⟩
  clear h hx hn hnd
  have c7 := HX.out.2
  rcases HE.out with ⟨-, e2, e3⟩ | ⟨-, e2, e3⟩
  · have HE3 : Hid (effB n = [2] ++ txB n.nd.path) := e3
    have HE2 : Hid (mkB n = 2) := e2
    rw [e2] at c7
    clear e2 e3 HE
    go_enter Tryz.func50, Tryz.ntmps50
    go_wp2_with (at_builtin; go_must (refine wpList_append_own _ rfl _ _ 22 rfl base 5 i0 (.int .u8 0) 1 1 Tryz.underlying22 hi hz0 hz1 hz2 rfl (by decide) _ _ _ rfl (World.ownsRow.alloc HO.out _) ⟨w.heap.size, 0, none⟩ 1 1 [.int .u8 2] rfl rfl (cell_one_new _ _ _) (by intro u hu; simp at hu; subst hu; rfl) ?c3 ?c4 ?c5 ?_))
    case c3 => unfold maxLen; omega
    case c4 => omega
    case c5 => simp; omega
    intro v2 w2 ho2 hg2 _
    have O2 : Hid (Own .u8 5 w2 base v2 (xs ++ [2])) := by
      refine own_of (q := xs.length + 1) (ys := xs ++ [2]) (by simp) rfl ?_
      rw [List.map_append]; exact ho2
    have B2 : Hid (Below base w w2) := ((Below.refl _ _).alloc hb _).grown hg2 (by simp; omega) (fun q hq => (World.ownsRow.lt HO.out q hq).1)
    have K2 : Hid (KT 5 w w2) := ((KT.refl _ _).alloc _).grown (HO.out.alloc _) hg2
    have X2 : Hid (BxE w2 b n) := HX.out.keep K2.out
    have s2 := B2.out.size
    clear ho2 hg2 c7
    have c7 := X2.out.2
    rw [HE2.out] at c7
    obtain ⟨d0, -, -, -, -, -, -⟩ := X2.out.1.2
    go_wp2_with fail
    refine (implText_any w2 base v2 _ n.nd.path O2.out (by omega) (by simp; omega) (by omega)).mono ?_
    rintro e w3 ⟨v3, rfl, o3, b3, k3⟩
    have O3 : Hid (Own .u8 5 w3 base v3 (xs ++ effB n)) := by rw [HE3.out, ← List.append_assoc]; exact o3
    have B3 : Hid (Below base w w3) := B2.out.trans b3
    have K3 : Hid (KT 5 w w3) := K2.out.trans k3
    clear o3 b3 k3 O2 X2 d0 c7
    go_wp2
    go_ret
    exact ⟨_, rfl, O3.out, B3.out, K3.out⟩
  · have HE3 : Hid (effB n = [1] ++ nodeB n.nd) := e3
    have HE2 : Hid (mkB n = 1) := e2
    rw [e2] at c7
    clear e2 e3 HE
    go_enter Tryz.func50, Tryz.ntmps50
    go_wp2_with (at_builtin; go_must (refine wpList_append_own _ rfl _ _ 22 rfl base 5 i0 (.int .u8 0) 1 1 Tryz.underlying22 hi hz0 hz1 hz2 rfl (by decide) _ _ _ rfl (World.ownsRow.alloc HO.out _) ⟨w.heap.size, 0, none⟩ 1 1 [.int .u8 1] rfl rfl (cell_one_new _ _ _) (by intro u hu; simp at hu; subst hu; rfl) ?f3 ?f4 ?f5 ?_))
    case f3 => unfold maxLen; omega
    case f4 => omega
    case f5 => simp; omega
    intro v2 w2 ho2 hg2 _
    have O2 : Hid (Own .u8 5 w2 base v2 (xs ++ [1])) := by
      refine own_of (q := xs.length + 1) (ys := xs ++ [1]) (by simp) rfl ?_
      rw [List.map_append]; exact ho2
    have B2 : Hid (Below base w w2) := ((Below.refl _ _).alloc hb _).grown hg2 (by simp; omega) (fun q hq => (World.ownsRow.lt HO.out q hq).1)
    have K2 : Hid (KT 5 w w2) := ((KT.refl _ _).alloc _).grown (HO.out.alloc _) hg2
    have X2 : Hid (BxE w2 b n) := HX.out.keep K2.out
    have s2 := B2.out.size
    clear ho2 hg2 c7
    have c7 := X2.out.2
    rw [HE2.out] at c7
    go_wp2_with fail
    refine (encNode_any w2 base v2 _ b n.nd O2.out (by omega) (by simp; omega) X2.out.1 HN.out).mono ?_
    rintro e w3 ⟨v3, rfl, o3, b3, k3⟩
    have O3 : Hid (Own .u8 5 w3 base v3 (xs ++ effB n)) := by rw [HE3.out, ← List.append_assoc]; exact o3
    have B3 : Hid (Below base w w3) := B2.out.trans b3
    have K3 : Hid (KT 5 w w3) := K2.out.trans k3
    clear o3 b3 k3 O2 X2 c7
    go_wp2
    go_ret
    exact ⟨_, rfl, O3.out, B3.out, K3.out⟩

end Go.Proofs.YtdiingonnddkcaaGreatDoor


