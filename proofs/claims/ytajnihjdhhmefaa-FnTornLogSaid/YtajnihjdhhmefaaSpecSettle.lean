import Derived.Test.YtajnihjdhhmefaaSettle
import Derived.BigRegion
import Derived.Deep.AppendLies
namespace Go.Proofs.Ytajnihjdhhmefaa
open Go.RowKit

theorem Own.spliced {w : World} {base g n cap off j : Nat} {L ys : List Int} (hj : j < ys.length) (hf : off + ys.length ≤ L.length) (hn : L.length = n) {u : Int} (hu : u = ys.getD j 0)
    (h : Own .u8 5 w base (.slice (some ⟨g, 0, none⟩) n cap) (splice L off (ys.take j))) :
    Own .u8 5 (w.setCell ⟨g, off + j, none⟩ (.int .u8 u)) base (.slice (some ⟨g, 0, none⟩) n cap) (splice L off (ys.take (j + 1))) := by
  subst hu
  unfold Own at h ⊢
  have hl1 : (splice L off (ys.take j)).length = n := by rw [length_splice _ _ _ (by rw [List.length_take]; omega), hn]
  have hl2 : (splice L off (ys.take (j + 1))).length = n := by rw [length_splice _ _ _ (by rw [List.length_take]; omega), hn]
  rw [hl1] at h
  rw [hl2]
  have := (World.ownsRow.stored h (off + j) (.int .u8 (ys.getD j 0))).1
  rw [← List.map_set, splice_snoc L off ys j hj hf] at this
  exact this

theorem Own.spot {w : World} {base g n cap j : Nat} {xs : List Int} (h : Own .u8 5 w base (.slice (some ⟨g, 0, none⟩) n cap) xs) (hn : xs.length = n) (hj : j < n) : (∃ c, w.cell? ⟨g, j, none⟩ = some c) ∧ w.frozen? ⟨g, j, none⟩ = false := by
  unfold Own at h
  rw [hn] at h
  exact ⟨⟨_, (World.ownsRow.cellAt h j (by omega)).trans (List.getElem?_eq_getElem (by simpa [hn] using hj))⟩, World.ownsRow.frozenAt h j⟩

theorem Own.pos {w : World} {base n : Nat} {v : Value} {xs : List Int} (h : Own .u8 5 w base v xs) (hn : xs.length = n) (h0 : 0 < n) : ∃ g cap, v = .slice (some ⟨g, 0, none⟩) n cap ∧ base ≤ g ∧ g < w.heap.size := by
  subst hn
  rcases h.2 with ⟨-, h1⟩ | ⟨g, cap, cur, rfl, hb, hg, -⟩
  · omega
  · exact ⟨g, cap, rfl, hb, (Array.getElem?_eq_some_iff.1 hg).1⟩

theorem Rd.cellAt {k : IntKind} {w : World} {ao : Option Addr} {n cap i : Nat} {xs : List Int} (h : Rd k w (.slice ao n cap) xs) (hl : xs.length = n) (hi : i < n) : ∃ b o, ao = some ⟨b, o, none⟩ ∧ b < w.heap.size ∧ w.cell? ⟨b, o + i, none⟩ = some (.int k (xs.getD i 0)) := by
  obtain ⟨ao', cap', e, h1, h2, h3⟩ := h
  simp only [Value.slice.injEq] at e
  obtain ⟨rfl, _, rfl⟩ := e
  rcases h3 with rfl | ⟨b, o, rfl, hb, hc⟩
  · simp at hl; omega
  · exact ⟨b, o, rfl, hb, hc i (by omega)⟩

theorem grownBy_drew' {a b : World} {row : Option Nat} (h : a.grownBy b row) : a.grownBy b.drew row := ⟨h.os, h.tape, h.output, h.size, h.block⟩

theorem BoxF.other {w w' : World} {b : Nat} {x y : Value} {row : Option Nat} (h : BoxF w b x y) (hg : w.grownBy w' row) (hne : some b ≠ row) : BoxF w' b x y :=
  ⟨h.1.other hg hne, (hg.frozen_far ⟨b, 0, none⟩ h.1.1 hne).trans h.2.1, (hg.frozen_far ⟨b, 1, none⟩ h.1.1 hne).trans h.2.2⟩

set_option maxHeartbeats 2000000 in
set_option maxRecDepth 100000 in
theorem l1Settle_any (w : World) (va vb vc : Option Addr) (dl ca n cb cc : Nat) (dur : List Int) (ps : List (Int × List Int)) (cs : List Int) (c : Nat → Nat) (hd : Rd .u8 w (.slice va dl ca) dur) (hdl : dur.length = dl) (hp : RdW w (.slice vb n cb) ps) (hl : ps.length = n)
    (hc : Rd .i64 w (.slice vc n cc) cs) (hcl : cs.length = n) (hcs : ∀ i, i < n → cs.getD i 0 = (c i : Int) ∧ c i ≤ 64) (hv : vldD dl ps = true) (hd1 : dl ≤ 1048576) :
    Calls Try.prog 62 #[.agg #[.slice va dl ca, .slice vb n cb], .slice vc n cc] w fun e w' => ∃ v1, e = .returned (.agg #[v1, .slice none 0 0]) ∧ Own .u8 5 w' w.heap.size v1 (stl dur ps c n) ∧ Below w.heap.size w w' := by
  have HD : Hid (Rd .u8 w (.slice va dl ca) dur) := hd
  have HP : Hid (RdW w (.slice vb n cb) ps) := hp
  have HC : Hid (Rd .i64 w (.slice vc n cc) cs) := hc
  have HL : Hid (ps.length = n) := hl
  have HDL : Hid (dur.length = dl) := hdl
  have HCL : Hid (cs.length = n) := hcl
  have HCS : Hid (∀ i, i < n → cs.getD i 0 = (c i : Int) ∧ c i ≤ 64) := hcs
  have HV : Hid (vldD dl ps = true) := hv
  have hdp : 0 < dl := by have := ((vldD_iff dl ps).1 hv).2.1; omega
  have hn2 : n ≤ 2000 := by have := ((vldD_iff dl ps).1 hv).2.2.2.1; omega
  have BA : Hid (∀ o1 o2, Below w.heap.size w ((w.alloc o1).alloc o2)) := fun o1 o2 => ((Below.refl _ _).alloc (Nat.le_refl _) _).alloc (by simp) _
  clear hd hp hl hdl hc hcl hcs hv
  go_enter Try.func62, Try.ntmps62
  go_wp2_with fail
  have XA0 : Hid (BoxF ((w.alloc (.cells #[.slice va dl ca, .slice vb n cb] 45)).alloc (.cells #[.slice none 0 0, .slice none 0 0] 45)) w.heap.size (.slice va dl ca) (.slice vb n cb)) := (BoxF.new w _ _ _).below ((Below.refl _ _).alloc (Nat.le_refl _) _)
  have XR0 : Hid (BoxF ((w.alloc (.cells #[.slice va dl ca, .slice vb n cb] 45)).alloc (.cells #[.slice none 0 0, .slice none 0 0] 45)) (w.heap.size + 1) (.slice none 0 0) (.slice none 0 0)) := by
    have := BoxF.new (w.alloc (.cells #[.slice va dl ca, .slice vb n cb] 45)) (.slice none 0 0) (.slice none 0 0) 45
    show BoxF _ _ _ _
    simpa using this
  have B0 := BA.out (.cells #[.slice va dl ca, .slice vb n cb] 45) (.cells #[.slice none 0 0, .slice none 0 0] 45)
  have HB0 : Hid (Below w.heap.size w ((w.alloc (.cells #[.slice va dl ca, .slice vb n cb] 45)).alloc (.cells #[.slice none 0 0, .slice none 0 0] 45))) := B0
  clear B0 BA
  generalize (w.alloc (.cells #[.slice va dl ca, .slice vb n cb] 45)).alloc (.cells #[.slice none 0 0, .slice none 0 0] 45) = w0 at *
  refine (l1Copy_any _ _ dur (HD.out.below HB0.out) (by have := HDL.out; omega)).mono ?_
  rintro e w1 ⟨v1, rfl, o1, b1⟩
  obtain ⟨g, cap, rfl, hg0, hg1⟩ := o1.pos HDL.out hdp
  have HB1 : Hid (Below w.heap.size w w1) := HB0.out.trans (b1.mono HB0.out.size)
  have XA1 : Hid (BoxF w1 w.heap.size (.slice va dl ca) (.slice vb n cb)) := XA0.out.below b1
  have XR1 : Hid (BoxF w1 (w.heap.size + 1) (.slice none 0 0) (.slice none 0 0)) := XR0.out.below b1
  have O1 : Hid (Own .u8 5 w1 w0.heap.size (.slice (some ⟨g, 0, none⟩) dl cap) dur) := o1
  have zA := XA0.out.1.1
  have zR := XR0.out.1.1
  have s0 := HB0.out.size
  have b1s := b1.size
  have hcap : dl ≤ cap ∧ cap ≤ maxLen := by
    obtain ⟨ao, c', e, h1, h2⟩ := o1.rd.len
    simp only [Value.slice.injEq] at e
    obtain ⟨_, e2, rfl⟩ := e
    omega
  obtain ⟨hcap1, hcap2⟩ := hcap
  unfold maxLen at hcap2
  clear b1 o1 XA0 XR0 HB0
  have XO2 : Hid (BoxF (w1.alloc (.cells #[.slice (some ⟨g, 0, none⟩) dl cap, .slice none 0 0] 45)) w1.heap.size (.slice (some ⟨g, 0, none⟩) dl cap) (.slice none 0 0)) := BoxF.new _ _ _ _
  have O2 : Hid (Own .u8 5 (w1.alloc (.cells #[.slice (some ⟨g, 0, none⟩) dl cap, .slice none 0 0] 45)) w0.heap.size (.slice (some ⟨g, 0, none⟩) dl cap) dur) := O1.out.below ((Below.refl _ _).alloc (Nat.le_refl _) _)
  have HW : Hid (Below w.heap.size w (w1.alloc (.cells #[.slice (some ⟨g, 0, none⟩) dl cap, .slice none 0 0] 45))) := HB1.out.alloc HB1.out.size _
  have XA2 : Hid (BoxF (w1.alloc (.cells #[.slice (some ⟨g, 0, none⟩) dl cap, .slice none 0 0] 45)) w.heap.size (.slice va dl ca) (.slice vb n cb)) := XA1.out.below ((Below.refl _ _).alloc (Nat.le_refl _) _)
  have XR2 : Hid (BoxF (w1.alloc (.cells #[.slice (some ⟨g, 0, none⟩) dl cap, .slice none 0 0] 45)) (w.heap.size + 1) (.slice none 0 0) (.slice none 0 0)) := XR1.out.below ((Below.refl _ _).alloc (Nat.le_refl _) _)
  clear XA1 XR1 HB1 O1
  go_wp2_with fail
  generalize w1.alloc (.cells #[.slice (some ⟨g, 0, none⟩) dl cap, .slice none 0 0] 45) = w2 at *
  have sW := HW.out.size
  have zA2 := XA2.out.1.1
  have zR2 := XR2.out.1.1
  have zO2 := XO2.out.1.1
  have nA : g ≠ w.heap.size := by omega
  have nR : g ≠ w.heap.size + 1 := by omega
  have nO : g ≠ w1.heap.size := by omega
  have hgz : g < w2.heap.size := by omega
  go_wp2
  go_loopw [6] (fun i wr => ∃ k : Nat, k ≤ n ∧ i = .int .i64 k ∧ Hid (Own .u8 5 wr w0.heap.size (.slice (some ⟨g, 0, none⟩) dl cap) (stl dur ps c k)) ∧ Hid (w2.grownBy wr (some g))) (fun i _ => n - (intOf i).toNat)
  case atStart => exact ⟨0, Nat.zero_le _, rfl, O2, World.grownBy.refl _ _⟩
  case round =>
    clear O2
    obtain ⟨k, hk, rfl, HO, HG⟩ := hrel
    have hlen : (stl dur ps c k).length = dl := by rw [stl_len dur ps c (by rw [HDL.out]; exact HV.out) k (by rw [HL.out]; exact hk), HDL.out]
    have HLEN : Hid ((stl dur ps c k).length = dl) := hlen
    clear hlen
    by_cases hlt : k < n
    · obtain ⟨pb, po, rfl, hpb, e1, da, dc, e2, r⟩ := HP.out.recAt HL.out hlt
      obtain ⟨b, hb, hb2, hb3, hd64⟩ := vld_at HV.out k (by rw [HL.out]; exact hlt)
      rw [hb] at e1
      rw [hd64] at e2 r
      obtain ⟨qb, qo, rfl, hqb, e3⟩ := HC.out.cellAt HCL.out hlt
      obtain ⟨hck, hc64⟩ := HCS.out k hlt
      rw [hck] at e3
      have HSTL : Hid (stl dur ps c (k + 1) = splice (stl dur ps c k) (b * 64) ((pD ps k).take (c k))) := by show stl _ _ _ _ = _; rw [stl, hb, Int.toNat_natCast]
      have HD64 : Hid ((pD ps k).length = 64) := hd64
      have RK : Hid (Rd .u8 w (.slice da 64 dc) (pD ps k)) := r
      have E1 : Hid (w.cell? ⟨pb, po + k * 2, none⟩ = some (.int .i64 b)) := e1
      have E2 : Hid (w.cell? ⟨pb, po + k * 2 + 1, none⟩ = some (.slice da 64 dc)) := e2
      have E3 : Hid (w.cell? ⟨qb, qo + k, none⟩ = some (.int .i64 (c k))) := e3
      have hltI : (k : Int) < (n : Int) := by omega
      clear hb hd64 hck r e1 e2 e3
      generalize c k = ck at *
      obtain ⟨⟨z3, x0, x1⟩, -⟩ := XA2.out.other HG.out (by simp; omega)
      go_wp2
      clear x0 x1 z3
      go_loopw [7] (fun i wr => ∃ j : Nat, j ≤ ck ∧ i = .int .i64 j ∧ Hid (Own .u8 5 wr w0.heap.size (.slice (some ⟨g, 0, none⟩) dl cap) (splice (stl dur ps c k) (b * 64) ((pD ps k).take j))) ∧ Hid (w2.grownBy wr (some g))) (fun i _ => ck - (intOf i).toNat)
      case atStart => exact ⟨0, Nat.zero_le _, rfl, (by rw [List.take_zero, splice_nil]; exact HO), HG⟩
      case round =>
        clear HO HG
        obtain ⟨j, hj, rfl, HO, HG⟩ := hrel
        have hfar : ∀ p : Addr, p.block < w.heap.size → wr.cell? p = w.cell? p := fun p hp => (HG.out.cell_far p (by omega) (by simp; omega)).trans (HW.out.cell hp)
        have f3 := (hfar ⟨qb, qo + k, none⟩ hqb).trans E3.out
        by_cases hjt : j < ck
        · obtain ⟨db, dof, rfl, hdb, e4⟩ := RK.out.cellAt HD64.out (show j < 64 by omega)
          have f1 := (hfar ⟨pb, po + k * 2, none⟩ hpb).trans E1.out
          have f2 := (hfar ⟨pb, po + k * 2 + 1, none⟩ hpb).trans E2.out
          have f4 := (hfar ⟨db, dof + j, none⟩ hdb).trans e4
          obtain ⟨⟨u, hu⟩, hfz⟩ := HO.out.spot (j := b * 64 + j) (by rw [length_splice _ _ _ (by rw [List.length_take, HLEN.out]; have := HD64.out; omega), HLEN.out]) (by omega)
          obtain ⟨⟨z3, x0, x1⟩, -⟩ := XA2.out.other HG.out (by simp; omega)
          obtain ⟨⟨z4, y0, y1⟩, -⟩ := XO2.out.other HG.out (by simp; omega)
          have hjI : (j : Int) < (ck : Int) := by omega
          have hj64 : (j : Int) < 64 := by omega
          have hbI : ((b * 64 + j : Nat) : Int) < (dl : Int) := by omega
          have HX4 : Hid ((pD ps k).getD j 0 = (pD ps k).getD j 0) := rfl
          have O3 : Hid (∀ x, x = (pD ps k).getD j 0 → Own .u8 5 (wr.setCell ⟨g, b * 64 + j, none⟩ (.int .u8 x)) w0.heap.size (.slice (some ⟨g, 0, none⟩) dl cap) (splice (stl dur ps c k) (b * 64) ((pD ps k).take (j + 1)))) := fun x hx =>
            Own.spliced (by have := HD64.out; omega) (by have := HD64.out; have := HLEN.out; omega) HLEN.out hx HO.out
          have O4 := O3.out _ rfl
          have H4 : Hid (Own .u8 5 (wr.setCell ⟨g, b * 64 + j, none⟩ (.int .u8 ((pD ps k).getD j 0))) w0.heap.size (.slice (some ⟨g, 0, none⟩) dl cap) (splice (stl dur ps c k) (b * 64) ((pD ps k).take (j + 1)))) := O4
          clear e4 hfar O3 O4
          generalize (pD ps k).getD j 0 = x at *
          go_wp2_with fail
          go_region
          all_goals
            go_wp2
            go_roundw
            case rel => exact ⟨j + 1, by omega, by go_num, H4, grownBy_drew' (grownBy_set _ _ _ _ _ HG.out)⟩
            case measure => simp [intOf]; omega
        · have hjc : j = ck := by omega
          subst hjc
          clear hfar
          have hjI : ¬ (j : Int) < (j : Int) := by omega
          go_wp2
          go_roundw
          case rel => exact ⟨k + 1, by omega, by go_num, (by show Own _ _ _ _ _ _; rw [HSTL.out]; exact HO.out), HG⟩
          case measure => simp [intOf]; omega
    · have hkn : k = n := by omega
      subst hkn
      obtain ⟨⟨z3, x0, x1⟩, -⟩ := XA2.out.other HG.out (by simp; omega)
      obtain ⟨⟨z4, y0, y1⟩, -⟩ := XO2.out.other HG.out (by simp; omega)
      obtain ⟨⟨z5, d0, d1⟩, f0, f1⟩ := XR2.out.other HG.out (by simp; omega)
      have HB : Hid (Below w.heap.size w wr) := ⟨HG.out.os.trans HW.out.os, HG.out.tape.trans HW.out.tape, HG.out.output.trans HW.out.output, Nat.le_trans HW.out.size HG.out.size, fun q hq => (HG.out.block q (by omega) (by simp; omega)).trans (HW.out.block q hq)⟩
      go_wp2
      refine bodyPost_ret (v := .agg #[.slice (some ⟨g, 0, none⟩) dl cap, .slice none 0 0]) (by simp [results, Try.results62, go_sem, d0, d1]) rfl ⟨_, rfl, ?_, ?_⟩
      · refine Own.mono (base := w0.heap.size) ?_ (by omega)
        repeat (first | exact HO.out | refine Own.setAt ?_ (.inr (by simp [Value.ownBlock]; omega)))
      · repeat (first | exact HB.out | refine Below.setCell ?_ (by simp; try omega) _)

end Go.Proofs.Ytajnihjdhhmefaa
