import Derived.Test.YtdiingonnddkcaaGreatDoorJ27
namespace Go.Proofs.YtdiingonnddkcaaGreatDoor
open Go.RowKit Go.Shelf

set_option linter.unusedSimpArgs false in
set_option maxHeartbeats 20000000 in
set_option maxRecDepth 100000 in
theorem lawFuz_walk (w : World) (v : Value) (cs : List Int) (h : Rd .u8 w v cs) (hby : Byt cs) (vm : Value) (ms : List Int) (hm : Rd .u8 w vm ms) (hbm : Byt ms)
    (hg : w.cell? ⟨0, 0, none⟩ = some (.iface 171 (.agg #[.pointer (some ⟨7, 77, none⟩)]))) (h0 : 0 < w.heap.size) (htab : Lib.TabIs Tryz.prog w "internal/strconv.uint64pow10" .u64 Lib.pow10Tab) :
    Calls Tryz.prog 5 #[v, vm] w fun e w' => e = .returned (.bool true) ∧ Below w.heap.size w w' := by
  obtain ⟨ca, cc, rfl, hl1, hl2⟩ := h.len
  obtain ⟨ma, mc, rfl, hl3, hl4⟩ := hm.len
  unfold maxLen at hl2 hl4
  by_cases hbig : 1048576 < cs.length
  · have hbI : (1048576 : Int) < (cs.length : Int) := by omega
    go_enter Tryz.func5, Tryz.ntmps5
    go_wp2
    go_ret
    exact ⟨rfl, Below.refl _ _⟩
  have hbI : ¬ (1048576 : Int) < (cs.length : Int) := by omega
  by_cases hbig2 : 1048576 < ms.length
  · have hbJ : (1048576 : Int) < (ms.length : Int) := by omega
    go_enter Tryz.func5, Tryz.ntmps5
    go_wp2
    go_ret
    exact ⟨rfl, Below.refl _ _⟩
  have hbJ : ¬ (1048576 : Int) < (ms.length : Int) := by omega
  obtain ⟨hsz, hnl, -⟩ := prp_szs (srcOf cs) (Nat.min_le_left _ _)
  have HD : Hid (Calls Tryz.prog 6 #[.slice ca cs.length cc] w fun e w' => ∃ v u, e = .returned (.tuple #[.agg #[v], .agg #[u], .int .i64 (srcOf cs).prp.2.2]) ∧ RdN w' v (srcOf cs).prp.1 ∧ RdO w' u (srcOf cs).prp.2.1 ∧ Below w.heap.size w w' ∧ NilOk v) :=
    drawPrep_x w _ cs h hby (by omega)
  have HM := hd9 hm
  have HBM := hd9 hbm
  generalize (srcOf cs).prp = Q at *
  obtain ⟨ns, os, z0⟩ := Q
  replace hsz : ∀ i, (nAt ns i).path.size ≤ 1048576 ∧ (nAt ns i).data.size ≤ 1048576 := hsz
  replace hnl : ns.length ≤ 2000 := hnl
  have HZ := hd9 hsz
  have HIG : Hid (∀ (ms : List Nd) (os : List Op5) (z : Int), Snd ms → SzQ os → ∀ W va vb, Below w.heap.size w W → RdN W va ms → RdO W vb os → Calls Tryz.prog 8 #[.agg #[va], .agg #[vb], .int .i64 z] W fun e w' => PA W (prF ms os z) e w') :=
    fun ms os z q1 q3 W va vb hb h1 h2 => implP_any W va vb ms os z h1 h2 (snd_szs q1) q3 ((hb.cell (p := ⟨0, 0, none⟩) h0).trans hg) (Nat.lt_of_lt_of_le h0 hb.size) (tab_below htab hb)
  clear hsz h hm hby hbm hg htab h0
  go_enter Tryz.func5, Tryz.ntmps5
  go_wp2_with fail
  refine HD.out.mono ?_
  rintro e w1 ⟨v1, u1, rfl, r1, q1, b1, n1⟩
  clear HD n1
  have hTB := b1.size
  obtain ⟨av, cv, hv, -⟩ := r1.len
  subst hv
  obtain ⟨au, cu, hu, -⟩ := q1.len
  subst hu
  have bA1 : Below w1.heap.size w1 (w1.alloc (.cells #[.slice av ns.length cv] 25)) := (Below.refl _ _).alloc (Nat.le_refl _) _
  have bA2 : Below (w1.alloc (.cells #[.slice av ns.length cv] 25)).heap.size (w1.alloc (.cells #[.slice av ns.length cv] 25)) ((w1.alloc (.cells #[.slice av ns.length cv] 25)).alloc (.cells #[.slice au os.length cu] 28)) := (Below.refl _ _).alloc (Nat.le_refl _) _
  have bA := bA1.trans (bA2.mono bA1.size)
  have X2 := hd9 (boxed_below bA2 (Boxed.new w1 25 (.slice av ns.length cv)))
  have B2 := hd9 (b1.trans (bA.mono b1.size))
  have RD2 := hd9 (r1.below bA)
  clear bA1 bA2 bA b1 r1 q1
  go_wp2_with fail
  generalize (w1.alloc (.cells #[.slice av ns.length cv] 25)).alloc (.cells #[.slice au os.length cu] 28) = w2 at *
  generalize w1.heap.size = TB at *
  refine (specTree_any w2 _ ns RD2.out (by omega) HZ.out).mono ?_
  rintro e w3 ⟨rfl, b3⟩
  have X3 := hd9 (boxed_below b3 X2.out)
  have B3 := hd9 (B2.out.trans (b3.mono B2.out.size))
  have RD3 := hd9 (RD2.out.below b3)
  clear b3 X2 B2 RD2
  have x0 := X3.out.cell
  by_cases hgo : okTree ns = true ∧ ns.length ≤ 500 ∧ 0 < ns.length
  case neg =>
    cases hok : okTree ns with
    | false =>
      go_wp2_with fail
      refine (implTree_any w3 _ ns RD3.out HZ.out).mono ?_
      rintro e w4 ⟨rfl, b4⟩
      rw [hok]
      have B4 := hd9 (B3.out.trans (b4.mono B3.out.size))
      go_wp2_with fail
      go_ret
      exact ⟨rfl, B4.out⟩
    | true =>
      have HI : Hid (∀ W, RdN W (.slice av ns.length cv) ns → Calls Tryz.prog 18 #[.agg #[.slice av ns.length cv]] W fun e w' => e = .returned (.bool true) ∧ Below W.heap.size W w') := fun W h2 => by
        have := implTree_any W _ ns h2 HZ.out
        rwa [hok] at this
      have HS : Hid (∀ W, RdN W (.slice av ns.length cv) ns → Calls Tryz.prog 7 #[.agg #[.slice av ns.length cv]] W fun e w' => e = .returned (.bool true) ∧ Below W.heap.size W w') := fun W h2 => by
        have := specTree_any W _ ns h2 (by omega) HZ.out
        rwa [hok] at this
      by_cases h500 : 500 < ns.length
      · have h5I : (500 : Int) < (ns.length : Int) := by omega
        clear hgo
        go_wp2_with fail
        refine (HI.out w3 RD3.out).mono ?_
        rintro e w4 ⟨rfl, b4⟩
        have B4 := hd9 (B3.out.trans (b4.mono B3.out.size))
        have RD4 := hd9 (RD3.out.below b4)
        have x4 := (boxed_below b4 X3.out).cell
        clear b4 B3 RD3 X3 x0
        go_wp2_with fail
        refine (HS.out w4 RD4.out).mono ?_
        rintro e w5 ⟨rfl, b5⟩
        have B5 := hd9 (B4.out.trans (b5.mono B4.out.size))
        go_wp2_with fail
        go_ret
        exact ⟨rfl, B5.out⟩
      · have hz : ns.length = 0 := by
          apply Classical.byContradiction
          intro h9
          exact hgo ⟨hok, by omega, by omega⟩
        have h5I : ¬ (500 : Int) < (ns.length : Int) := by omega
        have h6I : (ns.length : Int) = 0 := by omega
        clear hgo hz
        go_wp2_with fail
        refine (HI.out w3 RD3.out).mono ?_
        rintro e w4 ⟨rfl, b4⟩
        have B4 := hd9 (B3.out.trans (b4.mono B3.out.size))
        have RD4 := hd9 (RD3.out.below b4)
        have x4 := (boxed_below b4 X3.out).cell
        clear b4 B3 RD3 X3 x0
        go_wp2_with fail
        refine (HS.out w4 RD4.out).mono ?_
        rintro e w5 ⟨rfl, b5⟩
        have B5 := hd9 (B4.out.trans (b5.mono B4.out.size))
        go_wp2_with fail
        go_ret
        exact ⟨rfl, B5.out⟩
  case pos =>
  obtain ⟨hok, h500, hpos⟩ := hgo
  have h5I : ¬ (500 : Int) < (ns.length : Int) := by omega
  have h6I : ¬ (ns.length : Int) = 0 := by omega
  have h5D : decide ((500 : Int) < (ns.length : Int)) = false := by simp; omega
  rw [hok]
  go_upto_region 8 with fail
  go_cut [10] from 23 (fun v10 wx => v10 = .int .i64 0 ∧ wx = (w3.alloc (.cells #[.slice av ns.length cv] 25)).alloc (.cells #[] 28))
  case first =>
    go_wp2_with fail
    go_meet
    exact ⟨rfl, rfl⟩
  case rest =>
  obtain ⟨rfl, rfl⟩ := hcut
  rename_i hK0
  refine hK0 _ _ ?_
  clear hK0
  have hS0 := okTree_snd.1 hok
  have F0 := hd9 (F1.start RD3.out hpos)
  have C0 := hd9 (Chn.one hS0 h500)
  have bN : Below w3.heap.size w3 ((w3.alloc (.cells #[.slice av ns.length cv] 25)).alloc (.cells #[] 28)) := ((Below.refl _ _).alloc (Nat.le_refl _) _).alloc (by simp) _
  have B4 := hd9 (B3.out.trans (bN.mono B3.out.size))
  have hlo := B3.out.size
  clear RD3 X3 B3 bN x0 hS0 h5I h5D h6I HZ hok
  generalize (w3.alloc (.cells #[.slice av ns.length cv] 25)).alloc (.cells #[] 28) = w4 at *
  generalize w3.heap.size = lo at *
  have HLR : Hid (∀ W u (T : List Nd), Below w.heap.size w W → RdN W u T → Snd T → 0 < T.length → ∀ i : Nat, i < 90 → Calls Tryz.prog 19 #[.agg #[u], .slice ma ms.length mc, .int .i64 (i : Int)] W fun e w' => ∃ u os, e = .returned (.agg #[u]) ∧ RdO w' u os ∧ (∃ g cur, u = .slice (some ⟨g, 0, none⟩) os.length os.length ∧ w'.heap[g]? = some (.cells cur 40 (0, 0))) ∧ 1 ≤ os.length ∧ os.length ≤ 3 ∧ SzQ os ∧ Below W.heap.size W w') :=
    fun W u T hb h1 h2 h3 i hi => lwReq_any W u T h1 h3 (by have := h2.2.2; omega) h2.2.1 _ ms (HM.out.below hb) HBM.out (by omega) i hi
  go_cut [8, 9] from 23 (fun v8 v9 wx => ∃ (m gt ct : Nat) (ar : Option Addr) (cr : Nat) (Ts : List (List Nd)) (Rs : List (List Op5)) (ut ur : List Value), m ≤ 8 ∧ v8 = .slice (some ⟨gt, 0, none⟩) (m + 1) ct ∧ v9 = .slice ar m cr ∧ Hid (Rs.length = m) ∧ Hid (Chn Ts Rs) ∧ Hid (F1 lo (.slice (some ⟨gt, 0, none⟩) (m + 1) ct) (.slice ar m cr) ut ur Ts Rs wx) ∧ Hid (Below w.heap.size w wx))
  case first =>
    go_wp2_with fail
    go_loopw [8, 9, 10] (fun v8 v9 v10 wr => ∃ (k m gt ct : Nat) (ar : Option Addr) (cr : Nat) (Ts : List (List Nd)) (Rs : List (List Op5)) (ut ur : List Value), v10 = .int .i64 (k : Int) ∧ k ≤ 8 ∧ m ≤ k ∧ v8 = .slice (some ⟨gt, 0, none⟩) (m + 1) ct ∧ v9 = .slice ar m cr ∧ Hid (Rs.length = m) ∧ Hid (Chn Ts Rs) ∧ Hid (F1 lo (.slice (some ⟨gt, 0, none⟩) (m + 1) ct) (.slice ar m cr) ut ur Ts Rs wr) ∧ Hid (Below w.heap.size w wr)) (fun _ _ i _ => 8 - (intOf i).toNat)
    case atStart => exact ⟨0, 0, lo, 1, some ⟨lo + 1, 0, none⟩, 0, [ns], [], _, _, rfl, by omega, by omega, rfl, rfl, rfl, C0, F0, B4⟩
    case round =>
      obtain ⟨k, m, gt, ct, ar, cr, Ts, Rs, ut, ur, rfl, hk, hmk, rfl, rfl, HR, HC, HF, HB⟩ := hrel
      clear F0 C0 B4
      by_cases hlt : k < 8
      · have hltI : (k : Int) < 8 := by omega
        have hTn : Ts.length = m + 1 := by rw [HC.out.n, HR.out]
        have hc : wr.cell? ⟨gt, m, none⟩ = some (ut.getD m (.slice none 0 0)) := by
          obtain ⟨g, cap, e, -, -, -, -, h9⟩ := HF.out.cellT (by omega)
          injection e with e1 e2 e3
          injection e1 with e1
          injection e1 with e1
          subst e1
          exact h9 m (by omega)
        obtain ⟨rT, tyT⟩ := HF.out.tr m (by omega)
        have hST := HC.out.snd m (by omega)
        have RT := hd9 rT
        obtain ⟨ax, cx, hx, -, -⟩ := rT.len
        rw [hx] at hc RT
        have HX := hd9 hx
        clear rT hx hTn
        generalize hT : Ts.getD m [] = T at *
        have hTl : T.length ≤ 1000 := hST.2.2
        have HST := hd9 hST
        have HTY := hd9 tyT
        clear tyT hST
        by_cases hT0 : T.length = 0
        · have hTI : (T.length : Int) = 0 := by omega
          clear hT0
          go_wp2_with fail
          go_meet
          have b9 : Below wr.heap.size wr (wr.alloc (.cells #[.slice ax T.length cx] 25)) := (Below.refl _ _).alloc (Nat.le_refl _) _
          exact ⟨m, gt, ct, ar, cr, Ts, Rs, ut, ur, by omega, rfl, rfl, HR, HC, HF.out.below b9, HB.out.trans (b9.mono HB.out.size)⟩
        have hTI : ¬ (T.length : Int) = 0 := by omega
        have hTD : ((T.length : Int) == 0) = false := beq_false_of_ne (by omega)
        have b5 : Below wr.heap.size wr (wr.alloc (.cells #[.slice ax T.length cx] 25)) := (Below.refl _ _).alloc (Nat.le_refl _) _
        have F5 := hd9 (HF.out.below b5)
        have B5 := hd9 (HB.out.trans (b5.mono HB.out.size))
        have X5 := hd9 (Boxed.new wr 25 (.slice ax T.length cx))
        have R5 := hd9 (RT.out.below b5)
        clear b5
        go_wp2_with fail
        generalize wr.alloc (.cells #[.slice ax T.length cx] 25) = w5 at *
        have hARX : ∀ g, (Value.slice ar m cr).ownBlock = some g → g < wr.heap.size := fun g e => (HF.out.r.lt g e).2
        have hATX : gt < wr.heap.size := (HF.out.t.lt gt rfl).2
        generalize wr.heap.size = TX at *
        have HQ := HLR.out w5 _ T B5.out R5.out HST.out (by omega) (3 * k) (by omega)
        rw [show ((3 * k : Nat) : Int) = 3 * (k : Int) by omega] at HQ
        refine HQ.mono ?_
        rintro e w6 ⟨uq, oq, rfl, rq, ⟨gq, curq, huq, hgq⟩, hq1, hq3, hqz, b6⟩
        subst huq
        clear HQ
        have b7 : Below w6.heap.size w6 (w6.alloc (.cells #[.slice (some ⟨gq, 0, none⟩) oq.length oq.length] 28)) := (Below.refl _ _).alloc (Nat.le_refl _) _
        have b67 := b6.trans (b7.mono b6.size)
        have F7 := hd9 (F5.out.below b67)
        have B7 := hd9 (B5.out.trans (b67.mono B5.out.size))
        have X7 := hd9 (boxed_below b67 X5.out)
        have R7 := hd9 (R5.out.below b67)
        have Q7 := hd9 (rq.below b7)
        have Y7 := hd9 (Boxed.new w6 28 (.slice (some ⟨gq, 0, none⟩) oq.length oq.length))
        have G7 := hd9 ((b7.block gq (Array.getElem?_eq_some_iff.1 hgq).1).trans hgq)
        have b6s := b6.size
        have X5T := X5.out.lt
        clear b67 b7 b6 F5 B5 X5 R5 rq hgq hc RT HF HB
        have HSZ := hd9 hqz
        clear hqz
        have x7 := X7.out.cell
        have y7 := Y7.out.cell
        go_wp2_with fail
        generalize w6.alloc (.cells #[.slice (some ⟨gq, 0, none⟩) oq.length oq.length] 28) = w7 at *
        have X7T : TX < w6.heap.size := Nat.lt_of_lt_of_le X5T b6s
        generalize w6.heap.size = QX at *
        have hTQ : TX < QX := X7T
        refine (specP_any w7 _ _ T oq _ R7.out Q7.out (by omega) (snd_szs HST.out) HSZ.out).mono ?_
        have HCM : Hid ((prF T oq (101 + (m : Int))).c = 0 → Chn (Ts ++ [resA T (101 + (m : Int)) (prF T oq (101 + (m : Int))).es]) (Rs ++ [oq]) ∧ (prF T oq (101 + (m : Int))).z = 101 + (m : Int) ∧ okTxn (101 + (m : Int)) (prF T oq (101 + (m : Int))).es = true) := fun h9 => by
          have h8 := HC.out.more (os := oq) hq3
          rw [HR.out, hT] at h8
          exact ⟨h8 h9, (prF_good h9).zz, (prF_good h9).ok⟩
        rw [show (100 + ((m : Int) + 1)) = 101 + (m : Int) by omega]
        generalize prF T oq (101 + (m : Int)) = A1 at *
        obtain ⟨c, i, zz, L, es⟩ := A1
        rintro e w8 ⟨v8, u8, rfl, on, oe, b8⟩
        obtain ⟨an, kn, hv8⟩ := OwnS.slice on
        subst hv8
        obtain ⟨ae, ke, hu8⟩ := oe.slice
        subst hu8
        have bP : Below w8.heap.size w8 (w8.alloc (.cells #[.int .i64 c, .int .i64 i, .slice an L.length kn, .int .i64 zz, .slice ae es.length ke] 37)) := (Below.refl _ _).alloc (Nat.le_refl _) _
        have b8' := b8.trans (bP.mono b8.size)
        have F9 := hd9 (F7.out.below b8')
        have B9 := hd9 (B7.out.trans (b8'.mono B7.out.size))
        have X9 := hd9 (boxed_below b8' X7.out)
        have Y9 := hd9 (boxed_below b8' Y7.out)
        have Q9 := hd9 (Q7.out.below b8')
        have G9 := hd9 ((b8'.block gq (Array.getElem?_eq_some_iff.1 G7.out).1).trans G7.out)
        have P9 := hd9 (St.new w8 #[.int .i64 c, .int .i64 i, .slice an L.length kn, .int .i64 zz, .slice ae es.length ke] 37)
        have E9 := hd9 (oe.below bP)
        have hQP : QX < w8.heap.size := Nat.lt_of_lt_of_le Y7.out.lt b8.size
        clear bP b8' b8 on oe F7 B7 X7 Y7 Q7 G7 R7 x7 y7
        go_upto_region 15 with fail
        generalize w8.alloc (.cells #[.int .i64 c, .int .i64 i, .slice an L.length kn, .int .i64 zz, .slice ae es.length ke] 37) = w9 at *
        generalize w8.heap.size = PX at *
        by_cases hc0 : c = 0
        case neg =>
          have p0 := P9.out.cl 0 _ rfl
          go_wp2_with fail
          exact ⟨⟨k + 1, m, gt, ct, ar, cr, Ts, Rs, ut, ur, by go_num, by omega, by omega, rfl, rfl, HR, HC, F9, B9⟩, by simp [intOf]; omega⟩
        case pos =>
        subst hc0
        obtain ⟨HC2, hzz, hokx⟩ := HCM.out rfl
        have HC3 := hd9 HC2
        have HOK := hd9 hokx
        replace hzz : zz = 101 + (m : Int) := hzz
        subst hzz
        clear HCM HC2 hokx
        have p0 := P9.out.cl 0 _ rfl
        have y9 := Y9.out.cell
        obtain ⟨iq, hiq, hq0, hqs, hqb⟩ := info_parts Tryz.infoRq9
        obtain ⟨it, hit, ht0, hts, htb⟩ := info_parts Tryz.infoTr9
        have r9 := hd9 F9.out.r
        rw [HR.out] at r9
        have hAR : ∀ g, (Value.slice ar m cr).ownBlock = some g → g < TX := hARX
        go_wp2_with (at_builtin; go_must (refine wpList_append_lies _ rfl _ _ 55 rfl lo 28 iq (.agg #[.slice none 0 0]) 1 24 Tryz.underlying55 hiq hq0 hqs hqb rfl (by decide) _ _ _ rfl (r9.out.alloc _) ⟨w9.heap.size, 0, none⟩ 1 1 [.slice (some ⟨gq, 0, none⟩) oq.length oq.length] rfl rfl (cell_one_new _ _ _) (by intro u hu; simp at hu; subst hu; rfl) (by decide) ?c3 ?c4 ?c5 _ rfl ?_))
        case c3 => unfold maxLen; omega
        case c4 => omega
        case c5 => have := F9.out.t.lt gt rfl; simp; omega
        intro g10 k10 w10 ho10 hg10 hat10 hlt10
        have bA : Below w9.heap.size w9 (w9.alloc (.cells #[.slice (some ⟨gq, 0, none⟩) oq.length oq.length] 28)) := (Below.refl _ _).alloc (Nat.le_refl _) _
        have tyQ : Ty9 lo 40 (w9.alloc (.cells #[.slice (some ⟨gq, 0, none⟩) oq.length oq.length] 28)) (.slice (some ⟨gq, 0, none⟩) oq.length oq.length) := Ty9.below (W := w9) (fun a n c e => by
          injection e with e
          injection e with e
          subst e
          exact ⟨(Array.getElem?_eq_some_iff.1 G9.out).1, .inr ⟨_, G9.out⟩⟩) bA
        have F10 := hd9 ((F9.out.below bA).addR (Q9.out.below bA) tyQ HSZ.out (by rw [HR.out]; exact ho10) hg10)
        have P10 := hd9 (st_grown (P9.out.below bA) hg10 (fun g e => by have := hAR g e; omega))
        have X10 := hd9 (boxed_grown (boxed_below bA X9.out) hg10 (fun g e => hAR g e))
        have E10 : Hid (OwnE 59 w10 w7.heap.size (.slice ae es.length ke) es) := (E9.out.below bA).kept hg10 (own_ne (E9.out.below bA) (r9.out.alloc _) (by decide))
        have B10 : Hid (Below w.heap.size w w10) := (B9.out.trans (bA.mono B9.out.size)).grown hg10 (by have := bA.size; have := B9.out.size; omega) (fun q hq => by have := (r9.out.lt q hq).1; omega)
        clear bA tyQ ho10 hg10 hat10 F9 Q9 P9 X9 E9 B9 Y9 y9 p0 r9 G9
        have R10 := (F10.out.tr m (by rw [HC.out.n, HR.out]; omega)).1
        rw [hT, HX.out] at R10
        have RR := hd9 R10
        have x10 := X10.out.cell
        have p3 := P10.out.cl 3 _ rfl
        have p4 := P10.out.cl 4 _ rfl
        clear R10
        go_wp2_with fail
        refine (specApply_any w10 _ T _ _ es RR.out E10.out.rd (by omega) (snd_szs HST.out) (okTxn_szs HOK.out)).mono ?_
        rintro e w11 ⟨v11, rfl, on11, b11⟩
        obtain ⟨a11, k11, hv11⟩ := on11.slice
        subst hv11
        have F11 := hd9 (F10.out.below b11)
        have B11 := hd9 (B10.out.trans (b11.mono B10.out.size))
        have O11 := hd9 on11
        have t11 := hd9 F11.out.t
        have hTn : Ts.length = m + 1 := by rw [HC.out.n, HR.out]
        rw [hTn] at t11
        have HTn := hd9 hTn
        clear b11 on11 F10 B10 P10 X10 E10 x10 p3 p4 RR hTn
        generalize resA T (101 + (m : Int)) es = T2 at *
        go_wp2_with (at_builtin; go_must (refine wpList_append_lies _ rfl _ _ 54 rfl lo 25 it (.agg #[.slice none 0 0]) 1 24 Tryz.underlying54 hit ht0 hts htb rfl (by decide) _ _ _ rfl (t11.out.alloc _) ⟨w11.heap.size, 0, none⟩ 1 1 [.slice a11 T2.length k11] rfl rfl (cell_one_new _ _ _) (by intro u hu; simp at hu; subst hu; rfl) (by decide) ?c3 ?c4 ?c5 _ rfl ?_))
        case c3 => unfold maxLen; omega
        case c4 => omega
        case c5 => have := F11.out.t.lt gt rfl; simp; omega
        intro g12 k12 w12 ho12 hg12 hat12 hlt12
        have bA : Below w11.heap.size w11 (w11.alloc (.cells #[.slice a11 T2.length k11] 25)) := (Below.refl _ _).alloc (Nat.le_refl _) _
        have F12 := hd9 ((F11.out.below bA).addT (O11.out.below bA).rd (Ty9.own (O11.out.below bA)) (by rw [HTn.out]; exact ho12) hg12)
        have B12 : Hid (Below w.heap.size w w12) := (B11.out.trans (bA.mono B11.out.size)).grown hg12 (by have := bA.size; have := B11.out.size; omega) (fun q hq => by have := (t11.out.lt q hq).1; omega)
        clear bA ho12 hg12 hat12 F11 B11 O11 t11
        go_wp2_with fail
        exact ⟨⟨k + 1, m + 1, g12, k12, some ⟨g10, 0, none⟩, k10, _, Rs ++ [oq], _, _, by go_num, by omega, by omega, rfl, rfl, by show (Rs ++ [oq]).length = _; rw [List.length_append, HR.out]; rfl, HC3, F12, B12⟩, by simp [intOf]; omega⟩
      · have hkn : k = 8 := by omega
        subst hkn
        go_wp2_with fail
        go_meet
        exact ⟨m, gt, ct, ar, cr, Ts, Rs, ut, ur, by omega, rfl, rfl, HR, HC, HF, HB⟩
  case rest =>
  obtain ⟨m, gt, ct, ar, cr, Ts, Rs, ut, ur, hm8, rfl, rfl, HR, HC, HF, HB⟩ := hcut
  clear HLR F0 C0 B4
  generalize hwc : wc = w5 at *
  clear hwc
  have hRT : ∀ g, (Value.slice (some ⟨gt, 0, none⟩) (m + 1) ct).ownBlock = some g ∨ (Value.slice ar m cr).ownBlock = some g → g < w5.heap.size := fun g e => by
    rcases e with e | e
    · exact (HF.out.t.lt g e).2
    · exact (HF.out.r.lt g e).2
  have hlo5 : lo ≤ w5.heap.size := by have := HF.out.t.lt gt rfl; omega
  have b6 : Below w5.heap.size w5 (w5.alloc (.cells #[.slice none 0 0] 25)) := (Below.refl _ _).alloc (Nat.le_refl _) _
  have D6 : Hid (F2 w lo w5.heap.size (.slice (some ⟨gt, 0, none⟩) (m + 1) ct) (.slice ar m cr) ut ur Ts Rs (.slice none 0 0) [] (w5.alloc (.cells #[.slice none 0 0] 25))) := ⟨HF.out.below b6, Boxed.new _ _ _, World.ownsRow_nil _ _ _ _, HB.out.trans (b6.mono HB.out.size)⟩
  have M6 := hd9 (Mxd.nil Ts)
  clear b6 HF HB
  go_wp2_with fail
  generalize w5.alloc (.cells #[.slice none 0 0] 25) = w6 at *
  generalize w5.heap.size = FX at *
  go_loopw [16] (fun v16 wr => ∃ (k : Nat) (F : List Nd) (af : Option Addr) (cf : Nat), v16 = .int .i64 (k : Int) ∧ k ≤ m + 1 ∧ Hid (F2 w lo FX (.slice (some ⟨gt, 0, none⟩) (m + 1) ct) (.slice ar m cr) ut ur Ts Rs (.slice af F.length cf) F wr) ∧ Hid (Mxd Ts F) ∧ Hid (0 < k → ∀ x ∈ Ts.getD 0 [], Dn Ts F x.path)) (fun i _ => m + 1 - (intOf i).toNat)
  case atStart => exact ⟨0, [], none, 0, rfl, by omega, D6, M6, fun h9 => absurd h9 (Nat.lt_irrefl _)⟩
  case round =>
    obtain ⟨k, F, af, cf, rfl, hk, HD, HM2, HDn⟩ := hrel
    clear D6 M6
    by_cases hlt : k ≤ m
    · have hltI : (k : Int) ≤ (m : Int) := by omega
      have hTn : Ts.length = m + 1 := by rw [HC.out.n, HR.out]
      have hSk := HC.out.snd k (by omega)
      have HTn := hd9 hTn
      clear hTn
      generalize hT : Ts.getD k [] = T at *
      have hTl : T.length ≤ 1000 := hSk.2.2
      have HSk := hd9 hSk
      clear hSk
      go_wp2_with fail
      go_loopw [17] (fun v17 wx => ∃ (i : Nat) (F : List Nd) (af : Option Addr) (cf : Nat), v17 = .int .i64 (i : Int) ∧ i ≤ T.length ∧ Hid (F2 w lo FX (.slice (some ⟨gt, 0, none⟩) (m + 1) ct) (.slice ar m cr) ut ur Ts Rs (.slice af F.length cf) F wx) ∧ Hid (Mxd Ts F) ∧ Hid (0 < k → ∀ x ∈ Ts.getD 0 [], Dn Ts F x.path) ∧ Hid (∀ j, j < i → Dn Ts F (nAt T j).path)) (fun i _ => T.length - (intOf i).toNat)
      case atStart => exact ⟨0, F, af, cf, rfl, Nat.zero_le _, HD, HM2, HDn, fun j hj => absurd hj (Nat.not_lt_zero _)⟩
      case round =>
        clear HD HM2 HDn
        rename_i wx
        obtain ⟨i, F, af, cf, rfl, hi, HD, HM2, HDn, HDi⟩ := hrel
        obtain ⟨ax, cx, hx, hc, HT⟩ : ∃ ax cx, Hid (ut.getD k (.slice none 0 0) = .slice ax T.length cx) ∧ wr.cell? ⟨gt, k, none⟩ = some (.slice ax T.length cx) ∧ Hid (RdN wr (.slice ax T.length cx) T) := by
          obtain ⟨g, cap, e, -, -, -, -, h9⟩ := HD.out.f1.cellT (by rw [HTn.out]; omega)
          injection e with e1 e2 e3
          injection e1 with e1
          injection e1 with e1
          subst e1
          have h8 := (HD.out.f1.tr k (by rw [HTn.out]; omega)).1
          rw [hT] at h8
          obtain ⟨ax, cx, hx, -, -⟩ := h8.len
          have h7 := h9 k (by rw [HTn.out]; omega)
          rw [hx] at h7 h8
          exact ⟨ax, cx, hx, h7, h8⟩
        by_cases hlt2 : i < T.length
        · have hltJ : (i : Int) < (T.length : Int) := by omega
          obtain ⟨tb, tf, rfl, k0⟩ : ∃ tb tf, ax = some ⟨tb, tf, none⟩ ∧ wr.cell? ⟨tb, tf + i * 7, none⟩ = some (.string (nAt T i).path) := by
            obtain ⟨ao, cap, e, -, -, h3⟩ := HT.out
            rcases h3 with h3 | ⟨b', off', e', -, hcc⟩
            · rw [h3] at hlt2; simp at hlt2
            · injection e with e1
              subst e1
              exact ⟨b', off', e', (hcc i hlt2).1⟩
          have f0 := HD.out.box.cell
          have hF6 := (HM2.out.snd HC.out (by rw [HR.out]; exact hm8)).2
          go_wp2_with fail
          refine (lwFind_any wr _ F _ HD.out.own.rd (by omega)).mono ?_
          rintro e w7 ⟨rfl, b7⟩
          have D7 := hd9 (HD.out.later b7)
          have hc7 : w7.cell? ⟨gt, k, none⟩ = some (.slice (some ⟨tb, tf, none⟩) T.length cx) := (b7.cell (p := ⟨gt, k, none⟩) (HD.out.f1.t.lt gt rfl).2).trans hc
          have HT7 := hd9 (HT.out.below b7)
          clear hc k0 HD f0 HT b7
          have HNX : Hid (∀ F' : List Nd, (∀ q, Dn Ts F q → Dn Ts F' q) → Dn Ts F' (nAt T i).path → (∀ j, j < i + 1 → Dn Ts F' (nAt T j).path) ∧ (0 < k → ∀ x ∈ Ts.getD 0 [], Dn Ts F' x.path)) := fun F' h1 h2 => ⟨fun j hj => by
            by_cases e : j < i
            · exact h1 _ (HDi.out j e)
            · rw [show j = i by omega]; exact h2, fun h0 x hx => h1 _ (HDn.out h0 x hx)⟩
          rcases fdV_split F (nAt T i).path with ⟨hf, hno⟩ | ⟨jf, hjf, hf, hfm, hfp⟩
          case inr =>
            rw [hf]
            obtain ⟨h1, h2⟩ := HNX.out F (fun _ h => h) (.inl ⟨_, hfm, hfp⟩)
            have H1 := hd9 h1
            have H2 := hd9 h2
            clear hf hfm hfp h1 h2 HNX HDi HDn
            have hjI : (0 : Int) ≤ (jf : Int) := by omega
            go_wp2_with fail
            exact ⟨⟨i + 1, F, af, cf, by go_num, by omega, D7, HM2, H2, H1⟩, by simp [intOf]; omega⟩
          case inl =>
          rw [hf]
          have HNO := hd9 hno
          have hnd := HSk.out.2.1 _ (show nAt T i ∈ T by rw [nAt_get hlt2]; exact List.getElem_mem hlt2)
          have hp1 := (okPath_head (okNd_path hnd)).1
          have hp2 := (okNd_all hnd).1
          clear hno hf hnd
          generalize (nAt T i).path = p at *
          obtain ⟨q, hq⟩ : ∃ q, p.size = q + 1 := ⟨p.size - 1, by omega⟩
          have hqI : (p.size : Int) = (q : Int) + 1 := by omega
          have hqs : q < p.size := by omega
          have hb1 : p[q].toNat < 256 := p[q].toNat_lt
          have HW : Hid (wrap64 (((q : Int) + 1) * 5 + wrap64 ((p[q].toNat : Nat) : Int)) = (((q + 1) * 5 + p[q].toNat : Nat) : Int)) := by
            show _ = _
            clear HNX HNO
            generalize p[q].toNat = y at *
            rw [IntWalk.wrap64_in (y : Int) ⟨by omega, by omega⟩, IntWalk.wrap64_in _ ⟨by omega, by omega⟩]
            omega
          have HA := hd9 (lwAt_any w7 _ ms ((q + 1) * 5 + p[q].toNat) (m + 1) (HM.out.below D7.out.bel) HBM.out (by omega) (by omega) (by omega))
          clear hb1
          go_wp2_with fail
          rw [HW.out]
          refine HA.out.mono ?_
          rintro e w8 ⟨r, rfl, hr, b8⟩
          replace hr := hr (by omega)
          have D8 := hd9 (D7.out.later b8)
          have hrT : r < Ts.length := by rw [HTn.out]; omega
          obtain ⟨a9, c9, -, hc9, HT9⟩ := D8.out.f1.tree hrT
          have HS9 := hd9 (HC.out.snd r hrT)
          have HRT := hd9 hrT
          have b9 : Below w8.heap.size w8 (w8.alloc (.cells #[.slice a9 (Ts.getD r []).length c9] 25)) := (Below.refl _ _).alloc (Nat.le_refl _) _
          have D9 := hd9 (D8.out.later b9)
          have P9 : Hid (Pk w8.heap.size (.slice a9 (Ts.getD r []).length c9) (Ts.getD r []) (w8.alloc (.cells #[.slice a9 (Ts.getD r []).length c9] 25))) := ⟨Boxed.new _ _ _, HT9.below b9⟩
          have hrI : (r : Int) < (m : Int) + 1 := by omega
          have hXF : FX < w8.heap.size := D8.out.box.lt
          clear b8 b9 HT9 hrT D7 D8 HA HW hc7 HT7
          generalize hP : Ts.getD r [] = P at *
          have HP := hd9 hP
          clear hP
          have hP9 : P.length ≤ 1000 := HS9.out.2.2
          go_wp2_with fail
          generalize w8.alloc (.cells #[.slice a9 P.length c9] 25) = w9 at *
          generalize w8.heap.size = XB at *
          clear hc9
          refine (lwFind_any w9 _ P p P9.out.rd (by omega)).mono ?_
          rintro e w10 ⟨rfl, b10⟩
          replace D9 := hd9 (D9.out.later b10)
          replace P9 := hd9 (P9.out.later b10)
          clear b10
          rcases fdV_split P p with ⟨hf, hno⟩ | ⟨jf, hjf, hf, hfm, hfp⟩
          case inl =>
            rw [hf]
            obtain ⟨h1, h2⟩ := HNX.out F (fun _ h => h) (.inr ⟨r, HRT.out, by rw [HP.out]; exact hno⟩)
            have H1 := hd9 h1
            have H2 := hd9 h2
            clear hf hno h1 h2 HNX HDi HDn
            go_wp2_with fail
            exact ⟨⟨i + 1, F, af, cf, by go_num, by omega, D9, HM2, H2, H1⟩, by simp [intOf]; omega⟩
          case inr =>
          rw [hf]
          obtain ⟨pb, po, rfl⟩ : ∃ pb po, a9 = some ⟨pb, po, none⟩ := by
            obtain ⟨ao, cap, e, -, -, h3⟩ := P9.out.rd
            rcases h3 with h3 | ⟨b', off', e', -, -⟩
            · rw [h3] at hjf; simp at hjf
            · injection e with e1
              exact ⟨b', off', e1.trans e'⟩
          have hjI : (0 : Int) ≤ (jf : Int) := by omega
          have hjJ : (jf : Int) < (P.length : Int) := by omega
          have hFS := HM2.out.snd HC.out (by rw [HR.out]; exact hm8)
          have hRE := resA_one hFS.1 (HS9.out.2.1 _ hfm)
          have HRE := hd9 hRE
          have HFS := hd9 hFS.1
          have hFl : F.length ≤ 600 := hFS.2
          have HM3 := hd9 (HM2.out.put HRT.out (by rw [HP.out]; exact hfm))
          obtain ⟨h1, h2⟩ := HNX.out (wiN F (nAt P jf)) (fun q h => h.put HM2.out.asc _) (hfp ▸ Dn.self Ts HM2.out.asc _)
          have H1 := hd9 h1
          have H2 := hd9 h2
          have HJF := hd9 hjf
          clear hf hfm hfp h1 h2 HNX HDi HDn HNO hRE hFS hjf HM2
          go_wp2_with fail
          have bD : Below w10.heap.size w10 w10.drew := below_drewN' w10 1
          refine wp_region_held_drew (S := fun W => Pk XB (.slice (some ⟨pb, po, none⟩) P.length c9) P W) (by kernel_rfl) (P9.out.later bD) (fun hHeld => ?_)
          replace D9 := hd9 (D9.out.later bD)
          clear bD P9
          generalize w10.drew = m0 at *
          refine wpAnyH_take (i := 1) (oi := { dst := some 155, op := _, type := _, pos := _, after := _, guard := _ }) (v := (.pointer (some ⟨XB, 0, none⟩))) rfl (by kernel_rfl) (by kernel_rfl) (by kernel_rfl) (fun _ _ _ h => h) (Or.inl ⟨by rfl, fun w9 hS9 => by (clear hS9; go_simp; try with_reducible rfl)⟩) (by assumption) ?_
          try simp only [Act.put, List.setIfInBounds_toArray, List.set_cons_zero, List.set_cons_succ]
          refine wpAnyH_take (i := 2) (oi := { dst := some 156, op := _, type := _, pos := _, after := _, guard := _ }) (v := (.slice (some ⟨pb, po, none⟩) P.length c9)) rfl (by kernel_rfl) (by kernel_rfl) (by kernel_rfl) (fun _ _ _ h => h) (Or.inl ⟨by rfl, fun w9 hS9 => by (have h9 := hS9.box.cell; clear hS9; go_simp; try with_reducible rfl)⟩) (by assumption) ?_
          try simp only [Act.put, List.setIfInBounds_toArray, List.set_cons_zero, List.set_cons_succ]
          refine wpAnyH_take (i := 3) (oi := { dst := some 157, op := _, type := _, pos := _, after := _, guard := _ }) (v := (.int .i64 (jf : Int))) rfl (by kernel_rfl) (by kernel_rfl) (by kernel_rfl) (fun _ _ _ h => h) (Or.inl ⟨by rfl, fun w9 hS9 => by (clear hS9; go_simp; try with_reducible rfl)⟩) (by assumption) ?_
          try simp only [Act.put, List.setIfInBounds_toArray, List.set_cons_zero, List.set_cons_succ]
          refine wpAnyH_take (i := 4) (oi := { dst := some 158, op := _, type := _, pos := _, after := _, guard := _ }) (v := (.pointer (some ⟨pb, po + jf * 7, none⟩))) rfl (by kernel_rfl) (by kernel_rfl) (by kernel_rfl) (fun _ _ _ h => h) (Or.inl ⟨by rfl, fun w9 hS9 => by (clear hS9; go_simp; try with_reducible rfl)⟩) (by assumption) ?_
          try simp only [Act.put, List.setIfInBounds_toArray, List.set_cons_zero, List.set_cons_succ]
          refine wpAnyH_take (i := 5) (oi := { dst := some 159, op := _, type := _, pos := _, after := _, guard := _ }) (v := (.agg #[.string (nAt P jf).path, .string (nAt P jf).data, .int .i64 (nAt P jf).ver, .int .i64 (nAt P jf).cver, .int .i64 (nAt P jf).cz, .int .i64 (nAt P jf).mz, .int .i64 (nAt P jf).pz])) rfl (by kernel_rfl) (by kernel_rfl) (by kernel_rfl) (fun _ _ _ h => h) (Or.inl ⟨by rfl, fun w9 hS9 => by (obtain ⟨k0, k1, k2, k3, k4, k5, k6⟩ := rdN_at9 hS9.rd HJF.out; clear hS9; go_simp; try with_reducible rfl)⟩) (by assumption) ?_
          try simp only [Act.put, List.setIfInBounds_toArray, List.set_cons_zero, List.set_cons_succ]
          refine wpAnyH_take (i := 6) (oi := { dst := some 160, op := _, type := _, pos := _, after := _, guard := _ }) (v := (.agg #[.bool false, .string (nAt P jf).path, .string (nAt P jf).data, .int .i64 (nAt P jf).ver, .int .i64 (nAt P jf).cver, .int .i64 (nAt P jf).cz, .int .i64 (nAt P jf).mz, .int .i64 (nAt P jf).pz])) rfl (by kernel_rfl) (by kernel_rfl) (by kernel_rfl) (fun _ _ _ h => h) (Or.inl ⟨by rfl, fun w9 hS9 => by (clear hS9; go_simp; try with_reducible rfl)⟩) (by assumption) ?_
          try simp only [Act.put, List.setIfInBounds_toArray, List.set_cons_zero, List.set_cons_succ]
          generalize nAt P jf = n9 at *
          refine wpAnyH_ready (rs := [0, 7]) (by kernel_rfl) (by simp) ?_
          refine (AllReadyH.cons (o := { dst := some 154, op := _, type := _, pos := _, after := _, guard := _ }) rfl (fun K hK => ?_) (AllReadyH.cons (o := { dst := some 161, op := _, type := _, pos := _, after := _, guard := _ }) rfl (fun K hK => ?_) AllReadyH.nil))
          · have f0 := D9.out.box.cell
            go_simp
            refine hK.out _ _ (hHeld) (fun hx9 => ?_)
            clear hK K hHeld
            have hHeld := hx9
            clear hx9 f0
            try simp only [Act.put, List.setIfInBounds_toArray, List.set_cons_zero, List.set_cons_succ]
            refine wpAnyH_ready (rs := [7]) (by kernel_rfl) (by simp) ?_
            refine AllReadyH.cons (o := { dst := some 161, op := _, type := _, pos := _, after := _, guard := _ }) rfl (fun K hK => ?_) AllReadyH.nil
            have bN : Below m0.heap.size m0 (m0.alloc (.cells #[.bool false, .string n9.path, .string n9.data, .int .i64 n9.ver, .int .i64 n9.cver, .int .i64 n9.cz, .int .i64 n9.mz, .int .i64 n9.pz] 59)) := (Below.refl _ _).alloc (Nat.le_refl _) _
            have RE := hd9 (rdE_one9 (n := n9) (heap_alloc_new m0 (.cells #[.bool false, .string n9.path, .string n9.data, .int .i64 n9.ver, .int .i64 n9.cver, .int .i64 n9.cz, .int .i64 n9.mz, .int .i64 n9.pz] 59)) rfl)
            have H9 := hHeld.later bN
            replace D9 := hd9 (D9.out.later bN)
            go_simp
            refine hK.out _ _ (H9) (fun hx9 => ?_)
            clear hK K hHeld
            have hHeld := hx9
            clear hx9 H9 bN
            try simp only [Act.put, List.setIfInBounds_toArray, List.set_cons_zero, List.set_cons_succ]
            generalize m0.alloc (.cells #[.bool false, .string n9.path, .string n9.data, .int .i64 n9.ver, .int .i64 n9.cver, .int .i64 n9.cz, .int .i64 n9.mz, .int .i64 n9.pz] 59) = m1 at *
            generalize m0.heap.size = EB at *
            refine wpAnyH_take (i := 8) (oi := { dst := some 162, op := _, type := _, pos := _, after := _, guard := _ }) (v := (.agg #[.int .i64 1, .slice (some ⟨EB, 0, none⟩) 1 1])) rfl (by kernel_rfl) (by kernel_rfl) (by kernel_rfl) (fun _ _ _ h => h) (Or.inl ⟨by rfl, fun w9 hS9 => by (clear hS9; go_simp; try with_reducible rfl)⟩) (by assumption) ?_
            try simp only [Act.put, List.setIfInBounds_toArray, List.set_cons_zero, List.set_cons_succ]
            refine wpAnyH_ready (rs := [9]) (by kernel_rfl) (by simp) ?_
            refine AllReadyH.cons (o := { dst := some 163, op := _, type := _, pos := _, after := _, guard := _ }) rfl (fun K hK => ?_) AllReadyH.nil
            go_simp
            refine (specApply_any m1 _ F 1 _ [⟨false, n9⟩] D9.out.own.rd RE.out (by omega) (snd_szs HFS.out) (okTxn_szs HRE.out.2)).mono ?_
            rintro e m3 ⟨v3, rfl, o3, b3⟩
            rw [HRE.out.1] at o3
            obtain ⟨a3, k3, hv3⟩ := OwnN.slice9 o3
            subst hv3
            have hs3 := D9.out.box.lt
            have O3 := hd9 (OwnN.mono o3 (lo' := FX) (by omega))
            have H9 := hHeld.later b3
            replace D9 := hd9 (D9.out.later b3)
            refine hK.out _ _ (H9) (fun hx9 => ?_)
            clear hK K hHeld
            have hHeld := hx9
            clear hx9 H9 b3 o3 hs3 RE
            try simp only [Act.put, List.setIfInBounds_toArray, List.set_cons_zero, List.set_cons_succ]
            refine wpAnyH_ready (rs := [10]) (by kernel_rfl) (by simp) ?_
            refine AllReadyH.cons (o := { dst := none, op := _, type := _, pos := _, after := _, guard := _ }) rfl (fun K hK => ?_) AllReadyH.nil
            have y0 := D9.out.box.cell
            have y1 := D9.out.box.frozen
            go_simp
            refine hK.out _ _ (hHeld.store D9.out.box (by omega) _) (fun hx9 => ?_)
            clear hK K hHeld
            have hHeld := hx9
            clear hx9 y0 y1
            try simp only [Act.put, List.setIfInBounds_toArray, List.set_cons_zero, List.set_cons_succ]
            refine wpAnyH_done (by kernel_rfl) ?_ _
            clear hHeld
            replace D9 := hd9 (D9.out.store (by omega) hlo hRT O3.out)
            clear O3
            generalize m3.setCell ⟨FX, 0, none⟩ (.slice a3 (wiN F n9).length k3) = m4 at *
            go_wp2_with fail
            exact ⟨⟨i + 1, wiN F n9, a3, k3, by go_num, by omega, D9, HM3, H2, H1⟩, by simp [intOf]; omega⟩
          · have bN : Below m0.heap.size m0 (m0.alloc (.cells #[.bool false, .string n9.path, .string n9.data, .int .i64 n9.ver, .int .i64 n9.cver, .int .i64 n9.cz, .int .i64 n9.mz, .int .i64 n9.pz] 59)) := (Below.refl _ _).alloc (Nat.le_refl _) _
            have RE := hd9 (rdE_one9 (n := n9) (heap_alloc_new m0 (.cells #[.bool false, .string n9.path, .string n9.data, .int .i64 n9.ver, .int .i64 n9.cver, .int .i64 n9.cz, .int .i64 n9.mz, .int .i64 n9.pz] 59)) rfl)
            have H9 := hHeld.later bN
            replace D9 := hd9 (D9.out.later bN)
            go_simp
            refine hK.out _ _ (H9) (fun hx9 => ?_)
            clear hK K hHeld
            have hHeld := hx9
            clear hx9 H9 bN
            try simp only [Act.put, List.setIfInBounds_toArray, List.set_cons_zero, List.set_cons_succ]
            generalize m0.alloc (.cells #[.bool false, .string n9.path, .string n9.data, .int .i64 n9.ver, .int .i64 n9.cver, .int .i64 n9.cz, .int .i64 n9.mz, .int .i64 n9.pz] 59) = m1 at *
            generalize m0.heap.size = EB at *
            refine wpAnyH_take (i := 8) (oi := { dst := some 162, op := _, type := _, pos := _, after := _, guard := _ }) (v := (.agg #[.int .i64 1, .slice (some ⟨EB, 0, none⟩) 1 1])) rfl (by kernel_rfl) (by kernel_rfl) (by kernel_rfl) (fun _ _ _ h => h) (Or.inl ⟨by rfl, fun w9 hS9 => by (clear hS9; go_simp; try with_reducible rfl)⟩) (by assumption) ?_
            try simp only [Act.put, List.setIfInBounds_toArray, List.set_cons_zero, List.set_cons_succ]
            refine wpAnyH_ready (rs := [0]) (by kernel_rfl) (by simp) ?_
            refine AllReadyH.cons (o := { dst := some 154, op := _, type := _, pos := _, after := _, guard := _ }) rfl (fun K hK => ?_) AllReadyH.nil
            have f0 := D9.out.box.cell
            go_simp
            refine hK.out _ _ (hHeld) (fun hx9 => ?_)
            clear hK K hHeld
            have hHeld := hx9
            clear hx9 f0
            try simp only [Act.put, List.setIfInBounds_toArray, List.set_cons_zero, List.set_cons_succ]
            refine wpAnyH_ready (rs := [9]) (by kernel_rfl) (by simp) ?_
            refine AllReadyH.cons (o := { dst := some 163, op := _, type := _, pos := _, after := _, guard := _ }) rfl (fun K hK => ?_) AllReadyH.nil
            go_simp
            refine (specApply_any m1 _ F 1 _ [⟨false, n9⟩] D9.out.own.rd RE.out (by omega) (snd_szs HFS.out) (okTxn_szs HRE.out.2)).mono ?_
            rintro e m3 ⟨v3, rfl, o3, b3⟩
            rw [HRE.out.1] at o3
            obtain ⟨a3, k3, hv3⟩ := OwnN.slice9 o3
            subst hv3
            have hs3 := D9.out.box.lt
            have O3 := hd9 (OwnN.mono o3 (lo' := FX) (by omega))
            have H9 := hHeld.later b3
            replace D9 := hd9 (D9.out.later b3)
            refine hK.out _ _ (H9) (fun hx9 => ?_)
            clear hK K hHeld
            have hHeld := hx9
            clear hx9 H9 b3 o3 hs3 RE
            try simp only [Act.put, List.setIfInBounds_toArray, List.set_cons_zero, List.set_cons_succ]
            refine wpAnyH_ready (rs := [10]) (by kernel_rfl) (by simp) ?_
            refine AllReadyH.cons (o := { dst := none, op := _, type := _, pos := _, after := _, guard := _ }) rfl (fun K hK => ?_) AllReadyH.nil
            have y0 := D9.out.box.cell
            have y1 := D9.out.box.frozen
            go_simp
            refine hK.out _ _ (hHeld.store D9.out.box (by omega) _) (fun hx9 => ?_)
            clear hK K hHeld
            have hHeld := hx9
            clear hx9 y0 y1
            try simp only [Act.put, List.setIfInBounds_toArray, List.set_cons_zero, List.set_cons_succ]
            refine wpAnyH_done (by kernel_rfl) ?_ _
            clear hHeld
            replace D9 := hd9 (D9.out.store (by omega) hlo hRT O3.out)
            clear O3
            generalize m3.setCell ⟨FX, 0, none⟩ (.slice a3 (wiN F n9).length k3) = m4 at *
            go_wp2_with fail
            exact ⟨⟨i + 1, wiN F n9, a3, k3, by go_num, by omega, D9, HM3, H2, H1⟩, by simp [intOf]; omega⟩
        · have hin : i = T.length := by omega
          subst hin
          have HN : Hid (0 < k + 1 → ∀ x ∈ Ts.getD 0 [], Dn Ts F x.path) := fun _ x hx9 => by
            by_cases hk0 : 0 < k
            · exact HDn.out hk0 x hx9
            · have hk00 : k = 0 := by omega
              subst hk00
              rw [hT] at hx9
              obtain ⟨j, hj, e9⟩ := List.getElem_of_mem hx9
              have := HDi.out j hj
              rw [nAt_get hj, e9] at this
              exact this
          go_wp2_with fail
          exact ⟨⟨k + 1, F, af, cf, by go_num, by omega, HD, HM2, HN⟩, by simp [intOf]; omega⟩
    · have hkm : ¬ (k : Int) ≤ (m : Int) := by omega
      have hk0 : 0 < k := by omega
      have f0 := HD.out.box.cell
      have hFX := HD.out.box.lt
      have HGL := hd9 (mixed_last HC.out HM2.out (HDn.out hk0))
      rw [HR.out] at HGL
      have HGS : Hid (∀ i, i ≤ m → Snd (fuz (tA Ts) F i)) := fun i hi => (fuz_snd HC.out (by rw [HR.out]; exact hm8) HM2.out i (by rw [HR.out]; exact hi)).1
      have HGN : Hid (∀ i, i < m → resA (fuz (tA Ts) F i) (101 + i) (prF (Ts.getD i []) (Rs.getD i []) (101 + i)).es = fuz (tA Ts) F (i + 1)) := fun i hi => fuz_next HC.out (by rw [HR.out]; exact hm8) HM2.out i (by rw [HR.out]; exact hi)
      have bG : Below wr.heap.size wr (wr.alloc (.cells #[.slice af F.length cf] 25)) := (Below.refl _ _).alloc (Nat.le_refl _) _
      have G0 : Hid (F3 w lo FX wr.heap.size (.slice (some ⟨gt, 0, none⟩) (m + 1) ct) (.slice ar m cr) ut ur Ts Rs (.slice af F.length cf) F (wr.alloc (.cells #[.slice af F.length cf] 25))) := ⟨HD.out.f1.below bG, Boxed.new _ _ _, HD.out.own.below bG, HD.out.bel.trans (bG.mono HD.out.bel.size)⟩
      clear bG HDn HD HM2
      go_wp2_with fail
      generalize wr.alloc (.cells #[.slice af F.length cf] 25) = w7 at *
      generalize wr.heap.size = GX at *
      have hRG : ∀ g, (Value.slice (some ⟨gt, 0, none⟩) (m + 1) ct).ownBlock = some g ∨ (Value.slice ar m cr).ownBlock = some g → g < GX := fun g e => by have := hRT g e; omega
      go_loopw [22] (fun v22 wx => ∃ (i : Nat) (G : List Nd) (ag : Option Addr) (cg : Nat), v22 = .int .i64 (i : Int) ∧ i ≤ m ∧ Hid (G = fuz (tA Ts) F i) ∧ Hid (F3 w lo FX GX (.slice (some ⟨gt, 0, none⟩) (m + 1) ct) (.slice ar m cr) ut ur Ts Rs (.slice ag G.length cg) G wx)) (fun i _ => m - (intOf i).toNat)
      case atStart => exact ⟨0, F, af, cf, rfl, Nat.zero_le _, rfl, G0⟩
      case round =>
        obtain ⟨i, G, ag, cg, rfl, hi, HG, D⟩ := hrel
        clear G0
        by_cases hlt : i < m
        case neg =>
          have hltI : ¬ (i : Int) < (m : Int) := by omega
          have him : i = m := by omega
          have hmT : m < Ts.length := by rw [HC.out.n, HR.out]; omega
          obtain ⟨ax, cx, hx, -, -⟩ := D.out.f1.tree hmT
          have HX : Hid (∀ W, F1 lo (.slice (some ⟨gt, 0, none⟩) (m + 1) ct) (.slice ar m cr) ut ur Ts Rs W → W.cell? ⟨gt, m, none⟩ = some (.slice ax (Ts.getD m []).length cx) ∧ RdN W (.slice ax (Ts.getD m []).length cx) (Ts.getD m [])) := fun W h => h.tree2 hmT hx
          have HST := hd9 (HC.out.snd m hmT)
          have hGT : G = Ts.getD m [] := by rw [HG.out, him]; exact HGL.out
          have hmI : (m : Int) < (m : Int) + 1 := by omega
          clear hx HG HGL HGN HGS hlt hmT
          generalize Ts.getD m [] = T at *
          subst hGT
          have hTl : G.length ≤ 1000 := HST.out.2.2
          have HVT : Hid (∀ W u, RdN W u G → Calls Tryz.prog 18 #[.agg #[u]] W fun e w' => e = .returned (.bool true) ∧ Below W.heap.size W w') := fun W u h2 => by
            have := implTree_any W _ G h2 (snd_szs HST.out)
            rwa [okTree_snd.2 HST.out] at this
          go_wp2_with fail
          have bD : Below wr.heap.size wr wr.drew := below_drewN' wr 1
          refine wp_region_held_drew (S := fun W => F3 w lo FX GX (.slice (some ⟨gt, 0, none⟩) (m + 1) ct) (.slice ar m cr) ut ur Ts Rs (.slice ag G.length cg) G W) (by kernel_rfl) (D.out.later bD) (fun hHeld => ?_)
          clear bD D
          generalize wr.drew = m0 at *
          refine wpAnyH_take (i := 0) (oi := { dst := some 184, op := _, type := _, pos := _, after := _, guard := _ }) (v := (.agg #[.slice ag G.length cg])) rfl (by kernel_rfl) (by kernel_rfl) (by kernel_rfl) (fun _ _ _ h => h) (Or.inl ⟨by rfl, fun w9 hS9 => by (have h9 := hS9.box.cell; clear hS9; go_simp; try with_reducible rfl)⟩) (by assumption) ?_
          try simp only [Act.put, List.setIfInBounds_toArray, List.set_cons_zero, List.set_cons_succ]
          refine wpAnyH_take (i := 1) (oi := { dst := some 185, op := _, type := _, pos := _, after := _, guard := _ }) (v := (.slice (some ⟨gt, 0, none⟩) (m + 1) ct)) rfl (by kernel_rfl) (by kernel_rfl) (by kernel_rfl) (fun _ _ _ h => h) (Or.inl ⟨by rfl, fun w9 hS9 => by (clear hS9; go_simp; try with_reducible rfl)⟩) (by assumption) ?_
          try simp only [Act.put, List.setIfInBounds_toArray, List.set_cons_zero, List.set_cons_succ]
          refine wpAnyH_take (i := 2) (oi := { dst := some 186, op := _, type := _, pos := _, after := _, guard := _ }) (v := (.int .i64 (m : Int))) rfl (by kernel_rfl) (by kernel_rfl) (by kernel_rfl) (fun _ _ _ h => h) (Or.inl ⟨by rfl, fun w9 hS9 => by (clear hS9; go_simp; try with_reducible rfl)⟩) (by assumption) ?_
          try simp only [Act.put, List.setIfInBounds_toArray, List.set_cons_zero, List.set_cons_succ]
          refine wpAnyH_take (i := 3) (oi := { dst := some 187, op := _, type := _, pos := _, after := _, guard := _ }) (v := (.pointer (some ⟨gt, m, none⟩))) rfl (by kernel_rfl) (by kernel_rfl) (by kernel_rfl) (fun _ _ _ h => h) (Or.inl ⟨by rfl, fun w9 hS9 => by (clear hS9; go_simp; try with_reducible rfl)⟩) (by assumption) ?_
          try simp only [Act.put, List.setIfInBounds_toArray, List.set_cons_zero, List.set_cons_succ]
          refine wpAnyH_take (i := 4) (oi := { dst := some 188, op := _, type := _, pos := _, after := _, guard := _ }) (v := (.agg #[.slice ax G.length cx])) rfl (by kernel_rfl) (by kernel_rfl) (by kernel_rfl) (fun _ _ _ h => h) (Or.inl ⟨by rfl, fun w9 hS9 => by (have h9 := (HX.out w9 hS9.f1).1; clear hS9; go_simp; try with_reducible rfl)⟩) (by assumption) ?_
          try simp only [Act.put, List.setIfInBounds_toArray, List.set_cons_zero, List.set_cons_succ]
          refine wpAnyH_ready (rs := [5]) (by kernel_rfl) (by simp) ?_
          refine AllReadyH.cons (o := { dst := some 189, op := _, type := _, pos := _, after := _, guard := _ }) rfl (fun K hK => ?_) AllReadyH.nil
          go_simp
          refine (sameTree_yes m0 _ _ G hHeld.own.rd (HX.out m0 hHeld.f1).2 (by omega)).mono ?_
          rintro e m1 ⟨rfl, b1⟩
          have H9 := hHeld.later b1
          refine hK.out _ _ (H9) (fun hx9 => ?_)
          clear hK K hHeld
          have hHeld := hx9
          clear hx9 H9 b1
          try simp only [Act.put, List.setIfInBounds_toArray, List.set_cons_zero, List.set_cons_succ]
          refine wpAnyH_take (i := 6) (oi := { dst := some 190, op := _, type := _, pos := _, after := _, guard := _ }) (v := (.bool true)) rfl (by kernel_rfl) (by kernel_rfl) (by kernel_rfl) (fun _ _ _ h => h) (Or.inl ⟨by rfl, fun w9 hS9 => by (clear hS9; go_simp; try with_reducible rfl)⟩) (by assumption) ?_
          try simp only [Act.put, List.setIfInBounds_toArray, List.set_cons_zero, List.set_cons_succ]
          refine wpAnyH_take (i := 7) (oi := { dst := some 191, op := _, type := _, pos := _, after := _, guard := _ }) (v := (.agg #[.slice ag G.length cg])) rfl (by kernel_rfl) (by kernel_rfl) (by kernel_rfl) (fun _ _ _ h => h) (Or.inl ⟨by rfl, fun w9 hS9 => by (have h9 := hS9.box.cell; clear hS9; go_simp; try with_reducible rfl)⟩) (by assumption) ?_
          try simp only [Act.put, List.setIfInBounds_toArray, List.set_cons_zero, List.set_cons_succ]
          refine wpAnyH_ready (rs := [8]) (by kernel_rfl) (by simp) ?_
          refine AllReadyH.cons (o := { dst := some 192, op := _, type := _, pos := _, after := _, guard := _ }) rfl (fun K hK => ?_) AllReadyH.nil
          go_simp
          refine (HVT.out m1 _ hHeld.own.rd).mono ?_
          rintro e m2 ⟨rfl, b2⟩
          have H9 := hHeld.later b2
          refine hK.out _ _ (H9) (fun hx9 => ?_)
          clear hK K hHeld
          have hHeld := hx9
          clear hx9 H9 b2
          try simp only [Act.put, List.setIfInBounds_toArray, List.set_cons_zero, List.set_cons_succ]
          refine wpAnyH_take (i := 9) (oi := { dst := some 193, op := _, type := _, pos := _, after := _, guard := _ }) (v := (.bool true)) rfl (by kernel_rfl) (by kernel_rfl) (by kernel_rfl) (fun _ _ _ h => h) (Or.inl ⟨by rfl, fun w9 hS9 => by (clear hS9; go_simp; try with_reducible rfl)⟩) (by assumption) ?_
          try simp only [Act.put, List.setIfInBounds_toArray, List.set_cons_zero, List.set_cons_succ]
          refine wpAnyH_take (i := 10) (oi := { dst := some 4, op := _, type := _, pos := _, after := _, guard := _ }) (v := (.bool true)) rfl (by kernel_rfl) (by kernel_rfl) (by kernel_rfl) (fun _ _ _ h => h) (Or.inl ⟨by rfl, fun w9 hS9 => by (clear hS9; go_simp; try with_reducible rfl)⟩) (by assumption) ?_
          try simp only [Act.put, List.setIfInBounds_toArray, List.set_cons_zero, List.set_cons_succ]
          refine wpAnyH_done (by kernel_rfl) ?_ _
          have HB := hd9 hHeld.bel
          clear hHeld
          go_wp2_with fail
          go_ret
          exact ⟨rfl, HB.out⟩
        case pos =>
          have hltI : (i : Int) < (m : Int) := by omega
          have hltJ : (i : Int) < (m : Int) + 1 := by omega
          have hiT : i < Ts.length := by rw [HC.out.n, HR.out]; omega
          have hiR : i < Rs.length := by rw [HR.out]; exact hlt
          obtain ⟨ax, cx, hx, -, -⟩ := D.out.f1.tree hiT
          obtain ⟨gr, aq, cq, har, hq⟩ := D.out.f1.req hiR
          subst har
          obtain ⟨-, hst⟩ := HC.out.step i hiR
          have HTS := hd9 (HC.out.snd i hiT)
          have HRZ := hd9 (D.out.f1.rr i hiR).2.2
          have HP : Hid (∀ W va vb, Below w.heap.size w W → RdN W va (Ts.getD i []) → RdO W vb (Rs.getD i []) → Calls Tryz.prog 8 #[.agg #[va], .agg #[vb], .int .i64 (101 + (i : Int))] W fun e w' => PA W (prF (Ts.getD i []) (Rs.getD i []) (101 + (i : Int))) e w') := fun W va vb h1 h2 h3 => HIG.out _ _ _ HTS.out HRZ.out W va vb h1 h2 h3
          have HX : Hid (∀ W, F1 lo (.slice (some ⟨gt, 0, none⟩) (m + 1) ct) (.slice (some ⟨gr, 0, none⟩) m cr) ut ur Ts Rs W → W.cell? ⟨gt, i, none⟩ = some (.slice ax (Ts.getD i []).length cx) ∧ RdN W (.slice ax (Ts.getD i []).length cx) (Ts.getD i [])) := fun W h => h.tree2 hiT hx
          have HQ : Hid (∀ W, F1 lo (.slice (some ⟨gt, 0, none⟩) (m + 1) ct) (.slice (some ⟨gr, 0, none⟩) m cr) ut ur Ts Rs W → W.cell? ⟨gr, i, none⟩ = some (.slice aq (Rs.getD i []).length cq) ∧ RdO W (.slice aq (Rs.getD i []).length cq) (Rs.getD i [])) := fun W h => h.req2 hiR hq
          have HGI := hd9 (HGN.out i hlt)
          have HGZ := hd9 (HGS.out i (by omega))
          rw [← HG.out] at HGI HGZ
          have HZZ := hd9 hst.zz
          have HOK := hd9 hst.ok
          clear hx hq hst HTS HRZ hiT hiR HGL
          generalize Ts.getD i [] = T at *
          generalize Rs.getD i [] = R at *
          generalize prF T R (101 + (i : Int)) = A1 at *
          obtain ⟨pc, pi, pz, pL, pes⟩ := A1
          obtain rfl : pz = 101 + (i : Int) := HZZ.out
          clear HZZ
          replace HGI : Hid (resA G (101 + (i : Int)) pes = fuz (tA Ts) F (i + 1)) := HGI
          replace HOK : Hid (okTxn (101 + (i : Int)) pes = true) := HOK
          clear HG
          go_wp2_with fail
          have bD : Below wr.heap.size wr wr.drew := below_drewN' wr 1
          refine wp_region_held_drew (S := fun W => F1 lo (.slice (some ⟨gt, 0, none⟩) (m + 1) ct) (.slice (some ⟨gr, 0, none⟩) m cr) ut ur Ts Rs W ∧ Below w.heap.size w W) (by kernel_rfl) ⟨(D.out.later bD).f1, (D.out.later bD).bel⟩ (fun hHeld => ?_)
          replace D := hd9 (D.out.later bD)
          clear bD
          generalize wr.drew = m0 at *
          refine wpAnyH_take (i := 1) (oi := { dst := some 171, op := _, type := _, pos := _, after := _, guard := _ }) (v := (.slice (some ⟨gt, 0, none⟩) (m + 1) ct)) rfl (by kernel_rfl) (by kernel_rfl) (by kernel_rfl) (fun _ _ _ h => h) (Or.inl ⟨by rfl, fun w9 hS9 => by (clear hS9; go_simp; try with_reducible rfl)⟩) (by assumption) ?_
          try simp only [Act.put, List.setIfInBounds_toArray, List.set_cons_zero, List.set_cons_succ]
          refine wpAnyH_take (i := 2) (oi := { dst := some 172, op := _, type := _, pos := _, after := _, guard := _ }) (v := (.int .i64 (i : Int))) rfl (by kernel_rfl) (by kernel_rfl) (by kernel_rfl) (fun _ _ _ h => h) (Or.inl ⟨by rfl, fun w9 hS9 => by (clear hS9; go_simp; try with_reducible rfl)⟩) (by assumption) ?_
          try simp only [Act.put, List.setIfInBounds_toArray, List.set_cons_zero, List.set_cons_succ]
          refine wpAnyH_take (i := 3) (oi := { dst := some 173, op := _, type := _, pos := _, after := _, guard := _ }) (v := (.pointer (some ⟨gt, i, none⟩))) rfl (by kernel_rfl) (by kernel_rfl) (by kernel_rfl) (fun _ _ _ h => h) (Or.inl ⟨by rfl, fun w9 hS9 => by (clear hS9; go_simp; try with_reducible rfl)⟩) (by assumption) ?_
          try simp only [Act.put, List.setIfInBounds_toArray, List.set_cons_zero, List.set_cons_succ]
          refine wpAnyH_take (i := 4) (oi := { dst := some 174, op := _, type := _, pos := _, after := _, guard := _ }) (v := (.agg #[.slice ax T.length cx])) rfl (by kernel_rfl) (by kernel_rfl) (by kernel_rfl) (fun _ _ _ h => h) (Or.inl ⟨by rfl, fun w9 hS9 => by (have h9 := (HX.out w9 hS9.1).1; clear hS9; go_simp; try with_reducible rfl)⟩) (by assumption) ?_
          try simp only [Act.put, List.setIfInBounds_toArray, List.set_cons_zero, List.set_cons_succ]
          refine wpAnyH_take (i := 5) (oi := { dst := some 175, op := _, type := _, pos := _, after := _, guard := _ }) (v := (.slice (some ⟨gr, 0, none⟩) m cr)) rfl (by kernel_rfl) (by kernel_rfl) (by kernel_rfl) (fun _ _ _ h => h) (Or.inl ⟨by rfl, fun w9 hS9 => by (clear hS9; go_simp; try with_reducible rfl)⟩) (by assumption) ?_
          try simp only [Act.put, List.setIfInBounds_toArray, List.set_cons_zero, List.set_cons_succ]
          refine wpAnyH_take (i := 6) (oi := { dst := some 176, op := _, type := _, pos := _, after := _, guard := _ }) (v := (.int .i64 (i : Int))) rfl (by kernel_rfl) (by kernel_rfl) (by kernel_rfl) (fun _ _ _ h => h) (Or.inl ⟨by rfl, fun w9 hS9 => by (clear hS9; go_simp; try with_reducible rfl)⟩) (by assumption) ?_
          try simp only [Act.put, List.setIfInBounds_toArray, List.set_cons_zero, List.set_cons_succ]
          refine wpAnyH_take (i := 7) (oi := { dst := some 177, op := _, type := _, pos := _, after := _, guard := _ }) (v := (.pointer (some ⟨gr, i, none⟩))) rfl (by kernel_rfl) (by kernel_rfl) (by kernel_rfl) (fun _ _ _ h => h) (Or.inl ⟨by rfl, fun w9 hS9 => by (clear hS9; go_simp; try with_reducible rfl)⟩) (by assumption) ?_
          try simp only [Act.put, List.setIfInBounds_toArray, List.set_cons_zero, List.set_cons_succ]
          refine wpAnyH_take (i := 8) (oi := { dst := some 178, op := _, type := _, pos := _, after := _, guard := _ }) (v := (.agg #[.slice aq R.length cq])) rfl (by kernel_rfl) (by kernel_rfl) (by kernel_rfl) (fun _ _ _ h => h) (Or.inl ⟨by rfl, fun w9 hS9 => by (have h9 := (HQ.out w9 hS9.1).1; clear hS9; go_simp; try with_reducible rfl)⟩) (by assumption) ?_
          try simp only [Act.put, List.setIfInBounds_toArray, List.set_cons_zero, List.set_cons_succ]
          refine wpAnyH_take (i := 9) (oi := { dst := some 179, op := _, type := _, pos := _, after := _, guard := _ }) (v := (.int .i64 (i : Int))) rfl (by kernel_rfl) (by kernel_rfl) (by kernel_rfl) (fun _ _ _ h => h) (Or.inl ⟨by rfl, fun w9 hS9 => by (clear hS9; go_simp; try with_reducible rfl)⟩) (by assumption) ?_
          try simp only [Act.put, List.setIfInBounds_toArray, List.set_cons_zero, List.set_cons_succ]
          refine wpAnyH_take (i := 10) (oi := { dst := some 180, op := _, type := _, pos := _, after := _, guard := _ }) (v := (.int .i64 (101 + (i : Int)))) rfl (by kernel_rfl) (by kernel_rfl) (by kernel_rfl) (fun _ _ _ h => h) (Or.inl ⟨by rfl, fun w9 hS9 => by (clear hS9; go_simp; exact IntWalk.i64_in _ ⟨by omega, by omega⟩)⟩) (by assumption) ?_
          try simp only [Act.put, List.setIfInBounds_toArray, List.set_cons_zero, List.set_cons_succ]
          refine wpAnyH_ready (rs := [0, 11]) (by kernel_rfl) (by simp) ?_
          refine (AllReadyH.cons (o := { dst := some 170, op := _, type := _, pos := _, after := _, guard := _ }) rfl (fun K hK => ?_) (AllReadyH.cons (o := { dst := some 181, op := _, type := _, pos := _, after := _, guard := _ }) rfl (fun K hK => ?_) AllReadyH.nil))
          · have f0 := D.out.box.cell
            go_simp
            refine hK.out _ _ (hHeld) (fun hx9 => ?_)
            clear hK K hHeld
            have hHeld := hx9
            clear hx9 f0
            try simp only [Act.put, List.setIfInBounds_toArray, List.set_cons_zero, List.set_cons_succ]
            refine wpAnyH_ready (rs := [11]) (by kernel_rfl) (by simp) ?_
            refine AllReadyH.cons (o := { dst := some 181, op := _, type := _, pos := _, after := _, guard := _ }) rfl (fun K hK => ?_) AllReadyH.nil
            go_simp
            refine (HP.out m0 _ _ hHeld.2 (HX.out m0 hHeld.1).2 (HQ.out m0 hHeld.1).2).mono ?_
            rintro e m1 ⟨vn, ve, rfl, on, oe, bN⟩
            obtain ⟨an, kn, hv⟩ := OwnS.slice on
            subst hv
            obtain ⟨ae, ke, hv⟩ := oe.slice
            subst hv
            have RE := hd9 oe.rd
            have H9 := And.intro (hHeld.1.below bN) (hHeld.2.trans (bN.mono hHeld.2.size))
            replace D := hd9 (D.out.later bN)
            refine hK.out _ _ (H9) (fun hx9 => ?_)
            clear hK K hHeld
            have hHeld := hx9
            clear hx9 H9 bN on oe
            try simp only [Act.put, List.setIfInBounds_toArray, List.set_cons_zero, List.set_cons_succ]
            refine wpAnyH_take (i := 12) (oi := { dst := some 182, op := _, type := _, pos := _, after := _, guard := _ }) (v := (.agg #[.int .i64 (101 + (i : Int)), .slice ae pes.length ke])) rfl (by kernel_rfl) (by kernel_rfl) (by kernel_rfl) (fun _ _ _ h => h) (Or.inl ⟨by rfl, fun w9 hS9 => by (have hf9 := fprep39 (.int .i64 pc) (.int .i64 pi) (.slice an pL.length kn) (.int .i64 (101 + (i : Int))) (.slice ae pes.length ke) w9; clear hS9; go_simp; try with_reducible rfl)⟩) (by assumption) ?_
            try simp only [Act.put, List.setIfInBounds_toArray, List.set_cons_zero, List.set_cons_succ]
            refine wpAnyH_ready (rs := [13]) (by kernel_rfl) (by simp) ?_
            refine AllReadyH.cons (o := { dst := some 183, op := _, type := _, pos := _, after := _, guard := _ }) rfl (fun K hK => ?_) AllReadyH.nil
            go_simp
            refine (implApply_any m1 _ G _ _ pes D.out.own.rd D.out.own.nilOk RE.out (snd_szs HGZ.out) (okTxn_szs HOK.out)).mono ?_
            rintro e m2 ⟨v2, rfl, o2, b2⟩
            rw [HGI.out] at o2
            obtain ⟨a2, k2, hv2⟩ := OwnN.slice9 o2
            subst hv2
            have hs2 := D.out.box.lt
            have O2 := hd9 (OwnN.mono o2 (lo' := FX) (by omega))
            have H9 := And.intro (hHeld.1.below b2) (hHeld.2.trans (b2.mono hHeld.2.size))
            replace D := hd9 (D.out.later b2)
            refine hK.out _ _ (H9) (fun hx9 => ?_)
            clear hK K hHeld
            have hHeld := hx9
            clear hx9 H9 b2 o2 hs2 RE
            try simp only [Act.put, List.setIfInBounds_toArray, List.set_cons_zero, List.set_cons_succ]
            refine wpAnyH_ready (rs := [14]) (by kernel_rfl) (by simp) ?_
            refine AllReadyH.cons (o := { dst := none, op := _, type := _, pos := _, after := _, guard := _ }) rfl (fun K hK => ?_) AllReadyH.nil
            have y0 := D.out.box.cell
            have y1 := D.out.box.frozen
            go_simp
            replace D := hd9 (D.out.store (by omega) hlo hRG O2.out)
            refine hK.out _ _ (And.intro D.out.f1 D.out.bel) (fun hx9 => ?_)
            clear hK K hHeld
            have hHeld := hx9
            clear hx9 y0 y1 O2
            try simp only [Act.put, List.setIfInBounds_toArray, List.set_cons_zero, List.set_cons_succ]
            refine wpAnyH_done (by kernel_rfl) ?_ _
            clear hHeld
            generalize m2.setCell ⟨GX, 0, none⟩ (.slice a2 (fuz (tA Ts) F (i + 1)).length k2) = m4 at *
            go_wp2_with fail
            exact ⟨⟨i + 1, fuz (tA Ts) F (i + 1), a2, k2, by go_num, by omega, rfl, D⟩, by simp [intOf]; omega⟩
          · go_simp
            refine (HP.out m0 _ _ hHeld.2 (HX.out m0 hHeld.1).2 (HQ.out m0 hHeld.1).2).mono ?_
            rintro e m1 ⟨vn, ve, rfl, on, oe, bN⟩
            obtain ⟨an, kn, hv⟩ := OwnS.slice on
            subst hv
            obtain ⟨ae, ke, hv⟩ := oe.slice
            subst hv
            have RE := hd9 oe.rd
            have H9 := And.intro (hHeld.1.below bN) (hHeld.2.trans (bN.mono hHeld.2.size))
            replace D := hd9 (D.out.later bN)
            refine hK.out _ _ (H9) (fun hx9 => ?_)
            clear hK K hHeld
            have hHeld := hx9
            clear hx9 H9 bN on oe
            try simp only [Act.put, List.setIfInBounds_toArray, List.set_cons_zero, List.set_cons_succ]
            refine wpAnyH_take (i := 12) (oi := { dst := some 182, op := _, type := _, pos := _, after := _, guard := _ }) (v := (.agg #[.int .i64 (101 + (i : Int)), .slice ae pes.length ke])) rfl (by kernel_rfl) (by kernel_rfl) (by kernel_rfl) (fun _ _ _ h => h) (Or.inl ⟨by rfl, fun w9 hS9 => by (have hf9 := fprep39 (.int .i64 pc) (.int .i64 pi) (.slice an pL.length kn) (.int .i64 (101 + (i : Int))) (.slice ae pes.length ke) w9; clear hS9; go_simp; try with_reducible rfl)⟩) (by assumption) ?_
            try simp only [Act.put, List.setIfInBounds_toArray, List.set_cons_zero, List.set_cons_succ]
            refine wpAnyH_ready (rs := [0]) (by kernel_rfl) (by simp) ?_
            refine AllReadyH.cons (o := { dst := some 170, op := _, type := _, pos := _, after := _, guard := _ }) rfl (fun K hK => ?_) AllReadyH.nil
            have f0 := D.out.box.cell
            go_simp
            refine hK.out _ _ (hHeld) (fun hx9 => ?_)
            clear hK K hHeld
            have hHeld := hx9
            clear hx9 f0
            try simp only [Act.put, List.setIfInBounds_toArray, List.set_cons_zero, List.set_cons_succ]
            refine wpAnyH_ready (rs := [13]) (by kernel_rfl) (by simp) ?_
            refine AllReadyH.cons (o := { dst := some 183, op := _, type := _, pos := _, after := _, guard := _ }) rfl (fun K hK => ?_) AllReadyH.nil
            go_simp
            refine (implApply_any m1 _ G _ _ pes D.out.own.rd D.out.own.nilOk RE.out (snd_szs HGZ.out) (okTxn_szs HOK.out)).mono ?_
            rintro e m2 ⟨v2, rfl, o2, b2⟩
            rw [HGI.out] at o2
            obtain ⟨a2, k2, hv2⟩ := OwnN.slice9 o2
            subst hv2
            have hs2 := D.out.box.lt
            have O2 := hd9 (OwnN.mono o2 (lo' := FX) (by omega))
            have H9 := And.intro (hHeld.1.below b2) (hHeld.2.trans (b2.mono hHeld.2.size))
            replace D := hd9 (D.out.later b2)
            refine hK.out _ _ (H9) (fun hx9 => ?_)
            clear hK K hHeld
            have hHeld := hx9
            clear hx9 H9 b2 o2 hs2 RE
            try simp only [Act.put, List.setIfInBounds_toArray, List.set_cons_zero, List.set_cons_succ]
            refine wpAnyH_ready (rs := [14]) (by kernel_rfl) (by simp) ?_
            refine AllReadyH.cons (o := { dst := none, op := _, type := _, pos := _, after := _, guard := _ }) rfl (fun K hK => ?_) AllReadyH.nil
            have y0 := D.out.box.cell
            have y1 := D.out.box.frozen
            go_simp
            replace D := hd9 (D.out.store (by omega) hlo hRG O2.out)
            refine hK.out _ _ (And.intro D.out.f1 D.out.bel) (fun hx9 => ?_)
            clear hK K hHeld
            have hHeld := hx9
            clear hx9 y0 y1 O2
            try simp only [Act.put, List.setIfInBounds_toArray, List.set_cons_zero, List.set_cons_succ]
            refine wpAnyH_done (by kernel_rfl) ?_ _
            clear hHeld
            generalize m2.setCell ⟨GX, 0, none⟩ (.slice a2 (fuz (tA Ts) F (i + 1)).length k2) = m4 at *
            go_wp2_with fail
            exact ⟨⟨i + 1, fuz (tA Ts) F (i + 1), a2, k2, by go_num, by omega, rfl, D⟩, by simp [intOf]; omega⟩

end Go.Proofs.YtdiingonnddkcaaGreatDoor


