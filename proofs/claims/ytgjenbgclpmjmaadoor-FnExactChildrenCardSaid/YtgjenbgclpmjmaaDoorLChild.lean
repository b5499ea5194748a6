import Derived.Test.YtgjenbgclpmjmaaDoorCMark
import Derived.Test.YtgjenbgclpmjmaaDoorLValidTree
namespace Go.Proofs.YtgjenbgclpmjmaaDoor
open Go.RowKit Go.Shelf

theorem resC_len (ns : List Nd) (p : ByteArray) : (resC ns p).length ≤ 1000 := by
  unfold resC
  split
  · rename_i h
    simp only [Bool.and_eq_true] at h
    unfold chL
    rw [List.length_map]
    exact Nat.le_trans (chN_len ns p) (okTree_len h.1)
  · simp
theorem OwnS.keepT {w w' : World} {lo : Nat} {v : Value} {L : List (List UInt8)} {t : TypeId} (h : OwnS w lo v L) (hk : KT t w w') (ht : 9 ≠ t) : OwnS w' lo v L := by
  refine ⟨h.1, ?_⟩
  rcases h.2 with hn | ⟨g, cap, cur, rfl, hbg, hgg, rest⟩
  · exact .inl hn
  · exact .inr ⟨g, cap, cur, rfl, hbg, hk.box hgg ht, rest⟩
theorem OwnS.belowM {w w' : World} {lo m : Nat} {v : Value} {L : List (List UInt8)} (h : OwnS w lo v L) (hb : Below m w w') (hlt : ∀ g, v.ownBlock = some g → g < m) : OwnS w' lo v L := by
  refine ⟨h.1, ?_⟩
  rcases h.2 with hn | ⟨g, cap, cur, rfl, hbg, hgg, rest⟩
  · exact .inl hn
  · exact .inr ⟨g, cap, cur, rfl, hbg, (hb.block g (hlt g rfl)).trans hgg, rest⟩

set_option maxHeartbeats 2000000 in
set_option maxRecDepth 100000 in
theorem lawChild_walk (w : World) (v : Value) (ns : List Nd) (h : InT w v ns) (s : ByteArray) (ws : s.size ≤ maxLen) :
    Calls Tryd.prog 8 #[.agg #[v], .string s] w fun e w' => e = .returned (.bool true) ∧ Below w.heap.size w w' := by
  obtain ⟨hr, hsz⟩ := h
  obtain ⟨ao, ca, rfl, _, _⟩ := hr.len
  have B0 : Hid (Below w.heap.size w (w.alloc (.cells #[.slice ao ns.length ca] 25))) := (Below.refl _ _).alloc (Nat.le_refl _) _
  have X0 : Hid (Boxed (w.alloc (.cells #[.slice ao ns.length ca] 25)) w.heap.size 25 (.slice ao ns.length ca)) := Boxed.new _ _ _
  have HR : Hid (RdN w (.slice ao ns.length ca) ns) := hr
  have HZ : Hid (∀ i, (nAt ns i).path.size ≤ maxLen ∧ (nAt ns i).data.size ≤ maxLen) := hsz
  clear hr hsz
  unfold maxLen at ws
  by_cases hbig : 1048576 < s.size
  · have hbI : (1048576 : Int) < (s.size : Int) := by omega
    go_enter Tryd.func8, Tryd.ntmps8
    go_wp2
    go_ret
    exact ⟨rfl, B0.out⟩
  have hbI : ¬ (1048576 : Int) < (s.size : Int) := by omega
  go_enter Tryd.func8, Tryd.ntmps8
  go_wp2_with fail
  generalize w.alloc (.cells #[.slice ao ns.length ca] 25) = w0 at *
  refine (szTree_any _ _ ns (HR.out.below B0.out) HZ.out 1048576 (by omega) (by omega)).mono ?_
  rintro e w1 ⟨r, rfl, hsz, b1⟩
  have B1 : Hid (Below w.heap.size w w1) := B0.out.trans (b1.mono B0.out.size)
  have X1 : Hid (Boxed w1 w.heap.size 25 (.slice ao ns.length ca)) := boxed_below b1 X0.out
  clear b1 X0 B0
  by_cases hneg : r < 0
  · clear hsz
    go_wp2
    go_ret
    exact ⟨rfl, B1.out⟩
  have hsz' : r + ns.length + totN ns = 1048576 := by omega
  have hn : ns.length ≤ 1048576 := by omega
  have hd : Hid (∀ i, (nAt ns i).path.size ≤ 1048576 ∧ (nAt ns i).data.size ≤ 1048576) := fun i => by have := totN_ge ns i; omega
  clear hsz hsz'
  have hls := resC_len ns s
  obtain ⟨L, hL⟩ : ∃ L, L = resC ns s := ⟨_, rfl⟩
  rw [← hL] at hls
  have HL : Hid (resC ns s = L) := hL.symm
  clear hL
  have c0 := X1.out.cell
  go_wp2_with fail
  refine (toTree_any _ _ ns (HR.out.below B1.out) hn).mono ?_
  rintro e w2 ⟨a2, k2, rfl, o2, b2⟩
  have Q2 : Hid (RdN w2 (.slice a2 ns.length k2) ns) := o2.rd
  have B2 : Hid (Below w.heap.size w w2) := B1.out.trans (b2.mono B1.out.size)
  have X2 : Hid (Boxed w2 w.heap.size 25 (.slice ao ns.length ca)) := boxed_below b2 X1.out
  clear o2 b2 c0 X1
  go_wp2_with fail
  refine (specChildren_any _ _ ns s Q2.out hn hd.out (by omega)).mono ?_
  rw [HL.out]
  rintro e w3 ⟨v3, rfl, o3, b3⟩
  have s2 := B2.out.size
  have O3 : Hid (OwnS w3 w2.heap.size v3 L) := o3
  have B3 : Hid (Below w.heap.size w w3) := B2.out.trans (b3.mono s2)
  have X3 : Hid (Boxed w3 w.heap.size 25 (.slice ao ns.length ca)) := boxed_below b3 X2.out
  clear b3 o3 Q2 X2
  have c0 := X3.out.cell
  go_wp2_with fail
  refine (toTree_any _ _ ns (HR.out.below B3.out) hn).mono ?_
  rintro e w4 ⟨a4, k4, rfl, o4, b4⟩
  have s3 := B3.out.size
  have Q4 : Hid (OwnN 81 w4 w3.heap.size (.slice a4 ns.length k4) ns) := o4
  have B4 : Hid (Below w.heap.size w w4) := B3.out.trans (b4.mono s3)
  have X4 : Hid (Boxed w4 w.heap.size 25 (.slice ao ns.length ca)) := boxed_below b4 X3.out
  have O34 : Hid (OwnS w4 w2.heap.size v3 L) := O3.out.below b4
  have s34 := b4.size
  clear o4 b4 c0 X3 O3
  go_wp2_with fail
  have BA : Hid (Below w4.heap.size w4 (w4.alloc (.cells #[.slice a4 ns.length k4] 30))) := (Below.refl _ _).alloc (Nat.le_refl _) _
  have Y5 : Hid (Boxed (w4.alloc (.cells #[.slice a4 ns.length k4] 30)) w4.heap.size 30 (.slice a4 ns.length k4)) := Boxed.new _ _ _
  generalize w4.alloc (.cells #[.slice a4 ns.length k4] 30) = w5 at *
  have Y5lt := Y5.out.lt
  have s4 := B4.out.size
  have s45 := BA.out.size
  have B5 : Hid (Below w.heap.size w w5) := B4.out.trans (BA.out.mono s4)
  have X5 : Hid (Boxed w5 w.heap.size 25 (.slice ao ns.length ca)) := boxed_below BA.out X4.out
  have Q5 : Hid (OwnN 81 w5 w3.heap.size (.slice a4 ns.length k4) ns) := Q4.out.below BA.out
  have O35 : Hid (OwnS w5 w2.heap.size v3 L) := O34.out.below BA.out
  clear X4 Q4 BA O34
  refine (implChildren_any _ _ ns s Q5.out.rd hd.out).mono ?_
  rw [HL.out]
  rintro e w6 ⟨v6, rfl, o6, b6⟩
  have s5 := B5.out.size
  have O6 : Hid (OwnS w6 w5.heap.size v6 L) := o6
  have B6 : Hid (Below w.heap.size w w6) := B5.out.trans (b6.mono s5)
  have X6 : Hid (Boxed w6 w.heap.size 25 (.slice ao ns.length ca)) := boxed_below b6 X5.out
  have Y6 : Hid (Boxed w6 w4.heap.size 30 (.slice a4 ns.length k4)) := boxed_below b6 Y5.out
  have Q6 : Hid (OwnN 81 w6 w3.heap.size (.slice a4 ns.length k4) ns) := Q5.out.below b6
  have O36 : Hid (OwnS w6 w2.heap.size v3 L) := O35.out.below b6
  have N36 : Hid (∀ g, v3.ownBlock = some g → g < w5.heap.size) := fun g hg => (World.ownsRow.lt O35.out g hg).2
  have s56 := b6.size
  clear o6 b6 X5 Y5 Q5 B5 O35
  go_wp2_with fail
  refine (eqStringS_same _ _ _ L O6.out.rd O36.out.rd (by omega)).mono ?_
  rintro e w7 ⟨rfl, d7⟩
  have D7 : Hid (Below w6.heap.size w6 w7) := d7
  clear d7
  have O7 : Hid (OwnS w7 w5.heap.size v6 L) := O6.out.below D7.out
  have O37 : Hid (OwnS w7 w2.heap.size v3 L) := O36.out.below D7.out
  have B7 : Hid (Below w.heap.size w w7) := B6.out.trans (D7.out.mono B6.out.size)
  have X7 : Hid (Boxed w7 w.heap.size 25 (.slice ao ns.length ca)) := boxed_below D7.out X6.out
  have Y7 : Hid (Boxed w7 w4.heap.size 30 (.slice a4 ns.length k4)) := boxed_below D7.out Y6.out
  have Q7 : Hid (OwnN 81 w7 w3.heap.size (.slice a4 ns.length k4) ns) := Q6.out.below D7.out
  have s67 := D7.out.size
  clear D7 O6 O36 B6 X6 Y6 Q6
  have c0 := X7.out.cell
  have d0 := Y7.out.cell
  have HT : Hid (∀ q, Calls Tryd.prog 16 #[.agg #[.slice ao ns.length ca]] (w7.drewN q) fun e w' => ∃ a c, e = .returned (.agg #[.slice a ns.length c]) ∧ Hid (RdN w' (.slice a ns.length c) ns) ∧ Hid (RdN w' (.slice a4 ns.length k4) ns) ∧ w'.cell? ⟨w4.heap.size, 0, none⟩ = some (.slice a4 ns.length k4) ∧ Hid (Below w7.heap.size w7 w')) := by
    intro q
    refine (toTree_any _ _ ns ((HR.out.below B7.out).below (below_drewN' w7 q)) hn).mono ?_
    rintro e w' ⟨a, c, rfl, o', b'⟩
    have b7' : Below w7.heap.size w7 w' := (below_drewN' w7 q).trans b'
    exact ⟨a, c, rfl, o'.rd, Q7.out.rd.below b7', (boxed_below b7' Y7.out).cell, b7'⟩
  go_wp2
  go_region_with (first | (go_at_call 16; refine (HT.out 1).mono ?_; rintro e w' ⟨a, c, rfl, r1, r2, k0, bw⟩) | (go_at_call 18; refine (eqTree_same _ _ _ ns r2.out r1.out hn).mono ?_; rintro e w'' ⟨rfl, b''⟩))
  all_goals
    have b8 : Below w7.heap.size w7 w'' := bw.out.trans (b''.mono bw.out.size)
    have O8 : Hid (OwnS w'' w5.heap.size v6 L) := O7.out.below b8
    have O38 : Hid (OwnS w'' w2.heap.size v3 L) := O37.out.below b8
    have B8 : Hid (Below w.heap.size w w'') := B7.out.trans (b8.mono B7.out.size)
    have X8 : Hid (Boxed w'' w.heap.size 25 (.slice ao ns.length ca)) := boxed_below b8 X7.out
    have Y8 : Hid (Boxed w'' w4.heap.size 30 (.slice a4 ns.length k4)) := boxed_below b8 Y7.out
    have Q8 : Hid (OwnN 81 w'' w3.heap.size (.slice a4 ns.length k4) ns) := Q7.out.below b8
    have s78 := b8.size
    clear b8 b'' bw k0 r1 r2 O7 O37 B7 X7 Y7 Q7 HT c0 d0
    have d0 := Y8.out.cell
    go_wp2_with fail
    refine (markTree_any _ w3.heap.size 1 _ ns Q8.out (by omega) (by omega) hn).mono ?_
    rintro e w9 ⟨rfl, b9, k9⟩
    have O9 : Hid (OwnS w9 w5.heap.size v6 L) := O8.out.keepT k9 (by decide)
    have O39 : Hid (OwnS w9 w2.heap.size v3 L) := O38.out.keepT k9 (by decide)
    have B9 : Hid (Below w.heap.size w w9) := B8.out.trans (b9.mono s3)
    have X9 : Hid (Boxed w9 w.heap.size 25 (.slice ao ns.length ca)) := k9.box X8.out (by decide)
    have s9 := b9.size
    clear b9 k9 O8 O38 B8 X8 Y8 Q8 d0
    have hk9 : ¬ ((1 + 7 * ns.length : Nat) : Int) < 0 := by omega
    go_wp2_with fail
    refine (eqStringS_same _ _ _ L O9.out.rd O39.out.rd (by omega)).mono ?_
    rintro e w10 ⟨rfl, b10⟩
    have O10 : Hid (OwnS w10 w5.heap.size v6 L) := O9.out.below b10
    have O310 : Hid (OwnS w10 w2.heap.size v3 L) := O39.out.below b10
    have B10 : Hid (Below w.heap.size w w10) := B9.out.trans (b10.mono B9.out.size)
    have X10 : Hid (Boxed w10 w.heap.size 25 (.slice ao ns.length ca)) := boxed_below b10 X9.out
    have s10 := b10.size
    clear b10 O9 O39 X9 B9
    go_wp2_with fail
    refine (markStringS_any _ w5.heap.size 1 _ L O10.out (by omega) (by omega)).mono ?_
    rintro e w11 ⟨rfl, o11, b11⟩
    have X11 : Hid (Boxed w11 w.heap.size 25 (.slice ao ns.length ca)) := by
      have hlt : w.heap.size < w5.heap.size := by have := Y5lt; omega
      exact (b11.block _ hlt).trans X10.out
    have B11 : Hid (Below w.heap.size w w11) := B10.out.trans (b11.mono s5)
    have O311 : Hid (OwnS w11 w2.heap.size v3 L) := O310.out.belowM b11 N36.out
    have O11 : Hid (OwnS w11 w5.heap.size v6 (mkS 1 L.length)) := o11
    clear o11 b11 O10 O310 X10 B10
    generalize hm : L.length = m at *
    have HM : Hid (L.length = m) := hm
    clear hm
    go_wp2_with fail
    refine (heldStringS_any _ _ 1 m O11.out.rd (by omega) (by omega)).mono ?_
    rintro e w12 ⟨rfl, b12⟩
    have hq0 : ¬ ((1 + m : Nat) : Int) < 0 := by omega
    have X12 : Hid (Boxed w12 w.heap.size 25 (.slice ao ns.length ca)) := boxed_below b12 X11.out
    have O312 : Hid (OwnS w12 w2.heap.size v3 L) := O311.out.below b12
    have B12 : Hid (Below w.heap.size w w12) := B11.out.trans (b12.mono B11.out.size)
    clear b12 X11 O311 O11 B11
    have c0 := X12.out.cell
    go_wp2_with fail
    refine (toTree_any _ _ ns (HR.out.below B12.out) hn).mono ?_
    rintro e w13 ⟨a13, k13, rfl, o13, b13⟩
    have Q13 : Hid (RdN w13 (.slice a13 ns.length k13) ns) := o13.rd
    have B13 : Hid (Below w.heap.size w w13) := B12.out.trans (b13.mono B12.out.size)
    have O313 : Hid (OwnS w13 w2.heap.size v3 L) := O312.out.below b13
    clear o13 b13 O312 X12 B12 c0
    go_wp2_with fail
    refine (implChildren_any _ _ ns s Q13.out hd.out).mono ?_
    rw [HL.out]
    rintro e w14 ⟨v14, rfl, o14, b14⟩
    have O14 : Hid (OwnS w14 w13.heap.size v14 L) := o14
    have O314 : Hid (OwnS w14 w2.heap.size v3 L) := O313.out.below b14
    have B14 : Hid (Below w.heap.size w w14) := B13.out.trans (b14.mono B13.out.size)
    clear o14 b14 O313 Q13 B13
    go_wp2_with fail
    refine (eqStringS_same _ _ _ L O14.out.rd O314.out.rd (by rw [HM.out]; omega)).mono ?_
    rintro e w15 ⟨rfl, b15⟩
    have B15 : Hid (Below w.heap.size w w15) := B14.out.trans (b15.mono B14.out.size)
    clear b15
    go_wp2
    go_ret
    exact ⟨rfl, B15.out⟩

end Go.Proofs.YtgjenbgclpmjmaaDoor
