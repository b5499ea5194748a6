import Derived.Test.YtgjenbgclpmjmaaDoorESpecT
import Derived.Test.YtgjenbgclpmjmaaDoorEMarkN
import Derived.Test.YtgjenbgclpmjmaaDoorLValidTree
namespace Go.Proofs.YtgjenbgclpmjmaaDoor
open Go.RowKit Go.Shelf

theorem own_apart {k : IntKind} {e e' : TypeId} {w w' : World} {B B' : Nat} {v v' : Value} {xs xs' : List Int} (h : Own k e w B v xs) (h' : Own k e' w' B' v' xs') (hlt : w.heap.size ≤ B') : v.ownBlock = none ∨ v.ownBlock ≠ v'.ownBlock := by
  cases hv : v.ownBlock with
  | none => exact .inl rfl
  | some g =>
    refine .inr fun e => ?_
    have h1 := (h.lt g hv).2
    have h2 := (h'.lt g e.symm).1
    omega
theorem Own.keepT {w w' : World} {lo : Nat} {v : Value} {xs : List Int} {t : TypeId} (h : Own .u8 5 w lo v xs) (hk : KT t w w') (ht : 5 ≠ t) : Own .u8 5 w' lo v xs := by
  refine ⟨h.1, ?_⟩
  rcases h.2 with hn | ⟨g, cap, cur, rfl, hbg, hgg, rest⟩
  · exact .inl hn
  · exact .inr ⟨g, cap, cur, rfl, hbg, hk.box hgg ht, rest⟩

set_option maxHeartbeats 2000000 in
set_option maxRecDepth 100000 in
theorem lawEncTree_walk (w : World) (v : Value) (ns : List Nd) (h : InT w v ns) :
    Calls Tryd.prog 9 #[.agg #[v]] w fun e w' => e = .returned (.bool true) ∧ Below w.heap.size w w' := by
  obtain ⟨hr, hsz⟩ := h
  obtain ⟨ao, ca, rfl, _, _⟩ := hr.len
  have B0 : Hid (Below w.heap.size w (w.alloc (.cells #[.slice ao ns.length ca] 25))) := (Below.refl _ _).alloc (Nat.le_refl _) _
  have X0 : Hid (Boxed (w.alloc (.cells #[.slice ao ns.length ca] 25)) w.heap.size 25 (.slice ao ns.length ca)) := Boxed.new _ _ _
  have HR : Hid (RdN w (.slice ao ns.length ca) ns) := hr
  have HZ : Hid (∀ i, (nAt ns i).path.size ≤ maxLen ∧ (nAt ns i).data.size ≤ maxLen) := hsz
  clear hr hsz
  go_enter Tryd.func9, Tryd.ntmps9
  go_wp2_with fail
  generalize w.alloc (.cells #[.slice ao ns.length ca] 25) = w0 at *
  refine (szTree_any _ _ ns (HR.out.below B0.out) HZ.out 1048576 (by omega) (by omega)).mono ?_
  rintro e w1 ⟨r, rfl, hsz, b1⟩
  have B1 : Hid (Below w.heap.size w w1) := B0.out.trans (b1.mono B0.out.size)
  have X1 : Hid (Boxed w1 w.heap.size 25 (.slice ao ns.length ca)) := boxed_below b1 X0.out
  clear b1 X0 B0
  by_cases hneg : r < 0
  · clear hsz
    go_wp2
    go_ret
    exact ⟨rfl, B1.out⟩
  have hsz' : r + ns.length + totN ns = 1048576 := by omega
  have hn : ns.length ≤ 1048576 := by omega
  have hd : Hid (∀ i, (nAt ns i).path.size ≤ 1048576 ∧ (nAt ns i).data.size ≤ 1048576) := fun i => by have := totN_ge ns i; omega
  clear hsz hsz'
  have hls := treeB_len ns
  obtain ⟨L, hL⟩ : ∃ L, L = treeB ns := ⟨_, rfl⟩
  rw [← hL] at hls
  have HL : Hid (treeB ns = L) := hL.symm
  clear hL
  have c0 := X1.out.cell
  go_wp2_with fail
  refine (toTree_any _ _ ns (HR.out.below B1.out) hn).mono ?_
  rintro e w2 ⟨a2, k2, rfl, o2, b2⟩
  have Q2 : Hid (RdN w2 (.slice a2 ns.length k2) ns) := o2.rd
  have B2 : Hid (Below w.heap.size w w2) := B1.out.trans (b2.mono B1.out.size)
  have X2 : Hid (Boxed w2 w.heap.size 25 (.slice ao ns.length ca)) := boxed_below b2 X1.out
  clear o2 b2 c0 X1
  go_wp2_with fail
  refine (sTree_any _ _ ns Q2.out hn hd.out).mono ?_
  rw [HL.out]
  rintro e w3 ⟨v3, rfl, o3, b3⟩
  have s2 := B2.out.size
  have O3 : Hid (Own .u8 5 w3 w2.heap.size v3 L) := o3
  have B3 : Hid (Below w.heap.size w w3) := B2.out.trans (b3.mono s2)
  have X3 : Hid (Boxed w3 w.heap.size 25 (.slice ao ns.length ca)) := boxed_below b3 X2.out
  clear b3 o3 Q2 X2
  have c0 := X3.out.cell
  go_wp2_with fail
  refine (toTree_any _ _ ns (HR.out.below B3.out) hn).mono ?_
  rintro e w4 ⟨a4, k4, rfl, o4, b4⟩
  have s3 := B3.out.size
  have Q4 : Hid (OwnN 81 w4 w3.heap.size (.slice a4 ns.length k4) ns) := o4
  have B4 : Hid (Below w.heap.size w w4) := B3.out.trans (b4.mono s3)
  have X4 : Hid (Boxed w4 w.heap.size 25 (.slice ao ns.length ca)) := boxed_below b4 X3.out
  have O34 : Hid (Own .u8 5 w4 w2.heap.size v3 L) := O3.out.below b4
  have s34 := b4.size
  clear o4 b4 c0 X3 O3
  go_wp2_with fail
  have BA : Hid (Below w4.heap.size w4 (w4.alloc (.cells #[.slice a4 ns.length k4] 30))) := (Below.refl _ _).alloc (Nat.le_refl _) _
  have Y5 : Hid (Boxed (w4.alloc (.cells #[.slice a4 ns.length k4] 30)) w4.heap.size 30 (.slice a4 ns.length k4)) := Boxed.new _ _ _
  generalize w4.alloc (.cells #[.slice a4 ns.length k4] 30) = w5 at *
  have Y5lt := Y5.out.lt
  have s4 := B4.out.size
  have s45 := BA.out.size
  have B5 : Hid (Below w.heap.size w w5) := B4.out.trans (BA.out.mono s4)
  have X5 : Hid (Boxed w5 w.heap.size 25 (.slice ao ns.length ca)) := boxed_below BA.out X4.out
  have Q5 : Hid (OwnN 81 w5 w3.heap.size (.slice a4 ns.length k4) ns) := Q4.out.below BA.out
  have O35 : Hid (Own .u8 5 w5 w2.heap.size v3 L) := O34.out.below BA.out
  clear X4 Q4 BA O34
  refine (encTree_any _ _ ns Q5.out.rd hd.out).mono ?_
  rw [HL.out]
  rintro e w6 ⟨v6, rfl, o6, b6⟩
  have s5 := B5.out.size
  have O6 : Hid (Own .u8 5 w6 w5.heap.size v6 L) := o6
  have B6 : Hid (Below w.heap.size w w6) := B5.out.trans (b6.mono s5)
  have X6 : Hid (Boxed w6 w.heap.size 25 (.slice ao ns.length ca)) := boxed_below b6 X5.out
  have Y6 : Hid (Boxed w6 w4.heap.size 30 (.slice a4 ns.length k4)) := boxed_below b6 Y5.out
  have Q6 : Hid (OwnN 81 w6 w3.heap.size (.slice a4 ns.length k4) ns) := Q5.out.below b6
  have O36 : Hid (Own .u8 5 w6 w2.heap.size v3 L) := O35.out.below b6
  have N36 : Hid (v3.ownBlock = none ∨ v3.ownBlock ≠ v6.ownBlock) := own_apart O35.out O6.out (Nat.le_refl _)
  have s56 := b6.size
  clear o6 b6 X5 Y5 Q5 B5 O35
  go_wp2_with fail
  refine (eqByteS_any _ _ _ L L O6.out.rd O36.out.rd).mono ?_
  rintro e w7 ⟨rfl, q7, rfl⟩
  rw [show decide (L = L) = true by simp]
  have D7 : Hid (Below w6.heap.size w6 (w6.drewN q7)) := below_drewN' w6 q7
  generalize w6.drewN q7 = w7 at *
  have O7 : Hid (Own .u8 5 w7 w5.heap.size v6 L) := O6.out.below D7.out
  have O37 : Hid (Own .u8 5 w7 w2.heap.size v3 L) := O36.out.below D7.out
  have B7 : Hid (Below w.heap.size w w7) := B6.out.trans (D7.out.mono B6.out.size)
  have X7 : Hid (Boxed w7 w.heap.size 25 (.slice ao ns.length ca)) := boxed_below D7.out X6.out
  have Y7 : Hid (Boxed w7 w4.heap.size 30 (.slice a4 ns.length k4)) := boxed_below D7.out Y6.out
  have Q7 : Hid (OwnN 81 w7 w3.heap.size (.slice a4 ns.length k4) ns) := Q6.out.below D7.out
  have s67 := D7.out.size
  clear D7 O6 O36 B6 X6 Y6 Q6
  have c0 := X7.out.cell
  have d0 := Y7.out.cell
  have HT : Hid (∀ q, Calls Tryd.prog 16 #[.agg #[.slice ao ns.length ca]] (w7.drewN q) fun e w' => ∃ a c, e = .returned (.agg #[.slice a ns.length c]) ∧ Hid (RdN w' (.slice a ns.length c) ns) ∧ Hid (RdN w' (.slice a4 ns.length k4) ns) ∧ w'.cell? ⟨w4.heap.size, 0, none⟩ = some (.slice a4 ns.length k4) ∧ Hid (Below w7.heap.size w7 w')) := by
    intro q
    refine (toTree_any _ _ ns ((HR.out.below B7.out).below (below_drewN' w7 q)) hn).mono ?_
    rintro e w' ⟨a, c, rfl, o', b'⟩
    have b7' : Below w7.heap.size w7 w' := (below_drewN' w7 q).trans b'
    exact ⟨a, c, rfl, o'.rd, Q7.out.rd.below b7', (boxed_below b7' Y7.out).cell, b7'⟩
  go_wp2
  go_region_with (first | (go_at_call 16; refine (HT.out 1).mono ?_; rintro e w' ⟨a, c, rfl, r1, r2, k0, bw⟩) | (go_at_call 18; refine (eqTree_same _ _ _ ns r2.out r1.out hn).mono ?_; rintro e w'' ⟨rfl, b''⟩))
  all_goals
    have b8 : Below w7.heap.size w7 w'' := bw.out.trans (b''.mono bw.out.size)
    have O8 : Hid (Own .u8 5 w'' w5.heap.size v6 L) := O7.out.below b8
    have O38 : Hid (Own .u8 5 w'' w2.heap.size v3 L) := O37.out.below b8
    have B8 : Hid (Below w.heap.size w w'') := B7.out.trans (b8.mono B7.out.size)
    have X8 : Hid (Boxed w'' w.heap.size 25 (.slice ao ns.length ca)) := boxed_below b8 X7.out
    have Y8 : Hid (Boxed w'' w4.heap.size 30 (.slice a4 ns.length k4)) := boxed_below b8 Y7.out
    have Q8 : Hid (OwnN 81 w'' w3.heap.size (.slice a4 ns.length k4) ns) := Q7.out.below b8
    have s78 := b8.size
    clear b8 b'' bw k0 r1 r2 O7 O37 B7 X7 Y7 Q7 HT c0 d0
    have d0 := Y8.out.cell
    go_wp2_with fail
    refine (markTree_any _ w3.heap.size 1 _ ns Q8.out (by omega) (by omega) hn).mono ?_
    rintro e w9 ⟨rfl, b9, k9⟩
    have O9 : Hid (Own .u8 5 w9 w5.heap.size v6 L) := O8.out.keepT k9 (by decide)
    have O39 : Hid (Own .u8 5 w9 w2.heap.size v3 L) := O38.out.keepT k9 (by decide)
    have B9 : Hid (Below w.heap.size w w9) := B8.out.trans (b9.mono s3)
    have X9 : Hid (Boxed w9 w.heap.size 25 (.slice ao ns.length ca)) := k9.box X8.out (by decide)
    have s9 := b9.size
    clear b9 k9 O8 O38 B8 X8 Y8 Q8 d0
    have hk9 : ¬ ((1 + 7 * ns.length : Nat) : Int) < 0 := by omega
    go_wp2_with fail
    refine (eqByteS_any _ _ _ L L O9.out.rd O39.out.rd).mono ?_
    rintro e w10 ⟨rfl, q10, rfl⟩
    rw [show decide (L = L) = true by simp]
    go_wp2_with fail
    refine (markByteS_any _ _ _ L 1 (O9.out.drewN q10) (by omega) (by omega) (by omega)).mono ?_
    rintro e w11 ⟨rfl, o11, g11⟩
    have b11 : Below w5.heap.size w9 w11 := ((below_drewN' w9 q10).mono (by omega)).grown g11 (by show _ ≤ w9.heap.size; omega) (fun k hk => (O9.out.lt k hk).1)
    have X11 : Hid (Boxed w11 w.heap.size 25 (.slice ao ns.length ca)) := by
      have hlt : w.heap.size < w5.heap.size := by have := Y5lt; omega
      exact (b11.block _ hlt).trans X9.out
    have B11 : Hid (Below w.heap.size w w11) := B9.out.trans (b11.mono s5)
    have O311 : Hid (Own .u8 5 w11 w2.heap.size v3 L) := (O39.out.drewN q10).other g11 N36.out
    have O11 : Hid (Own .u8 5 w11 w5.heap.size v6 (marks 1 L.length)) := o11
    have s11 := b11.size
    clear o11 g11 b11 O9 O39 X9 B9
    generalize hm : L.length = m at *
    have HM : Hid (L.length = m) := hm
    clear hm
    go_wp2_with fail
    refine (heldByteS_any _ _ m 1 O11.out.rd (by omega) (by omega) (by omega)).mono ?_
    rintro e w12 ⟨rfl, rfl⟩
    have hq0 : ¬ (1 + (m : Int)) < 0 := by omega
    have c0 := X11.out.cell
    go_wp2_with fail
    refine (toTree_any _ _ ns (HR.out.below B11.out) hn).mono ?_
    rintro e w13 ⟨a13, k13, rfl, o13, b13⟩
    have Q13 : Hid (RdN w13 (.slice a13 ns.length k13) ns) := o13.rd
    have B13 : Hid (Below w.heap.size w w13) := B11.out.trans (b13.mono B11.out.size)
    have O313 : Hid (Own .u8 5 w13 w2.heap.size v3 L) := O311.out.below b13
    clear o13 b13 O311 O11 X11 B11 c0
    go_wp2_with fail
    refine (encTree_any _ _ ns Q13.out hd.out).mono ?_
    rw [HL.out]
    rintro e w14 ⟨v14, rfl, o14, b14⟩
    have O14 : Hid (Own .u8 5 w14 w13.heap.size v14 L) := o14
    have O314 : Hid (Own .u8 5 w14 w2.heap.size v3 L) := O313.out.below b14
    have B14 : Hid (Below w.heap.size w w14) := B13.out.trans (b14.mono B13.out.size)
    clear o14 b14 O313 Q13 B13
    go_wp2_with fail
    refine (eqByteS_any _ _ _ L L O14.out.rd O314.out.rd).mono ?_
    rintro e w15 ⟨rfl, q15, rfl⟩
    rw [show decide (L = L) = true by simp]
    have B15 : Hid (Below w.heap.size w (w14.drewN q15)) := B14.out.trans ((below_drewN' w14 q15).mono B14.out.size)
    go_wp2
    go_ret
    exact ⟨rfl, B15.out⟩

end Go.Proofs.YtgjenbgclpmjmaaDoor
