import Derived.Test.YtplfpfnedgjidaaCopy
namespace Go.Proofs.Ytplfpfnedgjidaa
open Go.RowKit

theorem rowW_snoc (k : Nat) (ps : List (Int × List Int)) (dv : Nat → Value) (v : Value) : rowW (k + 1) (pB ps) (dvSet dv k v) = rowW k (pB ps) dv ++ [.int .i64 (pB ps k), v] := by
  rw [rowW_succ]
  congr 1
  · exact rowW_congr (fun _ _ => rfl) (fun i hi => by unfold dvSet; rw [if_neg (by omega)])
  · unfold dvSet; rw [if_pos rfl]

/-- A local struct of two cells that may be written. -/
def BoxF (w : World) (b : Nat) (x y : Value) : Prop := Box2 w b x y ∧ w.frozen? ⟨b, 0, none⟩ = false ∧ w.frozen? ⟨b, 1, none⟩ = false
theorem BoxF.below {w w' : World} {b : Nat} {x y : Value} (h : BoxF w b x y) (hb : Below w.heap.size w w') : BoxF w' b x y :=
  ⟨h.1.below hb, (hb.frozen (p := ⟨b, 0, none⟩) h.1.1).trans h.2.1, (hb.frozen (p := ⟨b, 1, none⟩) h.1.1).trans h.2.2⟩
theorem BoxF.new (w : World) (x y : Value) (t : TypeId) : BoxF (w.alloc (.cells #[x, y] t)) w.heap.size x y := ⟨Box2.new _ _ _ _, by simp, by simp⟩
theorem BoxF.belowB {w w' : World} {b B : Nat} {x y : Value} (h : BoxF w b x y) (hb : Below B w w') (hB : b < B) : BoxF w' b x y :=
  ⟨⟨Nat.lt_of_lt_of_le h.1.1 hb.size, (hb.cell (p := ⟨b, 0, none⟩) hB).trans h.1.2.1, (hb.cell (p := ⟨b, 1, none⟩) hB).trans h.1.2.2⟩, (hb.frozen (p := ⟨b, 0, none⟩) hB).trans h.2.1, (hb.frozen (p := ⟨b, 1, none⟩) hB).trans h.2.2⟩

theorem RdW.recAt {w : World} {ao : Option Addr} {n cap k : Nat} {ps : List (Int × List Int)} (h : RdW w (.slice ao n cap) ps) (hl : ps.length = n) (hk : k < n) : ∃ b o, ao = some ⟨b, o, none⟩ ∧ b < w.heap.size ∧
    w.cell? ⟨b, o + k * 2, none⟩ = some (.int .i64 (pB ps k)) ∧ ∃ da c, w.cell? ⟨b, o + k * 2 + 1, none⟩ = some (.slice da (pD ps k).length c) ∧ Rd .u8 w (.slice da (pD ps k).length c) (pD ps k) := by
  obtain ⟨ao', cap', e, h1, h2, h3⟩ := h
  simp only [Value.slice.injEq] at e
  obtain ⟨rfl, _, rfl⟩ := e
  rcases h3 with rfl | ⟨b, o, rfl, hb, hc⟩
  · simp at hl; omega
  · obtain ⟨c1, da, c, c2, r⟩ := hc k (by omega)
    exact ⟨b, o, rfl, hb, c1, da, c, c2, r⟩

/-- What the rounds of a copy have made so far. -/
def Made (w : World) (lo g k cap : Nat) (ps : List (Int × List Int)) (dv : Nat → Value) : Prop :=
  w.ownsRow lo 64 2 (.slice (some ⟨g, 0, none⟩) k cap) k (rowW k (pB ps) dv) ∧ (∀ i, i < k → Own .u8 5 w (g + 1) (dv i) (pD ps i)) ∧ (∀ i j, i < k → j < k → i ≠ j → Ne2 (dv i) (dv j))

theorem Own.none_or {k : IntKind} {e : TypeId} {w : World} {base B : Nat} {v : Value} {xs : List Int} (h : Own k e w base v xs) (hB : B < base) : v.ownBlock = none ∨ v.ownBlock ≠ some B := by
  cases hv : v.ownBlock with
  | none => exact .inl rfl
  | some q => have := (h.lt q hv).1; exact .inr (by simp; omega)

theorem Made.below {w w' : World} {lo g k cap : Nat} {ps : List (Int × List Int)} {dv : Nat → Value} (h : Made w lo g k cap ps dv) (hb : Below w.heap.size w w') : Made w' lo g k cap ps dv :=
  ⟨World.ownsRow.kept h.1 (row := none) ⟨hb.os, hb.tape, hb.output, hb.size, fun q hq _ => hb.block q hq⟩ (.inr (by simp [Value.ownBlock])), fun i hi => (h.2.1 i hi).below hb, h.2.2⟩

theorem made_step {wr w' w4 : World} {lo g k cap : Nat} {ps : List (Int × List Int)} {dv : Nat → Value} {v : Value} {ob : Obj} (hm : Made wr lo g k cap ps dv) (hgr : g < wr.heap.size) (bw : Below wr.heap.size wr w') (o' : Own .u8 5 w' wr.heap.size v (pD ps k))
    (ho4 : w4.ownsRow lo 64 2 (.slice (some ⟨g, 0, none⟩) (k + 1) cap) (k + 1) (rowW k (pB ps) dv ++ [.int .i64 (pB ps k), v])) (hg4 : (w'.alloc ob).grownBy w4 (some g)) : Made w4 lo g (k + 1) cap ps (dvSet dv k v) := by
  have G : w'.grownBy w4 (some g) := World.grownBy.trans (World.grownBy_alloc w' ob (some g)) hg4
  refine ⟨by rw [rowW_snoc]; exact ho4, fun i hi => ?_, fun i j hi hj hne => ?_⟩
  · unfold dvSet
    by_cases e : i = k
    · subst e
      rw [if_pos rfl]
      exact (o'.mono (by omega)).other G ((o'.mono (base' := g + 1) (by omega)).none_or (by omega))
    · rw [if_neg e]
      have h1 := hm.2.1 i (by omega)
      exact (h1.below bw).other G (h1.none_or (by omega))
  · unfold dvSet Ne2
    by_cases e : i = k
    · by_cases e' : j = k
      · omega
      · rw [if_pos e, if_neg e']
        cases hv : v.ownBlock with
        | none => exact .inl rfl
        | some q =>
          right; intro hq
          have := (o'.lt q hv).1; have := ((hm.2.1 j (by omega)).lt q hq.symm).2; omega
    · by_cases e' : j = k
      · rw [if_neg e, if_pos e']
        cases hv : (dv i).ownBlock with
        | none => exact .inl rfl
        | some q =>
          right; intro hq
          have := (o'.lt q hq.symm).1; have := ((hm.2.1 i (by omega)).lt q hv).2; omega
      · rw [if_neg e, if_neg e']
        exact hm.2.2 i j (by omega) (by omega) hne

theorem OwnD.mono {w : World} {lo lo' hi hi' : Nat} {vd vp : Value} {dur : List Int} {ps : List (Int × List Int)} {dv : Nat → Value} (ho : OwnD w lo hi vd vp dur ps dv) (hl : lo' ≤ lo) (hh : hi ≤ hi') : OwnD w lo' hi' vd vp dur ps dv :=
  ⟨ho.d.mono hl, ho.p.mono hl, fun g hg => Nat.lt_of_lt_of_le (ho.dlt g hg) hh, fun g hg => Nat.lt_of_lt_of_le (ho.plt g hg) hh, fun i hi g hg => Nat.lt_of_lt_of_le (ho.qlt i hi g hg) hh, ho.dp, ho.dq⟩

theorem made_ownD {w6 w7 : World} {lo g k cap : Nat} {vd : Value} {dur : List Int} {ps : List (Int × List Int)} {dv : Nat → Value} (hm : Made w6 lo g k cap ps dv) (hl : ps.length = k) (hb : Below w6.heap.size w6 w7) (hd : Own .u8 5 w7 w6.heap.size vd dur) (hlo : lo ≤ g) :
    OwnD w7 lo w7.heap.size vd (.slice (some ⟨g, 0, none⟩) k cap) dur ps dv := by
  subst hl
  have m7 := hm.below hb
  have hg6 := (World.ownsRow.lt hm.1 g rfl).2
  refine ⟨hd.mono (by omega), ⟨m7.1, fun i hi => (m7.2.1 i hi).mono (by omega), m7.2.2, fun i hi => ?_⟩, fun g hg => (hd.lt g hg).2, fun g' hg => (World.ownsRow.lt m7.1 g' hg).2, fun i hi g hg => ((m7.2.1 i hi).lt g hg).2, ?_, fun i hi => ?_⟩
  · exact (hm.2.1 i hi).none_or (B := g) (by omega)
  · right
    intro e
    have := (hd.lt g e.symm).1
    omega
  · cases hv : (dv i).ownBlock with
    | none => exact .inl hv
    | some q =>
      right; intro e
      rw [hv] at e
      have := (hd.lt q e.symm).1; have := ((hm.2.1 i hi).lt q hv).2; omega

theorem pB_app (ps : List (Int × List Int)) (p : Int × List Int) (i : Nat) (h : i < ps.length) : pB (ps ++ [p]) i = pB ps i := by unfold pB; simp [List.getD, List.getElem?_append_left h]
theorem pD_app (ps : List (Int × List Int)) (p : Int × List Int) (i : Nat) (h : i < ps.length) : pD (ps ++ [p]) i = pD ps i := by unfold pD; simp [List.getD, List.getElem?_append_left h]
theorem pB_last (ps : List (Int × List Int)) (p : Int × List Int) : pB (ps ++ [p]) ps.length = p.1 := by unfold pB; simp [List.getD]
theorem pD_last (ps : List (Int × List Int)) (p : Int × List Int) : pD (ps ++ [p]) ps.length = p.2 := by unfold pD; simp [List.getD]

set_option maxHeartbeats 1000000 in
set_option maxRecDepth 100000 in
theorem implWrite_loop (w : World) (va vb vx : Option Addr) (dl ca n cb cx : Nat) (dur xs : List Int) (ps : List (Int × List Int)) (x : Int) (hd : Rd .u8 w (.slice va dl ca) dur) (hdl : dur.length = dl) (hp : RdW w (.slice vb n cb) ps) (hl : ps.length = n)
    (hx : Rd .u8 w (.slice vx 64 cx) xs) (hxl : xs.length = 64) (hv : vldD dl ps = true) (hn : n < 2000) (hx0 : 0 ≤ x) (hx1 : x < (dl / 64 : Nat)) (hd1 : dl ≤ 1048576) (hpd : ∀ i, (pD ps i).length ≤ 1048576) :
    Calls Try.prog 44 #[.agg #[.slice va dl ca, .slice vb n cb], .int .i64 x, .slice vx 64 cx] w fun e w' => ∃ v1 v2 dv, e = .returned (.agg #[v1, v2]) ∧ OwnD w' w.heap.size w'.heap.size v1 v2 dur (ps ++ [(x, xs)]) dv ∧ Below w.heap.size w w' := by
  obtain ⟨i0, hi, hz0, hz1, hz2⟩ := info_parts Try.infoW
  have HD : Hid (Rd .u8 w (.slice va dl ca) dur) := hd
  have HP : Hid (RdW w (.slice vb n cb) ps) := hp
  have HX : Hid (Rd .u8 w (.slice vx 64 cx) xs) := hx
  have HL : Hid (ps.length = n) := hl
  have HXL : Hid (xs.length = 64) := hxl
  have HDL : Hid (dur.length = dl) := hdl
  have HPD : Hid (∀ i, (pD ps i).length ≤ 1048576) := hpd
  have BA : Hid (∀ o1 o2, Below w.heap.size w ((w.alloc o1).alloc o2)) := fun o1 o2 => ((Below.refl _ _).alloc (Nat.le_refl _) _).alloc (by simp) _
  obtain ⟨qs, hqs⟩ : ∃ qs, qs = ps ++ [(x, xs)] := ⟨_, rfl⟩
  have HQ : Hid (qs.length = n + 1 ∧ (∀ i, i < n → pB qs i = pB ps i ∧ pD qs i = pD ps i) ∧ pB qs n = x ∧ pD qs n = xs) := by
    subst hqs; subst hl
    exact ⟨by simp, fun i hi => ⟨pB_app _ _ _ hi, pD_app _ _ _ hi⟩, pB_last _ _, pD_last _ _⟩
  rw [← hqs]
  clear hqs hd hp hx hl hxl hdl hpd
  go_enter Try.func44, Try.ntmps44
  go_wp2_with fail
  have XA0 : Hid (BoxF ((w.alloc (.cells #[.slice va dl ca, .slice vb n cb] 38)).alloc (.cells #[.slice none 0 0, .slice none 0 0] 38)) w.heap.size (.slice va dl ca) (.slice vb n cb)) := (BoxF.new w _ _ _).below ((Below.refl _ _).alloc (Nat.le_refl _) _)
  have XR0 : Hid (BoxF ((w.alloc (.cells #[.slice va dl ca, .slice vb n cb] 38)).alloc (.cells #[.slice none 0 0, .slice none 0 0] 38)) (w.heap.size + 1) (.slice none 0 0) (.slice none 0 0)) := by
    have := BoxF.new (w.alloc (.cells #[.slice va dl ca, .slice vb n cb] 38)) (.slice none 0 0) (.slice none 0 0) 38
    show BoxF _ _ _ _
    simpa using this
  have B0 := BA.out (.cells #[.slice va dl ca, .slice vb n cb] 38) (.cells #[.slice none 0 0, .slice none 0 0] 38)
  have HB0 : Hid (Below w.heap.size w ((w.alloc (.cells #[.slice va dl ca, .slice vb n cb] 38)).alloc (.cells #[.slice none 0 0, .slice none 0 0] 38))) := B0
  clear B0 BA
  generalize (w.alloc (.cells #[.slice va dl ca, .slice vb n cb] 38)).alloc (.cells #[.slice none 0 0, .slice none 0 0] 38) = w0 at *
  refine (implValid_any _ va vb dl ca n cb ps (HP.out.below HB0.out) HL.out hd1 (by omega) HPD.out).mono ?_
  rintro e w1 ⟨rfl, b1⟩
  rw [hv]
  have HB1 : Hid (Below w.heap.size w w1) := HB0.out.trans (b1.mono HB0.out.size)
  have XA1 : Hid (BoxF w1 w.heap.size (.slice va dl ca) (.slice vb n cb)) := XA0.out.below b1
  have XR1 : Hid (BoxF w1 (w.heap.size + 1) (.slice none 0 0) (.slice none 0 0)) := XR0.out.below b1
  clear b1 XA0 XR0 HB0 hv
  obtain ⟨⟨z1, c0, c1⟩, -⟩ := XA1.out
  have t1 : ¬ (2000 : Int) ≤ (n : Int) := by omega
  have t1d : decide ((2000 : Int) ≤ (n : Int)) = false := by simpa using t1
  go_wp2_with fail
  refine (hasBlock_any _ va dl ca _ x hd1).mono ?_
  rintro e w2 ⟨rfl, b2⟩
  rw [show decide (0 ≤ x ∧ x < ((dl / 64 : Nat) : Int)) = true by rw [decide_eq_true_eq]; exact ⟨hx0, hx1⟩]
  have HB2 : Hid (Below w.heap.size w w2) := HB1.out.trans (b2.mono HB1.out.size)
  have XA2 : Hid (BoxF w2 w.heap.size (.slice va dl ca) (.slice vb n cb)) := XA1.out.below b2
  have XR2 : Hid (BoxF w2 (w.heap.size + 1) (.slice none 0 0) (.slice none 0 0)) := XR1.out.below b2
  have s2 := HB2.out.size
  clear b2 XA1 XR1 HB1 z1 c0 c1 hx0 hx1
  obtain ⟨⟨z1, c0, c1⟩, -⟩ := XA2.out
  have zr := XR2.out.1.1
  go_wp2_with (at_make; go_must (refine wpList_make_own _ rfl _ _ 36 rfl w2.heap.size 64 i0 (.agg #[.int .i64 0, .slice none 0 0]) 2 Try.underlying36 hi hz0 hz1 _ _ _ (n + 1) rfl rfl ?b1 ?b2 ?b3 ?b4 ?_))
  case b1 => omega
  case b2 => rw [hz2]; omega
  case b3 => unfold maxLen; omega
  case b4 => exact Nat.le_refl _
  intro w3 hown hgrow
  have B3 : Hid (Below w2.heap.size w2 w3) := (Below.refl _ _).grown hgrow (Nat.le_refl _) (by simp)
  have M3 : Hid (Made w3 w2.heap.size w2.heap.size 0 (n + 1) qs (fun _ => .slice none 0 0)) := ⟨hown, fun i hi => by omega, fun i j hi => by omega⟩
  have c03 := (B3.out.cell (p := ⟨w.heap.size, 0, none⟩) z1).trans c0
  have c13 := (B3.out.cell (p := ⟨w.heap.size, 1, none⟩) z1).trans c1
  clear hown hgrow c0 c1
  go_wp2
  clear c03 c13
  go_loopw [7, 38] (fun v i wr => ∃ (k : Nat) (dv : Nat → Value), k ≤ n ∧ i = .int .i64 k ∧ v = .slice (some ⟨w2.heap.size, 0, none⟩) k (n + 1) ∧ Hid (Made wr w2.heap.size w2.heap.size k (n + 1) qs dv) ∧ Below w2.heap.size w2 wr) (fun _ i _ => n - (intOf i).toNat)
  case atStart => exact ⟨0, _, Nat.zero_le _, rfl, rfl, M3, B3.out⟩
  case round =>
    clear M3 B3
    obtain ⟨k, dv, hk, rfl, rfl, HM, hg⟩ := hrel
    by_cases hlt : k < n
    · obtain ⟨b, o, rfl, hb, e1, da, dc, e2, r⟩ := HP.out.recAt HL.out hlt
      have BW : Hid (Below w.heap.size w wr) := HB2.out.trans (hg.mono s2)
      have e1' := (BW.out.cell (p := ⟨b, o + k * 2, none⟩) hb).trans e1
      have e2' := (BW.out.cell (p := ⟨b, o + k * 2 + 1, none⟩) hb).trans e2
      have RK : Hid (Rd .u8 wr (.slice da (pD ps k).length dc) (pD ps k)) := r.below BW.out
      have HG : Hid (Below w2.heap.size w2 wr) := hg
      have sg := hg.size
      have hltI : (k : Int) < (n : Int) := by omega
      clear e1 e2 r hg
      have hpk := HPD.out k
      go_wp2_with fail
      have BAl : Below wr.heap.size wr (wr.alloc (.cells #[.int .i64 (pB ps k), .slice da (pD ps k).length dc] 64)) := (Below.refl _ _).alloc (Nat.le_refl _) _
      have HCL : Hid (Calls Try.prog 78 #[.slice da (pD ps k).length dc] (wr.alloc (.cells #[.int .i64 (pB ps k), .slice da (pD ps k).length dc] 64)).drew fun e w' => ∃ a c, e = .returned (.slice a (pD ps k).length c) ∧ Hid (Own .u8 5 w' (wr.heap.size + 1) (.slice a (pD ps k).length c) (pD ps k)) ∧
          w'.cell? ⟨wr.heap.size, 0, none⟩ = some (.int .i64 (pB ps k)) ∧ w'.cell? ⟨wr.heap.size, 1, none⟩ = some (.slice da (pD ps k).length dc) ∧ Hid (Below wr.heap.size wr w')) := by
        refine (clone_any _ _ (pD ps k) ((RK.out.below BAl).drewN 1) (by omega)).mono ?_
        rintro e w' ⟨v', rfl, o', b'⟩
        obtain ⟨a, c, rfl⟩ := o'.slice
        have b2 : Below (wr.alloc (.cells #[.int .i64 (pB ps k), .slice da (pD ps k).length dc] 64)).heap.size (wr.alloc (.cells #[.int .i64 (pB ps k), .slice da (pD ps k).length dc] 64)) w' := (below_drewN' _ 1).trans b'
        have X := (Box2.new wr (.int .i64 (pB ps k)) (.slice da (pD ps k).length dc) 64).below b2
        exact ⟨a, c, rfl, by have := o'; simp at this; exact this, X.2.1, X.2.2, BAl.trans (b2.mono (by simp))⟩
      have HOW : Hid (∀ W', Below wr.heap.size wr W' → W'.ownsRow w2.heap.size 64 2 (.slice (some ⟨w2.heap.size, 0, none⟩) k (n + 1)) k (rowW k (pB qs) dv)) := fun W' hW' =>
        World.ownsRow.kept HM.out.1 (row := none) ⟨hW'.os, hW'.tape, hW'.output, hW'.size, fun q hq _ => hW'.block q hq⟩ (.inr (by simp [Value.ownBlock]))
      clear BAl e1' e2'
      go_region_law (first | (refine step_fits rfl _ _ 36 rfl w2.heap.size 64 i0 2 Try.underlying36 hi hz1 w2.heap.size k (n + 1) _ rfl ((HOW.out _ bw.out).alloc _) ⟨w'.heap.size, 0, none⟩ 1 1 [.int .i64 (pB ps k), .slice a (pD ps k).length c] rfl rfl (cell_two_new _ _ _ _) (by intro u hu; simp at hu; rcases hu with rfl | rfl <;> rfl) (by omega) ?_; intro w4 ho4 hg4) | (go_simp; go_at_call 78; refine HCL.out.mono ?_; rintro e w' ⟨a, c, rfl, o', k0, k1, bw⟩))
      all_goals
        have HM4 : Hid (Made w4 w2.heap.size w2.heap.size (k + 1) (n + 1) qs (dvSet dv k (.slice a (pD ps k).length c))) := by
          refine made_step HM.out (World.ownsRow.lt HM.out.1 _ rfl).2 bw.out ?_ ?_ hg4
          · rw [(HQ.out.2.1 k hlt).2]; exact o'.out.mono (by omega)
          · rw [(HQ.out.2.1 k hlt).1]; exact ho4
        have HG4 : Hid (Below w2.heap.size w2 w4) := ((HG.out.trans (bw.out.mono sg)).alloc (by have := bw.out.size; omega) _).grown hg4 (by have := bw.out.size; simp; omega) (by intro q hq; simp at hq; omega)
        clear ho4 hg4 o' k0 k1 bw HCL HOW HM HG
        go_wp2
        go_roundw
        case rel => exact ⟨k + 1, _, by omega, by go_num, rfl, HM4, HG4.out⟩
        case measure => simp [intOf]; omega
    · have hkn : k = n := by omega
      subst hkn
      have BW : Hid (Below w.heap.size w wr) := HB2.out.trans (hg.mono s2)
      have HG : Hid (Below w2.heap.size w2 wr) := hg
      have sg := hg.size
      have XAr : Hid (BoxF wr w.heap.size (.slice va dl ca) (.slice vb k cb)) := XA2.out.belowB HG.out z1
      have XRr : Hid (BoxF wr (w.heap.size + 1) (.slice none 0 0) (.slice none 0 0)) := XR2.out.belowB HG.out zr
      clear hg
      go_wp2_with fail
      refine (clone_any _ _ xs (HX.out.below BW.out) (by have := HXL.out; omega)).mono ?_
      rintro e w5 ⟨v5, rfl, o5, b5⟩
      obtain ⟨a5, c5, rfl⟩ := o5.slice
      have O5 : Hid (Own .u8 5 w5 wr.heap.size (.slice a5 xs.length c5) (pD qs k)) := by show Own _ _ _ _ _ _; rw [HQ.out.2.2.2]; exact o5
      have B5 : Hid (Below wr.heap.size wr w5) := b5
      have M5 : Hid (Made w5 w2.heap.size w2.heap.size k (k + 1) qs dv) := HM.out.below b5
      clear o5 b5
      go_wp2_with (at_builtin; go_must (refine wpList_append_fits _ rfl _ _ 36 rfl w2.heap.size 64 i0 2 Try.underlying36 hi hz1 w2.heap.size k (k + 1) _ rfl (M5.out.1.alloc _) ⟨w5.heap.size, 0, none⟩ 1 1 [.int .i64 x, .slice a5 xs.length c5] rfl rfl (cell_two_new _ _ _ _) (by intro u hu; simp at hu; rcases hu with rfl | rfl <;> rfl) (by omega) ?_))
      intro w6 ho6 hg6
      have M6 : Hid (Made w6 w2.heap.size w2.heap.size (k + 1) (k + 1) qs (dvSet dv k (.slice a5 xs.length c5))) := by
        refine made_step HM.out (World.ownsRow.lt HM.out.1 _ rfl).2 B5.out O5.out ?_ hg6
        rw [HQ.out.2.2.1]; exact ho6
      have B6 : Hid (Below w2.heap.size w2 w6) := ((HG.out.trans (B5.out.mono sg)).alloc (by have := B5.out.size; omega) _).grown hg6 (by have := B5.out.size; simp; omega) (by intro q hq; simp at hq; omega)
      have XA6 : Hid (BoxF w6 w.heap.size (.slice va dl ca) (.slice vb k cb)) := XA2.out.belowB B6.out z1
      have XR6 : Hid (BoxF w6 (w.heap.size + 1) (.slice none 0 0) (.slice none 0 0)) := XR2.out.belowB B6.out zr
      have BW6 : Hid (Below w.heap.size w w6) := HB2.out.trans (B6.out.mono s2)
      have s6 := B6.out.size
      clear ho6 hg6 XA2 XR2 XAr XRr M5 B5 O5 HM
      obtain ⟨⟨z6, c0, c1⟩, -⟩ := XA6.out
      go_wp2_with fail
      refine (clone_any _ _ dur (HD.out.below BW6.out) (by have := HDL.out; omega)).mono ?_
      rintro e w7 ⟨v7, rfl, o7, b7⟩
      obtain ⟨a7, c7, rfl⟩ := o7.slice
      have O7 : Hid (Own .u8 5 w7 w6.heap.size (.slice a7 dur.length c7) dur) := o7
      have B7 : Hid (Below w.heap.size w w7) := BW6.out.trans (b7.mono BW6.out.size)
      have D7 : Hid (OwnD w7 w2.heap.size w7.heap.size (.slice a7 dur.length c7) (.slice (some ⟨w2.heap.size, 0, none⟩) (k + 1) (k + 1)) dur qs (dvSet dv k (.slice a5 xs.length c5))) := made_ownD M6.out HQ.out.1 b7 o7 (Nat.le_refl _)
      have XR7 : Hid (BoxF w7 (w.heap.size + 1) (.slice none 0 0) (.slice none 0 0)) := XR6.out.below b7
      clear o7 b7 M6 XR6 XA6 c0 c1 z6
      obtain ⟨⟨z7, d0, d1⟩, f0, f1⟩ := XR7.out
      go_wp2
      refine bodyPost_ret (v := .agg #[.slice a7 dur.length c7, .slice (some ⟨w2.heap.size, 0, none⟩) (k + 1) (k + 1)]) (by simp [results, Try.results44, go_sem, d0, d1]) rfl ⟨_, _, dvSet dv k (.slice a5 xs.length c5), rfl, ?_, ?_⟩
      · refine OwnD.mono (lo := w2.heap.size) (hi := w7.heap.size) ?_ s2 (by simp)
        repeat (first | exact D7.out | refine OwnD.within (l := w.heap.size + 1) (h := w.heap.size + 2) ?_ (Within.setCell _ (Nat.le_refl _) (by omega) _ _) (.inr (by omega)))
      · repeat (first | exact B7.out | refine Below.setCell ?_ (by simp; try omega) _)

end Go.Proofs.Ytplfpfnedgjidaa
