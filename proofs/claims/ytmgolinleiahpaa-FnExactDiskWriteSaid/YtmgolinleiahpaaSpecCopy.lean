import Derived.Test.YtmgolinleiahpaaSpecWrite
namespace Go.Proofs.Ytmgolinleiahpaa
open Go.RowKit

theorem OwnD.setOff {w : World} {lo hi B j : Nat} {vd vk u : Value} {dur : List Int} {ps : List (Int × List Int)} {dv : Nat → Value} (ho : OwnD w lo hi vd vk dur ps dv) (h1 : vd.ownBlock ≠ some B) (h2 : vk.ownBlock ≠ some B) (h3 : ∀ i, i < ps.length → (dv i).ownBlock ≠ some B) : OwnD (w.setCell ⟨B, j, none⟩ u) lo hi vd vk dur ps dv :=
  ⟨ho.d.setAt (.inr h1), ⟨World.ownsRow.kept ho.p.1 (grownBy_set w w B j u (World.grownBy.refl _ _)) (.inr h2), fun i hi => (ho.p.2.1 i hi).setAt (.inr (h3 i hi)), ho.p.2.2.1, ho.p.2.2.2⟩, ho.dlt, ho.plt, ho.qlt, ho.dp, ho.dq⟩

/-- Where a copy stands before its record k: the box that holds it lies in block B. -/
structure CopyAt (w : World) (lo B k : Nat) (vd vk : Value) (dur : List Int) (ps : List (Int × List Int)) (dv : Nat → Value) : Prop where
  box : BoxF w B vd vk
  own : OwnD w lo w.heap.size vd vk dur (ps.take k) dv
  d : vd.ownBlock ≠ some B
  p : vk.ownBlock ≠ some B
  q : ∀ i, i < k → (dv i).ownBlock ≠ some B

theorem CopyAt.step {wr w' w4 : World} {lo B k g cap : Nat} {vd vk v : Value} {dur : List Int} {ps : List (Int × List Int)} {dv : Nat → Value} {ob : Obj} (h : CopyAt wr lo B k vd vk dur ps dv) (hk : k < ps.length) (hlo : lo ≤ wr.heap.size) (bw : Below wr.heap.size wr w') (o' : Own .u8 5 w' wr.heap.size v (pD ps k))
    (ho4 : w4.ownsRow lo 42 2 (.slice (some ⟨g, 0, none⟩) (k + 1) cap) (k + 1) (rowW k (pB ps) dv ++ [.int .i64 (pB ps k), v])) (hg4 : (w'.alloc ob).grownBy w4 vk.ownBlock) (hat : vk.ownBlock = some g ∨ g = w'.heap.size + 1) :
    CopyAt (w4.setCell ⟨B, 1, none⟩ (.slice (some ⟨g, 0, none⟩) (k + 1) cap)) lo B (k + 1) vd (.slice (some ⟨g, 0, none⟩) (k + 1) cap) dur ps (dvSet dv k v) := by
  have G : w'.grownBy w4 vk.ownBlock := World.grownBy.trans (World.grownBy_alloc w' ob _) hg4
  have hsz := bw.size
  have hB : B < wr.heap.size := h.box.1.1
  have htk : ps.take (k + 1) = ps.take k ++ [(pB ps k, pD ps k)] := by
    rw [List.take_add_one, List.getElem?_eq_getElem hk]
    have e : (pB ps k, pD ps k) = ps[k] := by unfold pB pD; simp [List.getD, hk]
    rw [e]; rfl
  have hlen : (ps.take k).length = k := by rw [List.length_take]; omega
  have hrow : rowW k (pB (ps.take k)) dv = rowW k (pB ps) dv := rowW_congr (fun i hi => by unfold pB; simp [List.getD, hi]) (fun _ _ => rfl)
  have hown := ownD_snoc (hi := wr.heap.size) h.own (Nat.le_refl _) hlo hlen bw o' (by rw [hrow]; exact ho4) hg4 hat
  have hp' : Value.ownBlock (.slice (some ⟨g, 0, none⟩) (k + 1) cap) ≠ some B := by
    simp only [Value.ownBlock, ne_eq, Option.some.injEq]
    rcases hat with e | e
    · intro eq; exact h.p (by rw [e, eq])
    · omega
  have hq' : ∀ i, i < k + 1 → (dvSet dv k v i).ownBlock ≠ some B := by
    intro i hi
    unfold dvSet
    by_cases e : i = k
    · rw [if_pos e]; intro eq; have := (o'.lt B eq).1; omega
    · rw [if_neg e]; exact h.q i (by omega)
  have hfar := G.cell_far ⟨B, 0, none⟩ (by show B < _; omega) (Ne.symm h.p)
  have hfar1 := G.cell_far ⟨B, 1, none⟩ (by show B < _; omega) (Ne.symm h.p)
  have hfz0 := G.frozen_far ⟨B, 0, none⟩ (by show B < _; omega) (Ne.symm h.p)
  have hfz1 := G.frozen_far ⟨B, 1, none⟩ (by show B < _; omega) (Ne.symm h.p)
  have hbox' := h.box.below bw
  refine ⟨?_, ?_, h.d, hp', hq'⟩
  · have c0 := hfar.trans hbox'.1.2.1
    have c1 := hfar1.trans hbox'.1.2.2
    have f0 := hfz0.trans hbox'.2.1
    have f1 := hfz1.trans hbox'.2.2
    have hs4 := G.size
    refine ⟨⟨by simp; omega, ?_, ?_⟩, ?_, ?_⟩
    · rw [World.cell?_setCell_other _ _ _ _ (by simp)]; exact c0
    · exact World.cell?_setCell_same _ _ _ c1
    · simp [f0]
    · simp [f1]
  · rw [htk]
    have := hown.setOff (j := 1) (u := .slice (some ⟨g, 0, none⟩) (k + 1) cap) h.d hp' (B := B) (fun i hi => hq' i (by simp at hi; omega))
    simpa using this

set_option maxHeartbeats 8000000 in
set_option maxRecDepth 100000 in
theorem l1CopyDisk_any (w : World) (va vb : Option Addr) (dl ca n cb : Nat) (dur : List Int) (ps : List (Int × List Int)) (hd : Rd .u8 w (.slice va dl ca) dur) (hdl : dur.length = dl) (hp : RdW w (.slice vb n cb) ps) (hl : ps.length = n) (hn : n ≤ 1048576) (hd1 : dl ≤ 1048576) (hpd : ∀ i, (pD ps i).length ≤ 1048576) :
    Calls Try.prog 48 #[.agg #[.slice va dl ca, .slice vb n cb]] w fun e w' => ∃ v1 v2 dv, e = .returned (.agg #[v1, v2]) ∧ OwnD w' w.heap.size w'.heap.size v1 v2 dur ps dv ∧ Below w.heap.size w w' := by
  obtain ⟨i0, hi, hz0, hz1, hz2⟩ := info_parts Try.infoW
  have HD : Hid (Rd .u8 w (.slice va dl ca) dur) := hd
  have HP : Hid (RdW w (.slice vb n cb) ps) := hp
  have HL : Hid (ps.length = n) := hl
  have HDL : Hid (dur.length = dl) := hdl
  have HPD : Hid (∀ i, (pD ps i).length ≤ 1048576) := hpd
  have BA : Hid (∀ o1 o2, Below w.heap.size w ((w.alloc o1).alloc o2)) := fun o1 o2 => ((Below.refl _ _).alloc (Nat.le_refl _) _).alloc (by simp) _
  clear hd hp hl hdl hpd
  go_enter Try.func48, Try.ntmps48
  go_wp2_with fail
  have XA0 : Hid (BoxF ((w.alloc (.cells #[.slice va dl ca, .slice vb n cb] 32)).alloc (.cells #[.slice none 0 0, .slice none 0 0] 32)) w.heap.size (.slice va dl ca) (.slice vb n cb)) := (BoxF.new w _ _ _).below ((Below.refl _ _).alloc (Nat.le_refl _) _)
  have XR0 : Hid (BoxF ((w.alloc (.cells #[.slice va dl ca, .slice vb n cb] 32)).alloc (.cells #[.slice none 0 0, .slice none 0 0] 32)) (w.heap.size + 1) (.slice none 0 0) (.slice none 0 0)) := by
    have := BoxF.new (w.alloc (.cells #[.slice va dl ca, .slice vb n cb] 32)) (.slice none 0 0) (.slice none 0 0) 32
    show BoxF _ _ _ _
    simpa using this
  have B0 := BA.out (.cells #[.slice va dl ca, .slice vb n cb] 32) (.cells #[.slice none 0 0, .slice none 0 0] 32)
  have HB0 : Hid (Below w.heap.size w ((w.alloc (.cells #[.slice va dl ca, .slice vb n cb] 32)).alloc (.cells #[.slice none 0 0, .slice none 0 0] 32))) := B0
  clear B0 BA
  generalize (w.alloc (.cells #[.slice va dl ca, .slice vb n cb] 32)).alloc (.cells #[.slice none 0 0, .slice none 0 0] 32) = w0 at *
  refine (l1Copy_any _ _ dur (HD.out.below HB0.out) (by have := HDL.out; omega)).mono ?_
  rintro e w1 ⟨v1, rfl, o1, b1⟩
  obtain ⟨a1, c1, rfl⟩ := o1.slice
  have HB1 : Hid (Below w.heap.size w w1) := HB0.out.trans (b1.mono HB0.out.size)
  have XA1 : Hid (BoxF w1 w.heap.size (.slice va dl ca) (.slice vb n cb)) := XA0.out.below b1
  have XR1 : Hid (BoxF w1 (w.heap.size + 1) (.slice none 0 0) (.slice none 0 0)) := XR0.out.below b1
  have O1 : Hid (Own .u8 5 w1 w0.heap.size (.slice a1 dur.length c1) dur) := o1
  have s0 := HB0.out.size
  have XA0z := XA0.out.1.1
  have XR0z := XR0.out.1.1
  have b1s := b1.size
  clear b1 o1 XA0 XR0 HB0
  have C1 : Hid (CopyAt (w1.alloc (.cells #[.slice a1 dur.length c1, .slice none 0 0] 32)) w0.heap.size w1.heap.size 0 (.slice a1 dur.length c1) (.slice none 0 0) dur ps (fun _ => .slice none 0 0)) := by
    have B2 : Below w1.heap.size w1 (w1.alloc (.cells #[.slice a1 dur.length c1, .slice none 0 0] 32)) := (Below.refl _ _).alloc (Nat.le_refl _) _
    refine ⟨BoxF.new _ _ _ _, ⟨O1.out.below B2, ⟨World.ownsRow_nil _ _ _ _, fun i hi => by simp at hi, fun i j hi => by simp at hi, fun i hi => by simp at hi⟩, fun g hg => ?_, fun g hg => by simp [Value.ownBlock] at hg, fun i hi => by simp at hi, .inl rfl, fun i hi => by simp at hi⟩, ?_, by simp [Value.ownBlock], fun i hi => by omega⟩
    · have := (O1.out.lt g hg).2; simp; omega
    · intro e; have := (O1.out.lt _ e).2; omega
  have HW : Hid (Below w.heap.size w (w1.alloc (.cells #[.slice a1 dur.length c1, .slice none 0 0] 32))) := HB1.out.alloc HB1.out.size _
  have XA2 : Hid (BoxF (w1.alloc (.cells #[.slice a1 dur.length c1, .slice none 0 0] 32)) w.heap.size (.slice va dl ca) (.slice vb n cb)) := XA1.out.below ((Below.refl _ _).alloc (Nat.le_refl _) _)
  have XR2 : Hid (BoxF (w1.alloc (.cells #[.slice a1 dur.length c1, .slice none 0 0] 32)) (w.heap.size + 1) (.slice none 0 0) (.slice none 0 0)) := XR1.out.below ((Below.refl _ _).alloc (Nat.le_refl _) _)
  go_wp2
  go_loopw [4] (fun i wr => ∃ (k : Nat) (dv : Nat → Value) (vk : Value), k ≤ n ∧ i = .int .i64 k ∧ Hid (CopyAt wr w0.heap.size w1.heap.size k (.slice a1 dur.length c1) vk dur ps dv) ∧ Hid (Below w0.heap.size (w1.alloc (.cells #[.slice a1 dur.length c1, .slice none 0 0] 32)) wr)) (fun i _ => n - (intOf i).toNat)
  case atStart => exact ⟨0, _, _, Nat.zero_le _, rfl, C1, Below.refl _ _⟩
  case round =>
    clear C1
    obtain ⟨k, dv, vk, hk, rfl, HC, HG⟩ := hrel
    have sg := HG.out.size
    have zA := XA1.out.1.1
    have zR := XR1.out.1.1
    obtain ⟨⟨z3, x0, x1⟩, -⟩ := XA2.out.belowB HG.out XA0z
    clear x0
    by_cases hlt : k < n
    · obtain ⟨b, o, rfl, hb, e1, da, dc, e2, r⟩ := HP.out.recAt HL.out hlt
      have BW : Hid (Below w.heap.size w wr) := HW.out.trans (HG.out.mono s0)
      have e1' := (BW.out.cell (p := ⟨b, o + k * 2, none⟩) hb).trans e1
      have e2' := (BW.out.cell (p := ⟨b, o + k * 2 + 1, none⟩) hb).trans e2
      have RK : Hid (Rd .u8 wr (.slice da (pD ps k).length dc) (pD ps k)) := r.below BW.out
      have hltI : (k : Int) < (n : Int) := by omega
      have hpk := HPD.out k
      clear e1 e2 r
      obtain ⟨⟨z4, -, y1⟩, -, y2⟩ := HC.out.box
      have n1 : w1.heap.size ≠ w.heap.size := by omega
      have n2 : w1.heap.size ≠ b := by omega
      have HCL : Hid (Calls Try.prog 49 #[.slice da (pD ps k).length dc] wr.drew fun e w' => ∃ a c, e = .returned (.slice a (pD ps k).length c) ∧ Hid (Own .u8 5 w' wr.heap.size (.slice a (pD ps k).length c) (pD ps k)) ∧
          w'.cell? ⟨w.heap.size, 1, none⟩ = some (.slice (some ⟨b, o, none⟩) n cb) ∧ w'.cell? ⟨b, o + k * 2, none⟩ = some (.int .i64 (pB ps k)) ∧ w'.cell? ⟨b, o + k * 2 + 1, none⟩ = some (.slice da (pD ps k).length dc) ∧ w'.cell? ⟨w1.heap.size, 1, none⟩ = some vk ∧ w'.frozen? ⟨w1.heap.size, 1, none⟩ = false ∧ Hid (Below wr.heap.size wr w')) := by
        refine (l1Copy_any _ _ (pD ps k) (RK.out.drewN 1) (by omega)).mono ?_
        rintro e w' ⟨v', rfl, o', b'⟩
        obtain ⟨a, c, rfl⟩ := o'.slice
        have b2 : Below wr.heap.size wr w' := (below_drewN' _ 1).trans b'
        exact ⟨a, c, rfl, o', (b2.cell (p := ⟨w.heap.size, 1, none⟩) (by show _ < _; omega)).trans x1, (b2.cell (p := ⟨b, o + k * 2, none⟩) (by show b < _; have := BW.out.size; omega)).trans e1', (b2.cell (p := ⟨b, o + k * 2 + 1, none⟩) (by show b < _; have := BW.out.size; omega)).trans e2', (b2.cell (p := ⟨w1.heap.size, 1, none⟩) z4).trans y1, (b2.frozen (p := ⟨w1.heap.size, 1, none⟩) z4).trans y2, b2⟩
      have HOW : Hid (∀ W' ob, Below wr.heap.size wr W' → (W'.alloc ob).ownsRow w0.heap.size 42 2 vk k (rowW k (pB ps) dv)) := by
        intro W' ob hW'
        have h0 := HC.out.own.p.1
        rw [show (ps.take k).length = k by rw [List.length_take, HL.out]; omega, show rowW k (pB (ps.take k)) dv = rowW k (pB ps) dv from rowW_congr (fun i hi => by unfold pB; simp [List.getD, hi]) (fun _ _ => rfl)] at h0
        refine World.ownsRow.alloc (World.ownsRow.kept h0 (row := none) ⟨hW'.os, hW'.tape, hW'.output, hW'.size, fun q hq _ => hW'.block q hq⟩ ?_) ob
        cases vk.ownBlock with
        | none => exact .inl rfl
        | some q => exact .inr (by simp)
      have HK4 : Hid (∀ W' W4 ob, Below wr.heap.size wr W' → (World.alloc W' ob).grownBy W4 vk.ownBlock → W4.cell? ⟨w.heap.size, 1, none⟩ = some (.slice (some ⟨b, o, none⟩) n cb) ∧ W4.cell? ⟨b, o + k * 2, none⟩ = some (.int .i64 (pB ps k)) ∧ W4.cell? ⟨b, o + k * 2 + 1, none⟩ = some (.slice da (pD ps k).length dc) ∧ W4.cell? ⟨w1.heap.size, 1, none⟩ = some vk ∧ W4.frozen? ⟨w1.heap.size, 1, none⟩ = false) := by
        intro W' W4 ob hW' hG
        have hs := hW'.size
        have hv : ∀ q, vk.ownBlock = some q → w0.heap.size ≤ q := fun q hq => (World.ownsRow.lt HC.out.own.p.1 q hq).1
        have hA : ∀ q, q < w0.heap.size → some q ≠ vk.ownBlock := fun q hq e => by have := hv q e.symm; omega
        have hcell : ∀ p : Addr, p.block < wr.heap.size → some p.block ≠ vk.ownBlock → W4.cell? p = wr.cell? p ∧ W4.frozen? p = wr.frozen? p := by
          intro p hp hne
          have hp2 : p.block < (World.alloc W' ob).heap.size := by simp; omega
          have hb2 : Below wr.heap.size wr (World.alloc W' ob) := hW'.alloc hs _
          exact ⟨(hG.cell_far p hp2 hne).trans (hb2.cell hp), (hG.frozen_far p hp2 hne).trans (hb2.frozen hp)⟩
        have hbs := BW.out.size
        exact ⟨(hcell ⟨w.heap.size, 1, none⟩ (by show w.heap.size < _; omega) (hA _ (by show w.heap.size < _; exact XA0z))).1.trans x1, (hcell ⟨b, o + k * 2, none⟩ (by show b < _; omega) (hA b (by omega))).1.trans e1', (hcell ⟨b, o + k * 2 + 1, none⟩ (by show b < _; omega) (hA b (by omega))).1.trans e2',
          (hcell ⟨w1.heap.size, 1, none⟩ z4 (Ne.symm HC.out.p)).1.trans y1, (hcell ⟨w1.heap.size, 1, none⟩ z4 (Ne.symm HC.out.p)).2.trans y2⟩
      have HEND : Hid (∀ (W' W4 : World) (ob : Obj) (g cap : Nat) (v : Value), Below wr.heap.size wr W' → Own .u8 5 W' wr.heap.size v (pD ps k) → W4.ownsRow w0.heap.size 42 2 (.slice (some ⟨g, 0, none⟩) (k + 1) cap) (k + 1) (rowW k (pB ps) dv ++ [.int .i64 (pB ps k), v]) → (W'.alloc ob).grownBy W4 vk.ownBlock → (vk.ownBlock = some g ∨ g = W'.heap.size + 1) →
          Hid (CopyAt (W4.setCell ⟨w1.heap.size, 1, none⟩ (.slice (some ⟨g, 0, none⟩) (k + 1) cap)) w0.heap.size w1.heap.size (k + 1) (.slice a1 dur.length c1) (.slice (some ⟨g, 0, none⟩) (k + 1) cap) dur ps (dvSet dv k v)) ∧ Hid (Below w0.heap.size (w1.alloc (.cells #[.slice a1 dur.length c1, .slice none 0 0] 32)) (W4.setCell ⟨w1.heap.size, 1, none⟩ (.slice (some ⟨g, 0, none⟩) (k + 1) cap)))) := by
        intro W' W4 ob g cap v hW o4 r4 g4 at4
        have hs : w0.heap.size ≤ wr.heap.size := by simp at sg; omega
        refine ⟨HC.out.step (by rw [HL.out]; exact hlt) hs hW o4 r4 g4 at4, ?_⟩
        have := ((HG.out.trans (hW.mono hs)).alloc (Nat.le_trans hs hW.size) ob).grown g4 (by have := hW.size; simp; omega) (fun q hq => (World.ownsRow.lt HC.out.own.p.1 q hq).1)
        exact this.setCell (by show w0.heap.size ≤ w1.heap.size; exact b1s) _
      have hnum1 : k + 1 ≤ maxLen := by unfold maxLen; omega
      have hnum2 : (k + 1) * 32 ≤ 140737488355328 := by omega
      have hk0 : (0 : Int) ≤ (k : Int) := Int.natCast_nonneg _
      go_wp2_with fail
      have BW0 : Hid (w0.heap.size ≤ wr.heap.size) := by show _ ≤ _; simp at sg; omega
      clear RK HB1 XA1 XR1 XA2 O1 HDL HD
      go_region_law (first
          | (refine step_append_lies _ (by rfl) _ _ _ (by rfl) w0.heap.size 42 i0 _ 2 32 Try.underlying30 hi hz0 hz1 hz2 rfl (by omega) vk k (rowW k (pB ps) dv) (by rfl) (HOW.out w' _ bw.out) ⟨w'.heap.size, 0, none⟩ 1 1 [.int .i64 (pB ps k), .slice a (pD ps k).length c] (by rfl) (by rfl) (cell_two_new _ _ _ _) (by intro u hu; simp at hu; rcases hu with rfl | rfl <;> rfl)
              (by omega) hnum1 hnum2 (by have := bw.out.size; have := BW0.out; simp; omega) (w'.heap.size + 1) (by simp) ?_; intro g4 cap4 w4 ho4 hg4 hat4 hlt4; obtain ⟨q1, q2, q3, q4, q5⟩ := HK4.out _ _ _ bw.out hg4)
          | (go_simp; go_at_call 49; refine HCL.out.mono ?_; rintro e w' ⟨a, c, rfl, o', k1, k2, k3, k4, k5, bw⟩; have k6 : (w'.alloc (.cells #[.int .i64 (pB ps k), .slice a (pD ps k).length c] 42)).cell? ⟨w1.heap.size, 1, none⟩ = some vk := (World.cell?_alloc_some _ _ _ (by rw [k4]; rfl)).trans k4))
      all_goals
        obtain ⟨C4, G4⟩ := HEND.out _ _ _ _ _ _ bw.out o'.out ho4 hg4 hat4
        clear ho4 hg4 hat4 hlt4 q1 q2 q3 q4 q5 o' bw k1 k2 k3 k4 k5 k6 HK4 HOW HCL HEND HC HG
        go_wp2
        go_roundw
        case rel => exact ⟨k + 1, _, _, by omega, by go_num, C4, G4⟩
        case measure => simp [intOf]; omega
    · have hkn : k = n := by omega
      subst hkn
      obtain ⟨⟨z4, y0, y1⟩, -⟩ := HC.out.box
      obtain ⟨⟨z5, d0, d1⟩, f0, f1⟩ := XR2.out.belowB HG.out XR0z
      have HB : Hid (Below w.heap.size w wr) := HW.out.trans (HG.out.mono s0)
      have OD : Hid (OwnD wr w0.heap.size wr.heap.size (.slice a1 dur.length c1) vk dur ps dv) := by
        have := HC.out.own
        rw [List.take_of_length_le (by rw [HL.out]; exact Nat.le_refl _)] at this
        exact this
      obtain ⟨a2, c2, rfl⟩ := OD.out.p.slice
      clear HC HG
      go_wp2
      refine bodyPost_ret (v := .agg #[.slice a1 dur.length c1, .slice a2 ps.length c2]) (by simp [results, Try.results48, go_sem, d0, d1]) rfl ⟨_, _, dv, rfl, ?_, ?_⟩
      · refine OwnD.mono (lo := w0.heap.size) (hi := wr.heap.size) ?_ s0 (by simp)
        repeat (first | exact OD.out | refine OwnD.within (l := w.heap.size + 1) (h := w.heap.size + 2) ?_ (Within.setCell _ (Nat.le_refl _) (by omega) _ _) (.inr (by omega)))
      · repeat (first | exact HB.out | refine Below.setCell ?_ (by simp; try omega) _)

end Go.Proofs.Ytmgolinleiahpaa
