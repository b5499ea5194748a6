import Derived.Test.YtoljmlhnbmeloaaJ03
import Derived.Test.YtoljmlhnbmeloaaJ02
import Derived.Deep.RegionHeld3
import Derived.Deep.CutRange
namespace Go.Proofs.Ytoljmlhnbmeloaa
open Go.RowKit

theorem OwnD.setOff {w : World} {lo hi B j : Nat} {vd vk u : Value} {dur : List Int} {ps : List (Int × List Int)} {dv : Nat → Value} (ho : OwnD w lo hi vd vk dur ps dv) (h1 : vd.ownBlock ≠ some B) (h2 : vk.ownBlock ≠ some B) (h3 : ∀ i, i < ps.length → (dv i).ownBlock ≠ some B) : OwnD (w.setCell ⟨B, j, none⟩ u) lo hi vd vk dur ps dv :=
  ⟨ho.d.setAt (.inr h1), ⟨World.ownsRow.kept ho.p.1 (grownBy_set w w B j u (World.grownBy.refl _ _)) (.inr h2), fun i hi => (ho.p.2.1 i hi).setAt (.inr (h3 i hi)), ho.p.2.2.1, ho.p.2.2.2⟩, ho.dlt, ho.plt, ho.qlt, ho.dp, ho.dq⟩

/-- Where a copy stands before its record k: the box that holds it lies in block B. -/
structure CopyAt (w : World) (lo B k : Nat) (vd vk : Value) (dur : List Int) (ps : List (Int × List Int)) (dv : Nat → Value) : Prop where
  box : BoxF w B vd vk
  own : OwnD w lo w.heap.size vd vk dur (ps.take k) dv
  d : vd.ownBlock ≠ some B
  p : vk.ownBlock ≠ some B
  q : ∀ i, i < k → (dv i).ownBlock ≠ some B

theorem CopyAt.step {wr w' w4 : World} {lo B k g cap : Nat} {vd vk v : Value} {dur : List Int} {ps : List (Int × List Int)} {dv : Nat → Value} {ob : Obj} (h : CopyAt wr lo B k vd vk dur ps dv) (hk : k < ps.length) (hlo : lo ≤ wr.heap.size) (bw : Below wr.heap.size wr w') (o' : Own .u8 5 w' wr.heap.size v (pD ps k))
    (ho4 : w4.ownsRow lo 42 2 (.slice (some ⟨g, 0, none⟩) (k + 1) cap) (k + 1) (rowW k (pB ps) dv ++ [.int .i64 (pB ps k), v])) (hg4 : (w'.alloc ob).grownBy w4 vk.ownBlock) (hat : vk.ownBlock = some g ∨ g = w'.heap.size + 1) :
    CopyAt (w4.setCell ⟨B, 1, none⟩ (.slice (some ⟨g, 0, none⟩) (k + 1) cap)) lo B (k + 1) vd (.slice (some ⟨g, 0, none⟩) (k + 1) cap) dur ps (dvSet dv k v) := by
  have G : w'.grownBy w4 vk.ownBlock := World.grownBy.trans (World.grownBy_alloc w' ob _) hg4
  have hsz := bw.size
  have hB : B < wr.heap.size := h.box.1.1
  have htk : ps.take (k + 1) = ps.take k ++ [(pB ps k, pD ps k)] := by
    rw [List.take_add_one, List.getElem?_eq_getElem hk]
    have e : (pB ps k, pD ps k) = ps[k] := by unfold pB pD; simp [List.getD, hk]
    rw [e]; rfl
  have hlen : (ps.take k).length = k := by rw [List.length_take]; omega
  have hrow : rowW k (pB (ps.take k)) dv = rowW k (pB ps) dv := rowW_congr (fun i hi => by unfold pB; simp [List.getD, hi]) (fun _ _ => rfl)
  have hown := ownD_snoc (hi := wr.heap.size) h.own (Nat.le_refl _) hlo hlen bw o' (by rw [hrow]; exact ho4) hg4 hat
  have hp' : Value.ownBlock (.slice (some ⟨g, 0, none⟩) (k + 1) cap) ≠ some B := by
    simp only [Value.ownBlock, ne_eq, Option.some.injEq]
    rcases hat with e | e
    · intro eq; exact h.p (by rw [e, eq])
    · omega
  have hq' : ∀ i, i < k + 1 → (dvSet dv k v i).ownBlock ≠ some B := by
    intro i hi
    unfold dvSet
    by_cases e : i = k
    · rw [if_pos e]; intro eq; have := (o'.lt B eq).1; omega
    · rw [if_neg e]; exact h.q i (by omega)
  have hfar := G.cell_far ⟨B, 0, none⟩ (by show B < _; omega) (Ne.symm h.p)
  have hfar1 := G.cell_far ⟨B, 1, none⟩ (by show B < _; omega) (Ne.symm h.p)
  have hfz0 := G.frozen_far ⟨B, 0, none⟩ (by show B < _; omega) (Ne.symm h.p)
  have hfz1 := G.frozen_far ⟨B, 1, none⟩ (by show B < _; omega) (Ne.symm h.p)
  have hbox' := h.box.below bw
  refine ⟨?_, ?_, h.d, hp', hq'⟩
  · have c0 := hfar.trans hbox'.1.2.1
    have c1 := hfar1.trans hbox'.1.2.2
    have f0 := hfz0.trans hbox'.2.1
    have f1 := hfz1.trans hbox'.2.2
    have hs4 := G.size
    refine ⟨⟨by simp; omega, ?_, ?_⟩, ?_, ?_⟩
    · rw [World.cell?_setCell_other _ _ _ _ (by simp)]; exact c0
    · exact World.cell?_setCell_same _ _ _ c1
    · simp [f0]
    · simp [f1]
  · rw [htk]
    have := hown.setOff (j := 1) (u := .slice (some ⟨g, 0, none⟩) (k + 1) cap) h.d hp' (B := B) (fun i hi => hq' i (by simp at hi; omega))
    simpa using this

set_option maxHeartbeats 8000000 in
set_option maxRecDepth 100000 in
theorem l1CopyDisk_any (w : World) (va vb : Option Addr) (dl ca n cb : Nat) (dur : List Int) (ps : List (Int × List Int)) (hd : Rd .u8 w (.slice va dl ca) dur) (hdl : dur.length = dl) (hp : RdW w (.slice vb n cb) ps) (hl : ps.length = n) (hn : n ≤ 1048576) (hd1 : dl ≤ 1048576) (hpd : ∀ i, (pD ps i).length ≤ 1048576) :
    Calls Try.prog 48 #[.agg #[.slice va dl ca, .slice vb n cb]] w fun e w' => ∃ v1 v2 dv, e = .returned (.agg #[v1, v2]) ∧ OwnD w' w.heap.size w'.heap.size v1 v2 dur ps dv ∧ Below w.heap.size w w' := by
  obtain ⟨i0, hi, hz0, hz1, hz2⟩ := info_parts Try.infoW
  have HD : Hid (Rd .u8 w (.slice va dl ca) dur) := hd
  have HP : Hid (RdW w (.slice vb n cb) ps) := hp
  have HL : Hid (ps.length = n) := hl
  have HDL : Hid (dur.length = dl) := hdl
  have HPD : Hid (∀ i, (pD ps i).length ≤ 1048576) := hpd
  have BA : Hid (∀ o1 o2, Below w.heap.size w ((w.alloc o1).alloc o2)) := fun o1 o2 => ((Below.refl _ _).alloc (Nat.le_refl _) _).alloc (by simp) _
  clear hd hp hl hdl hpd
  go_enter Try.func48, Try.ntmps48
  go_wp2_with fail
  have XA0 : Hid (BoxF ((w.alloc (.cells #[.slice va dl ca, .slice vb n cb] 32)).alloc (.cells #[.slice none 0 0, .slice none 0 0] 32)) w.heap.size (.slice va dl ca) (.slice vb n cb)) := (BoxF.new w _ _ _).below ((Below.refl _ _).alloc (Nat.le_refl _) _)
  have XR0 : Hid (BoxF ((w.alloc (.cells #[.slice va dl ca, .slice vb n cb] 32)).alloc (.cells #[.slice none 0 0, .slice none 0 0] 32)) (w.heap.size + 1) (.slice none 0 0) (.slice none 0 0)) := by
    have := BoxF.new (w.alloc (.cells #[.slice va dl ca, .slice vb n cb] 32)) (.slice none 0 0) (.slice none 0 0) 32
    show BoxF _ _ _ _
    simpa using this
  have B0 := BA.out (.cells #[.slice va dl ca, .slice vb n cb] 32) (.cells #[.slice none 0 0, .slice none 0 0] 32)
  have HB0 : Hid (Below w.heap.size w ((w.alloc (.cells #[.slice va dl ca, .slice vb n cb] 32)).alloc (.cells #[.slice none 0 0, .slice none 0 0] 32))) := B0
  clear B0 BA
  generalize (w.alloc (.cells #[.slice va dl ca, .slice vb n cb] 32)).alloc (.cells #[.slice none 0 0, .slice none 0 0] 32) = w0 at *
  refine (l1Copy_any _ _ dur (HD.out.below HB0.out) (by have := HDL.out; omega)).mono ?_
  rintro e w1 ⟨v1, rfl, o1, b1⟩
  obtain ⟨a1, c1, rfl⟩ := o1.slice
  have HB1 : Hid (Below w.heap.size w w1) := HB0.out.trans (b1.mono HB0.out.size)
  have XA1 : Hid (BoxF w1 w.heap.size (.slice va dl ca) (.slice vb n cb)) := XA0.out.below b1
  have XR1 : Hid (BoxF w1 (w.heap.size + 1) (.slice none 0 0) (.slice none 0 0)) := XR0.out.below b1
  have O1 : Hid (Own .u8 5 w1 w0.heap.size (.slice a1 dur.length c1) dur) := o1
  have s0 := HB0.out.size
  have XA0z := XA0.out.1.1
  have XR0z := XR0.out.1.1
  have b1s := b1.size
  clear b1 o1 XA0 XR0 HB0
  have C1 : Hid (CopyAt (w1.alloc (.cells #[.slice a1 dur.length c1, .slice none 0 0] 32)) w0.heap.size w1.heap.size 0 (.slice a1 dur.length c1) (.slice none 0 0) dur ps (fun _ => .slice none 0 0)) := by
    have B2 : Below w1.heap.size w1 (w1.alloc (.cells #[.slice a1 dur.length c1, .slice none 0 0] 32)) := (Below.refl _ _).alloc (Nat.le_refl _) _
    refine ⟨BoxF.new _ _ _ _, ⟨O1.out.below B2, ⟨World.ownsRow_nil _ _ _ _, fun i hi => by simp at hi, fun i j hi => by simp at hi, fun i hi => by simp at hi⟩, fun g hg => ?_, fun g hg => by simp [Value.ownBlock] at hg, fun i hi => by simp at hi, .inl rfl, fun i hi => by simp at hi⟩, ?_, by simp [Value.ownBlock], fun i hi => by omega⟩
    · have := (O1.out.lt g hg).2; simp; omega
    · intro e; have := (O1.out.lt _ e).2; omega
  have HW : Hid (Below w.heap.size w (w1.alloc (.cells #[.slice a1 dur.length c1, .slice none 0 0] 32))) := HB1.out.alloc HB1.out.size _
  have XA2 : Hid (BoxF (w1.alloc (.cells #[.slice a1 dur.length c1, .slice none 0 0] 32)) w.heap.size (.slice va dl ca) (.slice vb n cb)) := XA1.out.below ((Below.refl _ _).alloc (Nat.le_refl _) _)
  have XR2 : Hid (BoxF (w1.alloc (.cells #[.slice a1 dur.length c1, .slice none 0 0] 32)) (w.heap.size + 1) (.slice none 0 0) (.slice none 0 0)) := XR1.out.below ((Below.refl _ _).alloc (Nat.le_refl _) _)
  go_wp2
  go_loopw [4] (fun i wr => ∃ (k : Nat) (dv : Nat → Value) (vk : Value), k ≤ n ∧ i = .int .i64 k ∧ Hid (CopyAt wr w0.heap.size w1.heap.size k (.slice a1 dur.length c1) vk dur ps dv) ∧ Hid (Below w0.heap.size (w1.alloc (.cells #[.slice a1 dur.length c1, .slice none 0 0] 32)) wr)) (fun i _ => n - (intOf i).toNat)
  case atStart => exact ⟨0, _, _, Nat.zero_le _, rfl, C1, Below.refl _ _⟩
  case round =>
    clear C1
    obtain ⟨k, dv, vk, hk, rfl, HC, HG⟩ := hrel
    have sg := HG.out.size
    have zA := XA1.out.1.1
    have zR := XR1.out.1.1
    obtain ⟨⟨z3, x0, x1⟩, -⟩ := XA2.out.belowB HG.out XA0z
    clear x0
    by_cases hlt : k < n
    · obtain ⟨b, o, rfl, hb, e1, da, dc, e2, r⟩ := HP.out.recAt HL.out hlt
      have BW : Hid (Below w.heap.size w wr) := HW.out.trans (HG.out.mono s0)
      have e1' := (BW.out.cell (p := ⟨b, o + k * 2, none⟩) hb).trans e1
      have e2' := (BW.out.cell (p := ⟨b, o + k * 2 + 1, none⟩) hb).trans e2
      have RK : Hid (Rd .u8 wr (.slice da (pD ps k).length dc) (pD ps k)) := r.below BW.out
      have hltI : (k : Int) < (n : Int) := by omega
      have hpk := HPD.out k
      clear e1 e2 r
      obtain ⟨⟨z4, -, y1⟩, -, y2⟩ := HC.out.box
      have n1 : w1.heap.size ≠ w.heap.size := by omega
      have n2 : w1.heap.size ≠ b := by omega
      have HCL : Hid (Calls Try.prog 49 #[.slice da (pD ps k).length dc] wr.drew fun e w' => ∃ a c, e = .returned (.slice a (pD ps k).length c) ∧ Hid (Own .u8 5 w' wr.heap.size (.slice a (pD ps k).length c) (pD ps k)) ∧
          w'.cell? ⟨w.heap.size, 1, none⟩ = some (.slice (some ⟨b, o, none⟩) n cb) ∧ w'.cell? ⟨b, o + k * 2, none⟩ = some (.int .i64 (pB ps k)) ∧ w'.cell? ⟨b, o + k * 2 + 1, none⟩ = some (.slice da (pD ps k).length dc) ∧ w'.cell? ⟨w1.heap.size, 1, none⟩ = some vk ∧ w'.frozen? ⟨w1.heap.size, 1, none⟩ = false ∧ Hid (Below wr.heap.size wr w')) := by
        refine (l1Copy_any _ _ (pD ps k) (RK.out.drewN 1) (by omega)).mono ?_
        rintro e w' ⟨v', rfl, o', b'⟩
        obtain ⟨a, c, rfl⟩ := o'.slice
        have b2 : Below wr.heap.size wr w' := (below_drewN' _ 1).trans b'
        exact ⟨a, c, rfl, o', (b2.cell (p := ⟨w.heap.size, 1, none⟩) (by show _ < _; omega)).trans x1, (b2.cell (p := ⟨b, o + k * 2, none⟩) (by show b < _; have := BW.out.size; omega)).trans e1', (b2.cell (p := ⟨b, o + k * 2 + 1, none⟩) (by show b < _; have := BW.out.size; omega)).trans e2', (b2.cell (p := ⟨w1.heap.size, 1, none⟩) z4).trans y1, (b2.frozen (p := ⟨w1.heap.size, 1, none⟩) z4).trans y2, b2⟩
      have HOW : Hid (∀ W' ob, Below wr.heap.size wr W' → (W'.alloc ob).ownsRow w0.heap.size 42 2 vk k (rowW k (pB ps) dv)) := by
        intro W' ob hW'
        have h0 := HC.out.own.p.1
        rw [show (ps.take k).length = k by rw [List.length_take, HL.out]; omega, show rowW k (pB (ps.take k)) dv = rowW k (pB ps) dv from rowW_congr (fun i hi => by unfold pB; simp [List.getD, hi]) (fun _ _ => rfl)] at h0
        refine World.ownsRow.alloc (World.ownsRow.kept h0 (row := none) ⟨hW'.os, hW'.tape, hW'.output, hW'.size, fun q hq _ => hW'.block q hq⟩ ?_) ob
        cases vk.ownBlock with
        | none => exact .inl rfl
        | some q => exact .inr (by simp)
      have HK4 : Hid (∀ W' W4 ob, Below wr.heap.size wr W' → (World.alloc W' ob).grownBy W4 vk.ownBlock → W4.cell? ⟨w.heap.size, 1, none⟩ = some (.slice (some ⟨b, o, none⟩) n cb) ∧ W4.cell? ⟨b, o + k * 2, none⟩ = some (.int .i64 (pB ps k)) ∧ W4.cell? ⟨b, o + k * 2 + 1, none⟩ = some (.slice da (pD ps k).length dc) ∧ W4.cell? ⟨w1.heap.size, 1, none⟩ = some vk ∧ W4.frozen? ⟨w1.heap.size, 1, none⟩ = false) := by
        intro W' W4 ob hW' hG
        have hs := hW'.size
        have hv : ∀ q, vk.ownBlock = some q → w0.heap.size ≤ q := fun q hq => (World.ownsRow.lt HC.out.own.p.1 q hq).1
        have hA : ∀ q, q < w0.heap.size → some q ≠ vk.ownBlock := fun q hq e => by have := hv q e.symm; omega
        have hcell : ∀ p : Addr, p.block < wr.heap.size → some p.block ≠ vk.ownBlock → W4.cell? p = wr.cell? p ∧ W4.frozen? p = wr.frozen? p := by
          intro p hp hne
          have hp2 : p.block < (World.alloc W' ob).heap.size := by simp; omega
          have hb2 : Below wr.heap.size wr (World.alloc W' ob) := hW'.alloc hs _
          exact ⟨(hG.cell_far p hp2 hne).trans (hb2.cell hp), (hG.frozen_far p hp2 hne).trans (hb2.frozen hp)⟩
        have hbs := BW.out.size
        exact ⟨(hcell ⟨w.heap.size, 1, none⟩ (by show w.heap.size < _; omega) (hA _ (by show w.heap.size < _; exact XA0z))).1.trans x1, (hcell ⟨b, o + k * 2, none⟩ (by show b < _; omega) (hA b (by omega))).1.trans e1', (hcell ⟨b, o + k * 2 + 1, none⟩ (by show b < _; omega) (hA b (by omega))).1.trans e2',
          (hcell ⟨w1.heap.size, 1, none⟩ z4 (Ne.symm HC.out.p)).1.trans y1, (hcell ⟨w1.heap.size, 1, none⟩ z4 (Ne.symm HC.out.p)).2.trans y2⟩
      have HEND : Hid (∀ (W' W4 : World) (ob : Obj) (g cap : Nat) (v : Value), Below wr.heap.size wr W' → Own .u8 5 W' wr.heap.size v (pD ps k) → W4.ownsRow w0.heap.size 42 2 (.slice (some ⟨g, 0, none⟩) (k + 1) cap) (k + 1) (rowW k (pB ps) dv ++ [.int .i64 (pB ps k), v]) → (W'.alloc ob).grownBy W4 vk.ownBlock → (vk.ownBlock = some g ∨ g = W'.heap.size + 1) →
          Hid (CopyAt (W4.setCell ⟨w1.heap.size, 1, none⟩ (.slice (some ⟨g, 0, none⟩) (k + 1) cap)) w0.heap.size w1.heap.size (k + 1) (.slice a1 dur.length c1) (.slice (some ⟨g, 0, none⟩) (k + 1) cap) dur ps (dvSet dv k v)) ∧ Hid (Below w0.heap.size (w1.alloc (.cells #[.slice a1 dur.length c1, .slice none 0 0] 32)) (W4.setCell ⟨w1.heap.size, 1, none⟩ (.slice (some ⟨g, 0, none⟩) (k + 1) cap)))) := by
        intro W' W4 ob g cap v hW o4 r4 g4 at4
        have hs : w0.heap.size ≤ wr.heap.size := by simp at sg; omega
        refine ⟨HC.out.step (by rw [HL.out]; exact hlt) hs hW o4 r4 g4 at4, ?_⟩
        have := ((HG.out.trans (hW.mono hs)).alloc (Nat.le_trans hs hW.size) ob).grown g4 (by have := hW.size; simp; omega) (fun q hq => (World.ownsRow.lt HC.out.own.p.1 q hq).1)
        exact this.setCell (by show w0.heap.size ≤ w1.heap.size; exact b1s) _
      have hnum1 : k + 1 ≤ maxLen := by unfold maxLen; omega
      have hnum2 : (k + 1) * 32 ≤ 140737488355328 := by omega
      have hk0 : (0 : Int) ≤ (k : Int) := Int.natCast_nonneg _
      go_wp2_with fail
      have BW0 : Hid (w0.heap.size ≤ wr.heap.size) := by show _ ≤ _; simp at sg; omega
      clear RK HB1 XA1 XR1 XA2 O1 HDL HD
      go_region_law (first
          | (refine step_append_lies _ (by rfl) _ _ _ (by rfl) w0.heap.size 42 i0 _ 2 32 Try.underlying30 hi hz0 hz1 hz2 rfl (by omega) vk k (rowW k (pB ps) dv) (by rfl) (HOW.out w' _ bw.out) ⟨w'.heap.size, 0, none⟩ 1 1 [.int .i64 (pB ps k), .slice a (pD ps k).length c] (by rfl) (by rfl) (cell_two_new _ _ _ _) (by intro u hu; simp at hu; rcases hu with rfl | rfl <;> rfl)
              (by omega) hnum1 hnum2 (by have := bw.out.size; have := BW0.out; simp; omega) (w'.heap.size + 1) (by simp) ?_; intro g4 cap4 w4 ho4 hg4 hat4 hlt4; obtain ⟨q1, q2, q3, q4, q5⟩ := HK4.out _ _ _ bw.out hg4)
          | (go_simp; go_at_call 49; refine HCL.out.mono ?_; rintro e w' ⟨a, c, rfl, o', k1, k2, k3, k4, k5, bw⟩; have k6 : (w'.alloc (.cells #[.int .i64 (pB ps k), .slice a (pD ps k).length c] 42)).cell? ⟨w1.heap.size, 1, none⟩ = some vk := (World.cell?_alloc_some _ _ _ (by rw [k4]; rfl)).trans k4))
      all_goals
        obtain ⟨C4, G4⟩ := HEND.out _ _ _ _ _ _ bw.out o'.out ho4 hg4 hat4
        clear ho4 hg4 hat4 hlt4 q1 q2 q3 q4 q5 o' bw k1 k2 k3 k4 k5 k6 HK4 HOW HCL HEND HC HG
        go_wp2
        go_roundw
        case rel => exact ⟨k + 1, _, _, by omega, by go_num, C4, G4⟩
        case measure => simp [intOf]; omega
    · have hkn : k = n := by omega
      subst hkn
      obtain ⟨⟨z4, y0, y1⟩, -⟩ := HC.out.box
      obtain ⟨⟨z5, d0, d1⟩, f0, f1⟩ := XR2.out.belowB HG.out XR0z
      have HB : Hid (Below w.heap.size w wr) := HW.out.trans (HG.out.mono s0)
      have OD : Hid (OwnD wr w0.heap.size wr.heap.size (.slice a1 dur.length c1) vk dur ps dv) := by
        have := HC.out.own
        rw [List.take_of_length_le (by rw [HL.out]; exact Nat.le_refl _)] at this
        exact this
      obtain ⟨a2, c2, rfl⟩ := OD.out.p.slice
      clear HC HG
      go_wp2
      refine bodyPost_ret (v := .agg #[.slice a1 dur.length c1, .slice a2 ps.length c2]) (by simp [results, Try.results48, go_sem, d0, d1]) rfl ⟨_, _, dv, rfl, ?_, ?_⟩
      · refine OwnD.mono (lo := w0.heap.size) (hi := wr.heap.size) ?_ s0 (by simp)
        repeat (first | exact OD.out | refine OwnD.within (l := w.heap.size + 1) (h := w.heap.size + 2) ?_ (Within.setCell _ (Nat.le_refl _) (by omega) _ _) (.inr (by omega)))
      · repeat (first | exact HB.out | refine Below.setCell ?_ (by simp; try omega) _)

end Go.Proofs.Ytoljmlhnbmeloaa

namespace Go.Proofs.Ytoljmlhnbmeloaa
open Go.RowKit

set_option maxHeartbeats 1000000 in
set_option maxRecDepth 100000 in
theorem specWrite_yes (w : World) (va vb vx : Option Addr) (dl ca n cb cx : Nat) (dur xs : List Int) (ps : List (Int × List Int)) (x : Int) (hd : Rd .u8 w (.slice va dl ca) dur) (hdl : dur.length = dl) (hp : RdW w (.slice vb n cb) ps) (hl : ps.length = n)
    (hx : Rd .u8 w (.slice vx 64 cx) xs) (hxl : xs.length = 64) (hv : vldD dl ps = true) (hn : n < 2000) (hx0 : 0 ≤ x) (hx1 : x < (dl / 64 : Nat)) (hd1 : dl ≤ 1048576) (hpd : ∀ i, (pD ps i).length ≤ 1048576) :
    Calls Try.prog 16 #[.agg #[.slice va dl ca, .slice vb n cb], .int .i64 x, .slice vx 64 cx] w fun e w' => ∃ v1 v2 dv, e = .returned (.agg #[v1, v2]) ∧ OwnD w' w.heap.size w'.heap.size v1 v2 dur (ps ++ [(x, xs)]) dv ∧ Below w.heap.size w w' := by
  obtain ⟨i0, hi, hz0, hz1, hz2⟩ := info_parts Try.infoW
  have HD : Hid (Rd .u8 w (.slice va dl ca) dur) := hd
  have HP : Hid (RdW w (.slice vb n cb) ps) := hp
  have HX : Hid (Rd .u8 w (.slice vx 64 cx) xs) := hx
  have HL : Hid (ps.length = n) := hl
  have HXL : Hid (xs.length = 64) := hxl
  have HDL : Hid (dur.length = dl) := hdl
  have HPD : Hid (∀ i, (pD ps i).length ≤ 1048576) := hpd
  have BA : Hid (∀ o1 o2, Below w.heap.size w ((w.alloc o1).alloc o2)) := fun o1 o2 => ((Below.refl _ _).alloc (Nat.le_refl _) _).alloc (by simp) _
  have HV : Hid (vldD dl ps = true) := hv
  clear hd hp hx hl hxl hdl hpd hv
  obtain ⟨qs, hqs⟩ : ∃ qs, qs = ps ++ [(x, xs)] := ⟨_, rfl⟩
  have HQ : Hid (qs.length = n + 1 ∧ (∀ i, i < n → pB qs i = pB ps i) ∧ pB qs n = x ∧ pD qs n = xs ∧ qs.take n = ps ∧ qs.take (n + 1) = qs) := by
    have hl := HL.out
    subst hqs; subst hl
    exact ⟨by simp, fun i hi => pB_app _ _ _ hi, pB_last _ _, pD_last _ _, by simp, List.take_of_length_le (by simp)⟩
  rw [← hqs]
  clear hqs
  go_enter Try.func16, Try.ntmps16
  go_wp2_with fail
  have XA0 : Hid (BoxF ((w.alloc (.cells #[.slice va dl ca, .slice vb n cb] 32)).alloc (.cells #[.slice none 0 0, .slice none 0 0] 32)) w.heap.size (.slice va dl ca) (.slice vb n cb)) := (BoxF.new w _ _ _).below ((Below.refl _ _).alloc (Nat.le_refl _) _)
  have XR0 : Hid (BoxF ((w.alloc (.cells #[.slice va dl ca, .slice vb n cb] 32)).alloc (.cells #[.slice none 0 0, .slice none 0 0] 32)) (w.heap.size + 1) (.slice none 0 0) (.slice none 0 0)) := by
    have := BoxF.new (w.alloc (.cells #[.slice va dl ca, .slice vb n cb] 32)) (.slice none 0 0) (.slice none 0 0) 32
    show BoxF _ _ _ _
    simpa using this
  have B0 := BA.out (.cells #[.slice va dl ca, .slice vb n cb] 32) (.cells #[.slice none 0 0, .slice none 0 0] 32)
  have HB0 : Hid (Below w.heap.size w ((w.alloc (.cells #[.slice va dl ca, .slice vb n cb] 32)).alloc (.cells #[.slice none 0 0, .slice none 0 0] 32))) := B0
  clear B0 BA
  generalize (w.alloc (.cells #[.slice va dl ca, .slice vb n cb] 32)).alloc (.cells #[.slice none 0 0, .slice none 0 0] 32) = w0 at *
  refine (specValid_any _ va vb dl ca n cb ps (HP.out.below HB0.out) HL.out hd1 (by omega) HPD.out).mono ?_
  rintro e w1 ⟨rfl, b1⟩
  rw [HV.out]
  have HB1 : Hid (Below w.heap.size w w1) := HB0.out.trans (b1.mono HB0.out.size)
  have XA1 : Hid (BoxF w1 w.heap.size (.slice va dl ca) (.slice vb n cb)) := XA0.out.below b1
  have XR1 : Hid (BoxF w1 (w.heap.size + 1) (.slice none 0 0) (.slice none 0 0)) := XR0.out.below b1
  clear b1 XA0 XR0 HB0
  obtain ⟨⟨z1, c0, c1⟩, -⟩ := XA1.out
  have t1 : ¬ (n : Int) = 2000 := by omega
  have t1b : ((n : Int) == 2000) = false := beq_false_of_ne t1
  have t2 : ¬ x < 0 := by omega
  have t2d : decide (x < 0) = false := by simpa using t2
  have HX1 : Hid (x < (dl / 64 : Nat)) := hx1
  clear hx1
  go_wp2_with fail
  refine (l1Blocks_any _ va dl ca _ hd1).mono ?_
  rintro e w2 ⟨rfl, b2⟩
  have HB2 : Hid (Below w.heap.size w w2) := HB1.out.trans (b2.mono HB1.out.size)
  have XA2 : Hid (BoxF w2 w.heap.size (.slice va dl ca) (.slice vb n cb)) := XA1.out.below b2
  have XR2 : Hid (BoxF w2 (w.heap.size + 1) (.slice none 0 0) (.slice none 0 0)) := XR1.out.below b2
  clear b2 XA1 XR1 HB1 z1 c0 c1 t2 t2d
  obtain ⟨⟨z1, c0, c1⟩, -⟩ := XA2.out
  have t3 : ¬ ((dl / 64 : Nat) : Int) ≤ x := by have := HX1.out; omega
  have t3d : decide (((dl / 64 : Nat) : Int) ≤ x) = false := by simpa using t3
  clear HX1
  generalize ((dl / 64 : Nat) : Int) = q at *
  go_wp2_with fail
  refine (l1CopyDisk_any _ va vb dl ca n cb dur ps (HD.out.below HB2.out) HDL.out (HP.out.below HB2.out) HL.out (by omega) hd1 HPD.out).mono ?_
  rintro e w3 ⟨v1, v2, dv, rfl, o3, b3⟩
  obtain ⟨a1, d1, rfl⟩ := o3.d.slice
  obtain ⟨a2, d2, rfl⟩ := o3.p.slice
  have HB3 : Hid (Below w.heap.size w w3) := HB2.out.trans (b3.mono HB2.out.size)
  have XR3 : Hid (BoxF w3 (w.heap.size + 1) (.slice none 0 0) (.slice none 0 0)) := XR2.out.below b3
  have s3 := b3.size
  have s2 := HB2.out.size
  have zr := XR2.out.1.1
  have O3 : Hid (OwnD w3 w2.heap.size w3.heap.size (.slice a1 dur.length d1) (.slice a2 ps.length d2) dur ps dv) := o3
  clear b3 o3 XA2 XR2 HB2 z1 c0 c1 t3 t3d t1 t1b
  go_wp2_with fail
  have CO : Hid (CopyAt (w3.alloc (.cells #[.slice a1 dur.length d1, .slice a2 ps.length d2] 32)) w2.heap.size w3.heap.size n (.slice a1 dur.length d1) (.slice a2 ps.length d2) dur qs dv) := by
    have B2 : Below w3.heap.size w3 (w3.alloc (.cells #[.slice a1 dur.length d1, .slice a2 ps.length d2] 32)) := (Below.refl _ _).alloc (Nat.le_refl _) _
    have o := O3.out
    refine ⟨BoxF.new _ _ _ _, by rw [HQ.out.2.2.2.2.1]; exact (o.below B2).mono (Nat.le_refl _) (by simp), ?_, ?_, ?_⟩
    · intro e; have := (o.d.lt _ e).2; omega
    · intro e; have := (World.ownsRow.lt o.p.1 _ e).2; omega
    · intro i hi e; have := ((o.p.2.1 i (by rw [HL.out]; exact hi)).lt _ e).2; omega
  have BO : Hid (Below w.heap.size w (w3.alloc (.cells #[.slice a1 dur.length d1, .slice a2 ps.length d2] 32))) := HB3.out.alloc HB3.out.size _
  have XRo : Hid (BoxF (w3.alloc (.cells #[.slice a1 dur.length d1, .slice a2 ps.length d2] 32)) (w.heap.size + 1) (.slice none 0 0) (.slice none 0 0)) := XR3.out.below ((Below.refl _ _).alloc (Nat.le_refl _) _)
  have so : (w3.alloc (.cells #[.slice a1 dur.length d1, .slice a2 ps.length d2] 32)).heap.size = w3.heap.size + 1 := by simp
  have HL2 : Hid (ps.length = n) := HL.out
  clear O3 HB3 XR3 HL HP HPD
  generalize w3.alloc (.cells #[.slice a1 dur.length d1, .slice a2 ps.length d2] 32) = wr at *
  obtain ⟨⟨z4, y0, y1⟩, -, y2⟩ := CO.out.box
  have HCL : Hid (Calls Try.prog 49 #[.slice vx 64 cx] wr.drew fun e w' => ∃ a c, e = .returned (.slice a xs.length c) ∧ Hid (Own .u8 5 w' wr.heap.size (.slice a xs.length c) xs) ∧
      w'.cell? ⟨w3.heap.size, 1, none⟩ = some (.slice a2 ps.length d2) ∧ w'.frozen? ⟨w3.heap.size, 1, none⟩ = false ∧ (w'.alloc (.cells #[.int .i64 x, .slice a xs.length c] 42)).cell? ⟨w3.heap.size, 1, none⟩ = some (.slice a2 ps.length d2) ∧ Hid (Below wr.heap.size wr w')) := by
    refine (l1Copy_any _ _ xs ((HX.out.below BO.out).drewN 1) (by have := HXL.out; omega)).mono ?_
    rintro e w' ⟨v', rfl, o', b'⟩
    obtain ⟨a, c, rfl⟩ := o'.slice
    have b2 : Below wr.heap.size wr w' := (below_drewN' _ 1).trans b'
    have k4 := (b2.cell (p := ⟨w3.heap.size, 1, none⟩) z4).trans y1
    exact ⟨a, c, rfl, o', k4, (b2.frozen (p := ⟨w3.heap.size, 1, none⟩) z4).trans y2, (World.cell?_alloc_some _ _ _ (by rw [k4]; rfl)).trans k4, b2⟩
  have HOW : Hid (∀ W' ob, Below wr.heap.size wr W' → (W'.alloc ob).ownsRow w2.heap.size 42 2 (.slice a2 ps.length d2) n (rowW n (pB qs) dv)) := by
    intro W' ob hW'
    have h0 := CO.out.own.p.1
    rw [HQ.out.2.2.2.2.1, HL2.out, show rowW n (pB ps) dv = rowW n (pB qs) dv from rowW_congr (fun i hi => (HQ.out.2.1 i hi).symm) (fun _ _ => rfl)] at h0
    rw [HL2.out]
    refine World.ownsRow.alloc (World.ownsRow.kept h0 (row := none) ⟨hW'.os, hW'.tape, hW'.output, hW'.size, fun q hq _ => hW'.block q hq⟩ ?_) ob
    cases Value.ownBlock (.slice a2 n d2) with
    | none => exact .inl rfl
    | some q => exact .inr (by simp)
  have HF4 : Hid (∀ W' W4 ob, Below wr.heap.size wr W' → (World.alloc W' ob).grownBy W4 (Value.ownBlock (.slice a2 ps.length d2)) → W4.cell? ⟨w3.heap.size, 1, none⟩ = some (.slice a2 ps.length d2) ∧ W4.frozen? ⟨w3.heap.size, 1, none⟩ = false) := by
    intro W' W4 ob hW' hG
    have hs := hW'.size
    have hp2 : w3.heap.size < (World.alloc W' ob).heap.size := by simp; omega
    have hb2 : Below wr.heap.size wr (World.alloc W' ob) := hW'.alloc hs _
    exact ⟨(hG.cell_far ⟨w3.heap.size, 1, none⟩ hp2 (Ne.symm CO.out.p)).trans ((hb2.cell (p := ⟨w3.heap.size, 1, none⟩) z4).trans y1), (hG.frozen_far ⟨w3.heap.size, 1, none⟩ hp2 (Ne.symm CO.out.p)).trans ((hb2.frozen (p := ⟨w3.heap.size, 1, none⟩) z4).trans y2)⟩
  have HEND : Hid (∀ (W' W4 : World) (ob : Obj) (g cap : Nat) (v : Value), Below wr.heap.size wr W' → Own .u8 5 W' wr.heap.size v xs → W4.ownsRow w2.heap.size 42 2 (.slice (some ⟨g, 0, none⟩) (n + 1) cap) (n + 1) (rowW n (pB qs) dv ++ [.int .i64 x, v]) → (W'.alloc ob).grownBy W4 (Value.ownBlock (.slice a2 ps.length d2)) → (Value.ownBlock (.slice a2 ps.length d2) = some g ∨ g = W'.heap.size + 1) →
      Hid (CopyAt (W4.setCell ⟨w3.heap.size, 1, none⟩ (.slice (some ⟨g, 0, none⟩) (n + 1) cap)) w2.heap.size w3.heap.size (n + 1) (.slice a1 dur.length d1) (.slice (some ⟨g, 0, none⟩) (n + 1) cap) dur qs (dvSet dv n v)) ∧ Hid (Below w2.heap.size wr (W4.setCell ⟨w3.heap.size, 1, none⟩ (.slice (some ⟨g, 0, none⟩) (n + 1) cap)))) := by
    intro W' W4 ob g cap v hW o4 r4 g4 at4
    have hs : w2.heap.size ≤ wr.heap.size := by omega
    refine ⟨CO.out.step (by rw [HQ.out.1]; omega) hs hW (by rw [HQ.out.2.2.2.1]; exact o4) (by rw [HQ.out.2.2.1]; exact r4) g4 at4, ?_⟩
    have := ((hW.mono hs).alloc (Nat.le_trans hs hW.size) ob).grown g4 (by have := hW.size; simp; omega) (fun q hq => (World.ownsRow.lt CO.out.own.p.1 q hq).1)
    exact this.setCell (by show w2.heap.size ≤ w3.heap.size; exact s3) _
  have hnum1 : n + 1 ≤ maxLen := by unfold maxLen; omega
  have hnum2 : (n + 1) * 32 ≤ 140737488355328 := by omega
  have hs2 : w2.heap.size ≤ wr.heap.size := by omega
  clear y0
  go_region_law (first
      | (refine step_append_lies _ (by rfl) _ _ _ (by rfl) w2.heap.size 42 i0 _ 2 32 Try.underlying30 hi hz0 hz1 hz2 rfl (by omega) (.slice a2 ps.length d2) n (rowW n (pB qs) dv) (by rfl) (HOW.out w' _ bw.out) ⟨w'.heap.size, 0, none⟩ 1 1 [.int .i64 x, .slice a xs.length c] (by rfl) (by rfl) (cell_two_new _ _ _ _) (by intro u hu; simp at hu; rcases hu with rfl | rfl <;> rfl)
          (by omega) hnum1 hnum2 (by have := bw.out.size; simp; omega) (w'.heap.size + 1) (by simp) ?_; intro g4 cap4 w4 ho4 hg4 hat4 hlt4; obtain ⟨q4, q5⟩ := HF4.out _ _ _ bw.out hg4)
      | (go_simp; go_at_call 49; refine HCL.out.mono ?_; rintro e w' ⟨a, c, rfl, o', k4, k5, k6, bw⟩))
  all_goals
    obtain ⟨C4, G4⟩ := HEND.out _ _ _ _ _ _ bw.out o'.out ho4 hg4 hat4
    clear ho4 hg4 hat4 hlt4 q4 q5 o' bw k4 k5 k6 HF4 HOW HCL HEND CO y1 y2
    generalize w4.setCell ⟨w3.heap.size, 1, none⟩ (.slice (some ⟨g4, 0, none⟩) (n + 1) cap4) = w5 at *
    obtain ⟨⟨z5, y0, y1⟩, -⟩ := C4.out.box
    obtain ⟨⟨z6, r0, r1⟩, f0, f1⟩ := XRo.out.belowB G4.out (by omega)
    have HB : Hid (Below w.heap.size w w5) := BO.out.trans (G4.out.mono s2)
    have OD : Hid (OwnD w5 w2.heap.size w5.heap.size (.slice a1 dur.length d1) (.slice (some ⟨g4, 0, none⟩) (n + 1) cap4) dur qs (dvSet dv n (.slice a xs.length c))) := by
      have := C4.out.own
      rw [HQ.out.2.2.2.2.2] at this
      exact this
    clear C4 G4
    go_wp2
    refine bodyPost_ret (v := .agg #[.slice a1 dur.length d1, .slice (some ⟨g4, 0, none⟩) (n + 1) cap4]) (by simp [results, Try.results16, go_sem, r0, r1]) rfl ⟨_, _, dvSet dv n (.slice a xs.length c), rfl, ?_, ?_⟩
    · refine OwnD.mono (lo := w2.heap.size) (hi := w5.heap.size) ?_ s2 (by simp)
      repeat (first | exact OD.out | refine OwnD.within (l := w.heap.size + 1) (h := w.heap.size + 2) ?_ (Within.setCell _ (Nat.le_refl _) (by omega) _ _) (.inr (by omega)))
    · repeat (first | exact HB.out | refine Below.setCell ?_ (by simp; try omega) _)

end Go.Proofs.Ytoljmlhnbmeloaa

namespace Go.Proofs.Ytoljmlhnbmeloaa
open Go.RowKit

set_option maxHeartbeats 1000000 in
set_option maxRecDepth 100000 in
theorem specWrite_no (w : World) (va vb vx : Option Addr) (dl ca n cb m cx : Nat) (ps : List (Int × List Int)) (x : Int) (hp : RdW w (.slice vb n cb) ps) (hl : ps.length = n)
    (hno : wrOk dl ps x m = false) (hn : n ≤ 1048576) (hd1 : dl ≤ 1048576) (hpd : ∀ i, (pD ps i).length ≤ 1048576) :
    Calls Try.prog 16 #[.agg #[.slice va dl ca, .slice vb n cb], .int .i64 x, .slice vx m cx] w fun e w' => e = .returned (.agg #[.slice none 0 0, .slice none 0 0]) ∧ Below w.heap.size w w' := by
  have HP : Hid (RdW w (.slice vb n cb) ps) := hp
  have HL : Hid (ps.length = n) := hl
  have HPD : Hid (∀ i, (pD ps i).length ≤ 1048576) := hpd
  have BA : Hid (∀ o1 o2, Below w.heap.size w ((w.alloc o1).alloc o2)) := fun o1 o2 => ((Below.refl _ _).alloc (Nat.le_refl _) _).alloc (by simp) _
  have HNO : Hid (wrOk dl ps x m = false) := hno
  clear hp hl hpd hno
  go_enter Try.func16, Try.ntmps16
  go_wp2_with fail
  have XA0 : Hid (BoxF ((w.alloc (.cells #[.slice va dl ca, .slice vb n cb] 32)).alloc (.cells #[.slice none 0 0, .slice none 0 0] 32)) w.heap.size (.slice va dl ca) (.slice vb n cb)) := (BoxF.new w _ _ _).below ((Below.refl _ _).alloc (Nat.le_refl _) _)
  have XR0 : Hid (BoxF ((w.alloc (.cells #[.slice va dl ca, .slice vb n cb] 32)).alloc (.cells #[.slice none 0 0, .slice none 0 0] 32)) (w.heap.size + 1) (.slice none 0 0) (.slice none 0 0)) := by
    have := BoxF.new (w.alloc (.cells #[.slice va dl ca, .slice vb n cb] 32)) (.slice none 0 0) (.slice none 0 0) 32
    show BoxF _ _ _ _
    simpa using this
  have B0 := BA.out (.cells #[.slice va dl ca, .slice vb n cb] 32) (.cells #[.slice none 0 0, .slice none 0 0] 32)
  have HB0 : Hid (Below w.heap.size w ((w.alloc (.cells #[.slice va dl ca, .slice vb n cb] 32)).alloc (.cells #[.slice none 0 0, .slice none 0 0] 32))) := B0
  clear B0 BA
  generalize (w.alloc (.cells #[.slice va dl ca, .slice vb n cb] 32)).alloc (.cells #[.slice none 0 0, .slice none 0 0] 32) = w0 at *
  refine (specValid_any _ va vb dl ca n cb ps (HP.out.below HB0.out) HL.out hd1 hn HPD.out).mono ?_
  rintro e w1 ⟨rfl, b1⟩
  have HB1 : Hid (Below w.heap.size w w1) := HB0.out.trans (b1.mono HB0.out.size)
  have XA1 : Hid (BoxF w1 w.heap.size (.slice va dl ca) (.slice vb n cb)) := XA0.out.below b1
  have XR1 : Hid (BoxF w1 (w.heap.size + 1) (.slice none 0 0) (.slice none 0 0)) := XR0.out.below b1
  clear b1 XA0 XR0 HB0
  obtain ⟨⟨z1, c0, c1⟩, -⟩ := XA1.out
  obtain ⟨⟨zr, d0, d1⟩, f0, f1⟩ := XR1.out
  by_cases hv : vldD dl ps = true
  · rw [hv]
    have HV : Hid (vldD dl ps = true) := hv
    have h2000 : n ≤ 2000 := by have := ((vldD_iff dl ps).1 hv).2.2.2.1; have := HL.out; omega
    clear hv
    by_cases t1 : (n : Int) = 2000
    · have t1b : ((n : Int) == 2000) = true := beq_iff_eq.2 t1
      clear h2000
      go_wp2
      refine bodyPost_ret (v := .agg #[.slice none 0 0, .slice none 0 0]) (by simp [results, Try.results16, go_sem, d0, d1]) rfl ⟨rfl, ?_⟩
      repeat (first | exact HB1.out | refine Below.setCell ?_ (by simp; try omega) _)
    · have t1b : ((n : Int) == 2000) = false := beq_false_of_ne t1
      have HT : Hid (n < 2000) := by show _ < _; omega
      clear h2000
      by_cases t2 : x < 0
      · have t2d : decide (x < 0) = true := by simpa using t2
        go_wp2
        refine bodyPost_ret (v := .agg #[.slice none 0 0, .slice none 0 0]) (by simp [results, Try.results16, go_sem, d0, d1]) rfl ⟨rfl, ?_⟩
        repeat (first | exact HB1.out | refine Below.setCell ?_ (by simp; try omega) _)
      · have t2d : decide (x < 0) = false := by simpa using t2
        go_wp2_with fail
        refine (l1Blocks_any _ va dl ca _ hd1).mono ?_
        rintro e w2 ⟨rfl, b2⟩
        have HB2 : Hid (Below w.heap.size w w2) := HB1.out.trans (b2.mono HB1.out.size)
        have XR2 : Hid (BoxF w2 (w.heap.size + 1) (.slice none 0 0) (.slice none 0 0)) := XR1.out.below b2
        clear b2 XA1 XR1 HB1 z1 c0 c1 zr d0 d1 f0 f1
        obtain ⟨⟨zr, d0, d1⟩, f0, f1⟩ := XR2.out
        by_cases t3 : ((dl / 64 : Nat) : Int) ≤ x
        · have t3d : decide (((dl / 64 : Nat) : Int) ≤ x) = true := by simpa using t3
          generalize ((dl / 64 : Nat) : Int) = q at *
          go_wp2
          refine bodyPost_ret (v := .agg #[.slice none 0 0, .slice none 0 0]) (by simp [results, Try.results16, go_sem, d0, d1]) rfl ⟨rfl, ?_⟩
          repeat (first | exact HB2.out | refine Below.setCell ?_ (by simp; try omega) _)
        · have hm64 : ¬ m = 64 := by
            intro e
            have h : wrOk dl ps x m = true := by
              unfold wrOk
              simp only [Bool.and_eq_true, decide_eq_true_eq]
              exact ⟨⟨⟨HV.out, by have := HL.out; have := HT.out; omega⟩, by omega, by omega⟩, e⟩
            rw [HNO.out] at h
            cases h
          have hmI : ¬ (m : Int) = 64 := by omega
          have hmb : ((m : Int) == 64) = false := beq_false_of_ne hmI
          have t3d : decide (((dl / 64 : Nat) : Int) ≤ x) = false := by simpa using t3
          generalize ((dl / 64 : Nat) : Int) = q at *
          go_wp2
          refine bodyPost_ret (v := .agg #[.slice none 0 0, .slice none 0 0]) (by simp [results, Try.results16, go_sem, d0, d1]) rfl ⟨rfl, ?_⟩
          repeat (first | exact HB2.out | refine Below.setCell ?_ (by simp; try omega) _)
  · have hv' : vldD dl ps = false := by simpa using hv
    rw [hv']
    clear hv hv'
    go_wp2
    refine bodyPost_ret (v := .agg #[.slice none 0 0, .slice none 0 0]) (by simp [results, Try.results16, go_sem, d0, d1]) rfl ⟨rfl, ?_⟩
    repeat (first | exact HB1.out | refine Below.setCell ?_ (by simp; try omega) _)

theorem specWrite_any (w : World) (v1 v2 v3 : Value) (dur xs : List Int) (ps : List (Int × List Int)) (x : Int) (hd : Rd .u8 w v1 dur) (hp : RdW w v2 ps) (hx : Rd .u8 w v3 xs) (hdl : dur.length ≤ 1048576) (hn : ps.length ≤ 1048576) (hpd : ∀ i, (pD ps i).length ≤ 1048576) :
    Calls Try.prog 16 #[.agg #[v1, v2], .int .i64 x, v3] w fun e w' => ∃ u1 u2 dv, e = .returned (.agg #[u1, u2]) ∧ OwnD w' w.heap.size w'.heap.size u1 u2 (wrDur dur ps x xs) (wrPend dur ps x xs) dv ∧ Below w.heap.size w w' := by
  obtain ⟨va, ca, rfl, -⟩ := hd.len
  obtain ⟨vx, cx, rfl, -⟩ := hx.len
  obtain ⟨vb, cb, rfl, -⟩ := id hp
  unfold wrDur wrPend
  cases h : wrOk dur.length ps x xs.length with
  | true =>
    simp only [if_true]
    unfold wrOk at h
    simp only [Bool.and_eq_true, decide_eq_true_eq] at h
    obtain ⟨⟨⟨h1, h2⟩, h3, h4⟩, h5⟩ := h
    rw [h5] at hx ⊢
    exact specWrite_yes w va vb vx dur.length ca ps.length cb cx dur xs ps x hd rfl hp rfl hx h5 h1 h2 h3 h4 hdl hpd
  | false =>
    simp only [Bool.false_eq_true, if_false]
    refine (specWrite_no w va vb vx dur.length ca ps.length cb xs.length cx ps x hp rfl h hn hdl hpd).mono ?_
    rintro e w' ⟨rfl, b⟩
    exact ⟨_, _, _, rfl, ownD_nil _ _ _, b⟩

end Go.Proofs.Ytoljmlhnbmeloaa

namespace Go.Proofs.Ytoljmlhnbmeloaa
open Go.RowKit

/-- A disk as lists. -/
abbrev Dk := List Int × List (Int × List Int)
def wrK (d : Dk) (x : Int) (xs : List Int) : Dk := (wrDur d.1 d.2 x xs, wrPend d.1 d.2 x xs)
def syK (d : Dk) : Dk := (syD d.1 d.2, [])
def good1 (q : Dk × Sr) : Nat → Dk × Sr
  | 0 => q
  | i + 1 => if 0 < ((good1 q i).2.next 3).1 then (wrK (good1 q i).1 (i : Int) ((good1 q i).2.next 3).2.fill.1, ((good1 q i).2.next 3).2.fill.2) else ((good1 q i).1, ((good1 q i).2.next 3).2)
def good2 (n : Nat) (q : Dk × Sr) : Nat → Dk × Sr
  | 0 => q
  | j + 1 => (wrK (good2 n q j).1 (((good2 n q j).2.next n).1 : Int) ((good2 n q j).2.next n).2.fill.1, ((good2 n q j).2.next n).2.fill.2)
/-- The drawn good disk. -/
def Sr.good1 (s : Sr) : Dk × Sr := Go.Proofs.Ytoljmlhnbmeloaa.good1 ((zeros ((1 + (s.next 5).1) * 64), []), (s.next 5).2) (1 + (s.next 5).1)
def Sr.good (s : Sr) : Dk × Sr := good2 (1 + (s.next 5).1) (syK s.good1.1, (s.good1.2.next (3 + s.good1.2.size)).2) (s.good1.2.next (3 + s.good1.2.size)).1
/-- A small disk. -/
def Sm (d : Dk) (a m : Nat) : Prop := d.1.length ≤ a ∧ d.2.length ≤ m ∧ ∀ i, (pD d.2 i).length ≤ 64
theorem Sm.write {d : Dk} {a m : Nat} (h : Sm d a m) (x : Int) (xs : List Int) (hx : xs.length = 64) : Sm (wrK d x xs) a (m + 1) := by
  obtain ⟨h1, h2, h3⟩ := h
  unfold wrK wrDur wrPend
  split
  · refine ⟨h1, by simp; omega, fun i => ?_⟩
    unfold pD
    by_cases hi : i < d.2.length
    · have := h3 i
      unfold pD at this
      simp only [List.getD] at this ⊢
      rw [List.getElem?_append_left hi]
      exact this
    · simp only [List.getD]
      rw [List.getElem?_append_right (by omega)]
      by_cases h0 : i - d.2.length = 0
      · rw [h0]; simp [hx]
      · rw [List.getElem?_eq_none (by simp; omega)]
        simp
  · exact ⟨Nat.zero_le _, Nat.zero_le _, fun i => by simp [pD]⟩
theorem Sm.mono {d : Dk} {a m m' : Nat} (h : Sm d a m) (hm : m ≤ m') : Sm d a m' := ⟨h.1, Nat.le_trans h.2.1 hm, h.2.2⟩
theorem Sm.sync {d : Dk} {a m : Nat} (h : Sm d a m) : Sm (syK d) a 0 := ⟨Nat.le_trans (syD_len _ _) h.1, Nat.le_refl _, fun i => by simp [pD, syK]⟩
theorem good1_sm (q : Dk × Sr) (a m : Nat) (h : Sm q.1 a m) : ∀ i, Sm (good1 q i).1 a (m + i)
  | 0 => h
  | i + 1 => by
    unfold good1
    split
    · exact (good1_sm q a m h i).write _ _ (Sr.fill_len _)
    · exact (good1_sm q a m h i).mono (by omega)
theorem good2_sm (n : Nat) (q : Dk × Sr) (a m : Nat) (h : Sm q.1 a m) : ∀ i, Sm (good2 n q i).1 a (m + i)
  | 0 => h
  | i + 1 => by
    unfold good2
    exact (good2_sm n q a m h i).write _ _ (Sr.fill_len _)

theorem OwnD.tch {w w' : World} {lo hi k : Nat} {u1 u2 : Value} {dur : List Int} {ps : List (Int × List Int)} {dv : Nat → Value} (h : OwnD w lo hi u1 u2 dur ps dv) (t : Tch k w w') (hk : k < lo) : OwnD w' lo hi u1 u2 dur ps dv :=
  ⟨h.d.tch t hk, ⟨rowTch h.p.1 t hk, fun i hi => (h.p.2.1 i hi).tch t hk, h.p.2.2⟩, h.dlt, h.plt, h.qlt, h.dp, h.dq⟩
theorem ownD_dur {w : World} {lo : Nat} {u : Value} {dur : List Int} (h : Own .u8 5 w lo u dur) : OwnD w lo w.heap.size u (.slice none 0 0) dur [] (fun _ => .slice none 0 0) :=
  ⟨h, ⟨World.ownsRow_nil _ _ _ _, fun i hi => by simp at hi, fun i j hi => by simp at hi, fun i hi => by simp at hi⟩, fun g hg => (h.lt g hg).2, fun g hg => by simp [Value.ownBlock] at hg, fun i hi => by simp at hi, .inl rfl, fun i hi => by simp at hi⟩

theorem BoxF.tch {w w' : World} {b k : Nat} {x y : Value} (h : BoxF w b x y) (t : Tch k w w') (hk : b ≠ k) : BoxF w' b x y := by
  obtain ⟨⟨h1, h2, h3⟩, h4, h5⟩ := h
  have e := t.2 b hk h1
  exact ⟨⟨Nat.lt_of_lt_of_le h1 t.size, (World.cell?_of_block (w := w) e).trans h2, (World.cell?_of_block (w := w) e).trans h3⟩, (World.frozen?_of_block (w := w) e).trans h4, (World.frozen?_of_block (w := w) e).trans h5⟩
theorem BoxF.set2 {w : World} {b : Nat} {x y : Value} (h : BoxF w b x y) (u v : Value) : BoxF ((w.setCell ⟨b, 0, none⟩ u).setCell ⟨b, 1, none⟩ v) b u v := by
  obtain ⟨⟨h1, h2, h3⟩, h4, h5⟩ := h
  refine ⟨⟨by simpa using h1, ?_, ?_⟩, ?_, ?_⟩
  · rw [World.cell?_setCell_other _ _ _ _ (by simp)]; exact World.cell?_setCell_same _ _ _ h2
  · exact World.cell?_setCell_same _ _ _ ((World.cell?_setCell_other _ _ _ _ (by simp)).trans h3)
  · rw [World.frozen?_setCell, World.frozen?_setCell]; exact h4
  · rw [World.frozen?_setCell, World.frozen?_setCell]; exact h5
theorem BoxF.off2 {w : World} {b c : Nat} {x y : Value} (h : BoxF w b x y) (hne : b ≠ c) (u v : Value) : BoxF ((w.setCell ⟨c, 0, none⟩ u).setCell ⟨c, 1, none⟩ v) b x y := by
  obtain ⟨⟨h1, h2, h3⟩, h4, h5⟩ := h
  have e : ∀ j, ((w.setCell ⟨c, 0, none⟩ u).setCell ⟨c, 1, none⟩ v).cell? ⟨b, j, none⟩ = w.cell? ⟨b, j, none⟩ := fun j => by
    rw [World.cell?_setCell_other _ _ _ _ (by intro e; injection e with e; exact hne (by first | exact e | exact e.symm)), World.cell?_setCell_other _ _ _ _ (by intro e; injection e with e; exact hne (by first | exact e | exact e.symm))]
  refine ⟨⟨by simpa using h1, (e 0).trans h2, (e 1).trans h3⟩, ?_, ?_⟩ <;> (rw [World.frozen?_setCell, World.frozen?_setCell]; assumption)
theorem OwnD.off2 {w : World} {lo hi b : Nat} {u1 u2 x y : Value} {dur : List Int} {ps : List (Int × List Int)} {dv : Nat → Value} (ho : OwnD w lo hi u1 u2 dur ps dv) (h1 : u1.ownBlock ≠ some b) (h2 : u2.ownBlock ≠ some b) (h3 : ∀ i, i < ps.length → (dv i).ownBlock ≠ some b) : OwnD ((w.setCell ⟨b, 0, none⟩ x).setCell ⟨b, 1, none⟩ y) lo hi u1 u2 dur ps dv := (ho.setOff (B := b) h1 h2 h3).setOff (B := b) h1 h2 h3
theorem OwnD.below2 {w : World} {lo hi b : Nat} {u1 u2 x y : Value} {dur : List Int} {ps : List (Int × List Int)} {dv : Nat → Value} (ho : OwnD w lo hi u1 u2 dur ps dv) (hb : b < lo) : OwnD ((w.setCell ⟨b, 0, none⟩ x).setCell ⟨b, 1, none⟩ y) lo hi u1 u2 dur ps dv :=
  ho.off2 (fun e => by have := (ho.d.lt b e).1; omega) (fun e => by have := (World.ownsRow.lt ho.p.1 b e).1; omega) (fun i hi e => by have := ((ho.p.2.1 i hi).lt b e).1; omega)

/-- What a call of l1DrawGood holds: its answer's box, its disk's box Bd, the disk as lists, the source. -/
structure GS (W : World) (k B Bd : Nat) (u1 u2 : Value) (dv : Nat → Value) (q : Dk × Sr) (w : World) : Prop where
  hB : W.heap.size + 1 ≤ Bd
  bW : B ≤ W.heap.size
  r : BoxF w W.heap.size (.slice none 0 0) (.slice none 0 0)
  bx : BoxF w Bd u1 u2
  own : OwnD w (W.heap.size + 1) w.heap.size u1 u2 q.1.1 q.1.2 dv
  o1 : u1.ownBlock ≠ some Bd
  o2 : u2.ownBlock ≠ some Bd
  o3 : ∀ i, i < q.1.2.length → (dv i).ownBlock ≠ some Bd
  src : SRX w k B q.2
  tch : Tch k W w
theorem GS.later {W w w' : World} {k B Bd : Nat} {u1 u2 : Value} {dv : Nat → Value} {q : Dk × Sr} (h : GS W k B Bd u1 u2 dv q w) (hb : Below w.heap.size w w') : GS W k B Bd u1 u2 dv q w' :=
  ⟨h.hB, h.bW, h.r.below hb, h.bx.below hb, (h.own.below hb).mono (Nat.le_refl _) hb.size, h.o1, h.o2, h.o3, h.src.keep (hb.mono h.src.lt), h.tch.then (hb.mono h.tch.size)⟩
theorem GS.next {W w w' : World} {k B Bd : Nat} {u1 u2 : Value} {dv : Nat → Value} {q : Dk × Sr} {s' : Sr} (h : GS W k B Bd u1 u2 dv q w) (hs : SRX w' k B s') (ht : Tch k w w') : GS W k B Bd u1 u2 dv (q.1, s') w' := by
  have h1 := h.src.kB
  have h2 := h.bW
  have h3 := h.hB
  exact ⟨h.hB, h.bW, h.r.tch ht (by omega), h.bx.tch ht (by omega), (h.own.tch ht (by omega)).mono (Nat.le_refl _) ht.size, h.o1, h.o2, h.o3, hs, h.tch.trans ht⟩
theorem GS.put {W w w' : World} {k B Bd : Nat} {u1 u2 v1 v2 : Value} {dv dv2 : Nat → Value} {q : Dk × Sr} {d1 : List Int} {d2 : List (Int × List Int)} (h : GS W k B Bd u1 u2 dv q w) (ho : OwnD w' w.heap.size w'.heap.size v1 v2 d1 d2 dv2) (hb : Below w.heap.size w w') :
    GS W k B Bd v1 v2 dv2 ((d1, d2), q.2) ((w'.setCell ⟨Bd, 0, none⟩ v1).setCell ⟨Bd, 1, none⟩ v2) := by
  have g := h.later hb
  have h1 := h.src.kB
  have h2 := h.bW
  have h3 := h.hB
  have h4 := h.bx.1.1
  have h5 := h.tch.size
  have e1 : v1.ownBlock ≠ some Bd := fun e => by have := (ho.d.lt Bd e).1; omega
  have e2 : v2.ownBlock ≠ some Bd := fun e => by have := (World.ownsRow.lt ho.p.1 Bd e).1; omega
  have e3 : ∀ i, i < d2.length → (dv2 i).ownBlock ≠ some Bd := fun i hi e => by have := ((ho.p.2.1 i hi).lt Bd e).1; omega
  have eb : Below Bd w' ((w'.setCell ⟨Bd, 0, none⟩ v1).setCell ⟨Bd, 1, none⟩ v2) := ((Below.refl Bd w').setCell (p := ⟨Bd, 0, none⟩) (Nat.le_refl Bd) _).setCell (p := ⟨Bd, 1, none⟩) (Nat.le_refl Bd) _
  refine ⟨h.hB, h.bW, g.r.off2 (by omega) _ _, g.bx.set2 _ _, ?_, e1, e2, e3, g.src.keep (eb.mono (by omega)), g.tch.then (eb.mono (by omega))⟩
  exact (ho.off2 e1 e2 e3).mono (by omega) (by simp)

set_option linter.unusedSimpArgs false in
set_option maxHeartbeats 2000000 in
set_option maxRecDepth 100000 in
theorem good_x (W : World) (k B : Nat) (s : Sr) (h : SRX W k B s) :
    Calls Try.prog 75 #[.pointer (some ⟨k, 0, none⟩)] W fun e w' => ∃ u1 u2 dv, e = .returned (.agg #[u1, u2]) ∧ OwnD w' W.heap.size w'.heap.size u1 u2 s.good.1.1 s.good.1.2 dv ∧ SRX w' k B s.good.2 ∧ Tch k W w' := by
  have hkB := h.kB
  have hBW := h.lt
  have HA : Hid (SRX (W.alloc (.cells #[.slice none 0 0, .slice none 0 0] 32)) k B s) := h.keep ((Below.refl _ _).alloc h.lt _)
  have BA : Hid (Below W.heap.size W (W.alloc (.cells #[.slice none 0 0, .slice none 0 0] 32))) := (Below.refl _ _).alloc (Nat.le_refl _) _
  have RA : Hid (BoxF (W.alloc (.cells #[.slice none 0 0, .slice none 0 0] 32)) W.heap.size (.slice none 0 0) (.slice none 0 0)) := BoxF.new _ _ _ _
  clear h
  go_enter Try.func75, Try.ntmps75
  go_wp2_with fail
  generalize W.alloc (.cells #[.slice none 0 0, .slice none 0 0] 32) = wA at *
  refine (next_x _ k B 5 s HA.out (by omega)).mono ?_
  rintro e w1 ⟨rfl, s1, t1⟩
  have hn1 := s.next_lt 5 (by omega)
  have HSG : Hid (s.good = good2 (1 + (s.next 5).1) (syK s.good1.1, (s.good1.2.next (3 + s.good1.2.size)).2) (s.good1.2.next (3 + s.good1.2.size)).1) := rfl
  have HSG1 : Hid (s.good1 = Go.Proofs.Ytoljmlhnbmeloaa.good1 ((zeros ((1 + (s.next 5).1) * 64), []), (s.next 5).2) (1 + (s.next 5).1)) := rfl
  generalize s.good1 = g1 at *
  generalize (s.next 5).2 = s2 at *
  generalize (s.next 5).1 = n1 at *
  have S1 : Hid (SRX w1 k B s2) := s1
  have T1 : Hid (Tch k W w1) := (Tch.of BA.out).trans t1
  have R1 : Hid (BoxF w1 W.heap.size (.slice none 0 0) (.slice none 0 0)) := RA.out.tch t1 (by omega)
  have z1 : W.heap.size + 1 ≤ w1.heap.size := R1.out.1.1
  clear s1 t1 HA BA RA
  obtain ⟨n, hn⟩ : ∃ n, n = 1 + n1 := ⟨_, rfl⟩
  rw [← hn] at HSG HSG1
  have HNN : Hid (n = 1 + n1) := hn
  clear hn
  go_wp2_with fail
  have hn := HNN.out
  rw [show 1 + (n1 : Int) = (n : Int) by omega]
  refine (specNewDisk_any _ (n : Int)).mono ?_
  rintro e w2 ⟨vd, rfl, od, bd⟩
  have hnd : ndl (n : Int) = n * 64 := by unfold ndl; rw [if_pos (by omega)]; omega
  rw [hnd] at od
  obtain ⟨ad, cd, hvd⟩ := od.slice
  rw [zeros_len] at hvd
  subst hvd
  have hn5 : n ≤ 5 := by omega
  have hn0 : 1 ≤ n := by omega
  clear hnd hn hn1
  have ba : Below w2.heap.size w2 (w2.alloc (.cells #[.slice ad (n * 64) cd, .slice none 0 0] 32)) := (Below.refl _ _).alloc (Nat.le_refl _) _
  have z2 := bd.size
  obtain ⟨Bd, hBd⟩ : ∃ Bd, Bd = w2.heap.size := ⟨_, rfl⟩
  have G0 : Hid (GS W k B Bd (.slice ad (n * 64) cd) (.slice none 0 0) (fun _ => .slice none 0 0) ((zeros (n * 64), []), s2) (w2.alloc (.cells #[.slice ad (n * 64) cd, .slice none 0 0] 32))) := by
    rw [hBd]
    have b2 := bd.trans (ba.mono z2)
    refine ⟨by omega, hBW, R1.out.below b2, BoxF.new _ _ _ _, (ownD_dur (od.below ba)).mono z1 (Nat.le_refl _), fun e => ?_, fun e => by simp [Value.ownBlock] at e, fun i hi => by simp at hi, S1.out.keep (b2.mono S1.out.lt), T1.out.then (b2.mono (by omega))⟩
    have := (od.lt _ e).2
    omega
  clear ba od bd S1 T1 R1
  go_wp2_with fail
  rw [← hBd]
  generalize w2.alloc (.cells #[.slice ad (n * 64) cd, .slice none 0 0] 32) = w3 at *
  refine (l1Blocks_any _ _ _ _ _ (by omega)).mono ?_
  rintro e w4 ⟨rfl, b4⟩
  have G1 : Hid (GS W k B Bd (.slice ad (n * 64) cd) (.slice none 0 0) (fun _ => .slice none 0 0) ((zeros (n * 64), []), s2) w4) := G0.out.later b4
  rw [show ((n * 64 / 64 : Nat) : Int) = (n : Int) by omega]
  clear b4 G0 hBd z2 z1
  obtain ⟨q0, hq0⟩ : ∃ q0 : Dk × Sr, q0 = ((zeros (n * 64), []), s2) := ⟨_, rfl⟩
  rw [← hq0] at HSG1
  have HM1 : Hid (∀ i, Sm (Go.Proofs.Ytoljmlhnbmeloaa.good1 q0 i).1 320 i) := fun i => by
    have := good1_sm q0 320 0 (by rw [hq0]; exact ⟨by rw [zeros_len]; omega, Nat.le_refl _, fun i => by simp [pD]⟩) i
    rwa [Nat.zero_add] at this
  rw [← hq0] at G1
  clear hq0
  go_wp2
  go_loopw [5] (fun vi wr => ∃ (i : Nat) (u1 u2 : Value) (dv : Nat → Value), i ≤ n ∧ vi = .int .i64 (i : Int) ∧ Hid (GS W k B Bd u1 u2 dv (Go.Proofs.Ytoljmlhnbmeloaa.good1 q0 i) wr)) (fun i _ => n - (intOf i).toNat)
  case atStart => exact ⟨0, _, _, _, Nat.zero_le _, rfl, G1⟩
  case round =>
    clear G1
    obtain ⟨i, u1, u2, dv, hi, rfl, HG⟩ := hrel
    by_cases hlt : i < n
    · have hltI : (i : Int) < (n : Int) := by omega
      have HM := HM1.out i
      have HE : Hid (Go.Proofs.Ytoljmlhnbmeloaa.good1 q0 (i + 1) = if 0 < ((Go.Proofs.Ytoljmlhnbmeloaa.good1 q0 i).2.next 3).1 then (wrK (Go.Proofs.Ytoljmlhnbmeloaa.good1 q0 i).1 (i : Int) ((Go.Proofs.Ytoljmlhnbmeloaa.good1 q0 i).2.next 3).2.fill.1, ((Go.Proofs.Ytoljmlhnbmeloaa.good1 q0 i).2.next 3).2.fill.2) else ((Go.Proofs.Ytoljmlhnbmeloaa.good1 q0 i).1, ((Go.Proofs.Ytoljmlhnbmeloaa.good1 q0 i).2.next 3).2)) := rfl
      generalize Go.Proofs.Ytoljmlhnbmeloaa.good1 q0 i = q at *
      replace HM : Hid (Sm q.1 320 i) := HM
      go_wp2_with fail
      refine (next_x _ k B 3 _ HG.out.src (by omega)).mono ?_
      rintro e w1 ⟨rfl, sf, tf⟩
      have G := HG.out.next sf tf
      clear sf tf HG
      generalize (q.2.next 3).2 = s3 at *
      generalize (q.2.next 3).1 = m at *
      by_cases hm : 0 < m
      · have hmI : (0 : Int) < (m : Int) := by omega
        have HN2 : Hid (∀ u1 u2 dv w, GS W k B Bd u1 u2 dv (wrK q.1 (i : Int) s3.fill.1, s3.fill.2) w → GS W k B Bd u1 u2 dv (Go.Proofs.Ytoljmlhnbmeloaa.good1 q0 (i + 1)) w) := by
          intro u1 u2 dv w hh
          rw [HE.out, if_pos hm]
          exact hh
        clear HE
        go_wp2_with fail
        refine wp_region_held_drew (S := fun _ => True) (by kernel_rfl) trivial (fun hHeld => ?_)
        replace G := G.later (below_drewN' w1 1)
        change GS W k B Bd u1 u2 dv _ w1.drew at G
        generalize w1.drew = P0 at *
        refine wpAnyH_take (i := 1) (oi := { dst := some 22, op := _, type := _, pos := _, after := _, guard := _ }) (v := (.int .i64 (i : Int))) rfl (by kernel_rfl) (by kernel_rfl) (by kernel_rfl) (fun _ _ _ h => h) (Or.inl ⟨by rfl, ?hy1⟩) (by assumption) ?rest1
        case hy1 =>
          intro w9 hS9
          go_simp
        try simp only [Act.put, List.setIfInBounds_toArray, List.set_cons_zero, List.set_cons_succ]
        refine wpAnyH_take (i := 2) (oi := { dst := some 23, op := _, type := _, pos := _, after := _, guard := _ }) (v := (.pointer (some ⟨k, 0, none⟩))) rfl (by kernel_rfl) (by kernel_rfl) (by kernel_rfl) (fun _ _ _ h => h) (Or.inl ⟨by rfl, ?hy2⟩) (by assumption) ?rest2
        case hy2 =>
          intro w9 hS9
          go_simp
        try simp only [Act.put, List.setIfInBounds_toArray, List.set_cons_zero, List.set_cons_succ]
        refine wpAnyH_ready (rs := [0, 3]) (by kernel_rfl) (by simp) ?_
        refine (AllReadyH.cons (o := { dst := some 21, op := _, type := _, pos := _, after := _, guard := _ }) rfl (fun K hK => ?_) (AllReadyH.cons (o := { dst := some 24, op := _, type := _, pos := _, after := _, guard := _ }) rfl (fun K hK => ?_) AllReadyH.nil))
        · obtain ⟨⟨zb, cb0, cb1⟩, -⟩ := G.bx
          go_simp
          clear zb cb0 cb1
          refine hK.out _ _ trivial (fun hx9 => ?_)
          clear hK K hx9
          try simp only [Act.put, List.setIfInBounds_toArray, List.set_cons_zero, List.set_cons_succ]
          refine wpAnyH_ready (rs := [3]) (by kernel_rfl) (by simp) ?_
          refine (AllReadyH.cons (o := { dst := some 24, op := _, type := _, pos := _, after := _, guard := _ }) rfl (fun K hK => ?_) AllReadyH.nil)
          go_simp
          refine (fill_x P0 k B _ G.src).mono ?_
          rintro e P1 ⟨vf, rfl, OF, sf, tf⟩
          replace G := G.next sf tf
          clear sf tf
          obtain ⟨af, cf, hvf⟩ := OF.slice
          subst hvf
          refine hK.out _ _ trivial (fun hx9 => ?_)
          clear hK K hx9
          try simp only [Act.put, List.setIfInBounds_toArray, List.set_cons_zero, List.set_cons_succ]
          refine wpAnyH_ready (rs := [4]) (by kernel_rfl) (by simp) ?_
          refine (AllReadyH.cons (o := { dst := some 25, op := _, type := _, pos := _, after := _, guard := _ }) rfl (fun K hK => ?_) AllReadyH.nil)
          go_simp
          refine (specWrite_any P1 _ _ _ _ _ _ _ G.own.d.rd G.own.p.rd OF.rd (Nat.le_trans HM.out.1 (by omega)) (Nat.le_trans HM.out.2.1 (by omega)) (fun i => Nat.le_trans (HM.out.2.2 i) (by omega))).mono ?_
          rintro e P2 ⟨v1, v2, dv2, rfl, od, bb⟩
          obtain ⟨a1, c1, hv1⟩ := od.d.slice
          obtain ⟨a2, c2, hv2⟩ := od.p.slice
          subst hv1 hv2
          have GP := G.put od bb
          have GL := G.bx.below bb
          refine hK.out _ _ trivial (fun hx9 => ?_)
          clear hK K hx9
          try simp only [Act.put, List.setIfInBounds_toArray, List.set_cons_zero, List.set_cons_succ]
          refine wpAnyH_ready (rs := [5]) (by kernel_rfl) (by simp) ?_
          refine (AllReadyH.cons (o := { dst := none, op := _, type := _, pos := _, after := _, guard := _ }) rfl (fun K hK => ?_) AllReadyH.nil)
          obtain ⟨⟨zb, cb0, cb1⟩, fb0, fb1⟩ := GL
          go_simp
          clear zb cb0 cb1 fb0 fb1
          refine hK.out _ _ trivial (fun hx9 => ?_)
          clear hK K hx9
          try simp only [Act.put, List.setIfInBounds_toArray, List.set_cons_zero, List.set_cons_succ]
          refine wpAnyH_done (by kernel_rfl) ?_ _
          clear hHeld od bb OF G
          have HG2 : Hid (GS W k B Bd (.slice a1 _ c1) (.slice a2 _ c2) dv2 (Go.Proofs.Ytoljmlhnbmeloaa.good1 q0 (i + 1)) _) := HN2.out _ _ _ _ GP
          clear GP
          go_wp2
          exact ⟨⟨i + 1, _, _, _, by omega, by go_num, HG2⟩, by simp [intOf]; omega⟩
        · go_simp
          refine (fill_x P0 k B _ G.src).mono ?_
          rintro e P3 ⟨vf, rfl, OF, sf, tf⟩
          replace G := G.next sf tf
          clear sf tf
          obtain ⟨af, cf, hvf⟩ := OF.slice
          subst hvf
          refine hK.out _ _ trivial (fun hx9 => ?_)
          clear hK K hx9
          try simp only [Act.put, List.setIfInBounds_toArray, List.set_cons_zero, List.set_cons_succ]
          refine wpAnyH_ready (rs := [0]) (by kernel_rfl) (by simp) ?_
          refine (AllReadyH.cons (o := { dst := some 21, op := _, type := _, pos := _, after := _, guard := _ }) rfl (fun K hK => ?_) AllReadyH.nil)
          obtain ⟨⟨zb, cb0, cb1⟩, -⟩ := G.bx
          go_simp
          clear zb cb0 cb1
          refine hK.out _ _ trivial (fun hx9 => ?_)
          clear hK K hx9
          try simp only [Act.put, List.setIfInBounds_toArray, List.set_cons_zero, List.set_cons_succ]
          refine wpAnyH_ready (rs := [4]) (by kernel_rfl) (by simp) ?_
          refine (AllReadyH.cons (o := { dst := some 25, op := _, type := _, pos := _, after := _, guard := _ }) rfl (fun K hK => ?_) AllReadyH.nil)
          go_simp
          refine (specWrite_any P3 _ _ _ _ _ _ _ G.own.d.rd G.own.p.rd OF.rd (Nat.le_trans HM.out.1 (by omega)) (Nat.le_trans HM.out.2.1 (by omega)) (fun i => Nat.le_trans (HM.out.2.2 i) (by omega))).mono ?_
          rintro e P4 ⟨v1, v2, dv2, rfl, od, bb⟩
          obtain ⟨a1, c1, hv1⟩ := od.d.slice
          obtain ⟨a2, c2, hv2⟩ := od.p.slice
          subst hv1 hv2
          have GP := G.put od bb
          have GL := G.bx.below bb
          refine hK.out _ _ trivial (fun hx9 => ?_)
          clear hK K hx9
          try simp only [Act.put, List.setIfInBounds_toArray, List.set_cons_zero, List.set_cons_succ]
          refine wpAnyH_ready (rs := [5]) (by kernel_rfl) (by simp) ?_
          refine (AllReadyH.cons (o := { dst := none, op := _, type := _, pos := _, after := _, guard := _ }) rfl (fun K hK => ?_) AllReadyH.nil)
          obtain ⟨⟨zb, cb0, cb1⟩, fb0, fb1⟩ := GL
          go_simp
          clear zb cb0 cb1 fb0 fb1
          refine hK.out _ _ trivial (fun hx9 => ?_)
          clear hK K hx9
          try simp only [Act.put, List.setIfInBounds_toArray, List.set_cons_zero, List.set_cons_succ]
          refine wpAnyH_done (by kernel_rfl) ?_ _
          clear hHeld od bb OF G
          have HG2 : Hid (GS W k B Bd (.slice a1 _ c1) (.slice a2 _ c2) dv2 (Go.Proofs.Ytoljmlhnbmeloaa.good1 q0 (i + 1)) _) := HN2.out _ _ _ _ GP
          clear GP
          go_wp2
          exact ⟨⟨i + 1, _, _, _, by omega, by go_num, HG2⟩, by simp [intOf]; omega⟩
      · have hmI : ¬ (0 : Int) < (m : Int) := by omega
        have HG2 : Hid (GS W k B Bd u1 u2 dv (Go.Proofs.Ytoljmlhnbmeloaa.good1 q0 (i + 1)) w1) := by
          rw [HE.out, if_neg hm]
          exact G
        clear G HE
        go_wp2
        exact ⟨⟨i + 1, _, _, _, by omega, by go_num, HG2⟩, by simp [intOf]; omega⟩
    · have hin : i = n := by omega
      subst hin
      rw [← HSG1.out] at HG
      have HM : Hid (Sm g1.1 320 i) := by rw [HSG1.out]; exact HM1.out i
      clear HM1 HSG1
      obtain ⟨⟨zb, cb0, cb1⟩, fb0, fb1⟩ := HG.out.bx
      go_wp2_with fail
      clear zb cb0 cb1 fb0 fb1
      refine (specSync_any _ _ _ _ _ HG.out.own.d.rd HG.out.own.p.rd (by have := HM.out.1; omega) (by have := HM.out.2.1; omega) (fun i => by have := HM.out.2.2 i; omega)).mono ?_
      rintro e w5 ⟨v5, rfl, o5, b5⟩
      obtain ⟨a5, c5, hv5⟩ := o5.slice
      subst hv5
      have G5 := HG.out.put (ownD_dur o5) b5
      obtain ⟨⟨zb, cb0, cb1⟩, fb0, fb1⟩ := HG.out.bx.below b5
      have HG5 : Hid (GS W k B Bd (.slice a5 (syD g1.1.1 g1.1.2).length c5) (.slice none 0 0) (fun _ => .slice none 0 0) (syK g1.1, g1.2) ((w5.setCell ⟨Bd, 0, none⟩ (.slice a5 (syD g1.1.1 g1.1.2).length c5)).setCell ⟨Bd, 1, none⟩ (.slice none 0 0))) := G5
      have hc3 := (HG.out.later b5).src.c3
      have hsz := G5.src.sz
      have hkb : k ≠ Bd := by have := HG.out.hB; omega
      have hkb2 : Bd ≠ k := fun e => hkb e.symm
      clear o5 b5 HG G5
      go_wp2_with fail
      generalize (w5.setCell ⟨Bd, 0, none⟩ (.slice a5 (syD g1.1.1 g1.1.2).length c5)).setCell ⟨Bd, 1, none⟩ (.slice none 0 0) = w6 at *
      clear zb cb0 cb1 fb0 fb1 hc3 hkb hkb2
      have hn3 := g1.2.next_lt (3 + g1.2.size) (by omega)
      have hx := next_x w6 k B (3 + g1.2.size) _ HG5.out.src (by omega)
      rw [show ((3 + g1.2.size : Nat) : Int) = 3 + (g1.2.size : Int) by omega] at hx
      refine hx.mono ?_
      clear hx
      rintro e w7 ⟨rfl, sf, tf⟩
      have HG7 : Hid (GS W k B Bd (.slice a5 (syD g1.1.1 g1.1.2).length c5) (.slice none 0 0) (fun _ => .slice none 0 0) (syK g1.1, (g1.2.next (3 + g1.2.size)).2) w7) := HG5.out.next sf tf
      have hn10 : (g1.2.next (3 + g1.2.size)).1 ≤ 10 := by omega
      clear sf tf HG5 hn3 hsz
      generalize (g1.2.next (3 + g1.2.size)).1 = N at *
      obtain ⟨q2, hq2⟩ : ∃ q2 : Dk × Sr, q2 = (syK g1.1, (g1.2.next (3 + g1.2.size)).2) := ⟨_, rfl⟩
      have HM2 : Hid (∀ j, Sm (good2 i q2 j).1 320 j) := fun j => by
        have := good2_sm i q2 320 0 (by rw [hq2]; exact HM.out.sync) j
        rwa [Nat.zero_add] at this
      rw [← hq2] at HG7 HSG
      clear hq2 HM
      generalize hin : i = n at *
      clear hin
      go_wp2
      go_loopw [6] (fun vi wr => ∃ (j : Nat) (u1 u2 : Value) (dv : Nat → Value), j ≤ N ∧ vi = .int .i64 ((N - j : Nat) : Int) ∧ Hid (GS W k B Bd u1 u2 dv (good2 n q2 j) wr)) (fun i _ => (intOf i).toNat)
      case atStart => exact ⟨0, _, _, _, Nat.zero_le _, rfl, HG7⟩
      case round =>
        clear HG7
        obtain ⟨j, u1, u2, dv, hj, rfl, HG⟩ := hrel
        by_cases hlt : j < N
        · obtain ⟨r, hr⟩ : ∃ r, N - j = r + 1 := ⟨N - j - 1, by omega⟩
          have HR : Hid (N - (j + 1) = r) := by show _ = _; omega
          rw [hr]
          have hltI : (0 : Int) < ((r + 1 : Nat) : Int) := by omega
          have hr10 : r ≤ 10 := by omega
          have HM := HM2.out j
          have HE : Hid (good2 n q2 (j + 1) = (wrK (good2 n q2 j).1 (((good2 n q2 j).2.next n).1 : Int) ((good2 n q2 j).2.next n).2.fill.1, ((good2 n q2 j).2.next n).2.fill.2)) := rfl
          generalize good2 n q2 j = q at *
          have HN2 : Hid (∀ u1 u2 dv w, GS W k B Bd u1 u2 dv (wrK q.1 ((q.2.next n).1 : Int) (q.2.next n).2.fill.1, (q.2.next n).2.fill.2) w → GS W k B Bd u1 u2 dv (good2 n q2 (j + 1)) w) := by
            intro u1 u2 dv w hh
            rw [HE.out]
            exact hh
          clear HE
          replace HM : Hid (Sm q.1 320 j) := HM
          have hj10 : j ≤ 10 := by omega
          have G := HG.out
          have HJ : Hid (N - j = r + 1) := hr
          clear HG hr
          go_wp2_with fail
          refine wp_region_held_drew (S := fun _ => True) (by kernel_rfl) trivial (fun hHeld => ?_)
          replace G := G.later (below_drewN' wr 1)
          change GS W k B Bd u1 u2 dv _ wr.drew at G
          generalize wr.drew = P0 at *
          refine wpAnyH_take (i := 1) (oi := { dst := some 40, op := _, type := _, pos := _, after := _, guard := _ }) (v := (.pointer (some ⟨k, 0, none⟩))) rfl (by kernel_rfl) (by kernel_rfl) (by kernel_rfl) (fun _ _ _ h => h) (Or.inl ⟨by rfl, ?hy3⟩) (by assumption) ?rest3
          case hy3 =>
            intro w9 hS9
            go_simp
          try simp only [Act.put, List.setIfInBounds_toArray, List.set_cons_zero, List.set_cons_succ]
          refine wpAnyH_take (i := 2) (oi := { dst := some 41, op := _, type := _, pos := _, after := _, guard := _ }) (v := (.int .i64 (n : Int))) rfl (by kernel_rfl) (by kernel_rfl) (by kernel_rfl) (fun _ _ _ h => h) (Or.inl ⟨by rfl, ?hy4⟩) (by assumption) ?rest4
          case hy4 =>
            intro w9 hS9
            go_simp
          try simp only [Act.put, List.setIfInBounds_toArray, List.set_cons_zero, List.set_cons_succ]
          refine wpAnyH_take (i := 4) (oi := { dst := some 43, op := _, type := _, pos := _, after := _, guard := _ }) (v := (.pointer (some ⟨k, 0, none⟩))) rfl (by kernel_rfl) (by kernel_rfl) (by kernel_rfl) (fun _ _ _ h => h) (Or.inl ⟨by rfl, ?hy5⟩) (by assumption) ?rest5
          case hy5 =>
            intro w9 hS9
            go_simp
          try simp only [Act.put, List.setIfInBounds_toArray, List.set_cons_zero, List.set_cons_succ]
          refine wpAnyH_ready (rs := [0, 3]) (by kernel_rfl) (by simp) ?_
          refine (AllReadyH.cons (o := { dst := some 39, op := _, type := _, pos := _, after := _, guard := _ }) rfl (fun K hK => ?_) (AllReadyH.cons (o := { dst := some 42, op := _, type := _, pos := _, after := _, guard := _ }) rfl (fun K hK => ?_) AllReadyH.nil))
          · obtain ⟨⟨zb, cb0, cb1⟩, -⟩ := G.bx
            go_simp
            clear zb cb0 cb1
            refine hK.out _ _ trivial (fun hx9 => ?_)
            clear hK K hx9
            try simp only [Act.put, List.setIfInBounds_toArray, List.set_cons_zero, List.set_cons_succ]
            refine wpAnyH_ready (rs := [3]) (by kernel_rfl) (by simp) ?_
            refine (AllReadyH.cons (o := { dst := some 42, op := _, type := _, pos := _, after := _, guard := _ }) rfl (fun K hK => ?_) AllReadyH.nil)
            go_simp
            refine (next_x P0 k B n _ G.src (by omega)).mono ?_
            rintro e P1 ⟨rfl, sf, tf⟩
            replace G := G.next sf tf
            clear sf tf
            refine hK.out _ _ trivial (fun hx9 => ?_)
            clear hK K hx9
            try simp only [Act.put, List.setIfInBounds_toArray, List.set_cons_zero, List.set_cons_succ]
            refine wpAnyH_ready (rs := [5]) (by kernel_rfl) (by simp) ?_
            refine (AllReadyH.cons (o := { dst := some 44, op := _, type := _, pos := _, after := _, guard := _ }) rfl (fun K hK => ?_) AllReadyH.nil)
            go_simp
            refine (fill_x P1 k B _ G.src).mono ?_
            rintro e P2 ⟨vf, rfl, OF, sf, tf⟩
            replace G := G.next sf tf
            clear sf tf
            obtain ⟨af, cf, hvf⟩ := OF.slice
            subst hvf
            refine hK.out _ _ trivial (fun hx9 => ?_)
            clear hK K hx9
            try simp only [Act.put, List.setIfInBounds_toArray, List.set_cons_zero, List.set_cons_succ]
            refine wpAnyH_ready (rs := [6]) (by kernel_rfl) (by simp) ?_
            refine (AllReadyH.cons (o := { dst := some 45, op := _, type := _, pos := _, after := _, guard := _ }) rfl (fun K hK => ?_) AllReadyH.nil)
            go_simp
            refine (specWrite_any P2 _ _ _ _ _ _ _ G.own.d.rd G.own.p.rd OF.rd (Nat.le_trans HM.out.1 (by omega)) (Nat.le_trans HM.out.2.1 (by omega)) (fun i => Nat.le_trans (HM.out.2.2 i) (by omega))).mono ?_
            rintro e P3 ⟨v1, v2, dv2, rfl, od, bb⟩
            obtain ⟨a1, c1, hv1⟩ := od.d.slice
            obtain ⟨a2, c2, hv2⟩ := od.p.slice
            subst hv1 hv2
            have GP := G.put od bb
            have GL := G.bx.below bb
            refine hK.out _ _ trivial (fun hx9 => ?_)
            clear hK K hx9
            try simp only [Act.put, List.setIfInBounds_toArray, List.set_cons_zero, List.set_cons_succ]
            refine wpAnyH_ready (rs := [7]) (by kernel_rfl) (by simp) ?_
            refine (AllReadyH.cons (o := { dst := none, op := _, type := _, pos := _, after := _, guard := _ }) rfl (fun K hK => ?_) AllReadyH.nil)
            obtain ⟨⟨zb, cb0, cb1⟩, fb0, fb1⟩ := GL
            go_simp
            clear zb cb0 cb1 fb0 fb1
            refine hK.out _ _ trivial (fun hx9 => ?_)
            clear hK K hx9
            try simp only [Act.put, List.setIfInBounds_toArray, List.set_cons_zero, List.set_cons_succ]
            refine wpAnyH_done (by kernel_rfl) ?_ _
            clear hHeld od bb OF G
            have HG2 : Hid (GS W k B Bd (.slice a1 _ c1) (.slice a2 _ c2) dv2 (good2 n q2 (j + 1)) _) := HN2.out _ _ _ _ GP
            clear GP
            go_wp2
            exact ⟨⟨j + 1, _, _, _, by omega, by rw [HR.out], HG2⟩, by simp [intOf]⟩
          · go_simp
            refine (next_x P0 k B n _ G.src (by omega)).mono ?_
            rintro e P4 ⟨rfl, sf, tf⟩
            replace G := G.next sf tf
            clear sf tf
            refine hK.out _ _ trivial (fun hx9 => ?_)
            clear hK K hx9
            try simp only [Act.put, List.setIfInBounds_toArray, List.set_cons_zero, List.set_cons_succ]
            refine wpAnyH_ready (rs := [0, 5]) (by kernel_rfl) (by simp) ?_
            refine (AllReadyH.cons (o := { dst := some 39, op := _, type := _, pos := _, after := _, guard := _ }) rfl (fun K hK => ?_) (AllReadyH.cons (o := { dst := some 44, op := _, type := _, pos := _, after := _, guard := _ }) rfl (fun K hK => ?_) AllReadyH.nil))
            · obtain ⟨⟨zb, cb0, cb1⟩, -⟩ := G.bx
              go_simp
              clear zb cb0 cb1
              refine hK.out _ _ trivial (fun hx9 => ?_)
              clear hK K hx9
              try simp only [Act.put, List.setIfInBounds_toArray, List.set_cons_zero, List.set_cons_succ]
              refine wpAnyH_ready (rs := [5]) (by kernel_rfl) (by simp) ?_
              refine (AllReadyH.cons (o := { dst := some 44, op := _, type := _, pos := _, after := _, guard := _ }) rfl (fun K hK => ?_) AllReadyH.nil)
              go_simp
              refine (fill_x P4 k B _ G.src).mono ?_
              rintro e P5 ⟨vf, rfl, OF, sf, tf⟩
              replace G := G.next sf tf
              clear sf tf
              obtain ⟨af, cf, hvf⟩ := OF.slice
              subst hvf
              refine hK.out _ _ trivial (fun hx9 => ?_)
              clear hK K hx9
              try simp only [Act.put, List.setIfInBounds_toArray, List.set_cons_zero, List.set_cons_succ]
              refine wpAnyH_ready (rs := [6]) (by kernel_rfl) (by simp) ?_
              refine (AllReadyH.cons (o := { dst := some 45, op := _, type := _, pos := _, after := _, guard := _ }) rfl (fun K hK => ?_) AllReadyH.nil)
              go_simp
              refine (specWrite_any P5 _ _ _ _ _ _ _ G.own.d.rd G.own.p.rd OF.rd (Nat.le_trans HM.out.1 (by omega)) (Nat.le_trans HM.out.2.1 (by omega)) (fun i => Nat.le_trans (HM.out.2.2 i) (by omega))).mono ?_
              rintro e P6 ⟨v1, v2, dv2, rfl, od, bb⟩
              obtain ⟨a1, c1, hv1⟩ := od.d.slice
              obtain ⟨a2, c2, hv2⟩ := od.p.slice
              subst hv1 hv2
              have GP := G.put od bb
              have GL := G.bx.below bb
              refine hK.out _ _ trivial (fun hx9 => ?_)
              clear hK K hx9
              try simp only [Act.put, List.setIfInBounds_toArray, List.set_cons_zero, List.set_cons_succ]
              refine wpAnyH_ready (rs := [7]) (by kernel_rfl) (by simp) ?_
              refine (AllReadyH.cons (o := { dst := none, op := _, type := _, pos := _, after := _, guard := _ }) rfl (fun K hK => ?_) AllReadyH.nil)
              obtain ⟨⟨zb, cb0, cb1⟩, fb0, fb1⟩ := GL
              go_simp
              clear zb cb0 cb1 fb0 fb1
              refine hK.out _ _ trivial (fun hx9 => ?_)
              clear hK K hx9
              try simp only [Act.put, List.setIfInBounds_toArray, List.set_cons_zero, List.set_cons_succ]
              refine wpAnyH_done (by kernel_rfl) ?_ _
              clear hHeld od bb OF G
              have HG2 : Hid (GS W k B Bd (.slice a1 _ c1) (.slice a2 _ c2) dv2 (good2 n q2 (j + 1)) _) := HN2.out _ _ _ _ GP
              clear GP
              go_wp2
              exact ⟨⟨j + 1, _, _, _, by omega, by rw [HR.out], HG2⟩, by simp [intOf]⟩
            · go_simp
              refine (fill_x P4 k B _ G.src).mono ?_
              rintro e P7 ⟨vf, rfl, OF, sf, tf⟩
              replace G := G.next sf tf
              clear sf tf
              obtain ⟨af, cf, hvf⟩ := OF.slice
              subst hvf
              refine hK.out _ _ trivial (fun hx9 => ?_)
              clear hK K hx9
              try simp only [Act.put, List.setIfInBounds_toArray, List.set_cons_zero, List.set_cons_succ]
              refine wpAnyH_ready (rs := [0]) (by kernel_rfl) (by simp) ?_
              refine (AllReadyH.cons (o := { dst := some 39, op := _, type := _, pos := _, after := _, guard := _ }) rfl (fun K hK => ?_) AllReadyH.nil)
              obtain ⟨⟨zb, cb0, cb1⟩, -⟩ := G.bx
              go_simp
              clear zb cb0 cb1
              refine hK.out _ _ trivial (fun hx9 => ?_)
              clear hK K hx9
              try simp only [Act.put, List.setIfInBounds_toArray, List.set_cons_zero, List.set_cons_succ]
              refine wpAnyH_ready (rs := [6]) (by kernel_rfl) (by simp) ?_
              refine (AllReadyH.cons (o := { dst := some 45, op := _, type := _, pos := _, after := _, guard := _ }) rfl (fun K hK => ?_) AllReadyH.nil)
              go_simp
              refine (specWrite_any P7 _ _ _ _ _ _ _ G.own.d.rd G.own.p.rd OF.rd (Nat.le_trans HM.out.1 (by omega)) (Nat.le_trans HM.out.2.1 (by omega)) (fun i => Nat.le_trans (HM.out.2.2 i) (by omega))).mono ?_
              rintro e P8 ⟨v1, v2, dv2, rfl, od, bb⟩
              obtain ⟨a1, c1, hv1⟩ := od.d.slice
              obtain ⟨a2, c2, hv2⟩ := od.p.slice
              subst hv1 hv2
              have GP := G.put od bb
              have GL := G.bx.below bb
              refine hK.out _ _ trivial (fun hx9 => ?_)
              clear hK K hx9
              try simp only [Act.put, List.setIfInBounds_toArray, List.set_cons_zero, List.set_cons_succ]
              refine wpAnyH_ready (rs := [7]) (by kernel_rfl) (by simp) ?_
              refine (AllReadyH.cons (o := { dst := none, op := _, type := _, pos := _, after := _, guard := _ }) rfl (fun K hK => ?_) AllReadyH.nil)
              obtain ⟨⟨zb, cb0, cb1⟩, fb0, fb1⟩ := GL
              go_simp
              clear zb cb0 cb1 fb0 fb1
              refine hK.out _ _ trivial (fun hx9 => ?_)
              clear hK K hx9
              try simp only [Act.put, List.setIfInBounds_toArray, List.set_cons_zero, List.set_cons_succ]
              refine wpAnyH_done (by kernel_rfl) ?_ _
              clear hHeld od bb OF G
              have HG2 : Hid (GS W k B Bd (.slice a1 _ c1) (.slice a2 _ c2) dv2 (good2 n q2 (j + 1)) _) := HN2.out _ _ _ _ GP
              clear GP
              go_wp2
              exact ⟨⟨j + 1, _, _, _, by omega, by rw [HR.out], HG2⟩, by simp [intOf]⟩
        · have hjn : j = N := by omega
          subst hjn
          rw [Nat.sub_self]
          rw [← HSG.out] at HG
          obtain ⟨⟨zb, cb0, cb1⟩, fb0, fb1⟩ := HG.out.bx
          obtain ⟨⟨rb, rb0, rb1⟩, fr0, fr1⟩ := HG.out.r
          obtain ⟨a1, c1, hv1⟩ := HG.out.own.d.slice
          obtain ⟨a2, c2, hv2⟩ := HG.out.own.p.slice
          subst hv1 hv2
          go_wp2
          have eb : Below W.heap.size wr ((wr.setCell ⟨W.heap.size, 0, none⟩ (.slice a1 s.good.1.1.length c1)).setCell ⟨W.heap.size, 1, none⟩ (.slice a2 s.good.1.2.length c2)) := ((Below.refl W.heap.size wr).setCell (p := ⟨W.heap.size, 0, none⟩) (Nat.le_refl _) _).setCell (p := ⟨W.heap.size, 1, none⟩) (Nat.le_refl _) _
          exact bodyPost_ret (v := .agg #[.slice a1 s.good.1.1.length c1, .slice a2 s.good.1.2.length c2]) (by simp [results, Try.results75, go_sem, rb0, rb1]) rfl ⟨_, _, _, rfl, (HG.out.own.below2 (Nat.lt_succ_self _)).mono (Nat.le_succ _) (by simp), HG.out.src.keep (eb.mono HG.out.bW), HG.out.tch.then eb⟩

end Go.Proofs.Ytoljmlhnbmeloaa

