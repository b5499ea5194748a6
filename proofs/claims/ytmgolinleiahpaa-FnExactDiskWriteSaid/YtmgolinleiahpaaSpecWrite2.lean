import Derived.Test.YtmgolinleiahpaaSpecCopy
namespace Go.Proofs.Ytmgolinleiahpaa
open Go.RowKit

set_option maxHeartbeats 1000000 in
set_option maxRecDepth 100000 in
theorem specWrite_yes (w : World) (va vb vx : Option Addr) (dl ca n cb cx : Nat) (dur xs : List Int) (ps : List (Int × List Int)) (x : Int) (hd : Rd .u8 w (.slice va dl ca) dur) (hdl : dur.length = dl) (hp : RdW w (.slice vb n cb) ps) (hl : ps.length = n)
    (hx : Rd .u8 w (.slice vx 64 cx) xs) (hxl : xs.length = 64) (hv : vldD dl ps = true) (hn : n < 2000) (hx0 : 0 ≤ x) (hx1 : x < (dl / 64 : Nat)) (hd1 : dl ≤ 1048576) (hpd : ∀ i, (pD ps i).length ≤ 1048576) :
    Calls Try.prog 16 #[.agg #[.slice va dl ca, .slice vb n cb], .int .i64 x, .slice vx 64 cx] w fun e w' => ∃ v1 v2 dv, e = .returned (.agg #[v1, v2]) ∧ OwnD w' w.heap.size w'.heap.size v1 v2 dur (ps ++ [(x, xs)]) dv ∧ Below w.heap.size w w' := by
  obtain ⟨i0, hi, hz0, hz1, hz2⟩ := info_parts Try.infoW
  have HD : Hid (Rd .u8 w (.slice va dl ca) dur) := hd
  have HP : Hid (RdW w (.slice vb n cb) ps) := hp
  have HX : Hid (Rd .u8 w (.slice vx 64 cx) xs) := hx
  have HL : Hid (ps.length = n) := hl
  have HXL : Hid (xs.length = 64) := hxl
  have HDL : Hid (dur.length = dl) := hdl
  have HPD : Hid (∀ i, (pD ps i).length ≤ 1048576) := hpd
  have BA : Hid (∀ o1 o2, Below w.heap.size w ((w.alloc o1).alloc o2)) := fun o1 o2 => ((Below.refl _ _).alloc (Nat.le_refl _) _).alloc (by simp) _
  have HV : Hid (vldD dl ps = true) := hv
  clear hd hp hx hl hxl hdl hpd hv
  obtain ⟨qs, hqs⟩ : ∃ qs, qs = ps ++ [(x, xs)] := ⟨_, rfl⟩
  have HQ : Hid (qs.length = n + 1 ∧ (∀ i, i < n → pB qs i = pB ps i) ∧ pB qs n = x ∧ pD qs n = xs ∧ qs.take n = ps ∧ qs.take (n + 1) = qs) := by
    have hl := HL.out
    subst hqs; subst hl
    exact ⟨by simp, fun i hi => pB_app _ _ _ hi, pB_last _ _, pD_last _ _, by simp, List.take_of_length_le (by simp)⟩
  rw [← hqs]
  clear hqs
  go_enter Try.func16, Try.ntmps16
  go_wp2_with fail
  have XA0 : Hid (BoxF ((w.alloc (.cells #[.slice va dl ca, .slice vb n cb] 32)).alloc (.cells #[.slice none 0 0, .slice none 0 0] 32)) w.heap.size (.slice va dl ca) (.slice vb n cb)) := (BoxF.new w _ _ _).below ((Below.refl _ _).alloc (Nat.le_refl _) _)
  have XR0 : Hid (BoxF ((w.alloc (.cells #[.slice va dl ca, .slice vb n cb] 32)).alloc (.cells #[.slice none 0 0, .slice none 0 0] 32)) (w.heap.size + 1) (.slice none 0 0) (.slice none 0 0)) := by
    have := BoxF.new (w.alloc (.cells #[.slice va dl ca, .slice vb n cb] 32)) (.slice none 0 0) (.slice none 0 0) 32
    show BoxF _ _ _ _
    simpa using this
  have B0 := BA.out (.cells #[.slice va dl ca, .slice vb n cb] 32) (.cells #[.slice none 0 0, .slice none 0 0] 32)
  have HB0 : Hid (Below w.heap.size w ((w.alloc (.cells #[.slice va dl ca, .slice vb n cb] 32)).alloc (.cells #[.slice none 0 0, .slice none 0 0] 32))) := B0
  clear B0 BA
  generalize (w.alloc (.cells #[.slice va dl ca, .slice vb n cb] 32)).alloc (.cells #[.slice none 0 0, .slice none 0 0] 32) = w0 at *
  refine (specValid_any _ va vb dl ca n cb ps (HP.out.below HB0.out) HL.out hd1 (by omega) HPD.out).mono ?_
  rintro e w1 ⟨rfl, b1⟩
  rw [HV.out]
  have HB1 : Hid (Below w.heap.size w w1) := HB0.out.trans (b1.mono HB0.out.size)
  have XA1 : Hid (BoxF w1 w.heap.size (.slice va dl ca) (.slice vb n cb)) := XA0.out.below b1
  have XR1 : Hid (BoxF w1 (w.heap.size + 1) (.slice none 0 0) (.slice none 0 0)) := XR0.out.below b1
  clear b1 XA0 XR0 HB0
  obtain ⟨⟨z1, c0, c1⟩, -⟩ := XA1.out
  have t1 : ¬ (n : Int) = 2000 := by omega
  have t1b : ((n : Int) == 2000) = false := beq_false_of_ne t1
  have t2 : ¬ x < 0 := by omega
  have t2d : decide (x < 0) = false := by simpa using t2
  have HX1 : Hid (x < (dl / 64 : Nat)) := hx1
  clear hx1
  go_wp2_with fail
  refine (l1Blocks_any _ va dl ca _ hd1).mono ?_
  rintro e w2 ⟨rfl, b2⟩
  have HB2 : Hid (Below w.heap.size w w2) := HB1.out.trans (b2.mono HB1.out.size)
  have XA2 : Hid (BoxF w2 w.heap.size (.slice va dl ca) (.slice vb n cb)) := XA1.out.below b2
  have XR2 : Hid (BoxF w2 (w.heap.size + 1) (.slice none 0 0) (.slice none 0 0)) := XR1.out.below b2
  clear b2 XA1 XR1 HB1 z1 c0 c1 t2 t2d
  obtain ⟨⟨z1, c0, c1⟩, -⟩ := XA2.out
  have t3 : ¬ ((dl / 64 : Nat) : Int) ≤ x := by have := HX1.out; omega
  have t3d : decide (((dl / 64 : Nat) : Int) ≤ x) = false := by simpa using t3
  clear HX1
  generalize ((dl / 64 : Nat) : Int) = q at *
  go_wp2_with fail
  refine (l1CopyDisk_any _ va vb dl ca n cb dur ps (HD.out.below HB2.out) HDL.out (HP.out.below HB2.out) HL.out (by omega) hd1 HPD.out).mono ?_
  rintro e w3 ⟨v1, v2, dv, rfl, o3, b3⟩
  obtain ⟨a1, d1, rfl⟩ := o3.d.slice
  obtain ⟨a2, d2, rfl⟩ := o3.p.slice
  have HB3 : Hid (Below w.heap.size w w3) := HB2.out.trans (b3.mono HB2.out.size)
  have XR3 : Hid (BoxF w3 (w.heap.size + 1) (.slice none 0 0) (.slice none 0 0)) := XR2.out.below b3
  have s3 := b3.size
  have s2 := HB2.out.size
  have zr := XR2.out.1.1
  have O3 : Hid (OwnD w3 w2.heap.size w3.heap.size (.slice a1 dur.length d1) (.slice a2 ps.length d2) dur ps dv) := o3
  clear b3 o3 XA2 XR2 HB2 z1 c0 c1 t3 t3d t1 t1b
  go_wp2_with fail
  have CO : Hid (CopyAt (w3.alloc (.cells #[.slice a1 dur.length d1, .slice a2 ps.length d2] 32)) w2.heap.size w3.heap.size n (.slice a1 dur.length d1) (.slice a2 ps.length d2) dur qs dv) := by
    have B2 : Below w3.heap.size w3 (w3.alloc (.cells #[.slice a1 dur.length d1, .slice a2 ps.length d2] 32)) := (Below.refl _ _).alloc (Nat.le_refl _) _
    have o := O3.out
    refine ⟨BoxF.new _ _ _ _, by rw [HQ.out.2.2.2.2.1]; exact (o.below B2).mono (Nat.le_refl _) (by simp), ?_, ?_, ?_⟩
    · intro e; have := (o.d.lt _ e).2; omega
    · intro e; have := (World.ownsRow.lt o.p.1 _ e).2; omega
    · intro i hi e; have := ((o.p.2.1 i (by rw [HL.out]; exact hi)).lt _ e).2; omega
  have BO : Hid (Below w.heap.size w (w3.alloc (.cells #[.slice a1 dur.length d1, .slice a2 ps.length d2] 32))) := HB3.out.alloc HB3.out.size _
  have XRo : Hid (BoxF (w3.alloc (.cells #[.slice a1 dur.length d1, .slice a2 ps.length d2] 32)) (w.heap.size + 1) (.slice none 0 0) (.slice none 0 0)) := XR3.out.below ((Below.refl _ _).alloc (Nat.le_refl _) _)
  have so : (w3.alloc (.cells #[.slice a1 dur.length d1, .slice a2 ps.length d2] 32)).heap.size = w3.heap.size + 1 := by simp
  have HL2 : Hid (ps.length = n) := HL.out
  clear O3 HB3 XR3 HL HP HPD
  generalize w3.alloc (.cells #[.slice a1 dur.length d1, .slice a2 ps.length d2] 32) = wr at *
  obtain ⟨⟨z4, y0, y1⟩, -, y2⟩ := CO.out.box
  have HCL : Hid (Calls Try.prog 49 #[.slice vx 64 cx] wr.drew fun e w' => ∃ a c, e = .returned (.slice a xs.length c) ∧ Hid (Own .u8 5 w' wr.heap.size (.slice a xs.length c) xs) ∧
      w'.cell? ⟨w3.heap.size, 1, none⟩ = some (.slice a2 ps.length d2) ∧ w'.frozen? ⟨w3.heap.size, 1, none⟩ = false ∧ (w'.alloc (.cells #[.int .i64 x, .slice a xs.length c] 42)).cell? ⟨w3.heap.size, 1, none⟩ = some (.slice a2 ps.length d2) ∧ Hid (Below wr.heap.size wr w')) := by
    refine (l1Copy_any _ _ xs ((HX.out.below BO.out).drewN 1) (by have := HXL.out; omega)).mono ?_
    rintro e w' ⟨v', rfl, o', b'⟩
    obtain ⟨a, c, rfl⟩ := o'.slice
    have b2 : Below wr.heap.size wr w' := (below_drewN' _ 1).trans b'
    have k4 := (b2.cell (p := ⟨w3.heap.size, 1, none⟩) z4).trans y1
    exact ⟨a, c, rfl, o', k4, (b2.frozen (p := ⟨w3.heap.size, 1, none⟩) z4).trans y2, (World.cell?_alloc_some _ _ _ (by rw [k4]; rfl)).trans k4, b2⟩
  have HOW : Hid (∀ W' ob, Below wr.heap.size wr W' → (W'.alloc ob).ownsRow w2.heap.size 42 2 (.slice a2 ps.length d2) n (rowW n (pB qs) dv)) := by
    intro W' ob hW'
    have h0 := CO.out.own.p.1
    rw [HQ.out.2.2.2.2.1, HL2.out, show rowW n (pB ps) dv = rowW n (pB qs) dv from rowW_congr (fun i hi => (HQ.out.2.1 i hi).symm) (fun _ _ => rfl)] at h0
    rw [HL2.out]
    refine World.ownsRow.alloc (World.ownsRow.kept h0 (row := none) ⟨hW'.os, hW'.tape, hW'.output, hW'.size, fun q hq _ => hW'.block q hq⟩ ?_) ob
    cases Value.ownBlock (.slice a2 n d2) with
    | none => exact .inl rfl
    | some q => exact .inr (by simp)
  have HF4 : Hid (∀ W' W4 ob, Below wr.heap.size wr W' → (World.alloc W' ob).grownBy W4 (Value.ownBlock (.slice a2 ps.length d2)) → W4.cell? ⟨w3.heap.size, 1, none⟩ = some (.slice a2 ps.length d2) ∧ W4.frozen? ⟨w3.heap.size, 1, none⟩ = false) := by
    intro W' W4 ob hW' hG
    have hs := hW'.size
    have hp2 : w3.heap.size < (World.alloc W' ob).heap.size := by simp; omega
    have hb2 : Below wr.heap.size wr (World.alloc W' ob) := hW'.alloc hs _
    exact ⟨(hG.cell_far ⟨w3.heap.size, 1, none⟩ hp2 (Ne.symm CO.out.p)).trans ((hb2.cell (p := ⟨w3.heap.size, 1, none⟩) z4).trans y1), (hG.frozen_far ⟨w3.heap.size, 1, none⟩ hp2 (Ne.symm CO.out.p)).trans ((hb2.frozen (p := ⟨w3.heap.size, 1, none⟩) z4).trans y2)⟩
  have HEND : Hid (∀ (W' W4 : World) (ob : Obj) (g cap : Nat) (v : Value), Below wr.heap.size wr W' → Own .u8 5 W' wr.heap.size v xs → W4.ownsRow w2.heap.size 42 2 (.slice (some ⟨g, 0, none⟩) (n + 1) cap) (n + 1) (rowW n (pB qs) dv ++ [.int .i64 x, v]) → (W'.alloc ob).grownBy W4 (Value.ownBlock (.slice a2 ps.length d2)) → (Value.ownBlock (.slice a2 ps.length d2) = some g ∨ g = W'.heap.size + 1) →
      Hid (CopyAt (W4.setCell ⟨w3.heap.size, 1, none⟩ (.slice (some ⟨g, 0, none⟩) (n + 1) cap)) w2.heap.size w3.heap.size (n + 1) (.slice a1 dur.length d1) (.slice (some ⟨g, 0, none⟩) (n + 1) cap) dur qs (dvSet dv n v)) ∧ Hid (Below w2.heap.size wr (W4.setCell ⟨w3.heap.size, 1, none⟩ (.slice (some ⟨g, 0, none⟩) (n + 1) cap)))) := by
    intro W' W4 ob g cap v hW o4 r4 g4 at4
    have hs : w2.heap.size ≤ wr.heap.size := by omega
    refine ⟨CO.out.step (by rw [HQ.out.1]; omega) hs hW (by rw [HQ.out.2.2.2.1]; exact o4) (by rw [HQ.out.2.2.1]; exact r4) g4 at4, ?_⟩
    have := ((hW.mono hs).alloc (Nat.le_trans hs hW.size) ob).grown g4 (by have := hW.size; simp; omega) (fun q hq => (World.ownsRow.lt CO.out.own.p.1 q hq).1)
    exact this.setCell (by show w2.heap.size ≤ w3.heap.size; exact s3) _
  have hnum1 : n + 1 ≤ maxLen := by unfold maxLen; omega
  have hnum2 : (n + 1) * 32 ≤ 140737488355328 := by omega
  have hs2 : w2.heap.size ≤ wr.heap.size := by omega
  clear y0
  go_region_law (first
      | (refine step_append_lies _ (by rfl) _ _ _ (by rfl) w2.heap.size 42 i0 _ 2 32 Try.underlying30 hi hz0 hz1 hz2 rfl (by omega) (.slice a2 ps.length d2) n (rowW n (pB qs) dv) (by rfl) (HOW.out w' _ bw.out) ⟨w'.heap.size, 0, none⟩ 1 1 [.int .i64 x, .slice a xs.length c] (by rfl) (by rfl) (cell_two_new _ _ _ _) (by intro u hu; simp at hu; rcases hu with rfl | rfl <;> rfl)
          (by omega) hnum1 hnum2 (by have := bw.out.size; simp; omega) (w'.heap.size + 1) (by simp) ?_; intro g4 cap4 w4 ho4 hg4 hat4 hlt4; obtain ⟨q4, q5⟩ := HF4.out _ _ _ bw.out hg4)
      | (go_simp; go_at_call 49; refine HCL.out.mono ?_; rintro e w' ⟨a, c, rfl, o', k4, k5, k6, bw⟩))
  all_goals
    obtain ⟨C4, G4⟩ := HEND.out _ _ _ _ _ _ bw.out o'.out ho4 hg4 hat4
    clear ho4 hg4 hat4 hlt4 q4 q5 o' bw k4 k5 k6 HF4 HOW HCL HEND CO y1 y2
    generalize w4.setCell ⟨w3.heap.size, 1, none⟩ (.slice (some ⟨g4, 0, none⟩) (n + 1) cap4) = w5 at *
    obtain ⟨⟨z5, y0, y1⟩, -⟩ := C4.out.box
    obtain ⟨⟨z6, r0, r1⟩, f0, f1⟩ := XRo.out.belowB G4.out (by omega)
    have HB : Hid (Below w.heap.size w w5) := BO.out.trans (G4.out.mono s2)
    have OD : Hid (OwnD w5 w2.heap.size w5.heap.size (.slice a1 dur.length d1) (.slice (some ⟨g4, 0, none⟩) (n + 1) cap4) dur qs (dvSet dv n (.slice a xs.length c))) := by
      have := C4.out.own
      rw [HQ.out.2.2.2.2.2] at this
      exact this
    clear C4 G4
    go_wp2
    refine bodyPost_ret (v := .agg #[.slice a1 dur.length d1, .slice (some ⟨g4, 0, none⟩) (n + 1) cap4]) (by simp [results, Try.results16, go_sem, r0, r1]) rfl ⟨_, _, dvSet dv n (.slice a xs.length c), rfl, ?_, ?_⟩
    · refine OwnD.mono (lo := w2.heap.size) (hi := w5.heap.size) ?_ s2 (by simp)
      repeat (first | exact OD.out | refine OwnD.within (l := w.heap.size + 1) (h := w.heap.size + 2) ?_ (Within.setCell _ (Nat.le_refl _) (by omega) _ _) (.inr (by omega)))
    · repeat (first | exact HB.out | refine Below.setCell ?_ (by simp; try omega) _)

end Go.Proofs.Ytmgolinleiahpaa
