import Derived.Test.YtmgolinleiahpaaCopyD
import Derived.Test.YtmgolinleiahpaaAddW
import Derived.Test.YtmgolinleiahpaaMadeW
import Derived.Laws.Cover3
import Derived.Deep.MidRow
namespace Go.Proofs.Ytmgolinleiahpaa
open Go.RowKit

/-- A cell of another block is written. -/
theorem OwnD.setAt {w : World} {lo hi : Nat} {vd vp : Value} {dur : List Int} {ps : List (Int × List Int)} {dv : Nat → Value} (h : OwnD w lo hi vd vp dur ps dv) (b j : Nat) (u : Value) (h1 : vd.ownBlock ≠ some b) (h2 : vp.ownBlock ≠ some b) (h3 : ∀ i, i < ps.length → (dv i).ownBlock ≠ some b) :
    OwnD (w.setCell ⟨b, j, none⟩ u) lo hi vd vp dur ps dv := by
  have G : w.grownBy (w.setCell ⟨b, j, none⟩ u) (some b) := grownBy_set _ _ _ _ _ (World.grownBy.refl _ _)
  exact ⟨h.d.other G (.inr h1), ⟨World.ownsRow.kept h.p.1 G (.inr h2), fun i hi => (h.p.2.1 i hi).other G (.inr (h3 i hi)), h.p.2.2.1, h.p.2.2.2⟩, h.dlt, h.plt, h.qlt, h.dp, h.dq⟩

set_option maxHeartbeats 1000000 in
set_option maxRecDepth 100000 in
theorem implWrite_loop (w : World) (va vb vx : Option Addr) (dl ca n cb cx : Nat) (dur xs : List Int) (ps : List (Int × List Int)) (x : Int) (hd : Rd .u8 w (.slice va dl ca) dur) (hdl : dur.length = dl) (hp : RdW w (.slice vb n cb) ps) (hl : ps.length = n)
    (hx : Rd .u8 w (.slice vx 64 cx) xs) (hxl : xs.length = 64) (hv : vldD dl ps = true) (hn : n < 2000) (hx0 : 0 ≤ x) (hx1 : x < (dl / 64 : Nat)) (hd1 : dl ≤ 1048576) (hpd : ∀ i, (pD ps i).length ≤ 1048576) :
    Calls Try.prog 15 #[.agg #[.slice va dl ca, .slice vb n cb], .int .i64 x, .slice vx 64 cx] w fun e w' => ∃ v1 v2 dv, e = .returned (.agg #[v1, v2]) ∧ OwnD w' w.heap.size w'.heap.size v1 v2 dur (ps ++ [(x, xs)]) dv ∧ Below w.heap.size w w' := by
  obtain ⟨db, dof, rfl, hdb, RU⟩ : ∃ db dof, vx = some ⟨db, dof, none⟩ ∧ db < w.heap.size ∧ Hid (w.rangeAt db dof (xs.map (Value.int .u8))) := by
    obtain ⟨ao, cap', e, h1, h2, h3⟩ := hx
    simp only [Value.slice.injEq] at e
    obtain ⟨rfl, hl, rfl⟩ := e
    rcases h3 with rfl | ⟨b', o', e, hb', hc⟩
    · simp at hxl
    · refine ⟨b', o', e, hb', ?_⟩
      intro j u hu
      have hj : j < 64 := by have := (List.getElem?_eq_some_iff.1 hu).1; simp at this; omega
      rw [hc j (by omega)]
      simp at hu
      obtain ⟨y, hy, rfl⟩ := hu
      simp [List.getD, hy]
  have HD : Hid (Rd .u8 w (.slice va dl ca) dur) := hd
  have HP : Hid (RdW w (.slice vb n cb) ps) := hp
  have HX : Hid (Rd .u8 w (.slice (some ⟨db, dof, none⟩) 64 cx) xs) := hx
  have HL : Hid (ps.length = n) := hl
  have HXL : Hid (xs.length = 64) := hxl
  have HDL : Hid (dur.length = dl) := hdl
  have HPD : Hid (∀ i, (pD ps i).length ≤ 1048576) := hpd
  have BA : Hid (∀ o1 o2, Below w.heap.size w ((w.alloc o1).alloc o2)) := fun o1 o2 => ((Below.refl _ _).alloc (Nat.le_refl _) _).alloc (by simp) _
  clear hd hp hx hl hxl hdl hpd
  go_enter Try.func15, Try.ntmps15
  go_wp2_with fail
  have XA0 : Hid (BoxF ((w.alloc (.cells #[.slice va dl ca, .slice vb n cb] 32)).alloc (.cells #[.slice none 0 0, .slice none 0 0] 32)) w.heap.size (.slice va dl ca) (.slice vb n cb)) := (BoxF.new w _ _ _).below ((Below.refl _ _).alloc (Nat.le_refl _) _)
  have XR0 : Hid (BoxF ((w.alloc (.cells #[.slice va dl ca, .slice vb n cb] 32)).alloc (.cells #[.slice none 0 0, .slice none 0 0] 32)) (w.heap.size + 1) (.slice none 0 0) (.slice none 0 0)) := by
    have := BoxF.new (w.alloc (.cells #[.slice va dl ca, .slice vb n cb] 32)) (.slice none 0 0) (.slice none 0 0) 32
    show BoxF _ _ _ _
    simpa using this
  have B0 := BA.out (.cells #[.slice va dl ca, .slice vb n cb] 32) (.cells #[.slice none 0 0, .slice none 0 0] 32)
  have HB0 : Hid (Below w.heap.size w ((w.alloc (.cells #[.slice va dl ca, .slice vb n cb] 32)).alloc (.cells #[.slice none 0 0, .slice none 0 0] 32))) := B0
  clear B0 BA
  generalize (w.alloc (.cells #[.slice va dl ca, .slice vb n cb] 32)).alloc (.cells #[.slice none 0 0, .slice none 0 0] 32) = w0 at *
  refine (implValid_any _ va vb dl ca n cb ps (HP.out.below HB0.out) HL.out hd1 (by omega) HPD.out).mono ?_
  rintro e w1 ⟨rfl, b1⟩
  rw [hv]
  have HB1 : Hid (Below w.heap.size w w1) := HB0.out.trans (b1.mono HB0.out.size)
  have XA1 : Hid (BoxF w1 w.heap.size (.slice va dl ca) (.slice vb n cb)) := XA0.out.below b1
  have XR1 : Hid (BoxF w1 (w.heap.size + 1) (.slice none 0 0) (.slice none 0 0)) := XR0.out.below b1
  clear b1 XA0 XR0 HB0 hv
  obtain ⟨⟨z1, c0, c1⟩, -⟩ := XA1.out
  have t1 : ¬ (2000 : Int) ≤ (n : Int) := by omega
  have t1d : decide ((2000 : Int) ≤ (n : Int)) = false := by simpa using t1
  go_wp2_with fail
  refine (hasBlock_any _ va dl ca _ x hd1).mono ?_
  rintro e w2 ⟨rfl, b2⟩
  rw [show decide (0 ≤ x ∧ x < ((dl / 64 : Nat) : Int)) = true by rw [decide_eq_true_eq]; exact ⟨hx0, hx1⟩]
  have HB2 : Hid (Below w.heap.size w w2) := HB1.out.trans (b2.mono HB1.out.size)
  have XA2 : Hid (BoxF w2 w.heap.size (.slice va dl ca) (.slice vb n cb)) := XA1.out.below b2
  have XR2 : Hid (BoxF w2 (w.heap.size + 1) (.slice none 0 0) (.slice none 0 0)) := XR1.out.below b2
  have s2 := HB2.out.size
  clear b2 XA1 XR1 HB1 z1 c0 c1 hx0 hx1
  obtain ⟨⟨z1, c0, c1⟩, -⟩ := XA2.out
  have zr := XR2.out.1.1
  go_wp2_with fail
  refine (copyDisk_row _ va vb dl ca n cb dur ps (HD.out.below HB2.out) HDL.out (HP.out.below HB2.out) HL.out (by omega) hd1 HPD.out).mono ?_
  rintro e w3 ⟨a4, c4, g, dv, rfl, o3, b3⟩
  have D3 : Hid (OwnD w3 w2.heap.size w3.heap.size (.slice a4 dl c4) (.slice (some ⟨g, 0, none⟩) n (n + 1)) dur ps dv) := o3
  have HB3 : Hid (Below w.heap.size w w3) := HB2.out.trans (b3.mono s2)
  have XR3 : Hid (BoxF w3 (w.heap.size + 1) (.slice none 0 0) (.slice none 0 0)) := XR2.out.below b3
  have s3 := b3.size
  clear o3 b3 XA2 c0 c1 XR2
  go_wp2_with fail
  have BA4 : Hid (Below w3.heap.size w3 (w3.alloc (.cells #[(.slice a4 dl c4), (.slice (some ⟨g, 0, none⟩) n (n + 1))] 32))) := (Below.refl _ _).alloc (Nat.le_refl _) _
  have XB4 : Hid (BoxF (w3.alloc (.cells #[(.slice a4 dl c4), (.slice (some ⟨g, 0, none⟩) n (n + 1))] 32)) w3.heap.size (.slice a4 dl c4) (.slice (some ⟨g, 0, none⟩) n (n + 1))) := BoxF.new _ _ _ _
  have s4 : (w3.alloc (.cells #[(.slice a4 dl c4), (.slice (some ⟨g, 0, none⟩) n (n + 1))] 32)).heap.size = w3.heap.size + 1 := by simp
  generalize w3.alloc (.cells #[(.slice a4 dl c4), (.slice (some ⟨g, 0, none⟩) n (n + 1))] 32) = w4 at *
  have HS4 : Hid (w4.heap.size = w3.heap.size + 1) := s4
  clear s4
  have HB4 : Hid (Below w.heap.size w w4) := HB3.out.trans (BA4.out.mono (by omega))
  have XR4 : Hid (BoxF w4 (w.heap.size + 1) (.slice none 0 0) (.slice none 0 0)) := XR3.out.below BA4.out
  have D4 : Hid (OwnD w4 w2.heap.size w3.heap.size (.slice a4 dl c4) (.slice (some ⟨g, 0, none⟩) n (n + 1)) dur ps dv) := D3.out.below BA4.out
  have hg3 : g < w3.heap.size := D3.out.plt g rfl
  have RU4 : Hid (w4.rangeAt db dof (xs.map (Value.int .u8))) := fun j u hu => (HB4.out.cell (p := ⟨db, dof + j, none⟩) hdb).trans (RU.out j u hu)
  have hat : ∀ W, (Instr.arrayAt 77 (.slice (some ⟨db, dof, none⟩) 64 cx)).run Try.prog W = .ok (.pointer (some ⟨db, dof, none⟩)) W := fun W => run_arrayAt W 77 _ 64 _ _ _ Try.underlying77 (Nat.le_refl _)
  have HSZ : Hid ((Try.prog.info? 77).map (·.size) = some (xs.map (Value.int .u8)).length) := by
    show _ = _
    rw [List.length_map, HXL.out]
    kernel_rfl
  have hs4 : w4.heap.size = w3.heap.size + 1 := HS4.out
  obtain ⟨V, hV⟩ : ∃ V, V = xs.map (Value.int .u8) := ⟨_, rfl⟩
  rw [← hV] at RU4 HSZ
  have HV : Hid (V = xs.map (Value.int .u8)) := hV
  clear XR3 HB3 hV
  go_wp2_with fail
  go_simp
  go_wp2_with (refine wpList_load_mid rfl 77 _ rfl db dof rfl V _ RU4.out Try.underlying77 rfl HSZ.out ?_)
  have CA := addWrite_any w4 w3.heap.size 0 w2.heap.size w3.heap.size (.slice a4 dl c4) (.slice (some ⟨g, 0, none⟩) n (n + 1)) dur ps dv x xs D4.out (by omega) (by omega) XB4.out.1.2.2 XB4.out.2.2 (by omega) (by intro e; simp [Value.ownBlock] at e; omega) HXL.out (by rw [HL.out]; omega)
  rw [← HV.out, HL.out] at CA
  refine CA.mono ?_
  rintro e w6 ⟨rfl, w5, g5, cap5, v5, o5, gr5, hat5, hv5, rfl⟩
  have hg3 : g < w3.heap.size := D3.out.plt g rfl
  have hg2 : w2.heap.size ≤ g := (World.ownsRow.lt D3.out.p.1 g rfl).1
  have hs5 := gr5.size
  have K : ∀ b x' y', BoxF w4 b x' y' → b ≠ g → BoxF w5 b x' y' := fun b x' y' hb hne => by
    have hbl := gr5.block b hb.1.1 (fun e => hne (by simpa [Value.ownBlock] using e))
    exact ⟨⟨Nat.lt_of_lt_of_le hb.1.1 gr5.size, (World.cell?_of_block (a := ⟨b, 0, none⟩) hbl).trans hb.1.2.1, (World.cell?_of_block (a := ⟨b, 1, none⟩) hbl).trans hb.1.2.2⟩, (World.frozen?_of_block (a := ⟨b, 0, none⟩) hbl).trans hb.2.1, (World.frozen?_of_block (a := ⟨b, 1, none⟩) hbl).trans hb.2.2⟩
  have XB5 := K _ _ _ XB4.out (by omega)
  have XR5 := K _ _ _ XR4.out (by omega)
  have N6 : Hid (Value.ownBlock (.slice a4 dl c4) ≠ some w3.heap.size ∧ Value.ownBlock (.slice (some ⟨g5, 0, none⟩) (n + 1) cap5) ≠ some w3.heap.size ∧ ∀ i, i < (ps ++ [(x, xs)]).length → Value.ownBlock (dvSet dv n v5 i) ≠ some w3.heap.size) := by
    refine ⟨fun e => Nat.lt_irrefl _ (D3.out.dlt _ e), fun e => ?_, fun i hi e => ?_⟩
    · simp [Value.ownBlock] at e hat5
      omega
    · unfold dvSet at e
      by_cases e' : i = n
      · rw [if_pos e', hv5] at e
        simp at e
        omega
      · rw [if_neg e'] at e
        rw [List.length_append, HL.out] at hi
        exact Nat.lt_irrefl _ (D3.out.qlt i (by rw [HL.out]; simp at hi; omega) _ e)
  have D6 : Hid (OwnD w5 w2.heap.size w5.heap.size (.slice a4 dl c4) (.slice (some ⟨g5, 0, none⟩) (n + 1) cap5) dur (ps ++ [(x, xs)]) (dvSet dv n v5)) := o5
  have B6 : Hid (Below w.heap.size w w5) := HB4.out.grown gr5 HB4.out.size (by intro q hq; simp [Value.ownBlock] at hq; omega)
  clear o5 gr5 hat5 hv5 K CA RU4 HSZ hat D4 XR4 HB4 BA4 D3 HS4 XB4 HX RU HD HP
  obtain ⟨⟨y9, d0, d1⟩, f0, f1⟩ := XR5
  obtain ⟨⟨y0, m0, m1⟩, m2, m3⟩ := XB5
  have hne : w3.heap.size ≠ w.heap.size + 1 := by omega
  have hne2 : w.heap.size + 1 ≠ w3.heap.size := by omega
  go_wp2
  refine bodyPost_ret (v := .agg #[(.slice a4 dl c4), (.slice (some ⟨g5, 0, none⟩) (n + 1) cap5)]) (by simp [results, Try.results15, go_sem, d0, d1]) rfl ⟨_, _, dvSet dv n v5, rfl, ?_, ?_⟩
  · refine OwnD.mono (lo := w2.heap.size) (hi := w5.heap.size) ?_ s2 (by simp)
    repeat (first | exact D6.out | refine OwnD.within (l := w.heap.size + 1) (h := w.heap.size + 2) ?_ (Within.setCell _ (Nat.le_refl _) (by omega) _ _) (.inr (by omega)) | refine OwnD.setAt ?_ w3.heap.size _ _ N6.out.1 N6.out.2.1 N6.out.2.2)
  · repeat (first | exact B6.out | refine Below.setCell ?_ (by simp; try omega) _)

end Go.Proofs.Ytmgolinleiahpaa
