import Derived.Test.YtoljmlhnbmeloaaCopyD
namespace Go.Proofs.Ytoljmlhnbmeloaa
open Go.RowKit

/-- A cell of another block is written. -/
theorem OwnD.setAt {w : World} {lo hi : Nat} {vd vp : Value} {dur : List Int} {ps : List (Int × List Int)} {dv : Nat → Value} (h : OwnD w lo hi vd vp dur ps dv) (b j : Nat) (u : Value) (h1 : vd.ownBlock ≠ some b) (h2 : vp.ownBlock ≠ some b) (h3 : ∀ i, i < ps.length → (dv i).ownBlock ≠ some b) :
    OwnD (w.setCell ⟨b, j, none⟩ u) lo hi vd vp dur ps dv := by
  have G : w.grownBy (w.setCell ⟨b, j, none⟩ u) (some b) := grownBy_set _ _ _ _ _ (World.grownBy.refl _ _)
  exact ⟨h.d.other G (.inr h1), ⟨World.ownsRow.kept h.p.1 G (.inr h2), fun i hi => (h.p.2.1 i hi).other G (.inr (h3 i hi)), h.p.2.2.1, h.p.2.2.2⟩, h.dlt, h.plt, h.qlt, h.dp, h.dq⟩

/-- One record more, behind a disk of the call's own. -/
theorem OwnD.snoc {w0 w5 w6 : World} {lo lo5 g n cap : Nat} {vd v : Value} {dur : List Int} {ps : List (Int × List Int)} {dv : Nat → Value} {x : Int} {xs : List Int} {ob : Obj} (hD : OwnD w0 lo w0.heap.size vd (.slice (some ⟨g, 0, none⟩) n cap) dur ps dv) (hl : ps.length = n)
    (b5 : Below w0.heap.size w0 w5) (o5 : Own .u8 5 w5 lo5 v xs) (hlo5 : w0.heap.size ≤ lo5) (hlo : lo ≤ lo5)
    (ho6 : w6.ownsRow lo 42 2 (.slice (some ⟨g, 0, none⟩) (n + 1) cap) (n + 1) (rowW n (pB ps) dv ++ [.int .i64 x, v])) (hg6 : (w5.alloc ob).grownBy w6 (some g)) :
    OwnD w6 lo w6.heap.size vd (.slice (some ⟨g, 0, none⟩) (n + 1) cap) dur (ps ++ [(x, xs)]) (dvSet dv n v) := by
  subst hl
  have G : w5.grownBy w6 (some g) := World.grownBy.trans (World.grownBy_alloc w5 ob (some g)) hg6
  have hgl : g < w0.heap.size := hD.plt g rfl
  have hs5 := b5.size
  have hs6 := G.size
  have hn2 : ∀ u : Value, (∀ q, u.ownBlock = some q → lo5 ≤ q) → u.ownBlock = none ∨ u.ownBlock ≠ some g := fun u hu => by
    cases hv : u.ownBlock with
    | none => exact .inl rfl
    | some q => have := hu q hv; exact .inr (by simp; omega)
  have hdq : ∀ i, i < ps.length → Own .u8 5 w6 lo (dv i) (pD ps i) := fun i hi => by
    refine ((hD.p.2.1 i hi).below b5).other G ?_
    rcases hD.p.2.2.2 i hi with h | h
    · exact .inl h
    · exact .inr h
  have hlen : (ps ++ [(x, xs)]).length = ps.length + 1 := by simp
  have rB : ∀ i, i < ps.length → pB (ps ++ [(x, xs)]) i = pB ps i := fun i hi => pB_app _ _ _ hi
  have rD : ∀ i, i < ps.length → pD (ps ++ [(x, xs)]) i = pD ps i := fun i hi => pD_app _ _ _ hi
  have hvn : ∀ i, i < ps.length → Ne2 (dv i) v := fun i hi => by
    unfold Ne2
    cases hv : (dv i).ownBlock with
    | none => exact .inl rfl
    | some q =>
      right; intro e
      have h1 := hD.qlt i hi q hv; have h2 := (o5.lt q (by rw [e])).1; omega
  have hvn' : ∀ i, i < ps.length → Ne2 v (dv i) := fun i hi => by
    unfold Ne2
    cases hv : v.ownBlock with
    | none => exact .inl rfl
    | some q =>
      right; intro e
      have h1 := hD.qlt i hi q e.symm; have h2 := (o5.lt q hv).1; omega
  refine ⟨?_, ⟨?_, ?_, ?_, ?_⟩, ?_, ?_, ?_, ?_, ?_⟩
  · refine (hD.d.below b5).other G ?_
    rcases hD.dp with h | h
    · simp [Value.ownBlock] at h
    · exact .inr (fun e => h (by rw [e]; rfl))
  · rw [hlen]
    have : rowW (ps.length + 1) (pB (ps ++ [(x, xs)])) (dvSet dv ps.length v) = rowW ps.length (pB ps) dv ++ [.int .i64 x, v] := by
      rw [rowW_snoc, pB_last]
      congr 1
      exact rowW_congr (fun i hi => rB i hi) (fun _ _ => rfl)
    rw [this]; exact ho6
  · intro i hi
    rw [hlen] at hi
    unfold dvSet
    by_cases e : i = ps.length
    · subst e
      rw [if_pos rfl, pD_last]
      exact (o5.mono hlo).other G (hn2 v (fun q hq => (o5.lt q hq).1))
    · rw [if_neg e, rD i (by omega)]
      exact hdq i (by omega)
  · intro i j hi hj hne
    rw [hlen] at hi hj
    unfold dvSet
    by_cases e : i = ps.length
    · rw [if_pos e]
      by_cases e' : j = ps.length
      · omega
      · rw [if_neg e']; exact hvn' j (by omega)
    · rw [if_neg e]
      by_cases e' : j = ps.length
      · rw [if_pos e']; exact hvn i (by omega)
      · rw [if_neg e']; exact hD.p.2.2.1 i j (by omega) (by omega) hne
  · intro i hi
    rw [hlen] at hi
    unfold dvSet
    by_cases e : i = ps.length
    · rw [if_pos e]; exact hn2 v (fun q hq => (o5.lt q hq).1)
    · rw [if_neg e]; exact hD.p.2.2.2 i (by omega)
  · intro q hq; have := hD.dlt q hq; omega
  · intro q hq; simp [Value.ownBlock] at hq; omega
  · intro i hi q hq
    rw [hlen] at hi
    unfold dvSet at hq
    by_cases e : i = ps.length
    · rw [if_pos e] at hq; have := (o5.lt q hq).2; omega
    · rw [if_neg e] at hq; have := hD.qlt i (by omega) q hq; omega
  · exact hD.dp
  · intro i hi
    rw [hlen] at hi
    unfold dvSet
    by_cases e : i = ps.length
    · rw [if_pos e]
      unfold Ne2
      cases hv : v.ownBlock with
      | none => exact .inl rfl
      | some q =>
        right; intro e
        have h1 := hD.dlt q e.symm; have h2 := (o5.lt q hv).1; omega
    · rw [if_neg e]; exact hD.dq i (by omega)

set_option maxHeartbeats 1000000 in
set_option maxRecDepth 100000 in
theorem implWrite_loop (w : World) (va vb vx : Option Addr) (dl ca n cb cx : Nat) (dur xs : List Int) (ps : List (Int × List Int)) (x : Int) (hd : Rd .u8 w (.slice va dl ca) dur) (hdl : dur.length = dl) (hp : RdW w (.slice vb n cb) ps) (hl : ps.length = n)
    (hx : Rd .u8 w (.slice vx 64 cx) xs) (hxl : xs.length = 64) (hv : vldD dl ps = true) (hn : n < 2000) (hx0 : 0 ≤ x) (hx1 : x < (dl / 64 : Nat)) (hd1 : dl ≤ 1048576) (hpd : ∀ i, (pD ps i).length ≤ 1048576) :
    Calls Try.prog 15 #[.agg #[.slice va dl ca, .slice vb n cb], .int .i64 x, .slice vx 64 cx] w fun e w' => ∃ v1 v2 dv, e = .returned (.agg #[v1, v2]) ∧ OwnD w' w.heap.size w'.heap.size v1 v2 dur (ps ++ [(x, xs)]) dv ∧ Below w.heap.size w w' := by
  obtain ⟨i0, hi, hz0, hz1, hz2⟩ := info_parts Try.infoW
  have HD : Hid (Rd .u8 w (.slice va dl ca) dur) := hd
  have HP : Hid (RdW w (.slice vb n cb) ps) := hp
  have HX : Hid (Rd .u8 w (.slice vx 64 cx) xs) := hx
  have HL : Hid (ps.length = n) := hl
  have HXL : Hid (xs.length = 64) := hxl
  have HDL : Hid (dur.length = dl) := hdl
  have HPD : Hid (∀ i, (pD ps i).length ≤ 1048576) := hpd
  have BA : Hid (∀ o1 o2, Below w.heap.size w ((w.alloc o1).alloc o2)) := fun o1 o2 => ((Below.refl _ _).alloc (Nat.le_refl _) _).alloc (by simp) _
  clear hd hp hx hl hxl hdl hpd
  go_enter Try.func15, Try.ntmps15
  go_wp2_with fail
  have XA0 : Hid (BoxF ((w.alloc (.cells #[.slice va dl ca, .slice vb n cb] 32)).alloc (.cells #[.slice none 0 0, .slice none 0 0] 32)) w.heap.size (.slice va dl ca) (.slice vb n cb)) := (BoxF.new w _ _ _).below ((Below.refl _ _).alloc (Nat.le_refl _) _)
  have XR0 : Hid (BoxF ((w.alloc (.cells #[.slice va dl ca, .slice vb n cb] 32)).alloc (.cells #[.slice none 0 0, .slice none 0 0] 32)) (w.heap.size + 1) (.slice none 0 0) (.slice none 0 0)) := by
    have := BoxF.new (w.alloc (.cells #[.slice va dl ca, .slice vb n cb] 32)) (.slice none 0 0) (.slice none 0 0) 32
    show BoxF _ _ _ _
    simpa using this
  have B0 := BA.out (.cells #[.slice va dl ca, .slice vb n cb] 32) (.cells #[.slice none 0 0, .slice none 0 0] 32)
  have HB0 : Hid (Below w.heap.size w ((w.alloc (.cells #[.slice va dl ca, .slice vb n cb] 32)).alloc (.cells #[.slice none 0 0, .slice none 0 0] 32))) := B0
  clear B0 BA
  generalize (w.alloc (.cells #[.slice va dl ca, .slice vb n cb] 32)).alloc (.cells #[.slice none 0 0, .slice none 0 0] 32) = w0 at *
  refine (implValid_any _ va vb dl ca n cb ps (HP.out.below HB0.out) HL.out hd1 (by omega) HPD.out).mono ?_
  rintro e w1 ⟨rfl, b1⟩
  rw [hv]
  have HB1 : Hid (Below w.heap.size w w1) := HB0.out.trans (b1.mono HB0.out.size)
  have XA1 : Hid (BoxF w1 w.heap.size (.slice va dl ca) (.slice vb n cb)) := XA0.out.below b1
  have XR1 : Hid (BoxF w1 (w.heap.size + 1) (.slice none 0 0) (.slice none 0 0)) := XR0.out.below b1
  clear b1 XA0 XR0 HB0 hv
  obtain ⟨⟨z1, c0, c1⟩, -⟩ := XA1.out
  have t1 : ¬ (2000 : Int) ≤ (n : Int) := by omega
  have t1d : decide ((2000 : Int) ≤ (n : Int)) = false := by simpa using t1
  go_wp2_with fail
  refine (hasBlock_any _ va dl ca _ x hd1).mono ?_
  rintro e w2 ⟨rfl, b2⟩
  rw [show decide (0 ≤ x ∧ x < ((dl / 64 : Nat) : Int)) = true by rw [decide_eq_true_eq]; exact ⟨hx0, hx1⟩]
  have HB2 : Hid (Below w.heap.size w w2) := HB1.out.trans (b2.mono HB1.out.size)
  have XA2 : Hid (BoxF w2 w.heap.size (.slice va dl ca) (.slice vb n cb)) := XA1.out.below b2
  have XR2 : Hid (BoxF w2 (w.heap.size + 1) (.slice none 0 0) (.slice none 0 0)) := XR1.out.below b2
  have s2 := HB2.out.size
  clear b2 XA1 XR1 HB1 z1 c0 c1 hx0 hx1
  obtain ⟨⟨z1, c0, c1⟩, -⟩ := XA2.out
  have zr := XR2.out.1.1
  go_wp2_with fail
  refine (copyDisk_row _ va vb dl ca n cb dur ps (HD.out.below HB2.out) HDL.out (HP.out.below HB2.out) HL.out (by omega) hd1 HPD.out).mono ?_
  rintro e w3 ⟨a4, c4, g, dv, rfl, o3, b3⟩
  have D3 : Hid (OwnD w3 w2.heap.size w3.heap.size (.slice a4 dl c4) (.slice (some ⟨g, 0, none⟩) n (n + 1)) dur ps dv) := o3
  have HB3 : Hid (Below w.heap.size w w3) := HB2.out.trans (b3.mono s2)
  have XR3 : Hid (BoxF w3 (w.heap.size + 1) (.slice none 0 0) (.slice none 0 0)) := XR2.out.below b3
  have s3 := b3.size
  clear o3 b3 XA2 c0 c1 XR2
  go_wp2_with fail
  have BA4 : Hid (Below w3.heap.size w3 (w3.alloc (.cells #[(.slice a4 dl c4), (.slice (some ⟨g, 0, none⟩) n (n + 1))] 32))) := (Below.refl _ _).alloc (Nat.le_refl _) _
  have XB4 : Hid (BoxF (w3.alloc (.cells #[(.slice a4 dl c4), (.slice (some ⟨g, 0, none⟩) n (n + 1))] 32)) w3.heap.size (.slice a4 dl c4) (.slice (some ⟨g, 0, none⟩) n (n + 1))) := BoxF.new _ _ _ _
  have s4 : (w3.alloc (.cells #[(.slice a4 dl c4), (.slice (some ⟨g, 0, none⟩) n (n + 1))] 32)).heap.size = w3.heap.size + 1 := by simp
  generalize w3.alloc (.cells #[(.slice a4 dl c4), (.slice (some ⟨g, 0, none⟩) n (n + 1))] 32) = w4 at *
  have HS4 : Hid (w4.heap.size = w3.heap.size + 1) := s4
  clear s4
  have HB4 : Hid (Below w.heap.size w w4) := HB3.out.trans (BA4.out.mono (by omega))
  have XR4 : Hid (BoxF w4 (w.heap.size + 1) (.slice none 0 0) (.slice none 0 0)) := XR3.out.below BA4.out
  have D4 : Hid (OwnD w4 w2.heap.size w3.heap.size (.slice a4 dl c4) (.slice (some ⟨g, 0, none⟩) n (n + 1)) dur ps dv) := D3.out.below BA4.out
  have hg3 : g < w3.heap.size := D3.out.plt g rfl
  have HCL : Hid (Calls Try.prog 46 #[.slice vx 64 cx] w4.drew fun e w' => ∃ a c, e = .returned (.slice a 64 c) ∧ Hid (Own .u8 5 w' w4.heap.size (.slice a 64 c) xs) ∧
      w'.cell? ⟨w3.heap.size, 0, none⟩ = some (.slice a4 dl c4) ∧ w'.cell? ⟨w3.heap.size, 1, none⟩ = some (.slice (some ⟨g, 0, none⟩) n (n + 1)) ∧ (∀ ob, (w'.alloc ob).cell? ⟨w3.heap.size, 1, none⟩ = some (.slice (some ⟨g, 0, none⟩) n (n + 1))) ∧ Hid (Below w4.heap.size w4 w')) := by
    refine (clone_any _ _ xs ((HX.out.below HB4.out).drewN 1) (by have := HXL.out; omega)).mono ?_
    rintro e w' ⟨v', rfl, o', b'⟩
    obtain ⟨a, c, rfl⟩ := o'.slice
    rw [HXL.out] at o' ⊢
    have b2 : Below w4.heap.size w4 w' := (below_drewN' _ 1).trans b'
    have X := XB4.out.below b2
    exact ⟨a, c, rfl, o', X.1.2.1, X.1.2.2, fun ob => (X.below ((Below.refl _ _).alloc (Nat.le_refl _) ob)).1.2.2, b2⟩
  have HOW : Hid (∀ W', Below w4.heap.size w4 W' → W'.ownsRow w2.heap.size 42 2 (.slice (some ⟨g, 0, none⟩) n (n + 1)) n (rowW n (pB ps) dv)) := fun W' hW' => by
    have := D4.out.p.1
    rw [HL.out] at this
    exact World.ownsRow.kept this (row := none) ⟨hW'.os, hW'.tape, hW'.output, hW'.size, fun q hq _ => hW'.block q hq⟩ (.inr (by simp [Value.ownBlock]))
  have HK6 : Hid (∀ W5 W6 ob, Below w4.heap.size w4 W5 → (W5.alloc ob).grownBy W6 (some g) → BoxF W6 w3.heap.size (.slice a4 dl c4) (.slice (some ⟨g, 0, none⟩) n (n + 1)) ∧ BoxF W6 (w.heap.size + 1) (.slice none 0 0) (.slice none 0 0)) := by
    intro W5 W6 ob h1 h2
    have hh := HS4.out
    have G : W5.grownBy W6 (some g) := World.grownBy.trans (World.grownBy_alloc W5 ob (some g)) h2
    have hgt : w2.heap.size ≤ g := (World.ownsRow.lt D4.out.p.1 g rfl).1
    have K : ∀ b x y, BoxF w4 b x y → b ≠ g → BoxF W6 b x y := fun b x y hb hne => by
      have hb5 := hb.below h1
      have hbl := G.block b hb5.1.1 (fun e => hne (by simpa using e))
      exact ⟨⟨Nat.lt_of_lt_of_le hb5.1.1 G.size, (World.cell?_of_block (a := ⟨b, 0, none⟩) hbl).trans hb5.1.2.1, (World.cell?_of_block (a := ⟨b, 1, none⟩) hbl).trans hb5.1.2.2⟩, (World.frozen?_of_block (a := ⟨b, 0, none⟩) hbl).trans hb5.2.1, (World.frozen?_of_block (a := ⟨b, 1, none⟩) hbl).trans hb5.2.2⟩
    exact ⟨K _ _ _ XB4.out (by omega), K _ _ _ XR4.out (by omega)⟩
  obtain ⟨⟨-, m0, m1⟩, m2, m3⟩ := XB4.out
  clear XR3 HB3
  go_region_law (first | (refine step_fits rfl _ _ 30 rfl w2.heap.size 42 i0 2 Try.underlying30 hi hz1 g n (n + 1) _ rfl ((HOW.out _ bw.out).alloc _) ⟨w'.heap.size, 0, none⟩ 1 1 [.int .i64 x, .slice a 64 c] rfl rfl (cell_two_new _ _ _ _) (by intro u hu; simp at hu; rcases hu with rfl | rfl <;> rfl) (Nat.le_refl _) ?_; intro w6 ho6 hg6; obtain ⟨⟨⟨y0, y1, y2⟩, y3, y4⟩, Y5⟩ := HK6.out _ _ _ bw.out hg6) | (go_simp; go_at_call 46; refine HCL.out.mono ?_; rintro e w' ⟨a, c, rfl, o', k0, k1, k2, bw⟩))
  all_goals
    have D6 : Hid (OwnD w6 w2.heap.size w6.heap.size (.slice a4 dl c4) (.slice (some ⟨g, 0, none⟩) (n + 1) (n + 1)) dur (ps ++ [(x, xs)]) (dvSet dv n (.slice a 64 c))) := OwnD.snoc D3.out HL.out (BA4.out.trans (bw.out.mono BA4.out.size)) o'.out BA4.out.size (by have := HS4.out; omega) ho6 hg6
    have N6 : Hid (Value.ownBlock (.slice a4 dl c4) ≠ some w3.heap.size ∧ Value.ownBlock (.slice (some ⟨g, 0, none⟩) (n + 1) (n + 1)) ≠ some w3.heap.size ∧ ∀ i, i < (ps ++ [(x, xs)]).length → Value.ownBlock (dvSet dv n (.slice a 64 c) i) ≠ some w3.heap.size) := by
      refine ⟨fun e => Nat.lt_irrefl _ (D3.out.dlt _ e), fun e => ?_, fun i hi e => ?_⟩
      · simp [Value.ownBlock] at e; omega
      · unfold dvSet at e
        by_cases e' : i = n
        · rw [if_pos e'] at e
          have h1 := (o'.out.lt _ e).1; have h2 := HS4.out; omega
        · rw [if_neg e'] at e
          rw [List.length_append, HL.out] at hi
          exact Nat.lt_irrefl _ (D3.out.qlt i (by rw [HL.out]; simp at hi; omega) _ e)
    have B6 : Hid (Below w.heap.size w w6) := ((HB4.out.trans (bw.out.mono HB4.out.size)).alloc (by have := HB4.out.size; have := bw.out.size; omega) _).grown hg6 (by have := HB4.out.size; have := bw.out.size; simp; omega) (by intro q hq; simp at hq; have := (World.ownsRow.lt D3.out.p.1 g rfl).1; omega)
    clear ho6 hg6 o' k0 k1 k2 bw HCL HOW HK6 m0 m1 m2 m3 D4 XR4 HB4 BA4 D3 HS4 XB4
    obtain ⟨⟨y9, d0, d1⟩, f0, f1⟩ := Y5
    have hne : w3.heap.size ≠ w.heap.size + 1 := by omega
    have hne2 : w.heap.size + 1 ≠ w3.heap.size := by omega
    go_wp2
    refine bodyPost_ret (v := .agg #[(.slice a4 dl c4), (.slice (some ⟨g, 0, none⟩) (n + 1) (n + 1))]) (by simp [results, Try.results15, go_sem, d0, d1]) rfl ⟨_, _, dvSet dv n (.slice a 64 c), rfl, ?_, ?_⟩
    · refine OwnD.mono (lo := w2.heap.size) (hi := w6.heap.size) ?_ s2 (by simp)
      repeat (first | exact D6.out | refine OwnD.within (l := w.heap.size + 1) (h := w.heap.size + 2) ?_ (Within.setCell _ (Nat.le_refl _) (by omega) _ _) (.inr (by omega)) | refine OwnD.setAt ?_ w3.heap.size _ _ N6.out.1 N6.out.2.1 N6.out.2.2)
    · repeat (first | exact B6.out | refine Below.setCell ?_ (by simp; try omega) _)

end Go.Proofs.Ytoljmlhnbmeloaa
