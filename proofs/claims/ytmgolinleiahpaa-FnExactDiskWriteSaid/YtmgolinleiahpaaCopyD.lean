import Derived.Test.YtmgolinleiahpaaMadeW
namespace Go.Proofs.Ytmgolinleiahpaa
open Go.RowKit

set_option maxHeartbeats 1000000 in
set_option maxRecDepth 100000 in
theorem copyDisk_row (w : World) (va vb : Option Addr) (dl ca n cb : Nat) (dur : List Int) (ps : List (Int × List Int)) (hd : Rd .u8 w (.slice va dl ca) dur) (hdl : dur.length = dl) (hp : RdW w (.slice vb n cb) ps) (hl : ps.length = n)
    (hn : n ≤ 1048576) (hd1 : dl ≤ 1048576) (hpd : ∀ i, (pD ps i).length ≤ 1048576) :
    Calls Try.prog 45 #[.agg #[.slice va dl ca, .slice vb n cb]] w fun e w' => ∃ a c g dv, e = .returned (.agg #[.slice a dl c, .slice (some ⟨g, 0, none⟩) n (n + 1)]) ∧ OwnD w' w.heap.size w'.heap.size (.slice a dl c) (.slice (some ⟨g, 0, none⟩) n (n + 1)) dur ps dv ∧ Below w.heap.size w w' := by
  obtain ⟨i0, hi, hz0, hz1, hz2⟩ := info_parts Try.infoW
  have HD : Hid (Rd .u8 w (.slice va dl ca) dur) := hd
  have HP : Hid (RdW w (.slice vb n cb) ps) := hp
  have HL : Hid (ps.length = n) := hl
  have HDL : Hid (dur.length = dl) := hdl
  have HPD : Hid (∀ i, (pD ps i).length ≤ 1048576) := hpd
  have BA : Hid (∀ o1 o2, Below w.heap.size w ((w.alloc o1).alloc o2)) := fun o1 o2 => ((Below.refl _ _).alloc (Nat.le_refl _) _).alloc (by simp) _
  clear hd hp hl hdl hpd
  go_enter Try.func45, Try.ntmps45
  go_wp2_with (at_make; go_must (refine wpList_make_own _ rfl _ _ 30 rfl (w.heap.size + 2) 42 i0 (.agg #[.int .i64 0, .slice none 0 0]) 2 Try.underlying30 hi hz0 hz1 _ _ _ (n + 1) rfl rfl ?b1 ?b2 ?b3 ?b4 ?_))
  case b1 => omega
  case b2 => rw [hz2]; omega
  case b3 => unfold maxLen; omega
  case b4 => simp
  intro w3 hown hgrow
  have XA2 : Hid (BoxF ((w.alloc (.cells #[.slice va dl ca, .slice vb n cb] 32)).alloc (.cells #[.slice none 0 0, .slice none 0 0] 32)) w.heap.size (.slice va dl ca) (.slice vb n cb)) := (BoxF.new w _ _ _).below ((Below.refl _ _).alloc (Nat.le_refl _) _)
  have XR2 : Hid (BoxF ((w.alloc (.cells #[.slice va dl ca, .slice vb n cb] 32)).alloc (.cells #[.slice none 0 0, .slice none 0 0] 32)) (w.heap.size + 1) (.slice none 0 0) (.slice none 0 0)) := by
    have := BoxF.new (w.alloc (.cells #[.slice va dl ca, .slice vb n cb] 32)) (.slice none 0 0) (.slice none 0 0) 32
    show BoxF _ _ _ _
    simpa using this
  have HB2 : Hid (Below w.heap.size w ((w.alloc (.cells #[.slice va dl ca, .slice vb n cb] 32)).alloc (.cells #[.slice none 0 0, .slice none 0 0] 32))) := BA.out _ _
  clear BA
  have hs2 : ((w.alloc (.cells #[.slice va dl ca, .slice vb n cb] 32)).alloc (.cells #[.slice none 0 0, .slice none 0 0] 32)).heap.size = w.heap.size + 2 := by simp
  generalize (w.alloc (.cells #[.slice va dl ca, .slice vb n cb] 32)).alloc (.cells #[.slice none 0 0, .slice none 0 0] 32) = w2 at *
  rw [show w.heap.size + 1 + 1 = w2.heap.size by omega] at hown
  have HS2 : Hid (w2.heap.size = w.heap.size + 2) := hs2
  clear hs2
  have s2 := HB2.out.size
  obtain ⟨⟨z1, c0, c1⟩, -⟩ := XA2.out
  have zr := XR2.out.1.1
  have B3 : Hid (Below w2.heap.size w2 w3) := (Below.refl _ _).grown hgrow (Nat.le_refl _) (by simp)
  have M3 : Hid (Made w3 w2.heap.size w2.heap.size 0 (n + 1) ps (fun _ => .slice none 0 0)) := ⟨hown, fun i hi => by omega, fun i j hi => by omega⟩
  have c03 := (B3.out.cell (p := ⟨w.heap.size, 0, none⟩) z1).trans c0
  have c13 := (B3.out.cell (p := ⟨w.heap.size, 1, none⟩) z1).trans c1
  clear hown hgrow c0 c1
  go_wp2
  clear c03 c13
  go_loopw [3, 14] (fun v i wr => ∃ (k : Nat) (dv : Nat → Value), k ≤ n ∧ i = .int .i64 k ∧ v = .slice (some ⟨w2.heap.size, 0, none⟩) k (n + 1) ∧ Hid (Made wr w2.heap.size w2.heap.size k (n + 1) ps dv) ∧ Below w2.heap.size w2 wr) (fun _ i _ => n - (intOf i).toNat)
  case atStart => exact ⟨0, _, Nat.zero_le _, rfl, by rw [HS2.out], M3, B3.out⟩
  case round =>
    clear M3 B3
    obtain ⟨k, dv, hk, rfl, rfl, HM, hg⟩ := hrel
    by_cases hlt : k < n
    · obtain ⟨b, o, rfl, hb, e1, da, dc, e2, r⟩ := HP.out.recAt HL.out hlt
      have BW : Hid (Below w.heap.size w wr) := HB2.out.trans (hg.mono s2)
      have e1' := (BW.out.cell (p := ⟨b, o + k * 2, none⟩) hb).trans e1
      have e2' := (BW.out.cell (p := ⟨b, o + k * 2 + 1, none⟩) hb).trans e2
      have RK : Hid (Rd .u8 wr (.slice da (pD ps k).length dc) (pD ps k)) := r.below BW.out
      have HG : Hid (Below w2.heap.size w2 wr) := hg
      have sg := hg.size
      have hltI : (k : Int) < (n : Int) := by omega
      clear e1 e2 r hg
      have hpk := HPD.out k
      go_wp2_with fail
      have BAl : Below wr.heap.size wr (wr.alloc (.cells #[.int .i64 (pB ps k), .slice da (pD ps k).length dc] 42)) := (Below.refl _ _).alloc (Nat.le_refl _) _
      have HCL : Hid (Calls Try.prog 53 #[.slice da (pD ps k).length dc] (wr.alloc (.cells #[.int .i64 (pB ps k), .slice da (pD ps k).length dc] 42)).drew fun e w' => ∃ a c, e = .returned (.slice a (pD ps k).length c) ∧ Hid (Own .u8 5 w' (wr.heap.size + 1) (.slice a (pD ps k).length c) (pD ps k)) ∧
          w'.cell? ⟨wr.heap.size, 0, none⟩ = some (.int .i64 (pB ps k)) ∧ w'.cell? ⟨wr.heap.size, 1, none⟩ = some (.slice da (pD ps k).length dc) ∧ Hid (Below wr.heap.size wr w')) := by
        refine (clone_any _ _ (pD ps k) ((RK.out.below BAl).drewN 1) (by omega)).mono ?_
        rintro e w' ⟨v', rfl, o', b'⟩
        obtain ⟨a, c, rfl⟩ := o'.slice
        have b2 : Below (wr.alloc (.cells #[.int .i64 (pB ps k), .slice da (pD ps k).length dc] 42)).heap.size (wr.alloc (.cells #[.int .i64 (pB ps k), .slice da (pD ps k).length dc] 42)) w' := (below_drewN' _ 1).trans b'
        have X := (Box2.new wr (.int .i64 (pB ps k)) (.slice da (pD ps k).length dc) 42).below b2
        exact ⟨a, c, rfl, by have := o'; simp at this; exact this, X.2.1, X.2.2, BAl.trans (b2.mono (by simp))⟩
      have HOW : Hid (∀ W', Below wr.heap.size wr W' → W'.ownsRow w2.heap.size 42 2 (.slice (some ⟨w2.heap.size, 0, none⟩) k (n + 1)) k (rowW k (pB ps) dv)) := fun W' hW' =>
        World.ownsRow.kept HM.out.1 (row := none) ⟨hW'.os, hW'.tape, hW'.output, hW'.size, fun q hq _ => hW'.block q hq⟩ (.inr (by simp [Value.ownBlock]))
      clear BAl e1' e2'
      go_region_law (first | (refine step_fits rfl _ _ 30 rfl w2.heap.size 42 i0 2 Try.underlying30 hi hz1 w2.heap.size k (n + 1) _ rfl ((HOW.out _ bw.out).alloc _) ⟨w'.heap.size, 0, none⟩ 1 1 [.int .i64 (pB ps k), .slice a (pD ps k).length c] rfl rfl (cell_two_new _ _ _ _) (by intro u hu; simp at hu; rcases hu with rfl | rfl <;> rfl) (by omega) ?_; intro w4 ho4 hg4) | (go_simp; go_at_call 53; refine HCL.out.mono ?_; rintro e w' ⟨a, c, rfl, o', k0, k1, bw⟩))
      all_goals
        have HM4 : Hid (Made w4 w2.heap.size w2.heap.size (k + 1) (n + 1) ps (dvSet dv k (.slice a (pD ps k).length c))) := by
          refine made_step HM.out (World.ownsRow.lt HM.out.1 _ rfl).2 bw.out ?_ ?_ hg4
          · exact o'.out.mono (by omega)
          · exact ho4
        have HG4 : Hid (Below w2.heap.size w2 w4) := ((HG.out.trans (bw.out.mono sg)).alloc (by have := bw.out.size; omega) _).grown hg4 (by have := bw.out.size; simp; omega) (by intro q hq; simp at hq; omega)
        clear ho4 hg4 o' k0 k1 bw HCL HOW HM HG
        go_wp2
        go_roundw
        case rel => exact ⟨k + 1, _, by omega, by go_num, rfl, HM4, HG4.out⟩
        case measure => simp [intOf]; omega
    · have hkn : k = n := by omega
      subst hkn
      have BW : Hid (Below w.heap.size w wr) := HB2.out.trans (hg.mono s2)
      have HG : Hid (Below w2.heap.size w2 wr) := hg
      have sg := hg.size
      have XAr : Hid (BoxF wr w.heap.size (.slice va dl ca) (.slice vb k cb)) := XA2.out.belowB HG.out z1
      have XRr : Hid (BoxF wr (w.heap.size + 1) (.slice none 0 0) (.slice none 0 0)) := XR2.out.belowB HG.out zr
      clear hg
      obtain ⟨⟨z6, c0, c1⟩, -⟩ := XAr.out
      go_wp2_with fail
      refine (clone_any _ _ dur (HD.out.below BW.out) (by have := HDL.out; omega)).mono ?_
      rintro e w7 ⟨v7, rfl, o7, b7⟩
      obtain ⟨a7, c7, rfl⟩ := o7.slice
      rw [HDL.out]
      have B7 : Hid (Below w.heap.size w w7) := BW.out.trans (b7.mono BW.out.size)
      have D7 : Hid (OwnD w7 w2.heap.size w7.heap.size (.slice a7 dl c7) (.slice (some ⟨w2.heap.size, 0, none⟩) k (k + 1)) dur ps dv) := by
        have := made_ownD HM.out HL.out b7 o7 (Nat.le_refl _)
        rw [HDL.out] at this
        exact this
      have XR7 : Hid (BoxF w7 (w.heap.size + 1) (.slice none 0 0) (.slice none 0 0)) := XRr.out.below b7
      clear o7 b7 HM XRr XAr c0 c1 z6
      obtain ⟨⟨z7, d0, d1⟩, f0, f1⟩ := XR7.out
      go_wp2
      refine bodyPost_ret (v := .agg #[.slice a7 dl c7, .slice (some ⟨w2.heap.size, 0, none⟩) k (k + 1)]) (by simp [results, Try.results45, go_sem, d0, d1]) rfl ⟨_, _, _, dv, rfl, ?_, ?_⟩
      · refine OwnD.mono (lo := w2.heap.size) (hi := w7.heap.size) ?_ s2 (by simp)
        repeat (first | exact D7.out | refine OwnD.within (l := w.heap.size + 1) (h := w.heap.size + 2) ?_ (Within.setCell _ (Nat.le_refl _) (by omega) _ _) (.inr (by have := HS2.out; omega)))
      · repeat (first | exact B7.out | refine Below.setCell ?_ (by simp; try omega) _)

end Go.Proofs.Ytmgolinleiahpaa
