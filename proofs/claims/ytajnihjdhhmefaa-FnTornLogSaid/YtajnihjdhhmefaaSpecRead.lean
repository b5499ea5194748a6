import Derived.Test.YtajnihjdhhmefaaMadeW
namespace Go.Proofs.Ytajnihjdhhmefaa
open Go.RowKit

/-- What a read of block b gives after the first k pending writes. -/
def rdv (dur : List Int) (ps : List (Int × List Int)) (b : Nat) : Nat → List Int
  | 0 => (dur.drop (b * 64)).take 64
  | k + 1 => if pB ps k = b then pD ps k else rdv dur ps b k

/-- A slice of a slice. -/
theorem Rd.part {k : IntKind} {w : World} {blk o n cap : Nat} {xs : List Int} (h : Rd k w (.slice (some ⟨blk, o, none⟩) n cap) xs) (hn : xs.length = n) (i m : Nat) (hm : i + m ≤ n) : Rd k w (.slice (some ⟨blk, o + i, none⟩) m (cap - i)) ((xs.drop i).take m) := by
  obtain ⟨ao, cap', e, h1, h2, h3⟩ := h
  simp only [Value.slice.injEq] at e
  obtain ⟨rfl, hl, rfl⟩ := e
  have hlen : ((xs.drop i).take m).length = m := by rw [List.length_take, List.length_drop]; omega
  refine ⟨_, cap - i, by rw [hlen], by omega, by omega, ?_⟩
  rcases h3 with rfl | ⟨b', o', e, hb, hc⟩
  · left; simp
  · injection e with e
    injection e with e1 e2 _
    subst e1; subst e2
    refine .inr ⟨blk, o + i, rfl, hb, fun j hj => ?_⟩
    rw [hlen] at hj
    have := hc (i + j) (by omega)
    rw [Nat.add_assoc, this]
    simp [List.getD, List.getElem?_drop, hj]

set_option maxHeartbeats 1000000 in
set_option maxRecDepth 100000 in
theorem specRead_yes (w : World) (va vb : Option Addr) (dl ca n cb : Nat) (dur : List Int) (ps : List (Int × List Int)) (b : Nat) (hd : Rd .u8 w (.slice va dl ca) dur) (hdl : dur.length = dl) (hp : RdW w (.slice vb n cb) ps) (hl : ps.length = n)
    (hv : vldD dl ps = true) (hb : b < dl / 64) (hd1 : dl ≤ 1048576) (hn : n ≤ 2000) (hpd : ∀ i, (pD ps i).length ≤ 1048576) :
    Calls Try.prog 23 #[.agg #[.slice va dl ca, .slice vb n cb], .int .i64 b] w fun e w' => ∃ v', e = .returned v' ∧ Own .u8 5 w' w.heap.size v' (rdv dur ps b n) ∧ Below w.heap.size w w' := by
  have HD : Hid (Rd .u8 w (.slice va dl ca) dur) := hd
  have HP : Hid (RdW w (.slice vb n cb) ps) := hp
  have HL : Hid (ps.length = n) := hl
  have HDL : Hid (dur.length = dl) := hdl
  have HPD : Hid (∀ i, (pD ps i).length ≤ 1048576) := hpd
  have HV : Hid (vldD dl ps = true) := hv
  have B0 : Hid (Below w.heap.size w (w.alloc (.cells #[.slice va dl ca, .slice vb n cb] 45))) := (Below.refl _ _).alloc (Nat.le_refl _) _
  have X0 : Hid (Box2 (w.alloc (.cells #[.slice va dl ca, .slice vb n cb] 45)) w.heap.size (.slice va dl ca) (.slice vb n cb)) := Box2.new _ _ _ _
  clear hd hp hl hdl hpd hv
  go_enter Try.func23, Try.ntmps23
  go_wp2_with fail
  generalize w.alloc (.cells #[.slice va dl ca, .slice vb n cb] 45) = w0 at *
  refine (specValid_any _ va vb dl ca n cb ps (HP.out.below B0.out) HL.out hd1 (by omega) HPD.out).mono ?_
  rintro e w1 ⟨rfl, b1⟩
  rw [HV.out]
  have B1 : Hid (Below w.heap.size w w1) := B0.out.trans (b1.mono B0.out.size)
  have X1 : Hid (Box2 w1 w.heap.size (.slice va dl ca) (.slice vb n cb)) := X0.out.below b1
  clear b1 X0 B0
  have t2 : ¬ (b : Int) < 0 := by omega
  have t2d : decide ((b : Int) < 0) = false := by simp
  obtain ⟨z1, c0, c1⟩ := X1.out
  go_wp2_with fail
  refine (l1Blocks_any _ va dl ca _ hd1).mono ?_
  rintro e w2 ⟨rfl, b2⟩
  have B2 : Hid (Below w.heap.size w w2) := B1.out.trans (b2.mono B1.out.size)
  have X2 : Hid (Box2 w2 w.heap.size (.slice va dl ca) (.slice vb n cb)) := X1.out.below b2
  have t3 : ¬ ((dl / 64 : Nat) : Int) ≤ (b : Int) := by omega
  have t3d : decide (((dl / 64 : Nat) : Int) ≤ (b : Int)) = false := by simpa using t3
  have HBB : Hid ((b + 1) * 64 ≤ dl) := by show _ ≤ _; have := ((vldD_iff dl ps).1 HV.out).1; omega
  clear b2 X1 B1 z1 c0 c1
  have hbb := HBB.out
  obtain ⟨blk, o, rfl⟩ : ∃ blk o, va = some ⟨blk, o, none⟩ := by
    obtain ⟨ao, c', e, _, _, h3⟩ := HD.out
    simp only [Value.slice.injEq] at e
    rcases h3 with rfl | ⟨b', o', rfl, _⟩
    · have := HDL.out; simp at this; omega
    · exact ⟨b', o', e.1⟩
  have hca : dl ≤ ca ∧ ca ≤ maxLen := by
    obtain ⟨ao, c', e, h1, h2⟩ := HD.out.len
    simp only [Value.slice.injEq] at e
    obtain ⟨_, e2, rfl⟩ := e
    omega
  obtain ⟨hca1, hca2⟩ := hca
  unfold maxLen at hca2
  obtain ⟨z1, c0, c1⟩ := X2.out
  generalize ((dl / 64 : Nat) : Int) = q at *
  go_wp2_with fail
  rw [show (b + 1) * 64 - b * 64 = 64 by omega]
  refine (l1Copy_any _ _ ((dur.drop (b * 64)).take 64) ((HD.out.part HDL.out (b * 64) 64 (by omega)).below B2.out) (by rw [List.length_take]; omega)).mono ?_
  rintro e w3 ⟨v3, rfl, o3, b3⟩
  have B3 : Hid (Below w.heap.size w w3) := B2.out.trans (b3.mono B2.out.size)
  have X3 : Hid (Box2 w3 w.heap.size (.slice (some ⟨blk, o, none⟩) dl ca) (.slice vb n cb)) := X2.out.below b3
  have O3 : Hid (Own .u8 5 w3 w.heap.size v3 (rdv dur ps b 0)) := o3.mono B2.out.size
  have s3 := B3.out.size
  clear o3 b3 X2 B2 z1 c0 c1 t2 t2d t3 t3d hca1 hca2 hbb hb
  obtain ⟨z1, c0, c1⟩ := X3.out
  go_wp2
  clear c0 c1
  go_loopw [5, 6] (fun v i wr => ∃ k : Nat, k ≤ n ∧ i = .int .i64 k ∧ Hid (Own .u8 5 wr w.heap.size v (rdv dur ps b k)) ∧ Hid (Below w3.heap.size w3 wr)) (fun _ i _ => n - (intOf i).toNat)
  case atStart => exact ⟨0, Nat.zero_le _, rfl, O3, Below.refl _ _⟩
  case round =>
    clear O3
    obtain ⟨k, hk, rfl, HO, HG⟩ := hrel
    have BW : Hid (Below w.heap.size w wr) := B3.out.trans (HG.out.mono s3)
    have sg := HG.out.size
    obtain ⟨z2, c0, c1⟩ := X3.out.below HG.out
    by_cases hlt : k < n
    · obtain ⟨pb, po, rfl, hpb, e1, da, dc, e2, r⟩ := HP.out.recAt HL.out hlt
      have e1' := (BW.out.cell (p := ⟨pb, po + k * 2, none⟩) hpb).trans e1
      have e2' := (BW.out.cell (p := ⟨pb, po + k * 2 + 1, none⟩) hpb).trans e2
      have RK : Hid (Rd .u8 wr (.slice da (pD ps k).length dc) (pD ps k)) := r.below BW.out
      have hltI : (k : Int) < (n : Int) := by omega
      have hpk := HPD.out k
      clear e1 e2 r
      by_cases heq : pB ps k = (b : Int)
      · have heqb : (pB ps k == (b : Int)) = true := beq_iff_eq.2 heq
        have HE : Hid (rdv dur ps b (k + 1) = pD ps k) := by show rdv _ _ _ _ = _; unfold rdv; rw [if_pos heq]
        go_wp2_with fail
        refine (l1Copy_any _ _ (pD ps k) RK.out (by omega)).mono ?_
        rintro e w4 ⟨v4, rfl, o4, b4⟩
        have O4 : Hid (Own .u8 5 w4 w.heap.size v4 (rdv dur ps b (k + 1))) := by show Own _ _ _ _ _ _; rw [HE.out]; exact o4.mono (by omega)
        have G4 : Hid (Below w3.heap.size w3 w4) := HG.out.trans (b4.mono sg)
        clear o4 b4 HO HG
        go_wp2
        go_roundw
        case rel => exact ⟨k + 1, by omega, by go_num, O4, G4⟩
        case measure => simp [intOf]; omega
      · have heqb : (pB ps k == (b : Int)) = false := beq_false_of_ne heq
        have HE : Hid (rdv dur ps b (k + 1) = rdv dur ps b k) := by show rdv _ _ _ _ = _; rw [rdv, if_neg heq]
        have O4 : Hid (Own .u8 5 wr w.heap.size u5 (rdv dur ps b (k + 1))) := by show Own _ _ _ _ _ _; rw [HE.out]; exact HO.out
        go_wp2
        go_roundw
        case rel => exact ⟨k + 1, by omega, by go_num, O4, HG⟩
        case measure => simp [intOf]; omega
    · have hkn : k = n := by omega
      subst hkn
      go_wp2
      go_ret
      exact ⟨_, rfl, HO.out, BW.out⟩

end Go.Proofs.Ytajnihjdhhmefaa
