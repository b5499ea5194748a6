import Derived.Test.YtahapnlnnlcbkaaDoorLCrcByte
namespace Go.Proofs.YtahapnlnnlcbkaaDoor
open Go.RowKit

set_option maxHeartbeats 1000000 in
set_option maxRecDepth 100000 in
theorem lawCrcByte_long (w : World) (b o n : Nat) (am : Option Addr) (cc cm m : Nat) (ys ms : List Int) (hc : Rd .u8 w (.slice (some ⟨b, o, none⟩) 2000 cc) ys) (hby : Byt ys) (hl : ys.length = 2000) (hn1 : 2000 < n) (hn2 : n ≤ 1048576) (hcc : n ≤ cc)
    (hm : Rd .u8 w (.slice am m cm) ms) (hmy : Byt ms) (hml : ms.length = m) (hm1 : m ≤ 1048576) (ht : Tab w) (h0 : 0 < w.heap.size) :
    Calls Tryd.prog 3 #[.slice (some ⟨b, o, none⟩) n cc, .slice am m cm] w fun e w' => e = .returned (.bool true) ∧ Below w.heap.size w w' := by
  have HR : Hid (Rd .u8 w (.slice (some ⟨b, o, none⟩) 2000 cc) ys) := hc
  have HM : Hid (Rd .u8 w (.slice am m cm) ms) := hm
  have HT : Hid (Tab w) := ht
  have HML : Hid (ms.length = m) := hml
  obtain ⟨C, hC⟩ : ∃ C : Nat, C = 4294967295 - crcL 4294967295 ys := ⟨_, rfl⟩
  have HCC : Hid (4294967295 - crcL 4294967295 ys = C) := hC.symm
  have hc1 := conv_any hc
  obtain ⟨cap1, W1, hr1, B1, z1, R1, f1⟩ := conv_back w ys hby (by omega)
  rw [hl] at hr1 R1 f1
  have HL : Hid (ys.length = 2000) := hl
  have hll : ys.length ≤ 2000 := by omega
  clear hl
  have HB1 : Hid (Below w.heap.size w W1) := B1
  have HR1 : Hid (Rd .u8 W1 (.slice (some ⟨w.heap.size, 0, none⟩) 2000 cap1) ys) := R1
  clear hc hm ht hml hC B1 R1 f1
  have t1 : ¬ (1048576 : Int) < (n : Int) := by omega
  have t2 : ¬ (1048576 : Int) < (m : Int) := by omega
  have t3 : (2000 : Int) < (n : Int) := by omega
  have t3' : 2000 ≤ cc := by omega
  have t3n : ¬ cc = 0 := by omega
  go_enter Tryd.func3, Tryd.ntmps3
  go_wp2_with fail
  refine (implCrc_any _ _ ys HR1.out hby (by omega) (HT.out.below h0 HB1.out)).mono ?_
  rintro e W1 ⟨rfl, hw⟩
  subst hw
  rw [HCC.out]
  go_wp2_with fail
  refine (specCrc_any _ _ ys (HR.out.below HB1.out) hby (by omega)).mono ?_
  rintro e W1 ⟨rfl, hw⟩
  subst hw
  rw [HCC.out]
  have hne : ((C : Int) != (C : Int)) = false := by simp
  clear hc1 hr1
  have hc2 := conv_any (HR.out.below HB1.out)
  obtain ⟨cap2, W2, hr2, B2, z2, R2, f2⟩ := conv_back W1 ys hby (by omega)
  rw [HL.out] at hr2 R2 f2
  have HB2 : Hid (Below W1.heap.size W1 W2) := B2
  have HR2 : Hid (Rd .u8 W2 (.slice (some ⟨W1.heap.size, 0, none⟩) 2000 cap2) ys) := R2
  have HF2 : Hid (∀ j, j < 2000 → W2.frozen? ⟨W1.heap.size, j, none⟩ = false) := f2
  have BW2 : Hid (Below w.heap.size w W2) := HB1.out.trans (B2.mono (by omega))
  have HM2 : Hid (Rd .u8 W2 (.slice am m cm) ms) := HM.out.below BW2.out
  clear B2 R2 f2
  go_wp2_with fail
  refine (lwAt_any _ _ ms 0 256 HM2.out hmy (by rw [HML.out]; omega) (by omega) (by omega)).mono ?_
  rintro e w3 ⟨rfl, q3, rfl⟩
  have l0 := lw_lt ms 0 256 (by omega)
  generalize lw ms 0 256 = r0 at *
  go_wp2_with fail
  refine (lwAt_any _ _ ms 1 256 (HM2.out.drewN q3) hmy (by rw [HML.out]; omega) (by omega) (by omega)).mono ?_
  rintro e w3 ⟨rfl, q4, rfl⟩
  have l1 := lw_lt ms 1 256 (by omega)
  generalize lw ms 1 256 = r1 at *
  clear hc2 hr2 hne
  have hi : (r0 * 256 + r1) % 2000 < 2000 := Nat.mod_lt _ (by omega)
  have hil : (r0 * 256 + r1) % 2000 < ys.length := by rw [HL.out]; exact hi
  have t6 : ((r0 : Int) * 256 + (r1 : Int)) % 2000 = (((r0 * 256 + r1) % 2000 : Nat) : Int) := by rw [Int.natCast_emod, Int.natCast_add, Int.natCast_mul]; rfl
  generalize (r0 * 256 + r1) % 2000 = i at *
  have hiI : (i : Int) < 2000 := by omega
  obtain ⟨y, hy, hye⟩ := byt_at hby i
  have cy : W2.cell? ⟨W1.heap.size, i, none⟩ = some (.int .u8 (y : Int)) := by
    obtain ⟨ao, c, e, _, _, h3⟩ := HR2.out
    simp only [Value.slice.injEq] at e
    obtain ⟨rfl, _, rfl⟩ := e
    rcases h3 with h3 | ⟨b', o', e', _, hc⟩
    · rw [h3] at hil; simp at hil
    · simp only [Option.some.injEq, Addr.mk.injEq, and_true] at e'
      obtain ⟨rfl, rfl⟩ := e'
      rw [← hye, ← hc i hil, Nat.zero_add]
  have fy := HF2.out i hi
  have l2 := lw_lt ms 2 255 (by omega)
  obtain ⟨z, hz, hze, hzy⟩ := xor_change y (lw ms 2 255) hy l2
  have hlw : ∀ W q, W = W2.drewN q → Calls Tryd.prog 7 #[.slice am m cm, .int .i64 2, .int .i64 255] W fun e w' => e = .returned (.int .i64 ((lw ms 2 255 : Nat) : Int)) ∧ ∃ q, w' = W2.drewN q := by
    intro W q hW
    subst hW
    refine (lwAt_any _ _ ms 2 255 (HM2.out.drewN q) hmy (by rw [HML.out]; omega) (by omega) (by omega)).mono ?_
    rintro e w' ⟨rfl, q', rfl⟩
    exact ⟨rfl, _, World.drewN_drewN _ _ _⟩
  have HLW : Hid (∀ W q, W = W2.drewN q → Calls Tryd.prog 7 #[.slice am m cm, .int .i64 2, .int .i64 255] W fun e w' => e = .returned (.int .i64 ((lw ms 2 255 : Nat) : Int)) ∧ ∃ q, w' = W2.drewN q) := hlw
  generalize hr2 : lw ms 2 255 = r2 at *
  have HZY : Hid (z ≠ y) := hzy
  have HYE : Hid (ys.getD i 0 = (y : Int)) := hye
  clear hlw hr2 hzy hye
  obtain ⟨C2, hC2⟩ : ∃ C2 : Nat, C2 = 4294967295 - crcL 4294967295 (ys.set i (z : Int)) := ⟨_, rfl⟩
  have HC2 : Hid (4294967295 - crcL 4294967295 (ys.set i (z : Int)) = C2) := hC2.symm
  have hbz : Byt (ys.set i (z : Int)) := by
    intro x hx
    rcases List.mem_or_eq_of_mem_set hx with h | h
    · exact hby x h
    · omega
  have hneq : ((C2 : Int) != (C : Int)) = true := by
    rw [bne_iff_ne]
    have h1 := crcL_change ys hby i hil (z : Int) (by omega) (by
      have : ys[i] = (y : Int) := by have := HYE.out; simpa [List.getD, hil] using this
      rw [this]; have := HZY.out; omega) 4294967295 (by decide)
    have h2 := crcL_lt 4294967295 (by decide) ys hby
    have h3 := crcL_lt 4294967295 (by decide) _ hbz
    rw [hC2, ← HCC.out]
    omega
  have HFIN : Hid (∀ q, Rd .u8 ((W2.drewN q).setCell ⟨W1.heap.size, i, none⟩ (.int .u8 (z : Int))) (.slice (some ⟨W1.heap.size, 0, none⟩) 2000 cap2) (ys.set i (z : Int))) := by
    intro q
    have := Rd.set (o := 0) HL.out (HR2.out.drewN q) hi (z : Int)
    rw [Nat.zero_add] at this
    exact this
  have BFIN : Hid (∀ q, Below w.heap.size w ((W2.drewN q).setCell ⟨W1.heap.size, i, none⟩ (.int .u8 (z : Int)))) := fun q =>
    (BW2.out.trans ((below_drewN' W2 q).mono BW2.out.size)).setCell (by show w.heap.size ≤ W1.heap.size; omega) _
  have hset : (ys.set i (z : Int)).length = ys.length := by simp
  have HSET : Hid ((ys.set i (z : Int)).length = ys.length) := hset
  clear hC2 hset
  go_wp2_with fail
  go_region_with (go_at_call 7; refine (HLW.out _ _ rfl).mono ?_; rintro e w' ⟨rfl, q', rfl⟩)
  all_goals
    go_wp2_with fail
    rw [hze]
    refine (implCrc_any _ _ (ys.set i (z : Int)) (HFIN.out q') hbz (by rw [HSET.out]; omega) (HT.out.below h0 (BFIN.out q'))).mono ?_
    rintro e w9 ⟨rfl, hw⟩
    subst hw
    rw [HC2.out]
    go_wp2
    go_ret
    exact ⟨rfl, BFIN.out q'⟩


theorem lawCrcByte_walk (w : World) (v : Value) (xs : List Int) (h : Rd .u8 w v xs) (hby : Byt xs) (v' : Value) (ms : List Int) (h' : Rd .u8 w v' ms) (hmy : Byt ms) (ht : Tab w) (h0 : 0 < w.heap.size) :
    Calls Tryd.prog 3 #[v, v'] w fun e w' => e = .returned (.bool true) ∧ Below w.heap.size w w' := by
  obtain ⟨ao, cap, rfl, hl1, hl2⟩ := h.len
  obtain ⟨am, cm, rfl, hm1, hm2⟩ := h'.len
  by_cases c1 : 1048576 < xs.length
  · have hbI : (1048576 : Int) < (xs.length : Int) := by omega
    clear h h' ht
    go_enter Tryd.func3, Tryd.ntmps3
    go_wp2
    go_ret
    exact ⟨rfl, Below.refl _ _⟩
  · by_cases c2 : 1048576 < ms.length
    · have hbI : ¬ (1048576 : Int) < (xs.length : Int) := by omega
      have hbJ : (1048576 : Int) < (ms.length : Int) := by omega
      clear h h' ht
      go_enter Tryd.func3, Tryd.ntmps3
      go_wp2
      go_ret
      exact ⟨rfl, Below.refl _ _⟩
    · by_cases c3 : xs.length ≤ 2000
      · exact lawCrcByte_core w ao am cap cm ms.length xs ms h hby c3 h' hmy rfl (by omega) ht h0
      · obtain ⟨ao', cap', e, k1, k2, k3⟩ := h
        simp only [Value.slice.injEq] at e
        obtain ⟨rfl, _, rfl⟩ := e
        rcases k3 with rfl | ⟨b, o, rfl, hb, hc⟩
        · simp at c3
        · have hlen : (xs.take 2000).length = 2000 := by simp; omega
          refine lawCrcByte_long w b o xs.length am cap cm ms.length (xs.take 2000) ms ⟨some ⟨b, o, none⟩, cap, by rw [hlen], by rw [hlen]; omega, k2, .inr ⟨b, o, rfl, hb, fun i hi => ?_⟩⟩ (fun x hx => hby x (List.mem_of_mem_take hx)) hlen (by omega) (by omega) (by omega) h' hmy rfl (by omega) ht h0
          rw [hlen] at hi
          rw [hc i (by omega)]
          simp [List.getD, List.getElem?_take_of_lt hi]

end Go.Proofs.YtahapnlnnlcbkaaDoor
