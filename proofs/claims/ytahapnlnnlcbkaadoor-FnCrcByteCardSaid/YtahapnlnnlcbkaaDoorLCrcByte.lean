import Derived.Test.YtahapnlnnlcbkaaDoorCrc
import Derived.Test.YtahapnlnnlcbkaaDoorLwAt
import Derived.Test.YtahapnlnnlcbkaaDoorConv
import Derived.Lib.SlBytesConst
import Derived.Deep.RegionWith
namespace Go.Proofs.YtahapnlnnlcbkaaDoor
open Go.RowKit

theorem Rd.set {k : IntKind} {w : World} {b o n cap : Nat} {ys : List Int} (hn : ys.length = n) (h : Rd k w (.slice (some ⟨b, o, none⟩) n cap) ys) {i : Nat} (hi : i < n) (y : Int) :
    Rd k (w.setCell ⟨b, o + i, none⟩ (.int k y)) (.slice (some ⟨b, o, none⟩) n cap) (ys.set i y) := by
  obtain ⟨ao, c, e, h1, h2, h3⟩ := h
  simp only [Value.slice.injEq] at e
  obtain ⟨rfl, _, rfl⟩ := e
  refine ⟨some ⟨b, o, none⟩, cap, by simp [hn], by simpa using h1, h2, ?_⟩
  rcases h3 with rfl | ⟨b', o', e', hb, hc⟩
  · simp at hn; omega
  · simp only [Option.some.injEq, Addr.mk.injEq, and_true] at e'
    obtain ⟨rfl, rfl⟩ := e'
    refine .inr ⟨b, o, rfl, by simpa using hb, fun j hj => ?_⟩
    simp only [List.length_set] at hj
    by_cases e : i = j
    · subst e
      rw [World.cell?_setCell_same (h := hc i hj)]
      simp [List.getD, hj]
    · rw [World.cell?_setCell_other (h := by intro h; injection h with _ h _; omega), hc j hj]
      simp [List.getD, e]

theorem xor_change (y r : Nat) (hy : y < 256) (hr : r < 255) : ∃ z : Nat, z < 256 ∧ bits .xor .u8 (y : Int) (1 + (r : Int)) = (z : Int) ∧ z ≠ y := by
  have e : (1 + (r : Int)) = ((1 + r : Nat) : Int) := by omega
  refine ⟨y ^^^ (1 + r), ?_, by rw [e, u8_xor_nat y (1 + r) hy (by omega)], ?_⟩
  · have := Nat.xor_lt_two_pow (n := 8) (x := y) (y := 1 + r) (by simpa using hy) (by simp only [Nat.reducePow]; omega)
    simpa using this
  · intro h
    have h2 := congrArg (fun z => y ^^^ z) h
    simp only [← Nat.xor_assoc, Nat.xor_self, Nat.zero_xor] at h2
    omega

theorem crc9 : (4294967295 - crcL 4294967295 [49, 50, 51, 52, 53, 54, 55, 56, 57] : Nat) = 3808858755 := by decide +kernel

set_option maxHeartbeats 1000000 in
set_option maxRecDepth 100000 in
theorem lawCrcByte_core (w : World) (ac am : Option Addr) (cc cm m : Nat) (ys ms : List Int) (hc : Rd .u8 w (.slice ac ys.length cc) ys) (hby : Byt ys) (hl : ys.length ≤ 2000)
    (hm : Rd .u8 w (.slice am m cm) ms) (hmy : Byt ms) (hml : ms.length = m) (hm1 : m ≤ 1048576) (ht : Tab w) (h0 : 0 < w.heap.size) :
    Calls Tryd.prog 3 #[.slice ac ys.length cc, .slice am m cm] w fun e w' => e = .returned (.bool true) ∧ Below w.heap.size w w' := by
  have HR : Hid (Rd .u8 w (.slice ac ys.length cc) ys) := hc
  have HM : Hid (Rd .u8 w (.slice am m cm) ms) := hm
  have HT : Hid (Tab w) := ht
  have HML : Hid (ms.length = m) := hml
  obtain ⟨C, hC⟩ : ∃ C : Nat, C = 4294967295 - crcL 4294967295 ys := ⟨_, rfl⟩
  have HCC : Hid (4294967295 - crcL 4294967295 ys = C) := hC.symm
  have hc1 := conv_any hc
  obtain ⟨cap1, W1, hr1, B1, z1, R1, f1⟩ := conv_back w ys hby (by omega)
  have HB1 : Hid (Below w.heap.size w W1) := B1
  have HR1 : Hid (Rd .u8 W1 (.slice (some ⟨w.heap.size, 0, none⟩) ys.length cap1) ys) := R1
  clear hc hm ht hml hC B1 R1 f1
  have t1 : ¬ (1048576 : Int) < (ys.length : Int) := by omega
  have t2 : ¬ (1048576 : Int) < (m : Int) := by omega
  have t3 : ¬ (2000 : Int) < (ys.length : Int) := by omega
  go_enter Tryd.func3, Tryd.ntmps3
  go_wp2_with fail
  refine (implCrc_any _ _ ys HR1.out hby (by omega) (HT.out.below h0 HB1.out)).mono ?_
  rintro e W1 ⟨rfl, hw⟩
  subst hw
  rw [HCC.out]
  go_wp2_with fail
  refine (specCrc_any _ _ ys (HR.out.below HB1.out) hby (by omega)).mono ?_
  rintro e W1 ⟨rfl, hw⟩
  subst hw
  rw [HCC.out]
  have hne : ((C : Int) != (C : Int)) = false := by simp
  clear hc1 hr1
  by_cases hz : ys.length = 0
  · have kc := fun (w : World) (C : Array Value) (n c : Nat) => Lib.run_convert_bytes_const (P := Tryd.prog) w 22 5 C n c Tryd.underlying22 Tryd.underlying5
    have hz' : ((ys.length : Int) == 0) = true := beq_iff_eq.2 (by omega)
    have B9 : Hid (Below w.heap.size w (W1.alloc (.cells #[.int .u8 49, .int .u8 50, .int .u8 51, .int .u8 52, .int .u8 53, .int .u8 54, .int .u8 55, .int .u8 56, .int .u8 57] 5 (9, 10)))) := HB1.out.alloc (by omega) _
    have R9 : Hid (Rd .u8 (W1.alloc (.cells #[.int .u8 49, .int .u8 50, .int .u8 51, .int .u8 52, .int .u8 53, .int .u8 54, .int .u8 55, .int .u8 56, .int .u8 57] 5 (9, 10))) (.slice (some ⟨W1.heap.size, 0, none⟩) 9 9) [49, 50, 51, 52, 53, 54, 55, 56, 57]) := by
      refine ⟨_, 9, rfl, Nat.le_refl _, by unfold maxLen; omega, .inr ⟨W1.heap.size, 0, rfl, by simp, fun i hi => ?_⟩⟩
      simp only [List.length_cons, List.length_nil] at hi
      rw [Nat.zero_add, World.cell?_alloc_mark]
      match i, hi with
      | 0, _ => rfl
      | 1, _ => rfl
      | 2, _ => rfl
      | 3, _ => rfl
      | 4, _ => rfl
      | 5, _ => rfl
      | 6, _ => rfl
      | 7, _ => rfl
      | 8, _ => rfl
    go_wp2_with fail
    refine (implCrc_any _ _ [49, 50, 51, 52, 53, 54, 55, 56, 57] R9.out (by intro x hx; simp at hx; omega) (by simp) (HT.out.below h0 B9.out)).mono ?_
    rintro e w9 ⟨rfl, hw⟩
    subst hw
    rw [crc9]
    go_wp2
    go_ret
    exact ⟨rfl, B9.out⟩
  · have t4 : ((ys.length : Int) == 0) = false := beq_eq_false_iff_ne.2 (by omega)
    have hc2 := conv_any (HR.out.below HB1.out)
    obtain ⟨cap2, W2, hr2, B2, z2, R2, f2⟩ := conv_back W1 ys hby (by omega)
    have HB2 : Hid (Below W1.heap.size W1 W2) := B2
    have HR2 : Hid (Rd .u8 W2 (.slice (some ⟨W1.heap.size, 0, none⟩) ys.length cap2) ys) := R2
    have HF2 : Hid (∀ j, j < ys.length → W2.frozen? ⟨W1.heap.size, j, none⟩ = false) := f2
    have BW2 : Hid (Below w.heap.size w W2) := HB1.out.trans (B2.mono (by omega))
    have HM2 : Hid (Rd .u8 W2 (.slice am m cm) ms) := HM.out.below BW2.out
    clear B2 R2 f2
    go_wp2_with fail
    refine (lwAt_any _ _ ms 0 256 HM2.out hmy (by rw [HML.out]; omega) (by omega) (by omega)).mono ?_
    rintro e w3 ⟨rfl, q3, rfl⟩
    have l0 := lw_lt ms 0 256 (by omega)
    generalize lw ms 0 256 = r0 at *
    go_wp2_with fail
    refine (lwAt_any _ _ ms 1 256 (HM2.out.drewN q3) hmy (by rw [HML.out]; omega) (by omega) (by omega)).mono ?_
    rintro e w3 ⟨rfl, q4, rfl⟩
    have l1 := lw_lt ms 1 256 (by omega)
    generalize lw ms 1 256 = r1 at *
    clear hc2 hr2 hne
    have t5 : 0 < ys.length := by omega
    have hi := Nat.mod_lt (r0 * 256 + r1) t5
    have t6 : ((r0 : Int) * 256 + (r1 : Int)) % (ys.length : Int) = (((r0 * 256 + r1) % ys.length : Nat) : Int) := by rw [Int.natCast_emod, Int.natCast_add, Int.natCast_mul]; rfl
    generalize (r0 * 256 + r1) % ys.length = i at *
    have hiI : (i : Int) < (ys.length : Int) := by omega
    obtain ⟨y, hy, hye⟩ := byt_at hby i
    have cy : W2.cell? ⟨W1.heap.size, i, none⟩ = some (.int .u8 (y : Int)) := by
      obtain ⟨ao, c, e, _, _, h3⟩ := HR2.out
      simp only [Value.slice.injEq] at e
      obtain ⟨rfl, _, rfl⟩ := e
      rcases h3 with h3 | ⟨b', o', e', _, hc⟩
      · rw [h3] at t5; simp at t5
      · simp only [Option.some.injEq, Addr.mk.injEq, and_true] at e'
        obtain ⟨rfl, rfl⟩ := e'
        rw [← hye, ← hc i hi, Nat.zero_add]
    have fy := HF2.out i hi
    have l2 := lw_lt ms 2 255 (by omega)
    obtain ⟨z, hz, hze, hzy⟩ := xor_change y (lw ms 2 255) hy l2
    have hlw : ∀ W q, W = W2.drewN q → Calls Tryd.prog 7 #[.slice am m cm, .int .i64 2, .int .i64 255] W fun e w' => e = .returned (.int .i64 ((lw ms 2 255 : Nat) : Int)) ∧ ∃ q, w' = W2.drewN q := by
      intro W q hW
      subst hW
      refine (lwAt_any _ _ ms 2 255 (HM2.out.drewN q) hmy (by rw [HML.out]; omega) (by omega) (by omega)).mono ?_
      rintro e w' ⟨rfl, q', rfl⟩
      exact ⟨rfl, _, World.drewN_drewN _ _ _⟩
    have HLW : Hid (∀ W q, W = W2.drewN q → Calls Tryd.prog 7 #[.slice am m cm, .int .i64 2, .int .i64 255] W fun e w' => e = .returned (.int .i64 ((lw ms 2 255 : Nat) : Int)) ∧ ∃ q, w' = W2.drewN q) := hlw
    generalize hr2 : lw ms 2 255 = r2 at *
    have HZY : Hid (z ≠ y) := hzy
    have HYE : Hid (ys.getD i 0 = (y : Int)) := hye
    clear hlw hr2 hzy hye
    obtain ⟨C2, hC2⟩ : ∃ C2 : Nat, C2 = 4294967295 - crcL 4294967295 (ys.set i (z : Int)) := ⟨_, rfl⟩
    have HC2 : Hid (4294967295 - crcL 4294967295 (ys.set i (z : Int)) = C2) := hC2.symm
    have hbz : Byt (ys.set i (z : Int)) := by
      intro x hx
      rcases List.mem_or_eq_of_mem_set hx with h | h
      · exact hby x h
      · omega
    have hneq : ((C2 : Int) != (C : Int)) = true := by
      rw [bne_iff_ne]
      have h1 := crcL_change ys hby i hi (z : Int) (by omega) (by
        have : ys[i] = (y : Int) := by have := HYE.out; simpa [List.getD, hi] using this
        rw [this]; have := HZY.out; omega) 4294967295 (by decide)
      have h2 := crcL_lt 4294967295 (by decide) ys hby
      have h3 := crcL_lt 4294967295 (by decide) _ hbz
      rw [hC2, ← HCC.out]
      omega
    have HFIN : Hid (∀ q, Rd .u8 ((W2.drewN q).setCell ⟨W1.heap.size, i, none⟩ (.int .u8 (z : Int))) (.slice (some ⟨W1.heap.size, 0, none⟩) ys.length cap2) (ys.set i (z : Int))) := by
      intro q
      have := Rd.set (o := 0) rfl (HR2.out.drewN q) hi (z : Int)
      rw [Nat.zero_add] at this
      exact this
    have BFIN : Hid (∀ q, Below w.heap.size w ((W2.drewN q).setCell ⟨W1.heap.size, i, none⟩ (.int .u8 (z : Int)))) := fun q =>
      (BW2.out.trans ((below_drewN' W2 q).mono BW2.out.size)).setCell (by show w.heap.size ≤ W1.heap.size; omega) _
    have hset : (ys.set i (z : Int)).length = ys.length := by simp
    have HSET : Hid ((ys.set i (z : Int)).length = ys.length) := hset
    clear hC2 hset
    go_wp2_with fail
    go_region_with (go_at_call 7; refine (HLW.out _ _ rfl).mono ?_; rintro e w' ⟨rfl, q', rfl⟩)
    all_goals
      go_wp2_with fail
      rw [hze]
      refine (implCrc_any _ _ (ys.set i (z : Int)) (HFIN.out q') hbz (by rw [HSET.out]; omega) (HT.out.below h0 (BFIN.out q'))).mono ?_
      rintro e w9 ⟨rfl, hw⟩
      subst hw
      rw [HC2.out]
      go_wp2
      go_ret
      exact ⟨rfl, BFIN.out q'⟩

end Go.Proofs.YtahapnlnnlcbkaaDoor
