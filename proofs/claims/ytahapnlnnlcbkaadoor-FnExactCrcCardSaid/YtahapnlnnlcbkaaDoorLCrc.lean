import Derived.Test.YtahapnlnnlcbkaaDoorCrc
namespace Go.Proofs.YtahapnlnnlcbkaaDoor
open Go.RowKit

set_option maxHeartbeats 1000000 in
set_option maxRecDepth 100000 in
theorem lawCrc_walk (w : World) (v : Value) (xs : List Int) (h : Rd .u8 w v xs) (hby : Byt xs) (ht : Tab w) (h0 : 0 < w.heap.size) :
    Calls Tryd.prog 4 #[v] w fun e w' => e = .returned (.bool true) ∧ Below w.heap.size w w' := by
  obtain ⟨ao, cap, hv, hl1, hl2⟩ := h.len
  have HR : Hid (Rd .u8 w v xs) := h
  have HT : Hid (Tab w) := ht
  subst hv
  clear h ht
  unfold maxLen at hl2
  by_cases hbig : 1048576 < xs.length
  · have hbI : (1048576 : Int) < (xs.length : Int) := by omega
    go_enter Tryd.func4, Tryd.ntmps4
    go_wp2
    go_ret
    exact ⟨rfl, Below.refl _ _⟩
  · have hbI : ¬ (1048576 : Int) < (xs.length : Int) := by omega
    obtain ⟨C, hC⟩ : ∃ C : Nat, C = 4294967295 - crcL 4294967295 xs := ⟨_, rfl⟩
    have HCC : Hid (4294967295 - crcL 4294967295 xs = C) := hC.symm
    clear hC
    go_enter Tryd.func4, Tryd.ntmps4
    go_wp2_with fail
    refine (toByteS_any _ _ xs HR.out (by omega)).mono ?_
    rintro e w1 ⟨v1, rfl, o1, b1⟩
    go_wp2_with fail
    refine (specCrc_any _ _ xs o1.rd hby (by omega)).mono ?_
    rintro e w1 ⟨rfl, hw⟩
    subst hw
    rw [HCC.out]
    have B1 : Hid (Below w.heap.size w w1) := b1
    have s1 := b1.size
    clear o1 b1
    go_wp2_with fail
    refine (toByteS_any _ _ xs (HR.out.below B1.out) (by omega)).mono ?_
    rintro e w2 ⟨v2, rfl, o2, b2⟩
    have O2 : Hid (Own .u8 5 w2 w1.heap.size v2 xs) := o2
    have B2 : Hid (Below w.heap.size w w2) := B1.out.trans (b2.mono s1)
    have s2 := B2.out.size
    clear o2 b2
    go_wp2_with fail
    refine (implCrc_any _ _ xs O2.out.rd hby (by omega) (HT.out.below h0 B2.out)).mono ?_
    rintro e w2 ⟨rfl, hw⟩
    subst hw
    rw [HCC.out]
    have hne : ((C : Int) != (C : Int)) = false := by simp
    go_wp2_with fail
    refine (toByteS_any _ _ xs (HR.out.below B2.out) (by omega)).mono ?_
    rintro e w3 ⟨v3, rfl, o3, b3⟩
    have O3 : Hid (Own .u8 5 w3 w2.heap.size v3 xs) := o3
    have O23 : Hid (Own .u8 5 w3 w1.heap.size v2 xs) := O2.out.below b3
    have B3 : Hid (Below w.heap.size w w3) := B2.out.trans (b3.mono s2)
    clear o3 b3
    go_wp2_with fail
    refine (eqByteS_any _ _ _ xs xs O23.out.rd O3.out.rd).mono ?_
    rintro e w4 ⟨rfl, q4, rfl⟩
    rw [show decide (xs = xs) = true by simp]
    go_wp2
    go_ret
    exact ⟨rfl, B3.out.trans ((below_drewN' w3 q4).mono B3.out.size)⟩

end Go.Proofs.YtahapnlnnlcbkaaDoor
