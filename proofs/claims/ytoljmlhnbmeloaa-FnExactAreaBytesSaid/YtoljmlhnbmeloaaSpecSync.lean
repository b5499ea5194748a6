import Derived.Test.YtoljmlhnbmeloaaSpecSettle
import Derived.Test.YtoljmlhnbmeloaaSyncMath
namespace Go.Proofs.Ytoljmlhnbmeloaa
open Go.RowKit

set_option maxHeartbeats 2000000 in
set_option maxRecDepth 100000 in
theorem specSync_yes (w : World) (va vb : Option Addr) (dl ca n cb : Nat) (dur : List Int) (ps : List (Int × List Int)) (hd : Rd .u8 w (.slice va dl ca) dur) (hdl : dur.length = dl) (hp : RdW w (.slice vb n cb) ps) (hl : ps.length = n)
    (hv : vldD dl ps = true) (hd1 : dl ≤ 1048576) (hpd : ∀ i, (pD ps i).length ≤ 1048576) :
    Calls Try.prog 31 #[.agg #[.slice va dl ca, .slice vb n cb]] w fun e w' => ∃ v1, e = .returned (.agg #[v1, .slice none 0 0]) ∧ Own .u8 5 w' w.heap.size v1 (stl dur ps (fun _ => 64) n) ∧ Below w.heap.size w w' := by
  obtain ⟨i0, hi, hz0, hz1, hz2⟩ := info_parts Try.infoI
  have HD : Hid (Rd .u8 w (.slice va dl ca) dur) := hd
  have HP : Hid (RdW w (.slice vb n cb) ps) := hp
  have HL : Hid (ps.length = n) := hl
  have HDL : Hid (dur.length = dl) := hdl
  have HV : Hid (vldD dl ps = true) := hv
  have HPD : Hid (∀ i, (pD ps i).length ≤ 1048576) := hpd
  have hn2 : n ≤ 2000 := by have := ((vldD_iff dl ps).1 hv).2.2.2.1; omega
  have BA : Hid (∀ o1 o2, Below w.heap.size w ((w.alloc o1).alloc o2)) := fun o1 o2 => ((Below.refl _ _).alloc (Nat.le_refl _) _).alloc (by simp) _
  clear hd hp hl hdl hv hpd
  go_enter Try.func31, Try.ntmps31
  go_wp2_with fail
  have XA0 : Hid (BoxF ((w.alloc (.cells #[.slice va dl ca, .slice vb n cb] 32)).alloc (.cells #[.slice none 0 0, .slice none 0 0] 32)) w.heap.size (.slice va dl ca) (.slice vb n cb)) := (BoxF.new w _ _ _).below ((Below.refl _ _).alloc (Nat.le_refl _) _)
  have XR0 : Hid (BoxF ((w.alloc (.cells #[.slice va dl ca, .slice vb n cb] 32)).alloc (.cells #[.slice none 0 0, .slice none 0 0] 32)) (w.heap.size + 1) (.slice none 0 0) (.slice none 0 0)) := by
    have := BoxF.new (w.alloc (.cells #[.slice va dl ca, .slice vb n cb] 32)) (.slice none 0 0) (.slice none 0 0) 32
    show BoxF _ _ _ _
    simpa using this
  have B0 := BA.out (.cells #[.slice va dl ca, .slice vb n cb] 32) (.cells #[.slice none 0 0, .slice none 0 0] 32)
  have HB0 : Hid (Below w.heap.size w ((w.alloc (.cells #[.slice va dl ca, .slice vb n cb] 32)).alloc (.cells #[.slice none 0 0, .slice none 0 0] 32))) := B0
  clear B0 BA
  generalize (w.alloc (.cells #[.slice va dl ca, .slice vb n cb] 32)).alloc (.cells #[.slice none 0 0, .slice none 0 0] 32) = w0 at *
  refine (specValid_any _ va vb dl ca n cb ps (HP.out.below HB0.out) HL.out hd1 (by omega) HPD.out).mono ?_
  rintro e w1 ⟨rfl, b1⟩
  rw [HV.out]
  have HB1 : Hid (Below w.heap.size w w1) := HB0.out.trans (b1.mono HB0.out.size)
  have XA1 : Hid (BoxF w1 w.heap.size (.slice va dl ca) (.slice vb n cb)) := XA0.out.below b1
  have XR1 : Hid (BoxF w1 (w.heap.size + 1) (.slice none 0 0) (.slice none 0 0)) := XR0.out.below b1
  have s1 := HB1.out.size
  have zA := XA1.out.1.1
  have zR := XR1.out.1.1
  clear b1 XA0 XR0 HB0
  go_wp2
  go_loopw [3, 4] (fun v i wr => ∃ k : Nat, k ≤ n ∧ i = .int .i64 k ∧ wr.ownsRow w1.heap.size 2 1 v k ((List.replicate k (64 : Int)).map (Value.int .i64)) ∧ Below w1.heap.size w1 wr) (fun _ i _ => n - (intOf i).toNat)
  case atStart => exact ⟨0, Nat.zero_le _, rfl, World.ownsRow_lit w1 #[] 0 (Nat.le_refl _) (Nat.zero_le _) rfl, (Below.refl _ _).alloc (Nat.le_refl _) _⟩
  case round =>
    obtain ⟨k, hk, rfl, ho, hg⟩ := hrel
    obtain ⟨⟨z2, c0, c1⟩, -⟩ := XA1.out.belowB hg zA
    have BW : Hid (Below w.heap.size w wr) := HB1.out.trans (hg.mono s1)
    by_cases hlt : k < n
    · have hltI : (k : Int) < (n : Int) := by omega
      go_wp2_with (at_builtin; go_must (refine wpList_append_own _ rfl _ _ 39 rfl w1.heap.size 2 i0 (.int .i64 0) 1 8 Try.underlying39 hi hz0 hz1 hz2 rfl (by decide) _ _ _ rfl (ho.alloc _) ⟨wr.heap.size, 0, none⟩ 1 1 [.int .i64 64] rfl rfl (cell_one_new _ _ _) (by intro u hu; simp at hu; subst hu; rfl) ?c3 ?c4 ?c5 ?_))
      case c3 => unfold maxLen; omega
      case c4 => omega
      case c5 => have := hg.size; simp; omega
      intro v2 w2 ho2 hg2 _
      have HO2 : Hid (w2.ownsRow w1.heap.size 2 1 v2 (k + 1) ((List.replicate (k + 1) (64 : Int)).map (Value.int .i64))) := by
        show World.ownsRow _ _ _ _ _ _ _
        rw [show List.replicate (k + 1) (64 : Int) = List.replicate k 64 ++ [64] from List.replicate_succ', List.map_append, List.map_replicate]
        exact ho2
      have HG2 : Hid (Below w1.heap.size w1 w2) := (hg.alloc hg.size _).grown hg2 (by have := hg.size; simp; omega) (fun q hq => (ho.lt q hq).1)
      clear ho2 hg2 ho hg c0 c1
      go_wp2
      go_roundw
      case rel => exact ⟨k + 1, by omega, by go_num, HO2.out, HG2.out⟩
      case measure => simp [intOf]; omega
    · have hkn : k = n := by omega
      subst hkn
      have XRr : Hid (BoxF wr (w.heap.size + 1) (.slice none 0 0) (.slice none 0 0)) := XR1.out.belowB hg zR
      have OS : Hid (Own .i64 2 wr w1.heap.size u3 (List.replicate k (64 : Int))) := own_of (ys := List.replicate k (64 : Int)) (by simp) rfl ho
      obtain ⟨sa, sc, rfl, -⟩ := OS.out.rd.len
      have hsl : (List.replicate k (64 : Int)).length = k := by simp
      rw [hsl] at OS ⊢
      clear ho hg hsl
      go_wp2_with fail
      refine (l1Settle_any _ va vb sa dl ca k cb sc dur ps (List.replicate k (64 : Int)) (fun _ => 64) (HD.out.below BW.out) HDL.out (HP.out.below BW.out) HL.out OS.out.rd (by simp) (fun i hi => ⟨by simp [List.getD, hi], Nat.le_refl _⟩) HV.out hd1).mono ?_
      rintro e w3 ⟨v3, rfl, o3, b3⟩
      obtain ⟨a3, c3, rfl⟩ := o3.slice
      have O3 : Hid (Own .u8 5 w3 wr.heap.size (.slice a3 (stl dur ps (fun _ => 64) k).length c3) (stl dur ps (fun _ => 64) k)) := o3
      have B3 : Hid (Below w.heap.size w w3) := BW.out.trans (b3.mono BW.out.size)
      obtain ⟨⟨z5, d0, d1⟩, f0, f1⟩ := XRr.out.below b3
      have zr := XRr.out.1.1
      clear o3 b3 c0 c1
      go_wp2
      refine bodyPost_ret (v := .agg #[.slice a3 (stl dur ps (fun _ => 64) k).length c3, .slice none 0 0]) (by simp [results, Try.results31, go_sem, d0, d1]) rfl ⟨_, rfl, ?_, ?_⟩
      · refine Own.mono (base := wr.heap.size) ?_ (by have := BW.out.size; omega)
        repeat (first | exact O3.out | refine Own.setAt ?_ (O3.out.none_or (by omega)))
      · repeat (first | exact B3.out | refine Below.setCell ?_ (by simp; try omega) _)

end Go.Proofs.Ytoljmlhnbmeloaa
