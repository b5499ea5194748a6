import Derived.Test.YtmgolinleiahpaaJ02
import Derived.Test.YtmgolinleiahpaaJ01
import Derived.RangeFuncNested
import Derived.RangeFuncLeaves
import Derived.Shelf.Abstract
import Derived.OwnWalkIn
import Derived.TacticsInMore
import Derived.LoopNIn
import Derived.LoopIn
import Derived.Deep.RegionHeld3
import Derived.Deep.CutRange
namespace Go.Proofs.Ytmgolinleiahpaa
open Go.RowKit

theorem splice_whole {α : Type} (L V : List α) (h : V.length = L.length) : splice L 0 V = V := by
  unfold splice
  rw [List.take_zero, Nat.zero_add, List.drop_eq_nil_of_le (by omega)]
  simp

theorem own_arr {w W : World} {base : Nat} {t : TypeId} {cs : Array Value} {R : List Int} (hb : base ≤ w.heap.size) (hcs : cs.size = 64) (hR : R.length = 64) (hW : Below (w.alloc (.cells cs t)).heap.size (w.alloc (.cells cs t)) W) :
    Own .u8 t (W.setCells w.heap.size 0 (R.map (Value.int .u8))) base (.slice (some ⟨w.heap.size, 0, none⟩) 64 64) R ∧ W.there w.heap.size 0 64 := by
  have h0 : (w.alloc (.cells cs t)).ownsRow base t 1 (.slice (some ⟨w.heap.size, 0, none⟩) 64 64) 64 cs.toList := by
    have := World.ownsRow_lit (size := 1) (e := t) w cs 64 hb (by unfold maxLen; omega) (by omega)
    exact this
  have h1 : W.ownsRow base t 1 (.slice (some ⟨w.heap.size, 0, none⟩) 64 64) 64 cs.toList := World.ownsRow.kept h0 (row := none) ⟨hW.os, hW.tape, hW.output, hW.size, fun q hq _ => hW.block q hq⟩ (.inr (by simp [Value.ownBlock]))
  have h2 := (ownsRow_setCells (R.map (Value.int .u8)) 0 W cs.toList h1 (by simp [hR, hcs])).1
  rw [splice_whole _ _ (by simp [hR, hcs])] at h2
  refine ⟨?_, fun j hj => ⟨?_, ?_⟩⟩
  · unfold Own; rw [hR]; exact h2
  · rw [Nat.zero_add, World.ownsRow.cellAt h1 j (by omega), List.getElem?_eq_getElem (by simp [hcs]; exact hj)]; rfl
  · rw [Nat.zero_add]; exact World.ownsRow.frozenAt h1 j

theorem size_setC (b : Nat) : ∀ (vs : List Value) (o : Nat) (w : World), (w.setCells b o vs).heap.size = w.heap.size
  | [], _, _ => rfl
  | v :: r, o, w => by rw [World.setCells, size_setC b r]; simp

theorem own_arr2 {w W : World} {base : Nat} {t : TypeId} {cs : Array Value} {Z R : List Int} (hb : base ≤ w.heap.size) (hcs : cs.size = 64) (hZ : Z.length = 64) (hR : R.length = 64)
    (hW : Below ((w.alloc (.cells cs t)).setCells w.heap.size 0 (Z.map (Value.int .u8))).heap.size ((w.alloc (.cells cs t)).setCells w.heap.size 0 (Z.map (Value.int .u8))) W) :
    Own .u8 t (W.setCells w.heap.size 0 (R.map (Value.int .u8))) base (.slice (some ⟨w.heap.size, 0, none⟩) 64 64) R ∧ W.there w.heap.size 0 64 := by
  have h0 := (own_arr (R := Z) hb hcs hZ (Below.refl _ (w.alloc (.cells cs t)))).1
  unfold Own at h0
  rw [hZ] at h0
  have h1 : W.ownsRow base t 1 (.slice (some ⟨w.heap.size, 0, none⟩) 64 64) 64 (Z.map (Value.int .u8)) := World.ownsRow.kept h0 (row := none) ⟨hW.os, hW.tape, hW.output, hW.size, fun q hq _ => hW.block q hq⟩ (.inr (by simp [Value.ownBlock]))
  have h2 := (ownsRow_setCells (R.map (Value.int .u8)) 0 W (Z.map (Value.int .u8)) h1 (by simp [hR, hZ])).1
  rw [splice_whole _ _ (by simp [hR, hZ])] at h2
  refine ⟨?_, fun j hj => ⟨?_, ?_⟩⟩
  · unfold Own; rw [hR]; exact h2
  · rw [Nat.zero_add, World.ownsRow.cellAt h1 j (by omega), List.getElem?_eq_getElem (by simp [hZ]; exact hj)]; rfl
  · rw [Nat.zero_add]; exact World.ownsRow.frozenAt h1 j

theorem rdv_len (dur : List Int) (ps : List (Int × List Int)) (b : Nat) (hv : vldD dur.length ps = true) (hb : b * 64 + 64 ≤ dur.length) : ∀ k, k ≤ ps.length → (rdv dur ps b k).length = 64
  | 0, _ => by unfold rdv; rw [List.length_take, List.length_drop]; omega
  | k + 1, hk => by
    by_cases e : pB ps k = b
    · rw [rdv_at dur ps b k e]
      obtain ⟨_, _, _, _, h⟩ := vld_at hv k (by omega)
      exact h
    · rw [rdv_off dur ps b k e]; exact rdv_len dur ps b hv hb k (by omega)

set_option maxHeartbeats 2000000 in
set_option maxRecDepth 100000 in
theorem implRead_yes (w : World) (va vb : Option Addr) (dl ca n cb : Nat) (dur : List Int) (ps : List (Int × List Int)) (b : Nat) (hd : Rd .u8 w (.slice va dl ca) dur) (hdl : dur.length = dl) (hp : RdW w (.slice vb n cb) ps) (hl : ps.length = n)
    (hv : vldD dl ps = true) (hb : b < dl / 64) (hd1 : dl ≤ 1048576) (hpd : ∀ i, (pD ps i).length ≤ 1048576) :
    Calls Try.prog 17 #[.agg #[.slice va dl ca, .slice vb n cb], .int .i64 b] w fun e w' => ∃ v', e = .returned v' ∧ Own .u8 77 w' w.heap.size v' (rdv dur ps b n) ∧ Below w.heap.size w w' := by
  have HD : Hid (Rd .u8 w (.slice va dl ca) dur) := hd
  have HP : Hid (RdW w (.slice vb n cb) ps) := hp
  have HL : Hid (ps.length = n) := hl
  have HDL : Hid (dur.length = dl) := hdl
  have HPD : Hid (∀ i, (pD ps i).length ≤ 1048576) := hpd
  have B0 : Hid (Below w.heap.size w (w.alloc (.cells #[.slice va dl ca, .slice vb n cb] 32))) := (Below.refl _ _).alloc (Nat.le_refl _) _
  have X0 : Hid (Box2 (w.alloc (.cells #[.slice va dl ca, .slice vb n cb] 32)) w.heap.size (.slice va dl ca) (.slice vb n cb)) := Box2.new _ _ _ _
  have HV : Hid (vldD dl ps = true) := hv
  have hn2 : n ≤ 2000 := by have := ((vldD_iff dl ps).1 hv).2.2.2.1; omega
  have hb64 : b * 64 + 64 ≤ dl := by have := ((vldD_iff dl ps).1 hv).1; omega
  have hlen : (rdv dur ps b n).length = 64 := rdv_len dur ps b (by rw [hdl]; exact hv) (by omega) n (by omega)
  obtain ⟨R, hR⟩ : ∃ R, R = rdv dur ps b n := ⟨_, rfl⟩
  rw [← hR] at hlen ⊢
  have HR : Hid (R = rdv dur ps b n) := hR
  obtain ⟨V, hV⟩ : ∃ V, V = R.map (Value.int .u8) := ⟨_, rfl⟩
  have HVE : Hid (V = R.map (Value.int .u8)) := hV
  have HVL : Hid (V.length = 64) := by rw [hV]; show _ = _; rw [List.length_map]; exact hlen
  have HV1 : Hid (∀ v ∈ V, v.oneCell' = true) := by rw [hV]; exact ints_oneCell _ _
  have HRL : Hid (R.length = 64) := hlen
  clear hd hp hl hdl hpd hv hR hV hlen
  go_enter Try.func17, Try.ntmps17
  go_wp2_with fail
  generalize w.alloc (.cells #[.slice va dl ca, .slice vb n cb] 32) = w0 at *
  refine (implValid_any _ va vb dl ca n cb ps (HP.out.below B0.out) HL.out hd1 (by omega) HPD.out).mono ?_
  rintro e w1 ⟨rfl, b1⟩
  rw [HV.out]
  have B1 : Hid (Below w.heap.size w w1) := B0.out.trans (b1.mono B0.out.size)
  have X1 : Hid (Box2 w1 w.heap.size (.slice va dl ca) (.slice vb n cb)) := X0.out.below b1
  clear b1 X0 B0
  obtain ⟨z1, c0, c1⟩ := X1.out
  go_wp2_with fail
  refine (hasBlock_any _ va dl ca _ (b : Int) hd1).mono ?_
  rintro e w2 ⟨rfl, b2⟩
  rw [show decide (0 ≤ (b : Int) ∧ (b : Int) < ((dl / 64 : Nat) : Int)) = true by rw [decide_eq_true_eq]; exact ⟨by omega, by omega⟩]
  have B2 : Hid (Below w.heap.size w w2) := B1.out.trans (b2.mono B1.out.size)
  have X2 : Hid (Box2 w2 w.heap.size (.slice va dl ca) (.slice vb n cb)) := X1.out.below b2
  clear b2 X1 B1 z1 c0 c1
  obtain ⟨z1, c0, c1⟩ := X2.out
  go_wp2_with fail
  refine (youngest_any w2 va vb dl ca n cb dur ps HDL.out (HP.out.below B2.out) HL.out HV.out).mono ?_
  rintro e w3 ⟨rfl, ⟨tv, rs, ht, hof⟩, b3⟩
  have B3 : Hid (Below w.heap.size w w3) := B2.out.trans (b3.mono B2.out.size)
  have X3 : Hid (Box2 w3 w.heap.size (.slice va dl ca) (.slice vb n cb)) := X2.out.below b3
  have HT : Hid (Tab w3 (w2.heap.size + 1) (w2.heap.size + 2) (w2.heap.size + 1) tv rs) := ht
  have HOF : Hid (TabOf dur ps n rs) := hof
  clear b3 X2 B2 z1 c0 c1 ht hof
  obtain ⟨z1, c0, c1⟩ := X3.out
  by_cases hf : ∃ i, i < rs.length ∧ pB rs i = (b : Int)
  · obtain ⟨i, hi, hbi⟩ := hf
    have CG : Calls Try.prog 51 #[.pointer (some ⟨w2.heap.size + 2, 0, none⟩), .int .i64 b] w3 fun e w' => e = .returned (.tuple #[.agg V.toArray, .bool true]) ∧ Below w3.heap.size w3 w' := by
      rw [HVE.out, HR.out, (HOF.out.1 b).1 i hi hbi]
      exact get_yes w3 _ _ _ tv rs b i HT.out hi hbi (wf_small _ (by omega) (by omega))
    clear HT HOF hbi
    go_wp2_with fail
    refine CG.mono ?_
    rintro e w4 ⟨rfl, b4⟩
    have B4 : Hid (Below w.heap.size w w4) := B3.out.trans (b4.mono B3.out.size)
    clear b4 CG X3 c0 c1
    have BW : ∀ cs : Array Value, cs.size = 64 → Own .u8 77 ((w4.alloc (.cells cs 77)).setCells w4.heap.size 0 V) w.heap.size (.slice (some ⟨w4.heap.size, 0, none⟩) 64 64) R ∧ (w4.alloc (.cells cs 77)).there w4.heap.size 0 64 := by
      intro cs hcs
      rw [HVE.out]
      exact own_arr B4.out.size hcs HRL.out (Below.refl _ _)
    have HBW : Hid (∀ cs : Array Value, cs.size = 64 → Own .u8 77 ((w4.alloc (.cells cs 77)).setCells w4.heap.size 0 V) w.heap.size (.slice (some ⟨w4.heap.size, 0, none⟩) 64 64) R ∧ (w4.alloc (.cells cs 77)).there w4.heap.size 0 64) := BW
    clear BW
    go_wp2_with (refine wpList_store_mid rfl 77 _ _ rfl w4.heap.size 0 V.toArray rfl rfl ?s1 ?s2 ?s3 ?_)
    case s1 =>
      have e : V.toArray.size = 64 := by rw [List.size_toArray]; exact HVL.out
      rw [e]
      exact (HBW.out _ rfl).2
    case s2 => rw [List.size_toArray]; exact sizeA _ HVL.out
    case s3 => exact all_oneCell_toArray HV1.out
    go_ret
    exact ⟨_, rfl, (HBW.out _ rfl).1, below_setCells B4.out.size _ _ _ (B4.out.alloc B4.out.size _)⟩
  · have hno : ∀ i, i < rs.length → pB rs i ≠ (b : Int) := fun i hi e => hf ⟨i, hi, e⟩
    obtain ⟨Z, hZ⟩ : ∃ Z, Z = List.replicate 64 (Value.int .u8 0) := ⟨_, rfl⟩
    have HZL : Hid (Z.length = 64) := by rw [hZ]; show _ = _; simp
    have HZ1 : Hid (∀ v ∈ Z, v.oneCell' = true) := by rw [hZ]; intro u hu; rw [List.mem_replicate] at hu; rw [hu.2]; rfl
    have HZE : Hid (Z = (List.replicate 64 (0 : Int)).map (Value.int .u8)) := by rw [hZ]; show _ = _; simp
    have CG : Calls Try.prog 51 #[.pointer (some ⟨w2.heap.size + 2, 0, none⟩), .int .i64 b] w3 fun e w' => e = .returned (.tuple #[.agg Z.toArray, .bool false]) ∧ Below w3.heap.size w3 w' := by
      rw [hZ]
      exact get_no w3 _ _ _ tv rs b HT.out hno (wf_small _ (by omega) (by omega))
    have HRD : Hid (R = (dur.drop (b * 64)).take 64) := by rw [HR.out, (HOF.out.1 b).2 hno]; rfl
    clear HT HOF hno hf hZ
    go_wp2_with fail
    refine CG.mono ?_
    rintro e w4 ⟨rfl, b4⟩
    have B4 : Hid (Below w.heap.size w w4) := B3.out.trans (b4.mono B3.out.size)
    have X4 : Hid (Box2 w4 w.heap.size (.slice va dl ca) (.slice vb n cb)) := X3.out.below b4
    clear b4 CG X3 c0 c1 z1
    obtain ⟨blk, o, rfl, hblk, -⟩ := HD.out.cellAt HDL.out (show 0 < dl by omega)
    have BS : Hid (∀ cs : Array Value, Below w4.heap.size w4 ((w4.alloc (.cells cs 77)).setCells w4.heap.size 0 Z)) := fun cs => below_setCells (Nat.le_refl _) _ _ _ ((Below.refl _ _).alloc (Nat.le_refl _) _)
    have hc0 : ∀ cs : Array Value, ((w4.alloc (.cells cs 77)).setCells w4.heap.size 0 Z).cell? ⟨w.heap.size, 0, none⟩ = some (.slice (some ⟨blk, o, none⟩) dl ca) := fun cs => (X4.out.below (BS.out cs)).2.1
    have hsc : ∀ cs : Array Value, ((w4.alloc (.cells cs 77)).setCells w4.heap.size 0 Z).heap.size = w4.heap.size + 1 := fun cs => by rw [size_setC, World.size_alloc]
    have HSC : Hid (∀ cs : Array Value, ((w4.alloc (.cells cs 77)).setCells w4.heap.size 0 Z).heap.size = w4.heap.size + 1) := hsc
    clear hsc
    go_wp2_with (refine wpList_store_mid rfl 77 _ _ rfl w4.heap.size 0 Z.toArray rfl rfl ?s1 ?s2 ?s3 ?_)
    case s1 =>
      have e : Z.toArray.size = 64 := by rw [List.size_toArray]; exact HZL.out
      rw [e]
      exact there_new _ _ _ _ rfl
    case s2 => rw [List.size_toArray]; exact sizeA _ HZL.out
    case s3 => exact all_oneCell_toArray HZ1.out
    generalize hW5 : World.setCells _ _ _ _ = w5
    have O5 : Hid (∀ W, Below w5.heap.size w5 W → Own .u8 77 (W.setCells w4.heap.size 0 V) w.heap.size (.slice (some ⟨w4.heap.size, 0, none⟩) 64 64) R ∧ W.there w4.heap.size 0 64) := by
      intro W hW
      rw [HVE.out]
      rw [← hW5, HZE.out] at hW
      exact own_arr2 B4.out.size rfl (by simp) HRL.out hW
    have B5 : Hid (Below w.heap.size w w5) := by rw [← hW5]; exact B4.out.trans ((BS.out _).mono B4.out.size)
    have s5 : w5.heap.size = w4.heap.size + 1 := by rw [← hW5]; exact HSC.out _
    clear hW5 hc0 BS HSC X4
    have CB : Calls Try.prog 52 #[.slice (some ⟨blk, o, none⟩) dl ca, .int .i64 b] w5 fun e w' => e = .returned (.agg V.toArray) ∧ Below w5.heap.size w5 w' := by
      rw [HVE.out, HRD.out]; exact blockAt_any w5 blk o dl ca b dur (HD.out.below B5.out) HDL.out (by omega) hd1
    refine CB.mono ?_
    rintro e w6 ⟨rfl, b6⟩
    have B6 : Hid (Below w.heap.size w w6) := B5.out.trans (b6.mono B5.out.size)
    have O6 : Hid (Own .u8 77 (w6.setCells w4.heap.size 0 V) w.heap.size (.slice (some ⟨w4.heap.size, 0, none⟩) 64 64) R ∧ w6.there w4.heap.size 0 64) := O5.out w6 b6
    clear CB b6 O5 B5
    go_wp2_with (refine wpList_store_mid rfl 77 _ _ rfl w4.heap.size 0 V.toArray rfl rfl ?s1 ?s2 ?s3 ?_)
    case s1 =>
      have e : V.toArray.size = 64 := by rw [List.size_toArray]; exact HVL.out
      rw [e]
      exact O6.out.2
    case s2 => rw [List.size_toArray]; exact sizeA _ HVL.out
    case s3 => exact all_oneCell_toArray HV1.out
    go_ret
    exact ⟨_, rfl, O6.out.1, below_setCells B4.out.size _ _ _ B6.out⟩

set_option maxHeartbeats 1000000 in
set_option maxRecDepth 100000 in
theorem implRead_no (w : World) (va vb : Option Addr) (dl ca n cb : Nat) (ps : List (Int × List Int)) (x : Int) (hp : RdW w (.slice vb n cb) ps) (hl : ps.length = n)
    (hno : rdOk dl ps x = false) (hn : n ≤ 1048576) (hd1 : dl ≤ 1048576) (hpd : ∀ i, (pD ps i).length ≤ 1048576) :
    Calls Try.prog 17 #[.agg #[.slice va dl ca, .slice vb n cb], .int .i64 x] w fun e w' => e = .returned (.slice none 0 0) ∧ Below w.heap.size w w' := by
  have HP : Hid (RdW w (.slice vb n cb) ps) := hp
  have HL : Hid (ps.length = n) := hl
  have HPD : Hid (∀ i, (pD ps i).length ≤ 1048576) := hpd
  have HNO : Hid (rdOk dl ps x = false) := hno
  have B0 : Hid (Below w.heap.size w (w.alloc (.cells #[.slice va dl ca, .slice vb n cb] 32))) := (Below.refl _ _).alloc (Nat.le_refl _) _
  have X0 : Hid (Box2 (w.alloc (.cells #[.slice va dl ca, .slice vb n cb] 32)) w.heap.size (.slice va dl ca) (.slice vb n cb)) := Box2.new _ _ _ _
  clear hp hl hpd hno
  go_enter Try.func17, Try.ntmps17
  go_wp2_with fail
  generalize w.alloc (.cells #[.slice va dl ca, .slice vb n cb] 32) = w0 at *
  refine (implValid_any _ va vb dl ca n cb ps (HP.out.below B0.out) HL.out hd1 hn HPD.out).mono ?_
  rintro e w1 ⟨rfl, b1⟩
  have B1 : Hid (Below w.heap.size w w1) := B0.out.trans (b1.mono B0.out.size)
  have X1 : Hid (Box2 w1 w.heap.size (.slice va dl ca) (.slice vb n cb)) := X0.out.below b1
  clear b1 X0 B0
  obtain ⟨z1, c0, c1⟩ := X1.out
  by_cases hv : vldD dl ps = true
  · rw [hv]
    have hx : ¬ (0 ≤ x ∧ x < ((dl / 64 : Nat) : Int)) := by
      intro h
      have h' : rdOk dl ps x = true := by
        unfold rdOk
        simp only [Bool.and_eq_true, decide_eq_true_eq]
        exact ⟨hv, h⟩
      rw [HNO.out] at h'
      cases h'
    clear hv
    go_wp2_with fail
    refine (hasBlock_any _ va dl ca _ x hd1).mono ?_
    rintro e w2 ⟨rfl, b2⟩
    rw [show decide (0 ≤ x ∧ x < ((dl / 64 : Nat) : Int)) = false by rw [decide_eq_false_iff_not]; exact hx]
    have B2 : Hid (Below w.heap.size w w2) := B1.out.trans (b2.mono B1.out.size)
    clear b2 X1 B1 z1 c0 c1 hx
    go_wp2
    go_ret
    exact ⟨rfl, B2.out⟩
  · have hv' : vldD dl ps = false := by simpa using hv
    rw [hv']
    clear hv hv'
    go_wp2
    go_ret
    exact ⟨rfl, B1.out⟩

theorem implRead_any (w : World) (v1 v2 : Value) (dur : List Int) (ps : List (Int × List Int)) (x : Int) (hd : Rd .u8 w v1 dur) (hp : RdW w v2 ps) (hdl : dur.length ≤ 1048576) (hn : ps.length ≤ 1048576) (hpd : ∀ i, (pD ps i).length ≤ 1048576) :
    Calls Try.prog 17 #[.agg #[v1, v2], .int .i64 x] w fun e w' => ∃ v', e = .returned v' ∧ Own .u8 77 w' w.heap.size v' (rdA dur ps x) ∧ Below w.heap.size w w' := by
  obtain ⟨va, ca, rfl, -⟩ := hd.len
  obtain ⟨vb, cb, rfl, -⟩ := id hp
  unfold rdA
  cases h : rdOk dur.length ps x with
  | true =>
    simp only [if_true]
    have h' := h
    unfold rdOk at h'
    simp only [Bool.and_eq_true, decide_eq_true_eq] at h'
    obtain ⟨h1, h2, h3⟩ := h'
    obtain ⟨b, rfl⟩ : ∃ b : Nat, x = b := ⟨x.toNat, by omega⟩
    rw [Int.toNat_natCast]
    exact implRead_yes w va vb dur.length ca ps.length cb dur ps b hd rfl hp rfl h1 (by omega) hdl hpd
  | false =>
    simp only [Bool.false_eq_true, if_false]
    refine (implRead_no w va vb dur.length ca ps.length cb ps x hp rfl h hn hdl hpd).mono ?_
    rintro e w' ⟨rfl, b⟩
    exact ⟨_, rfl, World.ownsRow_nil _ _ _ _, b⟩

end Go.Proofs.Ytmgolinleiahpaa

namespace Go.Proofs.Ytmgolinleiahpaa
open Go.RowKit

def blk (D : List Int) (b : Nat) : List Int := (D.drop (b * 64)).take 64

theorem blk_get (D : List Int) (b j : Nat) : (blk D b)[j]? = if j < 64 then D[b * 64 + j]? else none := by
  unfold blk
  rw [List.getElem?_take]
  split
  · rw [List.getElem?_drop]
  · rfl

theorem blk_ext {D E : List Int} (hl : D.length = E.length) (hm : D.length % 64 = 0) (h : ∀ b, b * 64 + 64 ≤ D.length → blk D b = blk E b) : D = E := by
  apply List.ext_getElem?
  intro i
  by_cases hi : i < D.length
  · have h1 := h (i / 64) (by omega)
    have h2 : (blk D (i / 64))[i % 64]? = (blk E (i / 64))[i % 64]? := by rw [h1]
    rw [blk_get, blk_get, if_pos (by omega), if_pos (by omega), show i / 64 * 64 + i % 64 = i by omega] at h2
    exact h2
  · rw [List.getElem?_eq_none (by omega), List.getElem?_eq_none (by omega)]

theorem blk_splice (D V : List Int) (c b : Nat) (hV : V.length = 64) (hc : c * 64 + 64 ≤ D.length) : blk (splice D (c * 64) V) b = if b = c then V else blk D b := by
  apply List.ext_getElem?
  intro j
  rw [blk_get, splice_get _ _ _ (by omega), hV]
  by_cases hj : j < 64
  · rw [if_pos hj]
    by_cases e : b = c
    · subst e
      rw [if_pos rfl, if_neg (by omega), if_pos (by omega), show b * 64 + j - b * 64 = j by omega]
    · rw [if_neg e, blk_get, if_pos hj]
      by_cases h1 : b * 64 + j < c * 64
      · rw [if_pos h1]
      · rw [if_neg h1, if_neg (by omega)]
  · rw [if_neg hj]
    split
    · rw [List.getElem?_eq_none (by omega)]
    · rw [blk_get, if_neg hj]

/-- The rows laid over the durable bytes. -/
def lays (dur : List Int) (rs : List (Int × List Int)) : List Int := rs.foldl (fun D r => splice D (r.1.toNat * 64) r.2) dur
theorem lays_snoc (dur : List Int) (rs : List (Int × List Int)) (r : Int × List Int) : lays dur (rs ++ [r]) = splice (lays dur rs) (r.1.toNat * 64) r.2 := by simp [lays]

/-- A row that fits. -/
def Fits (dl : Nat) (r : Int × List Int) : Prop := ∃ b : Nat, r.1 = b ∧ b * 64 + 64 ≤ dl ∧ r.2.length = 64

theorem snoc_ind {α : Type} {p : List α → Prop} (h0 : p []) (hs : ∀ l x, p l → p (l ++ [x])) (l : List α) : p l := by
  rw [← List.reverse_reverse l]
  induction l.reverse with
  | nil => exact h0
  | cons x xs ih => rw [List.reverse_cons]; exact hs _ _ ih

theorem lays_len (dur : List Int) (rs : List (Int × List Int)) : (∀ r ∈ rs, Fits dur.length r) → (lays dur rs).length = dur.length := by
  refine snoc_ind (p := fun rs => (∀ r ∈ rs, Fits dur.length r) → (lays dur rs).length = dur.length) (fun _ => rfl) (fun rs r ih h => ?_) rs
  · have ih' := ih (fun q hq => h q (by simp [hq]))
    obtain ⟨b, hb, hb2, hl⟩ := h r (by simp)
    rw [lays_snoc, length_splice, ih']
    rw [ih', hb, Int.toNat_natCast, hl]
    exact hb2

theorem stl_blk (dur : List Int) (ps : List (Int × List Int)) (hv : vldD dur.length ps = true) (b : Nat) : ∀ k, k ≤ ps.length → blk (stl dur ps (fun _ => 64) k) b = rdv dur ps b k
  | 0, _ => rfl
  | k + 1, hk => by
    have ih := stl_blk dur ps hv b k (by omega)
    obtain ⟨c, hc, hc2, _, hd⟩ := vld_at hv k (by omega)
    have hl := stl_len dur ps (fun _ => 64) hv k (by omega)
    rw [stl, hc, Int.toNat_natCast, List.take_of_length_le (by omega), blk_splice _ _ _ _ hd (by omega)]
    by_cases e : b = c
    · rw [if_pos e, rdv_at dur ps b k (by rw [hc, e])]
    · rw [if_neg e, rdv_off dur ps b k (by rw [hc]; omega), ih]

theorem lays_blk (dur : List Int) (rs : List (Int × List Int)) (b : Nat) : (∀ r ∈ rs, Fits dur.length r) → (∀ i j, i < rs.length → j < rs.length → pB rs i = pB rs j → i = j) →
    (∀ i, i < rs.length → pB rs i = b → blk (lays dur rs) b = pD rs i) ∧ ((∀ i, i < rs.length → pB rs i ≠ b) → blk (lays dur rs) b = blk dur b) := by
  refine snoc_ind (p := fun rs => (∀ r ∈ rs, Fits dur.length r) → (∀ i j, i < rs.length → j < rs.length → pB rs i = pB rs j → i = j) →
    (∀ i, i < rs.length → pB rs i = b → blk (lays dur rs) b = pD rs i) ∧ ((∀ i, i < rs.length → pB rs i ≠ b) → blk (lays dur rs) b = blk dur b)) (fun _ _ => ⟨fun i hi => by simp at hi, fun _ => rfl⟩) (fun rs r ih h hap => ?_) rs
  · have hl : (rs ++ [r]).length = rs.length + 1 := by simp
    have hrs : ∀ q ∈ rs, Fits dur.length q := fun q hq => h q (by simp [hq])
    have hap' : ∀ i j, i < rs.length → j < rs.length → pB rs i = pB rs j → i = j := fun i j hi hj e => hap i j (by omega) (by omega) (by rw [pB_app _ _ _ hi, pB_app _ _ _ hj]; exact e)
    obtain ⟨i1, i2⟩ := ih hrs hap'
    obtain ⟨c, hc, hc2, hd⟩ := h r (by simp)
    have hlen := lays_len dur rs hrs
    rw [lays_snoc, hc, Int.toNat_natCast, blk_splice _ _ _ _ hd (by omega)]
    refine ⟨fun i hi e => ?_, fun hno => ?_⟩
    · rw [hl] at hi
      by_cases ei : i = rs.length
      · subst ei
        rw [pB_last] at e
        rw [pD_last, if_pos (by rw [hc] at e; omega)]
      · rw [pB_app _ _ _ (by omega)] at e
        rw [pD_app _ _ _ (by omega)]
        by_cases eb : b = c
        · have := hap i rs.length (by omega) (by omega) (by rw [pB_app _ _ _ (by omega), pB_last, e, hc, eb])
          omega
        · rw [if_neg eb]; exact i1 i (by omega) e
    · have hn := hno rs.length (by omega)
      rw [pB_last, hc] at hn
      rw [if_neg (by omega)]
      exact i2 (fun i hi => by have := hno i (by omega); rw [pB_app _ _ _ hi] at this; exact this)

theorem fits_of (dl : Nat) (rs : List (Int × List Int)) (h : ∀ i, i < rs.length → ∃ b : Nat, pB rs i = b ∧ b * 64 + 64 ≤ dl ∧ b ≤ 300) (hf : ∀ i, i < rs.length → (pD rs i).length = 64) : ∀ r ∈ rs, Fits dl r := by
  intro r hr
  obtain ⟨i, hi, rfl⟩ := List.mem_iff_getElem.1 hr
  obtain ⟨b, h1, h2, _⟩ := h i hi
  have h3 := hf i hi
  unfold pB at h1
  unfold pD at h3
  simp [List.getD, hi] at h1 h3
  exact ⟨b, h1, h2, h3⟩

/-- All the writes, one by one or by the table. -/
theorem lays_stl (dur : List Int) (ps rs : List (Int × List Int)) (hv : vldD dur.length ps = true) (ht : TabOf dur ps ps.length rs) (hf : ∀ i, i < rs.length → (pD rs i).length = 64) (hap : ∀ i j, i < rs.length → j < rs.length → pB rs i = pB rs j → i = j) :
    lays dur rs = stl dur ps (fun _ => 64) ps.length := by
  have hfit := fits_of dur.length rs ht.2 hf
  have h1 := lays_len dur rs hfit
  have h2 := stl_len dur ps (fun _ => 64) hv ps.length (Nat.le_refl _)
  refine blk_ext (by rw [h1, h2]) (by rw [h1]; exact ((vldD_iff _ _).1 hv).1) (fun b hb => ?_)
  rw [stl_blk dur ps hv b _ (Nat.le_refl _)]
  obtain ⟨k1, k2⟩ := lays_blk dur rs b hfit hap
  by_cases hex : ∃ i, i < rs.length ∧ pB rs i = (b : Int)
  · obtain ⟨i, hi, e⟩ := hex
    rw [k1 i hi e, (ht.1 b).1 i hi e]
  · have hno : ∀ i, i < rs.length → pB rs i ≠ (b : Int) := fun i hi e => hex ⟨i, hi, e⟩
    rw [k2 hno, (ht.1 b).2 hno]
    rfl

end Go.Proofs.Ytmgolinleiahpaa

namespace Go.Proofs.Ytmgolinleiahpaa
open Go.RowKit Go.Shelf

attribute [local go_sem] Oper.semAt_some

theorem wpListIn_load_mid {F : Fence} {nF : Nat} {P : Program} {ops : Array Oper} {rest : List Oper} {op : Oper} {a : Act} {w : World} {Q : Exit → Act → World → Prop} (hgd : op.guard = none) (ty : TypeId) (x : Operand) (ho : op.op = .load ty x)
    (b o : Nat) (hx : a.eval x = .pointer (some ⟨b, o, none⟩)) (cs : List Value) (d : TypeDesc) (hc : w.rangeAt b o cs) (hu : P.underlying ty = some d) (hd : d.isRow = true) (hi : (P.info? ty).map (·.size) = some cs.length)
    (h : wpListIn F nF P ops Q rest (a.put op.dst (.agg cs.toArray)) w) : wpListIn F nF P ops Q (op :: rest) a w := by
  refine wpListIn_plain hgd fun K' hK' => ?_
  have hrun := run_loadAt_mid (P := P) w b o ty cs d hc hu hd hi
  unfold Oper.wpIn
  refine ⟨by simp [Oper.about, ho], ?_⟩
  rw [Oper.semAt_plain F _ _ (by rw [ho]; intro c hc'; cases hc')]
  simp only [execOp, ho, hx, Sem.run_bind, hrun, Result.andThen_ok]
  exact hK' _ _ h

theorem wpListIn_store_mid {F : Fence} {nF : Nat} {P : Program} {ops : Array Oper} {rest : List Oper} {op : Oper} {a : Act} {w : World} {Q : Exit → Act → World → Prop} (hgd : op.guard = none) (ty : TypeId) (x y : Operand) (ho : op.op = .store ty x y)
    (b o : Nat) (cells : Array Value) (hx : a.eval x = .pointer (some ⟨b, o, none⟩)) (hy : a.eval y = .agg cells) (ht : w.there b o cells.size) (hi : (P.info? ty).map (·.size) = some cells.size) (h1 : cells.all (·.oneCell') = true)
    (h : wpListIn F nF P ops Q rest (a.put op.dst undef) (w.setCells b o cells.toList)) : wpListIn F nF P ops Q (op :: rest) a w := by
  refine wpListIn_plain hgd fun K' hK' => ?_
  have hrun := run_storeAt_mid (P := P) w b o ty cells ht hi h1
  unfold Oper.wpIn
  refine ⟨by simp [Oper.about, ho], ?_⟩
  rw [Oper.semAt_plain F _ _ (by rw [ho]; intro c hc'; cases hc')]
  simp only [execOp, ho, hx, hy, Sem.run_bind, hrun, Result.andThen_ok]
  exact hK' _ _ h

/-- A store that fills a new block. -/
theorem setCells_new (w : World) (t : TypeId) : ∀ (vs : List Value) (o : Nat) (cs : Array Value), o + vs.length ≤ cs.size → (w.alloc (.cells cs t)).setCells w.heap.size o vs = w.alloc (.cells (splice cs.toList o vs).toArray t)
  | [], o, cs, _ => by rw [splice_nil]; simp [World.setCells]
  | v :: vs, o, cs, h => by
    rw [World.setCells, World.setCell_alloc_at cs t _ o v rfl, setCells_new w t vs (o + 1) _ (by simp at h ⊢; omega), Array.toList_setIfInBounds, splice_cons _ _ _ _ (by simpa using h)]

theorem fill_new (w : World) (t : TypeId) (vs : List Value) (cs : Array Value) (h : vs.length = cs.size) : (w.alloc (.cells cs t)).setCells w.heap.size 0 vs = w.alloc (.cells vs.toArray t) := by
  rw [setCells_new w t vs 0 cs (by omega), splice_whole _ _ (by simpa using h)]

theorem wpListIn_fill {F : Fence} {nF : Nat} {P : Program} {ops : Array Oper} {rest : List Oper} {op : Oper} {a : Act} {w0 : World} {cs : Array Value} {t : TypeId} {Q : Exit → Act → World → Prop} (hgd : op.guard = none) (ty : TypeId) (x y : Operand) (ho : op.op = .store ty x y)
    (cells : Array Value) (hx : a.eval x = .pointer (some ⟨w0.heap.size, 0, none⟩)) (hy : a.eval y = .agg cells) (hcs : cells.size = cs.size) (hi : (P.info? ty).map (·.size) = some cells.size) (h1 : cells.all (·.oneCell') = true)
    (h : wpListIn F nF P ops Q rest (a.put op.dst undef) (w0.alloc (.cells cells t))) : wpListIn F nF P ops Q (op :: rest) a (w0.alloc (.cells cs t)) := by
  refine wpListIn_store_mid hgd ty x y ho w0.heap.size 0 cells hx hy (there_new _ _ _ _ hcs.symm) hi h1 ?_
  rw [fill_new w0 t cells.toList cs (by simpa using hcs)]
  simpa using h

theorem rowT_row (rs : List (Int × List Int)) (i : Nat) (hi : i < rs.length) (h : ∀ i, i < rs.length → (pD rs i).length = 64) (j : Nat) (u : Value) (hu : (Value.int .i64 (pB rs i) :: (pD rs i).map (Value.int .u8))[j]? = some u) : (rowT rs)[i * 65 + j]? = some u := by
  cases j with
  | zero => rw [Nat.add_zero, rowT_key rs i hi h]; simpa using hu
  | succ j =>
    rw [List.getElem?_cons_succ] at hu
    rw [show i * 65 + (j + 1) = i * 65 + 1 + j by omega]
    exact rowT_val rs i hi h j u hu

/-- Only blocks below M are asked, and of those not gd. -/
def KB (M gd : Nat) (W W' : World) : Prop := W.heap.size ≤ W'.heap.size ∧ ∀ q, q < M → q ≠ gd → W'.heap[q]? = W.heap[q]?
theorem KB.refl (M gd : Nat) (W : World) : KB M gd W W := ⟨Nat.le_refl _, fun _ _ _ => rfl⟩
theorem KB.trans {M gd : Nat} {A B C : World} (h : KB M gd A B) (k : KB M gd B C) : KB M gd A C := ⟨Nat.le_trans h.1 k.1, fun q hq hn => (k.2 q hq hn).trans (h.2 q hq hn)⟩
theorem KB.alloc {M gd : Nat} {A B : World} (h : KB M gd A B) (hM : M ≤ B.heap.size) (o : Obj) : KB M gd A (B.alloc o) := ⟨by have := h.1; simp; omega, fun q hq hn => (Below.heap_alloc B o q (by omega)).trans (h.2 q hq hn)⟩

/-- A row that fits, as a type. -/
abbrev RowF (dl : Nat) := { r : Int × List Int // Fits dl r }
def encR {dl : Nat} (x : RowF dl) : Array Value := #[.int .i64 x.1.1, .agg (x.1.2.map (Value.int .u8)).toArray]
def rowsF {dl : Nat} (rs : List (Int × List Int)) (h : ∀ r ∈ rs, Fits dl r) : List (RowF dl) := rs.pmap (fun r hr => ⟨r, hr⟩) h

theorem rowsF_map {dl : Nat} (rs : List (Int × List Int)) (h : ∀ r ∈ rs, Fits dl r) : (rowsF rs h).map (·.1) = rs := by
  unfold rowsF
  rw [List.map_pmap]
  simp

set_option maxHeartbeats 400000 in
theorem all_in (F : Fence) (n : Nat) (h87 : F.fn 57) (hro : F.round = none) (p0 : Option Addr) (w : World) :
    CallsIn F n Try.prog 57 #[.pointer p0] w fun e w' => e = .returned (.func (.func 80) #[] #[.pointer (some ⟨w.heap.size, 0, none⟩)]) ∧ w' = w.alloc (.cells #[.pointer p0] 79) := by
  refine callsIn_of_wp Try.func57 rfl h87 ?_ hro
  simp only [Try.ntmps57, List.size_toArray, List.length_cons, List.length_nil, Nat.reduceAdd, Nat.reduceSub, Array.replicate_succ, Array.replicate_zero, List.push_toArray, List.append_toArray, List.nil_append, List.cons_append]
  gi_wp2
  go_ret
  exact ⟨rfl, rfl⟩

theorem Tab.len {w : World} {lo tb mb : Nat} {v : Value} {rs : List (Int × List Int)} (h : Tab w lo tb mb v rs) : rs.length ≤ 9223372036854775807 := by
  rcases h.rows.2 with ⟨-, h1⟩ | ⟨g, cap, cur, -, -, -, h2, h3, -⟩
  · omega
  · unfold maxLen at h3; omega

theorem sizeT (n : Nat) (h : n = 65) : (Try.prog.info? 113).map (·.size) = some n := by subst h; kernel_rfl

set_option maxHeartbeats 2000000 in
set_option maxRecDepth 100000 in
theorem all1_in (F : Fence) (n : Nat) (h97 : F.fn 80) (hro : F.round = none) (hn : 1 ≤ n) (l Ba M gd lo tb mb dl : Nat) (v : Value) (rs : List (Int × List Int)) (hf : ∀ r ∈ rs, Fits dl r) (J Jx : List (RowF dl) → World → Prop)
    (hY : ∀ pre x W, J pre W → pre.length < rs.length → YieldAt F (n - 1) Try.prog l (encR x) W fun e W' =>
      (e = .returned (.bool true) ∧ J (pre ++ [x]) W' ∧ KB M gd W W') ∨ (e = .returned (.bool false) ∧ Jx (pre ++ [x]) W'))
    (W : World) (hJ : AbidesFrom W.heap.size J) (hM : M ≤ W.heap.size) (hvb : ∀ q, v.ownBlock = some q → q < M ∧ q ≠ gd) (hc : W.cell? ⟨Ba, 0, none⟩ = some (.pointer (some ⟨tb, 0, none⟩))) (hT : Tab W lo tb mb v rs) (hlen : rs.length ≤ 9223372036854775807) (h0 : J [] W) :
    CallsIn F n Try.prog 80 #[.func (.yield l) #[] #[], .pointer (some ⟨Ba, 0, none⟩)] W fun e W' => (∃ v, e = .returned v) ∧
      ((∃ ys, ys = rowsF rs hf ∧ J ys W') ∨ (∃ pre, True ∧ Jx pre W')) := by
  obtain ⟨va, vcap, rfl⟩ : ∃ a c, v = .slice a rs.length c := by
    rcases hT.rows.2 with ⟨rfl, h1⟩ | ⟨g, cap, cur, rfl, -⟩
    · exact ⟨none, 0, by rw [h1]⟩
    · exact ⟨_, _, rfl⟩
  have HT : Hid (Tab W lo tb mb (.slice va rs.length vcap) rs) := hT
  obtain ⟨⟨zt, c0, c1⟩, -⟩ := hT.box
  have HY : Hid (∀ pre x W, J pre W → pre.length < rs.length → YieldAt F (n - 1) Try.prog l (encR x) W fun e W' =>
      (e = .returned (.bool true) ∧ J (pre ++ [x]) W' ∧ KB M gd W W') ∨ (e = .returned (.bool false) ∧ Jx (pre ++ [x]) W')) := hY
  have HJ : Hid (AbidesFrom W.heap.size J) := hJ
  have H0 : Hid (J [] W) := h0
  clear hT hY hJ h0
  refine callsIn_of_wp Try.func80 rfl h97 ?_ hro
  simp only [Try.ntmps80, List.size_toArray, List.length_cons, List.length_nil, Nat.reduceAdd, Nat.reduceSub, Array.replicate_succ, Array.replicate_zero, List.push_toArray, List.append_toArray, List.nil_append, List.cons_append]
  gi_wp2
  clear c0 c1 hc
  gi_loopw [10] (fun i wr => ∃ k : Nat, k ≤ rs.length ∧ i = .int .i64 k ∧ Hid (J ((rowsF rs hf).take k) wr) ∧ Hid (KB M gd W wr)) (fun i _ => rs.length - (intOf i).toNat)
  case atStart => exact ⟨0, Nat.zero_le _, rfl, (by rw [List.take_zero]; exact H0.out), KB.refl _ _ _⟩
  case round =>
    obtain ⟨k, hk, rfl, HJk, HG⟩ := hrel
    have hlF : (rowsF rs hf).length = rs.length := by unfold rowsF; simp
    have HLF : Hid ((rowsF rs hf).length = rs.length) := hlF
    have sg := HG.out.1
    clear hlF
    by_cases hlt : k < rs.length
    · obtain ⟨g, cap, e, hg1, hg2, hc1, hc2⟩ := HT.out.form (by omega)
      simp only [Value.slice.injEq, true_and] at e
      obtain ⟨rfl, rfl⟩ := e
      obtain ⟨hgM, hgd⟩ := hvb g rfl
      obtain ⟨key, hkey⟩ : ∃ key, key = pB rs k := ⟨_, rfl⟩
      obtain ⟨V, hV⟩ : ∃ V, V = (pD rs k).map (Value.int .u8) := ⟨_, rfl⟩
      obtain ⟨x, hx⟩ : ∃ x, (rowsF rs hf)[k]? = some x := ⟨_, List.getElem?_eq_getElem (by rw [HLF.out]; exact hlt)⟩
      have hx1 : x.1 = (pB rs k, pD rs k) := by
        have h1 : ((rowsF rs hf).map (·.1))[k]? = some x.1 := by rw [List.getElem?_map, hx]; rfl
        rw [rowsF_map, List.getElem?_eq_getElem hlt] at h1
        injection h1 with h1
        rw [← h1]; unfold pB pD; simp [List.getD, hlt]
      have HTK : Hid ((rowsF rs hf).take (k + 1) = (rowsF rs hf).take k ++ [x]) := by show _ = _; rw [List.take_add_one, hx]; rfl
      have henc : encR x = #[.int .i64 key, .agg V.toArray] := by unfold encR; rw [hx1, hkey, hV]
      have HVL : Hid (V.length = 64) := by rw [hV]; show _ = _; rw [List.length_map]; exact HT.out.full k hlt
      have HV1 : Hid (∀ v ∈ V, v.oneCell' = true) := by rw [hV]; exact ints_oneCell _ _
      have RW : Hid (wr.rangeAt g (k * 65) (Value.int .i64 key :: V)) := by
        intro j u hu
        rw [hkey, hV] at hu
        have hj : j < 65 := by have := (List.getElem?_eq_some_iff.1 hu).1; simpa [HT.out.full k hlt] using this
        rw [World.cell?_of_block (w := W) (a := ⟨g, k * 65 + j, none⟩) (HG.out.2 g hgM hgd), World.ownsRow.cellAt HT.out.rows (k * 65 + j) (by omega)]
        exact rowT_row rs k hlt HT.out.full j u hu
      have H65 : Hid ((Value.int .i64 key :: V).length = 65) := by show _ = _; rw [List.length_cons, HVL.out]
      have H651 : Hid (∀ u ∈ (Value.int .i64 key :: V), u.oneCell' = true) := by
        intro u hu
        rcases List.mem_cons.1 hu with rfl | hu
        · rfl
        · exact HV1.out u hu
      have JA : J ((rowsF rs hf).take k) (wr.alloc (.cells (Value.int .i64 key :: V).toArray 113)) := HJ.out _ wr _ none HJk.out (World.grownBy_alloc _ _ _) (fun r e => by cases e)
      have hYx := HY.out _ x _ JA (by rw [List.length_take, HLF.out]; omega)
      rw [henc] at hYx
      have R2 : Hid ((wr.alloc (.cells (Value.int .i64 key :: V).toArray 113)).rangeAt wr.heap.size 1 V) := by
        intro j u hu
        rw [cell_of_row _ _ (1 + j) _ _ _ (heap_alloc_new wr _)]
        rw [show 1 + j = j + 1 by omega]
        simpa using hu
      have hltI : (k : Int) < (rs.length : Int) := by omega
      unfold maxLen at hc2
      obtain ⟨fn, tmps, assign, body, hy, hR⟩ := hYx
      clear hkey hV hx hx1 henc JA
      gi_wp2_with (first | (refine wpListIn_load_mid rfl 113 _ rfl g (k * 65) rfl (Value.int .i64 key :: V) _ (World.rangeAt_alloc RW.out _) Try.underlying113 rfl (sizeT _ H65.out) ?_) | (refine wpListIn_load_mid rfl 113 _ rfl g (k * 65) rfl (Value.int .i64 key :: V) _ RW.out Try.underlying113 rfl (sizeT _ H65.out) ?_) | (refine wpListIn_fill rfl 113 _ _ rfl (Value.int .i64 key :: V).toArray rfl rfl ?s1 ?s2 ?s3 ?_) | (refine wpListIn_load_mid rfl 77 _ rfl wr.heap.size 1 rfl V _ R2.out Try.underlying77 rfl (sizeA _ HVL.out) ?_))
      case s1 => rw [List.size_toArray, H65.out]; rfl
      case s2 => rw [List.size_toArray]; exact sizeT _ H65.out
      case s3 => exact all_oneCell_toArray H651.out
      refine hR.mono ?_
      rintro e W3 (⟨rfl, hJ3, hk3⟩ | ⟨rfl, hJx3⟩)
      · have HJ3 : Hid (J ((rowsF rs hf).take (k + 1)) W3) := by show J _ _; rw [HTK.out]; exact hJ3
        have HG3 : Hid (KB M gd W W3) := (HG.out.alloc (by omega) _).trans hk3
        clear hJ3 hk3 hy hR
        gi_wp2
        go_roundw
        case rel => exact ⟨k + 1, by omega, by go_num, HJ3, HG3⟩
        case measure => simp [intOf]; omega
      · gi_wp2
        refine bodyPost_ret (results_none rfl _ _ _) rfl ?_
        exact ⟨⟨_, rfl⟩, .inr ⟨_, trivial, hJx3⟩⟩
    · have hkn : k = rs.length := by omega
      subst hkn
      gi_wp2
      go_end0
      exact ⟨⟨_, rfl⟩, .inl ⟨_, rfl, by have := HJk.out; rw [List.take_of_length_le (by rw [HLF.out]; exact Nat.le_refl _)] at this; exact this⟩⟩

theorem all_stops (F : Fence) (n : Nat) (h97 : F.fn 80) (hro : F.round = none) (hn : 1 ≤ n) (Ba M gd lo tb mb dl : Nat) (v : Value) (rs : List (Int × List Int)) (hf : ∀ r ∈ rs, Fits dl r)
    (w : World) (hM : M ≤ w.heap.size) (hBa : Ba < w.heap.size) (hvb : ∀ q, v.ownBlock = some q → q < M ∧ q ≠ gd) (hc : w.cell? ⟨Ba, 0, none⟩ = some (.pointer (some ⟨tb, 0, none⟩))) (hT : Tab w lo tb mb v rs) (hlen : rs.length ≤ 9223372036854775807) :
    SeqStopsK F n Try.prog 80 #[.pointer (some ⟨Ba, 0, none⟩)] (encR (dl := dl)) (KB M gd) (fun ys => ys = rowsF rs hf) (fun _ => True) rs.length w := fun l J Jx W hW hJ _ hY h0 =>
  all1_in F n h97 hro hn l Ba M gd lo tb mb dl v rs hf J Jx hY W hJ (Nat.le_trans hM hW.size) hvb ((hW.cell (p := ⟨Ba, 0, none⟩) hBa).trans hc) (hT.below hW) hlen h0

end Go.Proofs.Ytmgolinleiahpaa

namespace Go.Proofs.Ytmgolinleiahpaa
open Go.RowKit Go.Shelf

attribute [local go_sem] Oper.semAt_some

set_option maxHeartbeats 2000000 in
set_option maxRecDepth 100000 in
theorem implSync_yes (w : World) (va vb : Option Addr) (dl ca n cb : Nat) (dur : List Int) (ps : List (Int × List Int)) (hd : Rd .u8 w (.slice va dl ca) dur) (hdl : dur.length = dl) (hp : RdW w (.slice vb n cb) ps) (hl : ps.length = n)
    (hv : vldD dl ps = true) (hd1 : dl ≤ 1048576) (hpd : ∀ i, (pD ps i).length ≤ 1048576) :
    Calls Try.prog 19 #[.agg #[.slice va dl ca, .slice vb n cb]] w fun e w' => ∃ v1, e = .returned (.agg #[v1, .slice none 0 0]) ∧ Own .u8 5 w' w.heap.size v1 (stl dur ps (fun _ => 64) n) ∧ Below w.heap.size w w' := by
  have HD : Hid (Rd .u8 w (.slice va dl ca) dur) := hd
  have HP : Hid (RdW w (.slice vb n cb) ps) := hp
  have HL : Hid (ps.length = n) := hl
  have HDL : Hid (dur.length = dl) := hdl
  have HV : Hid (vldD dl ps = true) := hv
  have HPD : Hid (∀ i, (pD ps i).length ≤ 1048576) := hpd
  have hdp : 0 < dl := by have := ((vldD_iff dl ps).1 hv).2.1; omega
  have hn2 : n ≤ 2000 := by have := ((vldD_iff dl ps).1 hv).2.2.2.1; omega
  have BA : Hid (∀ o1 o2, Below w.heap.size w ((w.alloc o1).alloc o2)) := fun o1 o2 => ((Below.refl _ _).alloc (Nat.le_refl _) _).alloc (by simp) _
  clear hd hp hl hdl hv hpd
  refine (callsIn_wide (n := 6)).1 ?_
  refine callsIn_of_wp_marks Try.func19 rfl trivial ?_ rfl
  simp only [Try.ntmps19, List.size_toArray, List.length_cons, List.length_nil, Nat.reduceAdd, Nat.reduceSub, Array.replicate_succ, Array.replicate_zero, List.push_toArray, List.append_toArray, List.nil_append, List.cons_append]
  gi_wp2_with fail
  refine ⟨trivial, ?_⟩
  have XA0 : Hid (BoxF ((w.alloc (.cells #[.slice va dl ca, .slice vb n cb] 32)).alloc (.cells #[.slice none 0 0, .slice none 0 0] 32)) w.heap.size (.slice va dl ca) (.slice vb n cb)) := (BoxF.new w _ _ _).below ((Below.refl _ _).alloc (Nat.le_refl _) _)
  have XR0 : Hid (BoxF ((w.alloc (.cells #[.slice va dl ca, .slice vb n cb] 32)).alloc (.cells #[.slice none 0 0, .slice none 0 0] 32)) (w.heap.size + 1) (.slice none 0 0) (.slice none 0 0)) := by
    have := BoxF.new (w.alloc (.cells #[.slice va dl ca, .slice vb n cb] 32)) (.slice none 0 0) (.slice none 0 0) 32
    show BoxF _ _ _ _
    simpa using this
  have B0 := BA.out (.cells #[.slice va dl ca, .slice vb n cb] 32) (.cells #[.slice none 0 0, .slice none 0 0] 32)
  have HB0 : Hid (Below w.heap.size w ((w.alloc (.cells #[.slice va dl ca, .slice vb n cb] 32)).alloc (.cells #[.slice none 0 0, .slice none 0 0] 32))) := B0
  clear B0 BA
  generalize (w.alloc (.cells #[.slice va dl ca, .slice vb n cb] 32)).alloc (.cells #[.slice none 0 0, .slice none 0 0] 32) = w0 at *
  refine (callsIn_wide.2 (implValid_any _ va vb dl ca n cb ps (HP.out.below HB0.out) HL.out hd1 (by omega) HPD.out)).mono ?_
  rintro e w1 ⟨rfl, b1⟩
  rw [HV.out]
  have HB1 : Hid (Below w.heap.size w w1) := HB0.out.trans (b1.mono HB0.out.size)
  have XA1 : Hid (BoxF w1 w.heap.size (.slice va dl ca) (.slice vb n cb)) := XA0.out.below b1
  have XR1 : Hid (BoxF w1 (w.heap.size + 1) (.slice none 0 0) (.slice none 0 0)) := XR0.out.below b1
  have s1 := HB1.out.size
  have zA1 := XA1.out.1.1
  have zR1 := XR1.out.1.1
  clear b1 XA0 XR0 HB0
  obtain ⟨⟨z1, c0, c1⟩, -⟩ := XA1.out
  gi_wp2_with fail
  refine ⟨trivial, ?_⟩
  refine (callsIn_wide.2 (clone_any _ _ dur (HD.out.below HB1.out) (by have := HDL.out; omega))).mono ?_
  rintro e w2 ⟨v2, rfl, o2, b2⟩
  obtain ⟨g, cap, rfl, hg0, hg1⟩ := o2.pos HDL.out hdp
  have O2 : Hid (Own .u8 5 w2 w1.heap.size (.slice (some ⟨g, 0, none⟩) dl cap) dur) := o2
  have HB2 : Hid (Below w.heap.size w w2) := HB1.out.trans (b2.mono s1)
  have XA2 : Hid (BoxF w2 w.heap.size (.slice va dl ca) (.slice vb n cb)) := XA1.out.below b2
  have XR2 : Hid (BoxF w2 (w.heap.size + 1) (.slice none 0 0) (.slice none 0 0)) := XR1.out.below b2
  have s2 := HB2.out.size
  clear o2 b2 XA1 XR1 HB1 z1 c0 c1
  obtain ⟨⟨z1, c0, c1⟩, -⟩ := XA2.out
  gi_wp2_with fail
  refine ⟨trivial, ?_⟩
  have BA3 : Hid (Below w2.heap.size w2 (w2.alloc (.cells #[.slice (some ⟨g, 0, none⟩) dl cap] 29))) := (Below.refl _ _).alloc (Nat.le_refl _) _
  have BX3 : Hid (Boxed (w2.alloc (.cells #[.slice (some ⟨g, 0, none⟩) dl cap] 29)) w2.heap.size 29 (.slice (some ⟨g, 0, none⟩) dl cap)) := Boxed.new _ _ _
  have s3 : (w2.alloc (.cells #[.slice (some ⟨g, 0, none⟩) dl cap] 29)).heap.size = w2.heap.size + 1 := by simp
  clear z1 c0 c1
  generalize w2.alloc (.cells #[.slice (some ⟨g, 0, none⟩) dl cap] 29) = w3 at *
  have O3 : Hid (Own .u8 5 w3 w1.heap.size (.slice (some ⟨g, 0, none⟩) dl cap) dur) := O2.out.below BA3.out
  have HB3 : Hid (Below w.heap.size w w3) := HB2.out.trans (BA3.out.mono s2)
  have XR3 : Hid (BoxF w3 (w.heap.size + 1) (.slice none 0 0) (.slice none 0 0)) := XR2.out.below BA3.out
  clear O2 HB2 XA2 XR2 BA3
  refine (callsIn_wide.2 (youngest_any w3 va vb dl ca n cb dur ps HDL.out (HP.out.below HB3.out) HL.out HV.out)).mono ?_
  rintro e w4 ⟨rfl, ⟨tv, rs, ht, hof⟩, b4⟩
  have O4 : Hid (Own .u8 5 w4 w1.heap.size (.slice (some ⟨g, 0, none⟩) dl cap) dur) := O3.out.below b4
  have HB4 : Hid (Below w.heap.size w w4) := HB3.out.trans (b4.mono (by omega))
  have XR4 : Hid (BoxF w4 (w.heap.size + 1) (.slice none 0 0) (.slice none 0 0)) := XR3.out.below b4
  have BX4 : Hid (Boxed w4 w2.heap.size 29 (.slice (some ⟨g, 0, none⟩) dl cap)) := (b4.block w2.heap.size (by omega)).trans BX3.out
  have HT4 : Hid (Tab w4 (w3.heap.size + 1) (w3.heap.size + 2) (w3.heap.size + 1) tv rs) := ht
  have HOF : Hid (TabOf dur ps n rs) := hof
  have s4 := ht.box.1.1
  clear b4 O3 HB3 XR3 BX3 ht hof
  gi_wp2_with fail
  refine ⟨trivial, ?_⟩
  refine (all_in Fence.wide _ trivial rfl _ _).mono ?_
  rintro e w5 ⟨rfl, hw5⟩
  have s5 : w5.heap.size = w4.heap.size + 1 := by rw [hw5]; simp
  have b5 : Below w4.heap.size w4 w5 := by rw [hw5]; exact (Below.refl _ _).alloc (Nat.le_refl _) _
  have BX5a : Hid (w5.cell? ⟨w4.heap.size, 0, none⟩ = some (.pointer (some ⟨w3.heap.size + 2, 0, none⟩))) := by rw [hw5]; show _ = _; simp
  have O5 : Hid (Own .u8 5 w5 w1.heap.size (.slice (some ⟨g, 0, none⟩) dl cap) dur) := O4.out.below b5
  have HB5 : Hid (Below w.heap.size w w5) := HB4.out.trans (b5.mono (by omega))
  have XR5 : Hid (BoxF w5 (w.heap.size + 1) (.slice none 0 0) (.slice none 0 0)) := XR4.out.below b5
  have BX5 : Hid (Boxed w5 w2.heap.size 29 (.slice (some ⟨g, 0, none⟩) dl cap)) := (b5.block w2.heap.size (by omega)).trans BX4.out
  have HT5 : Hid (Tab w5 (w3.heap.size + 1) (w3.heap.size + 2) (w3.heap.size + 1) tv rs) := HT4.out.below b5
  clear hw5 b5 O4 HB4 XR4 BX4 HT4
  gi_wp2_with fail
  have hfit : ∀ r ∈ rs, Fits dl r := fits_of dl rs (fun i hi => by have := HOF.out.2 i hi; rw [HDL.out] at this; exact this) HT5.out.full
  have hvb : ∀ q, tv.ownBlock = some q → q < w5.heap.size ∧ q ≠ g := fun q hq => by have := World.ownsRow.lt HT5.out.rows q hq; omega
  have hrl := HT5.out.len
  have hfin : lays dur rs = stl dur ps (fun _ => 64) n := by
    have := lays_stl dur ps rs (by rw [HDL.out]; exact HV.out) (by rw [HL.out]; exact HOF.out) HT5.out.full HT5.out.apart
    rw [HL.out] at this; exact this
  have HFIN : Hid (lays dur rs = stl dur ps (fun _ => 64) n) := hfin
  clear hfin
  refine wpIn_rangeFunc_ownH (F := Fence.wide) (n := 6) rfl (by omega) (gf := 80) (lb := #[.pointer (some ⟨w4.heap.size, 0, none⟩)]) rfl trivial (enters_of Try.func80 (by kernel_rfl) rfl)
    (all_stops Fence.wide (6 - 1) trivial rfl (by omega) w4.heap.size w5.heap.size g _ _ _ dl tv rs hfit w5 (Nat.le_refl _) (by omega) hvb BX5a.out HT5.out hrl)
    (fun h k => KB.trans h k)
    (fun W l o o' hl h _ _ => ⟨(grownBy_putObj' W l o').size, fun q hq _ => (grownBy_putObj' W l o').block q (by have := (Array.getElem?_eq_some_iff.1 h).1; omega) (fun e => by injection e with e; omega)⟩)
    (Below.refl _ _) (fun _ => rfl)
    (fun pre W => Boxed W w2.heap.size 29 (.slice (some ⟨g, 0, none⟩) dl cap) ∧ Own .u8 5 W w1.heap.size (.slice (some ⟨g, 0, none⟩) dl cap) (lays dur (pre.map (·.1))) ∧ BoxF W (w.heap.size + 1) (.slice none 0 0) (.slice none 0 0) ∧ Below w.heap.size w W ∧ w5.heap.size ≤ W.heap.size)
    (fun _ _ _ => False)
    (fun s X Y row hs hg hr => ⟨(hg.block w2.heap.size (by have := hs.2.2.2.2; omega) (fun e => by have := (hr _ e.symm).1; omega)).trans hs.1, hs.2.1.other hg (.inr (fun e => by have := (hr g (by rw [← e]; rfl)).1; omega)), hs.2.2.1.other hg (fun e => by have := (hr _ e.symm).1; omega), hs.2.2.2.1.grown hg (by have := hs.2.2.2.1.size; omega) (fun q e => by have := (hr q e).1; omega), Nat.le_trans hs.2.2.2.2 hg.size⟩)
    (fun _ _ _ _ _ hs _ _ => hs)
    ⟨BX5.out, O5.out, XR5.out, HB5.out, Nat.le_refl _⟩
    (fun x a' W => ∃ Bx, w5.heap.size ≤ Bx ∧ W.heap[Bx]? = some (.cells (x.1.2.map (Value.int .u8)).toArray 77 (0, 0)) ∧ a' = { tmps := #[.agg #[.slice va dl ca, .slice vb n cb], .pointer (some ⟨w.heap.size, 0, none⟩), .pointer (some ⟨w.heap.size + 1, 0, none⟩), .pointer (some ⟨w2.heap.size, 0, none⟩), .int .i64 x.1.1, .pointer (some ⟨Bx, 0, none⟩), .agg #[.slice va dl ca, .slice vb n cb], .bool true, .bool false, undef, .pointer (some ⟨w.heap.size, 0, none⟩), .slice va dl ca, .slice (some ⟨g, 0, none⟩) dl cap, .agg #[.slice va dl ca, .slice vb n cb], .pointer (some ⟨w2.heap.size + 1 + 2, 0, none⟩), .func (.func 80) #[] #[.pointer (some ⟨w4.heap.size, 0, none⟩)], .int .i64 x.1.1, .agg (x.1.2.map (Value.int .u8)).toArray, undef, undef, undef, undef, undef, undef], defers := [] })
    (fun x a' _ X Y row hs hg hr => by
      obtain ⟨Bx, h1, h2, h3⟩ := hs
      exact ⟨Bx, h1, (hg.block Bx (Array.getElem?_eq_some_iff.1 h2).1 (fun e => by obtain ⟨-, o, ho, hc⟩ := hr Bx e.symm; rw [h2] at ho; injection ho with ho; rw [← ho] at hc; cases hc)).trans h2, h3⟩)
    ?assign ?body ?done ?stop
  case assign =>
    rintro l pre ⟨⟨key, Vb⟩, b, hb1, hb2, hVb⟩ W K hi hK
    unfold encR
    dsimp only at hb1 hVb ⊢
    subst hb1
    have HVL : Hid ((Vb.map (Value.int .u8)).length = 64) := by show _ = _; rw [List.length_map]; exact hVb
    gi_wp2_with (refine wpListIn_fill rfl 77 _ _ rfl (Vb.map (Value.int .u8)).toArray rfl rfl (by rw [List.size_toArray, HVL.out]; rfl) (by rw [List.size_toArray]; exact sizeA _ HVL.out) (all_oneCell_toArray (ints_oneCell _ _)) ?_)
    have hs := hi.2.2.2.2
    refine hK _ _ ((KeepsOthers.alloc _ _).from _) ((KB.refl _ _ W).alloc hs _) ⟨hi.1.alloc _, hi.2.1.below ((Below.refl _ _).alloc (Nat.le_refl _) _), hi.2.2.1.below ((Below.refl _ _).alloc (Nat.le_refl _) _), hi.2.2.2.1.alloc hi.2.2.2.1.size _, by simp; omega⟩ ⟨W.heap.size, hs, heap_alloc_new W _, rfl⟩
  case body =>
    rintro l pre ⟨⟨key, Vb⟩, b, hb1, hb2, hVb⟩ a' W hl ⟨r, hr⟩ ⟨bX, oW, xR, hB, hs⟩ ⟨Bx, hBx, hcell, rfl⟩ hlt
    dsimp only at hb1 hVb hcell ⊢
    subst hb1
    have cX := bX.cell
    have hmem : ∀ q ∈ pre.map (·.1), Fits dl q := by
      intro q hq
      obtain ⟨y, -, rfl⟩ := List.mem_map.1 hq
      exact y.2
    have hlen : (lays dur (pre.map (·.1))).length = dl := by rw [lays_len dur _ (by rw [HDL.out]; exact hmem), HDL.out]
    have HVL : Hid ((Vb.map (Value.int .u8)).length = 64) := by show _ = _; rw [List.length_map]; exact hVb
    have RG : Hid (W.rangeAt Bx 0 (Vb.map (Value.int .u8))) := by
      intro j u hu
      rw [Nat.zero_add, cell_of_row W Bx j _ _ _ hcell]
      simpa using hu
    gi_wp2_with (refine wpListIn_load_mid rfl 77 _ rfl Bx 0 rfl (Vb.map (Value.int .u8)) _ RG.out Try.underlying77 rfl (sizeA _ HVL.out) ?_)
    refine ⟨trivial, ?_⟩
    refine (CallsIn.inRound l (callsIn_wide.2 (setBlock_any W w1.heap.size g dl cap b _ Vb oW hlen hVb hb2 hd1))).mono ?_
    rintro e W' ⟨rfl, o', g'⟩
    have hgz : g < W.heap.size := (World.ownsRow.lt oW g rfl).2
    have SNOC : Hid (lays dur ((pre ++ [(⟨((b : Int), Vb), ⟨b, rfl, hb2, hVb⟩⟩ : RowF dl)]).map (·.1)) = splice (lays dur (pre.map (·.1))) (b * 64) Vb) := by
      show _ = _
      rw [List.map_append, List.map_cons, List.map_nil, lays_snoc, Int.toNat_natCast]
    gi_wp2
    refine ⟨KeepsFrom.of_grownBy g' (fun j e => by injection e with e; omega), ⟨g'.size, fun q hq hn => g'.block q (by omega) (by simpa using hn)⟩, ⟨(g'.block w2.heap.size (by omega) (by simp; omega)).trans bX, ?_, xR.other g' (by simp; omega), hB.grown g' (by have := hB.size; omega) (fun q e => by injection e with e; omega), Nat.le_trans hs g'.size⟩⟩
    rw [SNOC.out]; exact o'
  case done =>
    rintro D xs W hD rfl ⟨bX, oW, xR, hB, hs⟩ hK
    rw [rowsF_map, HFIN.out] at oW
    have cX := bX.cell
    obtain ⟨⟨zr, d0, d1⟩, f0, f1⟩ := xR
    have HO : Hid (Own .u8 5 W w1.heap.size (.slice (some ⟨g, 0, none⟩) dl cap) (stl dur ps (fun _ => 64) n)) := oW
    gi_wp2
    have hK2 : ((W.setCell ⟨w.heap.size + 1, 0, none⟩ (.slice (some ⟨g, 0, none⟩) dl cap)).setCell ⟨w.heap.size + 1, 1, none⟩ (.slice none 0 0)).heap[D]? = some (.deferred (some [])) := (KeepsOthers.setCell _ _ _).same D _ ((KeepsOthers.setCell _ _ _).same D _ hK rfl) rfl
    refine ⟨by simp, .inl ⟨_, _, rfl, run_takeDeferred hK2, ?_⟩⟩
    have x0 : ((W.setCell ⟨w.heap.size + 1, 0, none⟩ (.slice (some ⟨g, 0, none⟩) dl cap)).setCell ⟨w.heap.size + 1, 1, none⟩ (.slice none 0 0)).cell? ⟨w.heap.size + 1, 0, none⟩ = some (.slice (some ⟨g, 0, none⟩) dl cap) := by
      rw [World.cell?_setCell_other _ _ _ _ (by simp)]; exact World.cell?_setCell_same _ _ _ d0
    have x1 : ((W.setCell ⟨w.heap.size + 1, 0, none⟩ (.slice (some ⟨g, 0, none⟩) dl cap)).setCell ⟨w.heap.size + 1, 1, none⟩ (.slice none 0 0)).cell? ⟨w.heap.size + 1, 1, none⟩ = some (.slice none 0 0) :=
      World.cell?_setCell_same _ _ _ (by rw [World.cell?_setCell_other _ _ _ _ (by simp)]; exact d1)
    have OX : Own .u8 5 ((W.setCell ⟨w.heap.size + 1, 0, none⟩ (.slice (some ⟨g, 0, none⟩) dl cap)).setCell ⟨w.heap.size + 1, 1, none⟩ (.slice none 0 0)) w1.heap.size (.slice (some ⟨g, 0, none⟩) dl cap) (stl dur ps (fun _ => 64) n) :=
      (HO.out.setAt (.inr (by simp [Value.ownBlock]; omega))).setAt (.inr (by simp [Value.ownBlock]; omega))
    have BX : Below w.heap.size w ((W.setCell ⟨w.heap.size + 1, 0, none⟩ (.slice (some ⟨g, 0, none⟩) dl cap)).setCell ⟨w.heap.size + 1, 1, none⟩ (.slice none 0 0)) := (hB.setCell (by simp) _).setCell (by simp) _
    have SX : ((W.setCell ⟨w.heap.size + 1, 0, none⟩ (.slice (some ⟨g, 0, none⟩) dl cap)).setCell ⟨w.heap.size + 1, 1, none⟩ (.slice none 0 0)).heap.size = W.heap.size := by simp
    generalize (W.setCell ⟨w.heap.size + 1, 0, none⟩ (.slice (some ⟨g, 0, none⟩) dl cap)).setCell ⟨w.heap.size + 1, 1, none⟩ (.slice none 0 0) = X at *
    have GX := grownBy_putObj' X D (.deferred none)
    have y0 := (World.cell?_of_block (w := X) (a := ⟨w.heap.size + 1, 0, none⟩) (GX.block (w.heap.size + 1) (by omega) (by simp; omega))).trans x0
    have y1 := (World.cell?_of_block (w := X) (a := ⟨w.heap.size + 1, 1, none⟩) (GX.block (w.heap.size + 1) (by omega) (by simp; omega))).trans x1
    have OF : Own .u8 5 (X.putObj D (.deferred none)) w1.heap.size (.slice (some ⟨g, 0, none⟩) dl cap) (stl dur ps (fun _ => 64) n) := OX.other GX (.inr (by simp [Value.ownBlock]; omega))
    have BF : Below w.heap.size w (X.putObj D (.deferred none)) := BX.grown GX (by omega) (fun q e => by injection e with e; omega)
    generalize X.putObj D (.deferred none) = Z at *
    refine ⟨.agg #[.slice (some ⟨g, 0, none⟩) dl cap, .slice none 0 0], ?_, _, rfl, OF.mono s1, BF⟩
    simp [results, Try.results19, go_sem, y0, y1]
  case stop =>
    rintro D c pre W _ _ h _
    exact h.elim

end Go.Proofs.Ytmgolinleiahpaa

namespace Go.Proofs.Ytmgolinleiahpaa
open Go.RowKit

set_option maxHeartbeats 2000000 in
set_option maxRecDepth 100000 in
theorem specSync_yes (w : World) (va vb : Option Addr) (dl ca n cb : Nat) (dur : List Int) (ps : List (Int × List Int)) (hd : Rd .u8 w (.slice va dl ca) dur) (hdl : dur.length = dl) (hp : RdW w (.slice vb n cb) ps) (hl : ps.length = n)
    (hv : vldD dl ps = true) (hd1 : dl ≤ 1048576) (hpd : ∀ i, (pD ps i).length ≤ 1048576) :
    Calls Try.prog 31 #[.agg #[.slice va dl ca, .slice vb n cb]] w fun e w' => ∃ v1, e = .returned (.agg #[v1, .slice none 0 0]) ∧ Own .u8 5 w' w.heap.size v1 (stl dur ps (fun _ => 64) n) ∧ Below w.heap.size w w' := by
  obtain ⟨i0, hi, hz0, hz1, hz2⟩ := info_parts Try.infoI
  have HD : Hid (Rd .u8 w (.slice va dl ca) dur) := hd
  have HP : Hid (RdW w (.slice vb n cb) ps) := hp
  have HL : Hid (ps.length = n) := hl
  have HDL : Hid (dur.length = dl) := hdl
  have HV : Hid (vldD dl ps = true) := hv
  have HPD : Hid (∀ i, (pD ps i).length ≤ 1048576) := hpd
  have hn2 : n ≤ 2000 := by have := ((vldD_iff dl ps).1 hv).2.2.2.1; omega
  have BA : Hid (∀ o1 o2, Below w.heap.size w ((w.alloc o1).alloc o2)) := fun o1 o2 => ((Below.refl _ _).alloc (Nat.le_refl _) _).alloc (by simp) _
  clear hd hp hl hdl hv hpd
  go_enter Try.func31, Try.ntmps31
  go_wp2_with fail
  have XA0 : Hid (BoxF ((w.alloc (.cells #[.slice va dl ca, .slice vb n cb] 32)).alloc (.cells #[.slice none 0 0, .slice none 0 0] 32)) w.heap.size (.slice va dl ca) (.slice vb n cb)) := (BoxF.new w _ _ _).below ((Below.refl _ _).alloc (Nat.le_refl _) _)
  have XR0 : Hid (BoxF ((w.alloc (.cells #[.slice va dl ca, .slice vb n cb] 32)).alloc (.cells #[.slice none 0 0, .slice none 0 0] 32)) (w.heap.size + 1) (.slice none 0 0) (.slice none 0 0)) := by
    have := BoxF.new (w.alloc (.cells #[.slice va dl ca, .slice vb n cb] 32)) (.slice none 0 0) (.slice none 0 0) 32
    show BoxF _ _ _ _
    simpa using this
  have B0 := BA.out (.cells #[.slice va dl ca, .slice vb n cb] 32) (.cells #[.slice none 0 0, .slice none 0 0] 32)
  have HB0 : Hid (Below w.heap.size w ((w.alloc (.cells #[.slice va dl ca, .slice vb n cb] 32)).alloc (.cells #[.slice none 0 0, .slice none 0 0] 32))) := B0
  clear B0 BA
  generalize (w.alloc (.cells #[.slice va dl ca, .slice vb n cb] 32)).alloc (.cells #[.slice none 0 0, .slice none 0 0] 32) = w0 at *
  refine (specValid_any _ va vb dl ca n cb ps (HP.out.below HB0.out) HL.out hd1 (by omega) HPD.out).mono ?_
  rintro e w1 ⟨rfl, b1⟩
  rw [HV.out]
  have HB1 : Hid (Below w.heap.size w w1) := HB0.out.trans (b1.mono HB0.out.size)
  have XA1 : Hid (BoxF w1 w.heap.size (.slice va dl ca) (.slice vb n cb)) := XA0.out.below b1
  have XR1 : Hid (BoxF w1 (w.heap.size + 1) (.slice none 0 0) (.slice none 0 0)) := XR0.out.below b1
  have s1 := HB1.out.size
  have zA := XA1.out.1.1
  have zR := XR1.out.1.1
  clear b1 XA0 XR0 HB0
  go_wp2
  go_loopw [3, 4] (fun v i wr => ∃ k : Nat, k ≤ n ∧ i = .int .i64 k ∧ wr.ownsRow w1.heap.size 2 1 v k ((List.replicate k (64 : Int)).map (Value.int .i64)) ∧ Below w1.heap.size w1 wr) (fun _ i _ => n - (intOf i).toNat)
  case atStart => exact ⟨0, Nat.zero_le _, rfl, World.ownsRow_lit w1 #[] 0 (Nat.le_refl _) (Nat.zero_le _) rfl, (Below.refl _ _).alloc (Nat.le_refl _) _⟩
  case round =>
    obtain ⟨k, hk, rfl, ho, hg⟩ := hrel
    obtain ⟨⟨z2, c0, c1⟩, -⟩ := XA1.out.belowB hg zA
    have BW : Hid (Below w.heap.size w wr) := HB1.out.trans (hg.mono s1)
    by_cases hlt : k < n
    · have hltI : (k : Int) < (n : Int) := by omega
      go_wp2_with (at_builtin; go_must (refine wpList_append_own _ rfl _ _ 39 rfl w1.heap.size 2 i0 (.int .i64 0) 1 8 Try.underlying39 hi hz0 hz1 hz2 rfl (by decide) _ _ _ rfl (ho.alloc _) ⟨wr.heap.size, 0, none⟩ 1 1 [.int .i64 64] rfl rfl (cell_one_new _ _ _) (by intro u hu; simp at hu; subst hu; rfl) ?c3 ?c4 ?c5 ?_))
      case c3 => unfold maxLen; omega
      case c4 => omega
      case c5 => have := hg.size; simp; omega
      intro v2 w2 ho2 hg2 _
      have HO2 : Hid (w2.ownsRow w1.heap.size 2 1 v2 (k + 1) ((List.replicate (k + 1) (64 : Int)).map (Value.int .i64))) := by
        show World.ownsRow _ _ _ _ _ _ _
        rw [show List.replicate (k + 1) (64 : Int) = List.replicate k 64 ++ [64] from List.replicate_succ', List.map_append, List.map_replicate]
        exact ho2
      have HG2 : Hid (Below w1.heap.size w1 w2) := (hg.alloc hg.size _).grown hg2 (by have := hg.size; simp; omega) (fun q hq => (ho.lt q hq).1)
      clear ho2 hg2 ho hg c0 c1
      go_wp2
      go_roundw
      case rel => exact ⟨k + 1, by omega, by go_num, HO2.out, HG2.out⟩
      case measure => simp [intOf]; omega
    · have hkn : k = n := by omega
      subst hkn
      have XRr : Hid (BoxF wr (w.heap.size + 1) (.slice none 0 0) (.slice none 0 0)) := XR1.out.belowB hg zR
      have OS : Hid (Own .i64 2 wr w1.heap.size u3 (List.replicate k (64 : Int))) := own_of (ys := List.replicate k (64 : Int)) (by simp) rfl ho
      obtain ⟨sa, sc, rfl, -⟩ := OS.out.rd.len
      have hsl : (List.replicate k (64 : Int)).length = k := by simp
      rw [hsl] at OS ⊢
      clear ho hg hsl
      go_wp2_with fail
      refine (l1Settle_any _ va vb sa dl ca k cb sc dur ps (List.replicate k (64 : Int)) (fun _ => 64) (HD.out.below BW.out) HDL.out (HP.out.below BW.out) HL.out OS.out.rd (by simp) (fun i hi => ⟨by simp [List.getD, hi], Nat.le_refl _⟩) HV.out hd1).mono ?_
      rintro e w3 ⟨v3, rfl, o3, b3⟩
      obtain ⟨a3, c3, rfl⟩ := o3.slice
      have O3 : Hid (Own .u8 5 w3 wr.heap.size (.slice a3 (stl dur ps (fun _ => 64) k).length c3) (stl dur ps (fun _ => 64) k)) := o3
      have B3 : Hid (Below w.heap.size w w3) := BW.out.trans (b3.mono BW.out.size)
      obtain ⟨⟨z5, d0, d1⟩, f0, f1⟩ := XRr.out.below b3
      have zr := XRr.out.1.1
      clear o3 b3 c0 c1
      go_wp2
      refine bodyPost_ret (v := .agg #[.slice a3 (stl dur ps (fun _ => 64) k).length c3, .slice none 0 0]) (by simp [results, Try.results31, go_sem, d0, d1]) rfl ⟨_, rfl, ?_, ?_⟩
      · refine Own.mono (base := wr.heap.size) ?_ (by have := BW.out.size; omega)
        repeat (first | exact O3.out | refine Own.setAt ?_ (O3.out.none_or (by omega)))
      · repeat (first | exact B3.out | refine Below.setCell ?_ (by simp; try omega) _)

end Go.Proofs.Ytmgolinleiahpaa

namespace Go.Proofs.Ytmgolinleiahpaa
open Go.RowKit

set_option maxHeartbeats 1000000 in
set_option maxRecDepth 100000 in
theorem implSync_no (w : World) (va vb : Option Addr) (dl ca n cb : Nat) (ps : List (Int × List Int)) (hp : RdW w (.slice vb n cb) ps) (hl : ps.length = n)
    (hno : vldD dl ps = false) (hn : n ≤ 1048576) (hd1 : dl ≤ 1048576) (hpd : ∀ i, (pD ps i).length ≤ 1048576) :
    Calls Try.prog 19 #[.agg #[.slice va dl ca, .slice vb n cb]] w fun e w' => e = .returned (.agg #[.slice none 0 0, .slice none 0 0]) ∧ Below w.heap.size w w' := by
  have HP : Hid (RdW w (.slice vb n cb) ps) := hp
  have HL : Hid (ps.length = n) := hl
  have HPD : Hid (∀ i, (pD ps i).length ≤ 1048576) := hpd
  have BA : Hid (∀ o1 o2, Below w.heap.size w ((w.alloc o1).alloc o2)) := fun o1 o2 => ((Below.refl _ _).alloc (Nat.le_refl _) _).alloc (by simp) _
  clear hp hl hpd
  go_enter Try.func19, Try.ntmps19
  go_wp2_with fail
  have XR0 : Hid (BoxF ((w.alloc (.cells #[.slice va dl ca, .slice vb n cb] 32)).alloc (.cells #[.slice none 0 0, .slice none 0 0] 32)) (w.heap.size + 1) (.slice none 0 0) (.slice none 0 0)) := by
    have := BoxF.new (w.alloc (.cells #[.slice va dl ca, .slice vb n cb] 32)) (.slice none 0 0) (.slice none 0 0) 32
    show BoxF _ _ _ _
    simpa using this
  have B0 := BA.out (.cells #[.slice va dl ca, .slice vb n cb] 32) (.cells #[.slice none 0 0, .slice none 0 0] 32)
  have HB0 : Hid (Below w.heap.size w ((w.alloc (.cells #[.slice va dl ca, .slice vb n cb] 32)).alloc (.cells #[.slice none 0 0, .slice none 0 0] 32))) := B0
  clear B0 BA
  generalize (w.alloc (.cells #[.slice va dl ca, .slice vb n cb] 32)).alloc (.cells #[.slice none 0 0, .slice none 0 0] 32) = w0 at *
  refine (implValid_any _ va vb dl ca n cb ps (HP.out.below HB0.out) HL.out hd1 hn HPD.out).mono ?_
  rintro e w1 ⟨rfl, b1⟩
  have HB1 : Hid (Below w.heap.size w w1) := HB0.out.trans (b1.mono HB0.out.size)
  have XR1 : Hid (BoxF w1 (w.heap.size + 1) (.slice none 0 0) (.slice none 0 0)) := XR0.out.below b1
  clear b1 XR0 HB0
  obtain ⟨⟨zr, d0, d1⟩, f0, f1⟩ := XR1.out
  rw [hno]
  clear hno
  go_wp2
  refine bodyPost_ret (v := .agg #[.slice none 0 0, .slice none 0 0]) (by simp [results, Try.results19, go_sem, d0, d1]) rfl ⟨rfl, ?_⟩
  repeat (first | exact HB1.out | refine Below.setCell ?_ (by simp; try omega) _)

theorem implSync_any (w : World) (v1 v2 : Value) (dur : List Int) (ps : List (Int × List Int)) (hd : Rd .u8 w v1 dur) (hp : RdW w v2 ps) (hdl : dur.length ≤ 1048576) (hn : ps.length ≤ 1048576) (hpd : ∀ i, (pD ps i).length ≤ 1048576) :
    Calls Try.prog 19 #[.agg #[v1, v2]] w fun e w' => ∃ u, e = .returned (.agg #[u, .slice none 0 0]) ∧ Own .u8 5 w' w.heap.size u (syD dur ps) ∧ Below w.heap.size w w' := by
  obtain ⟨va, ca, rfl, -⟩ := hd.len
  obtain ⟨vb, cb, rfl, -⟩ := id hp
  unfold syD
  cases h : vldD dur.length ps with
  | true =>
    simp only [if_true]
    exact implSync_yes w va vb dur.length ca ps.length cb dur ps hd rfl hp rfl h hdl hpd
  | false =>
    simp only [Bool.false_eq_true, if_false]
    refine (implSync_no w va vb dur.length ca ps.length cb ps hp rfl h hn hdl hpd).mono ?_
    rintro e w' ⟨rfl, b⟩
    exact ⟨_, rfl, World.ownsRow_nil _ _ _ _, b⟩

set_option maxHeartbeats 1000000 in
set_option maxRecDepth 100000 in
theorem specSync_no (w : World) (va vb : Option Addr) (dl ca n cb : Nat) (ps : List (Int × List Int)) (hp : RdW w (.slice vb n cb) ps) (hl : ps.length = n)
    (hno : vldD dl ps = false) (hn : n ≤ 1048576) (hd1 : dl ≤ 1048576) (hpd : ∀ i, (pD ps i).length ≤ 1048576) :
    Calls Try.prog 31 #[.agg #[.slice va dl ca, .slice vb n cb]] w fun e w' => e = .returned (.agg #[.slice none 0 0, .slice none 0 0]) ∧ Below w.heap.size w w' := by
  have HP : Hid (RdW w (.slice vb n cb) ps) := hp
  have HL : Hid (ps.length = n) := hl
  have HPD : Hid (∀ i, (pD ps i).length ≤ 1048576) := hpd
  have BA : Hid (∀ o1 o2, Below w.heap.size w ((w.alloc o1).alloc o2)) := fun o1 o2 => ((Below.refl _ _).alloc (Nat.le_refl _) _).alloc (by simp) _
  clear hp hl hpd
  go_enter Try.func31, Try.ntmps31
  go_wp2_with fail
  have XR0 : Hid (BoxF ((w.alloc (.cells #[.slice va dl ca, .slice vb n cb] 32)).alloc (.cells #[.slice none 0 0, .slice none 0 0] 32)) (w.heap.size + 1) (.slice none 0 0) (.slice none 0 0)) := by
    have := BoxF.new (w.alloc (.cells #[.slice va dl ca, .slice vb n cb] 32)) (.slice none 0 0) (.slice none 0 0) 32
    show BoxF _ _ _ _
    simpa using this
  have B0 := BA.out (.cells #[.slice va dl ca, .slice vb n cb] 32) (.cells #[.slice none 0 0, .slice none 0 0] 32)
  have HB0 : Hid (Below w.heap.size w ((w.alloc (.cells #[.slice va dl ca, .slice vb n cb] 32)).alloc (.cells #[.slice none 0 0, .slice none 0 0] 32))) := B0
  clear B0 BA
  generalize (w.alloc (.cells #[.slice va dl ca, .slice vb n cb] 32)).alloc (.cells #[.slice none 0 0, .slice none 0 0] 32) = w0 at *
  refine (specValid_any _ va vb dl ca n cb ps (HP.out.below HB0.out) HL.out hd1 hn HPD.out).mono ?_
  rintro e w1 ⟨rfl, b1⟩
  have HB1 : Hid (Below w.heap.size w w1) := HB0.out.trans (b1.mono HB0.out.size)
  have XR1 : Hid (BoxF w1 (w.heap.size + 1) (.slice none 0 0) (.slice none 0 0)) := XR0.out.below b1
  clear b1 XR0 HB0
  obtain ⟨⟨zr, d0, d1⟩, f0, f1⟩ := XR1.out
  rw [hno]
  clear hno
  go_wp2
  refine bodyPost_ret (v := .agg #[.slice none 0 0, .slice none 0 0]) (by simp [results, Try.results31, go_sem, d0, d1]) rfl ⟨rfl, ?_⟩
  repeat (first | exact HB1.out | refine Below.setCell ?_ (by simp; try omega) _)

theorem specSync_any (w : World) (v1 v2 : Value) (dur : List Int) (ps : List (Int × List Int)) (hd : Rd .u8 w v1 dur) (hp : RdW w v2 ps) (hdl : dur.length ≤ 1048576) (hn : ps.length ≤ 1048576) (hpd : ∀ i, (pD ps i).length ≤ 1048576) :
    Calls Try.prog 31 #[.agg #[v1, v2]] w fun e w' => ∃ u, e = .returned (.agg #[u, .slice none 0 0]) ∧ Own .u8 5 w' w.heap.size u (syD dur ps) ∧ Below w.heap.size w w' := by
  obtain ⟨va, ca, rfl, -⟩ := hd.len
  obtain ⟨vb, cb, rfl, -⟩ := id hp
  unfold syD
  cases h : vldD dur.length ps with
  | true =>
    simp only [if_true]
    exact specSync_yes w va vb dur.length ca ps.length cb dur ps hd rfl hp rfl h hdl hpd
  | false =>
    simp only [Bool.false_eq_true, if_false]
    refine (specSync_no w va vb dur.length ca ps.length cb ps hp rfl h hn hdl hpd).mono ?_
    rintro e w' ⟨rfl, b⟩
    exact ⟨_, rfl, World.ownsRow_nil _ _ _ _, b⟩

end Go.Proofs.Ytmgolinleiahpaa

namespace Go.Proofs.Ytmgolinleiahpaa
open Go.RowKit

theorem OwnD.setOff {w : World} {lo hi B j : Nat} {vd vk u : Value} {dur : List Int} {ps : List (Int × List Int)} {dv : Nat → Value} (ho : OwnD w lo hi vd vk dur ps dv) (h1 : vd.ownBlock ≠ some B) (h2 : vk.ownBlock ≠ some B) (h3 : ∀ i, i < ps.length → (dv i).ownBlock ≠ some B) : OwnD (w.setCell ⟨B, j, none⟩ u) lo hi vd vk dur ps dv :=
  ⟨ho.d.setAt (.inr h1), ⟨World.ownsRow.kept ho.p.1 (grownBy_set w w B j u (World.grownBy.refl _ _)) (.inr h2), fun i hi => (ho.p.2.1 i hi).setAt (.inr (h3 i hi)), ho.p.2.2.1, ho.p.2.2.2⟩, ho.dlt, ho.plt, ho.qlt, ho.dp, ho.dq⟩

/-- Where a copy stands before its record k: the box that holds it lies in block B. -/
structure CopyAt (w : World) (lo B k : Nat) (vd vk : Value) (dur : List Int) (ps : List (Int × List Int)) (dv : Nat → Value) : Prop where
  box : BoxF w B vd vk
  own : OwnD w lo w.heap.size vd vk dur (ps.take k) dv
  d : vd.ownBlock ≠ some B
  p : vk.ownBlock ≠ some B
  q : ∀ i, i < k → (dv i).ownBlock ≠ some B

theorem CopyAt.step {wr w' w4 : World} {lo B k g cap : Nat} {vd vk v : Value} {dur : List Int} {ps : List (Int × List Int)} {dv : Nat → Value} {ob : Obj} (h : CopyAt wr lo B k vd vk dur ps dv) (hk : k < ps.length) (hlo : lo ≤ wr.heap.size) (bw : Below wr.heap.size wr w') (o' : Own .u8 5 w' wr.heap.size v (pD ps k))
    (ho4 : w4.ownsRow lo 42 2 (.slice (some ⟨g, 0, none⟩) (k + 1) cap) (k + 1) (rowW k (pB ps) dv ++ [.int .i64 (pB ps k), v])) (hg4 : (w'.alloc ob).grownBy w4 vk.ownBlock) (hat : vk.ownBlock = some g ∨ g = w'.heap.size + 1) :
    CopyAt (w4.setCell ⟨B, 1, none⟩ (.slice (some ⟨g, 0, none⟩) (k + 1) cap)) lo B (k + 1) vd (.slice (some ⟨g, 0, none⟩) (k + 1) cap) dur ps (dvSet dv k v) := by
  have G : w'.grownBy w4 vk.ownBlock := World.grownBy.trans (World.grownBy_alloc w' ob _) hg4
  have hsz := bw.size
  have hB : B < wr.heap.size := h.box.1.1
  have htk : ps.take (k + 1) = ps.take k ++ [(pB ps k, pD ps k)] := by
    rw [List.take_add_one, List.getElem?_eq_getElem hk]
    have e : (pB ps k, pD ps k) = ps[k] := by unfold pB pD; simp [List.getD, hk]
    rw [e]; rfl
  have hlen : (ps.take k).length = k := by rw [List.length_take]; omega
  have hrow : rowW k (pB (ps.take k)) dv = rowW k (pB ps) dv := rowW_congr (fun i hi => by unfold pB; simp [List.getD, hi]) (fun _ _ => rfl)
  have hown := ownD_snoc (hi := wr.heap.size) h.own (Nat.le_refl _) hlo hlen bw o' (by rw [hrow]; exact ho4) hg4 hat
  have hp' : Value.ownBlock (.slice (some ⟨g, 0, none⟩) (k + 1) cap) ≠ some B := by
    simp only [Value.ownBlock, ne_eq, Option.some.injEq]
    rcases hat with e | e
    · intro eq; exact h.p (by rw [e, eq])
    · omega
  have hq' : ∀ i, i < k + 1 → (dvSet dv k v i).ownBlock ≠ some B := by
    intro i hi
    unfold dvSet
    by_cases e : i = k
    · rw [if_pos e]; intro eq; have := (o'.lt B eq).1; omega
    · rw [if_neg e]; exact h.q i (by omega)
  have hfar := G.cell_far ⟨B, 0, none⟩ (by show B < _; omega) (Ne.symm h.p)
  have hfar1 := G.cell_far ⟨B, 1, none⟩ (by show B < _; omega) (Ne.symm h.p)
  have hfz0 := G.frozen_far ⟨B, 0, none⟩ (by show B < _; omega) (Ne.symm h.p)
  have hfz1 := G.frozen_far ⟨B, 1, none⟩ (by show B < _; omega) (Ne.symm h.p)
  have hbox' := h.box.below bw
  refine ⟨?_, ?_, h.d, hp', hq'⟩
  · have c0 := hfar.trans hbox'.1.2.1
    have c1 := hfar1.trans hbox'.1.2.2
    have f0 := hfz0.trans hbox'.2.1
    have f1 := hfz1.trans hbox'.2.2
    have hs4 := G.size
    refine ⟨⟨by simp; omega, ?_, ?_⟩, ?_, ?_⟩
    · rw [World.cell?_setCell_other _ _ _ _ (by simp)]; exact c0
    · exact World.cell?_setCell_same _ _ _ c1
    · simp [f0]
    · simp [f1]
  · rw [htk]
    have := hown.setOff (j := 1) (u := .slice (some ⟨g, 0, none⟩) (k + 1) cap) h.d hp' (B := B) (fun i hi => hq' i (by simp at hi; omega))
    simpa using this

set_option maxHeartbeats 8000000 in
set_option maxRecDepth 100000 in
theorem l1CopyDisk_any (w : World) (va vb : Option Addr) (dl ca n cb : Nat) (dur : List Int) (ps : List (Int × List Int)) (hd : Rd .u8 w (.slice va dl ca) dur) (hdl : dur.length = dl) (hp : RdW w (.slice vb n cb) ps) (hl : ps.length = n) (hn : n ≤ 1048576) (hd1 : dl ≤ 1048576) (hpd : ∀ i, (pD ps i).length ≤ 1048576) :
    Calls Try.prog 48 #[.agg #[.slice va dl ca, .slice vb n cb]] w fun e w' => ∃ v1 v2 dv, e = .returned (.agg #[v1, v2]) ∧ OwnD w' w.heap.size w'.heap.size v1 v2 dur ps dv ∧ Below w.heap.size w w' := by
  obtain ⟨i0, hi, hz0, hz1, hz2⟩ := info_parts Try.infoW
  have HD : Hid (Rd .u8 w (.slice va dl ca) dur) := hd
  have HP : Hid (RdW w (.slice vb n cb) ps) := hp
  have HL : Hid (ps.length = n) := hl
  have HDL : Hid (dur.length = dl) := hdl
  have HPD : Hid (∀ i, (pD ps i).length ≤ 1048576) := hpd
  have BA : Hid (∀ o1 o2, Below w.heap.size w ((w.alloc o1).alloc o2)) := fun o1 o2 => ((Below.refl _ _).alloc (Nat.le_refl _) _).alloc (by simp) _
  clear hd hp hl hdl hpd
  go_enter Try.func48, Try.ntmps48
  go_wp2_with fail
  have XA0 : Hid (BoxF ((w.alloc (.cells #[.slice va dl ca, .slice vb n cb] 32)).alloc (.cells #[.slice none 0 0, .slice none 0 0] 32)) w.heap.size (.slice va dl ca) (.slice vb n cb)) := (BoxF.new w _ _ _).below ((Below.refl _ _).alloc (Nat.le_refl _) _)
  have XR0 : Hid (BoxF ((w.alloc (.cells #[.slice va dl ca, .slice vb n cb] 32)).alloc (.cells #[.slice none 0 0, .slice none 0 0] 32)) (w.heap.size + 1) (.slice none 0 0) (.slice none 0 0)) := by
    have := BoxF.new (w.alloc (.cells #[.slice va dl ca, .slice vb n cb] 32)) (.slice none 0 0) (.slice none 0 0) 32
    show BoxF _ _ _ _
    simpa using this
  have B0 := BA.out (.cells #[.slice va dl ca, .slice vb n cb] 32) (.cells #[.slice none 0 0, .slice none 0 0] 32)
  have HB0 : Hid (Below w.heap.size w ((w.alloc (.cells #[.slice va dl ca, .slice vb n cb] 32)).alloc (.cells #[.slice none 0 0, .slice none 0 0] 32))) := B0
  clear B0 BA
  generalize (w.alloc (.cells #[.slice va dl ca, .slice vb n cb] 32)).alloc (.cells #[.slice none 0 0, .slice none 0 0] 32) = w0 at *
  refine (l1Copy_any _ _ dur (HD.out.below HB0.out) (by have := HDL.out; omega)).mono ?_
  rintro e w1 ⟨v1, rfl, o1, b1⟩
  obtain ⟨a1, c1, rfl⟩ := o1.slice
  have HB1 : Hid (Below w.heap.size w w1) := HB0.out.trans (b1.mono HB0.out.size)
  have XA1 : Hid (BoxF w1 w.heap.size (.slice va dl ca) (.slice vb n cb)) := XA0.out.below b1
  have XR1 : Hid (BoxF w1 (w.heap.size + 1) (.slice none 0 0) (.slice none 0 0)) := XR0.out.below b1
  have O1 : Hid (Own .u8 5 w1 w0.heap.size (.slice a1 dur.length c1) dur) := o1
  have s0 := HB0.out.size
  have XA0z := XA0.out.1.1
  have XR0z := XR0.out.1.1
  have b1s := b1.size
  clear b1 o1 XA0 XR0 HB0
  have C1 : Hid (CopyAt (w1.alloc (.cells #[.slice a1 dur.length c1, .slice none 0 0] 32)) w0.heap.size w1.heap.size 0 (.slice a1 dur.length c1) (.slice none 0 0) dur ps (fun _ => .slice none 0 0)) := by
    have B2 : Below w1.heap.size w1 (w1.alloc (.cells #[.slice a1 dur.length c1, .slice none 0 0] 32)) := (Below.refl _ _).alloc (Nat.le_refl _) _
    refine ⟨BoxF.new _ _ _ _, ⟨O1.out.below B2, ⟨World.ownsRow_nil _ _ _ _, fun i hi => by simp at hi, fun i j hi => by simp at hi, fun i hi => by simp at hi⟩, fun g hg => ?_, fun g hg => by simp [Value.ownBlock] at hg, fun i hi => by simp at hi, .inl rfl, fun i hi => by simp at hi⟩, ?_, by simp [Value.ownBlock], fun i hi => by omega⟩
    · have := (O1.out.lt g hg).2; simp; omega
    · intro e; have := (O1.out.lt _ e).2; omega
  have HW : Hid (Below w.heap.size w (w1.alloc (.cells #[.slice a1 dur.length c1, .slice none 0 0] 32))) := HB1.out.alloc HB1.out.size _
  have XA2 : Hid (BoxF (w1.alloc (.cells #[.slice a1 dur.length c1, .slice none 0 0] 32)) w.heap.size (.slice va dl ca) (.slice vb n cb)) := XA1.out.below ((Below.refl _ _).alloc (Nat.le_refl _) _)
  have XR2 : Hid (BoxF (w1.alloc (.cells #[.slice a1 dur.length c1, .slice none 0 0] 32)) (w.heap.size + 1) (.slice none 0 0) (.slice none 0 0)) := XR1.out.below ((Below.refl _ _).alloc (Nat.le_refl _) _)
  go_wp2
  go_loopw [4] (fun i wr => ∃ (k : Nat) (dv : Nat → Value) (vk : Value), k ≤ n ∧ i = .int .i64 k ∧ Hid (CopyAt wr w0.heap.size w1.heap.size k (.slice a1 dur.length c1) vk dur ps dv) ∧ Hid (Below w0.heap.size (w1.alloc (.cells #[.slice a1 dur.length c1, .slice none 0 0] 32)) wr)) (fun i _ => n - (intOf i).toNat)
  case atStart => exact ⟨0, _, _, Nat.zero_le _, rfl, C1, Below.refl _ _⟩
  case round =>
    clear C1
    obtain ⟨k, dv, vk, hk, rfl, HC, HG⟩ := hrel
    have sg := HG.out.size
    have zA := XA1.out.1.1
    have zR := XR1.out.1.1
    obtain ⟨⟨z3, x0, x1⟩, -⟩ := XA2.out.belowB HG.out XA0z
    clear x0
    by_cases hlt : k < n
    · obtain ⟨b, o, rfl, hb, e1, da, dc, e2, r⟩ := HP.out.recAt HL.out hlt
      have BW : Hid (Below w.heap.size w wr) := HW.out.trans (HG.out.mono s0)
      have e1' := (BW.out.cell (p := ⟨b, o + k * 2, none⟩) hb).trans e1
      have e2' := (BW.out.cell (p := ⟨b, o + k * 2 + 1, none⟩) hb).trans e2
      have RK : Hid (Rd .u8 wr (.slice da (pD ps k).length dc) (pD ps k)) := r.below BW.out
      have hltI : (k : Int) < (n : Int) := by omega
      have hpk := HPD.out k
      clear e1 e2 r
      obtain ⟨⟨z4, -, y1⟩, -, y2⟩ := HC.out.box
      have n1 : w1.heap.size ≠ w.heap.size := by omega
      have n2 : w1.heap.size ≠ b := by omega
      have HCL : Hid (Calls Try.prog 49 #[.slice da (pD ps k).length dc] wr.drew fun e w' => ∃ a c, e = .returned (.slice a (pD ps k).length c) ∧ Hid (Own .u8 5 w' wr.heap.size (.slice a (pD ps k).length c) (pD ps k)) ∧
          w'.cell? ⟨w.heap.size, 1, none⟩ = some (.slice (some ⟨b, o, none⟩) n cb) ∧ w'.cell? ⟨b, o + k * 2, none⟩ = some (.int .i64 (pB ps k)) ∧ w'.cell? ⟨b, o + k * 2 + 1, none⟩ = some (.slice da (pD ps k).length dc) ∧ w'.cell? ⟨w1.heap.size, 1, none⟩ = some vk ∧ w'.frozen? ⟨w1.heap.size, 1, none⟩ = false ∧ Hid (Below wr.heap.size wr w')) := by
        refine (l1Copy_any _ _ (pD ps k) (RK.out.drewN 1) (by omega)).mono ?_
        rintro e w' ⟨v', rfl, o', b'⟩
        obtain ⟨a, c, rfl⟩ := o'.slice
        have b2 : Below wr.heap.size wr w' := (below_drewN' _ 1).trans b'
        exact ⟨a, c, rfl, o', (b2.cell (p := ⟨w.heap.size, 1, none⟩) (by show _ < _; omega)).trans x1, (b2.cell (p := ⟨b, o + k * 2, none⟩) (by show b < _; have := BW.out.size; omega)).trans e1', (b2.cell (p := ⟨b, o + k * 2 + 1, none⟩) (by show b < _; have := BW.out.size; omega)).trans e2', (b2.cell (p := ⟨w1.heap.size, 1, none⟩) z4).trans y1, (b2.frozen (p := ⟨w1.heap.size, 1, none⟩) z4).trans y2, b2⟩
      have HOW : Hid (∀ W' ob, Below wr.heap.size wr W' → (W'.alloc ob).ownsRow w0.heap.size 42 2 vk k (rowW k (pB ps) dv)) := by
        intro W' ob hW'
        have h0 := HC.out.own.p.1
        rw [show (ps.take k).length = k by rw [List.length_take, HL.out]; omega, show rowW k (pB (ps.take k)) dv = rowW k (pB ps) dv from rowW_congr (fun i hi => by unfold pB; simp [List.getD, hi]) (fun _ _ => rfl)] at h0
        refine World.ownsRow.alloc (World.ownsRow.kept h0 (row := none) ⟨hW'.os, hW'.tape, hW'.output, hW'.size, fun q hq _ => hW'.block q hq⟩ ?_) ob
        cases vk.ownBlock with
        | none => exact .inl rfl
        | some q => exact .inr (by simp)
      have HK4 : Hid (∀ W' W4 ob, Below wr.heap.size wr W' → (World.alloc W' ob).grownBy W4 vk.ownBlock → W4.cell? ⟨w.heap.size, 1, none⟩ = some (.slice (some ⟨b, o, none⟩) n cb) ∧ W4.cell? ⟨b, o + k * 2, none⟩ = some (.int .i64 (pB ps k)) ∧ W4.cell? ⟨b, o + k * 2 + 1, none⟩ = some (.slice da (pD ps k).length dc) ∧ W4.cell? ⟨w1.heap.size, 1, none⟩ = some vk ∧ W4.frozen? ⟨w1.heap.size, 1, none⟩ = false) := by
        intro W' W4 ob hW' hG
        have hs := hW'.size
        have hv : ∀ q, vk.ownBlock = some q → w0.heap.size ≤ q := fun q hq => (World.ownsRow.lt HC.out.own.p.1 q hq).1
        have hA : ∀ q, q < w0.heap.size → some q ≠ vk.ownBlock := fun q hq e => by have := hv q e.symm; omega
        have hcell : ∀ p : Addr, p.block < wr.heap.size → some p.block ≠ vk.ownBlock → W4.cell? p = wr.cell? p ∧ W4.frozen? p = wr.frozen? p := by
          intro p hp hne
          have hp2 : p.block < (World.alloc W' ob).heap.size := by simp; omega
          have hb2 : Below wr.heap.size wr (World.alloc W' ob) := hW'.alloc hs _
          exact ⟨(hG.cell_far p hp2 hne).trans (hb2.cell hp), (hG.frozen_far p hp2 hne).trans (hb2.frozen hp)⟩
        have hbs := BW.out.size
        exact ⟨(hcell ⟨w.heap.size, 1, none⟩ (by show w.heap.size < _; omega) (hA _ (by show w.heap.size < _; exact XA0z))).1.trans x1, (hcell ⟨b, o + k * 2, none⟩ (by show b < _; omega) (hA b (by omega))).1.trans e1', (hcell ⟨b, o + k * 2 + 1, none⟩ (by show b < _; omega) (hA b (by omega))).1.trans e2',
          (hcell ⟨w1.heap.size, 1, none⟩ z4 (Ne.symm HC.out.p)).1.trans y1, (hcell ⟨w1.heap.size, 1, none⟩ z4 (Ne.symm HC.out.p)).2.trans y2⟩
      have HEND : Hid (∀ (W' W4 : World) (ob : Obj) (g cap : Nat) (v : Value), Below wr.heap.size wr W' → Own .u8 5 W' wr.heap.size v (pD ps k) → W4.ownsRow w0.heap.size 42 2 (.slice (some ⟨g, 0, none⟩) (k + 1) cap) (k + 1) (rowW k (pB ps) dv ++ [.int .i64 (pB ps k), v]) → (W'.alloc ob).grownBy W4 vk.ownBlock → (vk.ownBlock = some g ∨ g = W'.heap.size + 1) →
          Hid (CopyAt (W4.setCell ⟨w1.heap.size, 1, none⟩ (.slice (some ⟨g, 0, none⟩) (k + 1) cap)) w0.heap.size w1.heap.size (k + 1) (.slice a1 dur.length c1) (.slice (some ⟨g, 0, none⟩) (k + 1) cap) dur ps (dvSet dv k v)) ∧ Hid (Below w0.heap.size (w1.alloc (.cells #[.slice a1 dur.length c1, .slice none 0 0] 32)) (W4.setCell ⟨w1.heap.size, 1, none⟩ (.slice (some ⟨g, 0, none⟩) (k + 1) cap)))) := by
        intro W' W4 ob g cap v hW o4 r4 g4 at4
        have hs : w0.heap.size ≤ wr.heap.size := by simp at sg; omega
        refine ⟨HC.out.step (by rw [HL.out]; exact hlt) hs hW o4 r4 g4 at4, ?_⟩
        have := ((HG.out.trans (hW.mono hs)).alloc (Nat.le_trans hs hW.size) ob).grown g4 (by have := hW.size; simp; omega) (fun q hq => (World.ownsRow.lt HC.out.own.p.1 q hq).1)
        exact this.setCell (by show w0.heap.size ≤ w1.heap.size; exact b1s) _
      have hnum1 : k + 1 ≤ maxLen := by unfold maxLen; omega
      have hnum2 : (k + 1) * 32 ≤ 140737488355328 := by omega
      have hk0 : (0 : Int) ≤ (k : Int) := Int.natCast_nonneg _
      go_wp2_with fail
      have BW0 : Hid (w0.heap.size ≤ wr.heap.size) := by show _ ≤ _; simp at sg; omega
      clear RK HB1 XA1 XR1 XA2 O1 HDL HD
      go_region_law (first
          | (refine step_append_lies _ (by rfl) _ _ _ (by rfl) w0.heap.size 42 i0 _ 2 32 Try.underlying30 hi hz0 hz1 hz2 rfl (by omega) vk k (rowW k (pB ps) dv) (by rfl) (HOW.out w' _ bw.out) ⟨w'.heap.size, 0, none⟩ 1 1 [.int .i64 (pB ps k), .slice a (pD ps k).length c] (by rfl) (by rfl) (cell_two_new _ _ _ _) (by intro u hu; simp at hu; rcases hu with rfl | rfl <;> rfl)
              (by omega) hnum1 hnum2 (by have := bw.out.size; have := BW0.out; simp; omega) (w'.heap.size + 1) (by simp) ?_; intro g4 cap4 w4 ho4 hg4 hat4 hlt4; obtain ⟨q1, q2, q3, q4, q5⟩ := HK4.out _ _ _ bw.out hg4)
          | (go_simp; go_at_call 49; refine HCL.out.mono ?_; rintro e w' ⟨a, c, rfl, o', k1, k2, k3, k4, k5, bw⟩; have k6 : (w'.alloc (.cells #[.int .i64 (pB ps k), .slice a (pD ps k).length c] 42)).cell? ⟨w1.heap.size, 1, none⟩ = some vk := (World.cell?_alloc_some _ _ _ (by rw [k4]; rfl)).trans k4))
      all_goals
        obtain ⟨C4, G4⟩ := HEND.out _ _ _ _ _ _ bw.out o'.out ho4 hg4 hat4
        clear ho4 hg4 hat4 hlt4 q1 q2 q3 q4 q5 o' bw k1 k2 k3 k4 k5 k6 HK4 HOW HCL HEND HC HG
        go_wp2
        go_roundw
        case rel => exact ⟨k + 1, _, _, by omega, by go_num, C4, G4⟩
        case measure => simp [intOf]; omega
    · have hkn : k = n := by omega
      subst hkn
      obtain ⟨⟨z4, y0, y1⟩, -⟩ := HC.out.box
      obtain ⟨⟨z5, d0, d1⟩, f0, f1⟩ := XR2.out.belowB HG.out XR0z
      have HB : Hid (Below w.heap.size w wr) := HW.out.trans (HG.out.mono s0)
      have OD : Hid (OwnD wr w0.heap.size wr.heap.size (.slice a1 dur.length c1) vk dur ps dv) := by
        have := HC.out.own
        rw [List.take_of_length_le (by rw [HL.out]; exact Nat.le_refl _)] at this
        exact this
      obtain ⟨a2, c2, rfl⟩ := OD.out.p.slice
      clear HC HG
      go_wp2
      refine bodyPost_ret (v := .agg #[.slice a1 dur.length c1, .slice a2 ps.length c2]) (by simp [results, Try.results48, go_sem, d0, d1]) rfl ⟨_, _, dv, rfl, ?_, ?_⟩
      · refine OwnD.mono (lo := w0.heap.size) (hi := wr.heap.size) ?_ s0 (by simp)
        repeat (first | exact OD.out | refine OwnD.within (l := w.heap.size + 1) (h := w.heap.size + 2) ?_ (Within.setCell _ (Nat.le_refl _) (by omega) _ _) (.inr (by omega)))
      · repeat (first | exact HB.out | refine Below.setCell ?_ (by simp; try omega) _)

end Go.Proofs.Ytmgolinleiahpaa

namespace Go.Proofs.Ytmgolinleiahpaa
open Go.RowKit

set_option maxHeartbeats 1000000 in
set_option maxRecDepth 100000 in
theorem specWrite_yes (w : World) (va vb vx : Option Addr) (dl ca n cb cx : Nat) (dur xs : List Int) (ps : List (Int × List Int)) (x : Int) (hd : Rd .u8 w (.slice va dl ca) dur) (hdl : dur.length = dl) (hp : RdW w (.slice vb n cb) ps) (hl : ps.length = n)
    (hx : Rd .u8 w (.slice vx 64 cx) xs) (hxl : xs.length = 64) (hv : vldD dl ps = true) (hn : n < 2000) (hx0 : 0 ≤ x) (hx1 : x < (dl / 64 : Nat)) (hd1 : dl ≤ 1048576) (hpd : ∀ i, (pD ps i).length ≤ 1048576) :
    Calls Try.prog 16 #[.agg #[.slice va dl ca, .slice vb n cb], .int .i64 x, .slice vx 64 cx] w fun e w' => ∃ v1 v2 dv, e = .returned (.agg #[v1, v2]) ∧ OwnD w' w.heap.size w'.heap.size v1 v2 dur (ps ++ [(x, xs)]) dv ∧ Below w.heap.size w w' := by
  obtain ⟨i0, hi, hz0, hz1, hz2⟩ := info_parts Try.infoW
  have HD : Hid (Rd .u8 w (.slice va dl ca) dur) := hd
  have HP : Hid (RdW w (.slice vb n cb) ps) := hp
  have HX : Hid (Rd .u8 w (.slice vx 64 cx) xs) := hx
  have HL : Hid (ps.length = n) := hl
  have HXL : Hid (xs.length = 64) := hxl
  have HDL : Hid (dur.length = dl) := hdl
  have HPD : Hid (∀ i, (pD ps i).length ≤ 1048576) := hpd
  have BA : Hid (∀ o1 o2, Below w.heap.size w ((w.alloc o1).alloc o2)) := fun o1 o2 => ((Below.refl _ _).alloc (Nat.le_refl _) _).alloc (by simp) _
  have HV : Hid (vldD dl ps = true) := hv
  clear hd hp hx hl hxl hdl hpd hv
  obtain ⟨qs, hqs⟩ : ∃ qs, qs = ps ++ [(x, xs)] := ⟨_, rfl⟩
  have HQ : Hid (qs.length = n + 1 ∧ (∀ i, i < n → pB qs i = pB ps i) ∧ pB qs n = x ∧ pD qs n = xs ∧ qs.take n = ps ∧ qs.take (n + 1) = qs) := by
    have hl := HL.out
    subst hqs; subst hl
    exact ⟨by simp, fun i hi => pB_app _ _ _ hi, pB_last _ _, pD_last _ _, by simp, List.take_of_length_le (by simp)⟩
  rw [← hqs]
  clear hqs
  go_enter Try.func16, Try.ntmps16
  go_wp2_with fail
  have XA0 : Hid (BoxF ((w.alloc (.cells #[.slice va dl ca, .slice vb n cb] 32)).alloc (.cells #[.slice none 0 0, .slice none 0 0] 32)) w.heap.size (.slice va dl ca) (.slice vb n cb)) := (BoxF.new w _ _ _).below ((Below.refl _ _).alloc (Nat.le_refl _) _)
  have XR0 : Hid (BoxF ((w.alloc (.cells #[.slice va dl ca, .slice vb n cb] 32)).alloc (.cells #[.slice none 0 0, .slice none 0 0] 32)) (w.heap.size + 1) (.slice none 0 0) (.slice none 0 0)) := by
    have := BoxF.new (w.alloc (.cells #[.slice va dl ca, .slice vb n cb] 32)) (.slice none 0 0) (.slice none 0 0) 32
    show BoxF _ _ _ _
    simpa using this
  have B0 := BA.out (.cells #[.slice va dl ca, .slice vb n cb] 32) (.cells #[.slice none 0 0, .slice none 0 0] 32)
  have HB0 : Hid (Below w.heap.size w ((w.alloc (.cells #[.slice va dl ca, .slice vb n cb] 32)).alloc (.cells #[.slice none 0 0, .slice none 0 0] 32))) := B0
  clear B0 BA
  generalize (w.alloc (.cells #[.slice va dl ca, .slice vb n cb] 32)).alloc (.cells #[.slice none 0 0, .slice none 0 0] 32) = w0 at *
  refine (specValid_any _ va vb dl ca n cb ps (HP.out.below HB0.out) HL.out hd1 (by omega) HPD.out).mono ?_
  rintro e w1 ⟨rfl, b1⟩
  rw [HV.out]
  have HB1 : Hid (Below w.heap.size w w1) := HB0.out.trans (b1.mono HB0.out.size)
  have XA1 : Hid (BoxF w1 w.heap.size (.slice va dl ca) (.slice vb n cb)) := XA0.out.below b1
  have XR1 : Hid (BoxF w1 (w.heap.size + 1) (.slice none 0 0) (.slice none 0 0)) := XR0.out.below b1
  clear b1 XA0 XR0 HB0
  obtain ⟨⟨z1, c0, c1⟩, -⟩ := XA1.out
  have t1 : ¬ (n : Int) = 2000 := by omega
  have t1b : ((n : Int) == 2000) = false := beq_false_of_ne t1
  have t2 : ¬ x < 0 := by omega
  have t2d : decide (x < 0) = false := by simpa using t2
  have HX1 : Hid (x < (dl / 64 : Nat)) := hx1
  clear hx1
  go_wp2_with fail
  refine (l1Blocks_any _ va dl ca _ hd1).mono ?_
  rintro e w2 ⟨rfl, b2⟩
  have HB2 : Hid (Below w.heap.size w w2) := HB1.out.trans (b2.mono HB1.out.size)
  have XA2 : Hid (BoxF w2 w.heap.size (.slice va dl ca) (.slice vb n cb)) := XA1.out.below b2
  have XR2 : Hid (BoxF w2 (w.heap.size + 1) (.slice none 0 0) (.slice none 0 0)) := XR1.out.below b2
  clear b2 XA1 XR1 HB1 z1 c0 c1 t2 t2d
  obtain ⟨⟨z1, c0, c1⟩, -⟩ := XA2.out
  have t3 : ¬ ((dl / 64 : Nat) : Int) ≤ x := by have := HX1.out; omega
  have t3d : decide (((dl / 64 : Nat) : Int) ≤ x) = false := by simpa using t3
  clear HX1
  generalize ((dl / 64 : Nat) : Int) = q at *
  go_wp2_with fail
  refine (l1CopyDisk_any _ va vb dl ca n cb dur ps (HD.out.below HB2.out) HDL.out (HP.out.below HB2.out) HL.out (by omega) hd1 HPD.out).mono ?_
  rintro e w3 ⟨v1, v2, dv, rfl, o3, b3⟩
  obtain ⟨a1, d1, rfl⟩ := o3.d.slice
  obtain ⟨a2, d2, rfl⟩ := o3.p.slice
  have HB3 : Hid (Below w.heap.size w w3) := HB2.out.trans (b3.mono HB2.out.size)
  have XR3 : Hid (BoxF w3 (w.heap.size + 1) (.slice none 0 0) (.slice none 0 0)) := XR2.out.below b3
  have s3 := b3.size
  have s2 := HB2.out.size
  have zr := XR2.out.1.1
  have O3 : Hid (OwnD w3 w2.heap.size w3.heap.size (.slice a1 dur.length d1) (.slice a2 ps.length d2) dur ps dv) := o3
  clear b3 o3 XA2 XR2 HB2 z1 c0 c1 t3 t3d t1 t1b
  go_wp2_with fail
  have CO : Hid (CopyAt (w3.alloc (.cells #[.slice a1 dur.length d1, .slice a2 ps.length d2] 32)) w2.heap.size w3.heap.size n (.slice a1 dur.length d1) (.slice a2 ps.length d2) dur qs dv) := by
    have B2 : Below w3.heap.size w3 (w3.alloc (.cells #[.slice a1 dur.length d1, .slice a2 ps.length d2] 32)) := (Below.refl _ _).alloc (Nat.le_refl _) _
    have o := O3.out
    refine ⟨BoxF.new _ _ _ _, by rw [HQ.out.2.2.2.2.1]; exact (o.below B2).mono (Nat.le_refl _) (by simp), ?_, ?_, ?_⟩
    · intro e; have := (o.d.lt _ e).2; omega
    · intro e; have := (World.ownsRow.lt o.p.1 _ e).2; omega
    · intro i hi e; have := ((o.p.2.1 i (by rw [HL.out]; exact hi)).lt _ e).2; omega
  have BO : Hid (Below w.heap.size w (w3.alloc (.cells #[.slice a1 dur.length d1, .slice a2 ps.length d2] 32))) := HB3.out.alloc HB3.out.size _
  have XRo : Hid (BoxF (w3.alloc (.cells #[.slice a1 dur.length d1, .slice a2 ps.length d2] 32)) (w.heap.size + 1) (.slice none 0 0) (.slice none 0 0)) := XR3.out.below ((Below.refl _ _).alloc (Nat.le_refl _) _)
  have so : (w3.alloc (.cells #[.slice a1 dur.length d1, .slice a2 ps.length d2] 32)).heap.size = w3.heap.size + 1 := by simp
  have HL2 : Hid (ps.length = n) := HL.out
  clear O3 HB3 XR3 HL HP HPD
  generalize w3.alloc (.cells #[.slice a1 dur.length d1, .slice a2 ps.length d2] 32) = wr at *
  obtain ⟨⟨z4, y0, y1⟩, -, y2⟩ := CO.out.box
  have HCL : Hid (Calls Try.prog 49 #[.slice vx 64 cx] wr.drew fun e w' => ∃ a c, e = .returned (.slice a xs.length c) ∧ Hid (Own .u8 5 w' wr.heap.size (.slice a xs.length c) xs) ∧
      w'.cell? ⟨w3.heap.size, 1, none⟩ = some (.slice a2 ps.length d2) ∧ w'.frozen? ⟨w3.heap.size, 1, none⟩ = false ∧ (w'.alloc (.cells #[.int .i64 x, .slice a xs.length c] 42)).cell? ⟨w3.heap.size, 1, none⟩ = some (.slice a2 ps.length d2) ∧ Hid (Below wr.heap.size wr w')) := by
    refine (l1Copy_any _ _ xs ((HX.out.below BO.out).drewN 1) (by have := HXL.out; omega)).mono ?_
    rintro e w' ⟨v', rfl, o', b'⟩
    obtain ⟨a, c, rfl⟩ := o'.slice
    have b2 : Below wr.heap.size wr w' := (below_drewN' _ 1).trans b'
    have k4 := (b2.cell (p := ⟨w3.heap.size, 1, none⟩) z4).trans y1
    exact ⟨a, c, rfl, o', k4, (b2.frozen (p := ⟨w3.heap.size, 1, none⟩) z4).trans y2, (World.cell?_alloc_some _ _ _ (by rw [k4]; rfl)).trans k4, b2⟩
  have HOW : Hid (∀ W' ob, Below wr.heap.size wr W' → (W'.alloc ob).ownsRow w2.heap.size 42 2 (.slice a2 ps.length d2) n (rowW n (pB qs) dv)) := by
    intro W' ob hW'
    have h0 := CO.out.own.p.1
    rw [HQ.out.2.2.2.2.1, HL2.out, show rowW n (pB ps) dv = rowW n (pB qs) dv from rowW_congr (fun i hi => (HQ.out.2.1 i hi).symm) (fun _ _ => rfl)] at h0
    rw [HL2.out]
    refine World.ownsRow.alloc (World.ownsRow.kept h0 (row := none) ⟨hW'.os, hW'.tape, hW'.output, hW'.size, fun q hq _ => hW'.block q hq⟩ ?_) ob
    cases Value.ownBlock (.slice a2 n d2) with
    | none => exact .inl rfl
    | some q => exact .inr (by simp)
  have HF4 : Hid (∀ W' W4 ob, Below wr.heap.size wr W' → (World.alloc W' ob).grownBy W4 (Value.ownBlock (.slice a2 ps.length d2)) → W4.cell? ⟨w3.heap.size, 1, none⟩ = some (.slice a2 ps.length d2) ∧ W4.frozen? ⟨w3.heap.size, 1, none⟩ = false) := by
    intro W' W4 ob hW' hG
    have hs := hW'.size
    have hp2 : w3.heap.size < (World.alloc W' ob).heap.size := by simp; omega
    have hb2 : Below wr.heap.size wr (World.alloc W' ob) := hW'.alloc hs _
    exact ⟨(hG.cell_far ⟨w3.heap.size, 1, none⟩ hp2 (Ne.symm CO.out.p)).trans ((hb2.cell (p := ⟨w3.heap.size, 1, none⟩) z4).trans y1), (hG.frozen_far ⟨w3.heap.size, 1, none⟩ hp2 (Ne.symm CO.out.p)).trans ((hb2.frozen (p := ⟨w3.heap.size, 1, none⟩) z4).trans y2)⟩
  have HEND : Hid (∀ (W' W4 : World) (ob : Obj) (g cap : Nat) (v : Value), Below wr.heap.size wr W' → Own .u8 5 W' wr.heap.size v xs → W4.ownsRow w2.heap.size 42 2 (.slice (some ⟨g, 0, none⟩) (n + 1) cap) (n + 1) (rowW n (pB qs) dv ++ [.int .i64 x, v]) → (W'.alloc ob).grownBy W4 (Value.ownBlock (.slice a2 ps.length d2)) → (Value.ownBlock (.slice a2 ps.length d2) = some g ∨ g = W'.heap.size + 1) →
      Hid (CopyAt (W4.setCell ⟨w3.heap.size, 1, none⟩ (.slice (some ⟨g, 0, none⟩) (n + 1) cap)) w2.heap.size w3.heap.size (n + 1) (.slice a1 dur.length d1) (.slice (some ⟨g, 0, none⟩) (n + 1) cap) dur qs (dvSet dv n v)) ∧ Hid (Below w2.heap.size wr (W4.setCell ⟨w3.heap.size, 1, none⟩ (.slice (some ⟨g, 0, none⟩) (n + 1) cap)))) := by
    intro W' W4 ob g cap v hW o4 r4 g4 at4
    have hs : w2.heap.size ≤ wr.heap.size := by omega
    refine ⟨CO.out.step (by rw [HQ.out.1]; omega) hs hW (by rw [HQ.out.2.2.2.1]; exact o4) (by rw [HQ.out.2.2.1]; exact r4) g4 at4, ?_⟩
    have := ((hW.mono hs).alloc (Nat.le_trans hs hW.size) ob).grown g4 (by have := hW.size; simp; omega) (fun q hq => (World.ownsRow.lt CO.out.own.p.1 q hq).1)
    exact this.setCell (by show w2.heap.size ≤ w3.heap.size; exact s3) _
  have hnum1 : n + 1 ≤ maxLen := by unfold maxLen; omega
  have hnum2 : (n + 1) * 32 ≤ 140737488355328 := by omega
  have hs2 : w2.heap.size ≤ wr.heap.size := by omega
  clear y0
  go_region_law (first
      | (refine step_append_lies _ (by rfl) _ _ _ (by rfl) w2.heap.size 42 i0 _ 2 32 Try.underlying30 hi hz0 hz1 hz2 rfl (by omega) (.slice a2 ps.length d2) n (rowW n (pB qs) dv) (by rfl) (HOW.out w' _ bw.out) ⟨w'.heap.size, 0, none⟩ 1 1 [.int .i64 x, .slice a xs.length c] (by rfl) (by rfl) (cell_two_new _ _ _ _) (by intro u hu; simp at hu; rcases hu with rfl | rfl <;> rfl)
          (by omega) hnum1 hnum2 (by have := bw.out.size; simp; omega) (w'.heap.size + 1) (by simp) ?_; intro g4 cap4 w4 ho4 hg4 hat4 hlt4; obtain ⟨q4, q5⟩ := HF4.out _ _ _ bw.out hg4)
      | (go_simp; go_at_call 49; refine HCL.out.mono ?_; rintro e w' ⟨a, c, rfl, o', k4, k5, k6, bw⟩))
  all_goals
    obtain ⟨C4, G4⟩ := HEND.out _ _ _ _ _ _ bw.out o'.out ho4 hg4 hat4
    clear ho4 hg4 hat4 hlt4 q4 q5 o' bw k4 k5 k6 HF4 HOW HCL HEND CO y1 y2
    generalize w4.setCell ⟨w3.heap.size, 1, none⟩ (.slice (some ⟨g4, 0, none⟩) (n + 1) cap4) = w5 at *
    obtain ⟨⟨z5, y0, y1⟩, -⟩ := C4.out.box
    obtain ⟨⟨z6, r0, r1⟩, f0, f1⟩ := XRo.out.belowB G4.out (by omega)
    have HB : Hid (Below w.heap.size w w5) := BO.out.trans (G4.out.mono s2)
    have OD : Hid (OwnD w5 w2.heap.size w5.heap.size (.slice a1 dur.length d1) (.slice (some ⟨g4, 0, none⟩) (n + 1) cap4) dur qs (dvSet dv n (.slice a xs.length c))) := by
      have := C4.out.own
      rw [HQ.out.2.2.2.2.2] at this
      exact this
    clear C4 G4
    go_wp2
    refine bodyPost_ret (v := .agg #[.slice a1 dur.length d1, .slice (some ⟨g4, 0, none⟩) (n + 1) cap4]) (by simp [results, Try.results16, go_sem, r0, r1]) rfl ⟨_, _, dvSet dv n (.slice a xs.length c), rfl, ?_, ?_⟩
    · refine OwnD.mono (lo := w2.heap.size) (hi := w5.heap.size) ?_ s2 (by simp)
      repeat (first | exact OD.out | refine OwnD.within (l := w.heap.size + 1) (h := w.heap.size + 2) ?_ (Within.setCell _ (Nat.le_refl _) (by omega) _ _) (.inr (by omega)))
    · repeat (first | exact HB.out | refine Below.setCell ?_ (by simp; try omega) _)

end Go.Proofs.Ytmgolinleiahpaa

namespace Go.Proofs.Ytmgolinleiahpaa
open Go.RowKit

set_option maxHeartbeats 1000000 in
set_option maxRecDepth 100000 in
theorem specWrite_no (w : World) (va vb vx : Option Addr) (dl ca n cb m cx : Nat) (ps : List (Int × List Int)) (x : Int) (hp : RdW w (.slice vb n cb) ps) (hl : ps.length = n)
    (hno : wrOk dl ps x m = false) (hn : n ≤ 1048576) (hd1 : dl ≤ 1048576) (hpd : ∀ i, (pD ps i).length ≤ 1048576) :
    Calls Try.prog 16 #[.agg #[.slice va dl ca, .slice vb n cb], .int .i64 x, .slice vx m cx] w fun e w' => e = .returned (.agg #[.slice none 0 0, .slice none 0 0]) ∧ Below w.heap.size w w' := by
  have HP : Hid (RdW w (.slice vb n cb) ps) := hp
  have HL : Hid (ps.length = n) := hl
  have HPD : Hid (∀ i, (pD ps i).length ≤ 1048576) := hpd
  have BA : Hid (∀ o1 o2, Below w.heap.size w ((w.alloc o1).alloc o2)) := fun o1 o2 => ((Below.refl _ _).alloc (Nat.le_refl _) _).alloc (by simp) _
  have HNO : Hid (wrOk dl ps x m = false) := hno
  clear hp hl hpd hno
  go_enter Try.func16, Try.ntmps16
  go_wp2_with fail
  have XA0 : Hid (BoxF ((w.alloc (.cells #[.slice va dl ca, .slice vb n cb] 32)).alloc (.cells #[.slice none 0 0, .slice none 0 0] 32)) w.heap.size (.slice va dl ca) (.slice vb n cb)) := (BoxF.new w _ _ _).below ((Below.refl _ _).alloc (Nat.le_refl _) _)
  have XR0 : Hid (BoxF ((w.alloc (.cells #[.slice va dl ca, .slice vb n cb] 32)).alloc (.cells #[.slice none 0 0, .slice none 0 0] 32)) (w.heap.size + 1) (.slice none 0 0) (.slice none 0 0)) := by
    have := BoxF.new (w.alloc (.cells #[.slice va dl ca, .slice vb n cb] 32)) (.slice none 0 0) (.slice none 0 0) 32
    show BoxF _ _ _ _
    simpa using this
  have B0 := BA.out (.cells #[.slice va dl ca, .slice vb n cb] 32) (.cells #[.slice none 0 0, .slice none 0 0] 32)
  have HB0 : Hid (Below w.heap.size w ((w.alloc (.cells #[.slice va dl ca, .slice vb n cb] 32)).alloc (.cells #[.slice none 0 0, .slice none 0 0] 32))) := B0
  clear B0 BA
  generalize (w.alloc (.cells #[.slice va dl ca, .slice vb n cb] 32)).alloc (.cells #[.slice none 0 0, .slice none 0 0] 32) = w0 at *
  refine (specValid_any _ va vb dl ca n cb ps (HP.out.below HB0.out) HL.out hd1 hn HPD.out).mono ?_
  rintro e w1 ⟨rfl, b1⟩
  have HB1 : Hid (Below w.heap.size w w1) := HB0.out.trans (b1.mono HB0.out.size)
  have XA1 : Hid (BoxF w1 w.heap.size (.slice va dl ca) (.slice vb n cb)) := XA0.out.below b1
  have XR1 : Hid (BoxF w1 (w.heap.size + 1) (.slice none 0 0) (.slice none 0 0)) := XR0.out.below b1
  clear b1 XA0 XR0 HB0
  obtain ⟨⟨z1, c0, c1⟩, -⟩ := XA1.out
  obtain ⟨⟨zr, d0, d1⟩, f0, f1⟩ := XR1.out
  by_cases hv : vldD dl ps = true
  · rw [hv]
    have HV : Hid (vldD dl ps = true) := hv
    have h2000 : n ≤ 2000 := by have := ((vldD_iff dl ps).1 hv).2.2.2.1; have := HL.out; omega
    clear hv
    by_cases t1 : (n : Int) = 2000
    · have t1b : ((n : Int) == 2000) = true := beq_iff_eq.2 t1
      clear h2000
      go_wp2
      refine bodyPost_ret (v := .agg #[.slice none 0 0, .slice none 0 0]) (by simp [results, Try.results16, go_sem, d0, d1]) rfl ⟨rfl, ?_⟩
      repeat (first | exact HB1.out | refine Below.setCell ?_ (by simp; try omega) _)
    · have t1b : ((n : Int) == 2000) = false := beq_false_of_ne t1
      have HT : Hid (n < 2000) := by show _ < _; omega
      clear h2000
      by_cases t2 : x < 0
      · have t2d : decide (x < 0) = true := by simpa using t2
        go_wp2
        refine bodyPost_ret (v := .agg #[.slice none 0 0, .slice none 0 0]) (by simp [results, Try.results16, go_sem, d0, d1]) rfl ⟨rfl, ?_⟩
        repeat (first | exact HB1.out | refine Below.setCell ?_ (by simp; try omega) _)
      · have t2d : decide (x < 0) = false := by simpa using t2
        go_wp2_with fail
        refine (l1Blocks_any _ va dl ca _ hd1).mono ?_
        rintro e w2 ⟨rfl, b2⟩
        have HB2 : Hid (Below w.heap.size w w2) := HB1.out.trans (b2.mono HB1.out.size)
        have XR2 : Hid (BoxF w2 (w.heap.size + 1) (.slice none 0 0) (.slice none 0 0)) := XR1.out.below b2
        clear b2 XA1 XR1 HB1 z1 c0 c1 zr d0 d1 f0 f1
        obtain ⟨⟨zr, d0, d1⟩, f0, f1⟩ := XR2.out
        by_cases t3 : ((dl / 64 : Nat) : Int) ≤ x
        · have t3d : decide (((dl / 64 : Nat) : Int) ≤ x) = true := by simpa using t3
          generalize ((dl / 64 : Nat) : Int) = q at *
          go_wp2
          refine bodyPost_ret (v := .agg #[.slice none 0 0, .slice none 0 0]) (by simp [results, Try.results16, go_sem, d0, d1]) rfl ⟨rfl, ?_⟩
          repeat (first | exact HB2.out | refine Below.setCell ?_ (by simp; try omega) _)
        · have hm64 : ¬ m = 64 := by
            intro e
            have h : wrOk dl ps x m = true := by
              unfold wrOk
              simp only [Bool.and_eq_true, decide_eq_true_eq]
              exact ⟨⟨⟨HV.out, by have := HL.out; have := HT.out; omega⟩, by omega, by omega⟩, e⟩
            rw [HNO.out] at h
            cases h
          have hmI : ¬ (m : Int) = 64 := by omega
          have hmb : ((m : Int) == 64) = false := beq_false_of_ne hmI
          have t3d : decide (((dl / 64 : Nat) : Int) ≤ x) = false := by simpa using t3
          generalize ((dl / 64 : Nat) : Int) = q at *
          go_wp2
          refine bodyPost_ret (v := .agg #[.slice none 0 0, .slice none 0 0]) (by simp [results, Try.results16, go_sem, d0, d1]) rfl ⟨rfl, ?_⟩
          repeat (first | exact HB2.out | refine Below.setCell ?_ (by simp; try omega) _)
  · have hv' : vldD dl ps = false := by simpa using hv
    rw [hv']
    clear hv hv'
    go_wp2
    refine bodyPost_ret (v := .agg #[.slice none 0 0, .slice none 0 0]) (by simp [results, Try.results16, go_sem, d0, d1]) rfl ⟨rfl, ?_⟩
    repeat (first | exact HB1.out | refine Below.setCell ?_ (by simp; try omega) _)

theorem specWrite_any (w : World) (v1 v2 v3 : Value) (dur xs : List Int) (ps : List (Int × List Int)) (x : Int) (hd : Rd .u8 w v1 dur) (hp : RdW w v2 ps) (hx : Rd .u8 w v3 xs) (hdl : dur.length ≤ 1048576) (hn : ps.length ≤ 1048576) (hpd : ∀ i, (pD ps i).length ≤ 1048576) :
    Calls Try.prog 16 #[.agg #[v1, v2], .int .i64 x, v3] w fun e w' => ∃ u1 u2 dv, e = .returned (.agg #[u1, u2]) ∧ OwnD w' w.heap.size w'.heap.size u1 u2 (wrDur dur ps x xs) (wrPend dur ps x xs) dv ∧ Below w.heap.size w w' := by
  obtain ⟨va, ca, rfl, -⟩ := hd.len
  obtain ⟨vx, cx, rfl, -⟩ := hx.len
  obtain ⟨vb, cb, rfl, -⟩ := id hp
  unfold wrDur wrPend
  cases h : wrOk dur.length ps x xs.length with
  | true =>
    simp only [if_true]
    unfold wrOk at h
    simp only [Bool.and_eq_true, decide_eq_true_eq] at h
    obtain ⟨⟨⟨h1, h2⟩, h3, h4⟩, h5⟩ := h
    rw [h5] at hx ⊢
    exact specWrite_yes w va vb vx dur.length ca ps.length cb cx dur xs ps x hd rfl hp rfl hx h5 h1 h2 h3 h4 hdl hpd
  | false =>
    simp only [Bool.false_eq_true, if_false]
    refine (specWrite_no w va vb vx dur.length ca ps.length cb xs.length cx ps x hp rfl h hn hdl hpd).mono ?_
    rintro e w' ⟨rfl, b⟩
    exact ⟨_, _, _, rfl, ownD_nil _ _ _, b⟩

end Go.Proofs.Ytmgolinleiahpaa

namespace Go.Proofs.Ytmgolinleiahpaa
open Go.RowKit

/-- A disk as lists. -/
abbrev Dk := List Int × List (Int × List Int)
def wrK (d : Dk) (x : Int) (xs : List Int) : Dk := (wrDur d.1 d.2 x xs, wrPend d.1 d.2 x xs)
def syK (d : Dk) : Dk := (syD d.1 d.2, [])
def good1 (q : Dk × Sr) : Nat → Dk × Sr
  | 0 => q
  | i + 1 => if 0 < ((good1 q i).2.next 3).1 then (wrK (good1 q i).1 (i : Int) ((good1 q i).2.next 3).2.fill.1, ((good1 q i).2.next 3).2.fill.2) else ((good1 q i).1, ((good1 q i).2.next 3).2)
def good2 (n : Nat) (q : Dk × Sr) : Nat → Dk × Sr
  | 0 => q
  | j + 1 => (wrK (good2 n q j).1 (((good2 n q j).2.next n).1 : Int) ((good2 n q j).2.next n).2.fill.1, ((good2 n q j).2.next n).2.fill.2)
/-- The drawn good disk. -/
def Sr.good1 (s : Sr) : Dk × Sr := Go.Proofs.Ytmgolinleiahpaa.good1 ((zeros ((1 + (s.next 5).1) * 64), []), (s.next 5).2) (1 + (s.next 5).1)
def Sr.good (s : Sr) : Dk × Sr := good2 (1 + (s.next 5).1) (syK s.good1.1, (s.good1.2.next (3 + s.good1.2.size)).2) (s.good1.2.next (3 + s.good1.2.size)).1
/-- A small disk. -/
def Sm (d : Dk) (a m : Nat) : Prop := d.1.length ≤ a ∧ d.2.length ≤ m ∧ ∀ i, (pD d.2 i).length ≤ 64
theorem Sm.write {d : Dk} {a m : Nat} (h : Sm d a m) (x : Int) (xs : List Int) (hx : xs.length = 64) : Sm (wrK d x xs) a (m + 1) := by
  obtain ⟨h1, h2, h3⟩ := h
  unfold wrK wrDur wrPend
  split
  · refine ⟨h1, by simp; omega, fun i => ?_⟩
    unfold pD
    by_cases hi : i < d.2.length
    · have := h3 i
      unfold pD at this
      simp only [List.getD] at this ⊢
      rw [List.getElem?_append_left hi]
      exact this
    · simp only [List.getD]
      rw [List.getElem?_append_right (by omega)]
      by_cases h0 : i - d.2.length = 0
      · rw [h0]; simp [hx]
      · rw [List.getElem?_eq_none (by simp; omega)]
        simp
  · exact ⟨Nat.zero_le _, Nat.zero_le _, fun i => by simp [pD]⟩
theorem Sm.mono {d : Dk} {a m m' : Nat} (h : Sm d a m) (hm : m ≤ m') : Sm d a m' := ⟨h.1, Nat.le_trans h.2.1 hm, h.2.2⟩
theorem Sm.sync {d : Dk} {a m : Nat} (h : Sm d a m) : Sm (syK d) a 0 := ⟨Nat.le_trans (syD_len _ _) h.1, Nat.le_refl _, fun i => by simp [pD, syK]⟩
theorem good1_sm (q : Dk × Sr) (a m : Nat) (h : Sm q.1 a m) : ∀ i, Sm (good1 q i).1 a (m + i)
  | 0 => h
  | i + 1 => by
    unfold good1
    split
    · exact (good1_sm q a m h i).write _ _ (Sr.fill_len _)
    · exact (good1_sm q a m h i).mono (by omega)
theorem good2_sm (n : Nat) (q : Dk × Sr) (a m : Nat) (h : Sm q.1 a m) : ∀ i, Sm (good2 n q i).1 a (m + i)
  | 0 => h
  | i + 1 => by
    unfold good2
    exact (good2_sm n q a m h i).write _ _ (Sr.fill_len _)

theorem OwnD.tch {w w' : World} {lo hi k : Nat} {u1 u2 : Value} {dur : List Int} {ps : List (Int × List Int)} {dv : Nat → Value} (h : OwnD w lo hi u1 u2 dur ps dv) (t : Tch k w w') (hk : k < lo) : OwnD w' lo hi u1 u2 dur ps dv :=
  ⟨h.d.tch t hk, ⟨rowTch h.p.1 t hk, fun i hi => (h.p.2.1 i hi).tch t hk, h.p.2.2⟩, h.dlt, h.plt, h.qlt, h.dp, h.dq⟩
theorem ownD_dur {w : World} {lo : Nat} {u : Value} {dur : List Int} (h : Own .u8 5 w lo u dur) : OwnD w lo w.heap.size u (.slice none 0 0) dur [] (fun _ => .slice none 0 0) :=
  ⟨h, ⟨World.ownsRow_nil _ _ _ _, fun i hi => by simp at hi, fun i j hi => by simp at hi, fun i hi => by simp at hi⟩, fun g hg => (h.lt g hg).2, fun g hg => by simp [Value.ownBlock] at hg, fun i hi => by simp at hi, .inl rfl, fun i hi => by simp at hi⟩

theorem BoxF.tch {w w' : World} {b k : Nat} {x y : Value} (h : BoxF w b x y) (t : Tch k w w') (hk : b ≠ k) : BoxF w' b x y := by
  obtain ⟨⟨h1, h2, h3⟩, h4, h5⟩ := h
  have e := t.2 b hk h1
  exact ⟨⟨Nat.lt_of_lt_of_le h1 t.size, (World.cell?_of_block (w := w) e).trans h2, (World.cell?_of_block (w := w) e).trans h3⟩, (World.frozen?_of_block (w := w) e).trans h4, (World.frozen?_of_block (w := w) e).trans h5⟩
theorem BoxF.set2 {w : World} {b : Nat} {x y : Value} (h : BoxF w b x y) (u v : Value) : BoxF ((w.setCell ⟨b, 0, none⟩ u).setCell ⟨b, 1, none⟩ v) b u v := by
  obtain ⟨⟨h1, h2, h3⟩, h4, h5⟩ := h
  refine ⟨⟨by simpa using h1, ?_, ?_⟩, ?_, ?_⟩
  · rw [World.cell?_setCell_other _ _ _ _ (by simp)]; exact World.cell?_setCell_same _ _ _ h2
  · exact World.cell?_setCell_same _ _ _ ((World.cell?_setCell_other _ _ _ _ (by simp)).trans h3)
  · rw [World.frozen?_setCell, World.frozen?_setCell]; exact h4
  · rw [World.frozen?_setCell, World.frozen?_setCell]; exact h5
theorem BoxF.off2 {w : World} {b c : Nat} {x y : Value} (h : BoxF w b x y) (hne : b ≠ c) (u v : Value) : BoxF ((w.setCell ⟨c, 0, none⟩ u).setCell ⟨c, 1, none⟩ v) b x y := by
  obtain ⟨⟨h1, h2, h3⟩, h4, h5⟩ := h
  have e : ∀ j, ((w.setCell ⟨c, 0, none⟩ u).setCell ⟨c, 1, none⟩ v).cell? ⟨b, j, none⟩ = w.cell? ⟨b, j, none⟩ := fun j => by
    rw [World.cell?_setCell_other _ _ _ _ (by intro e; injection e with e; exact hne (by first | exact e | exact e.symm)), World.cell?_setCell_other _ _ _ _ (by intro e; injection e with e; exact hne (by first | exact e | exact e.symm))]
  refine ⟨⟨by simpa using h1, (e 0).trans h2, (e 1).trans h3⟩, ?_, ?_⟩ <;> (rw [World.frozen?_setCell, World.frozen?_setCell]; assumption)
theorem OwnD.off2 {w : World} {lo hi b : Nat} {u1 u2 x y : Value} {dur : List Int} {ps : List (Int × List Int)} {dv : Nat → Value} (ho : OwnD w lo hi u1 u2 dur ps dv) (h1 : u1.ownBlock ≠ some b) (h2 : u2.ownBlock ≠ some b) (h3 : ∀ i, i < ps.length → (dv i).ownBlock ≠ some b) : OwnD ((w.setCell ⟨b, 0, none⟩ x).setCell ⟨b, 1, none⟩ y) lo hi u1 u2 dur ps dv := (ho.setOff (B := b) h1 h2 h3).setOff (B := b) h1 h2 h3
theorem OwnD.below2 {w : World} {lo hi b : Nat} {u1 u2 x y : Value} {dur : List Int} {ps : List (Int × List Int)} {dv : Nat → Value} (ho : OwnD w lo hi u1 u2 dur ps dv) (hb : b < lo) : OwnD ((w.setCell ⟨b, 0, none⟩ x).setCell ⟨b, 1, none⟩ y) lo hi u1 u2 dur ps dv :=
  ho.off2 (fun e => by have := (ho.d.lt b e).1; omega) (fun e => by have := (World.ownsRow.lt ho.p.1 b e).1; omega) (fun i hi e => by have := ((ho.p.2.1 i hi).lt b e).1; omega)

/-- What a call of l1DrawGood holds: its answer's box, its disk's box Bd, the disk as lists, the source. -/
structure GS (W : World) (k B Bd : Nat) (u1 u2 : Value) (dv : Nat → Value) (q : Dk × Sr) (w : World) : Prop where
  hB : W.heap.size + 1 ≤ Bd
  bW : B ≤ W.heap.size
  r : BoxF w W.heap.size (.slice none 0 0) (.slice none 0 0)
  bx : BoxF w Bd u1 u2
  own : OwnD w (W.heap.size + 1) w.heap.size u1 u2 q.1.1 q.1.2 dv
  o1 : u1.ownBlock ≠ some Bd
  o2 : u2.ownBlock ≠ some Bd
  o3 : ∀ i, i < q.1.2.length → (dv i).ownBlock ≠ some Bd
  src : SRX w k B q.2
  tch : Tch k W w
theorem GS.later {W w w' : World} {k B Bd : Nat} {u1 u2 : Value} {dv : Nat → Value} {q : Dk × Sr} (h : GS W k B Bd u1 u2 dv q w) (hb : Below w.heap.size w w') : GS W k B Bd u1 u2 dv q w' :=
  ⟨h.hB, h.bW, h.r.below hb, h.bx.below hb, (h.own.below hb).mono (Nat.le_refl _) hb.size, h.o1, h.o2, h.o3, h.src.keep (hb.mono h.src.lt), h.tch.then (hb.mono h.tch.size)⟩
theorem GS.next {W w w' : World} {k B Bd : Nat} {u1 u2 : Value} {dv : Nat → Value} {q : Dk × Sr} {s' : Sr} (h : GS W k B Bd u1 u2 dv q w) (hs : SRX w' k B s') (ht : Tch k w w') : GS W k B Bd u1 u2 dv (q.1, s') w' := by
  have h1 := h.src.kB
  have h2 := h.bW
  have h3 := h.hB
  exact ⟨h.hB, h.bW, h.r.tch ht (by omega), h.bx.tch ht (by omega), (h.own.tch ht (by omega)).mono (Nat.le_refl _) ht.size, h.o1, h.o2, h.o3, hs, h.tch.trans ht⟩
theorem GS.put {W w w' : World} {k B Bd : Nat} {u1 u2 v1 v2 : Value} {dv dv2 : Nat → Value} {q : Dk × Sr} {d1 : List Int} {d2 : List (Int × List Int)} (h : GS W k B Bd u1 u2 dv q w) (ho : OwnD w' w.heap.size w'.heap.size v1 v2 d1 d2 dv2) (hb : Below w.heap.size w w') :
    GS W k B Bd v1 v2 dv2 ((d1, d2), q.2) ((w'.setCell ⟨Bd, 0, none⟩ v1).setCell ⟨Bd, 1, none⟩ v2) := by
  have g := h.later hb
  have h1 := h.src.kB
  have h2 := h.bW
  have h3 := h.hB
  have h4 := h.bx.1.1
  have h5 := h.tch.size
  have e1 : v1.ownBlock ≠ some Bd := fun e => by have := (ho.d.lt Bd e).1; omega
  have e2 : v2.ownBlock ≠ some Bd := fun e => by have := (World.ownsRow.lt ho.p.1 Bd e).1; omega
  have e3 : ∀ i, i < d2.length → (dv2 i).ownBlock ≠ some Bd := fun i hi e => by have := ((ho.p.2.1 i hi).lt Bd e).1; omega
  have eb : Below Bd w' ((w'.setCell ⟨Bd, 0, none⟩ v1).setCell ⟨Bd, 1, none⟩ v2) := ((Below.refl Bd w').setCell (p := ⟨Bd, 0, none⟩) (Nat.le_refl Bd) _).setCell (p := ⟨Bd, 1, none⟩) (Nat.le_refl Bd) _
  refine ⟨h.hB, h.bW, g.r.off2 (by omega) _ _, g.bx.set2 _ _, ?_, e1, e2, e3, g.src.keep (eb.mono (by omega)), g.tch.then (eb.mono (by omega))⟩
  exact (ho.off2 e1 e2 e3).mono (by omega) (by simp)

set_option linter.unusedSimpArgs false in
set_option maxHeartbeats 2000000 in
set_option maxRecDepth 100000 in
theorem good_x (W : World) (k B : Nat) (s : Sr) (h : SRX W k B s) :
    Calls Try.prog 76 #[.pointer (some ⟨k, 0, none⟩)] W fun e w' => ∃ u1 u2 dv, e = .returned (.agg #[u1, u2]) ∧ OwnD w' W.heap.size w'.heap.size u1 u2 s.good.1.1 s.good.1.2 dv ∧ SRX w' k B s.good.2 ∧ Tch k W w' := by
  have hkB := h.kB
  have hBW := h.lt
  have HA : Hid (SRX (W.alloc (.cells #[.slice none 0 0, .slice none 0 0] 32)) k B s) := h.keep ((Below.refl _ _).alloc h.lt _)
  have BA : Hid (Below W.heap.size W (W.alloc (.cells #[.slice none 0 0, .slice none 0 0] 32))) := (Below.refl _ _).alloc (Nat.le_refl _) _
  have RA : Hid (BoxF (W.alloc (.cells #[.slice none 0 0, .slice none 0 0] 32)) W.heap.size (.slice none 0 0) (.slice none 0 0)) := BoxF.new _ _ _ _
  clear h
  go_enter Try.func76, Try.ntmps76
  go_wp2_with fail
  generalize W.alloc (.cells #[.slice none 0 0, .slice none 0 0] 32) = wA at *
  refine (next_x _ k B 5 s HA.out (by omega)).mono ?_
  rintro e w1 ⟨rfl, s1, t1⟩
  have hn1 := s.next_lt 5 (by omega)
  have HSG : Hid (s.good = good2 (1 + (s.next 5).1) (syK s.good1.1, (s.good1.2.next (3 + s.good1.2.size)).2) (s.good1.2.next (3 + s.good1.2.size)).1) := rfl
  have HSG1 : Hid (s.good1 = Go.Proofs.Ytmgolinleiahpaa.good1 ((zeros ((1 + (s.next 5).1) * 64), []), (s.next 5).2) (1 + (s.next 5).1)) := rfl
  generalize s.good1 = g1 at *
  generalize (s.next 5).2 = s2 at *
  generalize (s.next 5).1 = n1 at *
  have S1 : Hid (SRX w1 k B s2) := s1
  have T1 : Hid (Tch k W w1) := (Tch.of BA.out).trans t1
  have R1 : Hid (BoxF w1 W.heap.size (.slice none 0 0) (.slice none 0 0)) := RA.out.tch t1 (by omega)
  have z1 : W.heap.size + 1 ≤ w1.heap.size := R1.out.1.1
  clear s1 t1 HA BA RA
  obtain ⟨n, hn⟩ : ∃ n, n = 1 + n1 := ⟨_, rfl⟩
  rw [← hn] at HSG HSG1
  have HNN : Hid (n = 1 + n1) := hn
  clear hn
  go_wp2_with fail
  have hn := HNN.out
  rw [show 1 + (n1 : Int) = (n : Int) by omega]
  refine (specNewDisk_any _ (n : Int)).mono ?_
  rintro e w2 ⟨vd, rfl, od, bd⟩
  have hnd : ndl (n : Int) = n * 64 := by unfold ndl; rw [if_pos (by omega)]; omega
  rw [hnd] at od
  obtain ⟨ad, cd, hvd⟩ := od.slice
  rw [zeros_len] at hvd
  subst hvd
  have hn5 : n ≤ 5 := by omega
  have hn0 : 1 ≤ n := by omega
  clear hnd hn hn1
  have ba : Below w2.heap.size w2 (w2.alloc (.cells #[.slice ad (n * 64) cd, .slice none 0 0] 32)) := (Below.refl _ _).alloc (Nat.le_refl _) _
  have z2 := bd.size
  obtain ⟨Bd, hBd⟩ : ∃ Bd, Bd = w2.heap.size := ⟨_, rfl⟩
  have G0 : Hid (GS W k B Bd (.slice ad (n * 64) cd) (.slice none 0 0) (fun _ => .slice none 0 0) ((zeros (n * 64), []), s2) (w2.alloc (.cells #[.slice ad (n * 64) cd, .slice none 0 0] 32))) := by
    rw [hBd]
    have b2 := bd.trans (ba.mono z2)
    refine ⟨by omega, hBW, R1.out.below b2, BoxF.new _ _ _ _, (ownD_dur (od.below ba)).mono z1 (Nat.le_refl _), fun e => ?_, fun e => by simp [Value.ownBlock] at e, fun i hi => by simp at hi, S1.out.keep (b2.mono S1.out.lt), T1.out.then (b2.mono (by omega))⟩
    have := (od.lt _ e).2
    omega
  clear ba od bd S1 T1 R1
  go_wp2_with fail
  rw [← hBd]
  generalize w2.alloc (.cells #[.slice ad (n * 64) cd, .slice none 0 0] 32) = w3 at *
  refine (l1Blocks_any _ _ _ _ _ (by omega)).mono ?_
  rintro e w4 ⟨rfl, b4⟩
  have G1 : Hid (GS W k B Bd (.slice ad (n * 64) cd) (.slice none 0 0) (fun _ => .slice none 0 0) ((zeros (n * 64), []), s2) w4) := G0.out.later b4
  rw [show ((n * 64 / 64 : Nat) : Int) = (n : Int) by omega]
  clear b4 G0 hBd z2 z1
  obtain ⟨q0, hq0⟩ : ∃ q0 : Dk × Sr, q0 = ((zeros (n * 64), []), s2) := ⟨_, rfl⟩
  rw [← hq0] at HSG1
  have HM1 : Hid (∀ i, Sm (Go.Proofs.Ytmgolinleiahpaa.good1 q0 i).1 320 i) := fun i => by
    have := good1_sm q0 320 0 (by rw [hq0]; exact ⟨by rw [zeros_len]; omega, Nat.le_refl _, fun i => by simp [pD]⟩) i
    rwa [Nat.zero_add] at this
  rw [← hq0] at G1
  clear hq0
  go_wp2
  go_loopw [5] (fun vi wr => ∃ (i : Nat) (u1 u2 : Value) (dv : Nat → Value), i ≤ n ∧ vi = .int .i64 (i : Int) ∧ Hid (GS W k B Bd u1 u2 dv (Go.Proofs.Ytmgolinleiahpaa.good1 q0 i) wr)) (fun i _ => n - (intOf i).toNat)
  case atStart => exact ⟨0, _, _, _, Nat.zero_le _, rfl, G1⟩
  case round =>
    clear G1
    obtain ⟨i, u1, u2, dv, hi, rfl, HG⟩ := hrel
    by_cases hlt : i < n
    · have hltI : (i : Int) < (n : Int) := by omega
      have HM := HM1.out i
      have HE : Hid (Go.Proofs.Ytmgolinleiahpaa.good1 q0 (i + 1) = if 0 < ((Go.Proofs.Ytmgolinleiahpaa.good1 q0 i).2.next 3).1 then (wrK (Go.Proofs.Ytmgolinleiahpaa.good1 q0 i).1 (i : Int) ((Go.Proofs.Ytmgolinleiahpaa.good1 q0 i).2.next 3).2.fill.1, ((Go.Proofs.Ytmgolinleiahpaa.good1 q0 i).2.next 3).2.fill.2) else ((Go.Proofs.Ytmgolinleiahpaa.good1 q0 i).1, ((Go.Proofs.Ytmgolinleiahpaa.good1 q0 i).2.next 3).2)) := rfl
      generalize Go.Proofs.Ytmgolinleiahpaa.good1 q0 i = q at *
      replace HM : Hid (Sm q.1 320 i) := HM
      go_wp2_with fail
      refine (next_x _ k B 3 _ HG.out.src (by omega)).mono ?_
      rintro e w1 ⟨rfl, sf, tf⟩
      have G := HG.out.next sf tf
      clear sf tf HG
      generalize (q.2.next 3).2 = s3 at *
      generalize (q.2.next 3).1 = m at *
      by_cases hm : 0 < m
      · have hmI : (0 : Int) < (m : Int) := by omega
        have HN2 : Hid (∀ u1 u2 dv w, GS W k B Bd u1 u2 dv (wrK q.1 (i : Int) s3.fill.1, s3.fill.2) w → GS W k B Bd u1 u2 dv (Go.Proofs.Ytmgolinleiahpaa.good1 q0 (i + 1)) w) := by
          intro u1 u2 dv w hh
          rw [HE.out, if_pos hm]
          exact hh
        clear HE
        go_wp2_with fail
        refine wp_region_held_drew (S := fun _ => True) (by kernel_rfl) trivial (fun hHeld => ?_)
        replace G := G.later (below_drewN' w1 1)
        change GS W k B Bd u1 u2 dv _ w1.drew at G
        generalize w1.drew = P0 at *
        refine wpAnyH_take (i := 1) (oi := { dst := some 22, op := _, type := _, pos := _, after := _, guard := _ }) (v := (.int .i64 (i : Int))) rfl (by kernel_rfl) (by kernel_rfl) (by kernel_rfl) (fun _ _ _ h => h) (Or.inl ⟨by rfl, ?hy1⟩) (by assumption) ?rest1
        case hy1 =>
          intro w9 hS9
          go_simp
        try simp only [Act.put, List.setIfInBounds_toArray, List.set_cons_zero, List.set_cons_succ]
        refine wpAnyH_take (i := 2) (oi := { dst := some 23, op := _, type := _, pos := _, after := _, guard := _ }) (v := (.pointer (some ⟨k, 0, none⟩))) rfl (by kernel_rfl) (by kernel_rfl) (by kernel_rfl) (fun _ _ _ h => h) (Or.inl ⟨by rfl, ?hy2⟩) (by assumption) ?rest2
        case hy2 =>
          intro w9 hS9
          go_simp
        try simp only [Act.put, List.setIfInBounds_toArray, List.set_cons_zero, List.set_cons_succ]
        refine wpAnyH_ready (rs := [0, 3]) (by kernel_rfl) (by simp) ?_
        refine (AllReadyH.cons (o := { dst := some 21, op := _, type := _, pos := _, after := _, guard := _ }) rfl (fun K hK => ?_) (AllReadyH.cons (o := { dst := some 24, op := _, type := _, pos := _, after := _, guard := _ }) rfl (fun K hK => ?_) AllReadyH.nil))
        · obtain ⟨⟨zb, cb0, cb1⟩, -⟩ := G.bx
          go_simp
          clear zb cb0 cb1
          refine hK.out _ _ trivial (fun hx9 => ?_)
          clear hK K hx9
          try simp only [Act.put, List.setIfInBounds_toArray, List.set_cons_zero, List.set_cons_succ]
          refine wpAnyH_ready (rs := [3]) (by kernel_rfl) (by simp) ?_
          refine (AllReadyH.cons (o := { dst := some 24, op := _, type := _, pos := _, after := _, guard := _ }) rfl (fun K hK => ?_) AllReadyH.nil)
          go_simp
          refine (fill_x P0 k B _ G.src).mono ?_
          rintro e P1 ⟨vf, rfl, OF, sf, tf⟩
          replace G := G.next sf tf
          clear sf tf
          obtain ⟨af, cf, hvf⟩ := OF.slice
          subst hvf
          refine hK.out _ _ trivial (fun hx9 => ?_)
          clear hK K hx9
          try simp only [Act.put, List.setIfInBounds_toArray, List.set_cons_zero, List.set_cons_succ]
          refine wpAnyH_ready (rs := [4]) (by kernel_rfl) (by simp) ?_
          refine (AllReadyH.cons (o := { dst := some 25, op := _, type := _, pos := _, after := _, guard := _ }) rfl (fun K hK => ?_) AllReadyH.nil)
          go_simp
          refine (specWrite_any P1 _ _ _ _ _ _ _ G.own.d.rd G.own.p.rd OF.rd (Nat.le_trans HM.out.1 (by omega)) (Nat.le_trans HM.out.2.1 (by omega)) (fun i => Nat.le_trans (HM.out.2.2 i) (by omega))).mono ?_
          rintro e P2 ⟨v1, v2, dv2, rfl, od, bb⟩
          obtain ⟨a1, c1, hv1⟩ := od.d.slice
          obtain ⟨a2, c2, hv2⟩ := od.p.slice
          subst hv1 hv2
          have GP := G.put od bb
          have GL := G.bx.below bb
          refine hK.out _ _ trivial (fun hx9 => ?_)
          clear hK K hx9
          try simp only [Act.put, List.setIfInBounds_toArray, List.set_cons_zero, List.set_cons_succ]
          refine wpAnyH_ready (rs := [5]) (by kernel_rfl) (by simp) ?_
          refine (AllReadyH.cons (o := { dst := none, op := _, type := _, pos := _, after := _, guard := _ }) rfl (fun K hK => ?_) AllReadyH.nil)
          obtain ⟨⟨zb, cb0, cb1⟩, fb0, fb1⟩ := GL
          go_simp
          clear zb cb0 cb1 fb0 fb1
          refine hK.out _ _ trivial (fun hx9 => ?_)
          clear hK K hx9
          try simp only [Act.put, List.setIfInBounds_toArray, List.set_cons_zero, List.set_cons_succ]
          refine wpAnyH_done (by kernel_rfl) ?_ _
          clear hHeld od bb OF G
          have HG2 : Hid (GS W k B Bd (.slice a1 _ c1) (.slice a2 _ c2) dv2 (Go.Proofs.Ytmgolinleiahpaa.good1 q0 (i + 1)) _) := HN2.out _ _ _ _ GP
          clear GP
          go_wp2
          exact ⟨⟨i + 1, _, _, _, by omega, by go_num, HG2⟩, by simp [intOf]; omega⟩
        · go_simp
          refine (fill_x P0 k B _ G.src).mono ?_
          rintro e P3 ⟨vf, rfl, OF, sf, tf⟩
          replace G := G.next sf tf
          clear sf tf
          obtain ⟨af, cf, hvf⟩ := OF.slice
          subst hvf
          refine hK.out _ _ trivial (fun hx9 => ?_)
          clear hK K hx9
          try simp only [Act.put, List.setIfInBounds_toArray, List.set_cons_zero, List.set_cons_succ]
          refine wpAnyH_ready (rs := [0]) (by kernel_rfl) (by simp) ?_
          refine (AllReadyH.cons (o := { dst := some 21, op := _, type := _, pos := _, after := _, guard := _ }) rfl (fun K hK => ?_) AllReadyH.nil)
          obtain ⟨⟨zb, cb0, cb1⟩, -⟩ := G.bx
          go_simp
          clear zb cb0 cb1
          refine hK.out _ _ trivial (fun hx9 => ?_)
          clear hK K hx9
          try simp only [Act.put, List.setIfInBounds_toArray, List.set_cons_zero, List.set_cons_succ]
          refine wpAnyH_ready (rs := [4]) (by kernel_rfl) (by simp) ?_
          refine (AllReadyH.cons (o := { dst := some 25, op := _, type := _, pos := _, after := _, guard := _ }) rfl (fun K hK => ?_) AllReadyH.nil)
          go_simp
          refine (specWrite_any P3 _ _ _ _ _ _ _ G.own.d.rd G.own.p.rd OF.rd (Nat.le_trans HM.out.1 (by omega)) (Nat.le_trans HM.out.2.1 (by omega)) (fun i => Nat.le_trans (HM.out.2.2 i) (by omega))).mono ?_
          rintro e P4 ⟨v1, v2, dv2, rfl, od, bb⟩
          obtain ⟨a1, c1, hv1⟩ := od.d.slice
          obtain ⟨a2, c2, hv2⟩ := od.p.slice
          subst hv1 hv2
          have GP := G.put od bb
          have GL := G.bx.below bb
          refine hK.out _ _ trivial (fun hx9 => ?_)
          clear hK K hx9
          try simp only [Act.put, List.setIfInBounds_toArray, List.set_cons_zero, List.set_cons_succ]
          refine wpAnyH_ready (rs := [5]) (by kernel_rfl) (by simp) ?_
          refine (AllReadyH.cons (o := { dst := none, op := _, type := _, pos := _, after := _, guard := _ }) rfl (fun K hK => ?_) AllReadyH.nil)
          obtain ⟨⟨zb, cb0, cb1⟩, fb0, fb1⟩ := GL
          go_simp
          clear zb cb0 cb1 fb0 fb1
          refine hK.out _ _ trivial (fun hx9 => ?_)
          clear hK K hx9
          try simp only [Act.put, List.setIfInBounds_toArray, List.set_cons_zero, List.set_cons_succ]
          refine wpAnyH_done (by kernel_rfl) ?_ _
          clear hHeld od bb OF G
          have HG2 : Hid (GS W k B Bd (.slice a1 _ c1) (.slice a2 _ c2) dv2 (Go.Proofs.Ytmgolinleiahpaa.good1 q0 (i + 1)) _) := HN2.out _ _ _ _ GP
          clear GP
          go_wp2
          exact ⟨⟨i + 1, _, _, _, by omega, by go_num, HG2⟩, by simp [intOf]; omega⟩
      · have hmI : ¬ (0 : Int) < (m : Int) := by omega
        have HG2 : Hid (GS W k B Bd u1 u2 dv (Go.Proofs.Ytmgolinleiahpaa.good1 q0 (i + 1)) w1) := by
          rw [HE.out, if_neg hm]
          exact G
        clear G HE
        go_wp2
        exact ⟨⟨i + 1, _, _, _, by omega, by go_num, HG2⟩, by simp [intOf]; omega⟩
    · have hin : i = n := by omega
      subst hin
      rw [← HSG1.out] at HG
      have HM : Hid (Sm g1.1 320 i) := by rw [HSG1.out]; exact HM1.out i
      clear HM1 HSG1
      obtain ⟨⟨zb, cb0, cb1⟩, fb0, fb1⟩ := HG.out.bx
      go_wp2_with fail
      clear zb cb0 cb1 fb0 fb1
      refine (specSync_any _ _ _ _ _ HG.out.own.d.rd HG.out.own.p.rd (by have := HM.out.1; omega) (by have := HM.out.2.1; omega) (fun i => by have := HM.out.2.2 i; omega)).mono ?_
      rintro e w5 ⟨v5, rfl, o5, b5⟩
      obtain ⟨a5, c5, hv5⟩ := o5.slice
      subst hv5
      have G5 := HG.out.put (ownD_dur o5) b5
      obtain ⟨⟨zb, cb0, cb1⟩, fb0, fb1⟩ := HG.out.bx.below b5
      have HG5 : Hid (GS W k B Bd (.slice a5 (syD g1.1.1 g1.1.2).length c5) (.slice none 0 0) (fun _ => .slice none 0 0) (syK g1.1, g1.2) ((w5.setCell ⟨Bd, 0, none⟩ (.slice a5 (syD g1.1.1 g1.1.2).length c5)).setCell ⟨Bd, 1, none⟩ (.slice none 0 0))) := G5
      have hc3 := (HG.out.later b5).src.c3
      have hsz := G5.src.sz
      have hkb : k ≠ Bd := by have := HG.out.hB; omega
      have hkb2 : Bd ≠ k := fun e => hkb e.symm
      clear o5 b5 HG G5
      go_wp2_with fail
      generalize (w5.setCell ⟨Bd, 0, none⟩ (.slice a5 (syD g1.1.1 g1.1.2).length c5)).setCell ⟨Bd, 1, none⟩ (.slice none 0 0) = w6 at *
      clear zb cb0 cb1 fb0 fb1 hc3 hkb hkb2
      have hn3 := g1.2.next_lt (3 + g1.2.size) (by omega)
      have hx := next_x w6 k B (3 + g1.2.size) _ HG5.out.src (by omega)
      rw [show ((3 + g1.2.size : Nat) : Int) = 3 + (g1.2.size : Int) by omega] at hx
      refine hx.mono ?_
      clear hx
      rintro e w7 ⟨rfl, sf, tf⟩
      have HG7 : Hid (GS W k B Bd (.slice a5 (syD g1.1.1 g1.1.2).length c5) (.slice none 0 0) (fun _ => .slice none 0 0) (syK g1.1, (g1.2.next (3 + g1.2.size)).2) w7) := HG5.out.next sf tf
      have hn10 : (g1.2.next (3 + g1.2.size)).1 ≤ 10 := by omega
      clear sf tf HG5 hn3 hsz
      generalize (g1.2.next (3 + g1.2.size)).1 = N at *
      obtain ⟨q2, hq2⟩ : ∃ q2 : Dk × Sr, q2 = (syK g1.1, (g1.2.next (3 + g1.2.size)).2) := ⟨_, rfl⟩
      have HM2 : Hid (∀ j, Sm (good2 i q2 j).1 320 j) := fun j => by
        have := good2_sm i q2 320 0 (by rw [hq2]; exact HM.out.sync) j
        rwa [Nat.zero_add] at this
      rw [← hq2] at HG7 HSG
      clear hq2 HM
      generalize hin : i = n at *
      clear hin
      go_wp2
      go_loopw [6] (fun vi wr => ∃ (j : Nat) (u1 u2 : Value) (dv : Nat → Value), j ≤ N ∧ vi = .int .i64 ((N - j : Nat) : Int) ∧ Hid (GS W k B Bd u1 u2 dv (good2 n q2 j) wr)) (fun i _ => (intOf i).toNat)
      case atStart => exact ⟨0, _, _, _, Nat.zero_le _, rfl, HG7⟩
      case round =>
        clear HG7
        obtain ⟨j, u1, u2, dv, hj, rfl, HG⟩ := hrel
        by_cases hlt : j < N
        · obtain ⟨r, hr⟩ : ∃ r, N - j = r + 1 := ⟨N - j - 1, by omega⟩
          have HR : Hid (N - (j + 1) = r) := by show _ = _; omega
          rw [hr]
          have hltI : (0 : Int) < ((r + 1 : Nat) : Int) := by omega
          have hr10 : r ≤ 10 := by omega
          have HM := HM2.out j
          have HE : Hid (good2 n q2 (j + 1) = (wrK (good2 n q2 j).1 (((good2 n q2 j).2.next n).1 : Int) ((good2 n q2 j).2.next n).2.fill.1, ((good2 n q2 j).2.next n).2.fill.2)) := rfl
          generalize good2 n q2 j = q at *
          have HN2 : Hid (∀ u1 u2 dv w, GS W k B Bd u1 u2 dv (wrK q.1 ((q.2.next n).1 : Int) (q.2.next n).2.fill.1, (q.2.next n).2.fill.2) w → GS W k B Bd u1 u2 dv (good2 n q2 (j + 1)) w) := by
            intro u1 u2 dv w hh
            rw [HE.out]
            exact hh
          clear HE
          replace HM : Hid (Sm q.1 320 j) := HM
          have hj10 : j ≤ 10 := by omega
          have G := HG.out
          have HJ : Hid (N - j = r + 1) := hr
          clear HG hr
          go_wp2_with fail
          refine wp_region_held_drew (S := fun _ => True) (by kernel_rfl) trivial (fun hHeld => ?_)
          replace G := G.later (below_drewN' wr 1)
          change GS W k B Bd u1 u2 dv _ wr.drew at G
          generalize wr.drew = P0 at *
          refine wpAnyH_take (i := 1) (oi := { dst := some 40, op := _, type := _, pos := _, after := _, guard := _ }) (v := (.pointer (some ⟨k, 0, none⟩))) rfl (by kernel_rfl) (by kernel_rfl) (by kernel_rfl) (fun _ _ _ h => h) (Or.inl ⟨by rfl, ?hy3⟩) (by assumption) ?rest3
          case hy3 =>
            intro w9 hS9
            go_simp
          try simp only [Act.put, List.setIfInBounds_toArray, List.set_cons_zero, List.set_cons_succ]
          refine wpAnyH_take (i := 2) (oi := { dst := some 41, op := _, type := _, pos := _, after := _, guard := _ }) (v := (.int .i64 (n : Int))) rfl (by kernel_rfl) (by kernel_rfl) (by kernel_rfl) (fun _ _ _ h => h) (Or.inl ⟨by rfl, ?hy4⟩) (by assumption) ?rest4
          case hy4 =>
            intro w9 hS9
            go_simp
          try simp only [Act.put, List.setIfInBounds_toArray, List.set_cons_zero, List.set_cons_succ]
          refine wpAnyH_take (i := 4) (oi := { dst := some 43, op := _, type := _, pos := _, after := _, guard := _ }) (v := (.pointer (some ⟨k, 0, none⟩))) rfl (by kernel_rfl) (by kernel_rfl) (by kernel_rfl) (fun _ _ _ h => h) (Or.inl ⟨by rfl, ?hy5⟩) (by assumption) ?rest5
          case hy5 =>
            intro w9 hS9
            go_simp
          try simp only [Act.put, List.setIfInBounds_toArray, List.set_cons_zero, List.set_cons_succ]
          refine wpAnyH_ready (rs := [0, 3]) (by kernel_rfl) (by simp) ?_
          refine (AllReadyH.cons (o := { dst := some 39, op := _, type := _, pos := _, after := _, guard := _ }) rfl (fun K hK => ?_) (AllReadyH.cons (o := { dst := some 42, op := _, type := _, pos := _, after := _, guard := _ }) rfl (fun K hK => ?_) AllReadyH.nil))
          · obtain ⟨⟨zb, cb0, cb1⟩, -⟩ := G.bx
            go_simp
            clear zb cb0 cb1
            refine hK.out _ _ trivial (fun hx9 => ?_)
            clear hK K hx9
            try simp only [Act.put, List.setIfInBounds_toArray, List.set_cons_zero, List.set_cons_succ]
            refine wpAnyH_ready (rs := [3]) (by kernel_rfl) (by simp) ?_
            refine (AllReadyH.cons (o := { dst := some 42, op := _, type := _, pos := _, after := _, guard := _ }) rfl (fun K hK => ?_) AllReadyH.nil)
            go_simp
            refine (next_x P0 k B n _ G.src (by omega)).mono ?_
            rintro e P1 ⟨rfl, sf, tf⟩
            replace G := G.next sf tf
            clear sf tf
            refine hK.out _ _ trivial (fun hx9 => ?_)
            clear hK K hx9
            try simp only [Act.put, List.setIfInBounds_toArray, List.set_cons_zero, List.set_cons_succ]
            refine wpAnyH_ready (rs := [5]) (by kernel_rfl) (by simp) ?_
            refine (AllReadyH.cons (o := { dst := some 44, op := _, type := _, pos := _, after := _, guard := _ }) rfl (fun K hK => ?_) AllReadyH.nil)
            go_simp
            refine (fill_x P1 k B _ G.src).mono ?_
            rintro e P2 ⟨vf, rfl, OF, sf, tf⟩
            replace G := G.next sf tf
            clear sf tf
            obtain ⟨af, cf, hvf⟩ := OF.slice
            subst hvf
            refine hK.out _ _ trivial (fun hx9 => ?_)
            clear hK K hx9
            try simp only [Act.put, List.setIfInBounds_toArray, List.set_cons_zero, List.set_cons_succ]
            refine wpAnyH_ready (rs := [6]) (by kernel_rfl) (by simp) ?_
            refine (AllReadyH.cons (o := { dst := some 45, op := _, type := _, pos := _, after := _, guard := _ }) rfl (fun K hK => ?_) AllReadyH.nil)
            go_simp
            refine (specWrite_any P2 _ _ _ _ _ _ _ G.own.d.rd G.own.p.rd OF.rd (Nat.le_trans HM.out.1 (by omega)) (Nat.le_trans HM.out.2.1 (by omega)) (fun i => Nat.le_trans (HM.out.2.2 i) (by omega))).mono ?_
            rintro e P3 ⟨v1, v2, dv2, rfl, od, bb⟩
            obtain ⟨a1, c1, hv1⟩ := od.d.slice
            obtain ⟨a2, c2, hv2⟩ := od.p.slice
            subst hv1 hv2
            have GP := G.put od bb
            have GL := G.bx.below bb
            refine hK.out _ _ trivial (fun hx9 => ?_)
            clear hK K hx9
            try simp only [Act.put, List.setIfInBounds_toArray, List.set_cons_zero, List.set_cons_succ]
            refine wpAnyH_ready (rs := [7]) (by kernel_rfl) (by simp) ?_
            refine (AllReadyH.cons (o := { dst := none, op := _, type := _, pos := _, after := _, guard := _ }) rfl (fun K hK => ?_) AllReadyH.nil)
            obtain ⟨⟨zb, cb0, cb1⟩, fb0, fb1⟩ := GL
            go_simp
            clear zb cb0 cb1 fb0 fb1
            refine hK.out _ _ trivial (fun hx9 => ?_)
            clear hK K hx9
            try simp only [Act.put, List.setIfInBounds_toArray, List.set_cons_zero, List.set_cons_succ]
            refine wpAnyH_done (by kernel_rfl) ?_ _
            clear hHeld od bb OF G
            have HG2 : Hid (GS W k B Bd (.slice a1 _ c1) (.slice a2 _ c2) dv2 (good2 n q2 (j + 1)) _) := HN2.out _ _ _ _ GP
            clear GP
            go_wp2
            exact ⟨⟨j + 1, _, _, _, by omega, by rw [HR.out], HG2⟩, by simp [intOf]⟩
          · go_simp
            refine (next_x P0 k B n _ G.src (by omega)).mono ?_
            rintro e P4 ⟨rfl, sf, tf⟩
            replace G := G.next sf tf
            clear sf tf
            refine hK.out _ _ trivial (fun hx9 => ?_)
            clear hK K hx9
            try simp only [Act.put, List.setIfInBounds_toArray, List.set_cons_zero, List.set_cons_succ]
            refine wpAnyH_ready (rs := [0, 5]) (by kernel_rfl) (by simp) ?_
            refine (AllReadyH.cons (o := { dst := some 39, op := _, type := _, pos := _, after := _, guard := _ }) rfl (fun K hK => ?_) (AllReadyH.cons (o := { dst := some 44, op := _, type := _, pos := _, after := _, guard := _ }) rfl (fun K hK => ?_) AllReadyH.nil))
            · obtain ⟨⟨zb, cb0, cb1⟩, -⟩ := G.bx
              go_simp
              clear zb cb0 cb1
              refine hK.out _ _ trivial (fun hx9 => ?_)
              clear hK K hx9
              try simp only [Act.put, List.setIfInBounds_toArray, List.set_cons_zero, List.set_cons_succ]
              refine wpAnyH_ready (rs := [5]) (by kernel_rfl) (by simp) ?_
              refine (AllReadyH.cons (o := { dst := some 44, op := _, type := _, pos := _, after := _, guard := _ }) rfl (fun K hK => ?_) AllReadyH.nil)
              go_simp
              refine (fill_x P4 k B _ G.src).mono ?_
              rintro e P5 ⟨vf, rfl, OF, sf, tf⟩
              replace G := G.next sf tf
              clear sf tf
              obtain ⟨af, cf, hvf⟩ := OF.slice
              subst hvf
              refine hK.out _ _ trivial (fun hx9 => ?_)
              clear hK K hx9
              try simp only [Act.put, List.setIfInBounds_toArray, List.set_cons_zero, List.set_cons_succ]
              refine wpAnyH_ready (rs := [6]) (by kernel_rfl) (by simp) ?_
              refine (AllReadyH.cons (o := { dst := some 45, op := _, type := _, pos := _, after := _, guard := _ }) rfl (fun K hK => ?_) AllReadyH.nil)
              go_simp
              refine (specWrite_any P5 _ _ _ _ _ _ _ G.own.d.rd G.own.p.rd OF.rd (Nat.le_trans HM.out.1 (by omega)) (Nat.le_trans HM.out.2.1 (by omega)) (fun i => Nat.le_trans (HM.out.2.2 i) (by omega))).mono ?_
              rintro e P6 ⟨v1, v2, dv2, rfl, od, bb⟩
              obtain ⟨a1, c1, hv1⟩ := od.d.slice
              obtain ⟨a2, c2, hv2⟩ := od.p.slice
              subst hv1 hv2
              have GP := G.put od bb
              have GL := G.bx.below bb
              refine hK.out _ _ trivial (fun hx9 => ?_)
              clear hK K hx9
              try simp only [Act.put, List.setIfInBounds_toArray, List.set_cons_zero, List.set_cons_succ]
              refine wpAnyH_ready (rs := [7]) (by kernel_rfl) (by simp) ?_
              refine (AllReadyH.cons (o := { dst := none, op := _, type := _, pos := _, after := _, guard := _ }) rfl (fun K hK => ?_) AllReadyH.nil)
              obtain ⟨⟨zb, cb0, cb1⟩, fb0, fb1⟩ := GL
              go_simp
              clear zb cb0 cb1 fb0 fb1
              refine hK.out _ _ trivial (fun hx9 => ?_)
              clear hK K hx9
              try simp only [Act.put, List.setIfInBounds_toArray, List.set_cons_zero, List.set_cons_succ]
              refine wpAnyH_done (by kernel_rfl) ?_ _
              clear hHeld od bb OF G
              have HG2 : Hid (GS W k B Bd (.slice a1 _ c1) (.slice a2 _ c2) dv2 (good2 n q2 (j + 1)) _) := HN2.out _ _ _ _ GP
              clear GP
              go_wp2
              exact ⟨⟨j + 1, _, _, _, by omega, by rw [HR.out], HG2⟩, by simp [intOf]⟩
            · go_simp
              refine (fill_x P4 k B _ G.src).mono ?_
              rintro e P7 ⟨vf, rfl, OF, sf, tf⟩
              replace G := G.next sf tf
              clear sf tf
              obtain ⟨af, cf, hvf⟩ := OF.slice
              subst hvf
              refine hK.out _ _ trivial (fun hx9 => ?_)
              clear hK K hx9
              try simp only [Act.put, List.setIfInBounds_toArray, List.set_cons_zero, List.set_cons_succ]
              refine wpAnyH_ready (rs := [0]) (by kernel_rfl) (by simp) ?_
              refine (AllReadyH.cons (o := { dst := some 39, op := _, type := _, pos := _, after := _, guard := _ }) rfl (fun K hK => ?_) AllReadyH.nil)
              obtain ⟨⟨zb, cb0, cb1⟩, -⟩ := G.bx
              go_simp
              clear zb cb0 cb1
              refine hK.out _ _ trivial (fun hx9 => ?_)
              clear hK K hx9
              try simp only [Act.put, List.setIfInBounds_toArray, List.set_cons_zero, List.set_cons_succ]
              refine wpAnyH_ready (rs := [6]) (by kernel_rfl) (by simp) ?_
              refine (AllReadyH.cons (o := { dst := some 45, op := _, type := _, pos := _, after := _, guard := _ }) rfl (fun K hK => ?_) AllReadyH.nil)
              go_simp
              refine (specWrite_any P7 _ _ _ _ _ _ _ G.own.d.rd G.own.p.rd OF.rd (Nat.le_trans HM.out.1 (by omega)) (Nat.le_trans HM.out.2.1 (by omega)) (fun i => Nat.le_trans (HM.out.2.2 i) (by omega))).mono ?_
              rintro e P8 ⟨v1, v2, dv2, rfl, od, bb⟩
              obtain ⟨a1, c1, hv1⟩ := od.d.slice
              obtain ⟨a2, c2, hv2⟩ := od.p.slice
              subst hv1 hv2
              have GP := G.put od bb
              have GL := G.bx.below bb
              refine hK.out _ _ trivial (fun hx9 => ?_)
              clear hK K hx9
              try simp only [Act.put, List.setIfInBounds_toArray, List.set_cons_zero, List.set_cons_succ]
              refine wpAnyH_ready (rs := [7]) (by kernel_rfl) (by simp) ?_
              refine (AllReadyH.cons (o := { dst := none, op := _, type := _, pos := _, after := _, guard := _ }) rfl (fun K hK => ?_) AllReadyH.nil)
              obtain ⟨⟨zb, cb0, cb1⟩, fb0, fb1⟩ := GL
              go_simp
              clear zb cb0 cb1 fb0 fb1
              refine hK.out _ _ trivial (fun hx9 => ?_)
              clear hK K hx9
              try simp only [Act.put, List.setIfInBounds_toArray, List.set_cons_zero, List.set_cons_succ]
              refine wpAnyH_done (by kernel_rfl) ?_ _
              clear hHeld od bb OF G
              have HG2 : Hid (GS W k B Bd (.slice a1 _ c1) (.slice a2 _ c2) dv2 (good2 n q2 (j + 1)) _) := HN2.out _ _ _ _ GP
              clear GP
              go_wp2
              exact ⟨⟨j + 1, _, _, _, by omega, by rw [HR.out], HG2⟩, by simp [intOf]⟩
        · have hjn : j = N := by omega
          subst hjn
          rw [Nat.sub_self]
          rw [← HSG.out] at HG
          obtain ⟨⟨zb, cb0, cb1⟩, fb0, fb1⟩ := HG.out.bx
          obtain ⟨⟨rb, rb0, rb1⟩, fr0, fr1⟩ := HG.out.r
          obtain ⟨a1, c1, hv1⟩ := HG.out.own.d.slice
          obtain ⟨a2, c2, hv2⟩ := HG.out.own.p.slice
          subst hv1 hv2
          go_wp2
          have eb : Below W.heap.size wr ((wr.setCell ⟨W.heap.size, 0, none⟩ (.slice a1 s.good.1.1.length c1)).setCell ⟨W.heap.size, 1, none⟩ (.slice a2 s.good.1.2.length c2)) := ((Below.refl W.heap.size wr).setCell (p := ⟨W.heap.size, 0, none⟩) (Nat.le_refl _) _).setCell (p := ⟨W.heap.size, 1, none⟩) (Nat.le_refl _) _
          exact bodyPost_ret (v := .agg #[.slice a1 s.good.1.1.length c1, .slice a2 s.good.1.2.length c2]) (by simp [results, Try.results76, go_sem, rb0, rb1]) rfl ⟨_, _, _, rfl, (HG.out.own.below2 (Nat.lt_succ_self _)).mono (Nat.le_succ _) (by simp), HG.out.src.keep (eb.mono HG.out.bW), HG.out.tch.then eb⟩

end Go.Proofs.Ytmgolinleiahpaa

