import Derived.Test.YtcopcegamadkgaaGreatDoorJ06
import Derived.Test.YtcopcegamadkgaaGreatDoorJ01
import Derived.Test.YtcopcegamadkgaaGreatDoorJ02
import Derived.Deep.RegionLaw
import Derived.Deep.AppendLies
import Derived.Laws.AppendOwnNone
import Derived.Deep.RegionHeld3
set_option maxRecDepth 100000
set_option maxHeartbeats 16000000
namespace Go.Proofs.YtcopcegamadkgaaGreatDoor
open Go.RowKit
theorem specPack_row (w : World) (v : Value) (xs : List Int) (h : Rd .u8 w v xs) (hby : Byt xs) (hn : xs.length ≤ 1099511627776) (hne : 0 < xs.length) :
    Calls Tryz.prog 42 #[v] w fun e w' => ∃ v', e = .returned v' ∧ Own .u8 5 w' w.heap.size v' (pk xs) ∧ Below w.heap.size w w' := by
 obtain ⟨i0, hi, hz0, hz1, hz2⟩ := info_parts Tryz.infoB
 go_enter Tryz.func42, Tryz.ntmps42
 go_wp2_with fail
 refine (l2Bits_any _ _ xs 8 h hby hn (by omega)).mono ?_
 rintro e w1 ⟨vb, rfl, hob, hb1⟩
 obtain ⟨ao, cap, rfl, h1, h2, h3⟩ := hob.rd
 rcases h3 with h3 | ⟨b, o, rfl, hlt1, hc1⟩
 · have := congrArg List.length h3; rw [bitsL_len] at this; simp at this; omega
 rw [bitsL_len] at h1 hc1 ⊢
 have HC : Hid (∀ i, i < 8 * xs.length → w1.cell? ⟨b, o + i, none⟩ = some (.int .i64 ((dig 8 1 xs i : Nat) : Int))) := fun i hi => by rw [hc1 i hi, bitsL_getD _ _ _ _ hi]
 generalize hnn : xs.length = n at *
 have HN : Hid (xs.length = n) := hnn
 have HB1 : Hid (Below w.heap.size w w1) := hb1
 have hsz := hb1.size
 clear hnn hc1 hob hb1 h2 h
 go_wp2
 go_loopw [4, 5] (fun v i wr => ∃ q : Nat, 7 * q < 8 * n + 7 ∧ i = .int .i64 (7 * q) ∧ wr.ownsRow w1.heap.size 5 1 v q ((pkS xs q).map (Value.int .u8)) ∧ Below w1.heap.size w1 wr) (fun _ i _ => 8 * n + 7 - (intOf i).toNat)
 case atStart => exact ⟨0, by omega, rfl, World.ownsRow_lit w1 #[] 0 (Nat.le_refl _) (Nat.zero_le _) rfl, (Below.refl _ _).alloc (Nat.le_refl _) _⟩
 case round =>
  obtain ⟨q, hq, rfl, ho, hg⟩ := hrel
  by_cases hlt : 7 * q < 8 * n
  · have hltI : 7 * (q : Int) < 8 * (n : Int) := by omega
    go_wp2
    go_loop [6, 7] (fun v j => ∃ t V : Nat, t ≤ 7 ∧ j = .int .i64 (7 * (q : Int) + t) ∧ V ≤ 127 ∧ v = .int .i64 V ∧ Hid (V = gv xs q t)) (fun _ j => (7 * (q : Int) + 7 - intOf j).toNat)
    case atStart => exact ⟨0, 0, by omega, by go_num, by omega, rfl, (gv_zero xs q (by rw [HN.out]; omega)).symm⟩
    case round =>
     obtain ⟨t, V, ht, rfl, hV, rfl, HV⟩ := hrel
     by_cases ht7 : t < 7
     · have hjI : 7 * (q : Int) + (t : Int) < 7 * (q : Int) + 7 := by omega
       by_cases hin : 7 * q + t < 8 * n
       · have hinI : 7 * (q : Int) + (t : Int) < 8 * (n : Int) := by omega
         have hgs := gv_in xs q t (by rw [HN.out]; exact hin)
         have hgl := gv_le xs q (t + 1) (by rw [HN.out]; omega) (by omega)
         have hsrc : wr.cell? ⟨b, o + (7 * q + t), none⟩ = some (.int .i64 ((dig 8 1 xs (7 * q + t) : Nat) : Int)) := (hg.cell (p := ⟨b, o + (7 * q + t), none⟩) hlt1).trans (HC.out _ hin)
         rw [← HV.out] at hgs
         generalize hD : dig 8 1 xs (7 * q + t) = D at *
         have hb : 2 * V + D ≤ 127 := by omega
         have HGS : Hid (2 * V + D = gv xs q (t + 1)) := hgs.symm
         clear hgs hgl hD
         go_wp2
         go_round
         case rel => exact ⟨t + 1, 2 * V + D, by omega, by go_num, hb, by go_num, HGS.out⟩
         case measure => simp [intOf]; omega
       · have hinI : ¬ 7 * (q : Int) + (t : Int) < 8 * (n : Int) := by omega
         have hgs := gv_out xs q t (by rw [HN.out]; omega) (by rw [HN.out]; omega)
         have hgl := gv_le xs q (t + 1) (by rw [HN.out]; omega) (by omega)
         rw [← HV.out] at hgs
         have hb : 2 * V ≤ 127 := by omega
         have HGS : Hid (2 * V = gv xs q (t + 1)) := hgs.symm
         clear hgs hgl
         go_wp2
         go_round
         case rel => exact ⟨t + 1, 2 * V, by omega, by go_num, hb, by go_num, HGS.out⟩
         case measure => simp [intOf]; omega
     · have ht8 : t = 7 := by omega
       subst ht8
       have HL : Hid (q + 1 ≤ 8796093022208) := by show _ ≤ _; omega
       go_wp2_with (at_builtin; go_must (refine wpList_append_own _ rfl _ _ 22 rfl w1.heap.size 5 i0 (.int .u8 0) 1 1 Tryz.underlying22 hi hz0 hz1 hz2 rfl (by decide) _ _ _ rfl (ho.alloc _) ⟨wr.heap.size, 0, none⟩ 1 1 [.int .u8 (128 + (V : Int))] rfl rfl (cell_one_new _ _ _) (by intro u hu; simp at hu; subst hu; rfl) ?c3 ?c4 ?c5 ?_))
       case c3 => have := HL.out; unfold maxLen; omega
       case c4 => have := HL.out; omega
       case c5 => have := hg.size; simp; omega
       intro v2 w2 ho2 hg2 _
       have HO2 : Hid (w2.ownsRow w1.heap.size 5 1 v2 (q + 1) ((pkS xs (q + 1)).map (Value.int .u8))) := by
        rw [HV.out] at ho2; show World.ownsRow _ _ _ _ _ _ _; rw [pkS_succ, List.map_append]; exact ho2
       have HG2 : Hid (Below w1.heap.size w1 w2) := (hg.alloc (hg.size) _).grown hg2 (by have := hg.size; simp; omega) (fun q hq => (ho.lt q hq).1)
       clear ho2 hg2 ho hg
       go_wp2
       go_roundw
       case rel => exact ⟨q + 1, by omega, by go_num, HO2.out, HG2.out⟩
       case measure => simp [intOf]; omega
  · have hltI : ¬ 7 * (q : Int) < 8 * (n : Int) := by omega
    go_wp2
    go_ret
    have ho3 : Own .u8 5 wr w1.heap.size u4 (pk xs) := own_of (pkS_len xs q) (pkS_all xs q (by rw [HN.out]; omega) (by rw [HN.out]; omega)).symm ho
    exact ⟨_, rfl, ho3.mono hsz, HB1.out.trans (hg.mono hsz)⟩
theorem specPack_nil (w : World) (v : Value) (h : Rd .u8 w v []) :
    Calls Tryz.prog 42 #[v] w fun e w' => ∃ v', e = .returned v' ∧ Own .u8 5 w' w.heap.size v' [] ∧ Below w.heap.size w w' := by
 go_enter Tryz.func42, Tryz.ntmps42
 go_wp2_with fail
 refine (l2Bits_any _ _ [] 8 h (by intro x hx; cases hx) (by simp) (by omega)).mono ?_
 rintro e w1 ⟨vb, rfl, hob, hb1⟩
 obtain ⟨ao, cap, rfl, h1, h2, h3⟩ := hob.rd
 clear h1 h2 h3 hob
 have HB1 : Hid (Below w.heap.size w w1) := hb1
 clear hb1
 have hsz := HB1.out.size
 rw [show (bitsL 8 [] (8 * ([] : List Int).length)).length = 0 from rfl]
 go_wp2
 go_rounds 1
 go_ret
 have ho3 : Own .u8 5 (w1.alloc (.cells #[] 5)) w1.heap.size (.slice (some ⟨w1.heap.size, 0, none⟩) 0 0) [] := World.ownsRow_lit w1 #[] 0 (Nat.le_refl _) (Nat.zero_le _) rfl
 exact ⟨_, rfl, ho3.mono hsz, HB1.out.alloc hsz _⟩
theorem specPack_any (w : World) (v : Value) (xs : List Int) (h : Rd .u8 w v xs) (hby : Byt xs) (hn : xs.length ≤ 1099511627776) :
    Calls Tryz.prog 42 #[v] w fun e w' => ∃ v', e = .returned v' ∧ Own .u8 5 w' w.heap.size v' (pk xs) ∧ Below w.heap.size w w' := by
 by_cases hne : 0 < xs.length
 · exact specPack_row w v xs h hby hn hne
 · have : xs = [] := List.eq_nil_of_length_eq_zero (by omega)
   subst this
   exact specPack_nil w v h
def fr (xs : List Int) : List Int :=
 if xs.length = 0 ∨ 2000 < xs.length then [] else [128 + ((pk xs).length : Int) / 128, 128 + ((pk xs).length : Int) % 128] ++ pk xs
theorem fr_no {xs : List Int} (h : xs.length = 0 ∨ 2000 < xs.length) : fr xs = [] := if_pos h
theorem fr_yes {xs : List Int} (h0 : 0 < xs.length) (h1 : xs.length ≤ 2000) : fr xs = [128 + ((pk xs).length : Int) / 128, 128 + ((pk xs).length : Int) % 128] ++ pk xs := if_neg (by omega)
theorem fr_length (xs : List Int) : (fr xs).length ≤ 2 + (pk xs).length := by
 unfold fr; split <;> simp; omega
theorem specFrame_no (w : World) (ao : Option Addr) (n cap : Nat) (hn : n ≤ 1099511627776) (h : n = 0 ∨ 2000 < n) :
    Calls Tryz.prog 12 #[.slice ao n cap] w fun e w' => ∃ v', e = .returned v' ∧ Own .u8 5 w' w.heap.size v' [] ∧ Below w.heap.size w w' := by
 rcases h with rfl | h
 · go_enter Tryz.func12, Tryz.ntmps12
   go_wp2
   go_ret
   exact ⟨_, rfl, World.ownsRow_lit w #[] 0 (Nat.le_refl _) (Nat.zero_le _) rfl, (Below.refl _ _).alloc (Nat.le_refl _) _⟩
 · have h1 : ((n : Int) == 0) = false := beq_eq_false_iff_ne.2 (by omega)
   have h2 : (2000 : Int) < (n : Int) := by omega
   go_enter Tryz.func12, Tryz.ntmps12
   go_wp2
   go_ret
   exact ⟨_, rfl, World.ownsRow_lit w #[] 0 (Nat.le_refl _) (Nat.zero_le _) rfl, (Below.refl _ _).alloc (Nat.le_refl _) _⟩
theorem cells_own {k : IntKind} {e : TypeId} {w : World} {base g n cap : Nat} {xs : List Int} (h : Own k e w base (.slice (some ⟨g, 0, none⟩) n cap) xs) : ∀ j u, (xs.map (Value.int k))[j]? = some u → w.cell? ((⟨g, 0, none⟩ : Addr).add j) = some u :=
 World.ownsRow.cells h rfl
theorem specFrame_yes (w : World) (v : Value) (xs : List Int) (h : Rd .u8 w v xs) (hby : Byt xs) (h0 : 0 < xs.length) (h1 : xs.length ≤ 2000) :
    Calls Tryz.prog 12 #[v] w fun e w' => ∃ v', e = .returned v' ∧ Own .u8 5 w' w.heap.size v' (fr xs) ∧ Below w.heap.size w w' := by
 obtain ⟨i0, hi, hz0, hz1, hz2⟩ := info_parts Tryz.infoB
 rw [fr_yes h0 h1]
 have HR : Hid (Rd .u8 w v xs) := h
 obtain ⟨ao, cap, rfl, _, _⟩ := h.len
 clear h
 have t1 : ((xs.length : Int) == 0) = false := beq_eq_false_iff_ne.2 (by omega)
 have t2 : ¬ (2000 : Int) < (xs.length : Int) := by omega
 go_enter Tryz.func12, Tryz.ntmps12
 go_wp2_with fail
 refine (specPack_any _ _ xs HR.out hby (by omega)).mono ?_
 rintro e w1 ⟨v1, rfl, o1, b1⟩
 have hpl := pk_length xs
 rcases o1.row with ⟨rfl, h3⟩ | ⟨g, cp, rfl, hbg, hmc, hcm⟩
 · have := congrArg List.length h3; rw [hpl] at this; simp at this; omega
 have hm0 : (pk xs).length ≤ 2286 := by omega
 have hm1 : 2 ≤ (pk xs).length := by omega
 have HO1 : Hid (Own .u8 5 w1 w.heap.size (.slice (some ⟨g, 0, none⟩) (pk xs).length cp) (pk xs)) := o1
 have HB1 : Hid (Below w.heap.size w w1) := b1
 have hsz := b1.size
 have hgl : g < w1.heap.size := (o1.lt g rfl).2
 generalize hm : (pk xs).length = m at *
 have HM : Hid ((pk xs).length = m) := hm
 clear hm hpl o1 b1 t1 t2 h0 h1
 have HW2 : Hid ((w1.alloc (.cells #[.int .u8 (128 + (m : Int) / 128), .int .u8 (128 + (m : Int) % 128)] 5)).ownsRow w1.heap.size 5 1 (.slice (some ⟨w1.heap.size, 0, none⟩) 2 2) 2 [.int .u8 (128 + (m : Int) / 128), .int .u8 (128 + (m : Int) % 128)]) :=
  World.ownsRow_lit w1 #[.int .u8 (128 + (m : Int) / 128), .int .u8 (128 + (m : Int) % 128)] 2 (Nat.le_refl _) (by unfold maxLen; omega) rfl
 have HB2 : Hid (Below w1.heap.size w1 (w1.alloc (.cells #[.int .u8 (128 + (m : Int) / 128), .int .u8 (128 + (m : Int) % 128)] 5))) := (Below.refl _ _).alloc (Nat.le_refl _) _
 have HO13 := hd9 (HO1.out.below HB2.out)
 go_wp2_with (at_builtin; go_must (refine wpList_append_own _ rfl _ _ 22 rfl w1.heap.size 5 i0 (.int .u8 0) 1 1 Tryz.underlying22 hi hz0 hz1 hz2 rfl (by decide) _ _ _ rfl HW2.out ⟨g, 0, none⟩ m cp ((pk xs).map (Value.int .u8)) rfl ?c0 (cells_own HO13.out) (ints_oneCell _ _) ?c3 ?c4 ?c5 ?_))
 case c0 => rw [List.length_map, HM.out, Nat.mul_one]
 case c3 => unfold maxLen; omega
 case c4 => omega
 case c5 => simp
 intro v4 w4 ho4 hg4 _
 have HB4 : Hid (Below w1.heap.size w1 w4) := HB2.out.grown hg4 (by simp) (by intro k hk; simp [Value.ownBlock] at hk; omega)
 clear hg4
 have HO5 : Hid (Own .u8 5 w4 w1.heap.size v4 ([128 + ((pk xs).length : Int) / 128, 128 + ((pk xs).length : Int) % 128] ++ pk xs)) := by
  rw [HM.out]
  exact own_of (q := 2 + m) (by rw [List.length_append, HM.out]; rfl) rfl (by rw [List.map_append]; exact ho4)
 clear ho4
 go_wp2
 go_ret
 exact ⟨_, rfl, HO5.out.mono hsz, HB1.out.trans (HB4.out.mono hsz)⟩
theorem specFrame_any (w : World) (v : Value) (xs : List Int) (h : Rd .u8 w v xs) (hby : Byt xs) (hn : xs.length ≤ 1099511627776) :
    Calls Tryz.prog 12 #[v] w fun e w' => ∃ v', e = .returned v' ∧ Own .u8 5 w' w.heap.size v' (fr xs) ∧ Below w.heap.size w w' := by
 by_cases hc : xs.length = 0 ∨ 2000 < xs.length
 · rw [fr_no hc]
   obtain ⟨ao, cap, rfl, _, _⟩ := h.len
   exact specFrame_no w ao _ cap hn hc
 · exact specFrame_yes w v xs h hby (by omega) (by omega)
theorem map_inj_on {xs ys : List Int} (hx : Byt xs) (hy : Byt ys) (h : xs.map (fun n => UInt8.ofNat n.toNat) = ys.map (fun n => UInt8.ofNat n.toNat)) : xs = ys := by
 induction xs generalizing ys with
 | nil => cases ys with
  | nil => rfl
  | cons y ys => simp at h
 | cons x xs ih => cases ys with
  | nil => simp at h
  | cons y ys =>
   simp only [List.map_cons, List.cons.injEq] at h
   have bx := hx x (by simp)
   have by' := hy y (by simp)
   have e : x = y := by
    have h1 := congrArg UInt8.toNat h.1
    simp only [UInt8.toNat_ofNat'] at h1
    omega
   rw [e, ih (fun z hz => hx z (by simp [hz])) (fun z hz => hy z (by simp [hz])) h.2]
theorem same_iff {xs ys : List Int} (hx : Byt xs) (hy : Byt ys) : ((strOfNums xs).toList == (strOfNums ys).toList) = decide (xs = ys) := by
 rw [ByteArray.toList_eq, ByteArray.toList_eq, strOfNums_data, strOfNums_data]
 by_cases h : xs = ys
 · subst h; simp
 · rw [decide_eq_false h, beq_eq_false_iff_ne]
   exact fun e => h (map_inj_on hx hy e)
theorem sameBytes_any (w : World) (va vb : Value) (xs ys : List Int) (ha : Rd .u8 w va xs) (hb : Rd .u8 w vb ys) (hx : Byt xs) (hy : Byt ys) :
    Calls Tryz.prog 50 #[va, vb] w fun e w' => e = .returned (.bool (decide (xs = ys))) ∧ w' = w := by
 have h1 := conv_any ha
 have h2 := conv_any hb
 have HS : Hid (((strOfNums xs).toList == (strOfNums ys).toList) = decide (xs = ys)) := same_iff hx hy
 clear ha hb
 go_enter Tryz.func50, Tryz.ntmps50
 go_wp2
 go_ret
 exact ⟨ret_bool HS.out, rfl⟩
theorem bytesEqual_any (w : World) (va vb : Value) (xs ys : List Int) (ha : Rd .u8 w va xs) (hb : Rd .u8 w vb ys) (hx : Byt xs) (hy : Byt ys) :
    Calls Tryz.prog 179 #[va, vb] w fun e w' => e = .returned (.bool (decide (xs = ys))) ∧ w' = w := by
 have h1 := conv_any ha
 have h2 := conv_any hb
 have HS : Hid (((strOfNums xs).toList == (strOfNums ys).toList) = decide (xs = ys)) := same_iff hx hy
 clear ha hb
 go_enter Tryz.func179, Tryz.ntmps179
 go_wp2
 go_ret
 exact ⟨ret_bool HS.out, rfl⟩
def upE (ps : List Int) (q : Nat) : List Int := (List.range q).map (fun j => ((dig 7 8 ps j : Nat) : Int))
theorem upE_len (ps : List Int) (q : Nat) : (upE ps q).length = q := by simp [upE]
theorem upE_succ (ps : List Int) (q : Nat) : upE ps (q + 1) = upE ps q ++ [((dig 7 8 ps q : Nat) : Int)] := range_snoc _ q
theorem upE_all {ps : List Int} {q : Nat} (h : q = 7 * ps.length / 8) : up ps = upE ps q := by subst h; rfl
theorem u8_low7 (x : Nat) (hx : x < 256) : bits .and .u8 (x : Int) 127 = ((x % 128 : Nat) : Int) := by
 rw [show (127 : Int) = ((127 : Nat) : Int) from rfl, u8_and_nat x 127 hx (by omega), nat_mask7]
theorem reg_in7 (R x A N : Nat) (hx : x < 128) (hA : A ≤ 7) (h : R % 2 ^ A = N % 2 ^ A) :
    ∃ R' : Nat, R' < 65536 ∧ bits .or .u16 (IntKind.u16.wrap ((R : Int) * 128)) (x : Int) = (R' : Int) ∧ R' % 2 ^ (A + 7) = (N * 128 + x) % 2 ^ (A + 7) := by
 have hs := reg_step R N x A 7 16 (by omega) h
 simp only [show (2 : Nat) ^ 7 = 128 from rfl, show (2 : Nat) ^ 16 = 65536 from rfl] at hs
 refine ⟨R * 128 % 65536 + x, by omega, ?_, hs⟩
 have e : IntKind.u16.wrap ((R : Int) * 128) = ((R * 128 % 65536 : Nat) : Int) := by rw [IntKind.wrap_u16]; omega
 rw [e, u16_or_nat _ _ (by omega) (by omega), nat_join 7 (R * 128 % 65536) x (by simp only [Nat.reducePow]; omega) (by simpa using hx)]
theorem reg_out8 (xs : List Int) (R A k q : Nat) (hk : k ≤ xs.length) (hq : 8 * q + (A + 8) = 7 * k) (h : R % 2 ^ (A + 8) = numW 7 (xs.take k) % 2 ^ (A + 8)) :
    IntKind.u8.wrap ((R : Int) / 2 ^ A) = ((dig 7 8 xs q : Nat) : Int) := by
 rw [IntKind.wrap_u8', shr_cast, dig_take 7 8 xs k q hk (by omega), show 7 * k - 8 * (q + 1) = A by omega, ← reg_dig R _ A 8 h]
 simp only [Nat.reducePow]
 omega
theorem joinGroups_row (w : World) (b o n cap : Nat) (xs : List Int) (hx : xs.length = n) (hb : b < w.heap.size) (hc : ∀ i, i < n → w.cell? ⟨b, o + i, none⟩ = some (.int .u8 (xs.getD i 0))) (hby : Byt xs) (hn : n ≤ 1099511627776) :
    Calls Tryz.prog 178 #[.slice (some ⟨b, o, none⟩) n cap] w fun e w' => ∃ v', e = .returned v' ∧ Own .u8 5 w' w.heap.size v' (up xs) ∧ Below w.heap.size w w' := by
 obtain ⟨i0, hi, hz0, hz1, hz2⟩ := info_parts Tryz.infoB
 have HC : Hid (∀ i, i < n → w.cell? ⟨b, o + i, none⟩ = some (.int .u8 (xs.getD i 0))) := hc
 have HX : Hid (xs.length = n) := hx
 clear hc hx
 go_enter Tryz.func178, Tryz.ntmps178
 go_wp2_with (at_make; go_must (refine wpList_make_own _ rfl _ _ 22 rfl w.heap.size 5 i0 (.int .u8 0) 1 Tryz.underlying22 hi hz0 hz1 _ _ _ (n * 7 / 8) rfl rfl ?b1 ?b2 ?b3 ?b4 ?_))
 case b1 => omega
 case b2 => rw [hz2]; omega
 case b3 => unfold maxLen; omega
 case b4 => exact Nat.le_refl _
 intro w1 hown hgrow
 have HO : Hid (w1.ownsRow w.heap.size 5 1 (.slice (some ⟨w.heap.size, 0, none⟩) 0 (n * 7 / 8)) 0 []) := hown
 have HG : Hid (Below w.heap.size w w1) := (Below.refl _ _).grown hgrow (Nat.le_refl _) (by simp)
 clear hown hgrow
 go_wp2
 go_loopw [3, 4, 5, 15] (fun v r a i wr => ∃ k q A R : Nat, k ≤ n ∧ i = .int .i64 k ∧ A ≤ 7 ∧ Hid (8 * q + A = 7 * k) ∧ a = .int .u8 A ∧ R < 65536 ∧ r = .int .u16 R ∧ Hid (R % 2 ^ A = numW 7 (xs.take k) % 2 ^ A) ∧
     v = .slice (some ⟨w.heap.size, 0, none⟩) q (n * 7 / 8) ∧ wr.ownsRow w.heap.size 5 1 (.slice (some ⟨w.heap.size, 0, none⟩) q (n * 7 / 8)) q ((upE xs q).map (Value.int .u8)) ∧ Below w.heap.size w wr) (fun _ _ _ i _ => n - (intOf i).toNat)
 case atStart => exact ⟨0, 0, 0, 0, Nat.zero_le _, rfl, by omega, rfl, rfl, by omega, rfl, rfl, rfl, HO.out, HG.out⟩
 case round =>
  obtain ⟨k, q, A, R, hk, rfl, hA, HQ, rfl, hR, rfl, HR, rfl, ho, hg⟩ := hrel
  by_cases hlt : k < n
  · obtain ⟨x, hx, hxe⟩ := byt_at hby k
    have hsrc : wr.cell? ⟨b, o + k, none⟩ = some (.int .u8 (x : Int)) := by rw [← hxe]; exact (hg.cell (p := ⟨b, o + k, none⟩) hb).trans (HC.out k hlt)
    have hltI : (k : Int) < (n : Int) := by omega
    have hand := u8_low7 x hx
    have HN : Hid (numW 7 (xs.take (k + 1)) = numW 7 (xs.take k) * 128 + x % 128) := by
     have := numW_take_succ 7 xs k (by rw [HX.out]; exact hlt)
     rw [hxe] at this
     show _ = _
     rw [this, Int.toNat_natCast]
    generalize hy : x % 128 = y at *
    have hy7 : y < 128 := by omega
    obtain ⟨R', hR', hreg, HR'⟩ := reg_in7 R y A (numW 7 (xs.take k)) hy7 hA HR.out
    rw [← HN.out] at HR'
    have HR2 : Hid (R' % 2 ^ (A + 7) = numW 7 (xs.take (k + 1)) % 2 ^ (A + 7)) := HR'
    have HQ2 : Hid (8 * q + (A + 7) = 7 * (k + 1)) := by have := HQ.out; show _ = _; omega
    clear hxe HR' HR HN HQ hy
    by_cases h8 : 1 ≤ A
    · obtain ⟨A2, rfl⟩ : ∃ A2, A = A2 + 1 := ⟨A - 1, by omega⟩
      have h8I : (8 : Int) ≤ ((A2 + 1 : Nat) : Int) + 7 := by omega
      have HD : Hid (IntKind.u8.wrap ((R' : Int) / 2 ^ A2) = ((dig 7 8 xs q : Nat) : Int)) := reg_out8 xs R' A2 (k + 1) q (by rw [HX.out]; omega) (by have := HQ2.out; omega) HR2.out
      have hcap : q + 1 ≤ n * 7 / 8 := by have := HQ2.out; omega
      go_wp2_with (at_builtin; go_must (refine wpList_append_fits _ rfl _ _ 22 rfl w.heap.size 5 i0 1 Tryz.underlying22 hi hz1 w.heap.size q (n * 7 / 8) _ rfl (ho.alloc _) ⟨wr.heap.size, 0, none⟩ 1 1 [.int .u8 (IntKind.u8.wrap ((R' : Int) / 2 ^ A2))] rfl rfl (cell_one_new _ _ _) (by intro u hu; simp at hu; subst hu; rfl) hcap ?_))
      intro w2 ho2 hg2
      have HO2 : Hid (w2.ownsRow w.heap.size 5 1 (.slice (some ⟨w.heap.size, 0, none⟩) (q + 1) (n * 7 / 8)) (q + 1) ((upE xs (q + 1)).map (Value.int .u8))) := by
       rw [HD.out] at ho2; show World.ownsRow _ _ _ _ _ _ _; rw [upE_succ, List.map_append]; exact ho2
      have HG2 : Hid (Below w.heap.size w w2) := (hg.alloc (hg.size) _).grown hg2 (by have := hg.size; simp; omega) (by intro k hk; simp at hk; omega)
      clear ho2 hg2 ho hg
      go_wp2
      go_roundw
      case rel => exact ⟨k + 1, q + 1, A2, R', by omega, by go_num, by omega, (by have := HQ2.out; show _ = _; omega), by go_num, hR', rfl, mod_low (by omega) HR2.out, rfl, HO2.out, HG2.out⟩
      case measure => simp [intOf]; omega
    · have hA0 : A = 0 := by omega
      subst hA0
      go_wp2
      go_roundw
      case rel => exact ⟨k + 1, q, 7, R', by omega, by go_num, by omega, HQ2, by go_num, hR', rfl, HR2, rfl, ho, hg⟩
      case measure => simp [intOf]; omega
  · have hkn : k = n := by omega
    subst hkn
    go_wp2
    go_ret
    exact ⟨_, rfl, own_of (upE_len xs q) (upE_all (by rw [HX.out]; have := HQ.out; omega)) ho, hg⟩
theorem joinGroups_nil (w : World) (ao : Option Addr) (cap : Nat) :
    Calls Tryz.prog 178 #[.slice ao 0 cap] w fun e w' => ∃ v', e = .returned v' ∧ Own .u8 5 w' w.heap.size v' [] ∧ Below w.heap.size w w' := by
 obtain ⟨i0, hi, hz0, hz1, hz2⟩ := info_parts Tryz.infoB
 go_enter Tryz.func178, Tryz.ntmps178
 go_wp2_with (at_make; go_must (refine wpList_make_own _ rfl _ _ 22 rfl w.heap.size 5 i0 (.int .u8 0) 1 Tryz.underlying22 hi hz0 hz1 _ _ _ 0 rfl rfl ?b1 ?b2 ?b3 ?b4 ?_))
 case b1 => rfl
 case b2 => rw [hz2]; omega
 case b3 => unfold maxLen; omega
 case b4 => exact Nat.le_refl _
 intro w1 hown hgrow
 have HO : Hid (w1.ownsRow w.heap.size 5 1 (.slice (some ⟨w.heap.size, 0, none⟩) 0 0) 0 []) := hown
 have HG : Hid (Below w.heap.size w w1) := (Below.refl _ _).grown hgrow (Nat.le_refl _) (by simp)
 clear hown hgrow
 go_wp2
 go_rounds 1
 go_ret
 exact ⟨_, rfl, HO.out, HG.out⟩
theorem joinGroups_any (w : World) (v : Value) (xs : List Int) (h : Rd .u8 w v xs) (hby : Byt xs) (hn : xs.length ≤ 1099511627776) :
    Calls Tryz.prog 178 #[v] w fun e w' => ∃ v', e = .returned v' ∧ Own .u8 5 w' w.heap.size v' (up xs) ∧ Below w.heap.size w w' := by
 obtain ⟨ao, cap, rfl, h1, h2, h3⟩ := h
 rcases h3 with rfl | ⟨b, o, rfl, hb, hc⟩
 · exact joinGroups_nil w ao cap
 · exact joinGroups_row w b o xs.length cap xs rfl hb hc hby hn
def unp (ps : List Int) : List Int := if pk (up ps) = ps then up ps else []
theorem byt_pk (xs : List Int) : Byt (pk xs) := fun x hx => by have := pk_range xs x hx; omega
theorem byt_up (xs : List Int) : Byt (up xs) := fun x hx => by have := up_range xs x hx; omega
theorem bcell {W w1 : World} (hb : Below W.heap.size W w1) : (∀ b o, b < W.heap.size → w1.cell? ⟨b, o, none⟩ = W.cell? ⟨b, o, none⟩) ∧ (∀ b o, b < W.heap.size → w1.frozen? ⟨b, o, none⟩ = W.frozen? ⟨b, o, none⟩) :=
 ⟨fun b o h => hb.cell (p := ⟨b, o, none⟩) h, fun b o h => hb.frozen (p := ⟨b, o, none⟩) h⟩
theorem box_later {w w1 : World} {x : Value} {t : TypeId} (hb : Below (w.alloc (.cells #[x] t)).heap.size (w.alloc (.cells #[x] t)) w1) :
    w1.cell? ⟨w.heap.size, 0, none⟩ = some x ∧ w1.frozen? ⟨w.heap.size, 0, none⟩ = false ∧ w.heap.size < w1.heap.size := by
 obtain ⟨hc, hf⟩ := bcell hb
 have hs := hb.size
 simp at hs
 refine ⟨?_, ?_, by omega⟩
 · rw [hc _ _ (by simp)]; simp
 · rw [hf _ _ (by simp)]; simp
theorem Own.setBelow {k : IntKind} {e : TypeId} {w : World} {base : Nat} {v : Value} {xs : List Int} (h : Own k e w base v xs) {a : Addr} (ha : a.block < base) (u : Value) : Own k e (w.setCell a u) base v xs := ownsRow_setCell_below h ha u
theorem implUnpack_any (w : World) (v : Value) (xs : List Int) (h : Rd .u8 w v xs) (hby : Byt xs) (hn : xs.length ≤ 1099511627776) :
    Calls Tryz.prog 140 #[v] w fun e w' => ∃ v', e = .returned (.agg #[v']) ∧ Own .u8 5 w' w.heap.size v' (unp xs) ∧ Below w.heap.size w w' := by
 have B0 : Hid (Below w.heap.size w (w.alloc (.cells #[.slice none 0 0] 40))) := (Below.refl _ _).alloc (Nat.le_refl _) _
 have R0 : Hid (Rd .u8 (w.alloc (.cells #[.slice none 0 0] 40)) v xs) := h.below B0.out
 have hul : (up xs).length ≤ 1099511627776 := by rw [up_length]; omega
 have HUL : Hid ((up xs).length ≤ 1099511627776) := hul
 clear h hul
 go_enter Tryz.func140, Tryz.ntmps140
 go_wp2_with fail
 refine (joinGroups_any _ _ xs R0.out hby hn).mono ?_
 rintro e w1 ⟨v1, rfl, o1, b1⟩
 have O1 : Hid (Own .u8 5 w1 (w.heap.size + 1) v1 (up xs)) := by have := o1; simp at this; exact this
 have B1 : Hid (Below (w.alloc (.cells #[.slice none 0 0] 40)).heap.size (w.alloc (.cells #[.slice none 0 0] 40)) w1) := b1
 clear o1 b1
 go_wp2_with fail
 refine (implPack_any _ _ (up xs) O1.out.rd (byt_up xs) HUL.out).mono ?_
 rintro e w2 ⟨v2, rfl, o2, b2⟩
 have O2 : Hid (Own .u8 5 w2 w1.heap.size v2 (pk (up xs))) := o2
 have s1 := B1.out.size
 have B2 := hd9 (B1.out.trans (b2.mono s1))
 have O12 := hd9 (O1.out.below b2)
 clear o2 b2 O1
 go_wp2_with fail
 refine (bytesEqual_any _ _ _ (pk (up xs)) xs O2.out.rd (R0.out.below B2.out) (byt_pk _) hby).mono ?_
 rintro e w2 ⟨rfl, rfl⟩
 obtain ⟨c1, f1, z1⟩ := box_later B2.out
 have BW := hd9 (B0.out.trans (B2.out.mono (by simp)))
 clear s1
 by_cases he : pk (up xs) = xs
 · have hd : decide (pk (up xs) = xs) = true := by simp [he]
   have HU : Hid (unp xs = up xs) := if_pos he
   rw [hd]
   clear he hd
   obtain ⟨ao1, cp1, rfl, _, _⟩ := O12.out.rd.len
   go_wp2
   refine bodyPost_ret (v := .agg #[.slice ao1 (up xs).length cp1]) (by simp [results, Tryz.results140, go_sem, c1]) rfl ⟨.slice ao1 (up xs).length cp1, rfl, ?_, ?_⟩
   · rw [HU.out]
     exact (Own.setBelow O12.out (a := ⟨w.heap.size, 0, none⟩) (by simp) _).mono (by omega)
   · exact BW.out.setCell (Nat.le_refl _) _
 · have hd : decide (pk (up xs) = xs) = false := by simp [he]
   have HU : Hid (unp xs = []) := if_neg he
   rw [hd]
   clear he hd
   go_wp2
   refine bodyPost_ret (v := .agg #[.slice none 0 0]) (by simp [results, Tryz.results140, go_sem, c1]) rfl ⟨.slice none 0 0, rfl, ?_, ?_⟩
   · rw [HU.out]
     exact World.ownsRow_nil _ _ _ _
   · exact BW.out.setCell (Nat.le_refl _) _
def g8 (xs : List Int) (q t : Nat) : Nat := numW 7 xs / 2 ^ (7 * xs.length - (8 * q + t)) % 2 ^ t
theorem g8_zero (xs : List Int) (q : Nat) : g8 xs q 0 = 0 := by unfold g8; simp [Nat.mod_one]
theorem g8_in (xs : List Int) (q t : Nat) (h : 8 * q + t < 7 * xs.length) : g8 xs q (t + 1) = 2 * g8 xs q t + dig 7 1 xs (8 * q + t) := by
 unfold g8 dig
 have e : 7 * xs.length - (8 * q + t) = 7 * xs.length - (8 * q + (t + 1)) + 1 := by omega
 rw [e, show 2 ^ (7 * xs.length - (8 * q + (t + 1)) + 1) = 2 ^ (7 * xs.length - (8 * q + (t + 1))) * 2 from Nat.pow_succ _ _, ← Nat.div_div_eq_div_mul, show 7 * xs.length - 1 * (8 * q + t + 1) = 7 * xs.length - (8 * q + (t + 1)) by omega, Nat.pow_one]
 generalize numW 7 xs / 2 ^ (7 * xs.length - (8 * q + (t + 1))) = X
 rw [Nat.pow_succ, Nat.mul_comm (2 ^ t) 2, Nat.mod_mul]
 omega
theorem g8_le (xs : List Int) (q t : Nat) (ht : t ≤ 8) : g8 xs q t ≤ 255 := by
 have h : g8 xs q t < 2 ^ t := Nat.mod_lt _ (pow_pos2 t)
 have h2 : 2 ^ t ≤ 2 ^ 8 := Nat.pow_le_pow_right (by omega) ht
 simp only [Nat.reducePow] at h2
 omega
theorem g8_dig (xs : List Int) (q : Nat) : g8 xs q 8 = dig 7 8 xs q := by unfold g8 dig; rw [show 8 * q + 8 = 8 * (q + 1) by omega]
theorem specUnpack_any (w : World) (v : Value) (xs : List Int) (h : Rd .u8 w v xs) (hby : Byt xs) (hn : xs.length ≤ 1099511627776) :
    Calls Tryz.prog 41 #[v] w fun e w' => ∃ v', e = .returned (.agg #[v']) ∧ Own .u8 5 w' w.heap.size v' (unp xs) ∧ Below w.heap.size w w' := by
 obtain ⟨i0, hi, hz0, hz1, hz2⟩ := info_parts Tryz.infoB
 have B0 : Hid (Below w.heap.size w (w.alloc (.cells #[.slice none 0 0] 40))) := (Below.refl _ _).alloc (Nat.le_refl _) _
 have R0 : Hid (Rd .u8 (w.alloc (.cells #[.slice none 0 0] 40)) v xs) := h.below B0.out
 have hul : (up xs).length ≤ 1099511627776 := by rw [up_length]; omega
 have HUL : Hid ((up xs).length ≤ 1099511627776) := hul
 clear h hul
 go_enter Tryz.func41, Tryz.ntmps41
 go_wp2_with fail
 refine (l2Bits_any _ _ xs 7 R0.out hby hn (by omega)).mono ?_
 rintro e w1 ⟨vb, rfl, hob, hb1⟩
 obtain ⟨ao, cap, rfl, h1, h2, h3⟩ := hob.rd
 rw [bitsL_len] at h1 h3 ⊢
 have h3' : xs.length = 0 ∨ ∃ b o, ao = some ⟨b, o, none⟩ ∧ b < w1.heap.size ∧ Hid (∀ i, i < 7 * xs.length → w1.cell? ⟨b, o + i, none⟩ = some (.int .i64 ((dig 7 1 xs i : Nat) : Int))) := by
  rcases h3 with h3 | ⟨b, o, rfl, hlt1, hc1⟩
  · left; have := congrArg List.length h3; rw [bitsL_len] at this; simp at this; omega
  · exact .inr ⟨b, o, rfl, hlt1, fun i hi => by rw [hc1 i hi, bitsL_getD _ _ _ _ hi]⟩
 have HB1 : Hid (Below (w.alloc (.cells #[.slice none 0 0] 40)).heap.size (w.alloc (.cells #[.slice none 0 0] 40)) w1) := hb1
 generalize hnn : xs.length = n at *
 have HN : Hid (xs.length = n) := hnn
 have hsz := hb1.size
 have H3 : Hid (n = 0 ∨ ∃ b o, ao = some ⟨b, o, none⟩ ∧ b < w1.heap.size ∧ Hid (∀ i, i < 7 * n → w1.cell? ⟨b, o + i, none⟩ = some (.int .i64 ((dig 7 1 xs i : Nat) : Int)))) := h3'
 clear hnn hob hb1 h3 h2 h3'
 go_wp2
 go_loopw [4, 5] (fun v i wr => ∃ q : Nat, 8 * q ≤ 7 * n ∧ i = .int .i64 (8 * q) ∧ wr.ownsRow w1.heap.size 5 1 v q ((upE xs q).map (Value.int .u8)) ∧ Below w1.heap.size w1 wr) (fun _ i _ => 7 * n + 8 - (intOf i).toNat)
 case atStart => exact ⟨0, by omega, rfl, World.ownsRow_lit w1 #[] 0 (Nat.le_refl _) (Nat.zero_le _) rfl, (Below.refl _ _).alloc (Nat.le_refl _) _⟩
 case round =>
  obtain ⟨q, hq, rfl, ho, hg⟩ := hrel
  by_cases hlt : 8 * q + 8 ≤ 7 * n
  · have hltI : 8 * (q : Int) + 8 ≤ 7 * (n : Int) := by omega
    rcases H3.out with h0 | ⟨b, o, rfl, hlt1, HC⟩
    · omega
    clear H3
    go_wp2
    go_loop [6, 7] (fun v j => ∃ t V : Nat, t ≤ 8 ∧ j = .int .i64 (8 * (q : Int) + t) ∧ V ≤ 255 ∧ v = .int .i64 V ∧ Hid (V = g8 xs q t)) (fun _ j => (8 * (q : Int) + 8 - intOf j).toNat)
    case atStart => exact ⟨0, 0, by omega, by go_num, by omega, rfl, (g8_zero xs q).symm⟩
    case round =>
     obtain ⟨t, V, ht, rfl, hV, rfl, HV⟩ := hrel
     by_cases ht8 : t < 8
     · have hjI : 8 * (q : Int) + (t : Int) < 8 * (q : Int) + 8 := by omega
       have hin : 8 * q + t < 7 * n := by omega
       have hinI : 8 * (q : Int) + (t : Int) < 7 * (n : Int) := by omega
       have hgs := g8_in xs q t (by rw [HN.out]; exact hin)
       have hgl := g8_le xs q (t + 1) (by omega)
       have hsrc : wr.cell? ⟨b, o + (8 * q + t), none⟩ = some (.int .i64 ((dig 7 1 xs (8 * q + t) : Nat) : Int)) := (hg.cell (p := ⟨b, o + (8 * q + t), none⟩) hlt1).trans (HC.out _ hin)
       rw [← HV.out] at hgs
       generalize hD : dig 7 1 xs (8 * q + t) = D at *
       have hb : 2 * V + D ≤ 255 := by omega
       have HGS : Hid (2 * V + D = g8 xs q (t + 1)) := hgs.symm
       clear hgs hgl hD
       go_wp2
       go_round
       case rel => exact ⟨t + 1, 2 * V + D, by omega, by go_num, hb, by go_num, HGS.out⟩
       case measure => simp [intOf]; omega
     · have ht9 : t = 8 := by omega
       subst ht9
       have HL : Hid (q + 1 ≤ 8796093022208) := by show _ ≤ _; omega
       go_wp2_with (at_builtin; go_must (refine wpList_append_own _ rfl _ _ 22 rfl w1.heap.size 5 i0 (.int .u8 0) 1 1 Tryz.underlying22 hi hz0 hz1 hz2 rfl (by decide) _ _ _ rfl (ho.alloc _) ⟨wr.heap.size, 0, none⟩ 1 1 [.int .u8 (V : Int)] rfl rfl (cell_one_new _ _ _) (by intro u hu; simp at hu; subst hu; rfl) ?c3 ?c4 ?c5 ?_))
       case c3 => have := HL.out; unfold maxLen; omega
       case c4 => have := HL.out; omega
       case c5 => have := hg.size; simp; omega
       intro v2 w2 ho2 hg2 _
       have HO2 : Hid (w2.ownsRow w1.heap.size 5 1 v2 (q + 1) ((upE xs (q + 1)).map (Value.int .u8))) := by
        rw [HV.out, g8_dig] at ho2; show World.ownsRow _ _ _ _ _ _ _; rw [upE_succ, List.map_append]; exact ho2
       have HG2 : Hid (Below w1.heap.size w1 w2) := (hg.alloc (hg.size) _).grown hg2 (by have := hg.size; simp; omega) (fun q hq => (ho.lt q hq).1)
       clear ho2 hg2 ho hg
       go_wp2
       go_roundw
       case rel => exact ⟨q + 1, by omega, by go_num, HO2.out, HG2.out⟩
       case measure => simp [intOf]; omega
  · have hltI : ¬ 8 * (q : Int) + 8 ≤ 7 * (n : Int) := by omega
    have O1 : Hid (Own .u8 5 wr w1.heap.size u4 (up xs)) := own_of (upE_len xs q) (upE_all (by rw [HN.out]; omega)) ho
    have BG : Hid (Below w1.heap.size w1 wr) := hg
    clear ho hg H3
    go_wp2_with fail
    refine (specPack_any _ _ (up xs) O1.out.rd (byt_up xs) HUL.out).mono ?_
    rintro e w2 ⟨v2, rfl, o2, b2⟩
    have O2 : Hid (Own .u8 5 w2 wr.heap.size v2 (pk (up xs))) := o2
    have sg := BG.out.size
    have B2 : Hid (Below (w.alloc (.cells #[.slice none 0 0] 40)).heap.size (w.alloc (.cells #[.slice none 0 0] 40)) w2) := (HB1.out.trans (BG.out.mono hsz)).trans (b2.mono (Nat.le_trans hsz sg))
    have O12 := hd9 (O1.out.below b2)
    clear o2 b2 O1
    go_wp2_with fail
    refine (sameBytes_any _ _ _ (pk (up xs)) xs O2.out.rd (R0.out.below B2.out) (byt_pk _) hby).mono ?_
    rintro e w2 ⟨rfl, rfl⟩
    obtain ⟨c1, f1, z1⟩ := box_later B2.out
    have BW := hd9 (B0.out.trans (B2.out.mono (by simp)))
    have hsz' : w.heap.size < w1.heap.size := by simp at hsz; omega
    clear sg hsz
    by_cases he : pk (up xs) = xs
    · have hd : decide (pk (up xs) = xs) = true := by simp [he]
      have HU : Hid (unp xs = up xs) := if_pos he
      rw [hd]
      clear he hd
      obtain ⟨ao1, cp1, rfl, _, _⟩ := O12.out.rd.len
      go_wp2
      refine bodyPost_ret (v := .agg #[.slice ao1 (up xs).length cp1]) (by simp [results, Tryz.results41, go_sem, c1]) rfl ⟨.slice ao1 (up xs).length cp1, rfl, ?_, ?_⟩
      · rw [HU.out]
        exact (Own.setBelow O12.out (a := ⟨w.heap.size, 0, none⟩) hsz' _).mono (by omega)
      · exact BW.out.setCell (Nat.le_refl _) _
    · have hd : decide (pk (up xs) = xs) = false := by simp [he]
      have HU : Hid (unp xs = []) := if_neg he
      rw [hd]
      clear he hd
      go_wp2
      refine bodyPost_ret (v := .agg #[.slice none 0 0]) (by simp [results, Tryz.results41, go_sem, c1]) rfl ⟨.slice none 0 0, rfl, ?_, ?_⟩
      · rw [HU.out]
        exact World.ownsRow_nil _ _ _ _
      · exact BW.out.setCell (Nat.le_refl _) _
end Go.Proofs.YtcopcegamadkgaaGreatDoor
namespace Go.Proofs.YtcopcegamadkgaaGreatDoor
open Go.RowKit Go.Shelf
theorem runO_inv {z : Int} (hz : okS z = true) : ∀ (os : List Op5) (ns : List Nd) (i : Nat) (nm : List ByteArray), Snd ns → Snd (runO z os ns i nm).2.2.1 ∧ (runO z os ns i nm).2.2.1.length ≤ ns.length + os.length
 | [], ns, _, _, h => ⟨h, by show ns.length ≤ ns.length + 0; omega⟩
 | o :: os, ns, i, nm, h => by
  unfold runO
  split
  · exact ⟨h, by show ns.length ≤ _; omega⟩
  · have h1 := doO_snd h o hz
    have h2 := doO_len h.1 o z
    obtain ⟨i1, i2⟩ := runO_inv hz os (doO ns o z).2.1 (i + 1) (nm ++ [(doO ns o z).2.2]) h1
    exact ⟨i1, by rw [List.length_cons]; omega⟩
theorem fr_le (xs : List Int) : (fr xs).length ≤ 2300 := by
 by_cases h : xs.length = 0 ∨ 2000 < xs.length
 · rw [fr_no h]; simp
 · have := fr_length xs
   have := pk_length xs
   omega
theorem fr_byt (xs : List Int) : Byt (fr xs) := by
 by_cases h : xs.length = 0 ∨ 2000 < xs.length
 · rw [fr_no h]; intro x hx; cases hx
 · rw [fr_yes (by omega) (by omega)]
   have hp := pk_length xs
   have hq : (pk xs).length ≤ 2300 := by omega
   intro x hx
   rcases List.mem_append.1 hx with hx | hx
   · simp only [List.mem_cons, List.not_mem_nil, or_false] at hx
     rcases hx with rfl | rfl <;> omega
   · exact byt_pk xs x hx
theorem byt_app {xs ys : List Int} (h : Byt xs) (h' : Byt ys) : Byt (xs ++ ys) := fun x hx => by
 rcases List.mem_append.1 hx with hx | hx
 · exact h x hx
 · exact h' x hx
structure LgS where
 ns : List Nd
 z : Nat
 xs : List Int
 s : Sr
def LgS.jump (g : LgS) : LgS := if (g.s.next 30).1 = 0 then ⟨g.ns, g.z - 1 + ((g.s.next 30).2.next 3).1, g.xs, ((g.s.next 30).2.next 3).2⟩ else ⟨g.ns, g.z, g.xs, (g.s.next 30).2⟩
def LgS.junk (g : LgS) : LgS := if (g.s.next 40).1 = 0 then ⟨g.ns, g.z, g.xs ++ fr ((g.s.next 40).2.bytes 5).1, ((g.s.next 40).2.bytes 5).2⟩ else ⟨g.ns, g.z, g.xs, (g.s.next 40).2⟩
def LgS.res (g : LgS) : Int × Nat × List Nd × List ByteArray := runO ((g.z : Int) + 1) (g.s.req g.ns).1 g.ns 0 []
def LgS.app (g : LgS) : LgS := ⟨g.res.2.2.1, g.z + 1, g.xs ++ fr (txnB ((g.z : Int) + 1) (dif g.ns g.res.2.2.1)), (g.s.req g.ns).2⟩
def LgS.step (g : LgS) : LgS := if g.res.1 = 0 then g.app.jump.junk else ⟨g.ns, g.z, g.xs, (g.s.req g.ns).2⟩
def LgS.run (g : LgS) : Nat → LgS
 | 0 => g
 | n + 1 => (g.run n).step
structure LgI (g : LgS) (c d e : Nat) : Prop where
 snd : Snd g.ns
 len : g.ns.length ≤ c
 z : g.z ≤ d
 xs : g.xs.length ≤ e
 byt : Byt g.xs
theorem LgI.jump {g : LgS} {c d e : Nat} (h : LgI g c d e) : LgI g.jump c (d + 2) e := by
 unfold LgS.jump
 split
 · have := (g.s.next 30).2.next_lt 3 (by omega)
   have := h.z
   exact ⟨h.snd, h.len, by show g.z - 1 + _ ≤ _; omega, h.xs, h.byt⟩
 · have := h.z
   exact ⟨h.snd, h.len, by show g.z ≤ _; omega, h.xs, h.byt⟩
theorem LgI.junk {g : LgS} {c d e : Nat} (h : LgI g c d e) : LgI g.junk c d (e + 2300) := by
 unfold LgS.junk
 have := h.xs
 split
 · have := fr_le ((g.s.next 40).2.bytes 5).1
   exact ⟨h.snd, h.len, h.z, by show (_ ++ _ : List Int).length ≤ _; rw [List.length_append]; omega, byt_app h.byt (fr_byt _)⟩
 · exact ⟨h.snd, h.len, h.z, by show g.xs.length ≤ _; omega, h.byt⟩
theorem LgI.res {g : LgS} {c d e : Nat} (h : LgI g c d e) (hd : d ≤ 1000000) : Snd g.res.2.2.1 ∧ g.res.2.2.1.length ≤ c + 5 := by
 have hz := h.z
 obtain ⟨h1, h2⟩ := runO_inv (z := (g.z : Int) + 1) (by unfold okS; simp; omega) (g.s.req g.ns).1 g.ns 0 [] h.snd
 have := (g.s.req_len g.ns).2
 have := h.len
 exact ⟨h1, by show (runO _ _ _ _ _).2.2.1.length ≤ _; omega⟩
theorem LgI.app {g : LgS} {c d e : Nat} (h : LgI g c d e) (hd : d ≤ 1000000) : LgI g.app (c + 5) (d + 1) (e + 2300) := by
 obtain ⟨h1, h2⟩ := h.res hd
 have := h.z
 have := h.xs
 have := fr_le (txnB ((g.z : Int) + 1) (dif g.ns g.res.2.2.1))
 exact ⟨h1, h2, by show g.z + 1 ≤ _; omega, by show (_ ++ _ : List Int).length ≤ _; rw [List.length_append]; omega, byt_app h.byt (fr_byt _)⟩
theorem LgI.step {g : LgS} {c d e : Nat} (h : LgI g c d e) (hd : d ≤ 1000000) : LgI g.step (c + 5) (d + 3) (e + 4600) := by
 unfold LgS.step
 split
 · exact (h.app hd).jump.junk
 · have := h.len; have := h.z; have := h.xs
   exact ⟨h.snd, by show g.ns.length ≤ _; omega, by show g.z ≤ _; omega, by show g.xs.length ≤ _; omega, h.byt⟩
theorem LgI.run {g : LgS} {c d e : Nat} (h : LgI g c d e) (hd : d ≤ 900000) : ∀ n, n ≤ 1000 → LgI (g.run n) (c + 5 * n) (d + 3 * n) (e + 4600 * n)
 | 0, _ => h
 | n + 1, hn => by
  have h2 := (h.run hd n (by omega)).step (by omega)
  rw [show c + 5 * n + 5 = c + 5 * (n + 1) by omega, show d + 3 * n + 3 = d + 3 * (n + 1) by omega, show e + 4600 * n + 4600 = e + 4600 * (n + 1) by omega] at h2
  exact h2
def opL (o : Op5) : List Value := [.int .i64 o.kind, .string o.path, .string o.data, .int .i64 o.ver, .bool o.seq]
def orow (os : List Op5) : List Value := os.flatMap opL
theorem orow_cons (o : Op5) (os : List Op5) : orow (o :: os) = opL o ++ orow os := by simp [orow]
theorem orow_one (os : List Op5) (o : Op5) : orow (os ++ [o]) = orow os ++ opL o := by simp [orow]
theorem orow_get : ∀ (os : List Op5) (i j : Nat), i < os.length → j < 5 → (orow os)[i * 5 + j]? = (opL (oAt os i))[j]?
 | [], i, j, h, _ => by simp at h
 | o :: os, 0, j, _, hj => by
  rw [orow_cons, Nat.zero_mul, Nat.zero_add, List.getElem?_append_left (by show j < 5; exact hj)]; rfl
 | o :: os, i + 1, j, h, hj => by
  rw [orow_cons, List.getElem?_append_right (by show 5 ≤ _; omega), show (i + 1) * 5 + j - (opL o).length = i * 5 + j by show (i + 1) * 5 + j - 5 = _; omega, orow_get os i j (by simpa using h) hj]
  rfl
theorem opL_cells (w : World) (o : Op5) (t : TypeId) : ∀ j u, (opL o)[j]? = some u → (w.alloc (.cells #[.int .i64 o.kind, .string o.path, .string o.data, .int .i64 o.ver, .bool o.seq] t)).cell? ((⟨w.heap.size, 0, none⟩ : Addr).add j) = some u := by
 intro j u hj
 rw [Addr.add_lit, Nat.zero_add, cell_of (heap_alloc_new w _) j, ← hj]
 simp [opL]
theorem opL_one (o : Op5) : ∀ u ∈ opL o, u.oneCell' = true := by
 intro u hu
 simp only [opL, List.mem_cons, List.mem_nil_iff, or_false] at hu
 rcases hu with rfl | rfl | rfl | rfl | rfl <;> rfl
theorem Tryz.infoO9 : (Tryz.prog.info? 123).map (fun i => (i.zero, i.size, i.bytes)) = some (some (.agg #[.int .i64 0, .string ByteArray.empty, .string ByteArray.empty, .int .i64 0, .bool false]), 5, 56) := by kernel_rfl
def OwnOps (w : World) (lo : Nat) (u : Value) (os : List Op5) : Prop := w.ownsRow lo 123 5 u os.length (orow os)
theorem OwnOps.rd {w : World} {lo : Nat} {v : Value} {os : List Op5} (h : OwnOps w lo v os) : RdO w v os := by
 rcases h.2 with ⟨rfl, h0⟩ | ⟨g, cap, cur, rfl, hb, hg, hn, hm, hs, ht⟩
 · have : os = [] := List.eq_nil_of_length_eq_zero h0
   subst this
   exact ⟨none, 0, rfl, Nat.le_refl _, Nat.zero_le _, .inl rfl⟩
 · refine ⟨_, cap, rfl, hn, hm, .inr ⟨g, 0, rfl, (Array.getElem?_eq_some_iff.1 hg).1, fun i hi => ?_⟩⟩
   have c : ∀ j, j < 5 → w.cell? ⟨g, 0 + (i * 5 + j), none⟩ = (opL (oAt os i))[j]? := fun j hj => by
    have hh := orow_get os i j hi hj
    have h9 : (opL (oAt os i))[j]? = some ((opL (oAt os i)).getD j undef) := by
     match j, hj with
     | 0, _ => rfl
     | 1, _ => rfl
     | 2, _ => rfl
     | 3, _ => rfl
     | 4, _ => rfl
    rw [h9] at hh
    have := World.ownsRow.cells h (g := g) rfl (i * 5 + j) _ hh
    rw [Addr.add_lit] at this
    rw [this, h9]
   exact ⟨c 0 (by omega), c 1 (by omega), c 2 (by omega), c 3 (by omega), c 4 (by omega)⟩
theorem OwnOps.slice {w : World} {lo : Nat} {v : Value} {os : List Op5} (h : OwnOps w lo v os) : ∃ a c, v = .slice a os.length c := by
 rcases h.2 with ⟨rfl, h0⟩ | ⟨g, cap, cur, rfl, -⟩
 · exact ⟨none, 0, by rw [h0]⟩
 · exact ⟨_, _, rfl⟩
structure QR (W : World) (k B : Nat) (v u : Value) (os : List Op5) (s : Sr) (w : World) : Prop where
 src : SRX w k B s
 tch : Tch k W w
 ct : w.cell? ⟨W.heap.size, 0, none⟩ = some v
 cr : w.cell? ⟨W.heap.size + 1, 0, none⟩ = some (.slice none 0 0)
 fr : w.frozen? ⟨W.heap.size + 1, 0, none⟩ = false
 co : w.cell? ⟨W.heap.size + 2, 0, none⟩ = some u
 fo : w.frozen? ⟨W.heap.size + 2, 0, none⟩ = false
 own : OwnOps w (W.heap.size + 3) u os
 lt : W.heap.size + 3 ≤ w.heap.size
theorem QR.next {W w w' : World} {k B : Nat} {v u : Value} {os : List Op5} {s s' : Sr} (h : QR W k B v u os s w) (hs : SRX w' k B s') (t : Tch k w w') (hk : k < W.heap.size) : QR W k B v u os s' w' := by
 have hl := h.lt
 have a := t.2 W.heap.size (by omega) (by omega)
 have b := t.2 (W.heap.size + 1) (by omega) (by omega)
 have c := t.2 (W.heap.size + 2) (by omega) (by omega)
 exact ⟨hs, h.tch.trans t, (World.cell?_of_block (w := w) (a := ⟨W.heap.size, 0, none⟩) a).trans h.ct, (World.cell?_of_block (w := w) (a := ⟨W.heap.size + 1, 0, none⟩) b).trans h.cr, (World.frozen?_of_block (w := w) b).trans h.fr, (World.cell?_of_block (w := w) (a := ⟨W.heap.size + 2, 0, none⟩) c).trans h.co, (World.frozen?_of_block (w := w) c).trans h.fo, rowTch h.own t (by omega), Nat.le_trans hl t.size⟩
theorem QR.below {W w w' : World} {k B : Nat} {v u : Value} {os : List Op5} {s : Sr} (h : QR W k B v u os s w) (hb : Below w.heap.size w w') (hk : k < W.heap.size) : QR W k B v u os s w' :=
 h.next (h.src.keep (hb.mono h.src.lt)) (Tch.of hb) hk
theorem QR.far {W w w' : World} {k B m : Nat} {v u : Value} {os : List Op5} {s : Sr} (h : QR W k B v u os s w) (hb : Below m w w') (hm : W.heap.size + 3 ≤ m) (hB : B ≤ W.heap.size) (hu : ∀ g, u.ownBlock = some g → g < m) : QR W k B v u os s w' := by
 have hl := h.lt
 refine ⟨h.src.keep (hb.mono (by omega)), h.tch.then (hb.mono (by omega)), (hb.cell (p := ⟨W.heap.size, 0, none⟩) (show W.heap.size < m by omega)).trans h.ct, (hb.cell (p := ⟨W.heap.size + 1, 0, none⟩) (show W.heap.size + 1 < m by omega)).trans h.cr, (hb.frozen (p := ⟨W.heap.size + 1, 0, none⟩) (show W.heap.size + 1 < m by omega)).trans h.fr, (hb.cell (p := ⟨W.heap.size + 2, 0, none⟩) (show W.heap.size + 2 < m by omega)).trans h.co, (hb.frozen (p := ⟨W.heap.size + 2, 0, none⟩) (show W.heap.size + 2 < m by omega)).trans h.fo, ?_, Nat.le_trans hl hb.size⟩
 refine ⟨h.own.1, ?_⟩
 rcases h.own.2 with hn | ⟨g, cap, cur, rfl, hbg, hgg, rest⟩
 · exact .inl hn
 · exact .inr ⟨g, cap, cur, rfl, hbg, by rw [hb.block g (hu g rfl)]; exact hgg, rest⟩
theorem QR.push {W w w4 : World} {k B g cap : Nat} {v u : Value} {os : List Op5} {o : Op5} {s : Sr} {ob : Obj} (h : QR W k B v u os s w) (hB : B ≤ W.heap.size) (ho : w4.ownsRow (W.heap.size + 3) 123 5 (.slice (some ⟨g, 0, none⟩) (os.length + 1) cap) (os.length + 1) (orow os ++ opL o)) (hg : (w.alloc ob).grownBy w4 u.ownBlock) :
    QR W k B v (.slice (some ⟨g, 0, none⟩) (os.length + 1) cap) (os ++ [o]) s (w4.setCell ⟨W.heap.size + 2, 0, none⟩ (.slice (some ⟨g, 0, none⟩) (os.length + 1) cap)) ∧ w4.cell? ⟨W.heap.size + 2, 0, none⟩ = some u ∧ w4.frozen? ⟨W.heap.size + 2, 0, none⟩ = false := by
 have G : w.grownBy w4 u.ownBlock := World.grownBy.trans (World.grownBy_alloc w ob _) hg
 have hlt := h.lt
 have hs4 := G.size
 have far : ∀ q, q < W.heap.size + 3 → some q ≠ u.ownBlock := fun q hq e => by have := (World.ownsRow.lt h.own q e.symm).1; omega
 have B4 : Below (W.heap.size + 3) w w4 := ⟨G.os, G.tape, G.output, G.size, fun q hq => G.block q (by omega) (far q hq)⟩
 have hg3 : W.heap.size + 3 ≤ g := (World.ownsRow.lt ho g rfl).1
 have q1 : w4.cell? ⟨W.heap.size + 2, 0, none⟩ = some u := (B4.cell (p := ⟨W.heap.size + 2, 0, none⟩) (show W.heap.size + 2 < _ by omega)).trans h.co
 have q2 : w4.frozen? ⟨W.heap.size + 2, 0, none⟩ = false := (B4.frozen (p := ⟨W.heap.size + 2, 0, none⟩) (show W.heap.size + 2 < _ by omega)).trans h.fo
 have hne : Value.ownBlock (.slice (some ⟨g, 0, none⟩) (os.length + 1) cap) ≠ some (W.heap.size + 2) := by simp [Value.ownBlock]; omega
 have ho' : OwnOps w4 (W.heap.size + 3) (.slice (some ⟨g, 0, none⟩) (os.length + 1) cap) (os ++ [o]) := by
  unfold OwnOps
  rw [List.length_append, orow_one]
  exact ho
 have B5 : Below (W.heap.size + 2) w (w4.setCell ⟨W.heap.size + 2, 0, none⟩ (.slice (some ⟨g, 0, none⟩) (os.length + 1) cap)) := (B4.mono (by omega)).setCell (by show _ ≤ W.heap.size + 2; omega) _
 refine ⟨⟨h.src.keep (B5.mono (by omega)), h.tch.then (B5.mono (by omega)), (B5.cell (p := ⟨W.heap.size, 0, none⟩) (show W.heap.size < _ by omega)).trans h.ct, (B5.cell (p := ⟨W.heap.size + 1, 0, none⟩) (show W.heap.size + 1 < _ by omega)).trans h.cr, (B5.frozen (p := ⟨W.heap.size + 1, 0, none⟩) (show W.heap.size + 1 < _ by omega)).trans h.fr, World.cell?_setCell_same _ _ _ q1, by rw [World.frozen?_setCell]; exact q2, ?_, by simp; omega⟩, q1, q2⟩
 exact World.ownsRow.kept ho' (grownBy_set _ _ _ _ _ (World.grownBy.refl _ _)) (.inr (fun e => hne e))
theorem QR.new (W : World) (k B : Nat) (v : Value) (s : Sr) (h : SRX W k B s) (t1 t2 t3 : TypeId) : QR W k B v (.slice none 0 0) [] s (((W.alloc (.cells #[v] t1)).alloc (.cells #[.slice none 0 0] t2)).alloc (.cells #[.slice none 0 0] t3)) := by
 have b : Below W.heap.size W (((W.alloc (.cells #[v] t1)).alloc (.cells #[.slice none 0 0] t2)).alloc (.cells #[.slice none 0 0] t3)) := (((Below.refl _ _).alloc (Nat.le_refl _) _).alloc (by simp) _).alloc (by simp; omega) _
 exact ⟨h.keep (b.mono h.lt), Tch.of b, by go_simp, by go_simp, by go_simp, by go_simp, by go_simp, World.ownsRow_nil _ _ _ _, by simp⟩
theorem BoxO.turn {w w' : World} {b k : Nat} {o : Op5} (h : BoxO w b o) (t : Tch k w w') (hne : b ≠ k) : BoxO w' b o := by
 obtain ⟨xl, c0, c1, c2, c3, c4⟩ := h
 have e := t.2 b hne xl
 exact ⟨Nat.lt_of_lt_of_le xl t.size, (World.cell?_of_block (w := w) (a := ⟨b, 0, none⟩) e).trans c0, (World.cell?_of_block (w := w) (a := ⟨b, 1, none⟩) e).trans c1, (World.cell?_of_block (w := w) (a := ⟨b, 2, none⟩) e).trans c2, (World.cell?_of_block (w := w) (a := ⟨b, 3, none⟩) e).trans c3, (World.cell?_of_block (w := w) (a := ⟨b, 4, none⟩) e).trans c4⟩
theorem BoxO.put {w : World} {b : Nat} {o o' : Op5} (h : BoxO w b o) : BoxO (((((w.setCell ⟨b, 0, none⟩ (.int .i64 o'.kind)).setCell ⟨b, 1, none⟩ (.string o'.path)).setCell ⟨b, 2, none⟩ (.string o'.data)).setCell ⟨b, 3, none⟩ (.int .i64 o'.ver)).setCell ⟨b, 4, none⟩ (.bool o'.seq)) b o' := by
 obtain ⟨xl, c0, c1, c2, c3, c4⟩ := h
 refine ⟨by simpa using xl, ?_, ?_, ?_, ?_, ?_⟩ <;> go_simp
theorem field_prep (x0 x1 x2 x3 x4 : Value) (W : World) : (Instr.field 128 (.agg #[x0, x1, x2, x3, x4]) 0).run Tryz.prog W = .ok x0 W := by kernel_rfl
def setO (w : World) (b : Nat) (o : Op5) : World := ((((w.setCell ⟨b, 0, none⟩ (.int .i64 o.kind)).setCell ⟨b, 1, none⟩ (.string o.path)).setCell ⟨b, 2, none⟩ (.string o.data)).setCell ⟨b, 3, none⟩ (.int .i64 o.ver)).setCell ⟨b, 4, none⟩ (.bool o.seq)
theorem setO_below (w : World) (b : Nat) (o : Op5) : Below b w (setO w b o) := by
 unfold setO
 iterate 5 refine Below.setCell ?_ (by show b ≤ b; exact Nat.le_refl _) _
 exact Below.refl _ _
theorem req_k (W : World) (k B : Nat) (s : Sr) (v : Value) (ns : List Nd) (h : SRX W k B s) (ho : RdN W v ns) (hlo : OffK k v) (hn : ns.length ≤ 1000000) (hsz : SzT ns) :
    Calls Tryz.prog 78 #[.pointer (some ⟨k, 0, none⟩), .agg #[v]] W fun e w' => ∃ u, e = .returned (.agg #[u]) ∧ OwnOps w' W.heap.size u (s.req ns).1 ∧ SRX w' k B (s.req ns).2 ∧ Tch k W w' := by
 obtain ⟨i0, hi, hz0, hz1, hz2⟩ := info_parts Tryz.infoO9
 have hk1 := h.kB
 have hk2 := h.lt
 have hkW : k < W.heap.size := by omega
 obtain ⟨av, cv, rfl⟩ : ∃ a c, v = .slice a ns.length c := by
  obtain ⟨a, c, h0, _⟩ := ho.len
  exact ⟨a, c, h0⟩
 have HLO : Hid (OffK k (.slice av ns.length cv)) := hlo
 have HSZ : Hid (SzT ns) := hsz
 have HRD : Hid (∀ w', Tch k W w' → RdN w' (.slice av ns.length cv) ns) := fun w' t => ho.tchK hlo t
 have Q0 : Hid (QR W k B (.slice av ns.length cv) (.slice none 0 0) [] s (((W.alloc (.cells #[.slice av ns.length cv] 25)).alloc (.cells #[.slice none 0 0] 132)).alloc (.cells #[.slice none 0 0] 132))) := QR.new W k B _ s h _ _ _
 have HRN : Hid (s.reqN = if (s.next 3).1 = 0 then (1 + ((s.next 3).2.next 5).1, ((s.next 3).2.next 5).2) else (1, (s.next 3).2)) := rfl
 have HREQ : Hid (s.req ns = s.reqN.2.rops ns s.reqN.1 s.reqN.1) := rfl
 clear h ho hlo hsz
 go_enter Tryz.func78, Tryz.ntmps78
 go_wp2_with fail
 generalize ((W.alloc (.cells #[.slice av ns.length cv] 25)).alloc (.cells #[.slice none 0 0] 132)).alloc (.cells #[.slice none 0 0] 132) = w0 at *
 refine (next_x _ k B 3 s Q0.out.src (by omega)).mono ?_
 rintro e w1 ⟨rfl, s1, t1⟩
 have Q1 := hd9 (Q0.out.next s1 t1 hkW)
 clear s1 t1 Q0
 generalize s.next 3 = n3 at *
 by_cases h0 : n3.1 = 0
 · have h0I : ((n3.1 : Int) == 0) = true := by simp [h0]
   have h0J : (n3.1 : Int) = 0 := by omega
   rw [if_pos h0] at HRN
   go_wp2_with fail
   refine (next_x _ k B 5 n3.2 Q1.out.src (by omega)).mono ?_
   rintro e w2 ⟨rfl, s2, t2⟩
   have Q2 := hd9 (Q1.out.next s2 t2 hkW)
   have hlt5 := n3.2.next_lt 5 (by omega)
   clear s2 t2 Q1 h0I h0J
   generalize n3.2.next 5 = n5 at *
   rw [HRN.out] at HREQ
   clear HRN
   go_wp2
   go_loopw [7] (fun i wr => ∃ (j : Nat) (u : Value), j ≤ (1 + n5.1) ∧ i = .int .i64 j ∧ Hid (QR W k B (.slice av ns.length cv) u (n5.2.rops ns (1 + n5.1) j).1 (n5.2.rops ns (1 + n5.1) j).2 wr)) (fun i _ => (1 + n5.1) - (intOf i).toNat)
   case atStart => exact ⟨0, _, Nat.zero_le _, rfl, Q2⟩
   case round =>
    clear Q2
    obtain ⟨j, u, hj, rfl, HQ⟩ := hrel
    obtain ⟨ua, uc, rfl⟩ := HQ.out.own.slice
    by_cases hlt : j < (1 + n5.1)
    · have hltI : (j : Int) < 1 + (n5.1 : Int) := by omega
      have HST : Hid (n5.2.rops ns (1 + n5.1) (j + 1) = ((n5.2.rops ns (1 + n5.1) j).1 ++ [((n5.2.rops ns (1 + n5.1) j).2.rop ns (1 + n5.1)).1], ((n5.2.rops ns (1 + n5.1) j).2.rop ns (1 + n5.1)).2)) := rfl
      have hol : (n5.2.rops ns (1 + n5.1) j).1.length ≤ 5 := by rw [n5.2.rops_len ns (1 + n5.1) j]; omega
      generalize n5.2.rops ns (1 + n5.1) j = q at *
      have ct := HQ.out.ct
      go_wp2_with fail
      clear ct
      refine (op_k _ k B q.2 _ ns HQ.out.src (HRD.out _ HQ.out.tch) HLO.out hn (fun i _ => (HSZ.out i).1)).mono ?_
      rintro e w3 ⟨rfl, s3, t3⟩
      have Q3 := hd9 (HQ.out.next s3 t3 hkW)
      have HOS : Hid (SzO (q.2.op ns).1) := q.2.op_sz HSZ.out
      have HRP : Hid (q.2.rop ns (1 + n5.1) = if 1 < (1 + n5.1) then (if ((q.2.op ns).2.next 4).1 = 0 then ((q.2.op ns).1, ((q.2.op ns).2.next 4).2) else Sr.tries ns 4 ((q.2.op ns).1, ((q.2.op ns).2.next 4).2)) else q.2.op ns) := rfl
      clear s3 t3 HQ
      generalize q.2.op ns = oq at *
      have bA : Below w3.heap.size w3 (w3.alloc (.cells #[.int .i64 oq.1.kind, .string oq.1.path, .string oq.1.data, .int .i64 oq.1.ver, .bool oq.1.seq] 123)) := (Below.refl _ _).alloc (Nat.le_refl _) _
      have Q4 := hd9 (Q3.out.below bA hkW)
      have X4 : Hid (BoxO (w3.alloc (.cells #[.int .i64 oq.1.kind, .string oq.1.path, .string oq.1.data, .int .i64 oq.1.ver, .bool oq.1.seq] 123)) w3.heap.size oq.1) := BoxO.new _ _ _
      have F4 : Hid (∀ i, (w3.alloc (.cells #[.int .i64 oq.1.kind, .string oq.1.path, .string oq.1.data, .int .i64 oq.1.ver, .bool oq.1.seq] 123)).frozen? ⟨w3.heap.size, i, none⟩ = false) := fun i => by simp
      have hOB : W.heap.size + 3 ≤ w3.heap.size := Q3.out.lt
      have hkO : w3.heap.size ≠ k := by omega
      have HVB : Hid (∀ g, Value.ownBlock (.slice ua q.1.length uc) = some g → g < w3.heap.size) := fun g e => (World.ownsRow.lt Q3.out.own g e).2
      clear bA Q3
      by_cases hN1 : 1 < (1 + n5.1)
      · have hN1I : (1 : Int) < 1 + (n5.1 : Int) := by omega
        rw [if_pos hN1] at HRP
        go_wp2_with fail
        generalize w3.alloc (.cells #[.int .i64 oq.1.kind, .string oq.1.path, .string oq.1.data, .int .i64 oq.1.ver, .bool oq.1.seq] 123) = w4' at *
        generalize w3.heap.size = OB at *
        refine (next_x _ k B 4 oq.2 Q4.out.src (by omega)).mono ?_
        rintro e w5 ⟨rfl, s5, t5⟩
        have Q5 := hd9 (Q4.out.next s5 t5 hkW)
        have X5 := hd9 (X4.out.turn t5 hkO)
        have F5 : Hid (∀ i, w5.frozen? ⟨OB, i, none⟩ = false) := fun i => (World.frozen?_of_block (t5.2 OB hkO X4.out.1)).trans (F4.out i)
        clear s5 t5 Q4 X4 F4
        generalize oq.2.next 4 = n4 at *
        by_cases h4 : n4.1 = 0
        · rw [if_pos h4] at HRP
          have h4I : ((n4.1 : Int) == 0) = true := by simp [h4]
          have h4J : (n4.1 : Int) = 0 := by omega
          have HOW : Hid (∀ ob, (World.alloc w5 ob).ownsRow (W.heap.size + 3) 123 5 (.slice ua q.1.length uc) q.1.length (orow q.1)) := fun ob => World.ownsRow.alloc Q5.out.own ob
          have HLT : W.heap.size + 3 ≤ w5.heap.size := by
           have h9 := Q5.out.lt
           have e9 : w5.heap.size = w5.heap.size := rfl
           omega
          have HCL : Hid (∀ j u, (opL oq.1)[j]? = some u → (World.alloc w5 (.cells #[.int .i64 oq.1.kind, .string oq.1.path, .string oq.1.data, .int .i64 oq.1.ver, .bool oq.1.seq] 123)).cell? ((⟨w5.heap.size, 0, none⟩ : Addr).add j) = some u) := by
           have h9 := opL_cells w5 oq.1 123
           have e9 : w5.heap.size = w5.heap.size := rfl
           rw [e9] at h9
           exact h9
          obtain ⟨xl, c0, c1, c2, c3, c4⟩ := X5.out
          have co : w5.cell? ⟨W.heap.size + 1 + 1, 0, none⟩ = some (.slice ua q.1.length uc) := Q5.out.co
          have fo : w5.frozen? ⟨W.heap.size + 1 + 1, 0, none⟩ = false := Q5.out.fo
          have hne2 : W.heap.size + 1 + 1 ≠ OB := by omega
          go_wp2_with (at_builtin; go_must (refine wpList_append_lies _ rfl _ _ 130 rfl (W.heap.size + 3) 123 i0 _ 5 56 Tryz.underlying130 hi hz0 hz1 hz2 rfl (by omega) (.slice ua q.1.length uc) q.1.length (orow q.1) rfl (HOW.out _) ⟨w5.heap.size, 0, none⟩ 1 1 (opL oq.1) rfl rfl HCL.out (opL_one _) (by omega) (by unfold maxLen; omega) (by omega) (by simp; omega) (w5.heap.size + 1) (by simp) ?_))
          intro g4 cap4 w4 ho4 hg4 hat4 hlt4
          obtain ⟨P4, q4, q5⟩ := Q5.out.push (by omega) ho4 hg4
          have q6 : w4.cell? ⟨W.heap.size + 1 + 1, 0, none⟩ = some (.slice ua q.1.length uc) := q4
          have q7 : w4.frozen? ⟨W.heap.size + 1 + 1, 0, none⟩ = false := q5
          all_goals
           have HP : Hid (QR W k B (.slice av ns.length cv) (.slice (some ⟨g4, 0, none⟩) (q.1.length + 1) cap4) (q.1 ++ [oq.1]) n4.2 (w4.setCell ⟨W.heap.size + 2, 0, none⟩ (.slice (some ⟨g4, 0, none⟩) (q.1.length + 1) cap4))) := P4
           clear P4 q4 q5 ho4 hg4 hat4 hlt4 HOW HCL xl c0 c1 c2 c3 c4 co fo Q5 X5 F5 HVB HOS
           go_wp2
           go_roundw
           case rel => exact ⟨j + 1, _, by omega, by go_num, by rw [HST.out, HRP.out]; exact HP⟩
           case measure => simp [intOf]; omega
        · rw [if_neg h4] at HRP
          have h4I : ((n4.1 : Int) == 0) = false := by simp; omega
          have h4J : ¬ (n4.1 : Int) = 0 := by omega
          have h4K : ((n4.1 : Int) != 0) = true := by simp; omega
          go_wp2
          go_loopw [9] (fun i wr => ∃ (t : Nat) (p : Op5 × Sr), t ≤ 4 ∧ i = .int .i64 t ∧ Hid (QR W k B (.slice av ns.length cv) (.slice ua q.1.length uc) q.1 p.2 wr) ∧ Hid (BoxO wr OB p.1) ∧ Hid (∀ i, wr.frozen? ⟨OB, i, none⟩ = false) ∧ Hid (SzO p.1) ∧ Hid (q.2.rop ns (1 + n5.1) = Sr.tries ns (4 - t) p)) (fun i _ => 4 - (intOf i).toNat)
          case atStart => exact ⟨0, (oq.1, n4.2), by omega, rfl, Q5, X5, F5, HOS, HRP⟩
          case round =>
           clear Q5 X5 F5 HOS HRP h4I h4J h4 h4K
           obtain ⟨t, p, ht, rfl, Q6, X6, F6, Z6, R6⟩ := hrel
           rename_i wr
           by_cases htl : t < 4
           · have htI : (t : Int) < 4 := by omega
             obtain ⟨m, hm⟩ : ∃ m, 4 - t = m + 1 := ⟨3 - t, by omega⟩
             have hm2 : 4 - (t + 1) = m := by omega
             have R7 : Hid (q.2.rop ns (1 + n5.1) = if prC ns p.1 = 0 then p else Sr.tries ns m (p.2.op ns)) := by
              have := R6.out
              rw [hm] at this
              exact this
             have RO : Hid (RdO (wr.alloc (.cells #[.int .i64 p.1.kind, .string p.1.path, .string p.1.data, .int .i64 p.1.ver, .bool p.1.seq] 123)) (.slice (some ⟨wr.heap.size, 0, none⟩) 1 1) [p.1]) := rdO_one wr p.1 _
             have b7 : Below wr.heap.size wr (wr.alloc (.cells #[.int .i64 p.1.kind, .string p.1.path, .string p.1.data, .int .i64 p.1.ver, .bool p.1.seq] 123)) := (Below.refl _ _).alloc (Nat.le_refl _) _
             have Q7 := hd9 (Q6.out.below b7 hkW)
             have X7 := hd9 (X6.out.below b7)
             have F7 : Hid (∀ i, (wr.alloc (.cells #[.int .i64 p.1.kind, .string p.1.path, .string p.1.data, .int .i64 p.1.ver, .bool p.1.seq] 123)).frozen? ⟨OB, i, none⟩ = false) := fun i => (b7.frozen (p := ⟨OB, i, none⟩) X6.out.1).trans (F6.out i)
             obtain ⟨xl, c0, c1, c2, c3, c4⟩ := X6.out
             have ct := Q6.out.ct
             go_wp2_with fail
             clear xl c0 c1 c2 c3 c4 ct b7 Q6 X6 F6 R6
             generalize wr.alloc (.cells #[.int .i64 p.1.kind, .string p.1.path, .string p.1.data, .int .i64 p.1.ver, .bool p.1.seq] 123) = w7 at *
             refine (prep1 _ _ _ ns p.1 (HRD.out _ Q7.out.tch) RO.out (by omega) HSZ.out Z6.out).mono ?_
             rintro e w8 ⟨i8, a1, n1, d1, z8, a2, n2, d2, rfl, b8⟩
             have Q8 := hd9 (Q7.out.below b8 hkW)
             have X8 := hd9 (X7.out.below b8)
             have F8 : Hid (∀ i, w8.frozen? ⟨OB, i, none⟩ = false) := fun i => (b8.frozen (p := ⟨OB, i, none⟩) X7.out.1).trans (F7.out i)
             clear b8 Q7 X7 F7 RO
             have hf9 := field_prep (.int .i64 (prC ns p.1)) (.int .i64 i8) (.slice a1 n1 d1) (.int .i64 z8) (.slice a2 n2 d2) w8
             by_cases hc : prC ns p.1 = 0
             · rw [if_pos hc] at R7
               have hcb : (prC ns p.1 == 0) = true := by simpa using hc
               rw [hc] at hf9
               have HOW : Hid (∀ ob, (World.alloc w8 ob).ownsRow (W.heap.size + 3) 123 5 (.slice ua q.1.length uc) q.1.length (orow q.1)) := fun ob => World.ownsRow.alloc Q8.out.own ob
               have HLT : W.heap.size + 3 ≤ w8.heap.size := by
                have h9 := Q8.out.lt
                have e9 : w8.heap.size = w8.heap.size := rfl
                omega
               have HCL : Hid (∀ j u, (opL p.1)[j]? = some u → (World.alloc w8 (.cells #[.int .i64 p.1.kind, .string p.1.path, .string p.1.data, .int .i64 p.1.ver, .bool p.1.seq] 123)).cell? ((⟨w8.heap.size, 0, none⟩ : Addr).add j) = some u) := by
                have h9 := opL_cells w8 p.1 123
                have e9 : w8.heap.size = w8.heap.size := rfl
                rw [e9] at h9
                exact h9
               obtain ⟨xl, c0, c1, c2, c3, c4⟩ := X8.out
               have co : w8.cell? ⟨W.heap.size + 1 + 1, 0, none⟩ = some (.slice ua q.1.length uc) := Q8.out.co
               have fo : w8.frozen? ⟨W.heap.size + 1 + 1, 0, none⟩ = false := Q8.out.fo
               have hne2 : W.heap.size + 1 + 1 ≠ OB := by omega
               go_wp2_with (at_builtin; go_must (refine wpList_append_lies _ rfl _ _ 130 rfl (W.heap.size + 3) 123 i0 _ 5 56 Tryz.underlying130 hi hz0 hz1 hz2 rfl (by omega) (.slice ua q.1.length uc) q.1.length (orow q.1) rfl (HOW.out _) ⟨w8.heap.size, 0, none⟩ 1 1 (opL p.1) rfl rfl HCL.out (opL_one _) (by omega) (by unfold maxLen; omega) (by omega) (by simp; omega) (w8.heap.size + 1) (by simp) ?_))
               intro g4 cap4 w4 ho4 hg4 hat4 hlt4
               obtain ⟨P4, q4, q5⟩ := Q8.out.push (by omega) ho4 hg4
               have q6 : w4.cell? ⟨W.heap.size + 1 + 1, 0, none⟩ = some (.slice ua q.1.length uc) := q4
               have q7 : w4.frozen? ⟨W.heap.size + 1 + 1, 0, none⟩ = false := q5
               all_goals
                have HP : Hid (QR W k B (.slice av ns.length cv) (.slice (some ⟨g4, 0, none⟩) (q.1.length + 1) cap4) (q.1 ++ [p.1]) p.2 (w4.setCell ⟨W.heap.size + 2, 0, none⟩ (.slice (some ⟨g4, 0, none⟩) (q.1.length + 1) cap4))) := P4
                clear P4 q4 q5 ho4 hg4 hat4 hlt4 HOW HCL xl c0 c1 c2 c3 c4 co fo Q8 X8 F8 HVB Z6
                go_wp2
                go_roundw
                case rel => exact ⟨j + 1, _, by omega, by go_num, by rw [HST.out, R7.out]; exact HP⟩
                case measure => simp [intOf]; omega
             · rw [if_neg hc] at R7
               have hcb : (prC ns p.1 == 0) = false := by simpa using hc
               have ct := Q8.out.ct
               go_wp2_with fail
               clear ct
               refine (op_k _ k B p.2 _ ns Q8.out.src (HRD.out _ Q8.out.tch) HLO.out hn (fun i _ => (HSZ.out i).1)).mono ?_
               rintro e w9 ⟨rfl, s9, t9⟩
               have Q9 := hd9 (Q8.out.next s9 t9 hkW)
               have X9 := hd9 (X8.out.turn t9 hkO)
               have F9 : Hid (∀ i, w9.frozen? ⟨OB, i, none⟩ = false) := fun i => (World.frozen?_of_block (t9.2 OB hkO X8.out.1)).trans (F8.out i)
               have Z9 : Hid (SzO (p.2.op ns).1) := p.2.op_sz HSZ.out
               clear s9 t9 Q8 X8 F8
               have R9 : Hid (q.2.rop ns (1 + n5.1) = Sr.tries ns (4 - (t + 1)) (p.2.op ns)) := by rw [hm2]; exact R7.out
               generalize p.2.op ns = pn at *
               have Q10 : Hid (QR W k B (.slice av ns.length cv) (.slice ua q.1.length uc) q.1 pn.2 (setO w9 OB pn.1)) := Q9.out.far (setO_below _ _ _) hOB (by omega) HVB.out
               have X10 : Hid (BoxO (setO w9 OB pn.1) OB pn.1) := X9.out.put
               have F10 : Hid (∀ i, (setO w9 OB pn.1).frozen? ⟨OB, i, none⟩ = false) := fun i => by unfold setO; simp only [World.frozen?_setCell]; exact F9.out i
               unfold setO at Q10 X10 F10
               obtain ⟨xl, c0, c1, c2, c3, c4⟩ := X9.out
               have f0 := F9.out 0
               have f1 := F9.out 1
               have f2 := F9.out 2
               have f3 := F9.out 3
               have f4 := F9.out 4
               clear Q9 X9 F9 R7
               go_wp2
               go_roundw
               case rel => exact ⟨t + 1, pn, by omega, by go_num, Q10, X10, F10, Z9, R9⟩
               case measure => simp [intOf]; omega
           · have ht4 : t = 4 := by omega
             subst ht4
             have R7 : Hid (q.2.rop ns (1 + n5.1) = p) := R6.out
             have HOW : Hid (∀ ob, (World.alloc wr ob).ownsRow (W.heap.size + 3) 123 5 (.slice ua q.1.length uc) q.1.length (orow q.1)) := fun ob => World.ownsRow.alloc Q6.out.own ob
             have HLT : W.heap.size + 3 ≤ wr.heap.size := by
              have h9 := Q6.out.lt
              have e9 : wr.heap.size = wr.heap.size := rfl
              omega
             have HCL : Hid (∀ j u, (opL p.1)[j]? = some u → (World.alloc wr (.cells #[.int .i64 p.1.kind, .string p.1.path, .string p.1.data, .int .i64 p.1.ver, .bool p.1.seq] 123)).cell? ((⟨wr.heap.size, 0, none⟩ : Addr).add j) = some u) := by
              have h9 := opL_cells wr p.1 123
              have e9 : wr.heap.size = wr.heap.size := rfl
              rw [e9] at h9
              exact h9
             obtain ⟨xl, c0, c1, c2, c3, c4⟩ := X6.out
             have co : wr.cell? ⟨W.heap.size + 1 + 1, 0, none⟩ = some (.slice ua q.1.length uc) := Q6.out.co
             have fo : wr.frozen? ⟨W.heap.size + 1 + 1, 0, none⟩ = false := Q6.out.fo
             have hne2 : W.heap.size + 1 + 1 ≠ OB := by omega
             go_wp2_with (at_builtin; go_must (refine wpList_append_lies _ rfl _ _ 130 rfl (W.heap.size + 3) 123 i0 _ 5 56 Tryz.underlying130 hi hz0 hz1 hz2 rfl (by omega) (.slice ua q.1.length uc) q.1.length (orow q.1) rfl (HOW.out _) ⟨wr.heap.size, 0, none⟩ 1 1 (opL p.1) rfl rfl HCL.out (opL_one _) (by omega) (by unfold maxLen; omega) (by omega) (by simp; omega) (wr.heap.size + 1) (by simp) ?_))
             intro g4 cap4 w4 ho4 hg4 hat4 hlt4
             obtain ⟨P4, q4, q5⟩ := Q6.out.push (by omega) ho4 hg4
             have q6 : w4.cell? ⟨W.heap.size + 1 + 1, 0, none⟩ = some (.slice ua q.1.length uc) := q4
             have q7 : w4.frozen? ⟨W.heap.size + 1 + 1, 0, none⟩ = false := q5
             all_goals
              have HP : Hid (QR W k B (.slice av ns.length cv) (.slice (some ⟨g4, 0, none⟩) (q.1.length + 1) cap4) (q.1 ++ [p.1]) p.2 (w4.setCell ⟨W.heap.size + 2, 0, none⟩ (.slice (some ⟨g4, 0, none⟩) (q.1.length + 1) cap4))) := P4
              clear P4 q4 q5 ho4 hg4 hat4 hlt4 HOW HCL xl c0 c1 c2 c3 c4 co fo Q6 X6 F6 HVB Z6 R6
              go_wp2
              go_roundw
              case rel => exact ⟨j + 1, _, by omega, by go_num, by rw [HST.out, R7.out]; exact HP⟩
              case measure => simp [intOf]; omega
      · have hN1I : ¬ (1 : Int) < 1 + (n5.1 : Int) := by omega
        rw [if_neg hN1] at HRP
        have HOW : Hid (∀ ob, (World.alloc (w3.alloc (.cells #[.int .i64 oq.1.kind, .string oq.1.path, .string oq.1.data, .int .i64 oq.1.ver, .bool oq.1.seq] 123)) ob).ownsRow (W.heap.size + 3) 123 5 (.slice ua q.1.length uc) q.1.length (orow q.1)) := fun ob => World.ownsRow.alloc Q4.out.own ob
        have HLT : W.heap.size + 3 ≤ (w3.heap.size + 1) := by
         have h9 := Q4.out.lt
         have e9 : (w3.alloc (.cells #[.int .i64 oq.1.kind, .string oq.1.path, .string oq.1.data, .int .i64 oq.1.ver, .bool oq.1.seq] 123)).heap.size = (w3.heap.size + 1) := by simp
         omega
        have HCL : Hid (∀ j u, (opL oq.1)[j]? = some u → (World.alloc (w3.alloc (.cells #[.int .i64 oq.1.kind, .string oq.1.path, .string oq.1.data, .int .i64 oq.1.ver, .bool oq.1.seq] 123)) (.cells #[.int .i64 oq.1.kind, .string oq.1.path, .string oq.1.data, .int .i64 oq.1.ver, .bool oq.1.seq] 123)).cell? ((⟨(w3.heap.size + 1), 0, none⟩ : Addr).add j) = some u) := by
         have h9 := opL_cells (w3.alloc (.cells #[.int .i64 oq.1.kind, .string oq.1.path, .string oq.1.data, .int .i64 oq.1.ver, .bool oq.1.seq] 123)) oq.1 123
         have e9 : (w3.alloc (.cells #[.int .i64 oq.1.kind, .string oq.1.path, .string oq.1.data, .int .i64 oq.1.ver, .bool oq.1.seq] 123)).heap.size = (w3.heap.size + 1) := by simp
         rw [e9] at h9
         exact h9
        obtain ⟨xl, c0, c1, c2, c3, c4⟩ := X4.out
        have co : (w3.alloc (.cells #[.int .i64 oq.1.kind, .string oq.1.path, .string oq.1.data, .int .i64 oq.1.ver, .bool oq.1.seq] 123)).cell? ⟨W.heap.size + 1 + 1, 0, none⟩ = some (.slice ua q.1.length uc) := Q4.out.co
        have fo : (w3.alloc (.cells #[.int .i64 oq.1.kind, .string oq.1.path, .string oq.1.data, .int .i64 oq.1.ver, .bool oq.1.seq] 123)).frozen? ⟨W.heap.size + 1 + 1, 0, none⟩ = false := Q4.out.fo
        have hne2 : W.heap.size + 1 + 1 ≠ w3.heap.size := by omega
        go_wp2_with (at_builtin; go_must (refine wpList_append_lies _ rfl _ _ 130 rfl (W.heap.size + 3) 123 i0 _ 5 56 Tryz.underlying130 hi hz0 hz1 hz2 rfl (by omega) (.slice ua q.1.length uc) q.1.length (orow q.1) rfl (HOW.out _) ⟨(w3.heap.size + 1), 0, none⟩ 1 1 (opL oq.1) rfl rfl HCL.out (opL_one _) (by omega) (by unfold maxLen; omega) (by omega) (by simp; omega) ((w3.heap.size + 1) + 1) (by simp) ?_))
        intro g4 cap4 w4 ho4 hg4 hat4 hlt4
        obtain ⟨P4, q4, q5⟩ := Q4.out.push (by omega) ho4 hg4
        have q6 : w4.cell? ⟨W.heap.size + 1 + 1, 0, none⟩ = some (.slice ua q.1.length uc) := q4
        have q7 : w4.frozen? ⟨W.heap.size + 1 + 1, 0, none⟩ = false := q5
        all_goals
         have HP : Hid (QR W k B (.slice av ns.length cv) (.slice (some ⟨g4, 0, none⟩) (q.1.length + 1) cap4) (q.1 ++ [oq.1]) oq.2 (w4.setCell ⟨W.heap.size + 2, 0, none⟩ (.slice (some ⟨g4, 0, none⟩) (q.1.length + 1) cap4))) := P4
         clear P4 q4 q5 ho4 hg4 hat4 hlt4 HOW HCL xl c0 c1 c2 c3 c4 co fo Q4 X4 F4 HVB HOS
         go_wp2
         go_roundw
         case rel => exact ⟨j + 1, _, by omega, by go_num, by rw [HST.out, HRP.out]; exact HP⟩
         case measure => simp [intOf]; omega
    · have hjn : j = (1 + n5.1) := by omega
      have hltI : ¬ (j : Int) < 1 + (n5.1 : Int) := by omega
      have co : wr.cell? ⟨W.heap.size + 1 + 1, 0, none⟩ = some (.slice ua (n5.2.rops ns (1 + n5.1) j).1.length uc) := HQ.out.co
      have cr := HQ.out.cr
      have fr := HQ.out.fr
      have F : Hid (OwnOps (wr.setCell ⟨W.heap.size + 1, 0, none⟩ (.slice ua (n5.2.rops ns (1 + n5.1) j).1.length uc)) W.heap.size (.slice ua (n5.2.rops ns (1 + n5.1) j).1.length uc) (s.req ns).1 ∧ SRX (wr.setCell ⟨W.heap.size + 1, 0, none⟩ (.slice ua (n5.2.rops ns (1 + n5.1) j).1.length uc)) k B (s.req ns).2 ∧ Tch k W (wr.setCell ⟨W.heap.size + 1, 0, none⟩ (.slice ua (n5.2.rops ns (1 + n5.1) j).1.length uc))) := by
       have e : s.req ns = n5.2.rops ns (1 + n5.1) j := by rw [HREQ.out, hjn]
       rw [e]
       refine ⟨rowP_mono (World.ownsRow.kept HQ.out.own (grownBy_set _ _ _ _ _ (World.grownBy.refl _ _)) (.inr (fun e => ?_))) (by omega), HQ.out.src.keep ((Below.refl _ _).setCell (by show B ≤ W.heap.size + 1; omega) _), HQ.out.tch.then ((Below.refl _ _).setCell (by show W.heap.size ≤ W.heap.size + 1; omega) _)⟩
       have := (World.ownsRow.lt HQ.out.own _ e).1
       omega
      clear HQ hjn
      go_wp2
      exact bodyPost_ret (v := .agg #[.slice ua (n5.2.rops ns (1 + n5.1) j).1.length uc]) (by simp [results, Tryz.results78, go_sem, cr]) rfl ⟨_, rfl, F.out.1, F.out.2.1, F.out.2.2⟩
 · have h0I : ((n3.1 : Int) == 0) = false := by simp; omega
   have h0J : ¬ (n3.1 : Int) = 0 := by omega
   rw [if_neg h0] at HRN
   rw [HRN.out] at HREQ
   clear HRN
   go_wp2
   go_loopw [7] (fun i wr => ∃ (j : Nat) (u : Value), j ≤ 1 ∧ i = .int .i64 j ∧ Hid (QR W k B (.slice av ns.length cv) u (n3.2.rops ns 1 j).1 (n3.2.rops ns 1 j).2 wr)) (fun i _ => 1 - (intOf i).toNat)
   case atStart => exact ⟨0, _, Nat.zero_le _, rfl, Q1⟩
   case round =>
    clear Q1
    obtain ⟨j, u, hj, rfl, HQ⟩ := hrel
    obtain ⟨ua, uc, rfl⟩ := HQ.out.own.slice
    by_cases hlt : j < 1
    · have hltI : (j : Int) < 1 := by omega
      have HST : Hid (n3.2.rops ns 1 (j + 1) = ((n3.2.rops ns 1 j).1 ++ [((n3.2.rops ns 1 j).2.rop ns 1).1], ((n3.2.rops ns 1 j).2.rop ns 1).2)) := rfl
      have hol : (n3.2.rops ns 1 j).1.length ≤ 5 := by rw [n3.2.rops_len ns 1 j]; omega
      generalize n3.2.rops ns 1 j = q at *
      have ct := HQ.out.ct
      go_wp2_with fail
      clear ct
      refine (op_k _ k B q.2 _ ns HQ.out.src (HRD.out _ HQ.out.tch) HLO.out hn (fun i _ => (HSZ.out i).1)).mono ?_
      rintro e w3 ⟨rfl, s3, t3⟩
      have Q3 := hd9 (HQ.out.next s3 t3 hkW)
      have HOS : Hid (SzO (q.2.op ns).1) := q.2.op_sz HSZ.out
      have HRP : Hid (q.2.rop ns 1 = if 1 < 1 then (if ((q.2.op ns).2.next 4).1 = 0 then ((q.2.op ns).1, ((q.2.op ns).2.next 4).2) else Sr.tries ns 4 ((q.2.op ns).1, ((q.2.op ns).2.next 4).2)) else q.2.op ns) := rfl
      clear s3 t3 HQ
      generalize q.2.op ns = oq at *
      have bA : Below w3.heap.size w3 (w3.alloc (.cells #[.int .i64 oq.1.kind, .string oq.1.path, .string oq.1.data, .int .i64 oq.1.ver, .bool oq.1.seq] 123)) := (Below.refl _ _).alloc (Nat.le_refl _) _
      have Q4 := hd9 (Q3.out.below bA hkW)
      have X4 : Hid (BoxO (w3.alloc (.cells #[.int .i64 oq.1.kind, .string oq.1.path, .string oq.1.data, .int .i64 oq.1.ver, .bool oq.1.seq] 123)) w3.heap.size oq.1) := BoxO.new _ _ _
      have F4 : Hid (∀ i, (w3.alloc (.cells #[.int .i64 oq.1.kind, .string oq.1.path, .string oq.1.data, .int .i64 oq.1.ver, .bool oq.1.seq] 123)).frozen? ⟨w3.heap.size, i, none⟩ = false) := fun i => by simp
      have hOB : W.heap.size + 3 ≤ w3.heap.size := Q3.out.lt
      have hkO : w3.heap.size ≠ k := by omega
      have HVB : Hid (∀ g, Value.ownBlock (.slice ua q.1.length uc) = some g → g < w3.heap.size) := fun g e => (World.ownsRow.lt Q3.out.own g e).2
      clear bA Q3
      rw [if_neg (by omega)] at HRP
      have HOW : Hid (∀ ob, (World.alloc (w3.alloc (.cells #[.int .i64 oq.1.kind, .string oq.1.path, .string oq.1.data, .int .i64 oq.1.ver, .bool oq.1.seq] 123)) ob).ownsRow (W.heap.size + 3) 123 5 (.slice ua q.1.length uc) q.1.length (orow q.1)) := fun ob => World.ownsRow.alloc Q4.out.own ob
      have HLT : W.heap.size + 3 ≤ (w3.heap.size + 1) := by
       have h9 := Q4.out.lt
       have e9 : (w3.alloc (.cells #[.int .i64 oq.1.kind, .string oq.1.path, .string oq.1.data, .int .i64 oq.1.ver, .bool oq.1.seq] 123)).heap.size = (w3.heap.size + 1) := by simp
       omega
      have HCL : Hid (∀ j u, (opL oq.1)[j]? = some u → (World.alloc (w3.alloc (.cells #[.int .i64 oq.1.kind, .string oq.1.path, .string oq.1.data, .int .i64 oq.1.ver, .bool oq.1.seq] 123)) (.cells #[.int .i64 oq.1.kind, .string oq.1.path, .string oq.1.data, .int .i64 oq.1.ver, .bool oq.1.seq] 123)).cell? ((⟨(w3.heap.size + 1), 0, none⟩ : Addr).add j) = some u) := by
       have h9 := opL_cells (w3.alloc (.cells #[.int .i64 oq.1.kind, .string oq.1.path, .string oq.1.data, .int .i64 oq.1.ver, .bool oq.1.seq] 123)) oq.1 123
       have e9 : (w3.alloc (.cells #[.int .i64 oq.1.kind, .string oq.1.path, .string oq.1.data, .int .i64 oq.1.ver, .bool oq.1.seq] 123)).heap.size = (w3.heap.size + 1) := by simp
       rw [e9] at h9
       exact h9
      obtain ⟨xl, c0, c1, c2, c3, c4⟩ := X4.out
      have co : (w3.alloc (.cells #[.int .i64 oq.1.kind, .string oq.1.path, .string oq.1.data, .int .i64 oq.1.ver, .bool oq.1.seq] 123)).cell? ⟨W.heap.size + 1 + 1, 0, none⟩ = some (.slice ua q.1.length uc) := Q4.out.co
      have fo : (w3.alloc (.cells #[.int .i64 oq.1.kind, .string oq.1.path, .string oq.1.data, .int .i64 oq.1.ver, .bool oq.1.seq] 123)).frozen? ⟨W.heap.size + 1 + 1, 0, none⟩ = false := Q4.out.fo
      have hne2 : W.heap.size + 1 + 1 ≠ w3.heap.size := by omega
      go_wp2_with (at_builtin; go_must (refine wpList_append_lies _ rfl _ _ 130 rfl (W.heap.size + 3) 123 i0 _ 5 56 Tryz.underlying130 hi hz0 hz1 hz2 rfl (by omega) (.slice ua q.1.length uc) q.1.length (orow q.1) rfl (HOW.out _) ⟨(w3.heap.size + 1), 0, none⟩ 1 1 (opL oq.1) rfl rfl HCL.out (opL_one _) (by omega) (by unfold maxLen; omega) (by omega) (by simp; omega) ((w3.heap.size + 1) + 1) (by simp) ?_))
      intro g4 cap4 w4 ho4 hg4 hat4 hlt4
      obtain ⟨P4, q4, q5⟩ := Q4.out.push (by omega) ho4 hg4
      have q6 : w4.cell? ⟨W.heap.size + 1 + 1, 0, none⟩ = some (.slice ua q.1.length uc) := q4
      have q7 : w4.frozen? ⟨W.heap.size + 1 + 1, 0, none⟩ = false := q5
      all_goals
       have HP : Hid (QR W k B (.slice av ns.length cv) (.slice (some ⟨g4, 0, none⟩) (q.1.length + 1) cap4) (q.1 ++ [oq.1]) oq.2 (w4.setCell ⟨W.heap.size + 2, 0, none⟩ (.slice (some ⟨g4, 0, none⟩) (q.1.length + 1) cap4))) := P4
       clear P4 q4 q5 ho4 hg4 hat4 hlt4 HOW HCL xl c0 c1 c2 c3 c4 co fo Q4 X4 F4 HVB HOS
       go_wp2
       go_roundw
       case rel => exact ⟨j + 1, _, by omega, by go_num, by rw [HST.out, HRP.out]; exact HP⟩
       case measure => simp [intOf]; omega
    · have hjn : j = 1 := by omega
      have hltI : ¬ (j : Int) < 1 := by omega
      have co : wr.cell? ⟨W.heap.size + 1 + 1, 0, none⟩ = some (.slice ua (n3.2.rops ns 1 j).1.length uc) := HQ.out.co
      have cr := HQ.out.cr
      have fr := HQ.out.fr
      have F : Hid (OwnOps (wr.setCell ⟨W.heap.size + 1, 0, none⟩ (.slice ua (n3.2.rops ns 1 j).1.length uc)) W.heap.size (.slice ua (n3.2.rops ns 1 j).1.length uc) (s.req ns).1 ∧ SRX (wr.setCell ⟨W.heap.size + 1, 0, none⟩ (.slice ua (n3.2.rops ns 1 j).1.length uc)) k B (s.req ns).2 ∧ Tch k W (wr.setCell ⟨W.heap.size + 1, 0, none⟩ (.slice ua (n3.2.rops ns 1 j).1.length uc))) := by
       have e : s.req ns = n3.2.rops ns 1 j := by rw [HREQ.out, hjn]
       rw [e]
       refine ⟨rowP_mono (World.ownsRow.kept HQ.out.own (grownBy_set _ _ _ _ _ (World.grownBy.refl _ _)) (.inr (fun e => ?_))) (by omega), HQ.out.src.keep ((Below.refl _ _).setCell (by show B ≤ W.heap.size + 1; omega) _), HQ.out.tch.then ((Below.refl _ _).setCell (by show W.heap.size ≤ W.heap.size + 1; omega) _)⟩
       have := (World.ownsRow.lt HQ.out.own _ e).1
       omega
      clear HQ hjn
      go_wp2
      exact bodyPost_ret (v := .agg #[.slice ua (n3.2.rops ns 1 j).1.length uc]) (by simp [results, Tryz.results78, go_sem, cr]) rfl ⟨_, rfl, F.out.1, F.out.2.1, F.out.2.2⟩
theorem txB_byt9 {s : ByteArray} (h : s.size < 256) : Byt (txB s) := by
 intro x hx
 unfold txB at hx
 rcases List.mem_append.1 hx with hx | hx
 · simp at hx; omega
 · unfold strN at hx
   obtain ⟨b, -, rfl⟩ := List.mem_map.1 hx
   have := b.toNat_lt
   omega
theorem nodeB_byt9 {n : Nd} (h : okNd n = true) : Byt (nodeB n) := by
 have hs := okNd_all h
 intro x hx
 unfold nodeB stB at hx
 simp only [List.mem_append] at hx
 rcases hx with (hx | hx) | ((((hx | hx) | hx) | hx) | hx)
 · exact txB_byt9 (by omega) x hx
 · exact txB_byt9 (by omega) x hx
 all_goals exact bigR_byt _ _ x hx
theorem txnB_byt (z : Int) (es : List Ef) : Byt (txnB z es) := by
 unfold txnB
 split
 · rename_i h
   obtain ⟨-, -, -, h4⟩ := okTxn_all h
   refine byt_app (byt_app (bigR_byt 4 _) (bigR_byt 2 _)) ?_
   intro x hx
   unfold effsB at hx
   obtain ⟨e, he, hx⟩ := List.mem_flatMap.1 hx
   obtain ⟨i, hi, rfl⟩ := List.mem_iff_getElem.1 he
   have h5 := okEf_nd' (h4 i hi)
   rw [eAt_get hi] at h5
   have h6 := okNd_all h5
   unfold effB at hx
   split at hx
   · rcases List.mem_append.1 hx with h | h
     · simp at h; subst h; omega
     · exact txB_byt9 (by omega) x h
   · rcases List.mem_append.1 hx with h | h
     · simp at h; subst h; omega
     · exact nodeB_byt9 h5 x h
 · intro x hx; cases hx
theorem wpList_append_two {ops : Array Oper} {rest : List Oper} {o : Oper} {a : Act} {Q : Exit → Act → World → Prop} {w : World} (hgd : o.guard = none) (s x : Operand)
    (ho : o.op = .call { callee := .builtin .append, args := #[s, x], argTypes := #[22, 22] })
    (base lo : Nat) (v u : Value) (xs ys : List Int) (hs : a.eval s = v) (hv : Own .u8 5 w base v xs) (hx : a.eval x = u) (hu : Own .u8 5 w lo u ys) (hb : base ≤ w.heap.size) (hl : xs.length + ys.length ≤ 1048576)
    (h : ∀ v' w', Own .u8 5 w' base v' (xs ++ ys) → w.grownBy w' v.ownBlock → wpList Tryz.prog ops Q rest (a.put o.dst v') w') : wpList Tryz.prog ops Q (o :: rest) a w := by
 obtain ⟨i0, hi, hz0, hz1, hz2⟩ := info_parts Tryz.infoB
 rcases hu.row with ⟨rfl, h3⟩ | ⟨g, cp, rfl, hbg, hmc, hcm⟩
 · subst h3
   refine wpList_append_own_none hgd s x _ ho base 5 i0 1 Tryz.underlying22 hi v xs.length _ hs hv hx ?_
   exact h v w (by rw [List.append_nil]; exact hv) (World.grownBy.refl _ _)
 · refine wpList_append_own _ hgd s x _ ho base 5 i0 (.int .u8 0) 1 1 Tryz.underlying22 hi hz0 hz1 hz2 rfl (by decide) v xs.length _ hs hv ⟨g, 0, none⟩ ys.length cp (ys.map (Value.int .u8)) hx (by simp) (cells_own hu) (ints_oneCell _ _) (by unfold maxLen; omega) (by omega) hb ?_
   intro v' w' ho' hg' _
   exact h v' w' (own_of (q := xs.length + ys.length) (by rw [List.length_append]) rfl (by rw [List.map_append]; exact ho')) hg'
theorem ne_nodes {w : World} {lo lo' : Nat} {u v : Value} {xs : List Int} {ns : List Nd} (hv : OwnN 85 w lo v ns) (ho : Own .u8 5 w lo' u xs) : v.ownBlock = none ∨ v.ownBlock ≠ u.ownBlock := by
 rcases hv.2 with ⟨rfl, -⟩ | ⟨g, cap, cur, rfl, -, hg, -⟩
 · exact .inl rfl
 · refine .inr ?_
   rcases ho.2 with ⟨rfl, -⟩ | ⟨g', cap', cur', rfl, -, hg', -⟩
   · simp [Value.ownBlock]
   · intro e
     simp only [Value.ownBlock, Option.some.injEq] at e
     subst e
     rw [hg] at hg'
     injection hg' with hg'
     injection hg' with h1 h2
     cases h2
structure LR (W : World) (k B lo : Nat) (v va : Value) (ns : List Nd) (xs : List Int) (s : Sr) (w : World) : Prop where
 src : SRX w k B s
 tch : Tch k W w
 ct : w.cell? ⟨W.heap.size, 0, none⟩ = some v
 ft : w.frozen? ⟨W.heap.size, 0, none⟩ = false
 own : OwnN 85 w lo v ns
 vt : v.ownBlock ≠ some W.heap.size
 ow : Own .u8 5 w (W.heap.size + 1) va xs
 lt : W.heap.size + 1 ≤ w.heap.size
theorem LR.next {W w w' : World} {k B lo : Nat} {v va : Value} {ns : List Nd} {xs : List Int} {s s' : Sr} (h : LR W k B lo v va ns xs s w) (hs : SRX w' k B s') (t : Tch k w w') (hk : k < W.heap.size) (hlo : k < lo) : LR W k B lo v va ns xs s' w' := by
 have hl := h.lt
 have a := t.2 W.heap.size (by omega) (by omega)
 exact ⟨hs, h.tch.trans t, (World.cell?_of_block (w := w) (a := ⟨W.heap.size, 0, none⟩) a).trans h.ct, (World.frozen?_of_block (w := w) a).trans h.ft, rowTch h.own t hlo, h.vt, rowTch h.ow t (by omega), Nat.le_trans hl t.size⟩
theorem LR.below {W w w' : World} {k B lo : Nat} {v va : Value} {ns : List Nd} {xs : List Int} {s : Sr} (h : LR W k B lo v va ns xs s w) (hb : Below w.heap.size w w') (hk : k < W.heap.size) (hlo : k < lo) : LR W k B lo v va ns xs s w' :=
 h.next (h.src.keep (hb.mono h.src.lt)) (Tch.of hb) hk hlo
theorem LR.turn {W w w' : World} {k B lo P : Nat} {v va : Value} {ns : List Nd} {xs : List Int} {s : Sr} (h : LR W k B lo v va ns xs s w) (t : Tch P w w') (hB : B ≤ W.heap.size) (hP : W.heap.size < P) (hv : v.ownBlock ≠ some P) (ha : va.ownBlock ≠ some P) : LR W k B lo v va ns xs s w' := by
 have hl := h.lt
 have a := t.2 W.heap.size (by omega) (by omega)
 have bw : Below (W.heap.size + 1) w w' := t.below (by omega) hl
 have G : w.grownBy w' (some P) := ⟨t.1.os, t.1.tape, t.1.output, t.1.size, fun q hq hne => t.2 q (fun e => hne (by rw [e])) hq⟩
 exact ⟨h.src.keep (bw.mono (by omega)), h.tch.then (bw.mono (by omega)), (World.cell?_of_block (w := w) (a := ⟨W.heap.size, 0, none⟩) a).trans h.ct, (World.frozen?_of_block (w := w) a).trans h.ft, World.ownsRow.kept h.own G (.inr hv), h.vt, World.ownsRow.kept h.ow G (.inr ha), Nat.le_trans hl t.size⟩
theorem LR.tree {W w : World} {k B lo lo' : Nat} {v va v' : Value} {ns ns' : List Nd} {xs : List Int} {s : Sr} (h : LR W k B lo v va ns xs s w) (o : OwnN 85 w lo' v' ns') (hlo : lo ≤ lo') (hl' : W.heap.size < lo') (hB : B ≤ W.heap.size) : LR W k B lo v' va ns' xs s (w.setCell ⟨W.heap.size, 0, none⟩ v') := by
 have hl := h.lt
 have hne : v'.ownBlock ≠ some W.heap.size := fun e => by have := (World.ownsRow.lt o _ e).1; omega
 have hna : va.ownBlock ≠ some W.heap.size := fun e => by have := (h.ow.lt _ e).1; omega
 have b : Below W.heap.size w (w.setCell ⟨W.heap.size, 0, none⟩ v') := (Below.refl _ _).setCell (by show W.heap.size ≤ W.heap.size; omega) _
 have G : w.grownBy (w.setCell ⟨W.heap.size, 0, none⟩ v') (some W.heap.size) := grownBy_set _ _ _ _ _ (World.grownBy.refl _ _)
 exact ⟨h.src.keep (b.mono hB), h.tch.then b, World.cell?_setCell_same _ _ _ h.ct, by rw [World.frozen?_setCell]; exact h.ft, OwnN.mono (OwnN.setO o hne _) hlo, hne, World.ownsRow.kept h.ow G (.inr hna), by simpa using hl⟩
theorem LR.area {W w w' : World} {k B lo : Nat} {v va va' : Value} {ns : List Nd} {xs ys : List Int} {s : Sr} (h : LR W k B lo v va ns xs s w) (o : Own .u8 5 w' (W.heap.size + 1) va' ys) (hg : w.grownBy w' va.ownBlock) (hB : B ≤ W.heap.size) : LR W k B lo v va' ns ys s w' := by
 have hl := h.lt
 have bw : Below (W.heap.size + 1) w w' := ⟨hg.os, hg.tape, hg.output, hg.size, fun q hq => hg.block q (by omega) (fun e => by have := (h.ow.lt q e.symm).1; omega)⟩
 exact ⟨h.src.keep (bw.mono (by omega)), h.tch.then (bw.mono (by omega)), (bw.cell (p := ⟨W.heap.size, 0, none⟩) (show W.heap.size < _ by omega)).trans h.ct, (bw.frozen (p := ⟨W.heap.size, 0, none⟩) (show W.heap.size < _ by omega)).trans h.ft, World.ownsRow.kept h.own hg (ne_nodes h.own h.ow), h.vt, o, Nat.le_trans hl bw.size⟩
theorem LR.new (W : World) (k B lo : Nat) (v : Value) (ns : List Nd) (s : Sr) (h : SRX W k B s) (o : OwnN 85 W lo v ns) (t1 : TypeId) : LR W k B lo v (.slice (some ⟨W.heap.size + 1, 0, none⟩) 0 0) ns [] s ((W.alloc (.cells #[v] t1)).alloc (.cells #[] 5)) := by
 have b : Below W.heap.size W ((W.alloc (.cells #[v] t1)).alloc (.cells #[] 5)) := ((Below.refl _ _).alloc (Nat.le_refl _) _).alloc (by simp) _
 have hs : (W.alloc (.cells #[v] t1)).heap.size = W.heap.size + 1 := by simp
 refine ⟨h.keep (b.mono h.lt), Tch.of b, by go_simp, by go_simp, o.below b, fun e => by have := (World.ownsRow.lt o _ e).2; omega, ?_, by simp⟩
 have := World.ownsRow_lit (W.alloc (.cells #[v] t1)) #[] (e := 5) (size := 1) 0 (Nat.le_refl _) (Nat.zero_le _) rfl
 rw [hs] at this
 exact this
def BoxP (w : World) (b : Nat) (x0 x1 x2 x3 x4 : Value) : Prop := b < w.heap.size ∧ w.cell? ⟨b, 0, none⟩ = some x0 ∧ w.cell? ⟨b, 1, none⟩ = some x1 ∧ w.cell? ⟨b, 2, none⟩ = some x2 ∧ w.cell? ⟨b, 3, none⟩ = some x3 ∧ w.cell? ⟨b, 4, none⟩ = some x4 ∧ ∀ j, w.frozen? ⟨b, j, none⟩ = false
theorem BoxP.turn {w w' : World} {b k : Nat} {x0 x1 x2 x3 x4 : Value} (h : BoxP w b x0 x1 x2 x3 x4) (t : Tch k w w') (hne : b ≠ k) : BoxP w' b x0 x1 x2 x3 x4 := by
 obtain ⟨xl, c0, c1, c2, c3, c4, f⟩ := h
 have e := t.2 b hne xl
 have q : ∀ j, w'.cell? ⟨b, j, none⟩ = w.cell? ⟨b, j, none⟩ := fun j => World.cell?_of_block (a := ⟨b, j, none⟩) e
 exact ⟨Nat.lt_of_lt_of_le xl t.size, (q _).trans c0, (q _).trans c1, (q _).trans c2, (q _).trans c3, (q _).trans c4, fun j => (World.frozen?_of_block e).trans (f j)⟩
theorem BoxP.below {w w' : World} {b : Nat} {x0 x1 x2 x3 x4 : Value} (h : BoxP w b x0 x1 x2 x3 x4) (hb : Below w.heap.size w w') : BoxP w' b x0 x1 x2 x3 x4 := h.turn (k := b + 1) (Tch.of hb) (by omega)
theorem BoxP.new (w : World) (x0 x1 x2 x3 x4 : Value) (t : TypeId) : BoxP (w.alloc (.cells #[x0, x1, x2, x3, x4] t)) w.heap.size x0 x1 x2 x3 x4 :=
 ⟨by simp, by simp, by simp, by simp, by simp, by simp, fun j => by simp⟩
def setP (w : World) (b : Nat) (x0 x1 x2 x3 x4 : Value) : World := ((((w.setCell ⟨b, 0, none⟩ x0).setCell ⟨b, 1, none⟩ x1).setCell ⟨b, 2, none⟩ x2).setCell ⟨b, 3, none⟩ x3).setCell ⟨b, 4, none⟩ x4
theorem tch_set (w : World) (b j : Nat) (x : Value) : Tch b w (w.setCell ⟨b, j, none⟩ x) := ⟨(Below.refl _ _).setCell (Nat.zero_le _) _, fun _ hj _ => Below.heap_setCell w _ _ _ hj⟩
theorem tch_setP (w : World) (b : Nat) (x0 x1 x2 x3 x4 : Value) : Tch b w (setP w b x0 x1 x2 x3 x4) :=
 ((((tch_set w b 0 x0).trans (tch_set _ b 1 x1)).trans (tch_set _ b 2 x2)).trans (tch_set _ b 3 x3)).trans (tch_set _ b 4 x4)
theorem BoxP.put {w : World} {b : Nat} {x0 x1 x2 x3 x4 y0 y1 y2 y3 y4 : Value} (h : BoxP w b x0 x1 x2 x3 x4) : BoxP (setP w b y0 y1 y2 y3 y4) b y0 y1 y2 y3 y4 := by
 obtain ⟨xl, c0, c1, c2, c3, c4, f⟩ := h
 unfold setP
 refine ⟨by simpa using xl, ?_, ?_, ?_, ?_, ?_, fun j => by simp only [World.frozen?_setCell]; exact f j⟩ <;> go_simp
theorem OwnE.setO {w w' : World} {lo P : Nat} {v : Value} {es : List Ef} (h : OwnE 139 w lo v es) (t : Tch P w w') (hv : v.ownBlock ≠ some P) : OwnE 139 w' lo v es := by
 have G : w.grownBy w' (some P) := ⟨t.1.os, t.1.tape, t.1.output, t.1.size, fun q hq hne => t.2 q (fun e => hne (by rw [e])) hq⟩
 exact World.ownsRow.kept h G (.inr hv)
def PrV (w : World) (ns : List Nd) (z : Int) (res : Int × Nat × List Nd × List ByteArray) (lo : Nat) (x1 x2 x3 x4 : Value) : Prop :=
 (res.1 ≠ 0 ∧ x1 = .int .i64 (res.2.1 : Int) ∧ x2 = .slice none 0 0 ∧ x3 = .int .i64 0 ∧ x4 = .slice none 0 0) ∨
 (res.1 = 0 ∧ x1 = .int .i64 0 ∧ (∃ a n c, x2 = .slice a n c) ∧ x3 = .int .i64 z ∧ (∃ a c, x4 = .slice a (dif ns res.2.2.1).length c) ∧ OwnE 139 w lo x4 (dif ns res.2.2.1))
theorem prOk_cells {w w' : World} {ns : List Nd} {z : Int} {res : Int × Nat × List Nd × List ByteArray} {e : Ending} (h : PrOk w ns z res e w') : ∃ (i1 : Int) (a2 : Option Addr) (n2 c2 : Nat) (z3 : Int) (a4 : Option Addr) (n4 c4 : Nat), e = .returned (.agg #[.int .i64 res.1, .int .i64 i1, .slice a2 n2 c2, .int .i64 z3, .slice a4 n4 c4]) ∧ PrV w' ns z res w.heap.size (.int .i64 i1) (.slice a2 n2 c2) (.int .i64 z3) (.slice a4 n4 c4) ∧ Below w.heap.size w w' := by
 obtain ⟨b, ⟨h1, rfl⟩ | ⟨h1, vn, ve, rfl, on, oe⟩⟩ := h
 · exact ⟨_, _, _, _, _, _, _, _, rfl, .inl ⟨h1, rfl, rfl, rfl, rfl⟩, b⟩
 · obtain ⟨ea, ec, rfl⟩ := OwnE.slice9 oe
   obtain ⟨na, nl, nc, rfl⟩ : ∃ a n c, vn = .slice a n c := by
    rcases on.2 with ⟨rfl, -⟩ | ⟨g, cap, cur, rfl, -⟩
    · exact ⟨_, _, _, rfl⟩
    · exact ⟨_, _, _, rfl⟩
   exact ⟨_, _, _, _, _, _, _, _, by rw [h1], .inr ⟨h1, rfl, ⟨_, _, _, rfl⟩, rfl, ⟨_, _, rfl⟩, oe⟩, b⟩
theorem PrV.turn {w w' : World} {ns : List Nd} {z : Int} {res : Int × Nat × List Nd × List ByteArray} {lo P : Nat} {x1 x2 x3 x4 : Value} (h : PrV w ns z res lo x1 x2 x3 x4) (t : Tch P w w') (hp : x4.ownBlock ≠ some P) : PrV w' ns z res lo x1 x2 x3 x4 := by
 rcases h with h | ⟨h1, h2, h3, h4, h5, h6⟩
 · exact .inl h
 · exact .inr ⟨h1, h2, h3, h4, h5, h6.setO t hp⟩
theorem PrV.far {w : World} {ns : List Nd} {z : Int} {res : Int × Nat × List Nd × List ByteArray} {lo : Nat} {x1 x2 x3 x4 : Value} (h : PrV w ns z res lo x1 x2 x3 x4) : ∀ g, x4.ownBlock = some g → lo ≤ g ∧ g < w.heap.size := by
 rcases h with ⟨-, -, -, -, rfl⟩ | ⟨-, -, -, -, -, h6⟩
 · intro g e; cases e
 · exact fun g e => World.ownsRow.lt h6 g e
theorem PrV.below {w w' : World} {ns : List Nd} {z : Int} {res : Int × Nat × List Nd × List ByteArray} {lo : Nat} {x1 x2 x3 x4 : Value} (h : PrV w ns z res lo x1 x2 x3 x4) (hb : Below w.heap.size w w') : PrV w' ns z res lo x1 x2 x3 x4 :=
 h.turn (P := w.heap.size) (Tch.of hb) (fun e => by have := (h.far _ e).2; omega)
theorem oAt_sz {os : List Op5} (h : ∀ o ∈ os, SzO o) (i : Nat) (hi : i < os.length) : (oAt os i).path.size ≤ 1048576 ∧ (oAt os i).data.size ≤ 1048576 := by
 rw [oAt_get hi]
 have := h _ (List.getElem_mem hi)
 unfold SzO at this
 omega
theorem share11 {F G : World → Nat → Value → Int → Option Addr → Nat → Nat → Int → Option Addr → Nat → Nat → Prop} {q : Prop} (m : (∀ a b c d e f g h i j k, F a b c d e f g h i j k → G a b c d e f g h i j k) → q) (r : ∀ a b c d e f g h i j k, F a b c d e f g h i j k → G a b c d e f g h i j k) : q := m r
theorem ownB_slice {w : World} {lo : Nat} {v : Value} {xs : List Int} (h : Own .u8 5 w lo v xs) : ∃ a c, v = .slice a xs.length c := by
 rcases h.2 with ⟨rfl, h0⟩ | ⟨g, cap, cur, rfl, -⟩
 · exact ⟨none, 0, by rw [h0]⟩
 · exact ⟨_, _, rfl⟩
theorem Sr.req_sz (s : Sr) {ns : List Nd} (h : SzT ns) : ∀ o ∈ (s.req ns).1, SzO o := Sr.rops_sz _ h _ _
theorem log_x (W : World) (k B lo n z : Nat) (s : Sr) (v : Value) (ns : List Nd) (h : SRX W k B s) (ho : OwnN 85 W lo v ns) (hlo : k < lo) (hlo2 : lo ≤ W.heap.size) (hsn : Snd ns) (hn : n ≤ 20) (hc : ns.length ≤ 100) (hz : z ≤ 1000) :
    Calls Tryz.prog 25 #[.pointer (some ⟨k, 0, none⟩), .agg #[v], .int .i64 (z : Int), .int .i64 (n : Int)] W fun e w' => ∃ va, e = .returned va ∧ Own .u8 5 w' W.heap.size va ((LgS.mk ns z [] s).run n).xs ∧ SRX w' k B ((LgS.mk ns z [] s).run n).s ∧ Tch k W w' := by
 have hk1 := h.kB
 have hk2 := h.lt
 have hkW : k < W.heap.size := by omega
 have LR0 : Hid (LR W k B lo v (.slice (some ⟨W.heap.size + 1, 0, none⟩) 0 0) ns [] s ((W.alloc (.cells #[v] 25)).alloc (.cells #[] 5))) := LR.new W k B lo v ns s h ho _
 have G0 : LgI (LgS.mk ns z [] s) 100 1000 0 := ⟨hsn, hc, hz, Nat.le_refl _, fun x hx => by cases hx⟩
 have HI : Hid (∀ j, j ≤ 20 → LgI ((LgS.mk ns z [] s).run j) (100 + 5 * j) (1000 + 3 * j) (0 + 4600 * j)) := fun j hj => G0.run (by omega) j (by omega)
 have HG0 : Hid ((LgS.mk ns z [] s).run 0 = LgS.mk ns z [] s) := rfl
 have HGS : Hid (∀ j, (LgS.mk ns z [] s).run (j + 1) = ((LgS.mk ns z [] s).run j).step) := fun _ => rfl
 obtain ⟨av, cv, rfl⟩ := OwnN.slice9 ho
 clear h ho hsn G0 hc
 go_enter Tryz.func25, Tryz.ntmps25
 go_wp2
 generalize (W.alloc (.cells #[.slice av ns.length cv] 25)).alloc (.cells #[] 5) = w0 at *
 obtain ⟨R, hR⟩ : ∃ R, R = (LgS.mk ns z [] s).run := ⟨_, rfl⟩
 rw [← hR] at HI HG0 HGS
 have HRR : Hid ((LgS.mk ns z [] s).run = R) := hR.symm
 clear hR
 go_loopw [2, 9, 10] (fun vz va vi wr => ∃ (j : Nat) (v : Value), j ≤ n ∧ vi = .int .i64 j ∧ vz = .int .i64 ((R j).z : Int) ∧ Hid (LR W k B lo v va (R j).ns (R j).xs (R j).s wr)) (fun _ _ i _ => n - (intOf i).toNat)
 case atStart => exact ⟨0, _, Nat.zero_le _, rfl, by rw [HG0.out], by rw [HG0.out]; exact LR0⟩
 case round =>
  clear LR0 HG0
  obtain ⟨j, v, hj, rfl, rfl, HL⟩ := hrel
  obtain ⟨av, cv, rfl⟩ := OwnN.slice9 HL.out.own
  obtain ⟨aa, ca, rfl⟩ := ownB_slice HL.out.ow
  have hwr := HL.out.lt
  by_cases hlt : j < n
  · have hltI : (j : Int) < (n : Int) := by omega
    have HII := HI.out j (by omega)
    have HST := HGS.out j
    have hzq : (R j).z ≤ 1100 := by have := HII.z; omega
    have hlq : (R j).ns.length ≤ 200 := by have := HII.len; omega
    have hxq : (R j).xs.length ≤ 92000 := by have := HII.xs; omega
    have HRS : Hid (Snd (R j).res.2.2.1 ∧ (R j).res.2.2.1.length ≤ 205) := by
     have h9 := HII.res (by omega)
     exact ⟨h9.1, by omega⟩
    have HSN : Hid (Snd (R j).ns) := HII.snd
    have HSZ : Hid (SzT (R j).ns) := fun i => snd_sz HSN.out i
    have HPK : Hid (okPrep (R j).ns ((R j).s.req (R j).ns).1 (((R j).z : Int) + 1) = true) := by
     have hl9 := (R j).s.req_len (R j).ns
     show _ = _
     unfold okPrep
     rw [okTree_snd.2 HII.snd]
     simp
     omega
    have HNX : Hid (R (j + 1) = (R j).step) := HST
    clear HII HST
    obtain ⟨qn, hqn⟩ : ∃ qn, qn = R (j + 1) := ⟨_, rfl⟩
    have HEQN : Hid (R (j + 1) = qn) := hqn.symm
    rw [← hqn] at HNX
    clear hqn
    generalize R j = q at *
    have HVL : Hid (∀ g, Value.ownBlock (.slice av q.ns.length cv) = some g → g < wr.heap.size) := fun g e => (World.ownsRow.lt HL.out.own g e).2
    have HAL : Hid (∀ g, Value.ownBlock (.slice aa q.xs.length ca) = some g → g < wr.heap.size) := fun g e => (HL.out.ow.lt g e).2
    have HREQ : Hid (∀ w', LR W k B lo (.slice av q.ns.length cv) (.slice aa q.xs.length ca) q.ns q.xs q.s w' → Calls Tryz.prog 78 #[.pointer (some ⟨k, 0, none⟩), .agg #[.slice av q.ns.length cv]] w' fun e w'' => ∃ u, e = .returned (.agg #[u]) ∧ OwnOps w'' w'.heap.size u (q.s.req q.ns).1 ∧ LR W k B lo (.slice av q.ns.length cv) (.slice aa q.xs.length ca) q.ns q.xs (q.s.req q.ns).2 w'' ∧ Tch k w' w'') := by
     intro w' hw
     refine (req_k w' k B q.s _ q.ns hw.src hw.own.rd (OwnN.offK hw.own hlo) (by omega) HSZ.out).mono ?_
     rintro e w'' ⟨u, rfl, o, s2, t⟩
     exact ⟨u, rfl, o, hw.next s2 t hkW hlo, t⟩
    have HPRE : Hid (∀ w' u lo2, LR W k B lo (.slice av q.ns.length cv) (.slice aa q.xs.length ca) q.ns q.xs (q.s.req q.ns).2 w' → OwnOps w' lo2 u (q.s.req q.ns).1 → Calls Tryz.prog 77 #[.agg #[.slice av q.ns.length cv], .agg #[u], .int .i64 ((q.z : Int) + 1)] w' fun e w'' => ∃ (i1 : Int) (a2 : Option Addr) (n2 c2 : Nat) (z3 : Int) (a4 : Option Addr) (n4 c4 : Nat), e = .returned (.agg #[.int .i64 q.res.1, .int .i64 i1, .slice a2 n2 c2, .int .i64 z3, .slice a4 n4 c4]) ∧ PrV w'' q.ns ((q.z : Int) + 1) q.res w'.heap.size (.int .i64 i1) (.slice a2 n2 c2) (.int .i64 z3) (.slice a4 n4 c4) ∧ Below w'.heap.size w' w'') := by
     intro w' u lo2 hw hu
     refine (specPrep_ok w' _ u q.ns (q.s.req q.ns).1 ((q.z : Int) + 1) hw.own.rd hu.rd (fun i hi => oAt_sz (q.s.req_sz HSZ.out) i hi) HPK.out).mono ?_
     intro e w'' h9
     exact prOk_cells h9
    have LRd : Hid (LR W k B lo (.slice av q.ns.length cv) (.slice aa q.xs.length ca) q.ns q.xs q.s (wr.drewN 1)) := HL.out.below (below_drewN' wr 1) hkW hlo
    have hsd : (wr.drewN 1).heap.size = wr.heap.size := rfl
    go_wp2_with fail
    apply share11 (F := fun w9 PB _ i1 a2 n2 c2 z3 a4 n4 c4 => PB ≠ W.heap.size ∧ PB ≠ k ∧ Hid (LR W k B lo (.slice av q.ns.length cv) (.slice aa q.xs.length ca) q.ns q.xs (q.s.req q.ns).2 w9) ∧ Hid (BoxP w9 PB (.int .i64 q.res.1) (.int .i64 i1) (.slice a2 n2 c2) (.int .i64 z3) (.slice a4 n4 c4)) ∧ Hid (PrV w9 q.ns ((q.z : Int) + 1) q.res (W.heap.size + 1) (.int .i64 i1) (.slice a2 n2 c2) (.int .i64 z3) (.slice a4 n4 c4)))
    · intro REST
      refine wp_region_held_drew (S := fun w9 => ∃ s9, LR W k B lo (.slice av q.ns.length cv) (.slice aa q.xs.length ca) q.ns q.xs s9 w9) (by kernel_rfl) (⟨_, LRd.out⟩) (fun hHeld => ?_)
      refine tkL9 (i := 0) (oi := ⟨some 18, _, _, _, _, _⟩) (v := (.agg #[.slice av q.ns.length cv])) rfl (by kernel_rfl) (fun _ _ _ h => h) (by rfl) (by assumption) ?hy1 ?_
      case hy1 => intro w9 hS9; obtain ⟨s9, hS9⟩ := hS9; have h9 := hS9.ct; go_simp; try with_reducible rfl
      try simp only [Act.put, sT9, sZ9, sS9]
      refine tkL9 (i := 1) (oi := ⟨some 19, _, _, _, _, _⟩) (v := (.pointer (some ⟨k, 0, none⟩))) rfl (by kernel_rfl) (fun _ _ _ h => h) (by rfl) (by assumption) ?hy2 ?_
      case hy2 => intro w9 hS9; obtain ⟨s9, hS9⟩ := hS9; have h9 := hS9.ct; go_simp; try with_reducible rfl
      try simp only [Act.put, sT9, sZ9, sS9]
      refine tkL9 (i := 2) (oi := ⟨some 20, _, _, _, _, _⟩) (v := (.agg #[.slice av q.ns.length cv])) rfl (by kernel_rfl) (fun _ _ _ h => h) (by rfl) (by assumption) ?hy3 ?_
      case hy3 => intro w9 hS9; obtain ⟨s9, hS9⟩ := hS9; have h9 := hS9.ct; go_simp; try with_reducible rfl
      try simp only [Act.put, sT9, sZ9, sS9]
      refine tkL9 (i := 4) (oi := ⟨some 22, _, _, _, _, _⟩) (v := (.int .i64 (q.z : Int))) rfl (by kernel_rfl) (fun _ _ _ h => h) (by rfl) (by assumption) ?hy4 ?_
      case hy4 => intro w9 hS9; obtain ⟨s9, hS9⟩ := hS9; have h9 := hS9.ct; go_simp; try with_reducible rfl
      try simp only [Act.put, sT9, sZ9, sS9]
      refine tkL9 (i := 5) (oi := ⟨some 23, _, _, _, _, _⟩) (v := (.int .i64 ((q.z : Int) + 1))) rfl (by kernel_rfl) (fun _ _ _ h => h) (by rfl) (by assumption) ?hy5 ?_
      case hy5 => intro w9 hS9; obtain ⟨s9, hS9⟩ := hS9; go_simp; rw [IntKind.wrap_i64]; omega
      try simp only [Act.put, sT9, sZ9, sS9]
      refine wpAnyH_ready (rs := [3, 7]) (by kernel_rfl) (by simp) ?_
      refine (AllReadyH.cons (o := ⟨some 21, _, _, _, _, _⟩) rfl (fun K hK => ?_) (AllReadyH.cons (o := ⟨some 11, _, _, _, _, _⟩) rfl (fun K hK => ?_) AllReadyH.nil))
      · skip
        go_simp
        refine (HREQ.out _ LRd.out).mono ?_
        rintro e w1 ⟨u, rfl, ou, l9, tt⟩
        have L1 : Hid (LR W k B lo (.slice av q.ns.length cv) (.slice aa q.xs.length ca) q.ns q.xs (q.s.req q.ns).2 w1) := l9
        have OU : Hid (OwnOps w1 (wr.drewN 1).heap.size u (q.s.req q.ns).1) := ou
        have TT : Hid (Tch k (wr.drewN 1) w1) := tt
        have sw1 := tt.size
        clear ou l9 tt
        refine hK.out _ _ ((⟨_, L1.out⟩ : ∃ s9, LR W k B lo (.slice av q.ns.length cv) (.slice aa q.xs.length ca) q.ns q.xs s9 w1)) (fun hx9 => ?_)
        clear hK K hHeld
        have hHeld := hx9
        clear hx9
        try simp only [Act.put, sT9, sZ9, sS9]
        refine wpAnyH_ready (rs := [6, 7]) (by kernel_rfl) (by simp) ?_
        refine (AllReadyH.cons (o := ⟨some 24, _, _, _, _, _⟩) rfl (fun K hK => ?_) (AllReadyH.cons (o := ⟨some 11, _, _, _, _, _⟩) rfl (fun K hK => ?_) AllReadyH.nil))
        · skip
          go_simp
          refine (HPRE.out _ _ _ L1.out OU.out).mono ?_
          rintro e w2 ⟨i1, a2, n2, c2, z3, a4, n4, c4, rfl, pv, bb⟩
          have L2 := hd9 (L1.out.below bb hkW hlo)
          have PV : Hid (PrV w2 q.ns ((q.z : Int) + 1) q.res (w1).heap.size (.int .i64 i1) (.slice a2 n2 c2) (.int .i64 z3) (.slice a4 n4 c4)) := pv
          have BB : Hid (Below (w1).heap.size (w1) w2) := bb
          have sw2 := bb.size
          clear pv bb
          refine hK.out _ _ ((⟨_, L2.out⟩ : ∃ s9, LR W k B lo (.slice av q.ns.length cv) (.slice aa q.xs.length ca) q.ns q.xs s9 w2)) (fun hx9 => ?_)
          clear hK K hHeld
          have hHeld := hx9
          clear hx9
          try simp only [Act.put, sT9, sZ9, sS9]
          refine wpAnyH_ready (rs := [7]) (by kernel_rfl) (by simp) ?_
          refine AllReadyH.cons (o := ⟨some 11, _, _, _, _, _⟩) rfl (fun K hK => ?_) AllReadyH.nil
          have bA : Below (w2).heap.size (w2) ((w2).alloc (.cells #[.int .i64 0, .int .i64 0, .slice none 0 0, .int .i64 0, .slice none 0 0] 128)) := (Below.refl _ _).alloc (Nat.le_refl _) _
          have L3 := hd9 (L2.out.below bA hkW hlo)
          have XB : Hid (BoxP ((w2).alloc (.cells #[.int .i64 0, .int .i64 0, .slice none 0 0, .int .i64 0, .slice none 0 0] 128)) (w2).heap.size (.int .i64 0) (.int .i64 0) (.slice none 0 0) (.int .i64 0) (.slice none 0 0)) := BoxP.new _ _ _ _ _ _ _
          have BA : Hid (Below (w2).heap.size (w2) ((w2).alloc (.cells #[.int .i64 0, .int .i64 0, .slice none 0 0, .int .i64 0, .slice none 0 0] 128))) := bA
          have sw3 : ((w2).alloc (.cells #[.int .i64 0, .int .i64 0, .slice none 0 0, .int .i64 0, .slice none 0 0] 128)).heap.size = (w2).heap.size + 1 := by simp
          clear bA
          go_simp
          generalize (w2).alloc (.cells #[.int .i64 0, .int .i64 0, .slice none 0 0, .int .i64 0, .slice none 0 0] 128) = w3 at *
          refine hK.out _ _ ((⟨_, L3.out⟩ : ∃ s9, LR W k B lo (.slice av q.ns.length cv) (.slice aa q.xs.length ca) q.ns q.xs s9 w3)) (fun hx9 => ?_)
          clear hK K hHeld
          have hHeld := hx9
          clear hx9
          try simp only [Act.put, sT9, sZ9, sS9]
          have PV' := hd9 (PV.out.below BA.out)
          have HX4 : Hid (Value.ownBlock (.slice a4 n4 c4) ≠ some w2.heap.size) := fun e => by have := (PV.out.far _ e).2; omega
          clear PV L2 L1
          have PV := PV'
          clear PV'
          have hPV : w2.heap.size ≠ W.heap.size := by have := L3.out.lt; omega
          have LS : Hid (LR W k B lo (.slice av q.ns.length cv) (.slice aa q.xs.length ca) q.ns q.xs (q.s.req q.ns).2 (setP (w3) w2.heap.size (.int .i64 q.res.1) (.int .i64 i1) (.slice a2 n2 c2) (.int .i64 z3) (.slice a4 n4 c4))) := L3.out.turn (tch_setP _ _ _ _ _ _ _) hk2 (by omega) (fun e => by have := HVL.out _ e; omega) (fun e => by have := HAL.out _ e; omega)
          have XS : Hid (BoxP (setP (w3) w2.heap.size (.int .i64 q.res.1) (.int .i64 i1) (.slice a2 n2 c2) (.int .i64 z3) (.slice a4 n4 c4)) w2.heap.size (.int .i64 q.res.1) (.int .i64 i1) (.slice a2 n2 c2) (.int .i64 z3) (.slice a4 n4 c4)) := XB.out.put
          have PS : Hid (PrV (setP (w3) w2.heap.size (.int .i64 q.res.1) (.int .i64 i1) (.slice a2 n2 c2) (.int .i64 z3) (.slice a4 n4 c4)) q.ns ((q.z : Int) + 1) q.res (W.heap.size + 1) (.int .i64 i1) (.slice a2 n2 c2) (.int .i64 z3) (.slice a4 n4 c4)) := by
           have h9 := PV.out.turn (tch_setP (w3) w2.heap.size (.int .i64 q.res.1) (.int .i64 i1) (.slice a2 n2 c2) (.int .i64 z3) (.slice a4 n4 c4)) HX4.out
           rcases h9 with h9 | ⟨h1, h2, h3, h4, h5, h6⟩
           · exact .inl h9
           · exact .inr ⟨h1, h2, h3, h4, h5, rowP_mono h6 (by omega)⟩
          have hPBk : w2.heap.size ≠ k := by omega
          refine wpAnyH_ready (rs := [8]) (by kernel_rfl) (by simp) ?_
          refine AllReadyH.cons (o := ⟨none, _, _, _, _, _⟩) rfl (fun K hK => ?_) AllReadyH.nil
          obtain ⟨xl, c0, c1, c2, c3, c4, fz⟩ := XB.out
          have f0 := fz 0
          have f1 := fz 1
          have f2 := fz 2
          have f3 := fz 3
          have f4 := fz 4
          clear fz
          unfold setP at LS XS PS
          go_simp
          refine hK.out _ _ (⟨_, LS.out⟩) (fun hx9 => ?_)
          clear hK K hHeld hx9
          try simp only [Act.put, sT9, sZ9, sS9]
          refine wpAnyH_done (by kernel_rfl) ?_ _
          clear xl c0 c1 c2 c3 c4 f0 f1 f2 f3 f4 XB PV L3 HX4 OU
          generalize ((((((w3).setCell ⟨w2.heap.size, 0, none⟩ (.int .i64 q.res.1)).setCell ⟨w2.heap.size, 1, none⟩ (.int .i64 i1)).setCell ⟨w2.heap.size, 2, none⟩ (.slice a2 n2 c2)).setCell ⟨w2.heap.size, 3, none⟩ (.int .i64 z3)).setCell ⟨w2.heap.size, 4, none⟩ (.slice a4 n4 c4)) = w9 at *
          clear TT BB BA
          generalize w2.heap.size = PB at *
          exact REST w9 PB u i1 a2 n2 c2 z3 a4 n4 c4 ⟨hPV, hPBk, LS, XS, PS⟩
        · skip
          have bA : Below (w1).heap.size (w1) ((w1).alloc (.cells #[.int .i64 0, .int .i64 0, .slice none 0 0, .int .i64 0, .slice none 0 0] 128)) := (Below.refl _ _).alloc (Nat.le_refl _) _
          have L2 := hd9 (L1.out.below bA hkW hlo)
          have XB : Hid (BoxP ((w1).alloc (.cells #[.int .i64 0, .int .i64 0, .slice none 0 0, .int .i64 0, .slice none 0 0] 128)) (w1).heap.size (.int .i64 0) (.int .i64 0) (.slice none 0 0) (.int .i64 0) (.slice none 0 0)) := BoxP.new _ _ _ _ _ _ _
          have BA : Hid (Below (w1).heap.size (w1) ((w1).alloc (.cells #[.int .i64 0, .int .i64 0, .slice none 0 0, .int .i64 0, .slice none 0 0] 128))) := bA
          have sw2 : ((w1).alloc (.cells #[.int .i64 0, .int .i64 0, .slice none 0 0, .int .i64 0, .slice none 0 0] 128)).heap.size = (w1).heap.size + 1 := by simp
          clear bA
          go_simp
          generalize (w1).alloc (.cells #[.int .i64 0, .int .i64 0, .slice none 0 0, .int .i64 0, .slice none 0 0] 128) = w2 at *
          refine hK.out _ _ ((⟨_, L2.out⟩ : ∃ s9, LR W k B lo (.slice av q.ns.length cv) (.slice aa q.xs.length ca) q.ns q.xs s9 w2)) (fun hx9 => ?_)
          clear hK K hHeld
          have hHeld := hx9
          clear hx9
          try simp only [Act.put, sT9, sZ9, sS9]
          have OU' : Hid (OwnOps w2 wr.heap.size u (q.s.req q.ns).1) := rowP_below OU.out BA.out
          clear OU
          have OU := OU'
          clear OU'
          refine wpAnyH_ready (rs := [6]) (by kernel_rfl) (by simp) ?_
          refine AllReadyH.cons (o := ⟨some 24, _, _, _, _, _⟩) rfl (fun K hK => ?_) AllReadyH.nil
          go_simp
          refine (HPRE.out _ _ _ L2.out OU.out).mono ?_
          rintro e w3 ⟨i1, a2, n2, c2, z3, a4, n4, c4, rfl, pv, bb⟩
          have L3 := hd9 (L2.out.below bb hkW hlo)
          have PV : Hid (PrV w3 q.ns ((q.z : Int) + 1) q.res (w2).heap.size (.int .i64 i1) (.slice a2 n2 c2) (.int .i64 z3) (.slice a4 n4 c4)) := pv
          have BB : Hid (Below (w2).heap.size (w2) w3) := bb
          have sw3 := bb.size
          clear pv bb
          refine hK.out _ _ ((⟨_, L3.out⟩ : ∃ s9, LR W k B lo (.slice av q.ns.length cv) (.slice aa q.xs.length ca) q.ns q.xs s9 w3)) (fun hx9 => ?_)
          clear hK K hHeld
          have hHeld := hx9
          clear hx9
          try simp only [Act.put, sT9, sZ9, sS9]
          have XB' := hd9 (XB.out.below BB.out)
          have HX4 : Hid (Value.ownBlock (.slice a4 n4 c4) ≠ some w1.heap.size) := fun e => by have := (PV.out.far _ e).1; omega
          clear XB L2 L1
          have XB := XB'
          clear XB'
          have hPV : w1.heap.size ≠ W.heap.size := by have := L3.out.lt; omega
          have LS : Hid (LR W k B lo (.slice av q.ns.length cv) (.slice aa q.xs.length ca) q.ns q.xs (q.s.req q.ns).2 (setP (w3) w1.heap.size (.int .i64 q.res.1) (.int .i64 i1) (.slice a2 n2 c2) (.int .i64 z3) (.slice a4 n4 c4))) := L3.out.turn (tch_setP _ _ _ _ _ _ _) hk2 (by omega) (fun e => by have := HVL.out _ e; omega) (fun e => by have := HAL.out _ e; omega)
          have XS : Hid (BoxP (setP (w3) w1.heap.size (.int .i64 q.res.1) (.int .i64 i1) (.slice a2 n2 c2) (.int .i64 z3) (.slice a4 n4 c4)) w1.heap.size (.int .i64 q.res.1) (.int .i64 i1) (.slice a2 n2 c2) (.int .i64 z3) (.slice a4 n4 c4)) := XB.out.put
          have PS : Hid (PrV (setP (w3) w1.heap.size (.int .i64 q.res.1) (.int .i64 i1) (.slice a2 n2 c2) (.int .i64 z3) (.slice a4 n4 c4)) q.ns ((q.z : Int) + 1) q.res (W.heap.size + 1) (.int .i64 i1) (.slice a2 n2 c2) (.int .i64 z3) (.slice a4 n4 c4)) := by
           have h9 := PV.out.turn (tch_setP (w3) w1.heap.size (.int .i64 q.res.1) (.int .i64 i1) (.slice a2 n2 c2) (.int .i64 z3) (.slice a4 n4 c4)) HX4.out
           rcases h9 with h9 | ⟨h1, h2, h3, h4, h5, h6⟩
           · exact .inl h9
           · exact .inr ⟨h1, h2, h3, h4, h5, rowP_mono h6 (by omega)⟩
          have hPBk : w1.heap.size ≠ k := by omega
          refine wpAnyH_ready (rs := [8]) (by kernel_rfl) (by simp) ?_
          refine AllReadyH.cons (o := ⟨none, _, _, _, _, _⟩) rfl (fun K hK => ?_) AllReadyH.nil
          obtain ⟨xl, c0, c1, c2, c3, c4, fz⟩ := XB.out
          have f0 := fz 0
          have f1 := fz 1
          have f2 := fz 2
          have f3 := fz 3
          have f4 := fz 4
          clear fz
          unfold setP at LS XS PS
          go_simp
          refine hK.out _ _ (⟨_, LS.out⟩) (fun hx9 => ?_)
          clear hK K hHeld hx9
          try simp only [Act.put, sT9, sZ9, sS9]
          refine wpAnyH_done (by kernel_rfl) ?_ _
          clear xl c0 c1 c2 c3 c4 f0 f1 f2 f3 f4 XB PV L3 HX4 OU
          generalize ((((((w3).setCell ⟨w1.heap.size, 0, none⟩ (.int .i64 q.res.1)).setCell ⟨w1.heap.size, 1, none⟩ (.int .i64 i1)).setCell ⟨w1.heap.size, 2, none⟩ (.slice a2 n2 c2)).setCell ⟨w1.heap.size, 3, none⟩ (.int .i64 z3)).setCell ⟨w1.heap.size, 4, none⟩ (.slice a4 n4 c4)) = w9 at *
          clear TT BB BA
          generalize w1.heap.size = PB at *
          exact REST w9 PB u i1 a2 n2 c2 z3 a4 n4 c4 ⟨hPV, hPBk, LS, XS, PS⟩
      · skip
        have bA : Below (wr.drewN 1).heap.size (wr.drewN 1) ((wr.drewN 1).alloc (.cells #[.int .i64 0, .int .i64 0, .slice none 0 0, .int .i64 0, .slice none 0 0] 128)) := (Below.refl _ _).alloc (Nat.le_refl _) _
        have L1 : Hid (LR W k B lo (.slice av q.ns.length cv) (.slice aa q.xs.length ca) q.ns q.xs q.s ((wr.drewN 1).alloc (.cells #[.int .i64 0, .int .i64 0, .slice none 0 0, .int .i64 0, .slice none 0 0] 128))) := LRd.out.below bA hkW hlo
        have XB : Hid (BoxP ((wr.drewN 1).alloc (.cells #[.int .i64 0, .int .i64 0, .slice none 0 0, .int .i64 0, .slice none 0 0] 128)) (wr).heap.size (.int .i64 0) (.int .i64 0) (.slice none 0 0) (.int .i64 0) (.slice none 0 0)) := BoxP.new _ _ _ _ _ _ _
        have BA : Hid (Below (wr.drewN 1).heap.size (wr.drewN 1) ((wr.drewN 1).alloc (.cells #[.int .i64 0, .int .i64 0, .slice none 0 0, .int .i64 0, .slice none 0 0] 128))) := bA
        have sw1 : ((wr.drewN 1).alloc (.cells #[.int .i64 0, .int .i64 0, .slice none 0 0, .int .i64 0, .slice none 0 0] 128)).heap.size = (wr.drewN 1).heap.size + 1 := by simp
        clear bA
        go_simp
        rw [show (wr.alloc (.cells #[.int .i64 0, .int .i64 0, .slice none 0 0, .int .i64 0, .slice none 0 0] 128)).drew = (wr.drewN 1).alloc (.cells #[.int .i64 0, .int .i64 0, .slice none 0 0, .int .i64 0, .slice none 0 0] 128) from rfl]
        generalize (wr.drewN 1).alloc (.cells #[.int .i64 0, .int .i64 0, .slice none 0 0, .int .i64 0, .slice none 0 0] 128) = w1 at *
        refine hK.out _ _ ((⟨_, L1.out⟩ : ∃ s9, LR W k B lo (.slice av q.ns.length cv) (.slice aa q.xs.length ca) q.ns q.xs s9 w1)) (fun hx9 => ?_)
        clear hK K hHeld
        have hHeld := hx9
        clear hx9
        try simp only [Act.put, sT9, sZ9, sS9]
        refine wpAnyH_ready (rs := [3]) (by kernel_rfl) (by simp) ?_
        refine AllReadyH.cons (o := ⟨some 21, _, _, _, _, _⟩) rfl (fun K hK => ?_) AllReadyH.nil
        go_simp
        refine (HREQ.out _ L1.out).mono ?_
        rintro e w2 ⟨u, rfl, ou, l9, tt⟩
        have L2 : Hid (LR W k B lo (.slice av q.ns.length cv) (.slice aa q.xs.length ca) q.ns q.xs (q.s.req q.ns).2 w2) := l9
        have OU : Hid (OwnOps w2 (w1).heap.size u (q.s.req q.ns).1) := ou
        have TT : Hid (Tch k (w1) w2) := tt
        have sw2 := tt.size
        clear ou l9 tt
        refine hK.out _ _ ((⟨_, L2.out⟩ : ∃ s9, LR W k B lo (.slice av q.ns.length cv) (.slice aa q.xs.length ca) q.ns q.xs s9 w2)) (fun hx9 => ?_)
        clear hK K hHeld
        have hHeld := hx9
        clear hx9
        try simp only [Act.put, sT9, sZ9, sS9]
        refine wpAnyH_ready (rs := [6]) (by kernel_rfl) (by simp) ?_
        refine AllReadyH.cons (o := ⟨some 24, _, _, _, _, _⟩) rfl (fun K hK => ?_) AllReadyH.nil
        go_simp
        refine (HPRE.out _ _ _ L2.out OU.out).mono ?_
        rintro e w3 ⟨i1, a2, n2, c2, z3, a4, n4, c4, rfl, pv, bb⟩
        have L3 := hd9 (L2.out.below bb hkW hlo)
        have PV : Hid (PrV w3 q.ns ((q.z : Int) + 1) q.res (w2).heap.size (.int .i64 i1) (.slice a2 n2 c2) (.int .i64 z3) (.slice a4 n4 c4)) := pv
        have BB : Hid (Below (w2).heap.size (w2) w3) := bb
        have sw3 := bb.size
        clear pv bb
        refine hK.out _ _ ((⟨_, L3.out⟩ : ∃ s9, LR W k B lo (.slice av q.ns.length cv) (.slice aa q.xs.length ca) q.ns q.xs s9 w3)) (fun hx9 => ?_)
        clear hK K hHeld
        have hHeld := hx9
        clear hx9
        try simp only [Act.put, sT9, sZ9, sS9]
        have XB' : Hid (BoxP w3 wr.heap.size (.int .i64 0) (.int .i64 0) (.slice none 0 0) (.int .i64 0) (.slice none 0 0)) := (XB.out.turn TT.out (by omega)).below BB.out
        have HX4 : Hid (Value.ownBlock (.slice a4 n4 c4) ≠ some wr.heap.size) := fun e => by have := (PV.out.far _ e).1; omega
        clear XB L2 L1
        have XB := XB'
        clear XB'
        have hPV : wr.heap.size ≠ W.heap.size := by have := L3.out.lt; omega
        have LS : Hid (LR W k B lo (.slice av q.ns.length cv) (.slice aa q.xs.length ca) q.ns q.xs (q.s.req q.ns).2 (setP (w3) wr.heap.size (.int .i64 q.res.1) (.int .i64 i1) (.slice a2 n2 c2) (.int .i64 z3) (.slice a4 n4 c4))) := L3.out.turn (tch_setP _ _ _ _ _ _ _) hk2 (by omega) (fun e => by have := HVL.out _ e; omega) (fun e => by have := HAL.out _ e; omega)
        have XS : Hid (BoxP (setP (w3) wr.heap.size (.int .i64 q.res.1) (.int .i64 i1) (.slice a2 n2 c2) (.int .i64 z3) (.slice a4 n4 c4)) wr.heap.size (.int .i64 q.res.1) (.int .i64 i1) (.slice a2 n2 c2) (.int .i64 z3) (.slice a4 n4 c4)) := XB.out.put
        have PS : Hid (PrV (setP (w3) wr.heap.size (.int .i64 q.res.1) (.int .i64 i1) (.slice a2 n2 c2) (.int .i64 z3) (.slice a4 n4 c4)) q.ns ((q.z : Int) + 1) q.res (W.heap.size + 1) (.int .i64 i1) (.slice a2 n2 c2) (.int .i64 z3) (.slice a4 n4 c4)) := by
         have h9 := PV.out.turn (tch_setP (w3) wr.heap.size (.int .i64 q.res.1) (.int .i64 i1) (.slice a2 n2 c2) (.int .i64 z3) (.slice a4 n4 c4)) HX4.out
         rcases h9 with h9 | ⟨h1, h2, h3, h4, h5, h6⟩
         · exact .inl h9
         · exact .inr ⟨h1, h2, h3, h4, h5, rowP_mono h6 (by omega)⟩
        have hPBk : wr.heap.size ≠ k := by omega
        refine wpAnyH_ready (rs := [8]) (by kernel_rfl) (by simp) ?_
        refine AllReadyH.cons (o := ⟨none, _, _, _, _, _⟩) rfl (fun K hK => ?_) AllReadyH.nil
        obtain ⟨xl, c0, c1, c2, c3, c4, fz⟩ := XB.out
        have f0 := fz 0
        have f1 := fz 1
        have f2 := fz 2
        have f3 := fz 3
        have f4 := fz 4
        clear fz
        unfold setP at LS XS PS
        go_simp
        refine hK.out _ _ (⟨_, LS.out⟩) (fun hx9 => ?_)
        clear hK K hHeld hx9
        try simp only [Act.put, sT9, sZ9, sS9]
        refine wpAnyH_done (by kernel_rfl) ?_ _
        clear xl c0 c1 c2 c3 c4 f0 f1 f2 f3 f4 XB PV L3 HX4 OU
        generalize ((((((w3).setCell ⟨wr.heap.size, 0, none⟩ (.int .i64 q.res.1)).setCell ⟨wr.heap.size, 1, none⟩ (.int .i64 i1)).setCell ⟨wr.heap.size, 2, none⟩ (.slice a2 n2 c2)).setCell ⟨wr.heap.size, 3, none⟩ (.int .i64 z3)).setCell ⟨wr.heap.size, 4, none⟩ (.slice a4 n4 c4)) = w9 at *
        clear TT BB BA
        generalize wr.heap.size = PB at *
        exact REST w9 PB u i1 a2 n2 c2 z3 a4 n4 c4 ⟨hPV, hPBk, LS, XS, PS⟩
    · skip
      intro w9 PB u i1 a2 n2 c2 z3 a4 n4 c4
      rintro ⟨hPV, hPBk, LS, XS, PS⟩
      clear HREQ HPRE LRd HL
      have x0 := XS.out.2.1
      by_cases hr : q.res.1 = 0
      · have hstep : qn = q.app.jump.junk := by rw [HNX.out]; unfold LgS.step; rw [if_pos hr]
        rcases PS.out with ⟨h9, -⟩ | ⟨-, e1, ⟨na, nl, nc, e2⟩, e3, ⟨ea, ec, e4⟩, oe⟩
        · exact absurd hr h9
        cases e1
        cases e2
        cases e3
        cases e4
        have HE : Hid (RdE w9 (.slice a4 (dif q.ns q.res.2.2.1).length c4) (dif q.ns q.res.2.2.1)) := OwnE.rd oe
        have OE : Hid (OwnE 139 w9 (W.heap.size + 1) (.slice a4 (dif q.ns q.res.2.2.1).length c4) (dif q.ns q.res.2.2.1)) := oe
        have HES : Hid (∀ i, (eAt (dif q.ns q.res.2.2.1) i).nd.path.size ≤ 1048576 ∧ (eAt (dif q.ns q.res.2.2.1) i).nd.data.size ≤ 1048576) := dif_sz HSN.out HRS.out.1
        have HRA : Hid (resA q.ns ((q.z : Int) + 1) (dif q.ns q.res.2.2.1) = q.res.2.2.1) := resA_dif HSN.out HRS.out.1 (by have := HRS.out.2; omega) (by omega)
        have HQN : Hid (qn = q.app.jump.junk) := hstep
        have HAP : Hid (q.app = ⟨q.res.2.2.1, q.z + 1, q.xs ++ fr (txnB ((q.z : Int) + 1) (dif q.ns q.res.2.2.1)), (q.s.req q.ns).2⟩) := rfl
        have HTL := fr_le (txnB ((q.z : Int) + 1) (dif q.ns q.res.2.2.1))
        have HTB : Hid (Byt (txnB ((q.z : Int) + 1) (dif q.ns q.res.2.2.1)) ∧ (txnB ((q.z : Int) + 1) (dif q.ns q.res.2.2.1)).length ≤ 189006) := ⟨txnB_byt _ _, txnB_len _ _⟩
        clear hstep oe PS HNX
        generalize dif q.ns q.res.2.2.1 = DF at *
        obtain ⟨xl, -, -, -, c3, c4, -⟩ := XS.out
        have ct := LS.out.ct
        rw [hr] at x0
        go_wp2_with fail
        clear xl c3 c4 ct x0
        refine (specApply_any _ _ q.ns ((q.z : Int) + 1) _ DF LS.out.own.rd HE.out (by omega) (fun i => by have := HSZ.out i; omega) HES.out).mono ?_
        rintro e w10 ⟨v10, rfl, o10, b10⟩
        rw [HRA.out] at o10
        have L10 := hd9 (LS.out.below b10 hkW hlo)
        have hl9 := LS.out.lt
        have s10 := b10.size
        have L11 : Hid (LR W k B lo v10 (.slice aa q.xs.length ca) q.res.2.2.1 q.xs (q.s.req q.ns).2 (w10.setCell ⟨W.heap.size, 0, none⟩ v10)) := L10.out.tree o10 (by omega) (by omega) hk2
        have X11 : Hid (BoxP (w10.setCell ⟨W.heap.size, 0, none⟩ v10) PB (.int .i64 q.res.1) (.int .i64 0) (.slice a2 n2 c2) (.int .i64 ((q.z : Int) + 1)) (.slice a4 DF.length c4)) := (XS.out.below b10).turn (tch_set w10 W.heap.size 0 v10) hPV
        have E11 : Hid (RdE (w10.setCell ⟨W.heap.size, 0, none⟩ v10) (.slice a4 DF.length c4) DF) := OwnE.rd (OwnE.setO (rowP_below OE.out b10) (tch_set w10 W.heap.size 0 v10) (fun e => by have := (World.ownsRow.lt OE.out _ e).1; omega))
        have ct := L10.out.ct
        have ft := L10.out.ft
        obtain ⟨a10, c10, rfl⟩ := OwnN.slice9 o10
        obtain ⟨xl, -, -, -, c3, c4, -⟩ := X11.out
        clear o10 b10 L10 LS XS HE OE
        go_wp2_with fail
        clear xl c3 c4 ct ft
        generalize w10.setCell ⟨W.heap.size, 0, none⟩ (.slice a10 q.res.2.2.1.length c10) = w11 at *
        refine (sTxn_any w11 ((q.z : Int) + 1) _ DF E11.out HES.out).mono ?_
        rintro e w12 ⟨x12, rfl, o12, b12⟩
        have L12 := hd9 (L11.out.below b12 hkW hlo)
        have O12 : Hid (Own .u8 5 w12 w11.heap.size x12 (txnB ((q.z : Int) + 1) DF)) := o12
        clear o12 b12 L11 X11 E11
        go_wp2_with fail
        refine (specFrame_any w12 _ _ O12.out.rd HTB.out.1 (by have := HTB.out.2; omega)).mono ?_
        rintro e w13 ⟨x13, rfl, o13, b13⟩
        have L13 := hd9 (L12.out.below b13 hkW hlo)
        have O13 : Hid (Own .u8 5 w13 w12.heap.size x13 (fr (txnB ((q.z : Int) + 1) DF))) := o13
        have hl13 := L13.out.lt
        clear o13 b13 L12 O12 HTB
        generalize fr (txnB ((q.z : Int) + 1) DF) = FR at *
        go_wp2_with (at_builtin; go_must (refine wpList_append_two rfl _ _ rfl (W.heap.size + 1) w12.heap.size (.slice aa q.xs.length ca) x13 q.xs FR rfl L13.out.ow rfl O13.out hl13 (by omega) ?_))
        intro va w14 o14 g14
        have L14 : Hid (LR W k B lo (.slice a10 q.res.2.2.1.length c10) va q.res.2.2.1 (q.xs ++ FR) (q.s.req q.ns).2 w14) := L13.out.area o14 g14 hk2
        have hxl : (q.xs ++ FR).length ≤ 94300 := by rw [List.length_append]; omega
        clear o14 g14 L13 O13 hl13 HTL
        generalize q.xs ++ FR = YS at *
        rw [HAP.out] at HQN
        clear HAP
        generalize (q.s.req q.ns).2 = sq at *
        generalize q.res.2.2.1 = ns' at *
        go_wp2_with fail
        refine (next_x _ k B 30 sq L14.out.src (by omega)).mono ?_
        rintro e w15 ⟨rfl, s15, t15⟩
        have L15 := hd9 (L14.out.next s15 t15 hkW hlo)
        have HJ : Hid ((⟨ns', q.z + 1, YS, sq⟩ : LgS).jump = if (sq.next 30).1 = 0 then ⟨ns', q.z + 1 - 1 + ((sq.next 30).2.next 3).1, YS, ((sq.next 30).2.next 3).2⟩ else ⟨ns', q.z + 1, YS, (sq.next 30).2⟩) := rfl
        clear s15 t15 L14
        generalize sq.next 30 = n30 at *
        by_cases h30 : n30.1 = 0
        · rw [if_pos h30] at HJ
          have h30I : ((n30.1 : Int) == 0) = true := by simp [h30]
          have h30J : (n30.1 : Int) = 0 := by omega
          go_wp2_with fail
          refine (next_x _ k B 3 n30.2 L15.out.src (by omega)).mono ?_
          rintro e w16 ⟨rfl, s16, t16⟩
          have L16 := hd9 (L15.out.next s16 t16 hkW hlo)
          have hn3 := n30.2.next_lt 3 (by omega)
          clear s16 t16 L15 h30I h30J
          generalize n30.2.next 3 = n3 at *
          rw [HJ.out] at HQN
          clear HJ
          go_wp2_with fail
          refine (next_x _ k B 40 n3.2 L16.out.src (by omega)).mono ?_
          rintro e w20 ⟨rfl, s20, t20⟩
          have L20 := hd9 (L16.out.next s20 t20 hkW hlo)
          have HK : Hid ((⟨ns', q.z + 1 - 1 + n3.1, YS, n3.2⟩ : LgS).junk = if (n3.2.next 40).1 = 0 then ⟨ns', q.z + 1 - 1 + n3.1, YS ++ fr ((n3.2.next 40).2.bytes 5).1, ((n3.2.next 40).2.bytes 5).2⟩ else ⟨ns', q.z + 1 - 1 + n3.1, YS, (n3.2.next 40).2⟩) := rfl
          clear s20 t20 L16
          generalize n3.2.next 40 = n40 at *
          by_cases h40 : n40.1 = 0
          · rw [if_pos h40] at HK
            have h40I : ((n40.1 : Int) == 0) = true := by simp [h40]
            have h40J : (n40.1 : Int) = 0 := by omega
            go_wp2_with fail
            have CB := bytes_x w20 k B 5 n40.2 L20.out.src (by omega)
            refine CB.mono ?_
            clear CB
            rintro e w21 ⟨x21, rfl, o21, s21, t21⟩
            have L21 := hd9 (L20.out.next s21 t21 hkW hlo)
            have O21 : Hid (Own .u8 5 w21 w20.heap.size x21 (n40.2.bytes 5).1) := o21
            have hbl := n40.2.bytes_len 5
            have HBB : Hid (Byt (n40.2.bytes 5).1) := n40.2.bytes_byt 5
            clear o21 s21 t21 L20 h40I h40J
            generalize n40.2.bytes 5 = bq at *
            go_wp2_with fail
            refine (specFrame_any w21 _ _ O21.out.rd HBB.out (by omega)).mono ?_
            rintro e w22 ⟨x22, rfl, o22, b22⟩
            have L22 := hd9 (L21.out.below b22 hkW hlo)
            have O22 : Hid (Own .u8 5 w22 w21.heap.size x22 (fr bq.1)) := o22
            have hl22 := L22.out.lt
            have HFL := fr_le bq.1
            clear o22 b22 L21 O21 HBB hbl
            generalize fr bq.1 = FQ at *
            go_wp2_with (at_builtin; go_must (refine wpList_append_two rfl _ _ rfl (W.heap.size + 1) w21.heap.size va x22 YS FQ rfl L22.out.ow rfl O22.out hl22 (by omega) ?_))
            intro vb w23 o23 g23
            have L23 : Hid (LR W k B lo (.slice a10 ns'.length c10) vb ns' (YS ++ FQ) bq.2 w23) := L22.out.area o23 g23 hk2
            rw [HK.out] at HQN
            clear o23 g23 L22 O22 hl22 HK
            go_wp2
            go_roundw
            case rel => exact ⟨j + 1, _, by omega, by go_num, by rw [HEQN.out, HQN.out]; go_num, by rw [HEQN.out, HQN.out]; exact L23⟩
            case measure => simp [intOf]; omega
          · rw [if_neg h40] at HK
            have h40I : ((n40.1 : Int) == 0) = false := by simp; omega
            have h40J : ¬ (n40.1 : Int) = 0 := by omega
            rw [HK.out] at HQN
            clear HK
            go_wp2
            go_roundw
            case rel => exact ⟨j + 1, _, by omega, by go_num, by rw [HEQN.out, HQN.out]; go_num, by rw [HEQN.out, HQN.out]; exact L20⟩
            case measure => simp [intOf]; omega
        · rw [if_neg h30] at HJ
          have h30I : ((n30.1 : Int) == 0) = false := by simp; omega
          have h30J : ¬ (n30.1 : Int) = 0 := by omega
          rw [HJ.out] at HQN
          clear HJ
          go_wp2_with fail
          refine (next_x _ k B 40 n30.2 L15.out.src (by omega)).mono ?_
          rintro e w20 ⟨rfl, s20, t20⟩
          have L20 := hd9 (L15.out.next s20 t20 hkW hlo)
          have HK : Hid ((⟨ns', q.z + 1, YS, n30.2⟩ : LgS).junk = if (n30.2.next 40).1 = 0 then ⟨ns', q.z + 1, YS ++ fr ((n30.2.next 40).2.bytes 5).1, ((n30.2.next 40).2.bytes 5).2⟩ else ⟨ns', q.z + 1, YS, (n30.2.next 40).2⟩) := rfl
          clear s20 t20 L15
          generalize n30.2.next 40 = n40 at *
          by_cases h40 : n40.1 = 0
          · rw [if_pos h40] at HK
            have h40I : ((n40.1 : Int) == 0) = true := by simp [h40]
            have h40J : (n40.1 : Int) = 0 := by omega
            go_wp2_with fail
            have CB := bytes_x w20 k B 5 n40.2 L20.out.src (by omega)
            refine CB.mono ?_
            clear CB
            rintro e w21 ⟨x21, rfl, o21, s21, t21⟩
            have L21 := hd9 (L20.out.next s21 t21 hkW hlo)
            have O21 : Hid (Own .u8 5 w21 w20.heap.size x21 (n40.2.bytes 5).1) := o21
            have hbl := n40.2.bytes_len 5
            have HBB : Hid (Byt (n40.2.bytes 5).1) := n40.2.bytes_byt 5
            clear o21 s21 t21 L20 h40I h40J
            generalize n40.2.bytes 5 = bq at *
            go_wp2_with fail
            refine (specFrame_any w21 _ _ O21.out.rd HBB.out (by omega)).mono ?_
            rintro e w22 ⟨x22, rfl, o22, b22⟩
            have L22 := hd9 (L21.out.below b22 hkW hlo)
            have O22 : Hid (Own .u8 5 w22 w21.heap.size x22 (fr bq.1)) := o22
            have hl22 := L22.out.lt
            have HFL := fr_le bq.1
            clear o22 b22 L21 O21 HBB hbl
            generalize fr bq.1 = FQ at *
            go_wp2_with (at_builtin; go_must (refine wpList_append_two rfl _ _ rfl (W.heap.size + 1) w21.heap.size va x22 YS FQ rfl L22.out.ow rfl O22.out hl22 (by omega) ?_))
            intro vb w23 o23 g23
            have L23 : Hid (LR W k B lo (.slice a10 ns'.length c10) vb ns' (YS ++ FQ) bq.2 w23) := L22.out.area o23 g23 hk2
            rw [HK.out] at HQN
            clear o23 g23 L22 O22 hl22 HK
            go_wp2
            go_roundw
            case rel => exact ⟨j + 1, _, by omega, by go_num, by rw [HEQN.out, HQN.out]; go_num, by rw [HEQN.out, HQN.out]; exact L23⟩
            case measure => simp [intOf]; omega
          · rw [if_neg h40] at HK
            have h40I : ((n40.1 : Int) == 0) = false := by simp; omega
            have h40J : ¬ (n40.1 : Int) = 0 := by omega
            rw [HK.out] at HQN
            clear HK
            go_wp2
            go_roundw
            case rel => exact ⟨j + 1, _, by omega, by go_num, by rw [HEQN.out, HQN.out]; go_num, by rw [HEQN.out, HQN.out]; exact L20⟩
            case measure => simp [intOf]; omega
      · have hrb : (q.res.1 == 0) = false := by simpa using hr
        have hstep : qn = ⟨q.ns, q.z, q.xs, (q.s.req q.ns).2⟩ := by rw [HNX.out]; unfold LgS.step; rw [if_neg hr]
        have HQN : Hid (qn = ⟨q.ns, q.z, q.xs, (q.s.req q.ns).2⟩) := hstep
        clear hstep PS HNX
        go_wp2
        go_roundw
        case rel => exact ⟨j + 1, _, by omega, by go_num, by rw [HEQN.out, HQN.out], by rw [HEQN.out, HQN.out]; exact LS⟩
        case measure => simp [intOf]; omega
  · have hjn : j = n := by omega
    have hltI : ¬ (j : Int) < (n : Int) := by omega
    have F : Hid (Own .u8 5 wr W.heap.size (.slice aa (R j).xs.length ca) ((LgS.mk ns z [] s).run n).xs ∧ SRX wr k B ((LgS.mk ns z [] s).run n).s ∧ Tch k W wr) := by
     rw [HRR.out, ← hjn]
     exact ⟨HL.out.ow.mono (by omega), HL.out.src, HL.out.tch⟩
    clear HL hjn
    go_wp2
    go_ret
    exact ⟨_, rfl, F.out.1, F.out.2.1, F.out.2.2⟩
def widO (i : Nat) : Nd := ⟨⟨#[47, 110]⟩ ++ ⟨(six 5 i 4).toArray⟩, ByteArray.empty, 0, 0, 0, 0, 0⟩
def widN : Nat → List Nd
 | 0 => [rootN]
 | n + 1 => widN n ++ [widO (n + 1)]
theorem widN_len : ∀ n, (widN n).length = n + 1
 | 0 => rfl
 | n + 1 => by show (widN n ++ [_]).length = _; rw [List.length_append, widN_len n]; rfl
structure WD (W : World) (TB : Nat) (v : Value) (ns : List Nd) (w : World) : Prop where
 bel : Below W.heap.size W w
 own : OwnN 85 w W.heap.size v ns
 ct : w.cell? ⟨TB, 0, none⟩ = some v
 ft : w.frozen? ⟨TB, 0, none⟩ = false
 cr : w.cell? ⟨W.heap.size, 0, none⟩ = some (.slice none 0 0)
 fr : w.frozen? ⟨W.heap.size, 0, none⟩ = false
 tb : W.heap.size < TB
 lt : TB < w.heap.size
 vt : v.ownBlock ≠ some TB
 vr : v.ownBlock ≠ some W.heap.size
theorem WD.push {W w w' w4 : World} {TB g cap : Nat} {v : Value} {ns : List Nd} {n : Nd} {ob : Obj} (h : WD W TB v ns w) (bw : Below w.heap.size w w') (ho : w4.ownsRow W.heap.size 85 7 (.slice (some ⟨g, 0, none⟩) (ns.length + 1) cap) (ns.length + 1) (nrow ns ++ ndL n)) (hg : (w'.alloc ob).grownBy w4 v.ownBlock) (hat : v.ownBlock = some g ∨ g = w'.heap.size + 1) :
    WD W TB (.slice (some ⟨g, 0, none⟩) (ns.length + 1) cap) (ns ++ [n]) (w4.setCell ⟨TB, 0, none⟩ (.slice (some ⟨g, 0, none⟩) (ns.length + 1) cap)) ∧ w4.cell? ⟨TB, 0, none⟩ = some v ∧ w4.frozen? ⟨TB, 0, none⟩ = false := by
 have G : w'.grownBy w4 v.ownBlock := World.grownBy.trans (World.grownBy_alloc w' ob _) hg
 have htb := h.tb
 have hlt := h.lt
 have hs := bw.size
 have hs4 := G.size
 have B4 : Below W.heap.size w' w4 := ⟨G.os, G.tape, G.output, G.size, fun q hq => G.block q (by omega) (fun e => by have := (World.ownsRow.lt h.own q e.symm).1; omega)⟩
 have q1 : w4.cell? ⟨TB, 0, none⟩ = some v := (G.cell_far ⟨TB, 0, none⟩ (by show TB < _; omega) (fun e => h.vt e.symm)).trans ((bw.cell (p := ⟨TB, 0, none⟩) hlt).trans h.ct)
 have q2 : w4.frozen? ⟨TB, 0, none⟩ = false := (G.frozen_far ⟨TB, 0, none⟩ (by show TB < _; omega) (fun e => h.vt e.symm)).trans ((bw.frozen (p := ⟨TB, 0, none⟩) hlt).trans h.ft)
 have q3 : w4.cell? ⟨W.heap.size, 0, none⟩ = some (.slice none 0 0) := (G.cell_far ⟨W.heap.size, 0, none⟩ (by show W.heap.size < _; omega) (fun e => h.vr e.symm)).trans ((bw.cell (p := ⟨W.heap.size, 0, none⟩) (by show W.heap.size < _; omega)).trans h.cr)
 have q4 : w4.frozen? ⟨W.heap.size, 0, none⟩ = false := (G.frozen_far ⟨W.heap.size, 0, none⟩ (by show W.heap.size < _; omega) (fun e => h.vr e.symm)).trans ((bw.frozen (p := ⟨W.heap.size, 0, none⟩) (by show W.heap.size < _; omega)).trans h.fr)
 have hne : Value.ownBlock (.slice (some ⟨g, 0, none⟩) (ns.length + 1) cap) ≠ some TB := by
  rcases hat with e | e
  · rw [show Value.ownBlock (.slice (some ⟨g, 0, none⟩) (ns.length + 1) cap) = some g from rfl, ← e]; exact h.vt
  · simp [Value.ownBlock]; omega
 have hne2 : Value.ownBlock (.slice (some ⟨g, 0, none⟩) (ns.length + 1) cap) ≠ some W.heap.size := by
  rcases hat with e | e
  · rw [show Value.ownBlock (.slice (some ⟨g, 0, none⟩) (ns.length + 1) cap) = some g from rfl, ← e]; exact h.vr
  · simp [Value.ownBlock]; omega
 have ho' : OwnN 85 w4 W.heap.size (.slice (some ⟨g, 0, none⟩) (ns.length + 1) cap) (ns ++ [n]) := by
  unfold OwnN
  rw [List.length_append, nrow_one]
  exact ho
 refine ⟨⟨(h.bel.trans ((bw.mono (by omega)).trans B4)).setCell (by show _ ≤ TB; omega) _, OwnN.setO ho' hne _, World.cell?_setCell_same _ _ _ q1, by rw [World.frozen?_setCell]; exact q2, (World.cell?_setCell_other _ _ _ _ (by intro e; injection e with e; omega)).trans q3, by rw [World.frozen?_setCell]; exact q4, htb, by simp; omega, hne, hne2⟩, q1, q2⟩
theorem wide_x (W : World) (N : Nat) (h1 : 1 ≤ N) (hN : N ≤ 1001) :
    Calls Tryz.prog 81 #[.int .i64 (N : Int)] W fun e w' => ∃ v, e = .returned (.agg #[v]) ∧ OwnN 85 w' W.heap.size v (widN (N - 1)) ∧ Below W.heap.size W w' := by
 obtain ⟨i0, hi, hz0, hz1, hz2⟩ := info_parts Tryz.infoN
 have BR : Hid (Below W.heap.size W (W.alloc (.cells #[.slice none 0 0] 25))) := (Below.refl _ _).alloc (Nat.le_refl _) _
 go_enter Tryz.func81, Tryz.ntmps81
 go_wp2_with fail
 refine (specNewTree_any _).mono ?_
 rintro e w1 ⟨rfl, n1, b1⟩
 have hsz : (W.alloc (.cells #[.slice none 0 0] 25)).heap.size = W.heap.size + 1 := by simp
 rw [hsz] at n1 b1 ⊢
 have s1 := n1.lt
 have c1 := (b1.cell (p := ⟨W.heap.size, 0, none⟩) (show W.heap.size < _ by omega)).trans (show (W.alloc (.cells #[.slice none 0 0] 25)).cell? ⟨W.heap.size, 0, none⟩ = some (.slice none 0 0) by simp)
 have f1 := (b1.frozen (p := ⟨W.heap.size, 0, none⟩) (show W.heap.size < _ by omega)).trans (show (W.alloc (.cells #[.slice none 0 0] 25)).frozen? ⟨W.heap.size, 0, none⟩ = false by simp)
 have bA : Below w1.heap.size w1 (w1.alloc (.cells #[.slice (some ⟨W.heap.size + 1 + 1, 0, none⟩) 1 1] 25)) := (Below.refl _ _).alloc (Nat.le_refl _) _
 have bW : Below W.heap.size W w1 := BR.out.trans (b1.mono (by omega))
 have G1 : Hid (WD W w1.heap.size (.slice (some ⟨W.heap.size + 1 + 1, 0, none⟩) 1 1) [rootN] (w1.alloc (.cells #[.slice (some ⟨W.heap.size + 1 + 1, 0, none⟩) 1 1] 25))) := by
  refine ⟨bW.trans (bA.mono (by omega)), (ownN_root n1 (by omega)).below bA, by simp, by simp, (bA.cell (p := ⟨W.heap.size, 0, none⟩) (show W.heap.size < _ by omega)).trans c1, (bA.frozen (p := ⟨W.heap.size, 0, none⟩) (show W.heap.size < _ by omega)).trans f1, by omega, by simp, ?_, ?_⟩
  · simp [Value.ownBlock]; omega
  · simp [Value.ownBlock]; omega
 clear n1 b1 c1 f1 bA bW BR hsz
 go_wp2
 generalize w1.alloc (.cells #[.slice (some ⟨W.heap.size + 1 + 1, 0, none⟩) 1 1] 25) = w2 at *
 generalize w1.heap.size = TB at *
 go_loopw [4] (fun i wr => ∃ (j : Nat) (v : Value), j + 1 ≤ N ∧ i = .int .i64 ((j : Int) + 1) ∧ Hid (WD W TB v (widN j) wr)) (fun i _ => N - (intOf i).toNat)
 case atStart => exact ⟨0, _, by omega, rfl, G1⟩
 case round =>
  clear G1
  obtain ⟨j, v, hj, rfl, HG⟩ := hrel
  obtain ⟨av, cv, rfl⟩ := OwnN.slice9 HG.out.own
  by_cases hlt : j + 1 < N
  · have hltI : (j : Int) + 1 < (N : Int) := by omega
    have HNX : Hid (widN (j + 1) = widN j ++ [widO (j + 1)]) := rfl
    have hwl : (widN j).length ≤ 1001 := by rw [widN_len j]; omega
    have HWO : Hid (widO (j + 1) = ⟨⟨#[47, 110]⟩ ++ ⟨(six 5 (j + 1) 4).toArray⟩, ByteArray.empty, 0, 0, 0, 0, 0⟩) := rfl
    generalize widN j = ns at *
    have ct := HG.out.ct
    have ft := HG.out.ft
    have zr := HG.out.lt
    have HCL : Hid (Calls Tryz.prog 138 #[.int .i64 ((j : Int) + 1), .int .i64 4] wr.drew fun e w' => e = .returned (.string ⟨(six 5 (j + 1) 4).toArray⟩) ∧ w'.cell? ⟨TB, 0, none⟩ = some (.slice av ns.length cv) ∧ w'.frozen? ⟨TB, 0, none⟩ = false ∧ (∀ ob, (w'.alloc ob).cell? ⟨TB, 0, none⟩ = some (.slice av ns.length cv)) ∧ Hid (Below wr.heap.size wr w')) := by
     have hh := l3Six_any 4 wr.drew (j + 1) 4 (by omega) (by omega) (by omega) (by decide) (by omega) (by omega)
     rw [show ((j + 1 : Nat) : Int) = (j : Int) + 1 by omega] at hh
     refine hh.mono ?_
     rintro e w' ⟨rfl, b⟩
     have bb : Below wr.heap.size wr w' := (below_drewN' wr 1).trans b
     have q1 := (bb.cell (p := ⟨TB, 0, none⟩) HG.out.lt).trans HG.out.ct
     refine ⟨rfl, q1, (bb.frozen (p := ⟨TB, 0, none⟩) HG.out.lt).trans HG.out.ft, fun ob => ?_, bb⟩
     have ba : Below w'.heap.size w' (w'.alloc ob) := (Below.refl _ _).alloc (Nat.le_refl _) _
     exact (ba.cell (p := ⟨TB, 0, none⟩) (Nat.lt_of_lt_of_le HG.out.lt bb.size)).trans q1
    have hsl := six_len 5 (j + 1) 4
    have HOW : Hid (∀ W' ob, Below wr.heap.size wr W' → (World.alloc W' ob).ownsRow W.heap.size 85 7 (.slice av ns.length cv) ns.length (nrow ns)) := fun W' ob hW' => World.ownsRow.alloc (HG.out.own.below hW') ob
    have HBS : Hid (∀ W', Below wr.heap.size wr W' → W.heap.size ≤ W'.heap.size) := fun W' hW' => by have := HG.out.tb; have := hW'.size; show _ ≤ _; omega
    generalize six 5 (j + 1) 4 = L at *
    have hL9 : ¬ 9223372036854775807 < 2 + L.length := by omega
    go_wp2_with fail
    go_region_law (first
     | (refine step_append_lies _ (by rfl) _ _ _ (by rfl) W.heap.size 85 i0 _ 7 72 Tryz.underlying23 hi hz0 hz1 hz2 rfl (by omega) (.slice av ns.length cv) ns.length (nrow ns) (by rfl) (HOW.out w' _ bw.out) ⟨w'.heap.size, 0, none⟩ 1 1 (ndL ⟨⟨#[47, 110]⟩ ++ ⟨L.toArray⟩, ByteArray.empty, 0, 0, 0, 0, 0⟩) (by rfl) (by rfl) (ndL_cells w' ⟨⟨#[47, 110]⟩ ++ ⟨L.toArray⟩, ByteArray.empty, 0, 0, 0, 0, 0⟩ _) (ndL_one _)
         (by omega) (by unfold maxLen; omega) (by omega) (by have := HBS.out w' bw.out; simp; omega) (w'.heap.size + 1) (by simp) ?_; intro g4 cap4 w4 ho4 hg4 hat4 hlt4; obtain ⟨P4, q4, q5⟩ := HG.out.push bw.out ho4 hg4 hat4)
     | (go_simp; go_at_call 138; refine HCL.out.mono ?_; rintro e w' ⟨rfl, k4, k5, k6, bw⟩))
    all_goals
     have HP : Hid (WD W TB (.slice (some ⟨g4, 0, none⟩) (ns.length + 1) cap4) (widN (j + 1)) (w4.setCell ⟨TB, 0, none⟩ (.slice (some ⟨g4, 0, none⟩) (ns.length + 1) cap4))) := by
      rw [HNX.out, HWO.out]; exact P4
     clear P4 q4 q5 ho4 hg4 hat4 hlt4 k4 k5 k6 bw HG HOW HBS HCL ct ft
     go_wp2
     go_roundw
     case rel => exact ⟨j + 1, _, by omega, by go_num, HP⟩
     case measure => simp [intOf]; omega
  · have hjn : j + 1 = N := by omega
    have hjI : (j : Int) + 1 = (N : Int) := by omega
    have HJ : Hid (N - 1 = j) := by show _ = _; omega
    have hltI : ¬ (j : Int) + 1 < (N : Int) := by omega
    have ct := HG.out.ct
    have cr := HG.out.cr
    have fr := HG.out.fr
    have F : Hid (OwnN 85 (wr.setCell ⟨W.heap.size, 0, none⟩ (.slice av (widN j).length cv)) W.heap.size (.slice av (widN j).length cv) (widN (N - 1)) ∧ Below W.heap.size W (wr.setCell ⟨W.heap.size, 0, none⟩ (.slice av (widN j).length cv))) := by
     rw [HJ.out]
     exact ⟨OwnN.setO HG.out.own HG.out.vr _, HG.out.bel.setCell (by show W.heap.size ≤ W.heap.size; exact Nat.le_refl _) _⟩
    clear HG hjn
    go_wp2
    exact bodyPost_ret (v := .agg #[.slice av (widN j).length cv]) (by simp [results, Tryz.results81, go_sem, cr]) rfl ⟨_, rfl, F.out.1, F.out.2⟩
theorem wi_keep {ns : List Nd} (h : Asc ns) (n : Nd) {a : Nd} (ha : a ∈ ns) (hne : (a.path.toList == n.path.toList) = false) : a ∈ wiN ns n := by
 rw [wi_form n h]
 rw [← List.take_append_drop (plc ns n.path) ns] at ha
 rcases List.mem_append.1 ha with ha | ha
 · exact List.mem_append.2 (.inl ha)
 · refine List.mem_append.2 (.inr (List.mem_cons_of_mem _ ?_))
   rw [← wo_drop ns n.path h]
   exact List.mem_filter.2 ⟨ha, by rw [hne]; rfl⟩
def HasR (ns : List Nd) : Prop := ∃ a ∈ ns, (a.path.toList == [47]) = true
theorem HasR.wi {ns : List Nd} (h : HasR ns) (ha : Asc ns) (n : Nd) : HasR (wiN ns n) := by
 obtain ⟨a, h1, h2⟩ := h
 cases e : (a.path.toList == n.path.toList) with
 | false => exact ⟨a, wi_keep ha n h1 e, h2⟩
 | true =>
  refine ⟨n, ?_, ?_⟩
  · rw [wi_form n ha]; exact List.mem_append.2 (.inr (List.mem_cons_self ..))
  · rw [beq_iff_eq] at e h2 ⊢; rw [← e]; exact h2
theorem HasR.wo {ns : List Nd} (h : HasR ns) {p : ByteArray} (hp : (p.toList == [47]) = false) : HasR (woN ns p) := by
 obtain ⟨a, h1, h2⟩ := h
 refine ⟨a, List.mem_filter.2 ⟨h1, ?_⟩, h2⟩
 cases e : (a.path.toList == p.toList) with
 | false => rfl
 | true => rw [beq_iff_eq] at e h2; rw [← e, h2] at hp; simp at hp
theorem HasR.to {ns : List Nd} (h : HasR ns) (ha : Asc ns) (p : ByteArray) (z : Int) : HasR (toN ns p z) := by
 unfold toN
 split
 · exact h.wi ha _
 · exact h
theorem wfO_root {o : Op5} (h : wfO o = true) (hk : o.kind = 2) : (o.path.toList == [47]) = false := by
 unfold wfO at h
 simp only [hk] at h
 simp at h
 simpa using h.2.2
theorem doO_root {ns : List Nd} (h : HasR ns) (ha : Asc ns) (o : Op5) (z : Int) : HasR (doO ns o z).2.1 := by
 unfold doO
 cases hw : wfO o with
 | false => exact h
 | true =>
  simp only [Bool.not_true, Bool.false_eq_true, if_false]
  by_cases h1 : o.kind = 1
  · rw [if_pos h1]
    repeat' split
    all_goals (first | exact h | exact (h.wi ha _).to (asc_wi ha _) _ _)
  · rw [if_neg h1]
    by_cases h2 : o.kind = 2
    · rw [if_pos h2]
      repeat' split
      all_goals (first | exact h | exact (h.wo (wfO_root hw h2)).to (asc_wo ha _) _ _)
    · rw [if_neg h2]
      repeat' split
      all_goals (first | exact h | exact h.wi ha _)
theorem Sr.grow_root (s : Sr) : ∀ i, i ≤ 1000000 → HasR (s.grow i).1
 | 0, _ => ⟨rootN, by simp [Sr.grow], by rw [ByteArray.toList_eq]; rfl⟩
 | i + 1, h => by
  have ih := s.grow_root i (by omega)
  unfold Sr.grow
  split
  · exact doO_root ih (s.grow_inv i (by omega)).1.1 _ _
  · exact ih
theorem HasR.pos {ns : List Nd} (h : HasR ns) : 0 < ns.length := by obtain ⟨a, h1, -⟩ := h; exact List.length_pos_of_mem h1
theorem grown_set9 {w w' : World} {g : Nat} (h : w.grownBy w' (some g)) (j : Nat) (u : Value) : w.grownBy (w'.setCell ⟨g, j, none⟩ u) (some g) := World.grownBy.trans h (grownBy_set w' w' g j u (World.grownBy.refl _ _))
theorem GR.setNd {W w6 : World} {k B TB g cv i : Nat} {ns : List Nd} {s : Sr} (hg : GR W k B TB (.slice (some ⟨g, 0, none⟩) ns.length cv) ns s w6) (hil : i < ns.length) (hk2 : B ≤ W.heap.size) (x : Nd) :
    GR W k B TB (.slice (some ⟨g, 0, none⟩) ns.length cv) (ns.set i x) s (((((((w6.setCell ⟨g, i * 7, none⟩ (.string x.path)).setCell ⟨g, i * 7 + 1, none⟩ (.string x.data)).setCell ⟨g, i * 7 + 2, none⟩ (.int .i64 x.ver)).setCell ⟨g, i * 7 + 3, none⟩ (.int .i64 x.cver)).setCell ⟨g, i * 7 + 4, none⟩ (.int .i64 x.cz)).setCell ⟨g, i * 7 + 5, none⟩ (.int .i64 x.mz)).setCell ⟨g, i * 7 + 6, none⟩ (.int .i64 x.pz)) := by
 have hgW : W.heap.size ≤ g := (World.ownsRow.lt hg.own g rfl).1
 have hgT : g ≠ TB := fun e => hg.vt (by rw [← e]; rfl)
 have hgR : g ≠ W.heap.size := fun e => hg.vr (by rw [← e]; rfl)
 have h1 := nstored hg.own i hil x
 have G := grown_set9 (grown_set9 (grown_set9 (grown_set9 (grown_set9 (grown_set9 (grown_set9 (World.grownBy.refl w6 (some g)) (i * 7) (.string x.path)) (i * 7 + 1) (.string x.data)) (i * 7 + 2) (.int .i64 x.ver)) (i * 7 + 3) (.int .i64 x.cver)) (i * 7 + 4) (.int .i64 x.cz)) (i * 7 + 5) (.int .i64 x.mz)) (i * 7 + 6) (.int .i64 x.pz)
 revert h1 G
 generalize ((((((w6.setCell ⟨g, i * 7, none⟩ (.string x.path)).setCell ⟨g, i * 7 + 1, none⟩ (.string x.data)).setCell ⟨g, i * 7 + 2, none⟩ (.int .i64 x.ver)).setCell ⟨g, i * 7 + 3, none⟩ (.int .i64 x.cver)).setCell ⟨g, i * 7 + 4, none⟩ (.int .i64 x.cz)).setCell ⟨g, i * 7 + 5, none⟩ (.int .i64 x.mz)).setCell ⟨g, i * 7 + 6, none⟩ (.int .i64 x.pz) = w7
 intro h1 G
 have h2 : OwnN 85 w7 W.heap.size (.slice (some ⟨g, 0, none⟩) ns.length cv) (ns.set i x) := by
  unfold OwnN; rw [List.length_set]; exact h1
 have hb : Below W.heap.size w6 w7 := ⟨G.os, G.tape, G.output, G.size, fun q hq => G.block q (by have := hg.lt; have := hg.tb; omega) (fun e => by injection e with e; omega)⟩
 have htb := hg.tb
 have hlt := hg.lt
 exact ⟨hg.src.keep (hb.mono hk2), hg.tch.then hb, h2, (G.cell_far ⟨TB, 0, none⟩ hlt (fun e => hgT (by injection e with e; exact e.symm))).trans hg.ct, (G.frozen_far ⟨TB, 0, none⟩ hlt (fun e => hgT (by injection e with e; exact e.symm))).trans hg.ft, (G.cell_far ⟨W.heap.size, 0, none⟩ (by show W.heap.size < _; omega) (fun e => hgR (by injection e with e; exact e.symm))).trans hg.cr, (G.frozen_far ⟨W.heap.size, 0, none⟩ (by show W.heap.size < _; omega) (fun e => hgR (by injection e with e; exact e.symm))).trans hg.fr, hg.tb, Nat.lt_of_lt_of_le hg.lt hb.size, hg.vt, hg.vr⟩
theorem GR.outN {W w7 : World} {k B TB g cv n : Nat} {ms : List Nd} {s : Sr} (hg : GR W k B TB (.slice (some ⟨g, 0, none⟩) n cv) ms s w7) (hk2 : B ≤ W.heap.size) :
    RdN (w7.setCell ⟨W.heap.size, 0, none⟩ (.slice (some ⟨g, 0, none⟩) n cv)) (.slice (some ⟨g, 0, none⟩) n cv) ms ∧ SRX (w7.setCell ⟨W.heap.size, 0, none⟩ (.slice (some ⟨g, 0, none⟩) n cv)) k B s ∧ Tch k W (w7.setCell ⟨W.heap.size, 0, none⟩ (.slice (some ⟨g, 0, none⟩) n cv)) := by
 have hb : Below W.heap.size w7 (w7.setCell ⟨W.heap.size, 0, none⟩ (.slice (some ⟨g, 0, none⟩) n cv)) := (Below.refl _ _).setCell (by show W.heap.size ≤ W.heap.size; exact Nat.le_refl _) _
 exact ⟨(OwnN.setO hg.own hg.vr _).rd, hg.src.keep (hb.mono hk2), hg.tch.then hb⟩
end Go.Proofs.YtcopcegamadkgaaGreatDoor


