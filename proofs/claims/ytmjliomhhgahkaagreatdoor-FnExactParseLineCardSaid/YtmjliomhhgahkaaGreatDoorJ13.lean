import Derived.Test.YtmjliomhhgahkaaGreatDoorJ10
import Derived.Test.YtmjliomhhgahkaaGreatDoorJ11
import Derived.Test.YtmjliomhhgahkaaGreatDoorJ12
import Derived.Test.YtmjliomhhgahkaaGreatDoorCards
import Derived.Test.YtmjliomhhgahkaaGreatDoorTie
import Derived.Test.YtmjliomhhgahkaaGreatDoorJ05
import Derived.Deep.DeepHandedRow
import Derived.Lib.LaidIn
import Derived.Lib.LaidTab
import Derived.Lib.ItoaNum
import Derived.LaidHandle
import Derived.LaidSub
import Derived.Stop.LaidErr
import Derived.ShutString
import Derived.ChangeOld
import Derived.ChangeMaps5
import Derived.Shelf.Vars
import Derived.OpenShut
import Derived.Test.YtmjliomhhgahkaaGreatDoorJ01
namespace Go.Proofs.YtmjliomhhgahkaaGreatDoor
open Go.RowKit Go.Shelf
set_option linter.unusedVariables false

theorem opsO_len : ∀ (n : Nat) (L : List ByteArray) (os : List Op5), opsO n L = some os → os.length ≤ n
  | 0, L, os, h => by simp [opsO] at h
  | n + 1, L, os, h => by
    cases ho : opO (L.take (L.findIdx isSemi)) with
    | none => rw [opsO_none ho] at h; cases h
    | some o =>
      by_cases h2 : L.findIdx isSemi < L.length
      · rw [opsO_more ho h2] at h
        cases hr : opsO n (L.drop (L.findIdx isSemi + 1)) with
        | none => rw [hr] at h; cases h
        | some r =>
          rw [hr] at h
          injection h with h
          rw [← h, List.length_cons]
          have := opsO_len n _ r hr
          omega
      · rw [opsO_end ho h2] at h
        injection h with h
        rw [← h, List.length_cons, List.length_nil]
        omega
theorem lineOf_len (b : ByteArray) : (lineOf b).ops.length ≤ 100000 ∧ (lineOf b).nums.length ≤ 100000 := by
  unfold lineOf
  split
  · exact ⟨Nat.zero_le _, Nat.zero_le _⟩
  rename_i hb
  have hl := cutA_len 32 b.data.toList []
  have hs : (fldB b).length ≤ 60001 := by
    unfold fldB
    rw [List.length_map]
    have := dl_len b
    omega
  split
  · generalize fldB b = L at *
    unfold plF
    split
    · unfold plM
      cases hx : opsO L.length (L.drop 1) with
      | none => exact ⟨Nat.zero_le _, Nat.zero_le _⟩
      | some os =>
        have := opsO_len _ _ _ hx
        exact ⟨by show os.length ≤ _; omega, Nat.zero_le _⟩
    · unfold plO
      cases opO L with
      | some o => exact ⟨by show 1 ≤ _; omega, Nat.zero_le _⟩
      | none =>
        show (pl1 L).ops.length ≤ _ ∧ (pl1 L).nums.length ≤ _
        unfold pl1
        repeat' split
        all_goals first | exact ⟨Nat.zero_le _, Nat.zero_le _⟩ | skip
        unfold pl2
        repeat' split
        all_goals first | exact ⟨Nat.zero_le _, Nat.zero_le _⟩ | skip
        unfold plN
        cases hn : numsO (L.drop 1) with
        | none => exact ⟨Nat.zero_le _, Nat.zero_le _⟩
        | some ns =>
          have hnl := numsO_len hn
          show (if _ then _ else _ : Ln).ops.length ≤ _ ∧ (if _ then _ else _ : Ln).nums.length ≤ _
          split
          · rename_i h2
            have h3 : ns.length ≤ 100000 := by omega
            unfold plV
            repeat' split
            all_goals first | exact ⟨Nat.zero_le _, Nat.zero_le _⟩ | exact ⟨Nat.zero_le _, h3⟩
          · exact ⟨Nat.zero_le _, Nat.zero_le _⟩
  · exact ⟨Nat.zero_le _, Nat.zero_le _⟩

theorem bytes_of {xs : List Int} (h : Byt xs) : ∃ b : ByteArray, xs = bI b := by
  refine ⟨⟨(xs.map fun x => UInt8.ofNat x.toNat).toArray⟩, ?_⟩
  unfold bI
  rw [List.toList_toArray, List.map_map]
  have : xs.map ((fun x : UInt8 => (x.toNat : Int)) ∘ fun x : Int => UInt8.ofNat x.toNat) = xs.map id := List.map_congr_left fun x hx => by
    have := h x hx
    show ((UInt8.ofNat x.toNat).toNat : Int) = x
    rw [UInt8.toNat_ofNat_of_lt' (by show x.toNat < 256; omega)]
    omega
  rw [this, List.map_id]
/-- A line in its box, its rows from lo on. -/
structure LnB (W : World) (B lo : Nat) (l : Ln) (vo vn : Value) (os : List Op5) (ns : List Int) : Prop where
  b : W.heap[B]? = some (.cells #[.int .i64 l.kind, vo, .bool l.multi, .string l.path, vn] 28 (0, 0))
  o : OwnO 41 W lo vo os
  n : Own .i64 2 W lo vn ns
section
variable {W W' : World} {B lo m : Nat} {l : Ln} {vo vn : Value} {os : List Op5} {ns : List Int}
theorem LnB.new (w : World) (lo : Nat) (l : Ln) (vo vn : Value) (os : List Op5) (ns : List Int) (ho : OwnO 41 w lo vo os) (hn : Own .i64 2 w lo vn ns) : LnB (w.alloc (.cells #[.int .i64 l.kind, vo, .bool l.multi, .string l.path, vn] 28)) w.heap.size lo l vo vn os ns :=
  ⟨heap_alloc_new w _, ho.below ((Below.refl _ _).alloc (Nat.le_refl _) _), hn.below ((Below.refl _ _).alloc (Nat.le_refl _) _)⟩
theorem LnB.lt (h : LnB W B lo l vo vn os ns) : B < W.heap.size := (Array.getElem?_eq_some_iff.1 h.b).1
theorem LnB.later (h : LnB W B lo l vo vn os ns) (hb : Below W.heap.size W W') : LnB W' B lo l vo vn os ns := ⟨(hb.block _ h.lt).trans h.b, h.o.below hb, h.n.below hb⟩
theorem LnB.low (h : LnB W B lo l vo vn os ns) (hb : Below m W W') (h1 : B < m) (h2 : ∀ g, vo.ownBlock = some g → g < m) (h3 : ∀ g, vn.ownBlock = some g → g < m) : LnB W' B lo l vo vn os ns := by
  refine ⟨(hb.block _ h1).trans h.b, ⟨h.o.1, h.o.2.imp id ?_⟩, ⟨h.n.1, h.n.2.imp id ?_⟩⟩
  · rintro ⟨g, cap, cur, rfl, hbg, hgg, rest⟩
    exact ⟨g, cap, cur, rfl, hbg, (hb.block g (h2 g rfl)).trans hgg, rest⟩
  · rintro ⟨g, cap, cur, rfl, hbg, hgg, rest⟩
    exact ⟨g, cap, cur, rfl, hbg, (hb.block g (h3 g rfl)).trans hgg, rest⟩
theorem LnB.keep {t : TypeId} (h : LnB W B lo l vo vn os ns) (hk : KT t W W') (h1 : 28 ≠ t) (h2 : 41 ≠ t) (h3 : 2 ≠ t) : LnB W' B lo l vo vn os ns := ⟨hk.box h.b h1, ownsRow_keepT h.o hk h2, ownsRow_keepT h.n hk h3⟩
theorem LnB.cells (h : LnB W B lo l vo vn os ns) : W.cell? ⟨B, 0, none⟩ = some (.int .i64 l.kind) ∧ W.cell? ⟨B, 1, none⟩ = some vo ∧ W.cell? ⟨B, 2, none⟩ = some (.bool l.multi) ∧ W.cell? ⟨B, 3, none⟩ = some (.string l.path) ∧ W.cell? ⟨B, 4, none⟩ = some vn := by
  simp [World.cell?, h.b]
theorem LnB.bo (h : LnB W B lo l vo vn os ns) : ∀ g, vo.ownBlock = some g → g < W.heap.size := fun g hg => (World.ownsRow.lt h.o g hg).2
theorem LnB.bn (h : LnB W B lo l vo vn os ns) : ∀ g, vn.ownBlock = some g → g < W.heap.size := fun g hg => (World.ownsRow.lt h.n g hg).2
end

set_option maxRecDepth 100000 in
set_option maxHeartbeats 16000000 in
theorem lawLine_walk (w : World) (v : Value) (xs : List Int) (h : Rd .u8 w v xs) (hby : Byt xs) {m : Int} {te : TypeId} {pe : Value} (hg : PlG w m te pe) (hf : FmG w) :
    Calls Tryz.prog 3 #[v] w fun e w' => e = .returned (.bool true) ∧ Below w.heap.size w w' := by
  obtain ⟨b, rfl⟩ := bytes_of hby
  obtain ⟨ao, cap, hv, hl1, hl2⟩ := h.len
  have HR := hd9 h
  subst hv
  clear h
  unfold maxLen at hl2
  by_cases hbig : 1048576 < (bI b).length
  · have hbI : (1048576 : Int) < ((bI b).length : Int) := by omega
    clear hby
    go_enter Tryz.func3, Tryz.ntmps3
    go_wp2
    go_ret
    exact ⟨rfl, Below.refl _ _⟩
  · have hbI : ¬ (1048576 : Int) < ((bI b).length : Int) := by omega
    have hbs : b.size ≤ 1048576 := by rw [← bI_len]; omega
    obtain ⟨ll1, ll2⟩ := lineOf_len b
    have HSP := hd9 (fun (W : World) (v : Value) (h : Rd .u8 W v (bI b)) => specLine_any W v b h hbs)
    have HIP := hd9 (fun (W : World) (v : Value) (h : Rd .u8 W v (bI b)) (hb : Below w.heap.size w W) => implLine_any W v b h hbs (hg.later hb) (hf.later hb))
    clear hg hf hby hbs hbig
    generalize lineOf b = l at *
    generalize bI b = xs at *
    go_enter Tryz.func3, Tryz.ntmps3
    go_wp2_with fail
    refine (toByteS_any _ _ xs HR.out (by omega)).mono ?_
    rintro e w1 ⟨v1, rfl, o1, b1⟩
    go_wp2_with fail
    refine (HSP.out _ _ o1.rd).mono ?_
    rintro e w2 ⟨vo, vn, rfl, o2, n2, b2⟩
    obtain ⟨ao2, co2, rfl⟩ := o2.slice
    obtain ⟨an2, cn2, rfl⟩ : ∃ a c, vn = .slice a l.nums.length c := by
      obtain ⟨a, c, e9, -⟩ := ownI_cells n2
      exact ⟨a, c, e9⟩
    have B2 := hd9 (b1.trans (b2.mono b1.size))
    have LW := hd9 (LnB.new w2 w.heap.size l (.slice ao2 l.ops.length co2) (.slice an2 l.nums.length cn2) l.ops l.nums (OwnO.mono o2 b1.size) (Own.mono n2 b1.size))
    have BA := hd9 (B2.out.alloc B2.out.size (.cells #[.int .i64 l.kind, .slice ao2 l.ops.length co2, .bool l.multi, .string l.path, .slice an2 l.nums.length cn2] 28))
    have sA : (w2.alloc (.cells #[.int .i64 l.kind, .slice ao2 l.ops.length co2, .bool l.multi, .string l.path, .slice an2 l.nums.length cn2] 28)).heap.size = w2.heap.size + 1 := by simp
    have HBO : Hid (∀ g, Value.ownBlock (.slice ao2 l.ops.length co2) = some g → g < w2.heap.size + 1) := fun g hg => by have := LW.out.bo g hg; rwa [sA] at this
    have HBN : Hid (∀ g, Value.ownBlock (.slice an2 l.nums.length cn2) = some g → g < w2.heap.size + 1) := fun g hg => by have := LW.out.bn g hg; rwa [sA] at this
    have s0 := B2.out.size
    clear o1 b1 o2 n2 b2 B2 HSP
    go_wp2_with fail
    generalize w2.alloc (.cells #[.int .i64 l.kind, .slice ao2 l.ops.length co2, .bool l.multi, .string l.path, .slice an2 l.nums.length cn2] 28) = wa at *
    refine (toByteS_any _ _ xs (HR.out.below BA.out) (by omega)).mono ?_
    rintro e w3 ⟨v3, rfl, o3, b3⟩
    have O3 := hd9 o3
    replace LW := hd9 (LW.out.later b3)
    replace BA := hd9 (BA.out.trans (b3.mono BA.out.size))
    have s3 := b3.size
    clear o3 b3
    go_wp2_with fail
    refine (HIP.out _ _ O3.out.rd BA.out).mono ?_
    rintro e w4 ⟨go, gn, rfl, o4, n4, b4⟩
    obtain ⟨ao4, co4, rfl⟩ := o4.slice
    obtain ⟨an4, cn4, rfl⟩ : ∃ a c, gn = .slice a l.nums.length c := by
      obtain ⟨a, c, e9, -⟩ := ownI_cells n4
      exact ⟨a, c, e9⟩
    have bB : Below w4.heap.size w4 (w4.alloc (.cells #[.int .i64 l.kind, .slice ao4 l.ops.length co4, .bool l.multi, .string l.path, .slice an4 l.nums.length cn4] 28)) := (Below.refl _ _).alloc (Nat.le_refl _) _
    have b4B := b4.trans (bB.mono b4.size)
    replace LW := hd9 (LW.out.later b4B)
    replace BA := hd9 (BA.out.trans (b4B.mono BA.out.size))
    replace O3 := hd9 (O3.out.below b4B)
    have LG := hd9 (LnB.new w4 w3.heap.size l (.slice ao4 l.ops.length co4) (.slice an4 l.nums.length cn4) l.ops l.nums o4 n4)
    have s4 := b4.size
    have sB := bB.size
    clear o4 n4 b4 bB b4B
    obtain ⟨p0, p1, p2, p3, p4⟩ := LW.out.cells
    have HLW := hd9 (And.intro p0 (And.intro p1 (And.intro p2 (And.intro p3 p4))))
    go_wp2_with fail
    generalize w4.alloc (.cells #[.int .i64 l.kind, .slice ao4 l.ops.length co4, .bool l.multi, .string l.path, .slice an4 l.nums.length cn4] 28) = wb at *
    clear p0 p1 p2 p3 p4 HLW
    refine (eqLine_same _ l.kind l.ops l.multi l.path l.nums _ _ _ _ LG.out.o.rd LW.out.o.rd LG.out.n.rd LW.out.n.rd (by omega)).mono ?_
    rintro e w5 ⟨rfl, b5⟩
    replace LW := hd9 (LW.out.later b5)
    replace LG := hd9 (LG.out.later b5)
    replace BA := hd9 (BA.out.trans (b5.mono BA.out.size))
    replace O3 := hd9 (O3.out.below b5)
    have s5 := b5.size
    clear b5
    go_wp2_with fail
    refine (toByteS_any _ _ xs (HR.out.below BA.out) (by omega)).mono ?_
    rintro e w6 ⟨v6, rfl, o6, b6⟩
    have O6 := hd9 o6
    replace LW := hd9 (LW.out.later b6)
    replace LG := hd9 (LG.out.later b6)
    replace BA := hd9 (BA.out.trans (b6.mono BA.out.size))
    replace O3 := hd9 (O3.out.below b6)
    have s6 := b6.size
    clear o6 b6
    go_wp2_with fail
    refine (eqByteS_any _ _ _ xs xs O3.out.rd O6.out.rd).mono ?_
    rintro e w7 ⟨rfl, q7, rfl⟩
    rw [show decide (xs = xs) = true by simp]
    have b7 : Below w6.heap.size w6 (w6.drewN q7) := below_drewN' w6 q7
    replace LW := hd9 (LW.out.later b7)
    replace LG := hd9 (LG.out.later b7)
    replace BA := hd9 (BA.out.trans (b7.mono BA.out.size))
    replace O3 := hd9 (O3.out.below b7)
    have s7 := b7.size
    clear b7 O6
    generalize w6.drewN q7 = w7 at *
    go_wp2_with fail
    refine (markByteS_any _ _ _ xs 1 O3.out (by omega) (by omega) (by omega)).mono ?_
    rintro e w8 ⟨rfl, o8, g8⟩
    have bM : Below wa.heap.size w7 w8 := (Below.refl _ _).grown g8 (by omega) (fun k hk => (O3.out.lt k hk).1)
    replace LW := hd9 (LW.out.low bM (by omega) (fun g hg => by have := HBO.out g hg; omega) (fun g hg => by have := HBN.out g hg; omega))
    replace LG := hd9 (LG.out.keep ((KT.refl 5 w7).grown O3.out g8) (by decide) (by decide) (by decide))
    replace BA := hd9 (BA.out.trans (bM.mono (by omega)))
    have s8 := bM.size
    clear o8 g8 bM O3
    have hk0 : ¬ (1 + (xs.length : Int)) < 0 := by omega
    have hk0d : decide ((1 + (xs.length : Int)) < 0) = false := by simp; omega
    obtain ⟨p0, p1, p2, p3, p4⟩ := LW.out.cells
    obtain ⟨q0, q1, q2, q3, q4⟩ := LG.out.cells
    go_wp2_with fail
    clear p0 p1 p2 p3 p4 q0 q1 q2 q3 q4 hk0 hk0d
    refine (eqLine_same _ l.kind l.ops l.multi l.path l.nums _ _ _ _ LG.out.o.rd LW.out.o.rd LG.out.n.rd LW.out.n.rd (by omega)).mono ?_
    rintro e w9 ⟨rfl, b9⟩
    replace LW := hd9 (LW.out.later b9)
    replace LG := hd9 (LG.out.later b9)
    replace BA := hd9 (BA.out.trans (b9.mono BA.out.size))
    have s9 := b9.size
    clear b9
    obtain ⟨q0, q1, q2, q3, q4⟩ := LG.out.cells
    go_wp2_with fail
    clear q0 q1 q2 q3 q4
    refine (markLine_any _ w3.heap.size 1 l.kind l.multi l.path _ _ l.ops l.nums LG.out.o LG.out.n (by omega) (by omega) (by omega) (by omega)).mono ?_
    rintro e w10 ⟨rfl, o10, n10, b10, h10⟩
    replace LW := hd9 (LW.out.low b10 (by omega) (fun g hg => by have := HBO.out g hg; omega) (fun g hg => by have := HBN.out g hg; omega))
    have LH : Hid (LnB w10 w4.heap.size w3.heap.size l (.slice ao4 l.ops.length co4) (.slice an4 l.nums.length cn4) (mkOs 1 l.ops.length) (marks64 ((1 + 5 * l.ops.length : Nat) : Int) l.nums.length)) := ⟨h10 _ _ _ LG.out.b, o10, n10⟩
    replace BA := hd9 (BA.out.trans (b10.mono (by omega)))
    have s10 := b10.size
    clear o10 n10 b10 h10 LG
    obtain ⟨K, hK⟩ : ∃ K : Int, K = ((1 + 5 * l.ops.length : Nat) : Int) + (l.nums.length : Int) := ⟨_, rfl⟩
    rw [← hK]
    have HK := hd9 hK
    have hK0 : ¬ K < 0 := by omega
    have hKe : (K != K) = false := by simp
    clear hK
    obtain ⟨q0, q1, q2, q3, q4⟩ := LH.out.cells
    go_wp2_with fail
    clear q0 q1 q2 q3 q4
    have hH := heldLine_any w10 1 l.ops.length l.nums.length l.kind l.multi l.path _ _ LH.out.o.rd LH.out.n.rd (by omega) (by omega) (by omega)
    rw [← HK.out] at hH
    refine hH.mono ?_
    rintro e w11 ⟨rfl, b11⟩
    replace LW := hd9 (LW.out.later b11)
    replace BA := hd9 (BA.out.trans (b11.mono BA.out.size))
    have s11 := b11.size
    clear b11 hH LH HK
    go_wp2_with fail
    refine (toByteS_any _ _ xs (HR.out.below BA.out) (by omega)).mono ?_
    rintro e w12 ⟨v12, rfl, o12, b12⟩
    have O12 := hd9 o12
    replace LW := hd9 (LW.out.later b12)
    replace BA := hd9 (BA.out.trans (b12.mono BA.out.size))
    have s12 := b12.size
    clear o12 b12
    go_wp2_with fail
    refine (HIP.out _ _ O12.out.rd BA.out).mono ?_
    rintro e w13 ⟨ho, hn, rfl, o13, n13, b13⟩
    obtain ⟨ao5, co5, rfl⟩ := o13.slice
    obtain ⟨an5, cn5, rfl⟩ : ∃ a c, hn = .slice a l.nums.length c := by
      obtain ⟨a, c, e9, -⟩ := ownI_cells n13
      exact ⟨a, c, e9⟩
    have bC : Below w13.heap.size w13 (w13.alloc (.cells #[.int .i64 l.kind, .slice ao5 l.ops.length co5, .bool l.multi, .string l.path, .slice an5 l.nums.length cn5] 28)) := (Below.refl _ _).alloc (Nat.le_refl _) _
    have b13C := b13.trans (bC.mono b13.size)
    replace LW := hd9 (LW.out.later b13C)
    replace BA := hd9 (BA.out.trans (b13C.mono BA.out.size))
    have LG := hd9 (LnB.new w13 w12.heap.size l (.slice ao5 l.ops.length co5) (.slice an5 l.nums.length cn5) l.ops l.nums o13 n13)
    clear o13 n13 b13 bC b13C HIP O12
    obtain ⟨p0, p1, p2, p3, p4⟩ := LW.out.cells
    go_wp2_with fail
    clear p0 p1 p2 p3 p4
    generalize w13.alloc (.cells #[.int .i64 l.kind, .slice ao5 l.ops.length co5, .bool l.multi, .string l.path, .slice an5 l.nums.length cn5] 28) = wc at *
    refine (eqLine_same _ l.kind l.ops l.multi l.path l.nums _ _ _ _ LG.out.o.rd LW.out.o.rd LG.out.n.rd LW.out.n.rd (by omega)).mono ?_
    rintro e w14 ⟨rfl, b14⟩
    replace BA := hd9 (BA.out.trans (b14.mono BA.out.size))
    clear b14 LW LG
    go_wp2_with fail
    go_ret
    exact ⟨rfl, BA.out⟩
end Go.Proofs.YtmjliomhhgahkaaGreatDoor
namespace Go.Proofs.YtmjliomhhgahkaaGreatDoor
open Go.ChangeShapes Go.WideShapes Go.ChangeAt Go.RowKit

theorem knob : ownKnob Tryz.prog.godebug = none := by kernel_rfl
theorem laidOut : laidOutB Tryz.prog = true := by kernel_rfl

/-- The variables that are laid. -/
def lL8 : List (String × DataW Unit) := [("math/bits.deBruijn32tab", Rows.laid_math_bits_deBruijn32tab), ("math/bits.deBruijn64tab", Rows.laid_math_bits_deBruijn64tab), ("internal/strconv.uint64pow10", Rows.laid_internal_strconv_uint64pow10), ("unicode/utf8.acceptRanges", Rows.laid_unicode_utf8_acceptRanges), ("strconv.ErrRange", Rows.laid_strconv_ErrRange), ("strconv.ErrSyntax", Rows.laid_strconv_ErrSyntax), ("loop.example/s01594/impl.opForms", Rows.laid_loop_example_s01594_impl_opForms), ("unicode/utf8.first", Rows.laid_unicode_utf8_first)]
theorem lL_none : (lL8.filter fun x => x.2.handleName?.isNone) = lL8 := by kernel_rfl
theorem lL_some : (lL8.filter fun x => x.2.handleName?.isSome) = [] := by kernel_rfl

def gL (P : Program) (n : String) : Nat := (P.globalNamed n).getD 0
def lowL (P : Program) : Nat := (World.holding P default ⟨#[], #[], []⟩).heap.size
/-- The witness: the variables as they are laid. -/
def laidWorldL (P : Program) (os : Os) : World :=
  let w0 := World.holding P os ⟨#[.cells #[.string ⟨#[118, 97, 108, 117, 101, 32, 111, 117, 116, 32, 111, 102, 32, 114, 97, 110, 103, 101]⟩] 120, .cells #[.string ⟨#[105, 110, 118, 97, 108, 105, 100, 32, 115, 121, 110, 116, 97, 120]⟩] 120], #[], []⟩
  let put (h : Array Obj) (g : Nat) (cs : Array Value) : Array Obj := h.modify g fun
    | .cells _ t frozen => .cells cs t frozen
    | o => o
  let h1 := put w0.heap (gL P "unicode/utf8.first") (Go.Pinned.utf8FirstZ.map fun (z : Nat) => Value.int .u8 (z : Int)).toArray
  let h2 := put h1 (gL P "unicode/utf8.acceptRanges") ((([128, 191, 160, 191, 128, 159, 144, 191, 128, 143] : List Int) ++ List.replicate 22 0).map fun (z : Int) => Value.int .u8 z).toArray
  let h3 := put h2 (gL P "math/bits.deBruijn32tab") (([0, 1, 28, 2, 29, 14, 24, 3, 30, 22, 20, 15, 25, 17, 4, 8, 31, 27, 13, 23, 21, 19, 16, 7, 26, 12, 18, 6, 11, 5, 10, 9] : List Int).map fun (z : Int) => Value.int .u8 z).toArray
  let h4 := put h3 (gL P "math/bits.deBruijn64tab") (([0, 1, 56, 2, 57, 49, 28, 3, 61, 58, 42, 50, 38, 29, 17, 4, 62, 47, 59, 36, 45, 43, 51, 22, 53, 39, 33, 30, 24, 18, 12, 5, 63, 55, 48, 27, 60, 41, 37, 16, 46, 35, 44, 21, 52, 32, 23, 11, 54, 26, 40, 15, 34, 20, 31, 10, 25, 14, 19, 9, 13, 8, 7, 6] : List Int).map fun (z : Int) => Value.int .u8 z).toArray
  let h5 := put h4 (gL P "internal/strconv.uint64pow10") (Lib.pow10Tab.map fun (z : Int) => Value.int .u64 z).toArray
  let h6 := put h5 (gL P "strconv.ErrRange") #[.iface 118 (.pointer (some ⟨lowL P, 0, none⟩))]
  let h7 := put h6 (gL P "strconv.ErrSyntax") #[.iface 118 (.pointer (some ⟨lowL P + 1, 0, none⟩))]
  let h8 := put h7 (gL P "loop.example/s01594/impl.opForms") fmL.toArray
  { w0 with heap := h8 }
theorem laid_met8 (os : Os) (args : Array Value) : laidMet Tryz.prog lL8 ((laidWorldL Tryz.prog os).forCall (fun _ _ => 0) ⟨#[], args, []⟩).memory :=
  (LaidIn.of_run (l := lL8) [gL Tryz.prog "unicode/utf8.first", gL Tryz.prog "unicode/utf8.acceptRanges", gL Tryz.prog "math/bits.deBruijn32tab", gL Tryz.prog "math/bits.deBruijn64tab", gL Tryz.prog "internal/strconv.uint64pow10", gL Tryz.prog "strconv.ErrRange", gL Tryz.prog "strconv.ErrSyntax", gL Tryz.prog "loop.example/s01594/impl.opForms", lowL Tryz.prog, lowL Tryz.prog + 1] 8 (by kernel_rfl) (by kernel_rfl) (by kernel_rfl) (by kernel_rfl)).met
theorem laid_metL (os : Os) (args : Array Value) : laidMetH Tryz.prog lL8 ((laidWorldL Tryz.prog os).forCall (fun _ _ => 0) ⟨#[], args, []⟩).memory :=
  laidMetH_of_parts (by rw [lL_none]; exact laid_met8 os args) (by rw [lL_some]; kernel_rfl)

/-- What the condition gives the walk: bytealg.MaxLen holds some number, out of the world's shape. -/
theorem max_of_shape {W : World} (h : W.ShapedOpen Tryz.prog) : ∃ m, W.cell? ⟨0, 0, none⟩ = some (.int .i64 m) :=
  cell_of_shapedOpen_int (t := 3) (zero := #[.int .i64 0]) h (of_decide_eq_true (by kernel_rfl)) (by kernel_rfl) rfl (by kernel_rfl) (by kernel_rfl) Tryz.underlying3
theorem star9 : "*" ++ "errors.errorString" = "*errors.errorString" := by decide
theorem rowES (u : TypeId) (h : Tryz.prog.typeName? 3 u = some "*errors.errorString") : u = 118 :=
  typeName_ptr_named (nm := "errors.errorString") (by rw [star9]; kernel_rfl) (by kernel_rfl) (by decide) u (by rw [star9]; exact h)
theorem syn_of_laid {W : World} (h : laidMetH Tryz.prog lL8 W) : ∃ a, W.cell? ⟨4, 0, none⟩ = some (.iface 118 (.pointer (some a))) := by
  have h' := (laidMetH_iff.1 h).1
  rw [lL_none] at h'
  have h2 : laidMet Tryz.prog (("strconv.ErrSyntax", Rows.laid_strconv_ErrSyntax) :: [("loop.example/s01594/impl.opForms", Rows.laid_loop_example_s01594_impl_opForms), ("unicode/utf8.first", Rows.laid_unicode_utf8_first)]) W := laidMet.tail (laidMet.tail (laidMet.tail (laidMet.tail (laidMet.tail h'))))
  have hg : Tryz.prog.globalNamed "strconv.ErrSyntax" = some 4 := by kernel_rfl
  obtain ⟨a1, s1, hv1, -⟩ := laid_sentinel h2 hg (by kernel_rfl) Tryz.underlying94 rowES Tryz.underlying118 Tryz.underlying120 rfl rfl Tryz.underlying9 (by kernel_rfl) (by kernel_rfl)
  exact ⟨a1, by simpa using World.var?_cell hg hv1 0⟩
section
variable {H : Type} {enc : TypeId × Value → H} {w : World} {base : Nat} {sp : Nat → Bool} {held : Bool} {fuel : Nat}
set_option maxRecDepth 100000 in
theorem form_cells {cs : List Value} {s : List UInt8} {k : Int} {b1 b2 b3 : Bool} {p : List MemPlace} (h : DataW.trod enc Tryz.prog w base sp held fuel 85 cs = some (.agg [.lit (.string s), .lit (.int .i64 k), .lit (.bool b1), .lit (.bool b2), .lit (.bool b3)], p)) :
    cs = [.string (mkB s), .int .i64 k, .bool b1, .bool b2, .bool b3] := by
  obtain ⟨xs, n, -, hx, hl, hlen, hf⟩ := DataW.trod_struct Tryz.underlying85 h
  have hl5 : cs.length = 5 := hl.trans (by kernel_rfl)
  match xs, hlen, cs, hl5 with
  | [y0, y1, y2, y3, y4], _, [c0, c1, c2, c3, c4], _ =>
    have f0 := hf 0 _ rfl
    have f1 := hf 1 _ rfl
    have f2 := hf 2 _ rfl
    have f3 := hf 3 _ rfl
    have f4 := hf 4 _ rfl
    have e9 : Tryz.prog.cellsOf 9 = 1 := by kernel_rfl
    have e2 : Tryz.prog.cellsOf 2 = 1 := by kernel_rfl
    have e4 : Tryz.prog.cellsOf 4 = 1 := by kernel_rfl
    have u0 : DataW.trod enc Tryz.prog w base sp held n 9 (([c0, c1, c2, c3, c4].drop 0).take (Tryz.prog.cellsOf 9)) = some y0 := f0
    have u1 : DataW.trod enc Tryz.prog w base sp held n 2 (([c0, c1, c2, c3, c4].drop 1).take (Tryz.prog.cellsOf 2)) = some y1 := f1
    have u2 : DataW.trod enc Tryz.prog w base sp held n 4 (([c0, c1, c2, c3, c4].drop 2).take (Tryz.prog.cellsOf 4)) = some y2 := f2
    have u3 : DataW.trod enc Tryz.prog w base sp held n 4 (([c0, c1, c2, c3, c4].drop 3).take (Tryz.prog.cellsOf 4)) = some y3 := f3
    have u4 : DataW.trod enc Tryz.prog w base sp held n 4 (([c0, c1, c2, c3, c4].drop 4).take (Tryz.prog.cellsOf 4)) = some y4 := f4
    clear f0 f1 f2 f3 f4
    rw [e9] at u0
    rw [e2] at u1
    rw [e4] at u2 u3 u4
    simp only [List.drop_zero, List.drop_succ_cons, List.take_succ_cons, List.take_zero] at u0 u1 u2 u3 u4
    obtain ⟨s0, g0, rfl, -⟩ := DataW.trod_string Tryz.underlying9 u0
    obtain ⟨n1, g1, rfl, -⟩ := DataW.trod_int Tryz.underlying2 u1
    obtain ⟨z2, g2, rfl⟩ := DataW.trod_bool Tryz.underlying4 u2
    obtain ⟨z3, g3, rfl⟩ := DataW.trod_bool Tryz.underlying4 u3
    obtain ⟨z4, g4, rfl⟩ := DataW.trod_bool Tryz.underlying4 u4
    simp at g0 g1 g2 g3 g4 hx
    obtain ⟨⟨h0, h1, h2, h3, h4⟩, -⟩ := hx
    subst g0 g1 g2 g3 g4 h1 h2 h3 h4
    rw [h0, mkB_data]
end
theorem chunks5 {l : List Value} (h : l.length = 25) : l = (l.drop 0).take 5 ++ ((l.drop 5).take 5 ++ ((l.drop 10).take 5 ++ ((l.drop 15).take 5 ++ (l.drop 20).take 5))) := by
  have e : ∀ n, (l.drop n).take 5 ++ l.drop (n + 5) = l.drop n := fun n => by rw [← List.drop_drop]; exact List.take_append_drop 5 _
  have z : (l.drop 20).take 5 = l.drop 20 := List.take_of_length_le (by rw [List.length_drop]; omega)
  rw [z, e 15, e 10, e 5, e 0, List.drop_zero]
set_option maxRecDepth 100000 in
theorem forms_var {W : World} (h : laidMetH Tryz.prog lL8 W) : W.var? Tryz.prog "loop.example/s01594/impl.opForms" = some fmL.toArray := by
  have h' := (laidMetH_iff.1 h).1
  rw [lL_none] at h'
  have h2 : laidMet Tryz.prog (("loop.example/s01594/impl.opForms", Rows.laid_loop_example_s01594_impl_opForms) :: [("unicode/utf8.first", Rows.laid_unicode_utf8_first)]) W := laidMet.tail (laidMet.tail (laidMet.tail (laidMet.tail (laidMet.tail (laidMet.tail h')))))
  have hg : Tryz.prog.globalNamed "loop.example/s01594/impl.opForms" = some 1 := by kernel_rfl
  have hty : (Tryz.prog.globals[1]?).map (·.type) = some 91 := by kernel_rfl
  obtain ⟨ps, ⟨g', t', cs, fuel, p, q, hg', ht', hvar, hd, -, -⟩, -⟩ := h2
  obtain rfl := Option.some.inj (hg.symm.trans hg')
  obtain rfl := Option.some.inj (hty.symm.trans ht')
  obtain ⟨xs, m, -, hx, hl, hlen, hf⟩ := DataW.trod_array Tryz.underlying91 hd
  have hl25 : cs.toList.length = 25 := hl.trans (by kernel_rfl)
  have e5 : Tryz.prog.cellsOf 85 = 5 := by kernel_rfl
  have hcs : cs.toList = fmL := by
    match xs, hlen with
    | [y0, y1, y2, y3, y4], _ =>
      have f0 := hf 0 (by omega)
      have f1 := hf 1 (by omega)
      have f2 := hf 2 (by omega)
      have f3 := hf 3 (by omega)
      have f4 := hf 4 (by omega)
      simp only [e5, List.getElem?_cons_zero, List.getElem?_cons_succ] at f0 f1 f2 f3 f4
      have hx1 := congrArg Prod.fst hx
      unfold Rows.laid_loop_example_s01594_impl_opForms at hx1
      simp at hx1
      obtain ⟨h0, h1, h2, h3, h4⟩ := hx1
      obtain ⟨a0, b0⟩ := y0
      obtain ⟨a1, b1⟩ := y1
      obtain ⟨a2, b2⟩ := y2
      obtain ⟨a3, b3⟩ := y3
      obtain ⟨a4, b4⟩ := y4
      simp only at h0 h1 h2 h3 h4
      subst h0 h1 h2 h3 h4
      have g0 := form_cells f0
      have g1 := form_cells f1
      have g2 := form_cells f2
      have g3 := form_cells f3
      have g4 := form_cells f4
      rw [chunks5 hl25]
      simp only [Nat.zero_mul, Nat.one_mul, show 2 * 5 = 10 from rfl, show 3 * 5 = 15 from rfl, show 4 * 5 = 20 from rfl] at g0 g1 g2 g3 g4
      rw [g0, g1, g2, g3, g4]
      rfl
  rw [hvar, ← hcs]
theorem gForms : Tryz.prog.globalNamed "loop.example/s01594/impl.opForms" = some 1 := by kernel_rfl
theorem gFormsType : (Tryz.prog.globals[1]?).map (·.type) = some 91 := by kernel_rfl
theorem reads_forms {H : Type} (enc : TypeId × Value → H) (W : World) (sp : Nat → Bool) : DataW.trod enc Tryz.prog W 0 sp true 4 91 fmL.toArray.toList = some (Rows.laid_loop_example_s01594_impl_opForms, []) := by kernel_rfl
theorem forms_of_laid {W : World} (h : laidMetH Tryz.prog lL8 W) : FmG W := by
  have hcell := fun i => World.var?_cell gForms (forms_var h) i
  have hc0 := hcell 0
  rw [show fmL.toArray[0]? = some (fmL.getD 0 undef) from rfl] at hc0
  refine ⟨World.block_lt_of_cell? W _ hc0, fun j v hv => ?_⟩
  rw [Nat.zero_add, hcell j, List.getElem?_toArray]
  exact hv

theorem addr_add_none (b o i : Nat) : (⟨b, o, none⟩ : Addr).add i = ⟨b, o + i, none⟩ := Addr.add_lit ..

theorem rd_of {k : IntKind} {w : World} {x : Addr} {len cap : Nat} {zs : List Int} (hl : len ≤ cap) (hm : cap ≤ maxLen) (hz : zs.length = cap)
    (hcell : ∀ i, i < zs.length → w.cell? (x.add i) = some (.int k (zs.getD i 0))) : Rd k w (.slice (some x) len cap) (zs.take len) := by
  have hlen : (zs.take len).length = len := by simp; omega
  refine ⟨some x, cap, by rw [hlen], by rw [hlen]; exact hl, hm, ?_⟩
  by_cases h0 : len = 0
  · subst h0; exact .inl rfl
  · right
    obtain ⟨b, off, spot⟩ := x
    have hc := hcell 0 (by omega)
    have hspot : spot = none := by simpa [Addr.add] using World.cell?_spot hc
    subst hspot
    refine ⟨b, off, rfl, ?_, fun i hi => ?_⟩
    · have := World.block_lt_of_cell? w _ hc
      simpa [Addr.add] using this
    · rw [hlen] at hi
      have := hcell i (by omega)
      rw [addr_add_none] at this
      rw [this]
      simp [List.getD, List.getElem?_take_of_lt hi]

theorem byt_of {zs : List Int} {len : Nat} (h : ∀ n ∈ zs, (Lit.int .u8 n).wf = true) : Byt (zs.take len) := by
  intro x hx
  have := h x (List.mem_of_mem_take hx)
  have b := bounds_u8 this
  omega

/-- A []byte that came in. -/
theorem open_bytes {H : Type} {enc : TypeId × Value → H} {W : World} {a0 : Option Addr} {len0 cap0 : Nat} {d0 : DataW H} {p0 : List MemPlace} {base : Nat} {b : Bool}
    (h0 : DataW.Trod enc Tryz.prog W base (fun _ => true) b 22 (.slice a0 len0 cap0) d0 p0) : ∃ xs, Rd .u8 W (.slice a0 len0 cap0) xs ∧ Byt xs := by
  obtain ⟨fuel, hf⟩ := h0
  rcases open_ints Tryz.underlying22 Tryz.underlying5 (by kernel_rfl) hf with ⟨hcs, _⟩ | ⟨x, l, c, zs, hcs, _, hl, hm, hz, _, hcell, hwz⟩
  · simp [Value.cells] at hcs
    obtain ⟨rfl, rfl, rfl⟩ := hcs
    exact ⟨[], ⟨none, 0, rfl, Nat.le_refl _, Nat.zero_le _, .inl rfl⟩, fun x hx => by cases hx⟩
  · simp [Value.cells] at hcs
    obtain ⟨rfl, rfl, rfl⟩ := hcs
    exact ⟨zs.take len0, rd_of hl hm (by simpa using hz) hcell, byt_of hwz⟩

end Go.Proofs.YtmjliomhhgahkaaGreatDoor


