import Derived.Test.YtoljmlhnbmeloaaDoorJ06
import Derived.Test.YtoljmlhnbmeloaaDoorJ05
import Derived.Deep.RegionHeld3
import Derived.Deep.AppendLies
import Derived.Test.YtoljmlhnbmeloaaDoorJ04
import Derived.Test.YtoljmlhnbmeloaaDoorCards
import Derived.Test.YtoljmlhnbmeloaaDoorTie
import Derived.Deep.DeepHandedRow
import Derived.Lib.LaidIn
import Derived.ShutString
import Derived.ChangeOld
import Derived.ChangeMaps5
import Derived.Lib.LaidTab
import Derived.Test.YtoljmlhnbmeloaaDoorJ02
import Derived.Lib.SmallJoins
namespace Go.Proofs.YtoljmlhnbmeloaaDoor
open Go.RowKit

/-- A superblock's box. -/
def Sup5 (W : World) (b : Nat) (c : Int) : Prop := b < W.heap.size ∧ W.cell? ⟨b, 0, none⟩ = some (.int .i64 1) ∧ W.cell? ⟨b, 1, none⟩ = some (.int .i64 0) ∧ W.cell? ⟨b, 2, none⟩ = some (.int .i64 0) ∧ W.cell? ⟨b, 3, none⟩ = some (.int .i64 23) ∧ W.cell? ⟨b, 4, none⟩ = some (.int .i64 c)
theorem Sup5.below {W W' : World} {b : Nat} {c : Int} (h : Sup5 W b c) (hb : Below W.heap.size W W') : Sup5 W' b c :=
  ⟨Nat.lt_of_lt_of_le h.1 hb.size, (hb.cell (p := ⟨b, 0, none⟩) h.1).trans h.2.1, (hb.cell (p := ⟨b, 1, none⟩) h.1).trans h.2.2.1, (hb.cell (p := ⟨b, 2, none⟩) h.1).trans h.2.2.2.1, (hb.cell (p := ⟨b, 3, none⟩) h.1).trans h.2.2.2.2.1, (hb.cell (p := ⟨b, 4, none⟩) h.1).trans h.2.2.2.2.2⟩
theorem Sup5.other {W W' : World} {b g : Nat} {c : Int} (h : Sup5 W b c) (hg : W.grownBy W' (some g)) (hn : b ≠ g) : Sup5 W' b c := by
  have hbl := hg.block b h.1 (fun e => hn (by simpa using e))
  exact ⟨Nat.lt_of_lt_of_le h.1 hg.size, (World.cell?_of_block (a := ⟨b, 0, none⟩) hbl).trans h.2.1, (World.cell?_of_block (a := ⟨b, 1, none⟩) hbl).trans h.2.2.1, (World.cell?_of_block (a := ⟨b, 2, none⟩) hbl).trans h.2.2.2.1, (World.cell?_of_block (a := ⟨b, 3, none⟩) hbl).trans h.2.2.2.2.1, (World.cell?_of_block (a := ⟨b, 4, none⟩) hbl).trans h.2.2.2.2.2⟩
theorem box2_other {W W' : World} {b g : Nat} {x y : Value} (h : Box2 W b x y) (hg : W.grownBy W' (some g)) (hn : b ≠ g) : Box2 W' b x y := by
  have hbl := hg.block b h.1 (fun e => hn (by simpa using e))
  exact ⟨Nat.lt_of_lt_of_le h.1 hg.size, (World.cell?_of_block (a := ⟨b, 0, none⟩) hbl).trans h.2.1, (World.cell?_of_block (a := ⟨b, 1, none⟩) hbl).trans h.2.2⟩
theorem boxF_other {W W' : World} {b g : Nat} {x y : Value} (h : BoxF W b x y) (hg : W.grownBy W' (some g)) (hn : b ≠ g) : BoxF W' b x y := by
  have hbl := hg.block b h.1.1 (fun e => hn (by simpa using e))
  exact ⟨box2_other h.1 hg hn, (World.frozen?_of_block (a := ⟨b, 0, none⟩) hbl).trans h.2.1, (World.frozen?_of_block (a := ⟨b, 1, none⟩) hbl).trans h.2.2⟩
theorem FmS.other {w : World} {S L : Int} {W W' : World} {g : Nat} (h : FmS w S L W) (hg : W.grownBy W' (some g)) (hn : w.heap.size + 2 ≤ g) : FmS w S L W' :=
  ⟨h.1.grown hg (by have := h.lt; omega) (fun q hq => by simp at hq; omega), box2_other h.2.1 hg (by omega), boxF_other h.2.2 hg (by omega)⟩

/-- What a format has in its boxes. -/
def FmI (w : World) (S L : Int) (Bd Bs g N cap : Nat) (C9 : Int) (W : World) : Prop :=
  Hid (FmS w S L W ∧ Box2 W Bd (.slice (some ⟨g, 0, none⟩) N cap) (.slice none 0 0) ∧ Sup5 W Bs C9) ∧ W.cell? ⟨w.heap.size, 0, none⟩ = some (.int .i64 S) ∧ W.cell? ⟨w.heap.size, 1, none⟩ = some (.int .i64 L) ∧
    W.cell? ⟨Bd, 0, none⟩ = some (.slice (some ⟨g, 0, none⟩) N cap) ∧ W.cell? ⟨Bd, 1, none⟩ = some (.slice none 0 0) ∧
    W.cell? ⟨Bs, 0, none⟩ = some (.int .i64 1) ∧ W.cell? ⟨Bs, 1, none⟩ = some (.int .i64 0) ∧ W.cell? ⟨Bs, 2, none⟩ = some (.int .i64 0) ∧ W.cell? ⟨Bs, 3, none⟩ = some (.int .i64 23) ∧ W.cell? ⟨Bs, 4, none⟩ = some (.int .i64 C9)
theorem FmI.mk {w : World} {S L : Int} {Bd Bs g N cap : Nat} {C9 : Int} {W : World} (h1 : FmS w S L W) (h2 : Box2 W Bd (.slice (some ⟨g, 0, none⟩) N cap) (.slice none 0 0)) (h3 : Sup5 W Bs C9) : FmI w S L Bd Bs g N cap C9 W :=
  ⟨⟨h1, h2, h3⟩, h1.2.1.2.1, h1.2.1.2.2, h2.2.1, h2.2.2, h3.2⟩
theorem FmI.below {w : World} {S L : Int} {Bd Bs g N cap : Nat} {C9 : Int} {W W' : World} (h : FmI w S L Bd Bs g N cap C9 W) (hb : Below W.heap.size W W') : FmI w S L Bd Bs g N cap C9 W' :=
  FmI.mk (h.1.out.1.below hb) (h.1.out.2.1.below hb) (h.1.out.2.2.below hb)
theorem FmI.other {w : World} {S L : Int} {Bd Bs g N cap : Nat} {C9 : Int} {W W' : World} (h : FmI w S L Bd Bs g N cap C9 W) (hg : W.grownBy W' (some g)) (h1 : w.heap.size + 2 ≤ g) (h2 : Bd ≠ g) (h3 : Bs ≠ g) : FmI w S L Bd Bs g N cap C9 W' :=
  FmI.mk (h.1.out.1.other hg h1) (box2_other h.1.out.2.1 hg h2) (h.1.out.2.2.other hg h3)

/-- A row that a piece was laid into. -/
theorem own_spliced {W W' : World} {base g N cap : Nat} {D C : List Int} {off : Nat} {cur : List Value} (ho : Own .u8 5 W base (.slice (some ⟨g, 0, none⟩) N cap) D) (hD : D.length = N) (hgb : W.heap[g]? = some (.cells cur.toArray 5 (0, 0))) (hoff : off + C.length ≤ N)
    (hg : W'.heap[g]? = some (.cells (splice cur off (C.map (Value.int .u8))).toArray 5 (0, 0))) : Own .u8 5 W' base (.slice (some ⟨g, 0, none⟩) N cap) (splice D off C) := by
  rcases ho.2 with ⟨h, -⟩ | ⟨g', cap', cur', e, hb, h2, h3, h4, h5, h6⟩
  · simp at h
  · simp only [Value.slice.injEq, Option.some.injEq, Addr.mk.injEq] at e
    obtain ⟨⟨rfl, -⟩, -, rfl⟩ := e
    rw [hgb] at h2
    simp only [Option.some.injEq, Obj.cells.injEq] at h2
    obtain ⟨rfl, -⟩ := h2
    rw [hD] at h3 h6
    rw [Nat.mul_one] at h5 h6
    have hcl : cur.length = cap := by simpa using h5
    have hl : (splice D off C).length = N := by rw [length_splice _ _ _ (by omega), hD]
    refine ⟨by rw [List.length_map, hl]; omega, .inr ⟨g, cap, _, by rw [hl], hb, hg, by rw [hl]; exact h3, h4, ?_, ?_⟩⟩
    · rw [List.size_toArray, length_splice _ _ _ (by rw [List.length_map]; omega), hcl, Nat.mul_one]
    · rw [hl, Nat.mul_one, splice_map, ← h6]
      apply List.ext_getElem?
      intro j
      rw [splice_get _ _ _ (by rw [List.length_take, List.length_map]; simp; omega), List.getElem?_take]
      by_cases hj : j < N
      · rw [if_pos hj, splice_get _ _ _ (by rw [List.length_map]; omega)]
        simp only [List.getElem?_take_of_lt hj]
      · rw [if_neg hj, if_neg (by omega), if_neg (by rw [List.length_map]; omega), List.getElem?_take, if_neg hj]

set_option maxHeartbeats 400000 in
theorem slotOf_any (w : World) : Calls Tryd.prog 46 #[.int .i64 1] w fun e w' => e = .returned (.int .i64 ((1 : Nat) : Int)) ∧ w' = w := by
  go_enter Tryd.func46, Tryd.ntmps46
  go_wp2
  go_ret
  exact ⟨rfl, rfl⟩

theorem arr_at (g c : Nat) (W : World) : (Instr.arrayAt 77 (.slice (some ⟨g, 0, none⟩) 64 c)).run Tryd.prog W = .ok (.pointer (some ⟨g, 0, none⟩)) W := by kernel_rfl

theorem own_block {W : World} {base g N cap : Nat} {D : List Int} (ho : Own .u8 5 W base (.slice (some ⟨g, 0, none⟩) N cap) D) : ∃ cur : List Value, W.heap[g]? = some (.cells cur.toArray 5 (0, 0)) ∧ cur.length = cap := by
  rcases ho.2 with ⟨h, -⟩ | ⟨g', cap', cur, e, -, h2, h3, h4, h5, h6⟩
  · simp at h
  · simp only [Value.slice.injEq, Option.some.injEq, Addr.mk.injEq] at e
    obtain ⟨⟨rfl, -⟩, -, rfl⟩ := e
    exact ⟨cur.toList, by simpa using h2, by simpa using h5⟩

set_option linter.unusedSimpArgs false in
set_option maxHeartbeats 4000000 in
set_option maxRecDepth 100000 in
theorem implFormat_yes (w : World) (S L : Int) (hc : cfgOk S L = true) (hT : TabC w) (h0 : 0 < w.heap.size) :
    Calls Tryd.prog 8 #[.agg #[.int .i64 S, .int .i64 L]] w fun e w' => ∃ v', e = .returned (.agg #[v', .slice none 0 0]) ∧ Own .u8 5 w' (w.heap.size + 2) v' (fmN (fmK S L)) ∧ Below w.heap.size w w' := by
  have HC : Hid (cfgOk S L = true) := hc
  have HT : Hid (TabC w) := hT
  have H0 : Hid (0 < w.heap.size) := h0
  obtain ⟨hk1, hk2, hk3⟩ := fmK_in hc
  obtain ⟨⟨hS1, hS2⟩, hL1, hL2⟩ := (cfgOk_iff S L).1 hc
  have HK : Hid (2 + 2 * (S + L) = ((fmK S L : Nat) : Int)) := hk1
  have HND : Hid (∀ W, Calls Tryd.prog 40 #[.int .i64 (2 + 2 * (S + L))] W fun e w' => ∃ g cap, e = .returned (.agg #[.slice (some ⟨g, 0, none⟩) (fmK S L * 64) cap, .slice none 0 0]) ∧ Own .u8 5 w' W.heap.size (.slice (some ⟨g, 0, none⟩) (fmK S L * 64) cap) (zeros (fmK S L * 64)) ∧ (fmK S L * 64 ≤ cap ∧ cap ≤ maxLen) ∧ Below W.heap.size W w') := by
    intro W
    rw [HK.out]
    refine (implNewDisk_any W _).mono ?_
    rintro e w' ⟨v', rfl, o, b⟩
    have hn : ndl ((fmK S L : Nat) : Int) = fmK S L * 64 := by unfold ndl; rw [if_pos (by omega)]; rfl
    rw [hn] at o
    rcases o.row with ⟨rfl, hz⟩ | ⟨g, c, rfl, hg, h1, h2⟩
    · have := congrArg List.length hz; rw [zeros_len] at this; simp at this; omega
    · rw [zeros_len] at o h1 ⊢
      exact ⟨g, c, rfl, o, ⟨h1, h2⟩, b⟩
  obtain ⟨l, hl⟩ : ∃ l : Nat, (l : Int) = S := ⟨S.toNat, by omega⟩
  have hl1 : 1 ≤ l := by omega
  have HSN : Hid (∀ W, Calls Tryd.prog 43 #[.agg #[.int .i64 S, .int .i64 L], .int .i64 0] W fun e w' => e = .returned (.agg #[.int .i64 ((2 : Nat) : Int), .int .i64 (l : Int)]) ∧ Below W.heap.size W w') := by
    intro W
    have := snapArea_any W S L 0 HC.out ⟨by omega, by omega⟩
    unfold arF arL at this
    rw [hl]
    simpa using this
  obtain ⟨N, hN⟩ : ∃ N, N = fmK S L * 64 := ⟨_, rfl⟩
  have hNl : (2 + l) * 64 ≤ N := by omega
  have hNm : N ≤ 1048576 := by omega
  have HN : Hid (N = fmK S L * 64) := hN
  rw [← hN] at HND
  clear hN hc hT h0 hk1 hl
  go_enter Tryd.func8, Tryd.ntmps8
  go_wp2_with fail
  have F0 : Hid (FmS w S L ((w.alloc (.cells #[.int .i64 S, .int .i64 L] 29)).alloc (.cells #[.slice none 0 0, .slice none 0 0] 27))) := FmS.new _ _ _
  generalize (w.alloc (.cells #[.int .i64 S, .int .i64 L] 29)).alloc (.cells #[.slice none 0 0, .slice none 0 0] 27) = w0 at *
  refine (validConfig_any _ S L).mono ?_
  rintro e w1 ⟨rfl, b1⟩
  rw [HC.out]
  have F1 : Hid (FmS w S L w1) := F0.out.below b1
  clear b1 F0
  obtain ⟨-, x0, x1⟩ := F1.out.2.1
  go_wp2_with fail
  refine (diskBlocks_any _ S L hS1 hS2 hL1 hL2).mono ?_
  rintro e w2 ⟨rfl, b2⟩
  have F2 : Hid (FmS w S L w2) := F1.out.below b2
  clear b2 F1 x0 x1
  go_wp2_with fail
  refine (HND.out _).mono ?_
  rintro e w3 ⟨g, cap, rfl, o3, ⟨hNc, hcm⟩, b3⟩
  have F3 : Hid (FmS w S L w3) := F2.out.below b3
  have O3 : Hid (Own .u8 5 w3 w2.heap.size (.slice (some ⟨g, 0, none⟩) N cap) (zeros N)) := o3
  have s2 := F2.out.lt
  have hg2 : w.heap.size + 2 ≤ g := Nat.le_trans s2 (o3.lt g rfl).1
  have hg3 : g < w3.heap.size := (o3.lt g rfl).2
  clear o3 b3 F2
  go_wp2_with fail
  have BA : Hid (Below w3.heap.size w3 (w3.alloc (.cells #[(.slice (some ⟨g, 0, none⟩) N cap), .slice none 0 0] 27))) := (Below.refl _ _).alloc (Nat.le_refl _) _
  have XD0 : Hid (Box2 (w3.alloc (.cells #[(.slice (some ⟨g, 0, none⟩) N cap), .slice none 0 0] 27)) w3.heap.size (.slice (some ⟨g, 0, none⟩) N cap) (.slice none 0 0)) := Box2.new _ _ _ _
  generalize w3.alloc (.cells #[(.slice (some ⟨g, 0, none⟩) N cap), .slice none 0 0] 27) = wd at *
  obtain ⟨Bd, hBdE⟩ : ∃ Bd, Bd = w3.heap.size := ⟨_, rfl⟩
  have Fd : Hid (FmS w S L wd) := F3.out.below BA.out
  have Od : Hid (Own .u8 5 wd (w.heap.size + 2) (.slice (some ⟨g, 0, none⟩) N cap) (zeros N)) := (O3.out.below BA.out).mono s2
  have hBd : Bd ≠ g := by omega
  rw [← hBdE] at XD0
  refine (implNewTree_any _).mono ?_
  rintro e w4 ⟨rfl, hN4, b4⟩
  have N4 : Hid (RdN w4 (.slice (some ⟨wd.heap.size + 1, 0, none⟩) 1 1) [rootN]) := rdN_root hN4
  have F4 : Hid (FmS w S L w4) := Fd.out.below b4
  have O4 : Hid (Own .u8 5 w4 (w.heap.size + 2) (.slice (some ⟨g, 0, none⟩) N cap) (zeros N)) := Od.out.below b4
  have X4 : Hid (Box2 w4 Bd (.slice (some ⟨g, 0, none⟩) N cap) (.slice none 0 0)) := XD0.out.below b4
  have hgd4 : g < w4.heap.size := (O4.out.lt g rfl).2
  clear b4 hN4 Fd Od XD0 BA F3 O3
  rw [← hBdE]
  clear hBdE
  go_wp2_with fail
  refine (encTree_any _ _ [rootN] N4.out root_sz).mono ?_
  rintro e w5 ⟨v5, rfl, o5, b5⟩
  have o5' : Own .u8 5 w5 w4.heap.size v5 I0 := o5
  obtain ⟨g4, c4, hv5⟩ := own_full o5' (by rw [I0_len]; omega)
  rw [I0_len] at hv5
  subst hv5
  have I5 : Hid (Own .u8 5 w5 w4.heap.size (.slice (some ⟨g4, 0, none⟩) 23 c4) I0) := o5'
  have F5 : Hid (FmS w S L w5) := F4.out.below b5
  have O5 : Hid (Own .u8 5 w5 (w.heap.size + 2) (.slice (some ⟨g, 0, none⟩) N cap) (zeros N)) := O4.out.below b5
  have X5 : Hid (Box2 w5 Bd (.slice (some ⟨g, 0, none⟩) N cap) (.slice none 0 0)) := X4.out.below b5
  have s45 := b5.size
  clear o5 o5' b5 N4 F4 O4 X4
  go_wp2_with fail
  refine (implCrc_any _ _ I0 I5.out.rd I0_byt (by rw [I0_len]; omega) (HT.out.below H0.out F5.out.1)).mono ?_
  rintro e wq ⟨rfl, hwq⟩
  rw [hwq]
  clear hwq
  have HSP : Hid (∀ W, Calls Tryd.prog 47 #[.agg #[.int .i64 1, .int .i64 0, .int .i64 0, .int .i64 23, .int .i64 ((4294967295 - crcL 4294967295 I0 : Nat) : Int)]] W fun e w' => ∃ g c, e = .returned (.slice (some ⟨g, 0, none⟩) 64 c) ∧ Own .u8 5 w' W.heap.size (.slice (some ⟨g, 0, none⟩) 64 c) Sp0 ∧ Below W.heap.size W w') := by
    intro W
    refine (implSuper_any W 1 0 0 23 _).mono ?_
    rintro e w' ⟨v, rfl, o, b⟩
    have o' : Own .u8 5 w' W.heap.size v Sp0 := o
    obtain ⟨g, c, hv⟩ := own_full o' (by rw [Sp0_len]; omega)
    rw [Sp0_len] at hv
    subst hv
    exact ⟨g, c, rfl, o', b⟩
  generalize ((4294967295 - crcL 4294967295 I0 : Nat) : Int) = C9 at *
  go_wp2_with fail
  have BA : Hid (Below w5.heap.size w5 (w5.alloc (.cells #[.int .i64 1, .int .i64 0, .int .i64 0, .int .i64 23, .int .i64 C9] 67))) := (Below.refl _ _).alloc (Nat.le_refl _) _
  have XS0 : Hid (Sup5 (w5.alloc (.cells #[.int .i64 1, .int .i64 0, .int .i64 0, .int .i64 23, .int .i64 C9] 67)) w5.heap.size C9) := ⟨by simp, by simp, by simp, by simp, by simp, by simp⟩
  generalize w5.alloc (.cells #[.int .i64 1, .int .i64 0, .int .i64 0, .int .i64 23, .int .i64 C9] 67) = w6 at *
  obtain ⟨Bs, hBsE⟩ : ∃ Bs, Bs = w5.heap.size := ⟨_, rfl⟩
  have hBs : Bs ≠ g := by omega
  rw [← hBsE] at XS0 ⊢
  have bP : Below w6.heap.size w6 w6.drew := below_drewN' w6 1
  have FP : Hid (FmI w S L Bd Bs g N cap C9 w6.drew) := FmI.mk ((F5.out.below BA.out).below bP) ((X5.out.below BA.out).below bP) (XS0.out.below bP)
  have OP : Hid (Own .u8 5 w6.drew (w.heap.size + 2) (.slice (some ⟨g, 0, none⟩) N cap) (zeros N)) := (O5.out.below BA.out).below bP
  have IP : Hid (Own .u8 5 w6.drew w4.heap.size (.slice (some ⟨g4, 0, none⟩) 23 c4) I0) := (I5.out.below BA.out).below bP
  clear bP BA XS0 X5 O5 I5 F5 hBsE
  refine wp_region_held_drew (S := FmI w S L Bd Bs g N cap C9) (by kernel_rfl) (FP.out) (fun hHeld => ?_)
  generalize w6.drew = p6 at *
  refine wpAnyH_take (i := 0) (oi := { dst := some 20, op := _, type := _, pos := _, after := _, guard := _ }) (v := ?v1) rfl (by kernel_rfl) (by kernel_rfl) (by kernel_rfl) (fun _ _ _ h => h) (Or.inl ⟨by rfl, ?hy1⟩) (by assumption) ?rest1
  case hy1 =>
    intro w9 hS9
    obtain ⟨-, k0, k1, k2, k3, k4, k5, k6, k7, k8⟩ := hS9
    go_simp
    try with_reducible rfl
  try simp only [Act.put, List.setIfInBounds_toArray, List.set_cons_zero, List.set_cons_succ]
  refine wpAnyH_take (i := 1) (oi := { dst := some 21, op := _, type := _, pos := _, after := _, guard := _ }) (v := ?v2) rfl (by kernel_rfl) (by kernel_rfl) (by kernel_rfl) (fun _ _ _ h => h) (Or.inl ⟨by rfl, ?hy2⟩) (by assumption) ?rest2
  case hy2 =>
    intro w9 hS9
    obtain ⟨-, k0, k1, k2, k3, k4, k5, k6, k7, k8⟩ := hS9
    go_simp
    try with_reducible rfl
  try simp only [Act.put, List.setIfInBounds_toArray, List.set_cons_zero, List.set_cons_succ]
  refine wpAnyH_take (i := 2) (oi := { dst := some 22, op := _, type := _, pos := _, after := _, guard := _ }) (v := ?v3) rfl (by kernel_rfl) (by kernel_rfl) (by kernel_rfl) (fun _ _ _ h => h) (Or.inl ⟨by rfl, ?hy3⟩) (by assumption) ?rest3
  case hy3 =>
    intro w9 hS9
    obtain ⟨-, k0, k1, k2, k3, k4, k5, k6, k7, k8⟩ := hS9
    go_simp
    try with_reducible rfl
  try simp only [Act.put, List.setIfInBounds_toArray, List.set_cons_zero, List.set_cons_succ]
  refine wpAnyH_take (i := 4) (oi := { dst := some 24, op := _, type := _, pos := _, after := _, guard := _ }) (v := ?v4) rfl (by kernel_rfl) (by kernel_rfl) (by kernel_rfl) (fun _ _ _ h => h) (Or.inl ⟨by rfl, ?hy4⟩) (by assumption) ?rest4
  case hy4 =>
    intro w9 hS9
    obtain ⟨-, k0, k1, k2, k3, k4, k5, k6, k7, k8⟩ := hS9
    go_simp
    try with_reducible rfl
  try simp only [Act.put, List.setIfInBounds_toArray, List.set_cons_zero, List.set_cons_succ]
  refine wpAnyH_take (i := 5) (oi := { dst := some 25, op := _, type := _, pos := _, after := _, guard := _ }) (v := ?v5) rfl (by kernel_rfl) (by kernel_rfl) (by kernel_rfl) (fun _ _ _ h => h) (Or.inl ⟨by rfl, ?hy5⟩) (by assumption) ?rest5
  case hy5 =>
    intro w9 hS9
    obtain ⟨-, k0, k1, k2, k3, k4, k5, k6, k7, k8⟩ := hS9
    go_simp
    try with_reducible rfl
  try simp only [Act.put, List.setIfInBounds_toArray, List.set_cons_zero, List.set_cons_succ]
  refine wpAnyH_take (i := 7) (oi := { dst := some 27, op := _, type := _, pos := _, after := _, guard := _ }) (v := ?v6) rfl (by kernel_rfl) (by kernel_rfl) (by kernel_rfl) (fun _ _ _ h => h) (Or.inl ⟨by rfl, ?hy6⟩) (by assumption) ?rest6
  case hy6 =>
    intro w9 hS9
    obtain ⟨-, k0, k1, k2, k3, k4, k5, k6, k7, k8⟩ := hS9
    go_simp
    try with_reducible rfl
  try simp only [Act.put, List.setIfInBounds_toArray, List.set_cons_zero, List.set_cons_succ]
  refine wpAnyH_ready (rs := [3]) (by kernel_rfl) (by simp) ?_
  refine AllReadyH.cons (o := { dst := some 23, op := _, type := _, pos := _, after := _, guard := _ }) rfl (fun K hK => ?_) AllReadyH.nil
  go_simp
  refine (HSN.out _).mono ?_
  rintro e w6b ⟨rfl, b6⟩
  have F6 : Hid (FmI w S L Bd Bs g N cap C9 w6b) := hHeld.below b6
  have O6 : Hid (Own .u8 5 w6b (w.heap.size + 2) (.slice (some ⟨g, 0, none⟩) N cap) (zeros N)) := OP.out.below b6
  have I6 : Hid (Own .u8 5 w6b w4.heap.size (.slice (some ⟨g4, 0, none⟩) 23 c4) I0) := IP.out.below b6
  clear b6 OP IP
  refine hK.out _ _ (F6.out) (fun hx9 => ?_)
  clear hK K hHeld hx9
  have hHeld := F6.out
  try simp only [Act.put, List.setIfInBounds_toArray, List.set_cons_zero, List.set_cons_succ]
  refine wpAnyH_ready (rs := [6]) (by kernel_rfl) (by simp) ?_
  refine AllReadyH.cons (o := { dst := some 26, op := _, type := _, pos := _, after := _, guard := _ }) rfl (fun K hK => ?_) AllReadyH.nil
  go_simp
  refine (areaOf_any _ g N cap 2 l hNl hl1 hNc hNm).mono ?_
  rintro e w7 ⟨rfl, b7⟩
  have F7 : Hid (FmI w S L Bd Bs g N cap C9 w7) := F6.out.below b7
  have O7 : Hid (Own .u8 5 w7 (w.heap.size + 2) (.slice (some ⟨g, 0, none⟩) N cap) (zeros N)) := O6.out.below b7
  have I7 : Hid (Own .u8 5 w7 w4.heap.size (.slice (some ⟨g4, 0, none⟩) 23 c4) I0) := I6.out.below b7
  clear b7 O6 I6 F6
  obtain ⟨cur, hgb, hcur⟩ := own_block O7.out
  have N7 : Hid (∀ j u, (I0.map (Value.int .u8))[j]? = some u → w7.cell? ((⟨g4, 0, none⟩ : Addr).add j) = some u) := World.ownsRow.cells I7.out rfl
  have HGB : Hid (w7.heap[g]? = some (.cells cur.toArray 5 (0, 0))) := hgb
  have HCU : Hid (cur.length = cap) := hcur
  clear hgb hcur
  refine hK.out _ _ (F7.out) (fun hx9 => ?_)
  clear hK K hHeld hx9
  have hHeld := F7.out
  try simp only [Act.put, List.setIfInBounds_toArray, List.set_cons_zero, List.set_cons_succ]
  refine wpAnyH_ready (rs := [8]) (by kernel_rfl) (by simp) ?_
  refine AllReadyH.cons (o := { dst := some 28, op := _, type := _, pos := _, after := _, guard := _ }) rfl (fun K hK => ?_) AllReadyH.nil
  refine step_copy_grown rfl (.tmp 26) (.tmp 27) 24 24 rfl 5 Tryd.underlying24 sizeB _ _ _ _ _ _ rfl rfl g 128 cur 5 HGB.out (I0.map (Value.int .u8)) (by rw [List.length_map, I0_len]; exact (Nat.min_eq_left (show 23 ≤ l * 64 by omega)).symm) (fun _ => ⟨rfl, ⟨g4, 0, none⟩, rfl, N7.out⟩) (by rw [List.length_map, I0_len, HCU.out]; omega) (ints_oneCell _ _) ?_
  intro w8 hg8 hb8
  have F8 : Hid (FmI w S L Bd Bs g N cap C9 w8) := F7.out.other hb8.out hg2 hBd hBs
  have O8 : Hid (Own .u8 5 w8 (w.heap.size + 2) (.slice (some ⟨g, 0, none⟩) N cap) (splice (zeros N) 128 I0)) := own_spliced O7.out (zeros_len _) HGB.out (by rw [I0_len]; omega) hg8.out
  clear hg8 hb8 O7 I7 N7 HGB HCU F7
  refine hK.out _ _ (F8.out) (fun hx9 => ?_)
  clear hK K hHeld hx9
  have hHeld := F8.out
  try simp only [Act.put, List.setIfInBounds_toArray, List.set_cons_zero, List.set_cons_succ]
  refine wpAnyH_done (by kernel_rfl) ?_ _
  clear hHeld
  go_wp2_with fail
  have HSB : Hid (∀ W, Own .u8 5 W (w.heap.size + 2) (.slice (some ⟨g, 0, none⟩) N cap) (splice (zeros N) 128 I0) → Calls Tryd.prog 45 #[(.slice (some ⟨g, 0, none⟩) N cap), .int .i64 ((1 : Nat) : Int), .agg (Sp0.map (Value.int .u8)).toArray] W fun e w' => e = .returned (.tuple #[]) ∧ Own .u8 5 w' (w.heap.size + 2) (.slice (some ⟨g, 0, none⟩) N cap) (fmN (fmK S L)) ∧ W.grownBy w' (some g)) := by
    intro W hW
    have hlz : (splice (zeros N) 128 I0).length = N := by rw [length_splice _ _ _ (by rw [zeros_len, I0_len]; omega), zeros_len]
    refine (setBlock_any W (w.heap.size + 2) g N cap 1 (splice (zeros N) 128 I0) Sp0 hW hlz Sp0_len (by omega) hNm).mono ?_
    rintro e w' ⟨rfl, o, hg⟩
    rw [show 1 * 64 = 64 from rfl, HN.out, fmN_made _ (by omega)] at o
    rw [HN.out]
    exact ⟨rfl, o, hg⟩
  have bP : Below w8.heap.size w8 w8.drew := below_drewN' w8 1
  have FP : Hid (FmI w S L Bd Bs g N cap C9 w8.drew) := F8.out.below bP
  have OP : Hid (Own .u8 5 w8.drew (w.heap.size + 2) (.slice (some ⟨g, 0, none⟩) N cap) (splice (zeros N) 128 I0)) := O8.out.below bP
  clear bP O8 F8
  refine wp_region_held_drew (S := FmI w S L Bd Bs g N cap C9) (by kernel_rfl) (FP.out) (fun hHeld => ?_)
  generalize w8.drew = p8 at *
  refine wpAnyH_take (i := 0) (oi := { dst := some 29, op := _, type := _, pos := _, after := _, guard := _ }) (v := ?v7) rfl (by kernel_rfl) (by kernel_rfl) (by kernel_rfl) (fun _ _ _ h => h) (Or.inl ⟨by rfl, ?hy7⟩) (by assumption) ?rest7
  case hy7 =>
    intro w9 hS9
    obtain ⟨-, k0, k1, k2, k3, k4, k5, k6, k7, k8⟩ := hS9
    go_simp
    try with_reducible rfl
  try simp only [Act.put, List.setIfInBounds_toArray, List.set_cons_zero, List.set_cons_succ]
  refine wpAnyH_take (i := 1) (oi := { dst := some 30, op := _, type := _, pos := _, after := _, guard := _ }) (v := ?v8) rfl (by kernel_rfl) (by kernel_rfl) (by kernel_rfl) (fun _ _ _ h => h) (Or.inl ⟨by rfl, ?hy8⟩) (by assumption) ?rest8
  case hy8 =>
    intro w9 hS9
    obtain ⟨-, k0, k1, k2, k3, k4, k5, k6, k7, k8⟩ := hS9
    go_simp
    try with_reducible rfl
  try simp only [Act.put, List.setIfInBounds_toArray, List.set_cons_zero, List.set_cons_succ]
  refine wpAnyH_take (i := 2) (oi := { dst := some 31, op := _, type := _, pos := _, after := _, guard := _ }) (v := ?v9) rfl (by kernel_rfl) (by kernel_rfl) (by kernel_rfl) (fun _ _ _ h => h) (Or.inl ⟨by rfl, ?hy9⟩) (by assumption) ?rest9
  case hy9 =>
    intro w9 hS9
    obtain ⟨-, k0, k1, k2, k3, k4, k5, k6, k7, k8⟩ := hS9
    go_simp
    try with_reducible rfl
  try simp only [Act.put, List.setIfInBounds_toArray, List.set_cons_zero, List.set_cons_succ]
  refine wpAnyH_take (i := 3) (oi := { dst := some 32, op := _, type := _, pos := _, after := _, guard := _ }) (v := ?v10) rfl (by kernel_rfl) (by kernel_rfl) (by kernel_rfl) (fun _ _ _ h => h) (Or.inl ⟨by rfl, ?hy10⟩) (by assumption) ?rest10
  case hy10 =>
    intro w9 hS9
    obtain ⟨-, k0, k1, k2, k3, k4, k5, k6, k7, k8⟩ := hS9
    go_simp
    try with_reducible rfl
  try simp only [Act.put, List.setIfInBounds_toArray, List.set_cons_zero, List.set_cons_succ]
  refine wpAnyH_take (i := 5) (oi := { dst := some 34, op := _, type := _, pos := _, after := _, guard := _ }) (v := ?v11) rfl (by kernel_rfl) (by kernel_rfl) (by kernel_rfl) (fun _ _ _ h => h) (Or.inl ⟨by rfl, ?hy11⟩) (by assumption) ?rest11
  case hy11 =>
    intro w9 hS9
    obtain ⟨-, k0, k1, k2, k3, k4, k5, k6, k7, k8⟩ := hS9
    go_simp
    try with_reducible rfl
  try simp only [Act.put, List.setIfInBounds_toArray, List.set_cons_zero, List.set_cons_succ]
  refine wpAnyH_ready (rs := [4]) (by kernel_rfl) (by simp) ?_
  refine AllReadyH.cons (o := { dst := some 33, op := _, type := _, pos := _, after := _, guard := _ }) rfl (fun K hK => ?_) AllReadyH.nil
  go_simp
  refine (slotOf_any _).mono ?_
  rintro e wq ⟨rfl, hwq⟩
  rw [hwq]
  clear hwq
  refine hK.out _ _ (FP.out) (fun hx9 => ?_)
  clear hK K hHeld hx9
  have hHeld := FP.out
  try simp only [Act.put, List.setIfInBounds_toArray, List.set_cons_zero, List.set_cons_succ]
  refine wpAnyH_ready (rs := [6]) (by kernel_rfl) (by simp) ?_
  refine AllReadyH.cons (o := { dst := some 35, op := _, type := _, pos := _, after := _, guard := _ }) rfl (fun K hK => ?_) AllReadyH.nil
  go_simp
  refine (HSP.out _).mono ?_
  rintro e w9b ⟨g9, c9, rfl, o9, b9⟩
  have F9 : Hid (FmI w S L Bd Bs g N cap C9 w9b) := hHeld.below b9
  have O9 : Hid (Own .u8 5 w9b (w.heap.size + 2) (.slice (some ⟨g, 0, none⟩) N cap) (splice (zeros N) 128 I0)) := OP.out.below b9
  have RG : Hid (w9b.rangeAt g9 0 (Sp0.map (Value.int .u8))) := fun j v hj => by have := World.ownsRow.cells o9 rfl j v hj; rw [Addr.add_lit] at this; exact this
  clear o9 b9 OP
  refine hK.out _ _ (F9.out) (fun hx9 => ?_)
  clear hK K hHeld hx9
  have hHeld := F9.out
  try simp only [Act.put, List.setIfInBounds_toArray, List.set_cons_zero, List.set_cons_succ]
  refine wpAnyH_take (i := 7) (oi := { dst := some 36, op := _, type := _, pos := _, after := _, guard := _ }) (v := (.pointer (some ⟨g9, 0, none⟩))) rfl (by kernel_rfl) (by kernel_rfl) (by kernel_rfl) (fun _ _ _ h => h) (Or.inl ⟨by rfl, ?hy12⟩) (by assumption) ?rest12
  case hy12 =>
    intro w9 hS9
    have ha9 := arr_at g9 c9 w9
    go_simp
  try simp only [Act.put, List.setIfInBounds_toArray, List.set_cons_zero, List.set_cons_succ]
  refine wpAnyH_ready (rs := [8]) (by kernel_rfl) (by simp) ?_
  refine AllReadyH.cons (o := { dst := some 37, op := _, type := _, pos := _, after := _, guard := _ }) rfl (fun K hK => ?_) AllReadyH.nil
  rw [if_pos (by rfl)]
  refine wp_load_mid 77 _ rfl g9 0 rfl (Sp0.map (Value.int .u8)) _ RG.out Tryd.underlying77 rfl (sizeA _ (by rw [List.length_map, Sp0_len])) ?_
  refine hK.out _ _ (F9.out) (fun hx9 => ?_)
  clear hK K hHeld hx9
  have hHeld := F9.out
  try simp only [Act.put, List.setIfInBounds_toArray, List.set_cons_zero, List.set_cons_succ]
  refine wpAnyH_ready (rs := [9]) (by kernel_rfl) (by simp) ?_
  refine AllReadyH.cons (o := { dst := some 38, op := _, type := _, pos := _, after := _, guard := _ }) rfl (fun K hK => ?_) AllReadyH.nil
  go_simp
  refine (HSB.out _ O9.out).mono ?_
  rintro e w10 ⟨rfl, o10, g10⟩
  have F10 : Hid (FmI w S L Bd Bs g N cap C9 w10) := F9.out.other g10 hg2 hBd hBs
  have O10 : Hid (Own .u8 5 w10 (w.heap.size + 2) (.slice (some ⟨g, 0, none⟩) N cap) (fmN (fmK S L))) := o10
  clear o10 g10 O9 F9 RG
  refine hK.out _ _ (F10.out) (fun hx9 => ?_)
  clear hK K hHeld hx9
  have hHeld := F10.out
  try simp only [Act.put, List.setIfInBounds_toArray, List.set_cons_zero, List.set_cons_succ]
  refine wpAnyH_done (by kernel_rfl) ?_ _
  clear hHeld
  obtain ⟨-, -, -, k2, k3, -⟩ := F10.out
  have zr := F10.out.1.out.1.2.2.1.1
  obtain ⟨⟨-, d0, d1⟩, f0, f1⟩ := F10.out.1.out.1.2.2
  go_wp2
  refine bodyPost_ret (v := .agg #[(.slice (some ⟨g, 0, none⟩) N cap), .slice none 0 0]) (by simp [results, Tryd.results8, go_sem, d0, d1]) rfl ⟨_, rfl, ?_, ?_⟩
  · repeat (first | exact O10.out | refine Own.setBelow ?_ (show w.heap.size + 1 < w.heap.size + 2 by omega) _)
  · repeat (first | exact F10.out.1.out.1.1 | refine Below.setCell ?_ (by simp) _)

end Go.Proofs.YtoljmlhnbmeloaaDoor

namespace Go.Proofs.YtoljmlhnbmeloaaDoor
open Go.RowKit

theorem Own.far {k : IntKind} {e : TypeId} {w : World} {base : Nat} {v : Value} {xs : List Int} (h : Own k e w base v xs) {u : Value} (hu : ∀ g, u.ownBlock = some g → g < base) : v.ownBlock = none ∨ v.ownBlock ≠ u.ownBlock := by
  cases hv : v.ownBlock with
  | none => exact .inl rfl
  | some q =>
    right; intro e
    have := (h.lt q hv).1; have := hu q e.symm; omega

/-- One record more. -/
theorem ownD_snoc {wr w' w4 : World} {lo hi g k cap : Nat} {vd vk v : Value} {dur xs : List Int} {ps : List (Int × List Int)} {x : Int} {dv : Nat → Value} {ob : Obj} (ho : OwnD wr lo hi vd vk dur ps dv) (hhi : hi ≤ wr.heap.size) (hlo : lo ≤ wr.heap.size) (hk : ps.length = k) (bw : Below wr.heap.size wr w') (o' : Own .u8 5 w' wr.heap.size v xs)
    (ho4 : w4.ownsRow lo 131 2 (.slice (some ⟨g, 0, none⟩) (k + 1) cap) (k + 1) (rowW k (pB ps) dv ++ [.int .i64 x, v])) (hg4 : (w'.alloc ob).grownBy w4 vk.ownBlock) (hat : vk.ownBlock = some g ∨ g = w'.heap.size + 1) :
    OwnD w4 lo w4.heap.size vd (.slice (some ⟨g, 0, none⟩) (k + 1) cap) dur (ps ++ [(x, xs)]) (dvSet dv k v) := by
  subst hk
  have G : w'.grownBy w4 vk.ownBlock := World.grownBy.trans (World.grownBy_alloc w' ob _) hg4
  have hsz := bw.size
  have hs4 : w'.heap.size ≤ w4.heap.size := G.size
  have hvk : ∀ q, vk.ownBlock = some q → q < wr.heap.size := fun q hq => Nat.lt_of_lt_of_le (ho.plt q hq) hhi
  have hnew : Own .u8 5 w4 wr.heap.size v xs := o'.other G (o'.far hvk)
  have hold : ∀ i, i < ps.length → Own .u8 5 w4 lo (dv i) (pD ps i) := fun i hi => ((ho.p.2.1 i hi).below bw).other G (ho.p.2.2.2 i hi)
  have hlen : (ps ++ [(x, xs)]).length = ps.length + 1 := by simp
  have hd4 : Own .u8 5 w4 lo vd dur := by
    refine (ho.d.below bw).other G ?_
    rcases ho.dp with h | h
    · rw [h]; cases vd.ownBlock with
      | none => exact .inl rfl
      | some q => exact .inr (by simp)
    · exact .inr (Ne.symm h)
  have hgv : ∀ u : Value, (∀ q, u.ownBlock = some q → q < wr.heap.size) → Ne2 u vk → Ne2 u (.slice (some ⟨g, 0, none⟩) (ps.length + 1) cap) := by
    intro u hu hn
    unfold Ne2
    cases e : u.ownBlock with
    | none => exact .inl rfl
    | some q =>
      right
      simp only [Value.ownBlock, ne_eq, Option.some.injEq]
      intro eq
      have := hu q e
      rcases hat with h | h
      · rcases hn with h' | h'
        · rw [h'] at e; cases e
        · exact h' (by rw [e, h, eq])
      · omega
  have hlast : Ne2 v (.slice (some ⟨g, 0, none⟩) (ps.length + 1) cap) := by
    unfold Ne2
    cases e : v.ownBlock with
    | none => exact .inl rfl
    | some q =>
      right
      simp only [Value.ownBlock, ne_eq, Option.some.injEq]
      intro eq
      have h1 := o'.lt q e
      rcases hat with h | h
      · have := hvk g h; omega
      · omega
  refine ⟨hd4, ⟨?_, ?_, ?_, ?_⟩, fun q hq => (hd4.lt q hq).2, fun q hq => (World.ownsRow.lt ho4 q hq).2, ?_, ?_, ?_⟩
  · rw [hlen]
    have e : rowW (ps.length + 1) (pB (ps ++ [(x, xs)])) (dvSet dv ps.length v) = rowW ps.length (pB ps) dv ++ [.int .i64 x, v] := by
      rw [rowW_succ]
      congr 1
      · exact rowW_congr (fun i hi => pB_app _ _ _ hi) (fun i hi => by unfold dvSet; rw [if_neg (by omega)])
      · rw [pB_last]; unfold dvSet; rw [if_pos rfl]
    rw [e]; exact ho4
  · intro i hi
    rw [hlen] at hi
    unfold dvSet
    by_cases e : i = ps.length
    · rw [if_pos e, e, pD_last]; exact hnew.mono hlo
    · rw [if_neg e, pD_app _ _ _ (by omega)]; exact hold i (by omega)
  · intro i j hi hj hne
    rw [hlen] at hi hj
    unfold dvSet
    by_cases e : i = ps.length
    · rw [if_pos e, if_neg (by omega)]
      exact o'.far (fun q hq => ((ho.p.2.1 j (by omega)).lt q hq).2)
    · by_cases e' : j = ps.length
      · rw [if_neg e, if_pos e']
        unfold Ne2
        cases hv : (dv i).ownBlock with
        | none => exact .inl rfl
        | some q =>
          right; intro hq
          have := (o'.lt q hq.symm).1; have := ((ho.p.2.1 i (by omega)).lt q hv).2; omega
      · rw [if_neg e, if_neg e']; exact ho.p.2.2.1 i j (by omega) (by omega) hne
  · intro i hi
    rw [hlen] at hi
    unfold dvSet
    by_cases e : i = ps.length
    · rw [if_pos e]; exact hlast
    · rw [if_neg e]; exact hgv _ (fun q hq => ((ho.p.2.1 i (by omega)).lt q hq).2) (ho.p.2.2.2 i (by omega))
  · intro i hi q hq
    rw [hlen] at hi
    unfold dvSet at hq
    by_cases e : i = ps.length
    · rw [if_pos e] at hq; exact (hnew.lt q hq).2
    · rw [if_neg e] at hq; exact ((hold i (by omega)).lt q hq).2
  · right
    simp only [Value.ownBlock, ne_eq]
    intro e
    have h1 := ho.dlt g e.symm
    rcases hat with h | h
    · rcases ho.dp with h' | h'
      · rw [h'] at h; cases h
      · exact h' (h.trans e)
    · omega
  · intro i hi
    rw [hlen] at hi
    unfold dvSet
    by_cases e : i = ps.length
    · rw [if_pos e]
      exact o'.far (fun q hq => by have := ho.dlt q hq; omega)
    · rw [if_neg e]; exact ho.dq i (by omega)

end Go.Proofs.YtoljmlhnbmeloaaDoor

namespace Go.Proofs.YtoljmlhnbmeloaaDoor
open Go.RowKit

/-- What came in: a disk of the laws' own type. -/
def InD (w : World) (vd vp : Value) (dur : List Int) (ps : List (Int × List Int)) : Prop := Rd .u8 w vd dur ∧ RdW w vp ps ∧ Byt dur ∧ ∀ i, i < ps.length → Byt (pD ps i) ∧ -9223372036854775808 ≤ pB ps i ∧ pB ps i ≤ 9223372036854775807

theorem tot_ge (ps : List (Int × List Int)) (i : Nat) : (pD ps i).length ≤ tot ps := by
  by_cases h : i < ps.length
  · have h1 := tot_take_succ ps i h
    have h2 : tot (ps.take (i + 1)) ≤ tot ps := by
      unfold tot
      conv => rhs; rw [← List.take_append_drop (i + 1) ps, List.map_append, List.sum_append]
      omega
    omega
  · unfold pD; rw [List.getD, List.getElem?_eq_none (by omega)]; simp


end Go.Proofs.YtoljmlhnbmeloaaDoor

namespace Go.Proofs.YtoljmlhnbmeloaaDoor
open Go.RowKit


theorem tot64 : ∀ (ps : List (Int × List Int)), (∀ p ∈ ps, p.2.length ≤ 64) → tot ps ≤ 64 * ps.length
  | [], _ => by simp [tot]
  | p :: ps, h => by
    have h1 := tot64 ps (fun q hq => h q (List.mem_cons_of_mem _ hq))
    have h2 := h p (List.mem_cons_self ..)
    simp only [tot, List.map_cons, List.sum_cons, List.length_cons] at h1 ⊢
    omega

theorem wrOk_parts {dl : Nat} {ps : List (Int × List Int)} {x : Int} {m : Nat} (h : wrOk dl ps x m = true) : ps.length < 2000 ∧ m = 64 ∧ tot ps ≤ 64 * ps.length := by
  unfold wrOk at h
  simp only [Bool.and_eq_true, decide_eq_true_eq] at h
  obtain ⟨⟨⟨h1, h2⟩, _⟩, h5⟩ := h
  refine ⟨h2, h5, tot64 ps fun p hp => ?_⟩
  obtain ⟨i, hi, rfl⟩ := List.mem_iff_getElem.1 hp
  have := (((vldD_iff dl ps).1 h1).2.2.2.2 i hi)
  unfold okP pD at this
  simp [List.getD, hi] at this
  omega

/-- The bounds of the answer. -/
theorem wr_bounds (dur : List Int) (ps : List (Int × List Int)) (x : Int) (xs : List Int) (hl : dur.length ≤ 1048576) : (wrDur dur ps x xs).length ≤ 1048576 ∧ (wrPend dur ps x xs).length ≤ 1048576 ∧ tot (wrPend dur ps x xs) ≤ 1048576 := by
  unfold wrDur wrPend
  cases h : wrOk dur.length ps x xs.length with
  | false => simp [tot]
  | true =>
    obtain ⟨h1, h2, h3⟩ := wrOk_parts h
    refine ⟨by simpa using hl, by simp; omega, ?_⟩
    have : tot (ps ++ [(x, xs)]) = tot ps + xs.length := by simp [tot]
    simp only [if_true]
    omega

end Go.Proofs.YtoljmlhnbmeloaaDoor

namespace Go.Proofs.YtoljmlhnbmeloaaDoor
open Go.RowKit

set_option maxHeartbeats 1000000 in
set_option maxRecDepth 100000 in
theorem toConfig_any (w : World) (S L : Int) :
    Calls Tryd.prog 7 #[.agg #[.int .i64 S, .int .i64 L]] w fun e w' => e = .returned (.agg #[.int .i64 S, .int .i64 L]) ∧ Below w.heap.size w w' := by
  have BA : Hid (∀ o1 o2 o3, Below w.heap.size w (((w.alloc o1).alloc o2).alloc o3)) := fun o1 o2 o3 => (((Below.refl _ _).alloc (Nat.le_refl _) _).alloc (by simp) _).alloc (by simp; omega) _
  go_enter Tryd.func7, Tryd.ntmps7
  go_wp2
  refine bodyPost_ret (v := .agg #[.int .i64 S, .int .i64 L]) (by simp [results, Tryd.results7, go_sem]) rfl ⟨rfl, ?_⟩
  repeat (first | exact BA.out _ _ _ | refine Below.setCell ?_ (by simp) _)

/-- The arguments' boxes, and one box more. -/
def Fit2S (w : World) (ao bo : Option Addr) (dl ca n cb : Nat) (S L : Int) (b : Nat) (x y : Value) (W : World) : Prop := FitS w ao bo dl ca n cb S L W ∧ W.cell? ⟨b, 0, none⟩ = some x ∧ W.cell? ⟨b, 1, none⟩ = some y
theorem Fit2S.mk {w : World} {ao bo : Option Addr} {dl ca n cb : Nat} {S L : Int} {b : Nat} {x y : Value} {W : World} (h : FitS w ao bo dl ca n cb S L W) (hb : Box2 W b x y) : Fit2S w ao bo dl ca n cb S L b x y W := ⟨h, hb.2.1, hb.2.2⟩

theorem arA_length {dur : List Int} {ps : List (Int × List Int)} {S L bank : Int} {log : Bool} (hl : dur.length ≤ 1048576) : (arA dur ps S L bank log).length ≤ 1048576 := by
  unfold arA arN
  split
  · rw [List.length_take, List.length_drop]
    have := syD_len dur ps
    omega
  · simp

theorem Within.ownO {lo hi : Nat} {a b : World} (h : Within lo hi a b) {B : Nat} {v : Value} {xs : List Int} (ho : OwnO a B v xs) (hv : ∀ g, v.ownBlock = some g → g < lo ∨ hi ≤ g) : OwnO b B v xs := by
  rcases ho with ho | ⟨g, o, cap, N, C, ys, rfl, ho, r⟩
  · exact .inl ho
  · exact .inr ⟨g, o, cap, N, C, ys, rfl, h.own ho (fun g' hg' => hv g' hg'), r⟩


end Go.Proofs.YtoljmlhnbmeloaaDoor

namespace Go.Proofs.YtoljmlhnbmeloaaDoor
open Go.RowKit

set_option maxHeartbeats 1000000 in
set_option maxRecDepth 100000 in
theorem implFormat_no (w : World) (S L : Int) (hc : cfgOk S L = false) :
    Calls Tryd.prog 8 #[.agg #[.int .i64 S, .int .i64 L]] w fun e w' => e = .returned (.agg #[.slice none 0 0, .slice none 0 0]) ∧ Below w.heap.size w w' := by
  have HC : Hid (cfgOk S L = false) := hc
  clear hc
  go_enter Tryd.func8, Tryd.ntmps8
  go_wp2_with fail
  have F0 : Hid (FmS w S L ((w.alloc (.cells #[.int .i64 S, .int .i64 L] 29)).alloc (.cells #[.slice none 0 0, .slice none 0 0] 27))) := FmS.new _ _ _
  generalize (w.alloc (.cells #[.int .i64 S, .int .i64 L] 29)).alloc (.cells #[.slice none 0 0, .slice none 0 0] 27) = w0 at *
  refine (validConfig_any _ S L).mono ?_
  rintro e w1 ⟨rfl, b1⟩
  rw [HC.out]
  have F1 : Hid (FmS w S L w1) := F0.out.below b1
  obtain ⟨⟨zr, d0, d1⟩, f0, f1⟩ := F1.out.2.2
  clear b1
  go_wp2
  refine bodyPost_ret (v := .agg #[.slice none 0 0, .slice none 0 0]) (by simp [results, Tryd.results8, go_sem, d0, d1]) rfl ⟨rfl, ?_⟩
  repeat (first | exact F1.out.1 | refine Below.setCell ?_ (by simp) _)

theorem specFormat_any (w : World) (S L : Int) : Calls Tryd.prog 6 #[.agg #[.int .i64 S, .int .i64 L]] w fun e w' => ∃ v', e = .returned (.agg #[v', .slice none 0 0]) ∧ Own .u8 5 w' w.heap.size v' (fmA S L) ∧ Below w.heap.size w w' := by
  unfold fmA
  cases h : cfgOk S L with
  | true =>
    simp only [if_true]
    refine (specFormat_yes w S L h).mono ?_
    rintro e w' ⟨v, rfl, o, b⟩
    exact ⟨v, rfl, o.mono (by omega), b⟩
  | false =>
    simp only [Bool.false_eq_true, if_false]
    refine (specFormat_no w S L h).mono ?_
    rintro e w' ⟨rfl, b⟩
    exact ⟨_, rfl, World.ownsRow_nil _ _ _ _, b⟩
theorem implFormat_any (w : World) (S L : Int) (hT : TabC w) (h0 : 0 < w.heap.size) : Calls Tryd.prog 8 #[.agg #[.int .i64 S, .int .i64 L]] w fun e w' => ∃ v', e = .returned (.agg #[v', .slice none 0 0]) ∧ Own .u8 5 w' w.heap.size v' (fmA S L) ∧ Below w.heap.size w w' := by
  unfold fmA
  cases h : cfgOk S L with
  | true =>
    simp only [if_true]
    refine (implFormat_yes w S L h hT h0).mono ?_
    rintro e w' ⟨v, rfl, o, b⟩
    exact ⟨v, rfl, o.mono (by omega), b⟩
  | false =>
    simp only [Bool.false_eq_true, if_false]
    refine (implFormat_no w S L h).mono ?_
    rintro e w' ⟨rfl, b⟩
    exact ⟨_, rfl, World.ownsRow_nil _ _ _ _, b⟩

set_option maxHeartbeats 1000000 in
set_option maxRecDepth 100000 in
theorem lawFormat_walk (w : World) (S L : Int) (hT : TabC w) (h0 : 0 < w.heap.size) :
    Calls Tryd.prog 3 #[.agg #[.int .i64 S, .int .i64 L]] w fun e w' => e = .returned (.bool true) ∧ Below w.heap.size w w' := by
  have HPL : Hid ((fmA S L).length ≤ 1099511627776) := Nat.le_trans fmA_len (by omega)
  have HT : Hid (TabC w ∧ 0 < w.heap.size) := ⟨hT, h0⟩
  clear hT h0
  have HI : Hid (∀ W, Below w.heap.size w W → Calls Tryd.prog 8 #[.agg #[.int .i64 S, .int .i64 L]] W fun e w' => ∃ v', e = .returned (.agg #[v', .slice none 0 0]) ∧ Own .u8 5 w' W.heap.size v' (fmA S L) ∧ Below W.heap.size W w') := fun W hW => implFormat_any W S L (HT.out.1.below HT.out.2 hW) (Nat.lt_of_lt_of_le HT.out.2 hW.size)
  have B0 : Hid (Below w.heap.size w (w.alloc (.cells #[.int .i64 S, .int .i64 L] 23))) := (Below.refl _ _).alloc (Nat.le_refl _) _
  have XC0 : Hid (Box2 (w.alloc (.cells #[.int .i64 S, .int .i64 L] 23)) w.heap.size (.int .i64 S) (.int .i64 L)) := Box2.new _ _ _ _
  go_enter Tryd.func3, Tryd.ntmps3
  go_wp2_with fail
  generalize w.alloc (.cells #[.int .i64 S, .int .i64 L] 23) = w0 at *
  refine (toConfig_any _ S L).mono ?_
  rintro e wA ⟨rfl, bA⟩
  have BA0 : Hid (Below w.heap.size w wA) := B0.out.trans (bA.mono B0.out.size)
  have XCA : Hid (Box2 wA w.heap.size (.int .i64 S) (.int .i64 L)) := XC0.out.below bA
  clear bA B0 XC0
  go_wp2_with fail
  refine (specFormat_any wA S L).mono ?_
  rintro e w1 ⟨v1, rfl, o1', b1'⟩
  have o1 := o1'.mono BA0.out.size
  have b1 : Below w.heap.size w w1 := BA0.out.trans (b1'.mono BA0.out.size)
  have XC1 : Hid (Box2 w1 w.heap.size (.int .i64 S) (.int .i64 L)) := XCA.out.below b1'
  clear o1' b1' XCA BA0
  obtain ⟨a1, c1, rfl, _, _⟩ := o1.rd.len
  have B1 : Hid (Below w.heap.size w w1) := b1
  have O1 : Hid (Own .u8 5 w1 w.heap.size (.slice a1 (fmA S L).length c1) (fmA S L)) := o1
  have s1 := b1.size
  clear o1 b1
  obtain ⟨yA, e0, e1⟩ := XC1.out
  go_wp2_with fail
  have BA : Hid (Below w1.heap.size w1 (w1.alloc (.cells #[(.slice a1 (fmA S L).length c1), (.slice none 0 0)] 27))) := (Below.refl _ _).alloc (Nat.le_refl _) _
  have X1 : Hid (Box2 (w1.alloc (.cells #[(.slice a1 (fmA S L).length c1), (.slice none 0 0)] 27)) w1.heap.size (.slice a1 (fmA S L).length c1) (.slice none 0 0)) := Box2.new _ _ _ _
  have sA : w1.heap.size < (w1.alloc (.cells #[(.slice a1 (fmA S L).length c1), (.slice none 0 0)] 27)).heap.size := by simp
  generalize w1.alloc (.cells #[(.slice a1 (fmA S L).length c1), (.slice none 0 0)] 27) = wa at *
  have XCa : Hid (Box2 wa w.heap.size (.int .i64 S) (.int .i64 L)) := XC1.out.below BA.out
  clear e0 e1
  obtain ⟨-, e0, e1⟩ := XCa.out
  refine (toConfig_any _ S L).mono ?_
  rintro e wB ⟨rfl, bB⟩
  clear e0 e1
  have HBB : Hid (Below wa.heap.size wa wB) := bB
  clear bB
  go_wp2_with fail
  refine (HI.out wB ((B1.out.trans (BA.out.mono (by omega))).trans (HBB.out.mono (by omega)))).mono ?_
  rintro e w2 ⟨v2, rfl, o2', b2'⟩
  have o2 := o2'.mono HBB.out.size
  have b2 : Below wa.heap.size wa w2 := HBB.out.trans (b2'.mono HBB.out.size)
  have XC2 : Hid (Box2 w2 w.heap.size (.int .i64 S) (.int .i64 L)) := XCa.out.below b2
  clear o2' b2' HBB
  obtain ⟨a2, c2, rfl, _, _⟩ := o2.rd.len
  have B2 : Hid (Below wa.heap.size wa w2) := b2
  have O2 : Hid (Own .u8 5 w2 wa.heap.size (.slice a2 (fmA S L).length c2) (fmA S L)) := o2
  have s2 := b2.size
  clear o2 b2
  have X12 : Hid (Box2 w2 w1.heap.size (.slice a1 (fmA S L).length c1) (.slice none 0 0)) := X1.out.below B2.out
  obtain ⟨z1, d1, d2⟩ := X12.out
  go_wp2_with fail
  have BB : Hid (Below w2.heap.size w2 (w2.alloc (.cells #[(.slice a2 (fmA S L).length c2), (.slice none 0 0)] 27))) := (Below.refl _ _).alloc (Nat.le_refl _) _
  have X2 : Hid (Box2 (w2.alloc (.cells #[(.slice a2 (fmA S L).length c2), (.slice none 0 0)] 27)) w2.heap.size (.slice a2 (fmA S L).length c2) (.slice none 0 0)) := Box2.new _ _ _ _
  have sB : w2.heap.size < (w2.alloc (.cells #[(.slice a2 (fmA S L).length c2), (.slice none 0 0)] 27)).heap.size := by simp
  generalize w2.alloc (.cells #[(.slice a2 (fmA S L).length c2), (.slice none 0 0)] 27) = wb at *
  have O2b : Hid (Own .u8 5 wb wa.heap.size (.slice a2 (fmA S L).length c2) (fmA S L)) := O2.out.below BB.out
  have O1b : Hid (Own .u8 5 wb w.heap.size (.slice a1 (fmA S L).length c1) (fmA S L)) := ((O1.out.below BA.out).below B2.out).below BB.out
  have BWb : Hid (Below w.heap.size w wb) := ((B1.out.trans (BA.out.mono (by omega))).trans (B2.out.mono (by omega))).trans (BB.out.mono (by omega))
  have X1b : Hid (Box2 wb w1.heap.size (.slice a1 (fmA S L).length c1) (.slice none 0 0)) := X12.out.below BB.out
  refine (eqDisk_nil _ _ _ (fmA S L) (fmA S L) _ _ _ _ O2b.out.rd O1b.out.rd).mono ?_
  rintro e w3 ⟨rfl, b3⟩
  rw [show decide (fmA S L = fmA S L) = true by simp]
  have s3 := b3.size
  have O23 : Hid (Own .u8 5 w3 wa.heap.size (.slice a2 (fmA S L).length c2) (fmA S L)) := O2b.out.below b3
  have O13 : Hid (Own .u8 5 w3 w.heap.size (.slice a1 (fmA S L).length c1) (fmA S L)) := O1b.out.below b3
  have XC3 : Hid (Box2 w3 w.heap.size (.int .i64 S) (.int .i64 L)) := (XC2.out.below BB.out).below b3
  have X13 : Hid (Box2 w3 w1.heap.size (.slice a1 (fmA S L).length c1) (.slice none 0 0)) := X1b.out.below b3
  have X23 : Hid (Box2 w3 w2.heap.size (.slice a2 (fmA S L).length c2) (.slice none 0 0)) := X2.out.below b3
  have BW3 : Hid (Below w.heap.size w w3) := BWb.out.trans (b3.mono (by omega))
  have N12 : Hid (Value.ownBlock (.slice a1 (fmA S L).length c1) = none ∨ Value.ownBlock (.slice a1 (fmA S L).length c1) ≠ Value.ownBlock (.slice a2 (fmA S L).length c2)) := own_ne O1.out O2.out (by omega)
  have M02 : Hid (some w.heap.size ≠ Value.ownBlock (.slice a2 (fmA S L).length c2)) := box_own O2.out (by omega)
  have M12 : Hid (some w1.heap.size ≠ Value.ownBlock (.slice a2 (fmA S L).length c2)) := box_own O2.out (by omega)
  have M22 : Hid (some w2.heap.size ≠ Value.ownBlock (.slice a2 (fmA S L).length c2)) := own_box O2.out (Nat.le_refl _)
  clear b3 O1 O2 O2b O1b BWb X1b X2 X1 X12 B1 BA B2 BB z1 d1 d2
  obtain ⟨z2, d1, d2⟩ := X23.out
  go_wp2_with fail
  refine (markDisk_nil _ _ _ (fmA S L) _ _ 1 O23.out (by omega) (by omega) HPL.out).mono ?_
  rintro e w4 ⟨rfl, o4, g4⟩
  have s4 := g4.size
  have O24 : Hid (Own .u8 5 w4 wa.heap.size (.slice a2 (fmA S L).length c2) (marks 1 (fmA S L).length)) := o4
  have O14 : Hid (Own .u8 5 w4 w.heap.size (.slice a1 (fmA S L).length c1) (fmA S L)) := O13.out.other g4 N12.out
  have XC4 : Hid (Box2 w4 w.heap.size (.int .i64 S) (.int .i64 L)) := XC3.out.other g4 M02.out
  have X14 : Hid (Box2 w4 w1.heap.size (.slice a1 (fmA S L).length c1) (.slice none 0 0)) := X13.out.other g4 M12.out
  have X24 : Hid (Box2 w4 w2.heap.size (.slice a2 (fmA S L).length c2) (.slice none 0 0)) := X23.out.other g4 M22.out
  have BW4 : Hid (Below w.heap.size w w4) := BW3.out.grown g4 (by omega) (fun j hj => by have := (O23.out.lt j hj).1; omega)
  clear o4 g4 O23 O13 X13 X23 BW3 z2 d1 d2
  obtain ⟨z2, d1, d2⟩ := X24.out
  have hpl := HPL.out
  go_wp2_with fail
  refine (heldDisk_nil _ _ (fmA S L).length _ _ 1 O24.out.rd (by omega) (by omega) hpl).mono ?_
  rintro e w5 ⟨rfl, b5⟩
  have s5 := b5.size
  have hq0 : ¬ (1 + ((fmA S L).length : Int)) < 0 := by omega
  have BW5 : Hid (Below w.heap.size w w5) := BW4.out.trans (b5.mono (by omega))
  have XC5 : Hid (Box2 w5 w.heap.size (.int .i64 S) (.int .i64 L)) := XC4.out.below b5
  have X15 : Hid (Box2 w5 w1.heap.size (.slice a1 (fmA S L).length c1) (.slice none 0 0)) := X14.out.below b5
  have O15 : Hid (Own .u8 5 w5 w.heap.size (.slice a1 (fmA S L).length c1) (fmA S L)) := O14.out.below b5
  clear b5 O24 O14 X14 X24 BW4 z2 d1 d2
  obtain ⟨-, e0, e1⟩ := XC5.out
  go_wp2_with fail
  refine (toConfig_any _ S L).mono ?_
  rintro e wC ⟨rfl, bC⟩
  clear e0 e1
  have HBC : Hid (Below w5.heap.size w5 wC) := bC
  clear bC
  go_wp2_with fail
  refine (HI.out wC (BW5.out.trans (HBC.out.mono (by omega)))).mono ?_
  rintro e w6 ⟨v6, rfl, o6', b6'⟩
  have o6 := o6'.mono HBC.out.size
  have b6 : Below w5.heap.size w5 w6 := HBC.out.trans (b6'.mono HBC.out.size)
  clear o6' b6' HBC
  obtain ⟨a6, c6, rfl, _, _⟩ := o6.rd.len
  have s6 := b6.size
  have O6 : Hid (Own .u8 5 w6 w5.heap.size (.slice a6 (fmA S L).length c6) (fmA S L)) := o6
  have O16 : Hid (Own .u8 5 w6 w.heap.size (.slice a1 (fmA S L).length c1) (fmA S L)) := O15.out.below b6
  have X16 : Hid (Box2 w6 w1.heap.size (.slice a1 (fmA S L).length c1) (.slice none 0 0)) := X15.out.below b6
  have BW6 : Hid (Below w.heap.size w w6) := BW5.out.trans (b6.mono (by omega))
  clear o6 b6 O15 X15 BW5
  obtain ⟨z1, d1, d2⟩ := X16.out
  go_wp2_with fail
  have BC : Hid (Below w6.heap.size w6 (w6.alloc (.cells #[(.slice a6 (fmA S L).length c6), (.slice none 0 0)] 27))) := (Below.refl _ _).alloc (Nat.le_refl _) _
  refine (eqDisk_nil _ _ _ (fmA S L) (fmA S L) _ _ _ _ (O6.out.below BC.out).rd (O16.out.below BC.out).rd).mono ?_
  rintro e w7 ⟨rfl, b7⟩
  rw [show decide (fmA S L = fmA S L) = true by simp]
  have BW7 : Hid (Below w.heap.size w w7) := (BW6.out.trans (BC.out.mono (by omega))).trans (b7.mono (by simp; omega))
  clear b7
  go_wp2
  go_ret
  exact ⟨rfl, BW7.out⟩

end Go.Proofs.YtoljmlhnbmeloaaDoor

namespace Go.Proofs.YtoljmlhnbmeloaaDoor
open Go.ChangeShapes Go.WideShapes Go.ChangeAt Go.RowKit

theorem knob : ownKnob Tryd.prog.godebug = none := by kernel_rfl
theorem laidOut : laidOutB Tryd.prog = true := by kernel_rfl

noncomputable def gFirst : Nat := (Tryd.prog.globalNamed "unicode/utf8.first").getD 0
noncomputable def gAccept : Nat := (Tryd.prog.globalNamed "unicode/utf8.acceptRanges").getD 0

/-- The witness: the two tables as they are laid. -/
noncomputable def laidWorld (os : Os) : World :=
  let w0 := World.holding Tryd.prog os ⟨#[], #[], []⟩
  let put (h : Array Obj) (g : Nat) (cs : Array Value) : Array Obj := h.modify g fun
    | .cells _ t frozen => .cells cs t frozen
    | o => o
  let h1 := put w0.heap gFirst (Go.Pinned.utf8FirstZ.map fun (z : Nat) => Value.int .u8 (z : Int)).toArray
  let h2 := put h1 gAccept ((([128, 191, 160, 191, 128, 159, 144, 191, 128, 143] : List Int) ++ List.replicate 22 0).map fun (z : Int) => Value.int .u8 z).toArray
  { w0 with heap := h2 }
theorem laid_met (os : Os) (args : Array Value) : laidMet Tryd.prog [("unicode/utf8.acceptRanges", Rows.laid_unicode_utf8_acceptRanges), ("unicode/utf8.first", Rows.laid_unicode_utf8_first)] ((laidWorld os).forCall (fun _ _ => 0) ⟨#[], args, []⟩).memory :=
  (LaidIn.of_run (l := [("unicode/utf8.acceptRanges", Rows.laid_unicode_utf8_acceptRanges), ("unicode/utf8.first", Rows.laid_unicode_utf8_first)]) [gAccept, gFirst] 8 (by kernel_rfl) (by kernel_rfl) (by kernel_rfl) (by kernel_rfl)).met

end Go.Proofs.YtoljmlhnbmeloaaDoor

namespace Go.Proofs.YtoljmlhnbmeloaaDoor
open Go.ChangeShapes Go.WideShapes Go.ChangeAt Go.RowKit

theorem gTab : Tryd.prog.globalNamed "loop.example/s01594/impl.crcTable" = some 0 := by kernel_rfl
theorem gTabType : (Tryd.prog.globals[0]?).map (·.type) = some 127 := by kernel_rfl
theorem cellsT : Tryd.prog.cellsOf 127 = 16 := by kernel_rfl
theorem cellsE : Tryd.prog.cellsOf 126 = 1 := by kernel_rfl
def tabCells : Array Value := #[.int .u32 0, .int .u32 274646895, .int .u32 549293790, .int .u32 820201905, .int .u32 1098587580, .int .u32 1361435347, .int .u32 1640403810, .int .u32 1905808397, .int .u32 2197175160, .int .u32 2460548119, .int .u32 2722870694, .int .u32 2987750089, .int .u32 3280807620, .int .u32 3553878443, .int .u32 3811616794, .int .u32 4084100981]
abbrev tableH {H : Type} : DataW H := .agg [.lit (.int .u32 0), .lit (.int .u32 274646895), .lit (.int .u32 549293790), .lit (.int .u32 820201905), .lit (.int .u32 1098587580), .lit (.int .u32 1361435347), .lit (.int .u32 1640403810), .lit (.int .u32 1905808397), .lit (.int .u32 2197175160), .lit (.int .u32 2460548119), .lit (.int .u32 2722870694), .lit (.int .u32 2987750089), .lit (.int .u32 3280807620), .lit (.int .u32 3553878443), .lit (.int .u32 3811616794), .lit (.int .u32 4084100981)]
theorem reads_table {H : Type} (enc : TypeId × Value → H) (W : World) (sp : Nat → Bool) : DataW.trod enc Tryd.prog W 0 sp true 3 127 tabCells.toList = some (tableH, []) := by kernel_rfl
theorem tab_cell : ∀ i, i < 16 → some (Value.int .u32 (([0, 274646895, 549293790, 820201905, 1098587580, 1361435347, 1640403810, 1905808397, 2197175160, 2460548119, 2722870694, 2987750089, 3280807620, 3553878443, 3811616794, 4084100981] : List Int).getD i 0)) = some (.int .u32 ((tabL.getD i 0 : Nat) : Int)) := by
  intro i hi
  have : ∀ i, i < 16 → ([0, 274646895, 549293790, 820201905, 1098587580, 1361435347, 1640403810, 1905808397, 2197175160, 2460548119, 2722870694, 2987750089, 3280807620, 3553878443, 3811616794, 4084100981] : List Int).getD i 0 = ((tabL.getD i 0 : Nat) : Int) := by decide +kernel
  rw [this i hi]

/-- The witness: the three tables as they are laid. -/
noncomputable def laidWorld3 (os : Os) : World :=
  let w0 := laidWorld os
  { w0 with heap := w0.heap.modify 0 fun
    | .cells _ t frozen => .cells tabCells t frozen
    | o => o }
theorem laid_met3 (os : Os) (args : Array Value) : laidMet Tryd.prog [("unicode/utf8.acceptRanges", Rows.laid_unicode_utf8_acceptRanges), ("loop.example/s01594/impl.crcTable", Rows.laid_loop_example_s01594_impl_crcTable), ("unicode/utf8.first", Rows.laid_unicode_utf8_first)] ((laidWorld3 os).forCall (fun _ _ => 0) ⟨#[], args, []⟩).memory :=
  (LaidIn.of_run (l := [("unicode/utf8.acceptRanges", Rows.laid_unicode_utf8_acceptRanges), ("loop.example/s01594/impl.crcTable", Rows.laid_loop_example_s01594_impl_crcTable), ("unicode/utf8.first", Rows.laid_unicode_utf8_first)]) [gAccept, 0, gFirst] 8 (by kernel_rfl) (by kernel_rfl) (by kernel_rfl) (by kernel_rfl)).met

theorem tab3 {W : World} (h : laidMet Tryd.prog [("unicode/utf8.acceptRanges", Rows.laid_unicode_utf8_acceptRanges), ("loop.example/s01594/impl.crcTable", Rows.laid_loop_example_s01594_impl_crcTable), ("unicode/utf8.first", Rows.laid_unicode_utf8_first)] W) : Lib.TabIs Tryd.prog W "loop.example/s01594/impl.crcTable" .u32 [0, 274646895, 549293790, 820201905, 1098587580, 1361435347, 1640403810, 1905808397, 2197175160, 2460548119, 2722870694, 2987750089, 3280807620, 3553878443, 3811616794, 4084100981] := by
  obtain ⟨ps, ⟨_, _, _, _, _, _, _, _, _, _, ⟨g', t', cs, fuel, p, q, hg', ht', hvar, hd, _, _⟩, _⟩, _⟩ := h
  obtain rfl := Option.some.inj (gTab.symm.trans hg')
  obtain rfl := Option.some.inj (gTabType.symm.trans ht')
  unfold Lib.TabIs
  rw [hvar, ← Lib.cells_of_tab Tryd.underlying127 Tryd.underlying126 cellsE cellsT (zs := [0, 274646895, 549293790, 820201905, 1098587580, 1361435347, 1640403810, 1905808397, 2197175160, 2460548119, 2722870694, 2987750089, 3280807620, 3553878443, 3811616794, 4084100981]) (k := .u32) hd]

end Go.Proofs.YtoljmlhnbmeloaaDoor

namespace Go.Proofs.YtoljmlhnbmeloaaDoor
open Go.ChangeShapes Go.WideShapes Go.ChangeAt Go.RowKit

theorem cells_C2 : Tryd.prog.cellsOf 23 = 2 := by kernel_rfl
theorem cells_CI : Tryd.prog.cellsOf 2 = 1 := by kernel_rfl

theorem array2 {α : Type} {cs : Array α} (h : cs.size = 2) : ∃ c0 c1, cs = #[c0, c1] := by
  obtain ⟨l⟩ := cs
  match l, h with
  | [c0, c1], _ => exact ⟨c0, c1, rfl⟩

section
variable {H : Type} {enc : TypeId × Value → H} {W : World} {base : Nat} {held : Bool}

set_option maxRecDepth 100000 in
/-- A configuration that came in. -/
theorem open_conf {b0 : Nat} {v : Value} {d : DataW H} {p : List MemPlace} (hv : Value.okWide Tryd.prog W .any b0 23 v) (h : DataW.Trod enc Tryd.prog W base (fun _ => true) held 23 v d p) :
    ∃ g b : Int, v = .agg #[.int .i64 g, .int .i64 b] := by
  obtain ⟨cs, rfl, hsz⟩ := okWide_struct Tryd.underlying23 hv
  obtain ⟨c0, c1, rfl⟩ := array2 (hsz.trans cells_C2)
  obtain ⟨fuel, hf⟩ := h
  obtain ⟨xs, n, -, -, hl, hlen, hfs⟩ := DataW.trod_struct Tryd.underlying23 hf
  match xs, hlen with
  | [y0, y1], _ =>
    have h0 : DataW.trod enc Tryd.prog W base (fun _ => true) held n 2 [c0] = some y0 := by
      have := hfs 0 _ rfl
      simpa [cells_CI, Value.cells] using this
    have h1 : DataW.trod enc Tryd.prog W base (fun _ => true) held n 2 [c1] = some y1 := by
      have := hfs 1 _ rfl
      simpa [cells_CI, Value.cells] using this
    obtain ⟨g, e0, -, -⟩ := DataW.trod_int Tryd.underlying2 h0
    obtain ⟨b, e1, -, -⟩ := DataW.trod_int Tryd.underlying2 h1
    simp only [List.cons.injEq, and_true] at e0 e1
    subst e0 e1
    exact ⟨g, b, rfl⟩
end

end Go.Proofs.YtoljmlhnbmeloaaDoor

