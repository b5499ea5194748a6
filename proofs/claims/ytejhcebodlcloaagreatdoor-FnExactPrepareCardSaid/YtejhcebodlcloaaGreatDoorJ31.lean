import Derived.Test.YtejhcebodlcloaaGreatDoorJ29
import Derived.Test.YtejhcebodlcloaaGreatDoorJ10
import Derived.Test.YtejhcebodlcloaaGreatDoorJ09
import Derived.Test.YtejhcebodlcloaaGreatDoorJ30
import Derived.Deep.CutRange
namespace Go.Proofs.YtejhcebodlcloaaGreatDoor
open Go.RowKit Go.Shelf


/-- Of the blocks that were there only one has turned. -/
def Onl (w : World) (row : Option Nat) (w' : World) : Prop := w.heap.size ≤ w'.heap.size ∧ ∀ b, b < w.heap.size → some b ≠ row → w'.heap[b]? = w.heap[b]?
theorem Onl.refl (w : World) (row : Option Nat) : Onl w row w := ⟨Nat.le_refl _, fun _ _ _ => rfl⟩
theorem Onl.grown {w w1 w2 : World} {row : Option Nat} (h : Onl w row w1) (hg : w1.grownBy w2 row) : Onl w row w2 := ⟨Nat.le_trans h.1 hg.size, fun b hb hne => (hg.block b (Nat.lt_of_lt_of_le hb h.1) hne).trans (h.2 b hb hne)⟩
theorem Onl.below {w w1 w2 : World} {row : Option Nat} (h : Onl w row w1) (hb : Below w1.heap.size w1 w2) : Onl w row w2 := ⟨Nat.le_trans h.1 hb.size, fun b hl hne => (hb.block b (Nat.lt_of_lt_of_le hl h.1)).trans (h.2 b hl hne)⟩
theorem Onl.after {w w1 w2 : World} {row : Option Nat} (hb : Below w.heap.size w w1) (h : Onl w1 row w2) : Onl w row w2 := ⟨Nat.le_trans hb.size h.1, fun b hl hne => (h.2 b (Nat.lt_of_lt_of_le hl hb.size) hne).trans (hb.block b hl)⟩
/-- A row of nodes on the way. -/
def RowO (w : World) (lo g n cap : Nat) (us : List Value) (w' : World) : Prop := w'.ownsRow lo 70 7 (.slice (some ⟨g, 0, none⟩) n cap) n us ∧ Below lo w w' ∧ KT 70 w w' ∧ Onl w (some g) w'
theorem RowO.set {w w' : World} {lo g n cap : Nat} {us : List Value} (h : RowO w lo g n cap us w') (i : Nat) (u : Value) : RowO w lo g n cap (us.set i u) (w'.setCell ⟨g, i, none⟩ u) := by
  obtain ⟨h1, h2, h3, h4⟩ := h
  have hs := World.ownsRow.stored h1 i u
  exact ⟨hs.1, h2.setCell (World.ownsRow.lt h1 g rfl).1 _, h3.grown h1 hs.2, h4.grown hs.2⟩
theorem RowO.below {w w' w2 : World} {lo g n cap : Nat} {us : List Value} (h : RowO w lo g n cap us w') (hb : Below w'.heap.size w' w2) : RowO w lo g n cap us w2 := by
  obtain ⟨h1, h2, h3, h4⟩ := h
  refine ⟨row_keep h1 hb, h2.trans (hb.mono ?_), h3.below hb, h4.below hb⟩
  have := World.ownsRow.lt h1 g rfl
  omega
theorem RowO.cell {w w' : World} {lo g n cap : Nat} {us : List Value} (h : RowO w lo g n cap us w') (i : Nat) (hi : i < n * 7) : ∃ u, w'.cell? ⟨g, i, none⟩ = some u ∧ w'.frozen? ⟨g, i, none⟩ = false := rowcell h.1 i hi

set_option maxHeartbeats 2000000 in
set_option maxRecDepth 100000 in
theorem markNodeO_row (w : World) (lo g n cap k : Nat) (ns : List Nd) (hp : ns.length = n) (ho : w.ownsRow lo 70 7 (.slice (some ⟨g, 0, none⟩) n cap) n (nrow ns)) (hk : k ≤ 1048576) (hn : n ≤ 1048576) :
    Calls Tryz.prog 34 #[.slice (some ⟨g, 0, none⟩) n cap, .int .i64 k] w fun e w' => e = .returned (.int .i64 ((k + 7 * n : Nat) : Int)) ∧ RowO w lo g n cap (nrow (mkNs k n)) w' := by
  have R0 : Hid (RowO w lo g n cap (nrow (mkMix k ns 0)) w) := ⟨by unfold mkMix mkNs; simpa using ho, Below.refl _ _, KT.refl _ _, Onl.refl _ _⟩
  have HP := hd9 hp
  clear ho hp
  go_enter Tryz.func34, Tryz.ntmps34
  go_wp2
  go_loopw [1, 5] (fun vk vi wr => ∃ j K : Nat, j ≤ n ∧ K = k + 7 * j ∧ vi = .int .i64 j ∧ vk = .int .i64 K ∧ Hid (RowO w lo g n cap (nrow (mkMix k ns j)) wr)) (fun _ i _ => n - (intOf i).toNat)
  case atStart => exact ⟨0, k, Nat.zero_le _, by omega, rfl, rfl, R0⟩
  case round =>
    obtain ⟨j, K, hj, hK, rfl, rfl, HR⟩ := hrel
    have HKE := hd9 hK
    by_cases hlt : j < n
    · have hltI : (j : Int) < (n : Int) := by omega
      have hK2 : K ≤ 10000000 := by omega
      have HS : Hid (set7 (nrow (mkMix k ns j)) (j * 7) (mkN K) = nrow (mkMix k ns (j + 1))) := by
        show _ = _
        rw [nrow_set _ _ _ (by rw [mkMix_len _ _ _ (by rw [HP.out]; omega), HP.out]; exact hlt), hK, mkMix_set _ _ _ (by rw [HP.out]; exact hlt)]
      generalize nrow (mkMix k ns j) = us at *
      clear hK
      go_wp2_with fail
      refine (markText_any _ K (by omega)).mono ?_
      rintro e w1 ⟨rfl, b1⟩
      have R1 := hd9 (HR.out.below b1)
      clear b1 HR
      obtain ⟨x0, d0, f0⟩ := R1.out.cell (j * 7) (by omega)
      have R2 : Hid (RowO w lo g n cap (us.set (j * 7) (.string (mtx K))) (w1.setCell ⟨g, j * 7, none⟩ (.string (mtx K)))) := R1.out.set _ _
      go_wp2_with fail
      generalize w1.setCell ⟨g, j * 7, none⟩ (.string (mtx K)) = w2 at *
      clear d0 f0 R1
      have hm := markText_any w2 (K + 1) (by omega)
      rw [show ((K + 1 : Nat) : Int) = (K : Int) + 1 by omega] at hm
      refine hm.mono ?_
      clear hm
      rintro e w3 ⟨rfl, b3⟩
      have R3 := hd9 (R2.out.below b3)
      clear b3 R2
      obtain ⟨x1, d1, f1⟩ := R3.out.cell (j * 7 + 1) (by omega)
      obtain ⟨x2, d2, f2⟩ := R3.out.cell (j * 7 + 2) (by omega)
      obtain ⟨x3, d3, f3⟩ := R3.out.cell (j * 7 + 3) (by omega)
      obtain ⟨x4, d4, f4⟩ := R3.out.cell (j * 7 + 4) (by omega)
      obtain ⟨x5, d5, f5⟩ := R3.out.cell (j * 7 + 5) (by omega)
      obtain ⟨x6, d6, f6⟩ := R3.out.cell (j * 7 + 6) (by omega)
      go_wp2
      refine ⟨⟨j + 1, K + 7, by omega, by have := HKE.out; omega, by go_num, by go_num, ?_⟩, by simp [intOf]; omega⟩
      show RowO _ _ _ _ _ _ _
      rw [← HS.out]
      exact ((((((R3.out.set _ _).set _ _).set _ _).set _ _).set _ _).set _ _)
    · have hjn : j = n := by omega
      subst hjn
      subst hK
      have HF : Hid (RowO w lo g j cap (nrow (mkNs k j)) wr) := by have := HR.out; rw [← HP.out, mkMix_all, HP.out] at this; exact this
      go_wp2
      go_ret
      exact ⟨rfl, HF.out⟩

theorem markNodeO_any (w : World) (lo k : Nat) (v : Value) (ns : List Nd) (h : OwnN 70 w lo v ns) (hk : k ≤ 1048576) (hn : ns.length ≤ 1048576) :
    Calls Tryz.prog 34 #[v, .int .i64 k] w fun e w' => e = .returned (.int .i64 ((k + 7 * ns.length : Nat) : Int)) ∧ OwnN 70 w' lo v (mkNs k ns.length) ∧ Below lo w w' ∧ KT 70 w w' ∧ Onl w v.ownBlock w' := by
  have h0 := h
  rcases h.2 with ⟨rfl, h1⟩ | ⟨g, cap, cur, rfl, rest⟩
  · refine (markNodeS_nil w none 0 k).mono ?_
    rintro e w' ⟨rfl, rfl⟩
    rw [h1]
    exact ⟨rfl, World.ownsRow_nil _ _ _ _, Below.refl _ _, KT.refl _ _, Onl.refl _ _⟩
  · refine (markNodeO_row w lo g ns.length cap k ns rfl h0 hk hn).mono ?_
    rintro e w' ⟨rfl, h1, h2, h3, h4⟩
    exact ⟨rfl, by unfold OwnN; rw [mkNs_len]; exact h1, h2, h3, h4⟩

set_option maxHeartbeats 400000 in
theorem markTreeO_any (w : World) (lo k : Nat) (v : Value) (ns : List Nd) (h : OwnN 70 w lo v ns) (hl : lo ≤ w.heap.size) (hk : k ≤ 1048576) (hn : ns.length ≤ 1048576) :
    Calls Tryz.prog 13 #[.agg #[v], .int .i64 k] w fun e w' => e = .returned (.int .i64 ((k + 7 * ns.length : Nat) : Int)) ∧ OwnN 70 w' lo v (mkNs k ns.length) ∧ Below lo w w' ∧ KT 70 w w' ∧ Onl w v.ownBlock w' := by
  have H := hd9 h
  clear h
  go_enter Tryz.func13, Tryz.ntmps13
  go_wp2_with fail
  refine (markNodeO_any _ lo k v ns (H.out.below ((Below.refl _ _).alloc (Nat.le_refl _) _)) hk hn).mono ?_
  rintro e w1 ⟨rfl, o1, b1, k1, n1⟩
  have O1 := hd9 o1
  have B1 := hd9 (((Below.refl _ _).alloc hl _).trans b1)
  have K1 := hd9 (((KT.refl _ _).alloc _).trans k1)
  have N1 := hd9 (Onl.after ((Below.refl _ _).alloc (Nat.le_refl _) _) n1)
  clear b1 k1 o1 n1
  go_wp2
  go_ret
  exact ⟨rfl, O1.out, B1.out, K1.out, N1.out⟩


/-- What came in: a tree of the laws' own type. -/
def InT (w : World) (v : Value) (ns : List Nd) : Prop := RdN w v ns ∧ ∀ i, (nAt ns i).path.size ≤ maxLen ∧ (nAt ns i).data.size ≤ maxLen



theorem heap_set9 {W : World} {B : Nat} {A : Array Value} {t : TypeId} {f : Nat × Nat} (h : W.heap[B]? = some (.cells A t f)) (j : Nat) (x : Value) : (W.setCell ⟨B, j, none⟩ x).heap[B]? = some (.cells (A.setIfInBounds j x) t f) := by
  obtain ⟨hlt, hk⟩ := Array.getElem?_eq_some_iff.1 h
  show (W.heap.modify B _)[B]? = _
  rw [Array.getElem?_eq_getElem (by rw [Array.size_modify]; exact hlt), Array.getElem_modify_self, hk]
  rfl
theorem BxP.put {W : World} {B : Nat} {c0 i0 : Int} {n0 : Value} {z0 : Int} {e0 : Value} (h : BxP W B c0 i0 n0 z0 e0) (c i : Int) (vn : Value) (z : Int) (ve : Value) :
    BxP (((((W.setCell ⟨B, 0, none⟩ (.int .i64 c)).setCell ⟨B, 1, none⟩ (.int .i64 i)).setCell ⟨B, 2, none⟩ vn).setCell ⟨B, 3, none⟩ (.int .i64 z)).setCell ⟨B, 4, none⟩ ve) B c i vn z ve :=
  heap_set9 (heap_set9 (heap_set9 (heap_set9 (heap_set9 h 0 _) 1 _) 2 _) 3 _) 4 _
theorem BxP.frozen {W : World} {B : Nat} {c i : Int} {vn : Value} {z : Int} {ve : Value} (h : BxP W B c i vn z ve) (j : Nat) : W.frozen? ⟨B, j, none⟩ = false := by simp [World.frozen?, show W.heap[B]? = _ from h]
theorem BxP.not_row {W : World} {B : Nat} {c i : Int} {vn : Value} {z : Int} {ve : Value} {e : TypeId} (h : BxP W B c i vn z ve) (hte : 35 ≠ e) {base size k : Nat} {v : Value} {xs : List Value} (hr : W.ownsRow base e size v k xs) : v.ownBlock ≠ some B := by
  rcases hr.2 with ⟨rfl, _⟩ | ⟨g, cap, cur, rfl, _, hgb, _⟩
  · simp [Value.ownBlock]
  · intro e'
    obtain rfl : g = B := by simpa [Value.ownBlock] using e'
    have := (show W.heap[g]? = _ from h).symm.trans hgb
    simp at this
    exact hte this.2
theorem row_put5 {W : World} {B lo size n : Nat} {e : TypeId} {v : Value} {xs : List Value} (h : W.ownsRow lo e size v n xs) (hne : v.ownBlock ≠ some B) (x0 x1 x2 x3 x4 : Value) :
    (((((W.setCell ⟨B, 0, none⟩ x0).setCell ⟨B, 1, none⟩ x1).setCell ⟨B, 2, none⟩ x2).setCell ⟨B, 3, none⟩ x3).setCell ⟨B, 4, none⟩ x4).ownsRow lo e size v n xs :=
  ownsRow_setCell_other (ownsRow_setCell_other (ownsRow_setCell_other (ownsRow_setCell_other (ownsRow_setCell_other h (a := ⟨B, 0, none⟩) hne _) (a := ⟨B, 1, none⟩) hne _) (a := ⟨B, 2, none⟩) hne _) (a := ⟨B, 3, none⟩) hne _) (a := ⟨B, 4, none⟩) hne _
theorem below_put5 {w W : World} {B lo : Nat} (h : Below lo w W) (hB : lo ≤ B) (x0 x1 x2 x3 x4 : Value) :
    Below lo w (((((W.setCell ⟨B, 0, none⟩ x0).setCell ⟨B, 1, none⟩ x1).setCell ⟨B, 2, none⟩ x2).setCell ⟨B, 3, none⟩ x3).setCell ⟨B, 4, none⟩ x4) :=
  ((((h.setCell (p := ⟨B, 0, none⟩) hB _).setCell (p := ⟨B, 1, none⟩) hB _).setCell (p := ⟨B, 2, none⟩) hB _).setCell (p := ⟨B, 3, none⟩) hB _).setCell (p := ⟨B, 4, none⟩) hB _
theorem OwnS.slice {w : World} {lo : Nat} {v : Value} {L : List (List UInt8)} (h : OwnS w lo v L) : ∃ a c, v = .slice a L.length c := by
  rcases h.2 with ⟨rfl, h0⟩ | ⟨g, cap, cur, rfl, _⟩
  · exact ⟨none, 0, by rw [h0]⟩
  · exact ⟨_, cap, rfl⟩

theorem OwnO.keepO {w w' : World} {lo : Nat} {v : Value} {ns : List Op5} {t : TypeId} (h : OwnO 58 w lo v ns) (hk : KT t w w') (ht : 58 ≠ t) : OwnO 58 w' lo v ns := by
  refine ⟨h.1, ?_⟩
  rcases h.2 with hn | ⟨g, cap, cur, rfl, hbg, hgg, rest⟩
  · exact .inl hn
  · exact .inr ⟨g, cap, cur, rfl, hbg, hk.box hgg ht, rest⟩

/-- The arguments' boxes. -/
structure LawR (s : Nat) (v vx : Value) (W : World) : Prop where
  t : Boxed W s 24 v
  x : Boxed W (s + 1) 27 vx
theorem LawR.new (w : World) (v vx : Value) : LawR w.heap.size v vx ((w.alloc (.cells #[v] 24)).alloc (.cells #[vx] 27)) := by
  have s1 : (w.alloc (.cells #[v] 24)).heap.size = w.heap.size + 1 := by simp
  have h2 := Boxed.new (w.alloc (.cells #[v] 24)) 27 vx
  rw [s1] at h2
  exact ⟨(Boxed.new w _ _).alloc _, h2⟩
theorem LawR.below {s m : Nat} {v vx : Value} {W W' : World} (h : LawR s v vx W) (hb : Below m W W') (hm : s + 2 ≤ m) : LawR s v vx W' :=
  ⟨(hb.block _ (by omega)).trans h.t, (hb.block _ (by omega)).trans h.x⟩
theorem LawR.size {s : Nat} {v vx : Value} {W : World} (h : LawR s v vx W) : s + 2 ≤ W.heap.size := by have := h.x.lt; omega
theorem LawR.cells {s : Nat} {v vx : Value} {W : World} (h : LawR s v vx W) : W.cell? ⟨s, 0, none⟩ = some v ∧ W.cell? ⟨s + 1, 0, none⟩ = some vx := ⟨h.t.cell, h.x.cell⟩
theorem LawR.keep {s : Nat} {v vx : Value} {W W' : World} {t : TypeId} (h : LawR s v vx W) (hk : KT t W W') (h1 : 24 ≠ t) (h2 : 27 ≠ t) : LawR s v vx W' := ⟨hk.box h.t h1, hk.box h.x h2⟩

/-- An answer in its box, its rows from lo on. -/
structure AnsP (c i z : Int) (L : List (List UInt8)) (es : List Ef) (lo B : Nat) (vn ve : Value) (W : World) : Prop where
  b : BxP W B c i vn z ve
  n : OwnS W lo vn L
  e : OwnE 100 W lo ve es
theorem AnsP.later {c i z : Int} {L : List (List UInt8)} {es : List Ef} {lo B : Nat} {vn ve : Value} {W W' : World} (h : AnsP c i z L es lo B vn ve W) (hb : Below W.heap.size W W') : AnsP c i z L es lo B vn ve W' := ⟨h.b.later hb, h.n.below hb, h.e.below hb⟩
theorem AnsP.keep {c i z : Int} {L : List (List UInt8)} {es : List Ef} {lo B : Nat} {vn ve : Value} {W W' : World} {t : TypeId} (h : AnsP c i z L es lo B vn ve W) (hk : KT t W W') (h1 : 35 ≠ t) (h2 : 9 ≠ t) (h3 : 100 ≠ t) : AnsP c i z L es lo B vn ve W' :=
  ⟨hk.box h.b h1, h.n.keepT hk h2, h.e.keepQ hk h3⟩
theorem AnsP.low {c i z : Int} {L : List (List UInt8)} {es : List Ef} {lo B m : Nat} {vn ve : Value} {W W' : World} (h : AnsP c i z L es lo B vn ve W) (hb : Below m W W') (h1 : B < m) (h2 : ∀ g, vn.ownBlock = some g → g < m) (h3 : ∀ g, ve.ownBlock = some g → g < m) : AnsP c i z L es lo B vn ve W' :=
  ⟨(hb.block _ h1).trans h.b, h.n.belowM hb h2, h.e.belowQ hb h3⟩

/-- What the law holds when the answer is there. -/
structure AP4 (w : World) (vT vX : Value) (ns : List Nd) (os : List Op5) (c i z : Int) (L : List (List UInt8)) (es : List Ef) (l0 BW : Nat) (wn we : Value) (l7 B7 : Nat) (v7 : Value) (l8 B8 : Nat) (v8 : Value) (l9 B9 : Nat) (gn ge : Value) (W : World) : Prop where
  bx : LawR w.heap.size vT vX W
  below : Below w.heap.size w W
  wb : AnsP c i z L es l0 BW wn we W
  tb : Boxed W B7 39 v7
  tO : OwnN 70 W l7 v7 ns
  xb : Boxed W B8 43 v8
  xo : OwnO 58 W l8 v8 os
  gb : AnsP c i z L es l9 B9 gn ge W
theorem AP4.later {w : World} {vT vX : Value} {ns : List Nd} {os : List Op5} {c i z : Int} {L : List (List UInt8)} {es : List Ef} {l0 BW : Nat} {wn we : Value} {l7 B7 : Nat} {v7 : Value} {l8 B8 : Nat} {v8 : Value} {l9 B9 : Nat} {gn ge : Value} {W W' : World}
    (h : AP4 w vT vX ns os c i z L es l0 BW wn we l7 B7 v7 l8 B8 v8 l9 B9 gn ge W) (hb : Below W.heap.size W W') : AP4 w vT vX ns os c i z L es l0 BW wn we l7 B7 v7 l8 B8 v8 l9 B9 gn ge W' :=
  ⟨h.bx.below hb h.bx.size, h.below.trans (hb.mono h.below.size), h.wb.later hb, boxed_below hb h.tb, h.tO.below hb, boxed_below hb h.xb, h.xo.below hb, h.gb.later hb⟩

/-- What it holds behind the marks. -/
structure AP5 (w : World) (vT vX : Value) (c i z : Int) (L K : List (List UInt8)) (es fs : List Ef) (l0 BW : Nat) (wn we : Value) (l9 B9 : Nat) (gn ge : Value) (W : World) : Prop where
  bx : LawR w.heap.size vT vX W
  below : Below w.heap.size w W
  wb : AnsP c i z L es l0 BW wn we W
  gb : AnsP c i z K fs l9 B9 gn ge W
theorem AP5.later {w : World} {vT vX : Value} {c i z : Int} {L K : List (List UInt8)} {es fs : List Ef} {l0 BW : Nat} {wn we : Value} {l9 B9 : Nat} {gn ge : Value} {W W' : World}
    (h : AP5 w vT vX c i z L K es fs l0 BW wn we l9 B9 gn ge W) (hb : Below W.heap.size W W') : AP5 w vT vX c i z L K es fs l0 BW wn we l9 B9 gn ge W' :=
  ⟨h.bx.below hb h.bx.size, h.below.trans (hb.mono h.below.size), h.wb.later hb, h.gb.later hb⟩

end Go.Proofs.YtejhcebodlcloaaGreatDoor


