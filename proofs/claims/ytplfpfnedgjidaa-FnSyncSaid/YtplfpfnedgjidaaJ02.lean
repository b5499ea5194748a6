import Derived.Test.YtplfpfnedgjidaaJ01
import Derived.Deep.RegionWith
import Derived.Deep.RegionLaw
namespace Go.Proofs.Ytplfpfnedgjidaa
open Go.RowKit

def pB (ps : List (Int × List Int)) (i : Nat) : Int := (ps.getD i (0, [])).1
def pD (ps : List (Int × List Int)) (i : Nat) : List Int := (ps.getD i (0, [])).2

/-- A slice of records (a number and a list of bytes) that reads as ps. -/
def RdW (w : World) (v : Value) (ps : List (Int × List Int)) : Prop :=
  ∃ ao cap, v = .slice ao ps.length cap ∧ ps.length ≤ cap ∧ cap ≤ maxLen ∧
    (ps = [] ∨ ∃ b off, ao = some ⟨b, off, none⟩ ∧ b < w.heap.size ∧ ∀ i, i < ps.length →
      w.cell? ⟨b, off + i * 2, none⟩ = some (.int .i64 (pB ps i)) ∧ ∃ da c, w.cell? ⟨b, off + i * 2 + 1, none⟩ = some (.slice da (pD ps i).length c) ∧ Rd .u8 w (.slice da (pD ps i).length c) (pD ps i))

theorem RdW.len {w : World} {v : Value} {ps : List (Int × List Int)} (h : RdW w v ps) : ∃ ao cap, v = .slice ao ps.length cap ∧ ps.length ≤ cap ∧ cap ≤ maxLen := by
  obtain ⟨ao, cap, h0, h1, h2, _⟩ := h
  exact ⟨ao, cap, h0, h1, h2⟩

theorem RdW.below {w w' : World} {v : Value} {ps : List (Int × List Int)} (h : RdW w v ps) (hb : Below w.heap.size w w') : RdW w' v ps := by
  obtain ⟨ao, cap, rfl, h1, h2, h3⟩ := h
  refine ⟨ao, cap, rfl, h1, h2, ?_⟩
  rcases h3 with h3 | ⟨b, off, rfl, hlt, hc⟩
  · exact .inl h3
  · refine .inr ⟨b, off, rfl, Nat.lt_of_lt_of_le hlt hb.size, fun i hi => ?_⟩
    obtain ⟨c1, da, c, c2, r⟩ := hc i hi
    exact ⟨(hb.cell (p := ⟨b, _, none⟩) hlt).trans c1, da, c, (hb.cell (p := ⟨b, _, none⟩) hlt).trans c2, r.below hb⟩

def tot (ps : List (Int × List Int)) : Nat := (ps.map fun p => p.2.length).sum
theorem tot_take_succ (ps : List (Int × List Int)) (k : Nat) (h : k < ps.length) : tot (ps.take (k + 1)) = tot (ps.take k) + (pD ps k).length := by
  unfold tot pD
  rw [List.take_succ_eq_append_getElem h, List.map_append, List.sum_append]
  simp [List.getD, h]
theorem tot_all (ps : List (Int × List Int)) (k : Nat) (h : ps.length ≤ k) : tot (ps.take k) = tot ps := by rw [List.take_of_length_le h]

set_option maxHeartbeats 400000 in
theorem szByteS_any (w : World) (ao : Option Addr) (n cap : Nat) (left : Int) (hn : n ≤ maxLen) (h0 : 0 ≤ left) (h1 : left ≤ 1048576) :
    Calls Try.prog 65 #[.slice ao n cap, .int .i64 left] w fun e w' => e = .returned (.int .i64 (if left < n then -1 else left - n)) ∧ w' = w := by
  unfold maxLen at hn
  by_cases h : left < n
  · rw [if_pos h]
    have h2 : left - (n : Int) < 0 := by omega
    go_enter Try.func65, Try.ntmps65
    go_wp2
    go_ret
    exact ⟨rfl, rfl⟩
  · rw [if_neg h]
    have h2 : ¬ left - (n : Int) < 0 := by omega
    go_enter Try.func65, Try.ntmps65
    go_wp2
    go_ret
    exact ⟨rfl, rfl⟩

set_option maxHeartbeats 400000 in
theorem szWrite_any (w : World) (x : Int) (ao : Option Addr) (n cap : Nat) (left : Int) (hn : n ≤ maxLen) (h0 : 0 ≤ left) (h1 : left ≤ 1048576) :
    Calls Try.prog 92 #[.agg #[.int .i64 x, .slice ao n cap], .int .i64 left] w fun e w' => e = .returned (.int .i64 (if left < n then -1 else left - n)) ∧ Below w.heap.size w w' := by
  have B0 : Hid (Below w.heap.size w (w.alloc (.cells #[.int .i64 x, .slice ao n cap] 108))) := (Below.refl _ _).alloc (Nat.le_refl _) _
  go_enter Try.func92, Try.ntmps92
  go_wp2_with fail
  refine (szByteS_any _ ao n cap left hn h0 h1).mono ?_
  rintro e w1 ⟨rfl, hw⟩
  subst hw
  by_cases h : left < n
  · rw [if_pos h]
    go_wp2
    go_ret
    exact ⟨rfl, B0.out⟩
  · rw [if_neg h]
    have h2 : ¬ left - (n : Int) < 0 := by omega
    go_wp2
    go_ret
    exact ⟨rfl, B0.out⟩

set_option maxHeartbeats 400000 in
set_option maxRecDepth 100000 in
theorem szWriteS_row (w : World) (b o n cap : Nat) (ps : List (Int × List Int)) (hp : ps.length = n) (hn : n ≤ maxLen) (hb : b < w.heap.size)
    (hc : ∀ i, i < n → w.cell? ⟨b, o + i * 2, none⟩ = some (.int .i64 (pB ps i)) ∧ ∃ da c, w.cell? ⟨b, o + i * 2 + 1, none⟩ = some (.slice da (pD ps i).length c) ∧ Rd .u8 w (.slice da (pD ps i).length c) (pD ps i)) (left : Int) (h0 : 0 ≤ left) (h1 : left ≤ 1048576) :
    Calls Try.prog 66 #[.slice (some ⟨b, o, none⟩) n cap, .int .i64 left] w fun e w' => ∃ r : Int, e = .returned (.int .i64 r) ∧ (r < 0 ∨ r + n + tot ps = left) ∧ Below w.heap.size w w' := by
  have HC : Hid (∀ i, i < n → w.cell? ⟨b, o + i * 2, none⟩ = some (.int .i64 (pB ps i)) ∧ ∃ da c, w.cell? ⟨b, o + i * 2 + 1, none⟩ = some (.slice da (pD ps i).length c) ∧ Rd .u8 w (.slice da (pD ps i).length c) (pD ps i)) := hc
  have HP : Hid (ps.length = n) := hp
  clear hc hp
  unfold maxLen at hn
  by_cases hl : left < n
  · have h2 : left - (n : Int) < 0 := by omega
    go_enter Try.func66, Try.ntmps66
    go_wp2
    go_ret
    exact ⟨-1, rfl, .inl (by omega), Below.refl _ _⟩
  · have h2 : ¬ left - (n : Int) < 0 := by omega
    go_enter Try.func66, Try.ntmps66
    go_wp2
    go_loopw [1, 5] (fun l i wr => ∃ (k : Nat) (L : Int), k ≤ n ∧ i = .int .i64 k ∧ 0 ≤ L ∧ L ≤ 1048576 ∧ l = .int .i64 L ∧ Hid (L + n + tot (ps.take k) = left) ∧ Below w.heap.size w wr) (fun _ i _ => n - (intOf i).toNat)
    case atStart => exact ⟨0, left - n, Nat.zero_le _, rfl, by omega, by omega, rfl, (by show _ = _; simp [tot]), Below.refl _ _⟩
    case round =>
      obtain ⟨k, L, hk, rfl, hL0, hL1, rfl, HE, hg⟩ := hrel
      by_cases hlt : k < n
      · obtain ⟨c1, da, dc, c2, r⟩ := HC.out k hlt
        have hltI : (k : Int) < (n : Int) := by omega
        have c1' := (hg.cell (p := ⟨b, o + k * 2, none⟩) hb).trans c1
        have c2' := (hg.cell (p := ⟨b, o + k * 2 + 1, none⟩) hb).trans c2
        have HG : Hid (Below w.heap.size w wr) := hg
        have hd2 : (pD ps k).length ≤ maxLen := by obtain ⟨_, _, _, h3, h4⟩ := r.len; omega
        have HTS : Hid (tot (ps.take (k + 1)) = tot (ps.take k) + (pD ps k).length) := tot_take_succ ps k (by rw [HP.out]; exact hlt)
        have sg := hg.size
        clear c1 c2 hg r
        go_wp2_with fail
        refine (szWrite_any _ _ _ _ _ L hd2 hL0 hL1).mono ?_
        rintro e w1 ⟨rfl, b1⟩
        have HG1 : Hid (Below w.heap.size w w1) := HG.out.trans (b1.mono sg)
        clear b1 c1' c2'
        by_cases hneg : L < (pD ps k).length
        · rw [if_pos hneg]
          go_wp2
          go_ret
          exact ⟨-1, rfl, .inl (by omega), HG1.out⟩
        · rw [if_neg hneg]
          have h3 : ¬ L - ((pD ps k).length : Int) < 0 := by omega
          go_wp2
          go_roundw
          case rel => exact ⟨k + 1, L - (pD ps k).length, by omega, by go_num, by omega, by omega, rfl, (by show _ = _; rw [HTS.out]; have := HE.out; omega), HG1.out⟩
          case measure => simp [intOf]; omega
      · have HG : Hid (Below w.heap.size w wr) := hg
        clear hg
        go_wp2
        go_ret
        exact ⟨L, rfl, .inr (by have := HE.out; rw [tot_all ps k (by rw [HP.out]; omega)] at this; exact this), HG.out⟩

set_option maxHeartbeats 400000 in
theorem szWriteS_nil (w : World) (ao : Option Addr) (cap : Nat) (left : Int) (h0 : 0 ≤ left) (h1 : left ≤ 1048576) :
    Calls Try.prog 66 #[.slice ao 0 cap, .int .i64 left] w fun e w' => e = .returned (.int .i64 left) ∧ w' = w := by
  have h2 : ¬ left < 0 := by omega
  go_enter Try.func66, Try.ntmps66
  go_wp2
  go_rounds 1
  go_ret
  exact ⟨by simp, rfl⟩

theorem szWriteS_any (w : World) (v : Value) (ps : List (Int × List Int)) (h : RdW w v ps) (left : Int) (h0 : 0 ≤ left) (h1 : left ≤ 1048576) :
    Calls Try.prog 66 #[v, .int .i64 left] w fun e w' => ∃ r : Int, e = .returned (.int .i64 r) ∧ (r < 0 ∨ r + ps.length + tot ps = left) ∧ Below w.heap.size w w' := by
  obtain ⟨ao, cap, rfl, k1, k2, k3⟩ := h
  rcases k3 with rfl | ⟨b, o, rfl, hb, hc⟩
  · refine (szWriteS_nil w ao cap left h0 h1).mono ?_
    rintro e w' ⟨rfl, rfl⟩
    exact ⟨left, rfl, .inr (by simp [tot]), Below.refl _ _⟩
  · exact szWriteS_row w b o ps.length cap ps rfl (by omega) hb hc left h0 h1

set_option maxHeartbeats 400000 in
theorem szDisk_any (w : World) (vd vp : Value) (dur : List Int) (ps : List (Int × List Int)) (hd : Rd .u8 w vd dur) (hp : RdW w vp ps) :
    Calls Try.prog 35 #[.agg #[vd, vp], .int .i64 1048576] w fun e w' => ∃ r : Int, e = .returned (.int .i64 r) ∧ (r < 0 ∨ r + dur.length + ps.length + tot ps = 1048576) ∧ Below w.heap.size w w' := by
  have B0 : Hid (Below w.heap.size w (w.alloc (.cells #[vd, vp] 48))) := (Below.refl _ _).alloc (Nat.le_refl _) _
  have RP : Hid (RdW (w.alloc (.cells #[vd, vp] 48)) vp ps) := hp.below B0.out
  obtain ⟨ao, cap, rfl, k1, k2⟩ := hd.len
  clear hp hd
  go_enter Try.func35, Try.ntmps35
  go_wp2_with fail
  refine (szByteS_any _ ao dur.length cap 1048576 (by omega) (by omega) (by omega)).mono ?_
  rintro e w1 ⟨rfl, hw⟩
  subst hw
  by_cases h : (1048576 : Int) < dur.length
  · rw [if_pos h]
    go_wp2
    go_ret
    exact ⟨-1, rfl, .inl (by omega), B0.out⟩
  · rw [if_neg h]
    have h2 : ¬ (1048576 : Int) - (dur.length : Int) < 0 := by omega
    go_wp2_with fail
    refine (szWriteS_any _ _ ps RP.out (1048576 - dur.length) (by omega) (by omega)).mono ?_
    rintro e w2 ⟨r, rfl, hr, b2⟩
    have B2 : Hid (Below w.heap.size w w2) := B0.out.trans (b2.mono (by simp))
    clear b2
    by_cases hneg : r < 0
    · go_wp2
      go_ret
      exact ⟨-1, rfl, .inl (by omega), B2.out⟩
    · have h3 : r + ps.length + tot ps = 1048576 - dur.length := by omega
      have H3 : Hid (r + dur.length + ps.length + tot ps = 1048576) := by show _ = _; omega
      clear hr h3
      go_wp2
      go_ret
      exact ⟨r, rfl, .inr H3.out, B2.out⟩

end Go.Proofs.Ytplfpfnedgjidaa

namespace Go.Proofs.Ytplfpfnedgjidaa
open Go.RowKit

/-! ### rows of records -/
def rowW (n : Nat) (f : Nat → Int) (g : Nat → Value) : List Value := (List.range n).flatMap fun i => [.int .i64 (f i), g i]

theorem rowW_succ (n : Nat) (f : Nat → Int) (g : Nat → Value) : rowW (n + 1) f g = rowW n f g ++ [.int .i64 (f n), g n] := by
  unfold rowW; rw [List.range_succ, List.flatMap_append]; simp
theorem rowW_length (n : Nat) (f : Nat → Int) (g : Nat → Value) : (rowW n f g).length = n * 2 := by
  induction n with
  | zero => rfl
  | succ n ih => rw [rowW_succ, List.length_append, ih]; simp; omega
theorem rowW_get (n : Nat) (f : Nat → Int) (g : Nat → Value) (j : Nat) (h : j < n * 2) : (rowW n f g)[j]? = some (if j % 2 = 0 then .int .i64 (f (j / 2)) else g (j / 2)) := by
  induction n with
  | zero => omega
  | succ n ih =>
    rw [rowW_succ]
    by_cases hj : j < n * 2
    · rw [List.getElem?_append_left (by rw [rowW_length]; exact hj), ih hj]
    · rw [List.getElem?_append_right (by rw [rowW_length]; omega), rowW_length]
      by_cases e : j = n * 2
      · subst e
        simp [show n * 2 % 2 = 0 by omega]
      · have e2 : j = n * 2 + 1 := by omega
        subst e2
        rw [if_neg (by omega), show n * 2 + 1 - n * 2 = 1 by omega, show (n * 2 + 1) / 2 = n by omega]
        rfl
theorem rowW_congr {n : Nat} {f f' : Nat → Int} {g g' : Nat → Value} (hf : ∀ i, i < n → f i = f' i) (hg : ∀ i, i < n → g i = g' i) : rowW n f g = rowW n f' g' := by
  unfold rowW
  rw [List.flatMap_def, List.flatMap_def]
  congr 1
  apply List.map_congr_left
  intro i hi
  have hi := List.mem_range.1 hi
  rw [hf i hi, hg i hi]
/-- Record k written. -/
theorem rowW_set {n : Nat} {f f' : Nat → Int} {g g' : Nat → Value} {k : Nat} (hk : k < n) (hf : ∀ i, i ≠ k → f i = f' i) (hg : ∀ i, i ≠ k → g i = g' i) :
    ((rowW n f g).set (k * 2) (.int .i64 (f' k))).set (k * 2 + 1) (g' k) = rowW n f' g' := by
  apply List.ext_getElem?
  intro j
  by_cases hj : j < n * 2
  · rw [List.getElem?_set, List.getElem?_set, rowW_get n f' g' j hj, rowW_get n f g j hj]
    simp only [List.length_set, rowW_length]
    by_cases e1 : k * 2 + 1 = j
    · rw [if_pos e1, if_pos (by omega), if_neg (by omega), show j / 2 = k by omega]
    · rw [if_neg e1]
      by_cases e2 : k * 2 = j
      · rw [if_pos e2, if_pos (by omega), if_pos (by omega), show j / 2 = k by omega]
      · rw [if_neg e2, hf _ (by omega), hg _ (by omega)]
  · rw [List.getElem?_eq_none (by simp [rowW_length]; omega), List.getElem?_eq_none (by rw [rowW_length]; omega)]

theorem rowW_zero (n : Nat) : (madeCells #[Value.int .i64 0, Value.slice none 0 0] (n * 2)).toList = rowW n (fun _ => 0) (fun _ => .slice none 0 0) := by
  apply List.ext_getElem?
  intro j
  by_cases hj : j < n * 2
  · rw [rowW_get _ _ _ _ hj]
    rcases Nat.mod_two_eq_zero_or_one j with e | e
    · simp [madeCells, hj, e]
    · simp [madeCells, hj, e]
  · simp [madeCells, hj, List.getElem?_eq_none (show (rowW n (fun _ => 0) (fun _ => Value.slice none 0 0)).length ≤ j by rw [rowW_length]; omega)]

def Ne2 (a b : Value) : Prop := a.ownBlock = none ∨ a.ownBlock ≠ b.ownBlock

/-- A slice of records that is the call's own, each list in a row of its own. -/
def OwnW (e : TypeId) (w : World) (lo : Nat) (v : Value) (ps : List (Int × List Int)) (dv : Nat → Value) : Prop :=
  w.ownsRow lo e 2 v ps.length (rowW ps.length (pB ps) dv) ∧ (∀ i, i < ps.length → Own .u8 5 w lo (dv i) (pD ps i)) ∧
  (∀ i j, i < ps.length → j < ps.length → i ≠ j → Ne2 (dv i) (dv j)) ∧ ∀ i, i < ps.length → Ne2 (dv i) v

theorem Own.slice {k : IntKind} {e : TypeId} {w : World} {lo : Nat} {v : Value} {xs : List Int} (h : Own k e w lo v xs) : ∃ a c, v = .slice a xs.length c := by
  obtain ⟨a, c, h0, _⟩ := h.rd.len
  exact ⟨a, c, h0⟩

theorem OwnW.rd {e : TypeId} {w : World} {lo : Nat} {v : Value} {ps : List (Int × List Int)} {dv : Nat → Value} (h : OwnW e w lo v ps dv) : RdW w v ps := by
  obtain ⟨ho, hd, _, _⟩ := h
  rcases ho.2 with ⟨rfl, h0⟩ | ⟨g, cap, cur, rfl, hb, hg, hn, hm, hs, ht⟩
  · have : ps = [] := List.eq_nil_of_length_eq_zero h0
    subst this
    exact ⟨none, 0, rfl, Nat.le_refl _, Nat.zero_le _, .inl rfl⟩
  · refine ⟨_, cap, rfl, hn, hm, .inr ⟨g, 0, rfl, (Array.getElem?_eq_some_iff.1 hg).1, fun i hi => ?_⟩⟩
    have c1 := World.ownsRow.cells ho (g := g) rfl (i * 2) _ (rowW_get _ _ _ _ (by omega))
    have c2 := World.ownsRow.cells ho (g := g) rfl (i * 2 + 1) _ (rowW_get _ _ _ _ (by omega))
    rw [Addr.add_lit] at c1 c2
    rw [if_pos (by omega), show i * 2 / 2 = i by omega] at c1
    rw [if_neg (by omega), show (i * 2 + 1) / 2 = i by omega] at c2
    obtain ⟨a, c, e⟩ := (hd i hi).slice
    refine ⟨c1, a, c, ?_, ?_⟩
    · rw [← e, Nat.add_assoc]; exact c2
    · rw [← e]; exact (hd i hi).rd

theorem OwnW.below {e : TypeId} {w w' : World} {lo : Nat} {v : Value} {ps : List (Int × List Int)} {dv : Nat → Value} (h : OwnW e w lo v ps dv) (hb : Below w.heap.size w w') : OwnW e w' lo v ps dv := by
  obtain ⟨ho, hd, h3, h4⟩ := h
  refine ⟨⟨ho.1, ?_⟩, fun i hi => (hd i hi).below hb, h3, h4⟩
  rcases ho.2 with hn | ⟨g, cap, cur, rfl, hbg, hgg, rest⟩
  · exact .inl hn
  · exact .inr ⟨g, cap, cur, rfl, hbg, by rw [hb.block g (Array.getElem?_eq_some_iff.1 hgg).1]; exact hgg, rest⟩

theorem OwnW.mono {e : TypeId} {w : World} {lo lo' : Nat} {v : Value} {ps : List (Int × List Int)} {dv : Nat → Value} (h : OwnW e w lo v ps dv) (hl : lo' ≤ lo) : OwnW e w lo' v ps dv := by
  obtain ⟨ho, hd, h3, h4⟩ := h
  refine ⟨⟨ho.1, ?_⟩, fun i hi => (hd i hi).mono hl, h3, h4⟩
  rcases ho.2 with hn | ⟨g, cap, cur, rfl, hbg, rest⟩
  · exact .inl hn
  · exact .inr ⟨g, cap, cur, rfl, by omega, rest⟩

theorem Own.setAt {k : IntKind} {e : TypeId} {w : World} {lo g j : Nat} {v u : Value} {xs : List Int} (h : Own k e w lo v xs) (hne : v.ownBlock = none ∨ v.ownBlock ≠ some g) : Own k e (w.setCell ⟨g, j, none⟩ u) lo v xs :=
  h.other (grownBy_set w w g j u (World.grownBy.refl _ _)) hne

/-! ### the copies that the laws make -/
set_option maxHeartbeats 400000 in
set_option maxRecDepth 100000 in
theorem toWrite_any (w : World) (x : Int) (vd : Value) (xs : List Int) (h : Rd .u8 w vd xs) (hn : xs.length ≤ 1099511627776) :
    Calls Try.prog 93 #[.agg #[.int .i64 x, vd]] w fun e w' => ∃ v', e = .returned (.agg #[.int .i64 x, v']) ∧ Own .u8 5 w' w.heap.size v' xs ∧ Below w.heap.size w w' := by
  obtain ⟨ao, cap, rfl, k1, k2⟩ := h.len
  have HB : Hid (∀ o1 o2 o3, Below w.heap.size w (((w.alloc o1).alloc o2).alloc o3)) := fun o1 o2 o3 => (((Below.refl _ _).alloc (Nat.le_refl _) _).alloc (by simp) _).alloc (by simp; omega) _
  have HR : Hid (Rd .u8 w (.slice ao xs.length cap) xs) := h
  clear h
  go_enter Try.func93, Try.ntmps93
  go_wp2_with fail
  refine (toByteS_any _ _ xs (HR.out.below (HB.out _ _ _)) hn).mono ?_
  rintro e w1 ⟨v1, rfl, o1, b1⟩
  obtain ⟨a1, c1, rfl⟩ := o1.slice
  have c20 : w1.cell? ⟨w.heap.size + 2, 0, none⟩ = some (.int .i64 x) := (b1.cell (p := ⟨w.heap.size + 2, 0, none⟩) (by simp)).trans (by go_simp)
  have c21 : w1.cell? ⟨w.heap.size + 2, 1, none⟩ = some (.slice none 0 0) := (b1.cell (p := ⟨w.heap.size + 2, 1, none⟩) (by simp)).trans (by go_simp)
  have f21 : w1.frozen? ⟨w.heap.size + 2, 1, none⟩ = false := (b1.frozen (p := ⟨w.heap.size + 2, 1, none⟩) (by simp)).trans (by go_simp)
  have c10 : w1.cell? ⟨w.heap.size + 1, 0, none⟩ = some (.int .i64 0) := (b1.cell (p := ⟨w.heap.size + 1, 0, none⟩) (by simp)).trans (by go_simp)
  have c11 : w1.cell? ⟨w.heap.size + 1, 1, none⟩ = some (.slice none 0 0) := (b1.cell (p := ⟨w.heap.size + 1, 1, none⟩) (by simp)).trans (by go_simp)
  have f10 : w1.frozen? ⟨w.heap.size + 1, 0, none⟩ = false := (b1.frozen (p := ⟨w.heap.size + 1, 0, none⟩) (by simp)).trans (by go_simp)
  have f11 : w1.frozen? ⟨w.heap.size + 1, 1, none⟩ = false := (b1.frozen (p := ⟨w.heap.size + 1, 1, none⟩) (by simp)).trans (by go_simp)
  have O1 : Hid (Own .u8 5 w1 (w.heap.size + 3) (.slice a1 xs.length c1) xs) := by have := o1; simp at this; exact this
  have z1 : w.heap.size + 3 ≤ w1.heap.size := by have := b1.size; simp at this; omega
  have B1 : Hid (Below w.heap.size w w1) := (HB.out _ _ _).trans (b1.mono (by simp; omega))
  clear o1 b1
  go_wp2
  refine bodyPost_ret (v := .agg #[.int .i64 x, .slice a1 xs.length c1]) (by simp [results, Try.results93, go_sem, c10, c11]) rfl ⟨_, rfl, ?_, ?_⟩
  · refine Own.mono ?_ (show w.heap.size ≤ w.heap.size + 3 by omega)
    repeat (first | exact O1.out | refine Own.setBelow ?_ (by simp; try omega) _)
  · repeat (first | exact B1.out | refine Below.setCell ?_ (by simp; try omega) _)

end Go.Proofs.Ytplfpfnedgjidaa

namespace Go.Proofs.Ytplfpfnedgjidaa
open Go.RowKit

theorem Try.infoW : (Try.prog.info? 64).map (fun i => (i.zero, i.size, i.bytes)) = some (some (.agg #[.int .i64 0, .slice none 0 0]), 2, 32) := by kernel_rfl

/-- Of the first k records. -/
def pBk (ps : List (Int × List Int)) (k i : Nat) : Int := if i < k then pB ps i else 0
def dvk (dv : Nat → Value) (k i : Nat) : Value := if i < k then dv i else .slice none 0 0
def dvSet (dv : Nat → Value) (k : Nat) (v : Value) (i : Nat) : Value := if i = k then v else dv i

theorem rowW_step {n k : Nat} (ps : List (Int × List Int)) (dv : Nat → Value) (v : Value) (hk : k < n) :
    ((rowW n (pBk ps k) (dvk dv k)).set (k * 2) (.int .i64 (pB ps k))).set (k * 2 + 1) v = rowW n (pBk ps (k + 1)) (dvk (dvSet dv k v) (k + 1)) := by
  have h := rowW_set (n := n) (f := pBk ps k) (f' := pBk ps (k + 1)) (g := dvk dv k) (g' := dvk (dvSet dv k v) (k + 1)) hk
    (by intro i hi; unfold pBk; by_cases h : i < k
        · rw [if_pos h, if_pos (by omega)]
        · rw [if_neg h, if_neg (by omega)])
    (by intro i hi; unfold dvk dvSet; by_cases h : i < k
        · rw [if_pos h, if_pos (by omega), if_neg hi]
        · rw [if_neg h, if_neg (by omega)])
  rw [show pBk ps (k + 1) k = pB ps k from if_pos (by omega), show dvk (dvSet dv k v) (k + 1) k = v by unfold dvk dvSet; rw [if_pos (by omega), if_pos rfl]] at h
  exact h

theorem toWriteS_step {w2 w : World} {n k B lo : Nat} (ps : List (Int × List Int)) (dv : Nat → Value) {v : Value} (hk : k < n)
    (ho : w2.ownsRow lo 64 2 (.slice (some ⟨lo, 0, none⟩) n n) n (rowW n (pBk ps k) (dvk dv k))) (hB : lo < B)
    (h1 : ∀ i, i < k → Own .u8 5 w2 (lo + 1) (dv i) (pD ps i)) (h2 : ∀ i j, i < k → j < k → i ≠ j → Ne2 (dv i) (dv j)) (h3 : ∀ i, i < k → ∀ g, (dv i).ownBlock = some g → g < B)
    (h4 : Own .u8 5 w2 B v (pD ps k)) (hb : Below lo w w2) :
    ((w2.setCell ⟨lo, k * 2, none⟩ (.int .i64 (pB ps k))).setCell ⟨lo, k * 2 + 1, none⟩ v).ownsRow lo 64 2 (.slice (some ⟨lo, 0, none⟩) n n) n (rowW n (pBk ps (k + 1)) (dvk (dvSet dv k v) (k + 1))) ∧
    ((∀ i, i < k + 1 → Own .u8 5 ((w2.setCell ⟨lo, k * 2, none⟩ (.int .i64 (pB ps k))).setCell ⟨lo, k * 2 + 1, none⟩ v) (lo + 1) (dvSet dv k v i) (pD ps i)) ∧
      (∀ i j, i < k + 1 → j < k + 1 → i ≠ j → Ne2 (dvSet dv k v i) (dvSet dv k v j))) ∧
    Below lo w ((w2.setCell ⟨lo, k * 2, none⟩ (.int .i64 (pB ps k))).setCell ⟨lo, k * 2 + 1, none⟩ v) := by
  have ne : ∀ {x : Value} {q : List Int}, Own .u8 5 w2 (lo + 1) x q → x.ownBlock = none ∨ x.ownBlock ≠ some lo := by
    intro x q h
    cases hv : x.ownBlock with
    | none => exact .inl rfl
    | some g => exact .inr (fun e => by have := (h.lt g hv).1; simp at e; omega)
  refine ⟨?_, ⟨fun i hi => ?_, fun i j hi hj hne => ?_⟩, (hb.setCell (Nat.le_refl _) _).setCell (Nat.le_refl _) _⟩
  · have s1 := (World.ownsRow.stored ho (k * 2) (.int .i64 (pB ps k))).1
    have s2 := (World.ownsRow.stored s1 (k * 2 + 1) v).1
    rw [rowW_step ps dv v hk] at s2
    exact s2
  · unfold dvSet
    by_cases e : i = k
    · subst e
      rw [if_pos rfl]
      have h5 := h4.mono (show lo + 1 ≤ B by omega)
      exact (h5.setAt (ne h5)).setAt (ne h5)
    · rw [if_neg e]
      have h5 := h1 i (by omega)
      exact (h5.setAt (ne h5)).setAt (ne h5)
  · unfold dvSet Ne2
    by_cases ei : i = k
    · rw [if_pos ei, if_neg (show ¬ j = k by omega)]
      cases hv : v.ownBlock with
      | none => exact .inl rfl
      | some g => exact .inr (fun e => by have a := (h4.lt g hv).1; have b := h3 j (by omega) g e.symm; omega)
    · rw [if_neg ei]
      by_cases ej : j = k
      · rw [if_pos ej]
        cases hv : (dv i).ownBlock with
        | none => exact .inl rfl
        | some g => exact .inr (fun e => by have a := (h4.lt g e.symm).1; have b := h3 i (by omega) g hv; omega)
      · rw [if_neg ej]
        exact h2 i j (by omega) (by omega) hne

set_option maxHeartbeats 800000 in
set_option maxRecDepth 100000 in
theorem toWriteS_row (w : World) (b o n cap : Nat) (ps : List (Int × List Int)) (hp : ps.length = n) (hb : b < w.heap.size)
    (hc : ∀ i, i < n → w.cell? ⟨b, o + i * 2, none⟩ = some (.int .i64 (pB ps i)) ∧ ∃ da c, w.cell? ⟨b, o + i * 2 + 1, none⟩ = some (.slice da (pD ps i).length c) ∧ Rd .u8 w (.slice da (pD ps i).length c) (pD ps i))
    (hn : n ≤ 1048576) (hd : ∀ i, (pD ps i).length ≤ 1048576) :
    Calls Try.prog 68 #[.slice (some ⟨b, o, none⟩) n cap] w fun e w' => ∃ v' dv, e = .returned v' ∧ OwnW 64 w' w.heap.size v' ps dv ∧ Below w.heap.size w w' := by
  obtain ⟨i0, hi, hz0, hz1, hz2⟩ := info_parts Try.infoW
  have HC : Hid (∀ i, i < n → w.cell? ⟨b, o + i * 2, none⟩ = some (.int .i64 (pB ps i)) ∧ ∃ da c, w.cell? ⟨b, o + i * 2 + 1, none⟩ = some (.slice da (pD ps i).length c) ∧ Rd .u8 w (.slice da (pD ps i).length c) (pD ps i)) := hc
  have HP : Hid (ps.length = n) := hp
  have HD : Hid (∀ i, (pD ps i).length ≤ 1048576) := hd
  clear hc hp hd
  go_enter Try.func68, Try.ntmps68
  go_wp2_with (at_make; go_must (refine wpList_make_full _ rfl _ _ 36 rfl w.heap.size 64 i0 (.agg #[.int .i64 0, .slice none 0 0]) 2 Try.underlying36 hi hz0 hz1 _ _ _ _ n rfl rfl rfl rfl ?b2 ?b3 ?b4 ?_))
  case b2 => rw [hz2]; omega
  case b3 => unfold maxLen; omega
  case b4 => exact Nat.le_refl _
  intro w1 hown hgrow
  have HO : Hid (w1.ownsRow w.heap.size 64 2 (.slice (some ⟨w.heap.size, 0, none⟩) n n) n (rowW n (pBk ps 0) (dvk (fun _ => .slice none 0 0) 0))) := by
    have e : rowW n (pBk ps 0) (dvk (fun _ => .slice none 0 0) 0) = rowW n (fun _ => 0) (fun _ => .slice none 0 0) := rowW_congr (fun _ _ => rfl) (fun _ _ => rfl)
    show World.ownsRow _ _ _ _ _ _ _
    rw [e, ← rowW_zero]
    exact hown
  have HG : Hid (Below w.heap.size w w1) := (Below.refl _ _).grown hgrow (Nat.le_refl _) (by simp)
  have z1 : w.heap.size < w1.heap.size := by have := (World.ownsRow.lt HO.out w.heap.size rfl).2; exact this
  clear hown hgrow hi hz0 hz1 hz2
  go_wp2
  go_loopw [4] (fun i wr => ∃ (k : Nat) (dv : Nat → Value), k ≤ n ∧ i = .int .i64 k ∧ wr.ownsRow w.heap.size 64 2 (.slice (some ⟨w.heap.size, 0, none⟩) n n) n (rowW n (pBk ps k) (dvk dv k)) ∧
      Hid ((∀ i, i < k → Own .u8 5 wr (w.heap.size + 1) (dv i) (pD ps i)) ∧ (∀ i j, i < k → j < k → i ≠ j → Ne2 (dv i) (dv j))) ∧ Below w.heap.size w wr) (fun i _ => n - (intOf i).toNat)
  case atStart => exact ⟨0, fun _ => .slice none 0 0, Nat.zero_le _, rfl, HO.out, ⟨fun i hi => by omega, fun i j hi => by omega⟩, HG.out⟩
  case round =>
    obtain ⟨k, dv, hk, rfl, ho, HI, hg⟩ := hrel
    by_cases hlt : k < n
    · obtain ⟨c1, da, dc, c2, r⟩ := HC.out k hlt
      have hltI : (k : Int) < (n : Int) := by omega
      have c1' := (hg.cell (p := ⟨b, o + k * 2, none⟩) hb).trans c1
      have c2' := (hg.cell (p := ⟨b, o + k * 2 + 1, none⟩) hb).trans c2
      have HR : Hid (Rd .u8 wr (.slice da (pD ps k).length dc) (pD ps k)) := r.below hg
      have HGr : Hid (Below w.heap.size w wr) := hg
      have HOr : Hid (wr.ownsRow w.heap.size 64 2 (.slice (some ⟨w.heap.size, 0, none⟩) n n) n (rowW n (pBk ps k) (dvk dv k))) := ho
      have zr : w.heap.size < wr.heap.size := (World.ownsRow.lt ho w.heap.size rfl).2
      clear c1 c2 r hg ho
      go_wp2_with fail
      refine (toWrite_any _ _ _ (pD ps k) HR.out (by have := HD.out k; omega)).mono ?_
      rintro e w2 ⟨v2, rfl, o2, b2⟩
      obtain ⟨a2, cc2, rfl⟩ := o2.slice
      have O2 : Hid (Own .u8 5 w2 wr.heap.size (.slice a2 (pD ps k).length cc2) (pD ps k)) := o2
      have HO2 : w2.ownsRow w.heap.size 64 2 (.slice (some ⟨w.heap.size, 0, none⟩) n n) n (rowW n (pBk ps k) (dvk dv k)) :=
        World.ownsRow.kept HOr.out (row := none) ⟨b2.os, b2.tape, b2.output, b2.size, fun k hk _ => b2.block k hk⟩ (.inr (by simp [Value.ownBlock]))
      have f0 := World.ownsRow.frozenAt HO2 (k * 2)
      have f1 := World.ownsRow.frozenAt HO2 (k * 2 + 1)
      have d0 := (World.ownsRow.cellAt HO2 (k * 2) (by omega)).trans (rowW_get n _ _ (k * 2) (by omega))
      have d1 := (World.ownsRow.cellAt HO2 (k * 2 + 1) (by omega)).trans (rowW_get n _ _ (k * 2 + 1) (by omega))
      obtain ⟨x0, d0⟩ : ∃ x, w2.cell? ⟨w.heap.size, k * 2, none⟩ = some x := ⟨_, d0⟩
      obtain ⟨x1, d1⟩ : ∃ x, w2.cell? ⟨w.heap.size, k * 2 + 1, none⟩ = some x := ⟨_, d1⟩
      have HO3 : Hid (w2.ownsRow w.heap.size 64 2 (.slice (some ⟨w.heap.size, 0, none⟩) n n) n (rowW n (pBk ps k) (dvk dv k))) := HO2
      have HI2 : Hid ((∀ i, i < k → Own .u8 5 w2 (w.heap.size + 1) (dv i) (pD ps i)) ∧ (∀ i, i < k → ∀ g, (dv i).ownBlock = some g → g < wr.heap.size)) :=
        ⟨fun i hi => (HI.out.1 i hi).below b2, fun i hi g hg => ((HI.out.1 i hi).lt g hg).2⟩
      have HG2 : Hid (Below w.heap.size w w2) := HGr.out.trans (b2.mono HGr.out.size)
      clear o2 b2 HO2 c1' c2' HOr
      have S : Hid (((w2.setCell ⟨w.heap.size, k * 2, none⟩ (.int .i64 (pB ps k))).setCell ⟨w.heap.size, k * 2 + 1, none⟩ (.slice a2 (pD ps k).length cc2)).ownsRow w.heap.size 64 2 (.slice (some ⟨w.heap.size, 0, none⟩) n n) n (rowW n (pBk ps (k + 1)) (dvk (dvSet dv k (.slice a2 (pD ps k).length cc2)) (k + 1))) ∧
          ((∀ i, i < k + 1 → Own .u8 5 ((w2.setCell ⟨w.heap.size, k * 2, none⟩ (.int .i64 (pB ps k))).setCell ⟨w.heap.size, k * 2 + 1, none⟩ (.slice a2 (pD ps k).length cc2)) (w.heap.size + 1) (dvSet dv k (.slice a2 (pD ps k).length cc2) i) (pD ps i)) ∧
            (∀ i j, i < k + 1 → j < k + 1 → i ≠ j → Ne2 (dvSet dv k (.slice a2 (pD ps k).length cc2) i) (dvSet dv k (.slice a2 (pD ps k).length cc2) j))) ∧
          Below w.heap.size w ((w2.setCell ⟨w.heap.size, k * 2, none⟩ (.int .i64 (pB ps k))).setCell ⟨w.heap.size, k * 2 + 1, none⟩ (.slice a2 (pD ps k).length cc2))) :=
        toWriteS_step ps dv hlt HO3.out (by omega) HI2.out.1 HI.out.2 HI2.out.2 O2.out HG2.out
      clear HO3 HI2 HI O2 HG2
      go_wp2
      go_roundw
      case rel => exact ⟨k + 1, dvSet dv k (.slice a2 (pD ps k).length cc2), by omega, by go_num, S.out.1, S.out.2.1, S.out.2.2⟩
      case measure => simp [intOf]; omega
    · have hkn : k = n := by omega
      subst hkn
      go_wp2
      go_ret
      refine ⟨_, dv, rfl, ⟨?_, fun i hi => (HI.out.1 i (by rw [HP.out] at hi; exact hi)).mono (by omega), fun i j hi hj hne => HI.out.2 i j (by rw [HP.out] at hi; exact hi) (by rw [HP.out] at hj; exact hj) hne, fun i hi => ?_⟩, hg⟩
      · rw [HP.out]
        have e : rowW k (pBk ps k) (dvk dv k) = rowW k (pB ps) dv := rowW_congr (fun i hi => if_pos hi) (fun i hi => if_pos hi)
        rw [← e]
        exact ho
      · have h1 := HI.out.1 i (by rw [HP.out] at hi; exact hi)
        unfold Ne2
        cases hv : (dv i).ownBlock with
        | none => exact .inl rfl
        | some q => exact .inr (fun e => by have := (h1.lt q hv).1; simp [Value.ownBlock] at e; omega)

set_option maxHeartbeats 400000 in
theorem toWriteS_nil (w : World) (ao : Option Addr) (cap : Nat) :
    Calls Try.prog 68 #[.slice ao 0 cap] w fun e w' => ∃ v' dv, e = .returned v' ∧ OwnW 64 w' w.heap.size v' [] dv ∧ Below w.heap.size w w' := by
  obtain ⟨i0, hi, hz0, hz1, hz2⟩ := info_parts Try.infoW
  go_enter Try.func68, Try.ntmps68
  go_wp2_with (at_make; go_must (refine wpList_make_full _ rfl _ _ 36 rfl w.heap.size 64 i0 (.agg #[.int .i64 0, .slice none 0 0]) 2 Try.underlying36 hi hz0 hz1 _ _ _ _ 0 rfl rfl rfl rfl ?b2 ?b3 ?b4 ?_))
  case b2 => rw [hz2]; omega
  case b3 => unfold maxLen; omega
  case b4 => exact Nat.le_refl _
  intro w1 hown hgrow
  have HO : Hid (w1.ownsRow w.heap.size 64 2 (.slice (some ⟨w.heap.size, 0, none⟩) 0 0) 0 []) := by
    have e := rowW_zero 0
    rw [Nat.zero_mul] at e
    rw [e] at hown
    exact hown
  have HG : Hid (Below w.heap.size w w1) := (Below.refl _ _).grown hgrow (Nat.le_refl _) (by simp)
  clear hown hgrow
  go_wp2
  go_rounds 1
  go_ret
  exact ⟨_, fun _ => .slice none 0 0, rfl, ⟨HO.out, fun i hi => absurd hi (Nat.not_lt_zero _), fun i j hi => absurd hi (Nat.not_lt_zero _), fun i hi => absurd hi (Nat.not_lt_zero _)⟩, HG.out⟩

theorem toWriteS_any (w : World) (v : Value) (ps : List (Int × List Int)) (h : RdW w v ps) (hn : ps.length ≤ 1048576) (hd : ∀ i, (pD ps i).length ≤ 1048576) :
    Calls Try.prog 68 #[v] w fun e w' => ∃ v' dv, e = .returned v' ∧ OwnW 64 w' w.heap.size v' ps dv ∧ Below w.heap.size w w' := by
  obtain ⟨ao, cap, rfl, k1, k2, k3⟩ := h
  rcases k3 with rfl | ⟨b, o, rfl, hb, hc⟩
  · exact toWriteS_nil w ao cap
  · exact toWriteS_row w b o ps.length cap ps rfl hb hc hn hd

theorem OwnW.slice {e : TypeId} {w : World} {lo : Nat} {v : Value} {ps : List (Int × List Int)} {dv : Nat → Value} (h : OwnW e w lo v ps dv) : ∃ a c, v = .slice a ps.length c := by
  obtain ⟨a, c, h0, _⟩ := h.rd.len
  exact ⟨a, c, h0⟩

theorem OwnW.setBelow {e : TypeId} {w : World} {lo : Nat} {v : Value} {ps : List (Int × List Int)} {dv : Nat → Value} (h : OwnW e w lo v ps dv) {a : Addr} (ha : a.block < lo) (u : Value) : OwnW e (w.setCell a u) lo v ps dv :=
  ⟨ownsRow_setCell_below h.1 ha u, fun i hi => (h.2.1 i hi).setBelow ha u, h.2.2⟩

set_option maxHeartbeats 800000 in
set_option maxRecDepth 100000 in
theorem toDisk_any (w : World) (vd vp : Value) (dur : List Int) (ps : List (Int × List Int)) (h : Rd .u8 w vd dur) (hp : RdW w vp ps) (hl : dur.length ≤ 1048576) (hn : ps.length ≤ 1048576) (hd : ∀ i, (pD ps i).length ≤ 1048576) :
    Calls Try.prog 37 #[.agg #[vd, vp]] w fun e w' => ∃ va ca vb cb dv mid, e = .returned (.agg #[.slice va dur.length ca, .slice vb ps.length cb]) ∧ Own .u8 5 w' w.heap.size (.slice va dur.length ca) dur ∧
      (∀ g, Value.ownBlock (.slice va dur.length ca) = some g → g < mid) ∧ OwnW 64 w' mid (.slice vb ps.length cb) ps dv ∧ w.heap.size ≤ mid ∧ Below w.heap.size w w' := by
  obtain ⟨ao, cap, rfl, k1, k2⟩ := h.len
  obtain ⟨bo, capb, rfl, k3, k4⟩ := hp.len
  have HB : Hid (∀ o1 o2 o3, Below w.heap.size w (((w.alloc o1).alloc o2).alloc o3)) := fun o1 o2 o3 => (((Below.refl _ _).alloc (Nat.le_refl _) _).alloc (by simp) _).alloc (by simp; omega) _
  have HR : Hid (Rd .u8 w (.slice ao dur.length cap) dur) := h
  have HP : Hid (RdW w (.slice bo ps.length capb) ps) := hp
  clear h hp
  go_enter Try.func37, Try.ntmps37
  go_wp2_with fail
  refine (toByteS_any _ _ dur (HR.out.below (HB.out _ _ _)) (by omega)).mono ?_
  rintro e w1 ⟨v1, rfl, o1, b1⟩
  obtain ⟨a1, c1, rfl⟩ := o1.slice
  have cA1 : w1.cell? ⟨w.heap.size, 1, none⟩ = some (.slice bo ps.length capb) := (b1.cell (p := ⟨w.heap.size, 1, none⟩) (by simp; omega)).trans (by go_simp)
  have cR0 : w1.cell? ⟨w.heap.size + 1, 0, none⟩ = some (.slice none 0 0) := (b1.cell (p := ⟨w.heap.size + 1, 0, none⟩) (by simp)).trans (by go_simp)
  have cR1 : w1.cell? ⟨w.heap.size + 1, 1, none⟩ = some (.slice none 0 0) := (b1.cell (p := ⟨w.heap.size + 1, 1, none⟩) (by simp)).trans (by go_simp)
  have fR0 : w1.frozen? ⟨w.heap.size + 1, 0, none⟩ = false := (b1.frozen (p := ⟨w.heap.size + 1, 0, none⟩) (by simp)).trans (by go_simp)
  have fR1 : w1.frozen? ⟨w.heap.size + 1, 1, none⟩ = false := (b1.frozen (p := ⟨w.heap.size + 1, 1, none⟩) (by simp)).trans (by go_simp)
  have cO0 : w1.cell? ⟨w.heap.size + 2, 0, none⟩ = some (.slice none 0 0) := (b1.cell (p := ⟨w.heap.size + 2, 0, none⟩) (by simp)).trans (by go_simp)
  have cO1 : w1.cell? ⟨w.heap.size + 2, 1, none⟩ = some (.slice none 0 0) := (b1.cell (p := ⟨w.heap.size + 2, 1, none⟩) (by simp)).trans (by go_simp)
  have fO0 : w1.frozen? ⟨w.heap.size + 2, 0, none⟩ = false := (b1.frozen (p := ⟨w.heap.size + 2, 0, none⟩) (by simp)).trans (by go_simp)
  have fO1 : w1.frozen? ⟨w.heap.size + 2, 1, none⟩ = false := (b1.frozen (p := ⟨w.heap.size + 2, 1, none⟩) (by simp)).trans (by go_simp)
  have O1 : Hid (Own .u8 5 w1 (w.heap.size + 3) (.slice a1 dur.length c1) dur) := by have := o1; simp at this; exact this
  have z1 : w.heap.size + 3 ≤ w1.heap.size := by have := b1.size; simp at this; omega
  have B1 : Hid (Below w.heap.size w w1) := (HB.out _ _ _).trans (b1.mono (by simp; omega))
  clear o1 b1
  go_wp2_with fail
  have BS : Hid (Below w.heap.size w (w1.setCell ⟨w.heap.size + 2, 0, none⟩ (.slice a1 dur.length c1))) := B1.out.setCell (by simp) _
  have OS : Hid (Own .u8 5 (w1.setCell ⟨w.heap.size + 2, 0, none⟩ (.slice a1 dur.length c1)) (w.heap.size + 3) (.slice a1 dur.length c1) dur) := O1.out.setBelow (by simp) _
  have zS : (w1.setCell ⟨w.heap.size + 2, 0, none⟩ (.slice a1 dur.length c1)).heap.size = w1.heap.size := by simp
  have sR0 : (w1.setCell ⟨w.heap.size + 2, 0, none⟩ (.slice a1 dur.length c1)).cell? ⟨w.heap.size + 1, 0, none⟩ = some (.slice none 0 0) := by go_simp
  have sR1 : (w1.setCell ⟨w.heap.size + 2, 0, none⟩ (.slice a1 dur.length c1)).cell? ⟨w.heap.size + 1, 1, none⟩ = some (.slice none 0 0) := by go_simp
  have sO0 : (w1.setCell ⟨w.heap.size + 2, 0, none⟩ (.slice a1 dur.length c1)).cell? ⟨w.heap.size + 2, 0, none⟩ = some (.slice a1 dur.length c1) := by go_simp
  have sO1 : (w1.setCell ⟨w.heap.size + 2, 0, none⟩ (.slice a1 dur.length c1)).cell? ⟨w.heap.size + 2, 1, none⟩ = some (.slice none 0 0) := by go_simp
  have gR0 : (w1.setCell ⟨w.heap.size + 2, 0, none⟩ (.slice a1 dur.length c1)).frozen? ⟨w.heap.size + 1, 0, none⟩ = false := by go_simp
  have gR1 : (w1.setCell ⟨w.heap.size + 2, 0, none⟩ (.slice a1 dur.length c1)).frozen? ⟨w.heap.size + 1, 1, none⟩ = false := by go_simp
  have gO1 : (w1.setCell ⟨w.heap.size + 2, 0, none⟩ (.slice a1 dur.length c1)).frozen? ⟨w.heap.size + 2, 1, none⟩ = false := by go_simp
  generalize w1.setCell ⟨w.heap.size + 2, 0, none⟩ (.slice a1 dur.length c1) = ws at *
  refine (toWriteS_any _ _ ps (HP.out.below BS.out) hn hd).mono ?_
  rintro e w2 ⟨v2, dv, rfl, o2, b2⟩
  obtain ⟨a2, c2, rfl⟩ := o2.slice
  have z2 := b2.size
  have tR0 := (b2.cell (p := ⟨w.heap.size + 1, 0, none⟩) (by simp; omega)).trans sR0
  have tR1 := (b2.cell (p := ⟨w.heap.size + 1, 1, none⟩) (by simp; omega)).trans sR1
  have tO0 := (b2.cell (p := ⟨w.heap.size + 2, 0, none⟩) (by simp; omega)).trans sO0
  have tO1 := (b2.cell (p := ⟨w.heap.size + 2, 1, none⟩) (by simp; omega)).trans sO1
  have hR0 := (b2.frozen (p := ⟨w.heap.size + 1, 0, none⟩) (by simp; omega)).trans gR0
  have hR1 := (b2.frozen (p := ⟨w.heap.size + 1, 1, none⟩) (by simp; omega)).trans gR1
  have hO1 := (b2.frozen (p := ⟨w.heap.size + 2, 1, none⟩) (by simp; omega)).trans gO1
  have OD : Hid (Own .u8 5 w2 (w.heap.size + 3) (.slice a1 dur.length c1) dur) := OS.out.below b2
  have LT : Hid (∀ g, Value.ownBlock (.slice a1 dur.length c1) = some g → g < ws.heap.size) := fun g hg => (OS.out.lt g hg).2
  have OP : Hid (OwnW 64 w2 ws.heap.size (.slice a2 ps.length c2) ps dv) := o2
  have B2 : Hid (Below w.heap.size w w2) := BS.out.trans (b2.mono BS.out.size)
  clear o2 b2 sR0 sR1 sO0 sO1 gR0 gR1 gO1 cA1 cR0 cR1 fR0 fR1 cO0 cO1 fO0 fO1 OS O1 BS
  go_wp2
  refine bodyPost_ret (v := .agg #[.slice a1 dur.length c1, .slice a2 ps.length c2]) (by simp [results, Try.results37, go_sem, tR0, tR1]) rfl ⟨a1, c1, a2, c2, dv, ws.heap.size, rfl, ?_, LT.out, ?_, by omega, ?_⟩
  · refine Own.mono ?_ (show w.heap.size ≤ w.heap.size + 3 by omega)
    repeat (first | exact OD.out | refine Own.setBelow ?_ (by simp; try omega) _)
  · repeat (first | exact OP.out | refine OwnW.setBelow ?_ (by simp; omega) _)
  · repeat (first | exact B2.out | refine Below.setCell ?_ (by simp; try omega) _)

end Go.Proofs.Ytplfpfnedgjidaa

namespace Go.Proofs.Ytplfpfnedgjidaa
open Go.RowKit

/-- Record i is one of the disk. -/
def okP (n : Nat) (ps : List (Int × List Int)) (i : Nat) : Prop := 0 ≤ pB ps i ∧ pB ps i < n ∧ (pD ps i).length = 64
def vldP (dl : Nat) (ps : List (Int × List Int)) : Prop := dl % 64 = 0 ∧ 1 ≤ dl / 64 ∧ dl / 64 ≤ 300 ∧ ps.length ≤ 2000 ∧ ∀ i, i < ps.length → okP (dl / 64) ps i
def okB (n : Nat) (ps : List (Int × List Int)) (i : Nat) : Bool := decide (0 ≤ pB ps i) && decide (pB ps i < n) && decide ((pD ps i).length = 64)
theorem okB_iff (n : Nat) (ps : List (Int × List Int)) (i : Nat) : okB n ps i = true ↔ okP n ps i := by unfold okB okP; simp [and_assoc]
def vldD (dl : Nat) (ps : List (Int × List Int)) : Bool := decide (dl % 64 = 0) && decide (1 ≤ dl / 64) && decide (dl / 64 ≤ 300) && decide (ps.length ≤ 2000) && (List.range ps.length).all (okB (dl / 64) ps)
theorem vldD_iff (dl : Nat) (ps : List (Int × List Int)) : vldD dl ps = true ↔ vldP dl ps := by
  unfold vldD vldP
  simp only [Bool.and_eq_true, decide_eq_true_eq, List.all_eq_true, List.mem_range, okB_iff, and_assoc]
theorem vldD_yes {dl : Nat} {ps : List (Int × List Int)} (h : vldP dl ps) : vldD dl ps = true := (vldD_iff dl ps).2 h
theorem vldD_no {dl : Nat} {ps : List (Int × List Int)} (h : ¬ vldP dl ps) : vldD dl ps = false := by
  cases e : vldD dl ps with
  | false => rfl
  | true => exact absurd ((vldD_iff dl ps).1 e) h

set_option maxHeartbeats 400000 in
theorem l1Blocks_any (w : World) (ao : Option Addr) (n cap : Nat) (vp : Value) (hn : n ≤ 1048576) :
    Calls Try.prog 67 #[.agg #[.slice ao n cap, vp]] w fun e w' => e = .returned (.int .i64 ((n / 64 : Nat) : Int)) ∧ Below w.heap.size w w' := by
  go_enter Try.func67, Try.ntmps67
  go_wp2
  go_ret
  exact ⟨ret_int (by omega), (Below.refl _ _).alloc (Nat.le_refl _) _⟩

set_option maxHeartbeats 400000 in
theorem blockCount_any (w : World) (ao : Option Addr) (n cap : Nat) (vp : Value) (hn : n ≤ 1048576) :
    Calls Try.prog 69 #[.agg #[.slice ao n cap, vp]] w fun e w' => e = .returned (.int .i64 ((n / 64 : Nat) : Int)) ∧ Below w.heap.size w w' := by
  go_enter Try.func69, Try.ntmps69
  go_wp2
  go_ret
  exact ⟨ret_int (by omega), (Below.refl _ _).alloc (Nat.le_refl _) _⟩

set_option maxHeartbeats 400000 in
theorem hasBlock_any (w : World) (ao : Option Addr) (n cap : Nat) (vp : Value) (x : Int) (hn : n ≤ 1048576) :
    Calls Try.prog 70 #[.agg #[.slice ao n cap, vp], .int .i64 x] w fun e w' => e = .returned (.bool (decide (0 ≤ x ∧ x < (n / 64 : Nat)))) ∧ Below w.heap.size w w' := by
  have B0 : Hid (Below w.heap.size w (w.alloc (.cells #[.slice ao n cap, vp] 38))) := (Below.refl _ _).alloc (Nat.le_refl _) _
  by_cases h0 : 0 ≤ x
  · go_enter Try.func70, Try.ntmps70
    go_wp2_with fail
    refine (blockCount_any _ ao n cap vp hn).mono ?_
    rintro e w1 ⟨rfl, b1⟩
    have B1 : Hid (Below w.heap.size w w1) := B0.out.trans (b1.mono (by simp))
    clear b1
    generalize hm : n / 64 = m at *
    have HM : Hid (n / 64 = m) := hm
    clear hm
    by_cases h1 : x < (m : Int)
    · go_wp2
      go_ret
      exact ⟨ret_bool (by have := HM.out; symm; rw [decide_eq_true_eq]; omega), B1.out⟩
    · go_wp2
      go_ret
      exact ⟨ret_bool (by have := HM.out; symm; rw [decide_eq_decide]; omega), B1.out⟩
  · have hd : decide (0 ≤ x) = false := by simpa using h0
    go_enter Try.func70, Try.ntmps70
    go_wp2
    go_ret
    exact ⟨ret_bool (by symm; first | rfl | (rw [decide_eq_false_iff_not]; omega)), B0.out⟩

/-- The cells of a slice of records. -/
def CellsW (w : World) (b o n : Nat) (ps : List (Int × List Int)) : Prop :=
  ∀ i, i < n → w.cell? ⟨b, o + i * 2, none⟩ = some (.int .i64 (pB ps i)) ∧ ∃ da c, w.cell? ⟨b, o + i * 2 + 1, none⟩ = some (.slice da (pD ps i).length c)

theorem RdW.cells {w : World} {ao : Option Addr} {n cap : Nat} {ps : List (Int × List Int)} (h : RdW w (.slice ao n cap) ps) (hn : 0 < n) : ∃ b o, ao = some ⟨b, o, none⟩ ∧ b < w.heap.size ∧ CellsW w b o n ps ∧ ps.length = n := by
  obtain ⟨ao', cap', e, h1, h2, h3⟩ := h
  simp only [Value.slice.injEq] at e
  obtain ⟨rfl, rfl, rfl⟩ := e
  rcases h3 with rfl | ⟨b, o, rfl, hb, hc⟩
  · simp at hn
  · exact ⟨b, o, rfl, hb, fun i hi => ⟨(hc i hi).1, by obtain ⟨da, c, h, _⟩ := (hc i hi).2; exact ⟨da, c, h⟩⟩, rfl⟩

theorem CellsW.below {w w' : World} {b o n : Nat} {ps : List (Int × List Int)} (h : CellsW w b o n ps) (hb : b < w.heap.size) (hB : Below w.heap.size w w') : CellsW w' b o n ps :=
  fun i hi => ⟨(hB.cell (p := ⟨b, _, none⟩) hb).trans (h i hi).1, by obtain ⟨da, c, e⟩ := (h i hi).2; exact ⟨da, c, (hB.cell (p := ⟨b, _, none⟩) hb).trans e⟩⟩

set_option maxHeartbeats 1000000 in
set_option maxRecDepth 100000 in
theorem specValid_loop (w : World) (va vb : Option Addr) (dl ca n cb : Nat) (ps : List (Int × List Int)) (hp : RdW w (.slice vb n cb) ps) (hl : ps.length = n) (hd : dl ≤ 1048576)
    (h1 : dl % 64 = 0) (h2 : 1 ≤ dl / 64) (h3 : dl / 64 ≤ 300) (h4 : n ≤ 2000) (hdl : ∀ i, (pD ps i).length ≤ 1048576) :
    Calls Try.prog 36 #[.agg #[.slice va dl ca, .slice vb n cb]] w fun e w' => e = .returned (.bool (vldD dl ps)) ∧ Below w.heap.size w w' := by
  have B0 : Hid (Below w.heap.size w (w.alloc (.cells #[.slice va dl ca, .slice vb n cb] 38))) := (Below.refl _ _).alloc (Nat.le_refl _) _
  have HP : Hid (RdW w (.slice vb n cb) ps) := hp
  have HL : Hid (ps.length = n) := hl
  have HDL : Hid (∀ i, (pD ps i).length ≤ 1048576) := hdl
  clear hp hl hdl
  go_enter Try.func36, Try.ntmps36
  go_wp2_with fail
  refine (l1Blocks_any _ va dl ca _ hd).mono ?_
  rintro e w1 ⟨rfl, b1⟩
  obtain ⟨c0, c1, _, _, z1⟩ := box2_later b1
  have B1 : Hid (Below w.heap.size w w1) := B0.out.trans (b1.mono (by simp))
  have t1 : (((dl : Int) % 64) != 0) = false := by rw [bne_eq_false_iff_eq]; omega
  have H1 : Hid (dl % 64 = 0) := h1
  clear b1 h1
  generalize hm : dl / 64 = m at *
  have HM : Hid (dl / 64 = m) := hm
  have t2 : ¬ (m : Int) < 1 := by omega
  have t3 : ¬ (300 : Int) < (m : Int) := by omega
  have t4 : ¬ (2000 : Int) < (n : Int) := by omega
  clear hm
  go_wp2
  go_loop [4] (fun i => ∃ k : Nat, k ≤ n ∧ i = .int .i64 k ∧ Hid (∀ i, i < k → okP m ps i)) (fun i => n - (intOf i).toNat)
  case atStart => exact ⟨0, Nat.zero_le _, rfl, fun i hi => by omega⟩
  case round =>
    obtain ⟨k, hk, rfl, HOK⟩ := hrel
    by_cases hlt : k < n
    · obtain ⟨b, o, rfl, hb, hc, _⟩ := HP.out.cells (by omega)
      obtain ⟨e1, da, dc, e2⟩ := (hc.below hb B1.out) k hlt
      have hltI : (k : Int) < (n : Int) := by omega
      have hdk := HDL.out k
      by_cases hok : okP m ps k
      · have HK : Hid (okP m ps k) := hok
        obtain ⟨q1, q2, q3⟩ := hok
        have q4 : (((pD ps k).length : Int) != 64) = false := by rw [bne_eq_false_iff_eq]; omega
        have q5 : ¬ pB ps k < 0 := by omega
        have q6 : ¬ (m : Int) ≤ pB ps k := by omega
        clear q1 q2 q3 hc
        go_wp2
        go_round
        case rel => exact ⟨k + 1, by omega, by go_num, fun i hi => by by_cases e : i = k; (subst e; exact HK.out); exact HOK.out i (by omega)⟩
        case measure => simp [intOf]; omega
      · have HN : Hid (vldD dl ps = false) := vldD_no (by rintro ⟨_, _, _, _, h5⟩; rw [HM.out] at h5; exact hok (h5 k (by rw [HL.out]; exact hlt)))
        clear hc
        by_cases q1 : pB ps k < 0
        · go_wp2
          go_ret
          exact ⟨ret_bool HN.out.symm, B1.out⟩
        · by_cases q2 : (m : Int) ≤ pB ps k
          · go_wp2
            go_ret
            exact ⟨ret_bool HN.out.symm, B1.out⟩
          · have q3 : (((pD ps k).length : Int) != 64) = true := by rw [bne_iff_ne]; intro e; exact hok ⟨by omega, by omega, by omega⟩
            clear hok
            go_wp2
            go_ret
            exact ⟨ret_bool HN.out.symm, B1.out⟩
    · have HY : Hid (vldD dl ps = true) := vldD_yes ⟨H1.out, by rw [HM.out]; omega, by rw [HM.out]; omega, by rw [HL.out]; omega, fun i hi => by rw [HM.out]; exact HOK.out i (by rw [HL.out] at hi; omega)⟩
      have hltI : ¬ (k : Int) < (n : Int) := by omega
      go_wp2
      go_ret
      exact ⟨ret_bool HY.out.symm, B1.out⟩

set_option maxHeartbeats 1000000 in
set_option maxRecDepth 100000 in
theorem specValid_head (w : World) (va vb : Option Addr) (dl ca n cb : Nat) (hd : dl ≤ 1048576) (hn : n ≤ 1048576) (h : ¬ (dl % 64 = 0 ∧ 1 ≤ dl / 64 ∧ dl / 64 ≤ 300 ∧ n ≤ 2000)) :
    Calls Try.prog 36 #[.agg #[.slice va dl ca, .slice vb n cb]] w fun e w' => e = .returned (.bool false) ∧ Below w.heap.size w w' := by
  have B0 : Hid (Below w.heap.size w (w.alloc (.cells #[.slice va dl ca, .slice vb n cb] 38))) := (Below.refl _ _).alloc (Nat.le_refl _) _
  go_enter Try.func36, Try.ntmps36
  go_wp2_with fail
  refine (l1Blocks_any _ va dl ca _ hd).mono ?_
  rintro e w1 ⟨rfl, b1⟩
  obtain ⟨c0, c1, _, _, z1⟩ := box2_later b1
  have B1 : Hid (Below w.heap.size w w1) := B0.out.trans (b1.mono (by simp))
  clear b1
  by_cases h1 : dl % 64 = 0
  · have t1 : (((dl : Int) % 64) != 0) = false := by rw [bne_eq_false_iff_eq]; omega
    generalize dl / 64 = m at *
    have H1 : Hid (dl % 64 = 0) := h1
    clear h1
    by_cases h2 : (m : Int) < 1
    · go_wp2
      go_ret
      exact ⟨rfl, B1.out⟩
    · by_cases h3 : (300 : Int) < (m : Int)
      · go_wp2
        go_ret
        exact ⟨rfl, B1.out⟩
      · have h4 : (2000 : Int) < (n : Int) := by have := H1.out; omega
        clear h
        go_wp2
        go_ret
        exact ⟨rfl, B1.out⟩
  · have t1 : (((dl : Int) % 64) != 0) = true := by rw [bne_iff_ne]; omega
    generalize dl / 64 = m at *
    clear h1 h
    go_wp2
    go_ret
    exact ⟨rfl, B1.out⟩

theorem specValid_any (w : World) (va vb : Option Addr) (dl ca n cb : Nat) (ps : List (Int × List Int)) (hp : RdW w (.slice vb n cb) ps) (hl : ps.length = n) (hd : dl ≤ 1048576) (hn : n ≤ 1048576) (hdl : ∀ i, (pD ps i).length ≤ 1048576) :
    Calls Try.prog 36 #[.agg #[.slice va dl ca, .slice vb n cb]] w fun e w' => e = .returned (.bool (vldD dl ps)) ∧ Below w.heap.size w w' := by
  by_cases h : dl % 64 = 0 ∧ 1 ≤ dl / 64 ∧ dl / 64 ≤ 300 ∧ n ≤ 2000
  · exact specValid_loop w va vb dl ca n cb ps hp hl hd h.1 h.2.1 h.2.2.1 h.2.2.2 hdl
  · rw [vldD_no (fun h5 => h ⟨h5.1, h5.2.1, h5.2.2.1, by have := h5.2.2.2.1; omega⟩)]
    exact specValid_head w va vb dl ca n cb hd hn h

set_option maxHeartbeats 1000000 in
set_option maxRecDepth 100000 in
theorem implValid_head (w : World) (va vb : Option Addr) (dl ca n cb : Nat) (hd : dl ≤ 1048576) (hn : n ≤ 1048576) (h : ¬ (dl % 64 = 0 ∧ 1 ≤ dl / 64 ∧ dl / 64 ≤ 300 ∧ n ≤ 2000)) :
    Calls Try.prog 38 #[.agg #[.slice va dl ca, .slice vb n cb]] w fun e w' => e = .returned (.bool false) ∧ Below w.heap.size w w' := by
  have B0 : Hid (Below w.heap.size w (w.alloc (.cells #[.slice va dl ca, .slice vb n cb] 38))) := (Below.refl _ _).alloc (Nat.le_refl _) _
  by_cases h1 : dl % 64 = 0
  · have t1 : (((dl : Int) % 64) != 0) = false := by rw [bne_eq_false_iff_eq]; omega
    have HX : Hid (¬ (dl % 64 = 0 ∧ 1 ≤ dl / 64 ∧ dl / 64 ≤ 300 ∧ n ≤ 2000)) := h
    have H1 : Hid (dl % 64 = 0) := h1
    clear h h1
    go_enter Try.func38, Try.ntmps38
    go_wp2_with fail
    refine (blockCount_any _ va dl ca _ hd).mono ?_
    rintro e w1 ⟨rfl, b1⟩
    obtain ⟨c0, c1, _, _, z1⟩ := box2_later b1
    have B1 : Hid (Below w.heap.size w w1) := B0.out.trans (b1.mono (by simp))
    have h := HX.out
    have h1 := H1.out
    clear b1
    generalize dl / 64 = m at *
    by_cases h2 : (m : Int) < 1
    · clear h h1
      go_wp2
      go_ret
      exact ⟨rfl, B1.out⟩
    · by_cases h3 : (300 : Int) < (m : Int)
      · clear h h1
        go_wp2
        go_ret
        exact ⟨rfl, B1.out⟩
      · have h4 : (2000 : Int) < (n : Int) := by omega
        clear h h1
        go_wp2
        go_ret
        exact ⟨rfl, B1.out⟩
  · have t1 : (((dl : Int) % 64) != 0) = true := by rw [bne_iff_ne]; omega
    clear h1 h
    go_enter Try.func38, Try.ntmps38
    go_wp2
    go_ret
    exact ⟨rfl, B0.out⟩

set_option maxHeartbeats 1000000 in
set_option maxRecDepth 100000 in
theorem implValid_loop (w : World) (va vb : Option Addr) (dl ca n cb : Nat) (ps : List (Int × List Int)) (hp : RdW w (.slice vb n cb) ps) (hl : ps.length = n) (hd : dl ≤ 1048576)
    (h1 : dl % 64 = 0) (h2 : 1 ≤ dl / 64) (h3 : dl / 64 ≤ 300) (h4 : n ≤ 2000) (hdl : ∀ i, (pD ps i).length ≤ 1048576) :
    Calls Try.prog 38 #[.agg #[.slice va dl ca, .slice vb n cb]] w fun e w' => e = .returned (.bool (vldD dl ps)) ∧ Below w.heap.size w w' := by
  have B0 : Hid (Below w.heap.size w (w.alloc (.cells #[.slice va dl ca, .slice vb n cb] 38))) := (Below.refl _ _).alloc (Nat.le_refl _) _
  have HP : Hid (RdW w (.slice vb n cb) ps) := hp
  have HL : Hid (ps.length = n) := hl
  have HDL : Hid (∀ i, (pD ps i).length ≤ 1048576) := hdl
  have H1 : Hid (dl % 64 = 0) := h1
  have H2 : Hid (1 ≤ dl / 64 ∧ dl / 64 ≤ 300) := ⟨h2, h3⟩
  have t1 : (((dl : Int) % 64) != 0) = false := by rw [bne_eq_false_iff_eq]; omega
  clear hp hl hdl h1 h2 h3
  go_enter Try.func38, Try.ntmps38
  go_wp2_with fail
  refine (blockCount_any _ va dl ca _ hd).mono ?_
  rintro e w1 ⟨rfl, b1⟩
  have X1 : Hid (Box2 w1 w.heap.size (.slice va dl ca) (.slice vb n cb)) := (Box2.new w _ _ _).below b1
  have B1 : Hid (Below w.heap.size w w1) := B0.out.trans (b1.mono (by simp))
  clear b1
  have h2 := H2.out
  generalize hm : dl / 64 = m at *
  have HM : Hid (dl / 64 = m) := hm
  have t2 : ¬ (m : Int) < 1 := by omega
  have t3 : ¬ (300 : Int) < (m : Int) := by omega
  have t4 : ¬ (2000 : Int) < (n : Int) := by omega
  clear hm h2
  obtain ⟨z1, c0, c1⟩ := X1.out
  go_wp2
  clear c0 c1 z1
  go_loopw [28] (fun i wr => ∃ k : Nat, k ≤ n ∧ i = .int .i64 k ∧ Hid (∀ i, i < k → okP m ps i) ∧ Hid (Box2 wr w.heap.size (.slice va dl ca) (.slice vb n cb)) ∧ Below w.heap.size w wr) (fun i _ => n - (intOf i).toNat)
  case atStart => exact ⟨0, Nat.zero_le _, rfl, fun i hi => by omega, X1, B1.out⟩
  case round =>
    clear X1 B1
    obtain ⟨k, hk, rfl, HOK, HX, hg⟩ := hrel
    by_cases hlt : k < n
    · obtain ⟨b, o, rfl, hb, hc, _⟩ := HP.out.cells (by omega)
      obtain ⟨e1, da, dc, e2⟩ := (hc.below hb hg) k hlt
      have hltI : (k : Int) < (n : Int) := by omega
      have hdk := HDL.out k
      obtain ⟨z1, c0, c1⟩ := HX.out
      have HG : Hid (Below w.heap.size w wr) := hg
      clear hg hc
      go_wp2_with fail
      have BA : Hid (Below w.heap.size w (wr.alloc (.cells #[.int .i64 (pB ps k), .slice da (pD ps k).length dc] 64))) := HG.out.alloc HG.out.size _
      have XA : Hid (Box2 (wr.alloc (.cells #[.int .i64 (pB ps k), .slice da (pD ps k).length dc] 64)) w.heap.size (.slice va dl ca) (.slice (some ⟨b, o, none⟩) n cb)) := HX.out.below ((Below.refl _ _).alloc (Nat.le_refl _) _)
      have XB : Hid (Box2 (wr.alloc (.cells #[.int .i64 (pB ps k), .slice da (pD ps k).length dc] 64)) wr.heap.size (.int .i64 (pB ps k)) (.slice da (pD ps k).length dc)) := Box2.new _ _ _ _
      generalize wr.alloc (.cells #[.int .i64 (pB ps k), .slice da (pD ps k).length dc] 64) = wa at *
      refine (hasBlock_any _ va dl ca _ (pB ps k) hd).mono ?_
      rintro e w2 ⟨rfl, b2⟩
      rw [HM.out]
      have X2 : Hid (Box2 w2 w.heap.size (.slice va dl ca) (.slice (some ⟨b, o, none⟩) n cb)) := XA.out.below b2
      have XC : Hid (Box2 w2 wr.heap.size (.int .i64 (pB ps k)) (.slice da (pD ps k).length dc)) := XB.out.below b2
      have B2 : Hid (Below w.heap.size w w2) := BA.out.trans (b2.mono BA.out.size)
      obtain ⟨_, d0, d1⟩ := XC.out
      clear b2 c0 c1 z1 e1 e2 HX
      by_cases hok : okP m ps k
      · have HK : Hid (okP m ps k) := hok
        obtain ⟨q1, q2, q3⟩ := hok
        have q4 : (((pD ps k).length : Int) != 64) = false := by rw [bne_eq_false_iff_eq]; omega
        rw [show decide (0 ≤ pB ps k ∧ pB ps k < (m : Int)) = true by rw [decide_eq_true_eq]; omega]
        clear q1 q2 q3
        go_wp2
        go_roundw
        case rel => exact ⟨k + 1, by omega, by go_num, (fun i hi => by by_cases e : i = k; (subst e; exact HK.out); exact HOK.out i (by omega)), X2, B2.out⟩
        case measure => simp [intOf]; omega
      · have HN : Hid (vldD dl ps = false) := vldD_no (by rintro ⟨_, _, _, _, h5⟩; rw [HM.out] at h5; exact hok (h5 k (by rw [HL.out]; exact hlt)))
        by_cases q1 : 0 ≤ pB ps k ∧ pB ps k < (m : Int)
        · rw [show decide (0 ≤ pB ps k ∧ pB ps k < (m : Int)) = true by rw [decide_eq_true_eq]; exact q1]
          have q3 : (((pD ps k).length : Int) != 64) = true := by rw [bne_iff_ne]; intro e; exact hok ⟨q1.1, q1.2, by omega⟩
          clear hok q1
          go_wp2
          go_ret
          exact ⟨ret_bool HN.out.symm, B2.out⟩
        · rw [show decide (0 ≤ pB ps k ∧ pB ps k < (m : Int)) = false by rw [decide_eq_false_iff_not]; exact q1]
          clear hok q1
          go_wp2
          go_ret
          exact ⟨ret_bool HN.out.symm, B2.out⟩
    · have HY : Hid (vldD dl ps = true) := vldD_yes ⟨H1.out, by rw [HM.out]; exact H2.out.1, by rw [HM.out]; exact H2.out.2, by rw [HL.out]; omega, fun i hi => by rw [HM.out]; exact HOK.out i (by rw [HL.out] at hi; omega)⟩
      have hltI : ¬ (k : Int) < (n : Int) := by omega
      have HG : Hid (Below w.heap.size w wr) := hg
      clear hg
      go_wp2
      go_ret
      exact ⟨ret_bool HY.out.symm, HG.out⟩

theorem implValid_any (w : World) (va vb : Option Addr) (dl ca n cb : Nat) (ps : List (Int × List Int)) (hp : RdW w (.slice vb n cb) ps) (hl : ps.length = n) (hd : dl ≤ 1048576) (hn : n ≤ 1048576) (hdl : ∀ i, (pD ps i).length ≤ 1048576) :
    Calls Try.prog 38 #[.agg #[.slice va dl ca, .slice vb n cb]] w fun e w' => e = .returned (.bool (vldD dl ps)) ∧ Below w.heap.size w w' := by
  by_cases h : dl % 64 = 0 ∧ 1 ≤ dl / 64 ∧ dl / 64 ≤ 300 ∧ n ≤ 2000
  · exact implValid_loop w va vb dl ca n cb ps hp hl hd h.1 h.2.1 h.2.2.1 h.2.2.2 hdl
  · rw [vldD_no (fun h5 => h ⟨h5.1, h5.2.1, h5.2.2.1, by have := h5.2.2.2.1; omega⟩)]
    exact implValid_head w va vb dl ca n cb hd hn h

end Go.Proofs.Ytplfpfnedgjidaa

namespace Go.Proofs.Ytplfpfnedgjidaa
open Go.RowKit

set_option maxHeartbeats 400000 in
theorem eqWrite_any (w : World) (x y : Int) (va vb : Value) (xs ys : List Int) (ha : Rd .u8 w va xs) (hb : Rd .u8 w vb ys) :
    Calls Try.prog 91 #[.agg #[.int .i64 x, va], .agg #[.int .i64 y, vb]] w fun e w' => e = .returned (.bool (decide (x = y ∧ xs = ys))) ∧ Below w.heap.size w w' := by
  have B0 : Hid (Below w.heap.size w ((w.alloc (.cells #[.int .i64 x, va] 64)).alloc (.cells #[.int .i64 y, vb] 64))) := ((Below.refl _ _).alloc (Nat.le_refl _) _).alloc (by simp) _
  have RA : Hid (Rd .u8 ((w.alloc (.cells #[.int .i64 x, va] 64)).alloc (.cells #[.int .i64 y, vb] 64)) va xs) := ha.below B0.out
  have RB : Hid (Rd .u8 ((w.alloc (.cells #[.int .i64 x, va] 64)).alloc (.cells #[.int .i64 y, vb] 64)) vb ys) := hb.below B0.out
  obtain ⟨a1, c1, rfl, _, _⟩ := ha.len
  obtain ⟨a2, c2, rfl, _, _⟩ := hb.len
  clear ha hb
  by_cases he : x = y
  · subst he
    have t : (x != x) = false := by simp
    go_enter Try.func91, Try.ntmps91
    go_wp2_with fail
    refine (eqByteS_any _ _ _ xs ys RA.out RB.out).mono ?_
    rintro e w1 ⟨rfl, q1, rfl⟩
    have BE : Hid (Below w.heap.size w (((w.alloc (.cells #[.int .i64 x, .slice a1 xs.length c1] 64)).alloc (.cells #[.int .i64 x, .slice a2 ys.length c2] 64)).drewN q1)) := B0.out.trans ((below_drewN' _ q1).mono (by simp; omega))
    by_cases h : xs = ys
    · have hd : decide (xs = ys) = true := by simp [h]
      have hd2 : decide (x = x ∧ xs = ys) = true := by simp [h]
      rw [hd]
      clear h
      go_wp2
      go_ret
      exact ⟨ret_bool hd2.symm, BE.out⟩
    · have hd : decide (xs = ys) = false := by simp [h]
      have hd2 : decide (x = x ∧ xs = ys) = false := by simp [h]
      rw [hd]
      clear h
      go_wp2
      go_ret
      exact ⟨ret_bool hd2.symm, BE.out⟩
  · have t : (x != y) = true := by simp [he]
    have hd2 : decide (x = y ∧ xs = ys) = false := by simp [he]
    clear he
    go_enter Try.func91, Try.ntmps91
    go_wp2
    go_ret
    exact ⟨ret_bool hd2.symm, B0.out⟩

theorem recs_ext {ps qs : List (Int × List Int)} (hl : ps.length = qs.length) (h : ∀ i, i < ps.length → pB ps i = pB qs i ∧ pD ps i = pD qs i) : ps = qs := by
  apply List.ext_getElem hl
  intro i h1 h2
  have := h i h1
  unfold pB pD at this
  simp only [List.getD, List.getElem?_eq_getElem h1, List.getElem?_eq_getElem h2, Option.getD_some] at this
  exact Prod.ext this.1 this.2

set_option maxHeartbeats 1000000 in
set_option maxRecDepth 100000 in
theorem eqWriteS_row (w : World) (b o b2 o2 n ca cb : Nat) (ps qs : List (Int × List Int)) (hp : ps.length = n) (hq : qs.length = n) (hn : n ≤ 1048576) (hb : b < w.heap.size) (hb2 : b2 < w.heap.size)
    (hc : ∀ i, i < n → w.cell? ⟨b, o + i * 2, none⟩ = some (.int .i64 (pB ps i)) ∧ ∃ da c, w.cell? ⟨b, o + i * 2 + 1, none⟩ = some (.slice da (pD ps i).length c) ∧ Rd .u8 w (.slice da (pD ps i).length c) (pD ps i))
    (hc2 : ∀ i, i < n → w.cell? ⟨b2, o2 + i * 2, none⟩ = some (.int .i64 (pB qs i)) ∧ ∃ da c, w.cell? ⟨b2, o2 + i * 2 + 1, none⟩ = some (.slice da (pD qs i).length c) ∧ Rd .u8 w (.slice da (pD qs i).length c) (pD qs i)) :
    Calls Try.prog 59 #[.slice (some ⟨b, o, none⟩) n ca, .slice (some ⟨b2, o2, none⟩) n cb] w fun e w' => e = .returned (.bool (decide (ps = qs))) ∧ Below w.heap.size w w' := by
  have HC : Hid (∀ i, i < n → w.cell? ⟨b, o + i * 2, none⟩ = some (.int .i64 (pB ps i)) ∧ ∃ da c, w.cell? ⟨b, o + i * 2 + 1, none⟩ = some (.slice da (pD ps i).length c) ∧ Rd .u8 w (.slice da (pD ps i).length c) (pD ps i)) := hc
  have HC2 : Hid (∀ i, i < n → w.cell? ⟨b2, o2 + i * 2, none⟩ = some (.int .i64 (pB qs i)) ∧ ∃ da c, w.cell? ⟨b2, o2 + i * 2 + 1, none⟩ = some (.slice da (pD qs i).length c) ∧ Rd .u8 w (.slice da (pD qs i).length c) (pD qs i)) := hc2
  have HP : Hid (ps.length = n) := hp
  have HQ : Hid (qs.length = n) := hq
  clear hc hc2 hp hq
  have h1 : ((n : Int) != (n : Int)) = false := by simp
  go_enter Try.func59, Try.ntmps59
  go_wp2
  go_loopw [5] (fun i wr => ∃ k : Nat, k ≤ n ∧ i = .int .i64 k ∧ Hid (∀ i, i < k → pB ps i = pB qs i ∧ pD ps i = pD qs i) ∧ Below w.heap.size w wr) (fun i _ => n - (intOf i).toNat)
  case atStart => exact ⟨0, Nat.zero_le _, rfl, fun i hi => by omega, Below.refl _ _⟩
  case round =>
    obtain ⟨k, hk, rfl, HT, hg⟩ := hrel
    by_cases hlt : k < n
    · obtain ⟨e1, da, dc, e2, r⟩ := HC.out k hlt
      obtain ⟨g1, da2, dc2, g2, r2⟩ := HC2.out k hlt
      have e1' := (hg.cell (p := ⟨b, o + k * 2, none⟩) hb).trans e1
      have e2' := (hg.cell (p := ⟨b, o + k * 2 + 1, none⟩) hb).trans e2
      have g1' := (hg.cell (p := ⟨b2, o2 + k * 2, none⟩) hb2).trans g1
      have g2' := (hg.cell (p := ⟨b2, o2 + k * 2 + 1, none⟩) hb2).trans g2
      have hltI : (k : Int) < (n : Int) := by omega
      have HE : Hid (∀ q, Calls Try.prog 91 #[.agg #[.int .i64 (pB ps k), .slice da (pD ps k).length dc], .agg #[.int .i64 (pB qs k), .slice da2 (pD qs k).length dc2]] (wr.drewN q) fun e w' => e = .returned (.bool (decide (pB ps k = pB qs k ∧ pD ps k = pD qs k))) ∧ Below w.heap.size w w') := by
        intro q
        refine (eqWrite_any _ _ _ _ _ (pD ps k) (pD qs k) ((r.below hg).drewN q) ((r2.below hg).drewN q)).mono ?_
        rintro e w' ⟨rfl, b'⟩
        exact ⟨rfl, (hg.trans ((below_drewN' wr q).mono hg.size)).trans (b'.mono hg.size)⟩
      clear e1 e2 g1 g2 r r2 hg
      by_cases heq : pB ps k = pB qs k ∧ pD ps k = pD qs k
      · have HQ1 : Hid (pB ps k = pB qs k ∧ pD ps k = pD qs k) := heq
        have HD : Hid (decide (pB ps k = pB qs k ∧ pD ps k = pD qs k) = true) := by show _ = _; rw [decide_eq_true_eq]; exact heq
        clear heq
        go_wp2
        go_region_with (go_at_call 91; refine (HE.out 1).mono ?_; rintro e w' ⟨rfl, b'⟩; rw [HD.out])
        all_goals
          have HB : Hid (Below w.heap.size w w') := b'
          clear b'
          go_wp2
          go_roundw
          case rel => exact ⟨k + 1, by omega, by go_num, (fun i hi => by by_cases e : i = k; (subst e; exact HQ1.out); exact HT.out i (by omega)), HB.out⟩
          case measure => simp [intOf]; omega
      · have HD : Hid (decide (pB ps k = pB qs k ∧ pD ps k = pD qs k) = false) := by show _ = _; rw [decide_eq_false_iff_not]; exact heq
        have HN : Hid (decide (ps = qs) = false) := by show _ = _; rw [decide_eq_false_iff_not]; intro h; subst h; exact heq ⟨rfl, rfl⟩
        clear heq
        go_wp2
        go_region_with (go_at_call 91; refine (HE.out 1).mono ?_; rintro e w' ⟨rfl, b'⟩; rw [HD.out])
        all_goals
          have HB : Hid (Below w.heap.size w w') := b'
          clear b'
          go_wp2
          go_ret
          exact ⟨ret_bool HN.out.symm, HB.out⟩
    · have HY : Hid (decide (ps = qs) = true) := by show _ = _; rw [decide_eq_true_eq]; exact recs_ext (by rw [HP.out, HQ.out]) (fun i hi => HT.out i (by rw [HP.out] at hi; omega))
      have HG : Hid (Below w.heap.size w wr) := hg
      clear hg
      go_wp2
      go_ret
      exact ⟨ret_bool HY.out.symm, HG.out⟩

set_option maxHeartbeats 400000 in
theorem eqWriteS_len (w : World) (ao bo : Option Addr) (n m ca cb : Nat) (h : n ≠ m) :
    Calls Try.prog 59 #[.slice ao n ca, .slice bo m cb] w fun e w' => e = .returned (.bool false) ∧ w' = w := by
  have h1 : ((n : Int) != (m : Int)) = true := by rw [bne_iff_ne]; omega
  go_enter Try.func59, Try.ntmps59
  go_wp2
  go_ret
  exact ⟨rfl, rfl⟩

theorem eqWriteS_any (w : World) (va vb : Value) (ps qs : List (Int × List Int)) (ha : RdW w va ps) (hb : RdW w vb qs) (hn : ps.length ≤ 1048576) :
    Calls Try.prog 59 #[va, vb] w fun e w' => e = .returned (.bool (decide (ps = qs))) ∧ Below w.heap.size w w' := by
  obtain ⟨ao, ca, rfl, h1, h2, h3⟩ := ha
  obtain ⟨bo, cb, rfl, k1, k2, k3⟩ := hb
  by_cases hne : ps.length = qs.length
  · rcases h3 with rfl | ⟨b, o, rfl, hb, hc⟩
    · have hy : qs = [] := List.eq_nil_of_length_eq_zero hne.symm
      subst hy
      refine (eqWriteS_nil w ao bo ca cb).mono ?_
      rintro e w' ⟨rfl, rfl⟩
      exact ⟨ret_bool (by simp), Below.refl _ _⟩
    · rcases k3 with rfl | ⟨b2, o2, rfl, hb2, hc2⟩
      · have hx : ps = [] := List.eq_nil_of_length_eq_zero hne
        subst hx
        refine (eqWriteS_nil w _ bo ca cb).mono ?_
        rintro e w' ⟨rfl, rfl⟩
        exact ⟨ret_bool (by simp), Below.refl _ _⟩
      · rw [← hne] at hc2 ⊢
        exact eqWriteS_row w b o b2 o2 ps.length ca cb ps qs rfl hne.symm hn hb hb2 hc hc2
  · refine (eqWriteS_len w ao bo _ _ ca cb hne).mono ?_
    rintro e w' ⟨rfl, rfl⟩
    exact ⟨ret_bool (by symm; rw [decide_eq_false_iff_not]; intro h; exact hne (by rw [h])), Below.refl _ _⟩

set_option maxHeartbeats 400000 in
theorem eqDisk_any (w : World) (va vb pa pb : Value) (xs ys : List Int) (ps qs : List (Int × List Int)) (ha : Rd .u8 w va xs) (hb : Rd .u8 w vb ys) (hp : RdW w pa ps) (hq : RdW w pb qs) (hn : ps.length ≤ 1048576) :
    Calls Try.prog 27 #[.agg #[va, pa], .agg #[vb, pb]] w fun e w' => e = .returned (.bool (decide (xs = ys ∧ ps = qs))) ∧ Below w.heap.size w w' := by
  have B0 : Hid (Below w.heap.size w ((w.alloc (.cells #[va, pa] 38)).alloc (.cells #[vb, pb] 38))) := ((Below.refl _ _).alloc (Nat.le_refl _) _).alloc (by simp) _
  have RA : Hid (Rd .u8 ((w.alloc (.cells #[va, pa] 38)).alloc (.cells #[vb, pb] 38)) va xs) := ha.below B0.out
  have RB : Hid (Rd .u8 ((w.alloc (.cells #[va, pa] 38)).alloc (.cells #[vb, pb] 38)) vb ys) := hb.below B0.out
  have PA : Hid (RdW ((w.alloc (.cells #[va, pa] 38)).alloc (.cells #[vb, pb] 38)) pa ps) := hp.below B0.out
  have PB : Hid (RdW ((w.alloc (.cells #[va, pa] 38)).alloc (.cells #[vb, pb] 38)) pb qs) := hq.below B0.out
  clear ha hb hp hq
  go_enter Try.func27, Try.ntmps27
  go_wp2_with fail
  refine (eqByteS_any _ _ _ xs ys RA.out RB.out).mono ?_
  rintro e w1 ⟨rfl, q1, rfl⟩
  by_cases h : xs = ys
  · have hd : decide (xs = ys) = true := by simp [h]
    rw [hd]
    have HE : Hid (xs = ys) := h
    clear h
    go_wp2_with fail
    refine (eqWriteS_any _ _ _ ps qs (PA.out.below (below_drewN' _ q1)) (PB.out.below (below_drewN' _ q1)) hn).mono ?_
    rintro e w2 ⟨rfl, b2⟩
    have B2 : Hid (Below w.heap.size w w2) := (B0.out.trans ((below_drewN' _ q1).mono (by simp; omega))).trans (b2.mono (by simp; omega))
    clear b2
    by_cases h2 : ps = qs
    · have hd2 : decide (ps = qs) = true := by simp [h2]
      have hd3 : decide (xs = ys ∧ ps = qs) = true := by rw [decide_eq_true_eq]; exact ⟨HE.out, h2⟩
      rw [hd2]
      clear h2
      go_wp2
      go_ret
      exact ⟨ret_bool hd3.symm, B2.out⟩
    · have hd2 : decide (ps = qs) = false := by simp [h2]
      have hd3 : decide (xs = ys ∧ ps = qs) = false := by simp [h2]
      rw [hd2]
      clear h2
      go_wp2
      go_ret
      exact ⟨ret_bool hd3.symm, B2.out⟩
  · have hd : decide (xs = ys) = false := by simp [h]
    have hd3 : decide (xs = ys ∧ ps = qs) = false := by simp [h]
    rw [hd]
    have BE : Hid (Below w.heap.size w (((w.alloc (.cells #[va, pa] 38)).alloc (.cells #[vb, pb] 38)).drewN q1)) := B0.out.trans ((below_drewN' _ q1).mono (by simp; omega))
    clear h
    go_wp2
    go_ret
    exact ⟨ret_bool hd3.symm, BE.out⟩

end Go.Proofs.Ytplfpfnedgjidaa

namespace Go.Proofs.Ytplfpfnedgjidaa
open Go.RowKit

/-- Only blocks from lo to hi may have turned. -/
structure Within (lo hi : Nat) (w w' : World) : Prop where
  os : w'.os = w.os
  tape : w'.tape = w.tape
  output : w'.output = w.output
  size : w.heap.size ≤ w'.heap.size
  block : ∀ k, k < w.heap.size → (k < lo ∨ hi ≤ k) → w'.heap[k]? = w.heap[k]?

theorem Within.refl (lo hi : Nat) (w : World) : Within lo hi w w := ⟨rfl, rfl, rfl, Nat.le_refl _, fun _ _ _ => rfl⟩
theorem Within.trans {lo hi : Nat} {a b c : World} (h : Within lo hi a b) (k : Within lo hi b c) : Within lo hi a c :=
  ⟨k.os.trans h.os, k.tape.trans h.tape, k.output.trans h.output, Nat.le_trans h.size k.size, fun i hi hj => (k.block i (Nat.lt_of_lt_of_le hi h.size) hj).trans (h.block i hi hj)⟩
theorem Within.of_grown {lo hi : Nat} {a b : World} {row : Option Nat} (h : a.grownBy b row) (hr : ∀ g, row = some g → lo ≤ g ∧ g < hi) : Within lo hi a b :=
  ⟨h.os, h.tape, h.output, h.size, fun k hk hj => h.block k hk (fun e => by have := hr k e.symm; omega)⟩
theorem Within.of_below {lo hi : Nat} {a b : World} (h : Below a.heap.size a b) : Within lo hi a b := ⟨h.os, h.tape, h.output, h.size, fun k hk _ => h.block k hk⟩
theorem Within.setCell {lo hi g : Nat} (w : World) (h1 : lo ≤ g) (h2 : g < hi) (j : Nat) (u : Value) : Within lo hi w (w.setCell ⟨g, j, none⟩ u) :=
  Within.of_grown (grownBy_set w w g j u (World.grownBy.refl _ _)) (fun q e => by injection e with e; omega)
theorem Within.below {lo hi B : Nat} {a b c : World} (hb : Below B a b) (h : Within lo hi b c) (hB : B ≤ lo) (hs : B ≤ b.heap.size) : Below B a c :=
  ⟨h.os.trans hb.os, h.tape.trans hb.tape, h.output.trans hb.output, Nat.le_trans hb.size h.size, fun k hk => (h.block k (by omega) (.inl (by omega))).trans (hb.block k hk)⟩
theorem Within.own {lo hi : Nat} {a b : World} (h : Within lo hi a b) {k : IntKind} {e : TypeId} {B : Nat} {v : Value} {xs : List Int} (ho : Own k e a B v xs) (hv : ∀ g, v.ownBlock = some g → g < lo ∨ hi ≤ g) : Own k e b B v xs := by
  refine ⟨ho.1, ?_⟩
  rcases ho.2 with hn | ⟨g, cap, cur, rfl, hbg, hgg, rest⟩
  · exact .inl hn
  · exact .inr ⟨g, cap, cur, rfl, hbg, by rw [h.block g (Array.getElem?_eq_some_iff.1 hgg).1 (hv g rfl)]; exact hgg, rest⟩
theorem Within.ownW {lo hi : Nat} {a b : World} (h : Within lo hi a b) {e : TypeId} {B : Nat} {v : Value} {ps : List (Int × List Int)} {dv : Nat → Value} (ho : OwnW e a B v ps dv)
    (hv : ∀ g, v.ownBlock = some g → g < lo ∨ hi ≤ g) (hd : ∀ i, i < ps.length → ∀ g, (dv i).ownBlock = some g → g < lo ∨ hi ≤ g) : OwnW e b B v ps dv := by
  refine ⟨⟨ho.1.1, ?_⟩, fun i hi => h.own (ho.2.1 i hi) (hd i hi), ho.2.2⟩
  rcases ho.1.2 with hn | ⟨g, cap, cur, rfl, hbg, hgg, rest⟩
  · exact .inl hn
  · exact .inr ⟨g, cap, cur, rfl, hbg, by rw [h.block g (Array.getElem?_eq_some_iff.1 hgg).1 (hv g rfl)]; exact hgg, rest⟩
theorem Within.box2 {lo hi : Nat} {a b : World} (h : Within lo hi a b) {q : Nat} {x y : Value} (hb : Box2 a q x y) (hq : q < lo ∨ hi ≤ q) : Box2 b q x y :=
  ⟨Nat.lt_of_lt_of_le hb.1 h.size, (World.cell?_of_block (w := a) (a := ⟨q, 0, none⟩) (h.block q hb.1 hq)).trans hb.2.1, (World.cell?_of_block (w := a) (a := ⟨q, 1, none⟩) (h.block q hb.1 hq)).trans hb.2.2⟩

/-- The mark of record i. -/
def ks (ps : List (Int × List Int)) (k : Int) (i : Nat) : Int := k + i + tot (ps.take i)
theorem ks_succ (ps : List (Int × List Int)) (k : Int) (i : Nat) (h : i < ps.length) : ks ps k (i + 1) = ks ps k i + 1 + (pD ps i).length := by
  unfold ks; rw [tot_take_succ ps i h]; omega
def mkP (ps : List (Int × List Int)) (k : Int) : List (Int × List Int) := (List.range ps.length).map fun i => (ks ps k i, marks (ks ps k i + 1) (pD ps i).length)
theorem mkP_len (ps : List (Int × List Int)) (k : Int) : (mkP ps k).length = ps.length := by simp [mkP]
theorem mkP_B (ps : List (Int × List Int)) (k : Int) (i : Nat) (h : i < ps.length) : pB (mkP ps k) i = ks ps k i := by unfold pB mkP; simp [List.getD, h]
theorem mkP_D (ps : List (Int × List Int)) (k : Int) (i : Nat) (h : i < ps.length) : pD (mkP ps k) i = marks (ks ps k i + 1) (pD ps i).length := by show ((mkP ps k).getD i (0, [])).2 = _; unfold mkP; simp [List.getD, h]

def mB (ps : List (Int × List Int)) (k0 : Int) (k i : Nat) : Int := if i < k then ks ps k0 i else pB ps i
def mD (ps : List (Int × List Int)) (k0 : Int) (k i : Nat) : List Int := if i < k then marks (ks ps k0 i + 1) (pD ps i).length else pD ps i

theorem tot_le (ps : List (Int × List Int)) (i : Nat) : tot (ps.take i) ≤ tot ps := by
  unfold tot
  conv => rhs; rw [← List.take_append_drop i ps, List.map_append, List.sum_append]
  omega

theorem rowW_setB {n k : Nat} {f f' : Nat → Int} {g : Nat → Value} (hk : k < n) (hf : ∀ i, i ≠ k → f i = f' i) : (rowW n f g).set (k * 2) (.int .i64 (f' k)) = rowW n f' g := by
  have h := rowW_set (n := n) (f := f) (f' := f') (g := g) (g' := g) hk hf (fun _ _ => rfl)
  rw [← h]
  apply List.ext_getElem?
  intro j
  by_cases e : k * 2 + 1 = j
  · subst e
    rw [List.getElem?_set_self (by simp [rowW_length]; omega), List.getElem?_set_ne (by omega), rowW_get _ _ _ _ (by omega), if_neg (by omega), show (k * 2 + 1) / 2 = k by omega]
  · rw [List.getElem?_set_ne (l := (rowW n f g).set (k * 2) (.int .i64 (f' k))) e]

set_option maxHeartbeats 1000000 in
set_option maxRecDepth 100000 in
theorem markWriteS_row (w : World) (lo hi g n cap : Nat) (ps : List (Int × List Int)) (dv : Nat → Value) (k0 : Int) (hp : ps.length = n) (ho : OwnW 64 w lo (.slice (some ⟨g, 0, none⟩) n cap) ps dv)
    (hg : g < hi) (hd : ∀ i, i < n → ∀ q, (dv i).ownBlock = some q → q < hi) (hk0 : 0 ≤ k0) (hk1 : k0 ≤ 4194304) (hn : n ≤ 1048576) (ht : tot ps ≤ 1048576) :
    Calls Try.prog 60 #[.slice (some ⟨g, 0, none⟩) n cap, .int .i64 k0] w fun e w' => e = .returned (.int .i64 (ks ps k0 n)) ∧ OwnW 64 w' lo (.slice (some ⟨g, 0, none⟩) n cap) (mkP ps k0) dv ∧ Within lo hi w w' ∧ (∀ q, q < w.heap.size → some q ≠ Value.ownBlock (.slice (some ⟨g, 0, none⟩) n cap) → (∀ i, i < n → (dv i).ownBlock ≠ some q) → w'.heap[q]? = w.heap[q]?) := by
  have hlo : lo ≤ g := (World.ownsRow.lt ho.1 g rfl).1
  have HP : Hid (ps.length = n) := hp
  have HD : Hid (∀ i, i < n → ∀ q, (dv i).ownBlock = some q → q < hi) := hd
  have HO : Hid (OwnW 64 w lo (.slice (some ⟨g, 0, none⟩) n cap) ps dv) := ho
  clear hd ho hp
  go_enter Try.func60, Try.ntmps60
  go_wp2
  go_loopw [1, 5] (fun kk i wr => ∃ k : Nat, k ≤ n ∧ i = .int .i64 k ∧ kk = .int .i64 (ks ps k0 k) ∧ wr.ownsRow lo 64 2 (.slice (some ⟨g, 0, none⟩) n cap) n (rowW n (mB ps k0 k) dv) ∧ Hid (∀ i, i < n → Own .u8 5 wr lo (dv i) (mD ps k0 k i)) ∧ Within lo hi w wr ∧ Hid (∀ q, q < w.heap.size → some q ≠ Value.ownBlock (.slice (some ⟨g, 0, none⟩) n cap) → (∀ i, i < n → (dv i).ownBlock ≠ some q) → wr.heap[q]? = w.heap[q]?)) (fun _ i _ => n - (intOf i).toNat)
  case atStart => exact ⟨0, Nat.zero_le _, rfl, (by unfold ks; simp [tot]), (by have := HO.out.1; rw [HP.out] at this; exact this), (fun i hi => HO.out.2.1 i (by rw [HP.out]; exact hi)), Within.refl _ _ _, fun _ _ _ _ => rfl⟩
  case round =>
    obtain ⟨k, hk, rfl, rfl, hr, HI, hw, HF⟩ := hrel
    by_cases hlt : k < n
    · have hltI : (k : Int) < (n : Int) := by omega
      have f0 := World.ownsRow.frozenAt hr (k * 2)
      have d0 := (World.ownsRow.cellAt hr (k * 2) (by omega)).trans (rowW_get n _ _ (k * 2) (by omega))
      have d1 := (World.ownsRow.cellAt hr (k * 2 + 1) (by omega)).trans (rowW_get n _ _ (k * 2 + 1) (by omega))
      rw [if_neg (by omega), show (k * 2 + 1) / 2 = k by omega] at d1
      obtain ⟨x0, d0⟩ : ∃ x, wr.cell? ⟨g, k * 2, none⟩ = some x := ⟨_, d0⟩
      have hb1 := tot_le ps k
      have hkk : 0 ≤ ks ps k0 k ∧ ks ps k0 k ≤ 6291457 := by unfold ks; omega
      have HKS : Hid (ks ps k0 (k + 1) = ks ps k0 k + 1 + (pD ps k).length) := ks_succ ps k0 k (by rw [HP.out]; exact hlt)
      have hlen : (pD ps k).length ≤ 1048576 := by
        have h1 := tot_take_succ ps k (by rw [HP.out]; exact hlt)
        have h2 := tot_le ps (k + 1)
        omega
      have HR : Hid (wr.ownsRow lo 64 2 (.slice (some ⟨g, 0, none⟩) n cap) n (rowW n (mB ps k0 k) dv)) := hr
      have HW : Hid (Within lo hi w wr) := hw
      have OK : Hid (Own .u8 5 wr lo (dv k) (pD ps k)) := by have := HI.out k hlt; unfold mD at this; rw [if_neg (by omega)] at this; exact this
      have NE : Hid (∀ i, i < n → (dv i).ownBlock = none ∨ (dv i).ownBlock ≠ some g) := fun i hi => by have := HO.out.2.2.2 i (by rw [HP.out]; exact hi); exact this
      obtain ⟨da, dc, hdk⟩ := OK.out.slice
      rw [hdk] at d1
      clear hr hw hb1
      generalize hkx : ks ps k0 k = kx at *
      have HKX : Hid (ks ps k0 k = kx) := hkx
      clear hkx
      go_wp2_with fail
      have OK2 : Hid (Own .u8 5 (wr.setCell ⟨g, k * 2, none⟩ (.int .i64 kx)) lo (.slice da (pD ps k).length dc) (pD ps k)) := by
        have h1 := OK.out.setAt (j := k * 2) (u := .int .i64 kx) (NE.out k hlt); rw [hdk] at h1; exact h1
      refine (markByteS_any _ lo _ (pD ps k) (kx + 1) OK2.out (by omega) (by omega) (by omega)).mono ?_
      rintro e w2 ⟨rfl, o2, g2⟩
      have HDK : Hid (dv k = .slice da (pD ps k).length dc) := hdk
      have O2 : Hid (Own .u8 5 w2 lo (.slice da (pD ps k).length dc) (marks (kx + 1) (pD ps k).length)) := o2
      have G2 : Hid ((wr.setCell ⟨g, k * 2, none⟩ (.int .i64 kx)).grownBy w2 (Value.ownBlock (.slice da (pD ps k).length dc))) := g2
      clear o2 g2 OK OK2 d0 d1 f0 hdk
      have S : Hid (w2.ownsRow lo 64 2 (.slice (some ⟨g, 0, none⟩) n cap) n (rowW n (mB ps k0 (k + 1)) dv) ∧ (∀ i, i < n → Own .u8 5 w2 lo (dv i) (mD ps k0 (k + 1) i)) ∧ Within lo hi w w2 ∧ (∀ q, q < w.heap.size → some q ≠ Value.ownBlock (.slice (some ⟨g, 0, none⟩) n cap) → (∀ i, i < n → (dv i).ownBlock ≠ some q) → w2.heap[q]? = w.heap[q]?)) := by
        have nek := NE.out k hlt
        rw [HDK.out] at nek
        have r1 := (World.ownsRow.stored HR.out (k * 2) (.int .i64 kx)).1
        rw [show Value.int .i64 kx = .int .i64 (mB ps k0 (k + 1) k) by unfold mB; rw [if_pos (by omega), HKX.out], rowW_setB hlt (by intro i hi; unfold mB; by_cases h : i < k; (rw [if_pos h, if_pos (by omega)]); (rw [if_neg h, if_neg (by omega)]))] at r1
        refine ⟨World.ownsRow.kept (by rw [show mB ps k0 (k + 1) k = kx by unfold mB; rw [if_pos (by omega), HKX.out]] at r1; exact r1) G2.out ?_, fun i hi => ?_, (HW.out.trans (Within.setCell wr hlo hg _ _)).trans (Within.of_grown G2.out (fun q hq => ⟨(O2.out.lt q hq).1, HD.out k hlt q (by rw [HDK.out]; exact hq)⟩)), fun q hq hn1 hn2 => ?_⟩
        · right
          rcases nek with h | h
          · rw [h]; simp [Value.ownBlock]
          · exact fun e => h e.symm
        · by_cases e : i = k
          · subst e
            unfold mD
            rw [if_pos (by omega), HDK.out, HKX.out]
            exact O2.out
          · have h1 : Own .u8 5 (wr.setCell ⟨g, k * 2, none⟩ (.int .i64 kx)) lo (dv i) (mD ps k0 k i) := (HI.out i hi).setAt (NE.out i hi)
            have h2 : mD ps k0 (k + 1) i = mD ps k0 k i := by unfold mD; by_cases h : i < k; (rw [if_pos h, if_pos (by omega)]); (rw [if_neg h, if_neg (by omega)])
            rw [h2]
            have ne := HO.out.2.2.1 i k (by rw [HP.out]; exact hi) (by rw [HP.out]; exact hlt) e
            unfold Ne2 at ne
            rw [HDK.out] at ne
            exact h1.other G2.out ne
        · have e1 : (wr.setCell ⟨g, k * 2, none⟩ (.int .i64 kx)).heap[q]? = wr.heap[q]? := Below.heap_setCell _ _ _ _ (fun e => hn1 (by simp [Value.ownBlock, e]))
          rw [G2.out.block q (by have := HW.out.size; simp; omega) (fun e => hn2 k hlt (by rw [HDK.out]; exact e.symm)), e1]
          exact HF.out q hq hn1 hn2
      clear HI HR HW O2 G2
      go_wp2
      go_roundw
      case rel => exact ⟨k + 1, by omega, by go_num, (by rw [HKS.out]), S.out.1, S.out.2.1, S.out.2.2.1, S.out.2.2.2⟩
      case measure => simp [intOf]; omega
    · have hkn : k = n := by omega
      subst hkn
      have FIN : Hid (OwnW 64 wr lo (.slice (some ⟨g, 0, none⟩) k cap) (mkP ps k0) dv ∧ Within lo hi w wr) := by
        refine ⟨⟨?_, fun i hi => ?_, fun i j hi hj => HO.out.2.2.1 i j (by rw [mkP_len] at hi; exact hi) (by rw [mkP_len] at hj; exact hj), fun i hi => HO.out.2.2.2 i (by rw [mkP_len] at hi; exact hi)⟩, hw⟩
        · rw [mkP_len, HP.out, rowW_congr (f' := mB ps k0 k) (g' := dv) (fun i hi => by rw [mkP_B ps k0 i (by rw [HP.out]; exact hi)]; unfold mB; rw [if_pos hi]) (fun _ _ => rfl)]
          exact hr
        · rw [mkP_len, HP.out] at hi
          have := HI.out i hi
          unfold mD at this
          rw [if_pos hi] at this
          rw [mkP_D ps k0 i (by rw [HP.out]; exact hi)]
          exact this
      clear hr hw HI
      go_wp2
      go_ret
      exact ⟨rfl, FIN.out.1, FIN.out.2, HF.out⟩

theorem markWriteS_any (w : World) (lo hi : Nat) (v : Value) (ps : List (Int × List Int)) (dv : Nat → Value) (k0 : Int) (ho : OwnW 64 w lo v ps dv)
    (hg : ∀ g, v.ownBlock = some g → g < hi) (hd : ∀ i, i < ps.length → ∀ q, (dv i).ownBlock = some q → q < hi) (hk0 : 0 ≤ k0) (hk1 : k0 ≤ 4194304) (hn : ps.length ≤ 1048576) (ht : tot ps ≤ 1048576) :
    Calls Try.prog 60 #[v, .int .i64 k0] w fun e w' => e = .returned (.int .i64 (ks ps k0 ps.length)) ∧ OwnW 64 w' lo v (mkP ps k0) dv ∧ Within lo hi w w' ∧ (∀ q, q < w.heap.size → some q ≠ v.ownBlock → (∀ i, i < ps.length → (dv i).ownBlock ≠ some q) → w'.heap[q]? = w.heap[q]?) := by
  rcases ho.1.2 with ⟨rfl, h0⟩ | ⟨g, cap, cur, rfl, _⟩
  · have : ps = [] := List.eq_nil_of_length_eq_zero h0
    subst this
    refine (markWriteS_nil w none 0 k0).mono ?_
    rintro e w' ⟨rfl, rfl⟩
    exact ⟨ret_int (by unfold ks; simp [tot]), ho, Within.refl _ _ _, fun _ _ _ _ => rfl⟩
  · exact markWriteS_row w lo hi g ps.length cap ps dv k0 rfl ho (hg g rfl) hd hk0 hk1 hn ht

set_option maxHeartbeats 1000000 in
set_option maxRecDepth 100000 in
theorem heldWriteS_row (w : World) (b o n cap : Nat) (ps : List (Int × List Int)) (k0 : Int) (hp : ps.length = n)
    (hc : ∀ i, i < n → w.cell? ⟨b, o + i * 2, none⟩ = some (.int .i64 (pB (mkP ps k0) i)) ∧ ∃ da c, w.cell? ⟨b, o + i * 2 + 1, none⟩ = some (.slice da (pD (mkP ps k0) i).length c) ∧ Rd .u8 w (.slice da (pD (mkP ps k0) i).length c) (pD (mkP ps k0) i))
    (hk0 : 0 ≤ k0) (hk1 : k0 ≤ 4194304) (hn : n ≤ 1048576) (ht : tot ps ≤ 1048576) :
    Calls Try.prog 61 #[.slice (some ⟨b, o, none⟩) n cap, .int .i64 k0] w fun e w' => e = .returned (.int .i64 (ks ps k0 n)) ∧ w' = w := by
  have HC : Hid (∀ i, i < n → w.cell? ⟨b, o + i * 2, none⟩ = some (.int .i64 (ks ps k0 i)) ∧ ∃ da c, w.cell? ⟨b, o + i * 2 + 1, none⟩ = some (.slice da (pD ps i).length c) ∧ Rd .u8 w (.slice da (pD ps i).length c) (marks (ks ps k0 i + 1) (pD ps i).length)) := by
    intro i hi
    have := hc i hi
    rw [mkP_B ps k0 i (by omega), mkP_D ps k0 i (by omega), marks_length] at this
    exact this
  have HP : Hid (ps.length = n) := hp
  clear hc hp
  go_enter Try.func61, Try.ntmps61
  go_wp2
  go_loop [1, 5] (fun kk i => ∃ k : Nat, k ≤ n ∧ i = .int .i64 k ∧ kk = .int .i64 (ks ps k0 k)) (fun _ i => n - (intOf i).toNat)
  case atStart => exact ⟨0, Nat.zero_le _, rfl, by unfold ks; simp [tot]⟩
  case round =>
    obtain ⟨k, hk, rfl, rfl⟩ := hrel
    by_cases hlt : k < n
    · have hltI : (k : Int) < (n : Int) := by omega
      obtain ⟨c1, da, dc, c2, r⟩ := HC.out k hlt
      have hb1 := tot_le ps k
      have hkk : 0 ≤ ks ps k0 k ∧ ks ps k0 k ≤ 6291457 := by unfold ks; omega
      have HKS : Hid (ks ps k0 (k + 1) = ks ps k0 k + 1 + (pD ps k).length) := ks_succ ps k0 k (by rw [HP.out]; exact hlt)
      have hlen : (pD ps k).length ≤ 1048576 := by
        have h1 := tot_take_succ ps k (by rw [HP.out]; exact hlt)
        have h2 := tot_le ps (k + 1)
        omega
      have RR : Hid (Rd .u8 w (.slice da (pD ps k).length dc) (marks (ks ps k0 k + 1) (pD ps k).length)) := r
      clear r hb1
      generalize ks ps k0 k = kx at *
      have t : (kx != kx) = false := by simp
      go_wp2_with fail
      refine (heldByteS_any _ _ (pD ps k).length (kx + 1) RR.out (by omega) (by omega) (by omega)).mono ?_
      rintro e w2 ⟨rfl, hw⟩
      subst hw
      have t2 : ¬ kx + 1 + ((pD ps k).length : Int) < 0 := by omega
      go_wp2
      go_round
      case rel => exact ⟨k + 1, by omega, by go_num, (by rw [HKS.out])⟩
      case measure => simp [intOf]; omega
    · have hkn : k = n := by omega
      subst hkn
      go_wp2
      go_ret
      exact ⟨rfl, rfl⟩

theorem heldWriteS_any (w : World) (v : Value) (ps : List (Int × List Int)) (k0 : Int) (h : RdW w v (mkP ps k0)) (hk0 : 0 ≤ k0) (hk1 : k0 ≤ 4194304) (hn : ps.length ≤ 1048576) (ht : tot ps ≤ 1048576) :
    Calls Try.prog 61 #[v, .int .i64 k0] w fun e w' => e = .returned (.int .i64 (ks ps k0 ps.length)) ∧ w' = w := by
  obtain ⟨ao, cap, rfl, k1, k2, k3⟩ := h
  rw [mkP_len] at *
  rcases k3 with h0 | ⟨b, o, rfl, hb, hc⟩
  · have h1 : ps.length = 0 := by have := congrArg List.length h0; rw [mkP_len] at this; simpa using this
    rw [h1]
    refine (heldWriteS_nil w ao cap k0).mono ?_
    rintro e w' ⟨rfl, rfl⟩
    exact ⟨ret_int (by unfold ks; simp [tot]), rfl⟩
  · exact heldWriteS_row w b o ps.length cap ps k0 rfl hc hk0 hk1 hn ht

/-- A disk of the call's own: its bytes in blocks from lo to mid, its records from mid to hi. -/
structure OwnD (w : World) (lo hi : Nat) (vd vp : Value) (dur : List Int) (ps : List (Int × List Int)) (dv : Nat → Value) : Prop where
  d : Own .u8 5 w lo vd dur
  p : OwnW 64 w lo vp ps dv
  dlt : ∀ g, vd.ownBlock = some g → g < hi
  plt : ∀ g, vp.ownBlock = some g → g < hi
  qlt : ∀ i, i < ps.length → ∀ g, (dv i).ownBlock = some g → g < hi
  dp : Ne2 vp vd
  dq : ∀ i, i < ps.length → Ne2 (dv i) vd

theorem OwnD.within {w w' : World} {lo hi l h : Nat} {vd vp : Value} {dur : List Int} {ps : List (Int × List Int)} {dv : Nat → Value} (ho : OwnD w lo hi vd vp dur ps dv) (hw : Within l h w w') (hd : hi ≤ l ∨ h ≤ lo) : OwnD w' lo hi vd vp dur ps dv :=
  ⟨hw.own ho.d (fun g hg => by have := (ho.d.lt g hg).1; have := ho.dlt g hg; omega),
   hw.ownW ho.p (fun g hg => by have := (World.ownsRow.lt ho.p.1 g hg).1; have := ho.plt g hg; omega) (fun i hi g hg => by have := ((ho.p.2.1 i hi).lt g hg).1; have := ho.qlt i hi g hg; omega),
   ho.dlt, ho.plt, ho.qlt, ho.dp, ho.dq⟩
theorem OwnD.below {w w' : World} {lo hi : Nat} {vd vp : Value} {dur : List Int} {ps : List (Int × List Int)} {dv : Nat → Value} (ho : OwnD w lo hi vd vp dur ps dv) (hb : Below w.heap.size w w') : OwnD w' lo hi vd vp dur ps dv :=
  ⟨ho.d.below hb, ho.p.below hb, ho.dlt, ho.plt, ho.qlt, ho.dp, ho.dq⟩

set_option maxHeartbeats 400000 in
theorem markDisk_any (w : World) (lo hi : Nat) (vd vp : Value) (dur : List Int) (ps : List (Int × List Int)) (dv : Nat → Value) (k : Int) (ho : OwnD w lo hi vd vp dur ps dv) (hhi : hi ≤ w.heap.size) (hk0 : 0 ≤ k) (hk1 : k ≤ 2097152) (hl : dur.length ≤ 1048576) (hn : ps.length ≤ 1048576) (ht : tot ps ≤ 1048576) :
    Calls Try.prog 28 #[.agg #[vd, vp], .int .i64 k] w fun e w' => e = .returned (.int .i64 (ks ps (k + dur.length) ps.length)) ∧ OwnD w' lo hi vd vp (marks k dur.length) (mkP ps (k + dur.length)) dv ∧ Within lo hi w w' := by
  have BA : Hid (Below w.heap.size w (w.alloc (.cells #[vd, vp] 38))) := (Below.refl _ _).alloc (Nat.le_refl _) _
  have HO : Hid (OwnD (w.alloc (.cells #[vd, vp] 38)) lo hi vd vp dur ps dv) := ho.below BA.out
  have X0 : Hid (Box2 (w.alloc (.cells #[vd, vp] 38)) w.heap.size vd vp) := Box2.new _ _ _ _
  clear ho
  go_enter Try.func28, Try.ntmps28
  go_wp2_with fail
  generalize w.alloc (.cells #[vd, vp] 38) = w0 at *
  refine (markByteS_any _ lo _ dur k HO.out.d hk0 (by omega) (by omega)).mono ?_
  rintro e w1 ⟨rfl, o1, g1⟩
  have W1 : Hid (Within lo hi w0 w1) := Within.of_grown g1 (fun q hq => ⟨(HO.out.d.lt q hq).1, HO.out.dlt q hq⟩)
  have O1 : Hid (Own .u8 5 w1 lo vd (marks k dur.length)) := o1
  have P1 : Hid (OwnW 64 w1 lo vp ps dv) := ⟨World.ownsRow.kept HO.out.p.1 g1 HO.out.dp, fun i hi => (HO.out.p.2.1 i hi).other g1 (HO.out.dq i hi), HO.out.p.2.2⟩
  have X1 : Hid (Box2 w1 w.heap.size vd vp) := W1.out.box2 X0.out (.inr hhi)
  obtain ⟨z1, c0, c1⟩ := X1.out
  clear o1 g1
  go_wp2_with fail
  refine (markWriteS_any _ lo hi _ ps dv (k + dur.length) P1.out HO.out.plt HO.out.qlt (by omega) (by omega) hn ht).mono ?_
  rintro e w2 ⟨rfl, o2, g2, f2⟩
  have FIN : Hid (OwnD w2 lo hi vd vp (marks k dur.length) (mkP ps (k + dur.length)) dv ∧ Within lo hi w w2) := by
    refine ⟨⟨?_, o2, HO.out.dlt, HO.out.plt, fun i hi => HO.out.qlt i (by rw [mkP_len] at hi; exact hi), HO.out.dp, fun i hi => HO.out.dq i (by rw [mkP_len] at hi; exact hi)⟩, ((Within.of_below BA.out).trans W1.out).trans g2⟩
    refine ⟨O1.out.1, ?_⟩
    rcases O1.out.2 with hn | ⟨g, cap, cur, hv, hbg, hgg, rest⟩
    · exact .inl hn
    · refine .inr ⟨g, cap, cur, hv, hbg, ?_, rest⟩
      have hb : vd.ownBlock = some g := by rw [hv]; rfl
      rw [f2 g (Array.getElem?_eq_some_iff.1 hgg).1 ?_ ?_]
      · exact hgg
      · rcases HO.out.dp with h | h
        · rw [h]; simp
        · rw [← hb]; exact fun e => h e.symm
      · intro i hi
        rcases HO.out.dq i hi with h | h
        · rw [h]; simp
        · rw [← hb]; exact h
  clear o2 g2 f2
  go_wp2
  go_ret
  exact ⟨rfl, FIN.out.1, FIN.out.2⟩

set_option maxHeartbeats 400000 in
theorem heldDisk_any (w : World) (vd vp : Value) (dl : Nat) (ps : List (Int × List Int)) (k : Int) (h : Rd .u8 w vd (marks k dl)) (hp : RdW w vp (mkP ps (k + dl))) (hk0 : 0 ≤ k) (hk1 : k ≤ 2097152) (hl : dl ≤ 1048576) (hn : ps.length ≤ 1048576) (ht : tot ps ≤ 1048576) :
    Calls Try.prog 29 #[.agg #[vd, vp], .int .i64 k] w fun e w' => e = .returned (.int .i64 (ks ps (k + dl) ps.length)) ∧ Below w.heap.size w w' := by
  have BA : Hid (Below w.heap.size w (w.alloc (.cells #[vd, vp] 38))) := (Below.refl _ _).alloc (Nat.le_refl _) _
  have HR : Hid (Rd .u8 (w.alloc (.cells #[vd, vp] 38)) vd (marks k dl)) := h.below BA.out
  have HP : Hid (RdW (w.alloc (.cells #[vd, vp] 38)) vp (mkP ps (k + dl))) := hp.below BA.out
  clear h hp
  go_enter Try.func29, Try.ntmps29
  go_wp2_with fail
  refine (heldByteS_any _ _ dl k HR.out hk0 (by omega) (by omega)).mono ?_
  rintro e w1 ⟨rfl, hw⟩
  subst hw
  have h0 : ¬ (k + (dl : Int)) < 0 := by omega
  go_wp2_with fail
  refine (heldWriteS_any _ _ ps (k + dl) HP.out (by omega) (by omega) hn ht).mono ?_
  rintro e w2 ⟨rfl, hw⟩
  subst hw
  have h1 : ¬ ks ps (k + dl) ps.length < 0 := by unfold ks; omega
  go_wp2
  go_ret
  exact ⟨rfl, BA.out⟩

end Go.Proofs.Ytplfpfnedgjidaa

namespace Go.Proofs.Ytplfpfnedgjidaa
open Go.RowKit

set_option maxHeartbeats 400000 in
set_option maxRecDepth 100000 in
theorem l1Copy_row (w : World) (b o n cap : Nat) (xs : List Int) (hx : xs.length = n) (hb : b < w.heap.size) (hc : ∀ i, i < n → w.cell? ⟨b, o + i, none⟩ = some (.int .u8 (xs.getD i 0))) (hn : n ≤ 1099511627776) :
    Calls Try.prog 80 #[.slice (some ⟨b, o, none⟩) n cap] w fun e w' => ∃ v', e = .returned v' ∧ Own .u8 5 w' w.heap.size v' xs ∧ Below w.heap.size w w' := by
  obtain ⟨i0, hi, hz0, hz1, hz2⟩ := info_parts Try.infoB
  have HC : Hid (∀ i, i < n → w.cell? ⟨b, o + i, none⟩ = some (.int .u8 (xs.getD i 0))) := hc
  have HX : Hid (xs.length = n) := hx
  clear hc hx
  go_enter Try.func80, Try.ntmps80
  go_wp2
  go_loopw [3, 4] (fun v i wr => ∃ k : Nat, k ≤ n ∧ i = .int .i64 k ∧ wr.ownsRow w.heap.size 5 1 v k ((xs.take k).map (Value.int .u8)) ∧ Below w.heap.size w wr) (fun _ i _ => n - (intOf i).toNat)
  case atStart => exact ⟨0, Nat.zero_le _, rfl, World.ownsRow_lit w #[] 0 (Nat.le_refl _) (Nat.zero_le _) rfl, (Below.refl _ _).alloc (Nat.le_refl _) _⟩
  case round =>
    obtain ⟨k, hk, rfl, ho, hg⟩ := hrel
    by_cases hlt : k < n
    · have hltI : (k : Int) < (n : Int) := by omega
      have hsrc : wr.cell? ⟨b, o + k, none⟩ = some (.int .u8 (xs.getD k 0)) := (hg.cell (p := ⟨b, o + k, none⟩) hb).trans (HC.out k hlt)
      have HTK : Hid (xs.take (k + 1) = xs.take k ++ [xs.getD k 0]) := take_succ_getD xs k (by rw [HX.out]; exact hlt)
      generalize xs.getD k 0 = x at *
      go_wp2_with (at_builtin; go_must (refine wpList_append_own _ rfl _ _ 22 rfl w.heap.size 5 i0 (.int .u8 0) 1 1 Try.underlying22 hi hz0 hz1 hz2 rfl (by decide) _ _ _ rfl (ho.alloc _) ⟨wr.heap.size, 0, none⟩ 1 1 [.int .u8 x] rfl rfl (cell_one_new _ _ _) (by intro u hu; simp at hu; subst hu; rfl) ?c3 ?c4 ?c5 ?_))
      case c3 => unfold maxLen; omega
      case c4 => omega
      case c5 => have := hg.size; simp; omega
      intro v2 w2 ho2 hg2 _
      have HO2 : Hid (w2.ownsRow w.heap.size 5 1 v2 (k + 1) ((xs.take (k + 1)).map (Value.int .u8))) := by
        show World.ownsRow _ _ _ _ _ _ _; rw [HTK.out, List.map_append, List.map_take]; exact ho2
      have HG2 : Hid (Below w.heap.size w w2) := (hg.alloc (hg.size) _).grown hg2 (by have := hg.size; simp; omega) (fun q hq => (ho.lt q hq).1)
      clear ho2 hg2 ho hg
      go_wp2
      go_roundw
      case rel => exact ⟨k + 1, by omega, by go_num, HO2.out, HG2.out⟩
      case measure => simp [intOf]; omega
    · have hkn : k = n := by omega
      subst hkn
      go_wp2
      go_ret
      exact ⟨_, rfl, own_of (ys := xs) HX.out rfl (by rw [List.take_of_length_le (by rw [HX.out]; exact Nat.le_refl _)] at ho; exact ho), hg⟩

set_option maxHeartbeats 400000 in
theorem l1Copy_nil (w : World) (ao : Option Addr) (cap : Nat) :
    Calls Try.prog 80 #[.slice ao 0 cap] w fun e w' => ∃ v', e = .returned v' ∧ Own .u8 5 w' w.heap.size v' [] ∧ Below w.heap.size w w' := by
  go_enter Try.func80, Try.ntmps80
  go_wp2
  go_rounds 1
  go_ret
  exact ⟨_, rfl, World.ownsRow_lit w #[] 0 (Nat.le_refl _) (Nat.zero_le _) rfl, (Below.refl _ _).alloc (Nat.le_refl _) _⟩

theorem l1Copy_any (w : World) (v : Value) (xs : List Int) (h : Rd .u8 w v xs) (hn : xs.length ≤ 1099511627776) :
    Calls Try.prog 80 #[v] w fun e w' => ∃ v', e = .returned v' ∧ Own .u8 5 w' w.heap.size v' xs ∧ Below w.heap.size w w' := by
  obtain ⟨ao, cap, rfl, h1, h2, h3⟩ := h
  rcases h3 with rfl | ⟨b, o, rfl, hb, hc⟩
  · exact l1Copy_nil w ao cap
  · exact l1Copy_row w b o xs.length cap xs rfl hb hc hn

theorem cells_list {k : IntKind} {w : World} {b o : Nat} {xs : List Int} (hc : ∀ i, i < xs.length → w.cell? ⟨b, o + i, none⟩ = some (.int k (xs.getD i 0))) : ∀ j u, (xs.map (Value.int k))[j]? = some u → w.cell? ((⟨b, o, none⟩ : Addr).add j) = some u := by
  intro j u hu
  have hj : j < xs.length := by have := (List.getElem?_eq_some_iff.1 hu).1; simpa using this
  rw [Addr.add_lit, hc j hj]
  simp [List.getElem?_eq_getElem hj] at hu
  simp [List.getD, hj, hu]

set_option maxHeartbeats 400000 in
set_option maxRecDepth 100000 in
theorem clone_any (w : World) (v : Value) (xs : List Int) (h : Rd .u8 w v xs) (hn : xs.length ≤ 1099511627776) :
    Calls Try.prog 78 #[v] w fun e w' => ∃ v', e = .returned v' ∧ Own .u8 5 w' w.heap.size v' xs ∧ Below w.heap.size w w' := by
  obtain ⟨i0, hi, hz0, hz1, hz2⟩ := info_parts Try.infoB
  obtain ⟨ao, cap, rfl, h1, h2, h3⟩ := h
  have q22 : ∀ (w : World) (a : Option Addr) (n c n' c' : Nat), (binOp .eql 22 (.slice a n c) (.slice none n' c')).run Try.prog w = .ok (.bool a.isNone) w := fun w a n c n' c' => Lib.run_eql_slice_nil w _ _ a n c n' c' Try.underlying22
  have HE : Hid ((w.alloc (.cells #[] 5)).ownsRow w.heap.size 5 1 (.slice (some ⟨w.heap.size, 0, none⟩) 0 0) 0 []) := World.ownsRow_lit w #[] 0 (Nat.le_refl _) (Nat.zero_le _) rfl
  have HB : Hid (Below w.heap.size w (w.alloc (.cells #[] 5))) := (Below.refl _ _).alloc (Nat.le_refl _) _
  cases ao with
  | none =>
    have hx : xs = [] := by
      rcases h3 with h3 | ⟨b, o, e, _⟩
      · exact h3
      · cases e
    subst hx
    clear h3
    go_enter Try.func78, Try.ntmps78
    go_wp2
    go_ret
    exact ⟨_, rfl, World.ownsRow_nil _ _ _ _, Below.refl _ _⟩
  | some a =>
    have hcs : ∀ j u, (xs.map (Value.int .u8))[j]? = some u → (w.alloc (.cells #[] 5)).cell? (a.add j) = some u := by
      rcases h3 with rfl | ⟨b, o, e, hb, hc⟩
      · intro j u hu; simp at hu
      · injection e with e
        subst e
        exact cells_list (fun i hi => (HB.out.cell (p := ⟨b, o + i, none⟩) hb).trans (hc i hi))
    have HCS : Hid (∀ j u, (xs.map (Value.int .u8))[j]? = some u → (w.alloc (.cells #[] 5)).cell? (a.add j) = some u) := hcs
    clear h3 hcs
    go_enter Try.func78, Try.ntmps78
    go_wp2_with (at_builtin; go_must (refine wpList_append_own _ rfl _ _ 22 rfl w.heap.size 5 i0 (.int .u8 0) 1 1 Try.underlying22 hi hz0 hz1 hz2 rfl (by decide) _ _ _ rfl HE.out a xs.length cap (xs.map (Value.int .u8)) rfl ?c0 HCS.out (ints_oneCell _ _) ?c3 ?c4 ?c5 ?_))
    case c0 => simp
    case c3 => unfold maxLen; omega
    case c4 => omega
    case c5 => simp
    intro v2 w2 ho2 hg2 _
    have HO2 : Hid (Own .u8 5 w2 w.heap.size v2 xs) := by
      exact ho2
    have HG2 : Hid (Below w.heap.size w w2) := HB.out.grown hg2 (by simp) (by intro q hq; simp [Value.ownBlock] at hq; omega)
    clear ho2 hg2
    go_wp2
    go_ret
    exact ⟨_, rfl, HO2.out, HG2.out⟩

/-! ### appends inside a region that draws -/
theorem step_fits {P : Program} {ops : Array Oper} {o : Oper} {a : Act} {w : World} {K : Act → World → Prop} {Q : Exit → Act → World → Prop} {E : Prop}
    (hg : o.guard = none) (s x : Operand) (t : TypeId) (hop : o.op = Op.call { callee := Callee.builtin Builtin.append, args := #[s, x], argTypes := #[t, t] })
    (base : Nat) (e : TypeId) (i : TypeInfo) (size : Nat) (h1 : P.underlying t = some (.slice e)) (h2 : P.info? e = some i) (h4 : i.size = size)
    (g k cap : Nat) (xs : List Value) (hs : a.eval s = .slice (some ⟨g, 0, none⟩) k cap) (hown : w.ownsRow base e size (.slice (some ⟨g, 0, none⟩) k cap) k xs) (ad : Addr) (m c : Nat) (news : List Value) (hx : a.eval x = .slice (some ad) m c) (hn : news.length = m * size)
    (hc : ∀ j u, news[j]? = some u → w.cell? (ad.add j) = some u) (h1c : ∀ u ∈ news, u.oneCell' = true) (b1 : k + m ≤ cap)
    (hK : ∀ w', w'.ownsRow base e size (.slice (some ⟨g, 0, none⟩) (k + m) cap) (k + m) (xs ++ news) → w.grownBy w' (some g) → K (a.put o.dst (.slice (some ⟨g, 0, none⟩) (k + m) cap)) w') :
    if Region.wanted o (yielded ops a.tmps) = true then Oper.wp P o a w K Q else E := by
  have hw : Region.wanted o (yielded ops a.tmps) = true := by simp [Region.wanted, hg]
  rw [if_pos hw]
  obtain ⟨w', hrun, r1, r2⟩ := run_append_fits (P := P) w base t o.type e i size h1 h2 h4 g k cap xs hown ad m c news hn hc h1c b1
  unfold Oper.wp
  simp [execOp, hop, resolve, invoke, builtin, hs, hx, hrun, Result.andThen]
  exact hK w' r1 r2

theorem step_own {P : Program} {ops : Array Oper} {o : Oper} {a : Act} {w : World} {K : Act → World → Prop} {Q : Exit → Act → World → Prop} {E : Prop}
    (hg : o.guard = none) (s x : Operand) (t : TypeId) (hop : o.op = Op.call { callee := Callee.builtin Builtin.append, args := #[s, x], argTypes := #[t, t] })
    (base : Nat) (e : TypeId) (i : TypeInfo) (z : Value) (size bytes : Nat) (h1 : P.underlying t = some (.slice e)) (h2 : P.info? e = some i) (h3 : i.zero = some z) (h4 : i.size = size) (h5 : i.bytes = bytes) (h6 : z.cells.size = size) (h7 : 0 < size)
    (v : Value) (n : Nat) (xs : List Value) (hs : a.eval s = v) (hown : w.ownsRow base e size v n xs) (ad : Addr) (m c : Nat) (news : List Value) (hx : a.eval x = .slice (some ad) m c) (hn : news.length = m * size)
    (hc : ∀ j u, news[j]? = some u → w.cell? (ad.add j) = some u) (h1c : ∀ u ∈ news, u.oneCell' = true) (b1 : n + m ≤ maxLen) (b2 : (n + m) * bytes ≤ 140737488355328) (hb : base ≤ w.heap.size)
    (hK : ∀ v' w', w'.ownsRow base e size v' (n + m) (xs ++ news) → w.grownBy w' v.ownBlock → K (a.put o.dst v') w') :
    if Region.wanted o (yielded ops a.tmps) = true then Oper.wp P o a w K Q else E := by
  have hw : Region.wanted o (yielded ops a.tmps) = true := by simp [Region.wanted, hg]
  rw [if_pos hw]
  obtain ⟨v', w', hrun, r1, r2, _⟩ := run_append_own (P := P) w base t o.type e i z size bytes h1 h2 h3 h4 h5 h6 h7 v n xs hown ad m c news hn hc h1c b1 b2 hb
  unfold Oper.wp
  simp [execOp, hop, resolve, invoke, builtin, hs, hx, hrun, Result.andThen]
  exact hK v' w' r1 r2

end Go.Proofs.Ytplfpfnedgjidaa

namespace Go.Proofs.Ytplfpfnedgjidaa
open Go.RowKit

/-- A drawn block. -/
def Sr.fill (s : Sr) : List Int × Sr :=
  ((List.replicate 64 ((1 + (s.next 255).1 : Nat) : Int)).set ((s.next 255).2.next 64).1 ((((s.next 255).2.next 64).2.next 256).1 : Int), (((s.next 255).2.next 64).2.next 256).2)
theorem Sr.fill_len (s : Sr) : s.fill.1.length = 64 := by simp [Sr.fill]

theorem rowTch {w w' : World} {lo k m n : Nat} {e : TypeId} {v : Value} {us : List Value} (h : w.ownsRow lo e m v n us) (t : Tch k w w') (hk : k < lo) : w'.ownsRow lo e m v n us := by
  refine ⟨h.1, ?_⟩
  rcases h.2 with hn | ⟨g, cap, cur, rfl, hbg, hgg, rest⟩
  · exact .inl hn
  · exact .inr ⟨g, cap, cur, rfl, hbg, (t.2 g (by omega) (Array.getElem?_eq_some_iff.1 hgg).1).trans hgg, rest⟩
theorem Own.tch {c : IntKind} {w w' : World} {lo k : Nat} {e : TypeId} {v : Value} {xs : List Int} (h : Own c e w lo v xs) (t : Tch k w w') (hk : k < lo) : Own c e w' lo v xs := rowTch h t hk
theorem replicate_snoc (n : Nat) (x : Int) : List.replicate (n + 1) x = List.replicate n x ++ [x] := List.replicate_succ'

set_option maxHeartbeats 1000000 in
set_option maxRecDepth 100000 in
theorem fill_x (W : World) (k B : Nat) (s : Sr) (h : SRX W k B s) :
    Calls Try.prog 77 #[.pointer (some ⟨k, 0, none⟩)] W fun e w' => ∃ v', e = .returned v' ∧ Own .u8 5 w' W.heap.size v' s.fill.1 ∧ SRX w' k B s.fill.2 ∧ Tch k W w' := by
  obtain ⟨i0, hi, hz0, hz1, hz2⟩ := info_parts Try.infoB
  have HS : Hid (SRX W k B s) := h
  clear h
  go_enter Try.func77, Try.ntmps77
  go_wp2_with fail
  refine (next_x _ k B 255 s HS.out (by omega)).mono ?_
  rintro e w1 ⟨rfl, s1, t1⟩
  have hn1 := s.next_lt 255 (by omega)
  have HF : Hid (s.fill = ((List.replicate 64 ((1 + (s.next 255).1 : Nat) : Int)).set ((s.next 255).2.next 64).1 ((((s.next 255).2.next 64).2.next 256).1 : Int), (((s.next 255).2.next 64).2.next 256).2)) := rfl
  generalize (s.next 255).2 = s2 at *
  generalize (s.next 255).1 = n1 at *
  have S1 : Hid (SRX w1 k B s2) := s1
  have T1 : Hid (Tch k W w1) := t1
  clear s1 t1 HS
  have z1 := T1.out.size
  have hkB := S1.out.kB
  have hBz := S1.out.lt
  go_wp2
  go_loopw [4, 5] (fun v i wr => ∃ j : Nat, j ≤ 64 ∧ i = .int .i64 j ∧ Hid (wr.ownsRow w1.heap.size 5 1 v j ((List.replicate j (1 + (n1 : Int))).map (Value.int .u8))) ∧ Hid (Below w1.heap.size w1 wr)) (fun _ i _ => 64 - (intOf i).toNat)
  case atStart => exact ⟨0, Nat.zero_le _, rfl, World.ownsRow_lit w1 #[] 0 (Nat.le_refl _) (Nat.zero_le _) rfl, (Below.refl _ _).alloc (Nat.le_refl _) _⟩
  case round =>
    obtain ⟨j, hj, rfl, HO, HG⟩ := hrel
    by_cases hlt : j < 64
    · have hltI : (j : Int) < 64 := by omega
      go_wp2_with (at_builtin; go_must (refine wpList_append_own _ rfl _ _ 22 rfl w1.heap.size 5 i0 (.int .u8 0) 1 1 Try.underlying22 hi hz0 hz1 hz2 rfl (by decide) _ _ _ rfl (HO.out.alloc _) ⟨wr.heap.size, 0, none⟩ 1 1 [.int .u8 (1 + (n1 : Int))] rfl rfl (cell_one_new _ _ _) (by intro u hu; simp at hu; subst hu; rfl) ?c3 ?c4 ?c5 ?_))
      case c3 => unfold maxLen; omega
      case c4 => omega
      case c5 => have := HG.out.size; simp; omega
      intro v2 w2 ho2 hg2 _
      have HO2 : Hid (w2.ownsRow w1.heap.size 5 1 v2 (j + 1) ((List.replicate (j + 1) (1 + (n1 : Int))).map (Value.int .u8))) := by
        show World.ownsRow _ _ _ _ _ _ _; rw [replicate_snoc, List.map_append, List.map_replicate]; exact ho2
      have HG2 : Hid (Below w1.heap.size w1 w2) := (HG.out.alloc (HG.out.size) _).grown hg2 (by have := HG.out.size; simp; omega) (fun q hq => (HO.out.lt q hq).1)
      clear ho2 hg2 HO HG
      go_wp2
      exact ⟨⟨j + 1, by omega, by go_num, HO2, HG2⟩, by simp [intOf]; omega⟩
    · have hjn : j = 64 := by omega
      subst hjn
      have S2 : Hid (SRX wr k B s2) := S1.out.keep (HG.out.mono hBz)
      have T2 : Hid (Tch k W wr) := T1.out.then (HG.out.mono z1)
      have zz := HG.out.size
      clear S1 T1 HG
      go_wp2_with fail
      refine (next_x _ k B 64 s2 S2.out (by omega)).mono ?_
      rintro e w3 ⟨rfl, s3, t3⟩
      have hn2 := s2.next_lt 64 (by omega)
      generalize (s2.next 64).2 = r3 at *
      generalize (s2.next 64).1 = n2 at *
      have S3 : Hid (SRX w3 k B r3) := s3
      have T3 : Hid (Tch k W w3) := T2.out.trans t3
      have O3 := rowTch HO.out t3 (by omega)
      have z3 := t3.size
      clear s3 t3 S2 T2 HO
      go_wp2_with fail
      refine (next_x _ k B 256 r3 S3.out (by omega)).mono ?_
      rintro e w4 ⟨rfl, s4, t4⟩
      have hn3 := r3.next_lt 256 (by omega)
      generalize (r3.next 256).2 = r4 at *
      generalize (r3.next 256).1 = n3 at *
      have S4 : Hid (SRX w4 k B r4) := s4
      have T4 : Hid (Tch k W w4) := T3.out.trans t4
      have O4 := rowTch O3 t4 (by omega)
      have z4 := t4.size
      clear s4 t4 S3 T3 O3
      obtain ⟨g, c, hv⟩ := rowXs O4 (by omega)
      subst hv
      have hgl := World.ownsRow.lt O4 g rfl
      have cg := World.ownsRow.cellAt O4 n2 (by omega)
      obtain ⟨O5, G5⟩ := World.ownsRow.stored O4 n2 (.int .u8 (n3 : Int))
      have B5 : Hid (Below w1.heap.size w4 (w4.setCell ⟨g, n2, none⟩ (.int .u8 (n3 : Int)))) := (Below.refl _ _).setCell hgl.1 _
      have HO5 : Hid (Own .u8 5 (w4.setCell ⟨g, n2, none⟩ (.int .u8 (n3 : Int))) W.heap.size (.slice (some ⟨g, 0, none⟩) 64 c) ((List.replicate 64 ((1 + n1 : Nat) : Int)).set n2 (n3 : Int))) := by
        refine Own.mono ?_ z1
        show World.ownsRow _ _ _ _ _ _ _
        rw [List.length_set, List.length_replicate, List.map_set]
        exact O5
      have FR := World.ownsRow.frozenAt O4 n2
      clear O5 G5
      go_wp2
      go_ret
      rw [HF.out]
      exact ⟨_, rfl, HO5.out, S4.out.keep (B5.out.mono (by omega)), T4.out.then (B5.out.mono (by omega))⟩

end Go.Proofs.Ytplfpfnedgjidaa

namespace Go.Proofs.Ytplfpfnedgjidaa
open Go.RowKit

theorem rowW_snoc (k : Nat) (ps : List (Int × List Int)) (dv : Nat → Value) (v : Value) : rowW (k + 1) (pB ps) (dvSet dv k v) = rowW k (pB ps) dv ++ [.int .i64 (pB ps k), v] := by
  rw [rowW_succ]
  congr 1
  · exact rowW_congr (fun _ _ => rfl) (fun i hi => by unfold dvSet; rw [if_neg (by omega)])
  · unfold dvSet; rw [if_pos rfl]

/-- A local struct of two cells that may be written. -/
def BoxF (w : World) (b : Nat) (x y : Value) : Prop := Box2 w b x y ∧ w.frozen? ⟨b, 0, none⟩ = false ∧ w.frozen? ⟨b, 1, none⟩ = false
theorem BoxF.below {w w' : World} {b : Nat} {x y : Value} (h : BoxF w b x y) (hb : Below w.heap.size w w') : BoxF w' b x y :=
  ⟨h.1.below hb, (hb.frozen (p := ⟨b, 0, none⟩) h.1.1).trans h.2.1, (hb.frozen (p := ⟨b, 1, none⟩) h.1.1).trans h.2.2⟩
theorem BoxF.new (w : World) (x y : Value) (t : TypeId) : BoxF (w.alloc (.cells #[x, y] t)) w.heap.size x y := ⟨Box2.new _ _ _ _, by simp, by simp⟩
theorem BoxF.belowB {w w' : World} {b B : Nat} {x y : Value} (h : BoxF w b x y) (hb : Below B w w') (hB : b < B) : BoxF w' b x y :=
  ⟨⟨Nat.lt_of_lt_of_le h.1.1 hb.size, (hb.cell (p := ⟨b, 0, none⟩) hB).trans h.1.2.1, (hb.cell (p := ⟨b, 1, none⟩) hB).trans h.1.2.2⟩, (hb.frozen (p := ⟨b, 0, none⟩) hB).trans h.2.1, (hb.frozen (p := ⟨b, 1, none⟩) hB).trans h.2.2⟩

theorem RdW.recAt {w : World} {ao : Option Addr} {n cap k : Nat} {ps : List (Int × List Int)} (h : RdW w (.slice ao n cap) ps) (hl : ps.length = n) (hk : k < n) : ∃ b o, ao = some ⟨b, o, none⟩ ∧ b < w.heap.size ∧
    w.cell? ⟨b, o + k * 2, none⟩ = some (.int .i64 (pB ps k)) ∧ ∃ da c, w.cell? ⟨b, o + k * 2 + 1, none⟩ = some (.slice da (pD ps k).length c) ∧ Rd .u8 w (.slice da (pD ps k).length c) (pD ps k) := by
  obtain ⟨ao', cap', e, h1, h2, h3⟩ := h
  simp only [Value.slice.injEq] at e
  obtain ⟨rfl, _, rfl⟩ := e
  rcases h3 with rfl | ⟨b, o, rfl, hb, hc⟩
  · simp at hl; omega
  · obtain ⟨c1, da, c, c2, r⟩ := hc k (by omega)
    exact ⟨b, o, rfl, hb, c1, da, c, c2, r⟩

/-- What the rounds of a copy have made so far. -/
def Made (w : World) (lo g k cap : Nat) (ps : List (Int × List Int)) (dv : Nat → Value) : Prop :=
  w.ownsRow lo 64 2 (.slice (some ⟨g, 0, none⟩) k cap) k (rowW k (pB ps) dv) ∧ (∀ i, i < k → Own .u8 5 w (g + 1) (dv i) (pD ps i)) ∧ (∀ i j, i < k → j < k → i ≠ j → Ne2 (dv i) (dv j))

theorem Own.none_or {k : IntKind} {e : TypeId} {w : World} {base B : Nat} {v : Value} {xs : List Int} (h : Own k e w base v xs) (hB : B < base) : v.ownBlock = none ∨ v.ownBlock ≠ some B := by
  cases hv : v.ownBlock with
  | none => exact .inl rfl
  | some q => have := (h.lt q hv).1; exact .inr (by simp; omega)

theorem Made.below {w w' : World} {lo g k cap : Nat} {ps : List (Int × List Int)} {dv : Nat → Value} (h : Made w lo g k cap ps dv) (hb : Below w.heap.size w w') : Made w' lo g k cap ps dv :=
  ⟨World.ownsRow.kept h.1 (row := none) ⟨hb.os, hb.tape, hb.output, hb.size, fun q hq _ => hb.block q hq⟩ (.inr (by simp [Value.ownBlock])), fun i hi => (h.2.1 i hi).below hb, h.2.2⟩

theorem made_step {wr w' w4 : World} {lo g k cap : Nat} {ps : List (Int × List Int)} {dv : Nat → Value} {v : Value} {ob : Obj} (hm : Made wr lo g k cap ps dv) (hgr : g < wr.heap.size) (bw : Below wr.heap.size wr w') (o' : Own .u8 5 w' wr.heap.size v (pD ps k))
    (ho4 : w4.ownsRow lo 64 2 (.slice (some ⟨g, 0, none⟩) (k + 1) cap) (k + 1) (rowW k (pB ps) dv ++ [.int .i64 (pB ps k), v])) (hg4 : (w'.alloc ob).grownBy w4 (some g)) : Made w4 lo g (k + 1) cap ps (dvSet dv k v) := by
  have G : w'.grownBy w4 (some g) := World.grownBy.trans (World.grownBy_alloc w' ob (some g)) hg4
  refine ⟨by rw [rowW_snoc]; exact ho4, fun i hi => ?_, fun i j hi hj hne => ?_⟩
  · unfold dvSet
    by_cases e : i = k
    · subst e
      rw [if_pos rfl]
      exact (o'.mono (by omega)).other G ((o'.mono (base' := g + 1) (by omega)).none_or (by omega))
    · rw [if_neg e]
      have h1 := hm.2.1 i (by omega)
      exact (h1.below bw).other G (h1.none_or (by omega))
  · unfold dvSet Ne2
    by_cases e : i = k
    · by_cases e' : j = k
      · omega
      · rw [if_pos e, if_neg e']
        cases hv : v.ownBlock with
        | none => exact .inl rfl
        | some q =>
          right; intro hq
          have := (o'.lt q hv).1; have := ((hm.2.1 j (by omega)).lt q hq.symm).2; omega
    · by_cases e' : j = k
      · rw [if_neg e, if_pos e']
        cases hv : (dv i).ownBlock with
        | none => exact .inl rfl
        | some q =>
          right; intro hq
          have := (o'.lt q hq.symm).1; have := ((hm.2.1 i (by omega)).lt q hv).2; omega
      · rw [if_neg e, if_neg e']
        exact hm.2.2 i j (by omega) (by omega) hne

theorem OwnD.mono {w : World} {lo lo' hi hi' : Nat} {vd vp : Value} {dur : List Int} {ps : List (Int × List Int)} {dv : Nat → Value} (ho : OwnD w lo hi vd vp dur ps dv) (hl : lo' ≤ lo) (hh : hi ≤ hi') : OwnD w lo' hi' vd vp dur ps dv :=
  ⟨ho.d.mono hl, ho.p.mono hl, fun g hg => Nat.lt_of_lt_of_le (ho.dlt g hg) hh, fun g hg => Nat.lt_of_lt_of_le (ho.plt g hg) hh, fun i hi g hg => Nat.lt_of_lt_of_le (ho.qlt i hi g hg) hh, ho.dp, ho.dq⟩

theorem made_ownD {w6 w7 : World} {lo g k cap : Nat} {vd : Value} {dur : List Int} {ps : List (Int × List Int)} {dv : Nat → Value} (hm : Made w6 lo g k cap ps dv) (hl : ps.length = k) (hb : Below w6.heap.size w6 w7) (hd : Own .u8 5 w7 w6.heap.size vd dur) (hlo : lo ≤ g) :
    OwnD w7 lo w7.heap.size vd (.slice (some ⟨g, 0, none⟩) k cap) dur ps dv := by
  subst hl
  have m7 := hm.below hb
  have hg6 := (World.ownsRow.lt hm.1 g rfl).2
  refine ⟨hd.mono (by omega), ⟨m7.1, fun i hi => (m7.2.1 i hi).mono (by omega), m7.2.2, fun i hi => ?_⟩, fun g hg => (hd.lt g hg).2, fun g' hg => (World.ownsRow.lt m7.1 g' hg).2, fun i hi g hg => ((m7.2.1 i hi).lt g hg).2, ?_, fun i hi => ?_⟩
  · exact (hm.2.1 i hi).none_or (B := g) (by omega)
  · right
    intro e
    have := (hd.lt g e.symm).1
    omega
  · cases hv : (dv i).ownBlock with
    | none => exact .inl hv
    | some q =>
      right; intro e
      rw [hv] at e
      have := (hd.lt q e.symm).1; have := ((hm.2.1 i hi).lt q hv).2; omega

theorem pB_app (ps : List (Int × List Int)) (p : Int × List Int) (i : Nat) (h : i < ps.length) : pB (ps ++ [p]) i = pB ps i := by unfold pB; simp [List.getD, List.getElem?_append_left h]
theorem pD_app (ps : List (Int × List Int)) (p : Int × List Int) (i : Nat) (h : i < ps.length) : pD (ps ++ [p]) i = pD ps i := by unfold pD; simp [List.getD, List.getElem?_append_left h]
theorem pB_last (ps : List (Int × List Int)) (p : Int × List Int) : pB (ps ++ [p]) ps.length = p.1 := by unfold pB; simp [List.getD]
theorem pD_last (ps : List (Int × List Int)) (p : Int × List Int) : pD (ps ++ [p]) ps.length = p.2 := by unfold pD; simp [List.getD]

set_option maxHeartbeats 1000000 in
set_option maxRecDepth 100000 in
theorem implWrite_loop (w : World) (va vb vx : Option Addr) (dl ca n cb cx : Nat) (dur xs : List Int) (ps : List (Int × List Int)) (x : Int) (hd : Rd .u8 w (.slice va dl ca) dur) (hdl : dur.length = dl) (hp : RdW w (.slice vb n cb) ps) (hl : ps.length = n)
    (hx : Rd .u8 w (.slice vx 64 cx) xs) (hxl : xs.length = 64) (hv : vldD dl ps = true) (hn : n < 2000) (hx0 : 0 ≤ x) (hx1 : x < (dl / 64 : Nat)) (hd1 : dl ≤ 1048576) (hpd : ∀ i, (pD ps i).length ≤ 1048576) :
    Calls Try.prog 44 #[.agg #[.slice va dl ca, .slice vb n cb], .int .i64 x, .slice vx 64 cx] w fun e w' => ∃ v1 v2 dv, e = .returned (.agg #[v1, v2]) ∧ OwnD w' w.heap.size w'.heap.size v1 v2 dur (ps ++ [(x, xs)]) dv ∧ Below w.heap.size w w' := by
  obtain ⟨i0, hi, hz0, hz1, hz2⟩ := info_parts Try.infoW
  have HD : Hid (Rd .u8 w (.slice va dl ca) dur) := hd
  have HP : Hid (RdW w (.slice vb n cb) ps) := hp
  have HX : Hid (Rd .u8 w (.slice vx 64 cx) xs) := hx
  have HL : Hid (ps.length = n) := hl
  have HXL : Hid (xs.length = 64) := hxl
  have HDL : Hid (dur.length = dl) := hdl
  have HPD : Hid (∀ i, (pD ps i).length ≤ 1048576) := hpd
  have BA : Hid (∀ o1 o2, Below w.heap.size w ((w.alloc o1).alloc o2)) := fun o1 o2 => ((Below.refl _ _).alloc (Nat.le_refl _) _).alloc (by simp) _
  obtain ⟨qs, hqs⟩ : ∃ qs, qs = ps ++ [(x, xs)] := ⟨_, rfl⟩
  have HQ : Hid (qs.length = n + 1 ∧ (∀ i, i < n → pB qs i = pB ps i ∧ pD qs i = pD ps i) ∧ pB qs n = x ∧ pD qs n = xs) := by
    subst hqs; subst hl
    exact ⟨by simp, fun i hi => ⟨pB_app _ _ _ hi, pD_app _ _ _ hi⟩, pB_last _ _, pD_last _ _⟩
  rw [← hqs]
  clear hqs hd hp hx hl hxl hdl hpd
  go_enter Try.func44, Try.ntmps44
  go_wp2_with fail
  have XA0 : Hid (BoxF ((w.alloc (.cells #[.slice va dl ca, .slice vb n cb] 38)).alloc (.cells #[.slice none 0 0, .slice none 0 0] 38)) w.heap.size (.slice va dl ca) (.slice vb n cb)) := (BoxF.new w _ _ _).below ((Below.refl _ _).alloc (Nat.le_refl _) _)
  have XR0 : Hid (BoxF ((w.alloc (.cells #[.slice va dl ca, .slice vb n cb] 38)).alloc (.cells #[.slice none 0 0, .slice none 0 0] 38)) (w.heap.size + 1) (.slice none 0 0) (.slice none 0 0)) := by
    have := BoxF.new (w.alloc (.cells #[.slice va dl ca, .slice vb n cb] 38)) (.slice none 0 0) (.slice none 0 0) 38
    show BoxF _ _ _ _
    simpa using this
  have B0 := BA.out (.cells #[.slice va dl ca, .slice vb n cb] 38) (.cells #[.slice none 0 0, .slice none 0 0] 38)
  have HB0 : Hid (Below w.heap.size w ((w.alloc (.cells #[.slice va dl ca, .slice vb n cb] 38)).alloc (.cells #[.slice none 0 0, .slice none 0 0] 38))) := B0
  clear B0 BA
  generalize (w.alloc (.cells #[.slice va dl ca, .slice vb n cb] 38)).alloc (.cells #[.slice none 0 0, .slice none 0 0] 38) = w0 at *
  refine (implValid_any _ va vb dl ca n cb ps (HP.out.below HB0.out) HL.out hd1 (by omega) HPD.out).mono ?_
  rintro e w1 ⟨rfl, b1⟩
  rw [hv]
  have HB1 : Hid (Below w.heap.size w w1) := HB0.out.trans (b1.mono HB0.out.size)
  have XA1 : Hid (BoxF w1 w.heap.size (.slice va dl ca) (.slice vb n cb)) := XA0.out.below b1
  have XR1 : Hid (BoxF w1 (w.heap.size + 1) (.slice none 0 0) (.slice none 0 0)) := XR0.out.below b1
  clear b1 XA0 XR0 HB0 hv
  obtain ⟨⟨z1, c0, c1⟩, -⟩ := XA1.out
  have t1 : ¬ (2000 : Int) ≤ (n : Int) := by omega
  have t1d : decide ((2000 : Int) ≤ (n : Int)) = false := by simpa using t1
  go_wp2_with fail
  refine (hasBlock_any _ va dl ca _ x hd1).mono ?_
  rintro e w2 ⟨rfl, b2⟩
  rw [show decide (0 ≤ x ∧ x < ((dl / 64 : Nat) : Int)) = true by rw [decide_eq_true_eq]; exact ⟨hx0, hx1⟩]
  have HB2 : Hid (Below w.heap.size w w2) := HB1.out.trans (b2.mono HB1.out.size)
  have XA2 : Hid (BoxF w2 w.heap.size (.slice va dl ca) (.slice vb n cb)) := XA1.out.below b2
  have XR2 : Hid (BoxF w2 (w.heap.size + 1) (.slice none 0 0) (.slice none 0 0)) := XR1.out.below b2
  have s2 := HB2.out.size
  clear b2 XA1 XR1 HB1 z1 c0 c1 hx0 hx1
  obtain ⟨⟨z1, c0, c1⟩, -⟩ := XA2.out
  have zr := XR2.out.1.1
  go_wp2_with (at_make; go_must (refine wpList_make_own _ rfl _ _ 36 rfl w2.heap.size 64 i0 (.agg #[.int .i64 0, .slice none 0 0]) 2 Try.underlying36 hi hz0 hz1 _ _ _ (n + 1) rfl rfl ?b1 ?b2 ?b3 ?b4 ?_))
  case b1 => omega
  case b2 => rw [hz2]; omega
  case b3 => unfold maxLen; omega
  case b4 => exact Nat.le_refl _
  intro w3 hown hgrow
  have B3 : Hid (Below w2.heap.size w2 w3) := (Below.refl _ _).grown hgrow (Nat.le_refl _) (by simp)
  have M3 : Hid (Made w3 w2.heap.size w2.heap.size 0 (n + 1) qs (fun _ => .slice none 0 0)) := ⟨hown, fun i hi => by omega, fun i j hi => by omega⟩
  have c03 := (B3.out.cell (p := ⟨w.heap.size, 0, none⟩) z1).trans c0
  have c13 := (B3.out.cell (p := ⟨w.heap.size, 1, none⟩) z1).trans c1
  clear hown hgrow c0 c1
  go_wp2
  clear c03 c13
  go_loopw [7, 38] (fun v i wr => ∃ (k : Nat) (dv : Nat → Value), k ≤ n ∧ i = .int .i64 k ∧ v = .slice (some ⟨w2.heap.size, 0, none⟩) k (n + 1) ∧ Hid (Made wr w2.heap.size w2.heap.size k (n + 1) qs dv) ∧ Below w2.heap.size w2 wr) (fun _ i _ => n - (intOf i).toNat)
  case atStart => exact ⟨0, _, Nat.zero_le _, rfl, rfl, M3, B3.out⟩
  case round =>
    clear M3 B3
    obtain ⟨k, dv, hk, rfl, rfl, HM, hg⟩ := hrel
    by_cases hlt : k < n
    · obtain ⟨b, o, rfl, hb, e1, da, dc, e2, r⟩ := HP.out.recAt HL.out hlt
      have BW : Hid (Below w.heap.size w wr) := HB2.out.trans (hg.mono s2)
      have e1' := (BW.out.cell (p := ⟨b, o + k * 2, none⟩) hb).trans e1
      have e2' := (BW.out.cell (p := ⟨b, o + k * 2 + 1, none⟩) hb).trans e2
      have RK : Hid (Rd .u8 wr (.slice da (pD ps k).length dc) (pD ps k)) := r.below BW.out
      have HG : Hid (Below w2.heap.size w2 wr) := hg
      have sg := hg.size
      have hltI : (k : Int) < (n : Int) := by omega
      clear e1 e2 r hg
      have hpk := HPD.out k
      go_wp2_with fail
      have BAl : Below wr.heap.size wr (wr.alloc (.cells #[.int .i64 (pB ps k), .slice da (pD ps k).length dc] 64)) := (Below.refl _ _).alloc (Nat.le_refl _) _
      have HCL : Hid (Calls Try.prog 78 #[.slice da (pD ps k).length dc] (wr.alloc (.cells #[.int .i64 (pB ps k), .slice da (pD ps k).length dc] 64)).drew fun e w' => ∃ a c, e = .returned (.slice a (pD ps k).length c) ∧ Hid (Own .u8 5 w' (wr.heap.size + 1) (.slice a (pD ps k).length c) (pD ps k)) ∧
          w'.cell? ⟨wr.heap.size, 0, none⟩ = some (.int .i64 (pB ps k)) ∧ w'.cell? ⟨wr.heap.size, 1, none⟩ = some (.slice da (pD ps k).length dc) ∧ Hid (Below wr.heap.size wr w')) := by
        refine (clone_any _ _ (pD ps k) ((RK.out.below BAl).drewN 1) (by omega)).mono ?_
        rintro e w' ⟨v', rfl, o', b'⟩
        obtain ⟨a, c, rfl⟩ := o'.slice
        have b2 : Below (wr.alloc (.cells #[.int .i64 (pB ps k), .slice da (pD ps k).length dc] 64)).heap.size (wr.alloc (.cells #[.int .i64 (pB ps k), .slice da (pD ps k).length dc] 64)) w' := (below_drewN' _ 1).trans b'
        have X := (Box2.new wr (.int .i64 (pB ps k)) (.slice da (pD ps k).length dc) 64).below b2
        exact ⟨a, c, rfl, by have := o'; simp at this; exact this, X.2.1, X.2.2, BAl.trans (b2.mono (by simp))⟩
      have HOW : Hid (∀ W', Below wr.heap.size wr W' → W'.ownsRow w2.heap.size 64 2 (.slice (some ⟨w2.heap.size, 0, none⟩) k (n + 1)) k (rowW k (pB qs) dv)) := fun W' hW' =>
        World.ownsRow.kept HM.out.1 (row := none) ⟨hW'.os, hW'.tape, hW'.output, hW'.size, fun q hq _ => hW'.block q hq⟩ (.inr (by simp [Value.ownBlock]))
      clear BAl e1' e2'
      go_region_law (first | (refine step_fits rfl _ _ 36 rfl w2.heap.size 64 i0 2 Try.underlying36 hi hz1 w2.heap.size k (n + 1) _ rfl ((HOW.out _ bw.out).alloc _) ⟨w'.heap.size, 0, none⟩ 1 1 [.int .i64 (pB ps k), .slice a (pD ps k).length c] rfl rfl (cell_two_new _ _ _ _) (by intro u hu; simp at hu; rcases hu with rfl | rfl <;> rfl) (by omega) ?_; intro w4 ho4 hg4) | (go_simp; go_at_call 78; refine HCL.out.mono ?_; rintro e w' ⟨a, c, rfl, o', k0, k1, bw⟩))
      all_goals
        have HM4 : Hid (Made w4 w2.heap.size w2.heap.size (k + 1) (n + 1) qs (dvSet dv k (.slice a (pD ps k).length c))) := by
          refine made_step HM.out (World.ownsRow.lt HM.out.1 _ rfl).2 bw.out ?_ ?_ hg4
          · rw [(HQ.out.2.1 k hlt).2]; exact o'.out.mono (by omega)
          · rw [(HQ.out.2.1 k hlt).1]; exact ho4
        have HG4 : Hid (Below w2.heap.size w2 w4) := ((HG.out.trans (bw.out.mono sg)).alloc (by have := bw.out.size; omega) _).grown hg4 (by have := bw.out.size; simp; omega) (by intro q hq; simp at hq; omega)
        clear ho4 hg4 o' k0 k1 bw HCL HOW HM HG
        go_wp2
        go_roundw
        case rel => exact ⟨k + 1, _, by omega, by go_num, rfl, HM4, HG4.out⟩
        case measure => simp [intOf]; omega
    · have hkn : k = n := by omega
      subst hkn
      have BW : Hid (Below w.heap.size w wr) := HB2.out.trans (hg.mono s2)
      have HG : Hid (Below w2.heap.size w2 wr) := hg
      have sg := hg.size
      have XAr : Hid (BoxF wr w.heap.size (.slice va dl ca) (.slice vb k cb)) := XA2.out.belowB HG.out z1
      have XRr : Hid (BoxF wr (w.heap.size + 1) (.slice none 0 0) (.slice none 0 0)) := XR2.out.belowB HG.out zr
      clear hg
      go_wp2_with fail
      refine (clone_any _ _ xs (HX.out.below BW.out) (by have := HXL.out; omega)).mono ?_
      rintro e w5 ⟨v5, rfl, o5, b5⟩
      obtain ⟨a5, c5, rfl⟩ := o5.slice
      have O5 : Hid (Own .u8 5 w5 wr.heap.size (.slice a5 xs.length c5) (pD qs k)) := by show Own _ _ _ _ _ _; rw [HQ.out.2.2.2]; exact o5
      have B5 : Hid (Below wr.heap.size wr w5) := b5
      have M5 : Hid (Made w5 w2.heap.size w2.heap.size k (k + 1) qs dv) := HM.out.below b5
      clear o5 b5
      go_wp2_with (at_builtin; go_must (refine wpList_append_fits _ rfl _ _ 36 rfl w2.heap.size 64 i0 2 Try.underlying36 hi hz1 w2.heap.size k (k + 1) _ rfl (M5.out.1.alloc _) ⟨w5.heap.size, 0, none⟩ 1 1 [.int .i64 x, .slice a5 xs.length c5] rfl rfl (cell_two_new _ _ _ _) (by intro u hu; simp at hu; rcases hu with rfl | rfl <;> rfl) (by omega) ?_))
      intro w6 ho6 hg6
      have M6 : Hid (Made w6 w2.heap.size w2.heap.size (k + 1) (k + 1) qs (dvSet dv k (.slice a5 xs.length c5))) := by
        refine made_step HM.out (World.ownsRow.lt HM.out.1 _ rfl).2 B5.out O5.out ?_ hg6
        rw [HQ.out.2.2.1]; exact ho6
      have B6 : Hid (Below w2.heap.size w2 w6) := ((HG.out.trans (B5.out.mono sg)).alloc (by have := B5.out.size; omega) _).grown hg6 (by have := B5.out.size; simp; omega) (by intro q hq; simp at hq; omega)
      have XA6 : Hid (BoxF w6 w.heap.size (.slice va dl ca) (.slice vb k cb)) := XA2.out.belowB B6.out z1
      have XR6 : Hid (BoxF w6 (w.heap.size + 1) (.slice none 0 0) (.slice none 0 0)) := XR2.out.belowB B6.out zr
      have BW6 : Hid (Below w.heap.size w w6) := HB2.out.trans (B6.out.mono s2)
      have s6 := B6.out.size
      clear ho6 hg6 XA2 XR2 XAr XRr M5 B5 O5 HM
      obtain ⟨⟨z6, c0, c1⟩, -⟩ := XA6.out
      go_wp2_with fail
      refine (clone_any _ _ dur (HD.out.below BW6.out) (by have := HDL.out; omega)).mono ?_
      rintro e w7 ⟨v7, rfl, o7, b7⟩
      obtain ⟨a7, c7, rfl⟩ := o7.slice
      have O7 : Hid (Own .u8 5 w7 w6.heap.size (.slice a7 dur.length c7) dur) := o7
      have B7 : Hid (Below w.heap.size w w7) := BW6.out.trans (b7.mono BW6.out.size)
      have D7 : Hid (OwnD w7 w2.heap.size w7.heap.size (.slice a7 dur.length c7) (.slice (some ⟨w2.heap.size, 0, none⟩) (k + 1) (k + 1)) dur qs (dvSet dv k (.slice a5 xs.length c5))) := made_ownD M6.out HQ.out.1 b7 o7 (Nat.le_refl _)
      have XR7 : Hid (BoxF w7 (w.heap.size + 1) (.slice none 0 0) (.slice none 0 0)) := XR6.out.below b7
      clear o7 b7 M6 XR6 XA6 c0 c1 z6
      obtain ⟨⟨z7, d0, d1⟩, f0, f1⟩ := XR7.out
      go_wp2
      refine bodyPost_ret (v := .agg #[.slice a7 dur.length c7, .slice (some ⟨w2.heap.size, 0, none⟩) (k + 1) (k + 1)]) (by simp [results, Try.results44, go_sem, d0, d1]) rfl ⟨_, _, dvSet dv k (.slice a5 xs.length c5), rfl, ?_, ?_⟩
      · refine OwnD.mono (lo := w2.heap.size) (hi := w7.heap.size) ?_ s2 (by simp)
        repeat (first | exact D7.out | refine OwnD.within (l := w.heap.size + 1) (h := w.heap.size + 2) ?_ (Within.setCell _ (Nat.le_refl _) (by omega) _ _) (.inr (by omega)))
      · repeat (first | exact B7.out | refine Below.setCell ?_ (by simp; try omega) _)

end Go.Proofs.Ytplfpfnedgjidaa

namespace Go.Proofs.Ytplfpfnedgjidaa
open Go.RowKit

theorem ownD_nil (w : World) (lo hi : Nat) : OwnD w lo hi (.slice none 0 0) (.slice none 0 0) [] [] (fun _ => .slice none 0 0) :=
  ⟨World.ownsRow_nil _ _ _ _, ⟨World.ownsRow_nil _ _ _ _, fun i hi => by simp at hi, fun i j hi => by simp at hi, fun i hi => by simp at hi⟩, fun g hg => by simp [Value.ownBlock] at hg, fun g hg => by simp [Value.ownBlock] at hg, fun i hi => by simp at hi, .inl rfl, fun i hi => by simp at hi⟩

/-- May the write be made? -/
def wrOk (dl : Nat) (ps : List (Int × List Int)) (x : Int) (m : Nat) : Bool := vldD dl ps && decide (ps.length < 2000) && decide (0 ≤ x ∧ x < ((dl / 64 : Nat) : Int)) && decide (m = 64)
def wrDur (dur : List Int) (ps : List (Int × List Int)) (x : Int) (xs : List Int) : List Int := if wrOk dur.length ps x xs.length then dur else []
def wrPend (dur : List Int) (ps : List (Int × List Int)) (x : Int) (xs : List Int) : List (Int × List Int) := if wrOk dur.length ps x xs.length then ps ++ [(x, xs)] else []

set_option maxHeartbeats 1000000 in
set_option maxRecDepth 100000 in
theorem implWrite_no (w : World) (va vb vx : Option Addr) (dl ca n cb m cx : Nat) (ps : List (Int × List Int)) (x : Int) (hp : RdW w (.slice vb n cb) ps) (hl : ps.length = n)
    (hno : wrOk dl ps x m = false) (hn : n ≤ 1048576) (hd1 : dl ≤ 1048576) (hpd : ∀ i, (pD ps i).length ≤ 1048576) :
    Calls Try.prog 44 #[.agg #[.slice va dl ca, .slice vb n cb], .int .i64 x, .slice vx m cx] w fun e w' => e = .returned (.agg #[.slice none 0 0, .slice none 0 0]) ∧ Below w.heap.size w w' := by
  have HP : Hid (RdW w (.slice vb n cb) ps) := hp
  have HL : Hid (ps.length = n) := hl
  have HPD : Hid (∀ i, (pD ps i).length ≤ 1048576) := hpd
  have BA : Hid (∀ o1 o2, Below w.heap.size w ((w.alloc o1).alloc o2)) := fun o1 o2 => ((Below.refl _ _).alloc (Nat.le_refl _) _).alloc (by simp) _
  have HNO : Hid (wrOk dl ps x m = false) := hno
  clear hp hl hpd hno
  go_enter Try.func44, Try.ntmps44
  go_wp2_with fail
  have XA0 : Hid (BoxF ((w.alloc (.cells #[.slice va dl ca, .slice vb n cb] 38)).alloc (.cells #[.slice none 0 0, .slice none 0 0] 38)) w.heap.size (.slice va dl ca) (.slice vb n cb)) := (BoxF.new w _ _ _).below ((Below.refl _ _).alloc (Nat.le_refl _) _)
  have XR0 : Hid (BoxF ((w.alloc (.cells #[.slice va dl ca, .slice vb n cb] 38)).alloc (.cells #[.slice none 0 0, .slice none 0 0] 38)) (w.heap.size + 1) (.slice none 0 0) (.slice none 0 0)) := by
    have := BoxF.new (w.alloc (.cells #[.slice va dl ca, .slice vb n cb] 38)) (.slice none 0 0) (.slice none 0 0) 38
    show BoxF _ _ _ _
    simpa using this
  have B0 := BA.out (.cells #[.slice va dl ca, .slice vb n cb] 38) (.cells #[.slice none 0 0, .slice none 0 0] 38)
  have HB0 : Hid (Below w.heap.size w ((w.alloc (.cells #[.slice va dl ca, .slice vb n cb] 38)).alloc (.cells #[.slice none 0 0, .slice none 0 0] 38))) := B0
  clear B0 BA
  generalize (w.alloc (.cells #[.slice va dl ca, .slice vb n cb] 38)).alloc (.cells #[.slice none 0 0, .slice none 0 0] 38) = w0 at *
  refine (implValid_any _ va vb dl ca n cb ps (HP.out.below HB0.out) HL.out hd1 hn HPD.out).mono ?_
  rintro e w1 ⟨rfl, b1⟩
  have HB1 : Hid (Below w.heap.size w w1) := HB0.out.trans (b1.mono HB0.out.size)
  have XA1 : Hid (BoxF w1 w.heap.size (.slice va dl ca) (.slice vb n cb)) := XA0.out.below b1
  have XR1 : Hid (BoxF w1 (w.heap.size + 1) (.slice none 0 0) (.slice none 0 0)) := XR0.out.below b1
  clear b1 XA0 XR0 HB0
  obtain ⟨⟨z1, c0, c1⟩, -⟩ := XA1.out
  obtain ⟨⟨zr, d0, d1⟩, f0, f1⟩ := XR1.out
  by_cases hv : vldD dl ps = true
  · rw [hv]
    by_cases t1 : (2000 : Int) ≤ (n : Int)
    · have t1d : decide ((2000 : Int) ≤ (n : Int)) = true := by simpa using t1
      clear hv
      go_wp2
      refine bodyPost_ret (v := .agg #[.slice none 0 0, .slice none 0 0]) (by simp [results, Try.results44, go_sem, d0, d1]) rfl ⟨rfl, ?_⟩
      repeat (first | exact HB1.out | refine Below.setCell ?_ (by simp; try omega) _)
    · have t1d : decide ((2000 : Int) ≤ (n : Int)) = false := by simpa using t1
      have HV : Hid (vldD dl ps = true) := hv
      have HT : Hid (n < 2000) := by show _ < _; omega
      clear hv
      go_wp2_with fail
      refine (hasBlock_any _ va dl ca _ x hd1).mono ?_
      rintro e w2 ⟨rfl, b2⟩
      have HB2 : Hid (Below w.heap.size w w2) := HB1.out.trans (b2.mono HB1.out.size)
      have XR2 : Hid (BoxF w2 (w.heap.size + 1) (.slice none 0 0) (.slice none 0 0)) := XR1.out.below b2
      clear b2 XA1 XR1 HB1 z1 c0 c1 zr d0 d1 f0 f1
      obtain ⟨⟨zr, d0, d1⟩, f0, f1⟩ := XR2.out
      by_cases hx : 0 ≤ x ∧ x < ((dl / 64 : Nat) : Int)
      · rw [show decide (0 ≤ x ∧ x < ((dl / 64 : Nat) : Int)) = true by rw [decide_eq_true_eq]; exact hx]
        have hm64 : ¬ m = 64 := by
          intro e
          have h : wrOk dl ps x m = true := by
            unfold wrOk
            simp only [Bool.and_eq_true, decide_eq_true_eq]
            exact ⟨⟨⟨HV.out, by have := HL.out; have := HT.out; omega⟩, hx⟩, e⟩
          rw [HNO.out] at h
          cases h
        have hmI : ¬ (m : Int) = 64 := by omega
        clear hx
        go_wp2
        refine bodyPost_ret (v := .agg #[.slice none 0 0, .slice none 0 0]) (by simp [results, Try.results44, go_sem, d0, d1]) rfl ⟨rfl, ?_⟩
        repeat (first | exact HB2.out | refine Below.setCell ?_ (by simp; try omega) _)
      · rw [show decide (0 ≤ x ∧ x < ((dl / 64 : Nat) : Int)) = false by rw [decide_eq_false_iff_not]; exact hx]
        clear hx
        go_wp2
        refine bodyPost_ret (v := .agg #[.slice none 0 0, .slice none 0 0]) (by simp [results, Try.results44, go_sem, d0, d1]) rfl ⟨rfl, ?_⟩
        repeat (first | exact HB2.out | refine Below.setCell ?_ (by simp; try omega) _)
  · have hv' : vldD dl ps = false := by simpa using hv
    rw [hv']
    clear hv hv'
    go_wp2
    refine bodyPost_ret (v := .agg #[.slice none 0 0, .slice none 0 0]) (by simp [results, Try.results44, go_sem, d0, d1]) rfl ⟨rfl, ?_⟩
    repeat (first | exact HB1.out | refine Below.setCell ?_ (by simp; try omega) _)

theorem implWrite_any (w : World) (v1 v2 v3 : Value) (dur xs : List Int) (ps : List (Int × List Int)) (x : Int) (hd : Rd .u8 w v1 dur) (hp : RdW w v2 ps) (hx : Rd .u8 w v3 xs) (hdl : dur.length ≤ 1048576) (hn : ps.length ≤ 1048576) (hpd : ∀ i, (pD ps i).length ≤ 1048576) :
    Calls Try.prog 44 #[.agg #[v1, v2], .int .i64 x, v3] w fun e w' => ∃ u1 u2 dv, e = .returned (.agg #[u1, u2]) ∧ OwnD w' w.heap.size w'.heap.size u1 u2 (wrDur dur ps x xs) (wrPend dur ps x xs) dv ∧ Below w.heap.size w w' := by
  obtain ⟨va, ca, rfl, -⟩ := hd.len
  obtain ⟨vx, cx, rfl, -⟩ := hx.len
  obtain ⟨vb, cb, rfl, -⟩ := id hp
  unfold wrDur wrPend
  cases h : wrOk dur.length ps x xs.length with
  | true =>
    simp only [if_true]
    unfold wrOk at h
    simp only [Bool.and_eq_true, decide_eq_true_eq] at h
    obtain ⟨⟨⟨h1, h2⟩, h3, h4⟩, h5⟩ := h
    rw [h5] at hx ⊢
    exact implWrite_loop w va vb vx dur.length ca ps.length cb cx dur xs ps x hd rfl hp rfl hx h5 h1 h2 h3 h4 hdl hpd
  | false =>
    simp only [Bool.false_eq_true, if_false]
    refine (implWrite_no w va vb vx dur.length ca ps.length cb xs.length cx ps x hp rfl h hn hdl hpd).mono ?_
    rintro e w' ⟨rfl, b⟩
    exact ⟨_, _, _, rfl, ownD_nil _ _ _, b⟩

end Go.Proofs.Ytplfpfnedgjidaa

namespace Go.Proofs.Ytplfpfnedgjidaa
open Go.RowKit

/-- What a read of block b gives after the first k pending writes. -/
def rdv (dur : List Int) (ps : List (Int × List Int)) (b : Nat) : Nat → List Int
  | 0 => (dur.drop (b * 64)).take 64
  | k + 1 => if pB ps k = b then pD ps k else rdv dur ps b k

/-- A slice of a slice. -/
theorem Rd.part {k : IntKind} {w : World} {blk o n cap : Nat} {xs : List Int} (h : Rd k w (.slice (some ⟨blk, o, none⟩) n cap) xs) (hn : xs.length = n) (i m : Nat) (hm : i + m ≤ n) : Rd k w (.slice (some ⟨blk, o + i, none⟩) m (cap - i)) ((xs.drop i).take m) := by
  obtain ⟨ao, cap', e, h1, h2, h3⟩ := h
  simp only [Value.slice.injEq] at e
  obtain ⟨rfl, hl, rfl⟩ := e
  have hlen : ((xs.drop i).take m).length = m := by rw [List.length_take, List.length_drop]; omega
  refine ⟨_, cap - i, by rw [hlen], by omega, by omega, ?_⟩
  rcases h3 with rfl | ⟨b', o', e, hb, hc⟩
  · left; simp
  · injection e with e
    injection e with e1 e2 _
    subst e1; subst e2
    refine .inr ⟨blk, o + i, rfl, hb, fun j hj => ?_⟩
    rw [hlen] at hj
    have := hc (i + j) (by omega)
    rw [Nat.add_assoc, this]
    simp [List.getD, List.getElem?_drop, hj]

set_option maxHeartbeats 1000000 in
set_option maxRecDepth 100000 in
theorem specRead_yes (w : World) (va vb : Option Addr) (dl ca n cb : Nat) (dur : List Int) (ps : List (Int × List Int)) (b : Nat) (hd : Rd .u8 w (.slice va dl ca) dur) (hdl : dur.length = dl) (hp : RdW w (.slice vb n cb) ps) (hl : ps.length = n)
    (hv : vldD dl ps = true) (hb : b < dl / 64) (hd1 : dl ≤ 1048576) (hn : n ≤ 2000) (hpd : ∀ i, (pD ps i).length ≤ 1048576) :
    Calls Try.prog 50 #[.agg #[.slice va dl ca, .slice vb n cb], .int .i64 b] w fun e w' => ∃ v', e = .returned v' ∧ Own .u8 5 w' w.heap.size v' (rdv dur ps b n) ∧ Below w.heap.size w w' := by
  have HD : Hid (Rd .u8 w (.slice va dl ca) dur) := hd
  have HP : Hid (RdW w (.slice vb n cb) ps) := hp
  have HL : Hid (ps.length = n) := hl
  have HDL : Hid (dur.length = dl) := hdl
  have HPD : Hid (∀ i, (pD ps i).length ≤ 1048576) := hpd
  have HV : Hid (vldD dl ps = true) := hv
  have B0 : Hid (Below w.heap.size w (w.alloc (.cells #[.slice va dl ca, .slice vb n cb] 38))) := (Below.refl _ _).alloc (Nat.le_refl _) _
  have X0 : Hid (Box2 (w.alloc (.cells #[.slice va dl ca, .slice vb n cb] 38)) w.heap.size (.slice va dl ca) (.slice vb n cb)) := Box2.new _ _ _ _
  clear hd hp hl hdl hpd hv
  go_enter Try.func50, Try.ntmps50
  go_wp2_with fail
  generalize w.alloc (.cells #[.slice va dl ca, .slice vb n cb] 38) = w0 at *
  refine (specValid_any _ va vb dl ca n cb ps (HP.out.below B0.out) HL.out hd1 (by omega) HPD.out).mono ?_
  rintro e w1 ⟨rfl, b1⟩
  rw [HV.out]
  have B1 : Hid (Below w.heap.size w w1) := B0.out.trans (b1.mono B0.out.size)
  have X1 : Hid (Box2 w1 w.heap.size (.slice va dl ca) (.slice vb n cb)) := X0.out.below b1
  clear b1 X0 B0
  have t2 : ¬ (b : Int) < 0 := by omega
  have t2d : decide ((b : Int) < 0) = false := by simp
  obtain ⟨z1, c0, c1⟩ := X1.out
  go_wp2_with fail
  refine (l1Blocks_any _ va dl ca _ hd1).mono ?_
  rintro e w2 ⟨rfl, b2⟩
  have B2 : Hid (Below w.heap.size w w2) := B1.out.trans (b2.mono B1.out.size)
  have X2 : Hid (Box2 w2 w.heap.size (.slice va dl ca) (.slice vb n cb)) := X1.out.below b2
  have t3 : ¬ ((dl / 64 : Nat) : Int) ≤ (b : Int) := by omega
  have t3d : decide (((dl / 64 : Nat) : Int) ≤ (b : Int)) = false := by simpa using t3
  have HBB : Hid ((b + 1) * 64 ≤ dl) := by show _ ≤ _; have := ((vldD_iff dl ps).1 HV.out).1; omega
  clear b2 X1 B1 z1 c0 c1
  have hbb := HBB.out
  obtain ⟨blk, o, rfl⟩ : ∃ blk o, va = some ⟨blk, o, none⟩ := by
    obtain ⟨ao, c', e, _, _, h3⟩ := HD.out
    simp only [Value.slice.injEq] at e
    rcases h3 with rfl | ⟨b', o', rfl, _⟩
    · have := HDL.out; simp at this; omega
    · exact ⟨b', o', e.1⟩
  have hca : dl ≤ ca ∧ ca ≤ maxLen := by
    obtain ⟨ao, c', e, h1, h2⟩ := HD.out.len
    simp only [Value.slice.injEq] at e
    obtain ⟨_, e2, rfl⟩ := e
    omega
  obtain ⟨hca1, hca2⟩ := hca
  unfold maxLen at hca2
  obtain ⟨z1, c0, c1⟩ := X2.out
  generalize ((dl / 64 : Nat) : Int) = q at *
  go_wp2_with fail
  rw [show (b + 1) * 64 - b * 64 = 64 by omega]
  refine (l1Copy_any _ _ ((dur.drop (b * 64)).take 64) ((HD.out.part HDL.out (b * 64) 64 (by omega)).below B2.out) (by rw [List.length_take]; omega)).mono ?_
  rintro e w3 ⟨v3, rfl, o3, b3⟩
  have B3 : Hid (Below w.heap.size w w3) := B2.out.trans (b3.mono B2.out.size)
  have X3 : Hid (Box2 w3 w.heap.size (.slice (some ⟨blk, o, none⟩) dl ca) (.slice vb n cb)) := X2.out.below b3
  have O3 : Hid (Own .u8 5 w3 w.heap.size v3 (rdv dur ps b 0)) := o3.mono B2.out.size
  have s3 := B3.out.size
  clear o3 b3 X2 B2 z1 c0 c1 t2 t2d t3 t3d hca1 hca2 hbb hb
  obtain ⟨z1, c0, c1⟩ := X3.out
  go_wp2
  clear c0 c1
  go_loopw [5, 6] (fun v i wr => ∃ k : Nat, k ≤ n ∧ i = .int .i64 k ∧ Hid (Own .u8 5 wr w.heap.size v (rdv dur ps b k)) ∧ Hid (Below w3.heap.size w3 wr)) (fun _ i _ => n - (intOf i).toNat)
  case atStart => exact ⟨0, Nat.zero_le _, rfl, O3, Below.refl _ _⟩
  case round =>
    clear O3
    obtain ⟨k, hk, rfl, HO, HG⟩ := hrel
    have BW : Hid (Below w.heap.size w wr) := B3.out.trans (HG.out.mono s3)
    have sg := HG.out.size
    obtain ⟨z2, c0, c1⟩ := X3.out.below HG.out
    by_cases hlt : k < n
    · obtain ⟨pb, po, rfl, hpb, e1, da, dc, e2, r⟩ := HP.out.recAt HL.out hlt
      have e1' := (BW.out.cell (p := ⟨pb, po + k * 2, none⟩) hpb).trans e1
      have e2' := (BW.out.cell (p := ⟨pb, po + k * 2 + 1, none⟩) hpb).trans e2
      have RK : Hid (Rd .u8 wr (.slice da (pD ps k).length dc) (pD ps k)) := r.below BW.out
      have hltI : (k : Int) < (n : Int) := by omega
      have hpk := HPD.out k
      clear e1 e2 r
      by_cases heq : pB ps k = (b : Int)
      · have heqb : (pB ps k == (b : Int)) = true := beq_iff_eq.2 heq
        have HE : Hid (rdv dur ps b (k + 1) = pD ps k) := by show rdv _ _ _ _ = _; unfold rdv; rw [if_pos heq]
        go_wp2_with fail
        refine (l1Copy_any _ _ (pD ps k) RK.out (by omega)).mono ?_
        rintro e w4 ⟨v4, rfl, o4, b4⟩
        have O4 : Hid (Own .u8 5 w4 w.heap.size v4 (rdv dur ps b (k + 1))) := by show Own _ _ _ _ _ _; rw [HE.out]; exact o4.mono (by omega)
        have G4 : Hid (Below w3.heap.size w3 w4) := HG.out.trans (b4.mono sg)
        clear o4 b4 HO HG
        go_wp2
        go_roundw
        case rel => exact ⟨k + 1, by omega, by go_num, O4, G4⟩
        case measure => simp [intOf]; omega
      · have heqb : (pB ps k == (b : Int)) = false := beq_false_of_ne heq
        have HE : Hid (rdv dur ps b (k + 1) = rdv dur ps b k) := by show rdv _ _ _ _ = _; rw [rdv, if_neg heq]
        have O4 : Hid (Own .u8 5 wr w.heap.size u5 (rdv dur ps b (k + 1))) := by show Own _ _ _ _ _ _; rw [HE.out]; exact HO.out
        go_wp2
        go_roundw
        case rel => exact ⟨k + 1, by omega, by go_num, O4, HG⟩
        case measure => simp [intOf]; omega
    · have hkn : k = n := by omega
      subst hkn
      go_wp2
      go_ret
      exact ⟨_, rfl, HO.out, BW.out⟩

end Go.Proofs.Ytplfpfnedgjidaa

namespace Go.Proofs.Ytplfpfnedgjidaa
open Go.RowKit

/-- May the block be read? -/
def rdOk (dl : Nat) (ps : List (Int × List Int)) (x : Int) : Bool := vldD dl ps && decide (0 ≤ x ∧ x < ((dl / 64 : Nat) : Int))
def rdA (dur : List Int) (ps : List (Int × List Int)) (x : Int) : List Int := if rdOk dur.length ps x then rdv dur ps x.toNat ps.length else []

theorem own_lit0 {w w1 : World} (b : Below w.heap.size w w1) : Own .u8 5 (w1.alloc (.cells #[] 5)) w.heap.size (.slice (some ⟨w1.heap.size, 0, none⟩) 0 0) [] := World.ownsRow_lit w1 #[] 0 b.size (Nat.zero_le _) rfl

set_option maxHeartbeats 1000000 in
set_option maxRecDepth 100000 in
theorem specRead_no (w : World) (va vb : Option Addr) (dl ca n cb : Nat) (ps : List (Int × List Int)) (x : Int) (hp : RdW w (.slice vb n cb) ps) (hl : ps.length = n)
    (hno : rdOk dl ps x = false) (hn : n ≤ 1048576) (hd1 : dl ≤ 1048576) (hpd : ∀ i, (pD ps i).length ≤ 1048576) :
    Calls Try.prog 50 #[.agg #[.slice va dl ca, .slice vb n cb], .int .i64 x] w fun e w' => ∃ v', e = .returned v' ∧ Own .u8 5 w' w.heap.size v' [] ∧ Below w.heap.size w w' := by
  have HP : Hid (RdW w (.slice vb n cb) ps) := hp
  have HL : Hid (ps.length = n) := hl
  have HPD : Hid (∀ i, (pD ps i).length ≤ 1048576) := hpd
  have HNO : Hid (rdOk dl ps x = false) := hno
  have B0 : Hid (Below w.heap.size w (w.alloc (.cells #[.slice va dl ca, .slice vb n cb] 38))) := (Below.refl _ _).alloc (Nat.le_refl _) _
  have X0 : Hid (Box2 (w.alloc (.cells #[.slice va dl ca, .slice vb n cb] 38)) w.heap.size (.slice va dl ca) (.slice vb n cb)) := Box2.new _ _ _ _
  clear hp hl hpd hno
  go_enter Try.func50, Try.ntmps50
  go_wp2_with fail
  generalize w.alloc (.cells #[.slice va dl ca, .slice vb n cb] 38) = w0 at *
  refine (specValid_any _ va vb dl ca n cb ps (HP.out.below B0.out) HL.out hd1 hn HPD.out).mono ?_
  rintro e w1 ⟨rfl, b1⟩
  have B1 : Hid (Below w.heap.size w w1) := B0.out.trans (b1.mono B0.out.size)
  have X1 : Hid (Box2 w1 w.heap.size (.slice va dl ca) (.slice vb n cb)) := X0.out.below b1
  clear b1 X0 B0
  obtain ⟨z1, c0, c1⟩ := X1.out
  by_cases hv : vldD dl ps = true
  · rw [hv]
    have HV : Hid (vldD dl ps = true) := hv
    clear hv
    by_cases t2 : x < 0
    · have t2d : decide (x < 0) = true := by simpa using t2
      go_wp2
      go_ret
      exact ⟨_, rfl, own_lit0 B1.out, B1.out.alloc B1.out.size _⟩
    · have t2d : decide (x < 0) = false := by simpa using t2
      go_wp2_with fail
      refine (l1Blocks_any _ va dl ca _ hd1).mono ?_
      rintro e w2 ⟨rfl, b2⟩
      have B2 : Hid (Below w.heap.size w w2) := B1.out.trans (b2.mono B1.out.size)
      clear b2 X1 B1 z1 c0 c1
      have t3 : ((dl / 64 : Nat) : Int) ≤ x := by
        by_cases h : ((dl / 64 : Nat) : Int) ≤ x
        · exact h
        · have h' : rdOk dl ps x = true := by
            unfold rdOk
            simp only [Bool.and_eq_true, decide_eq_true_eq]
            exact ⟨HV.out, by omega, by omega⟩
          rw [HNO.out] at h'
          cases h'
      have t3d : decide (((dl / 64 : Nat) : Int) ≤ x) = true := by simpa using t3
      generalize ((dl / 64 : Nat) : Int) = q at *
      go_wp2
      go_ret
      exact ⟨_, rfl, own_lit0 B2.out, B2.out.alloc B2.out.size _⟩
  · have hv' : vldD dl ps = false := by simpa using hv
    rw [hv']
    clear hv hv'
    go_wp2
    go_ret
    exact ⟨_, rfl, own_lit0 B1.out, B1.out.alloc B1.out.size _⟩

theorem specRead_any (w : World) (v1 v2 : Value) (dur : List Int) (ps : List (Int × List Int)) (x : Int) (hd : Rd .u8 w v1 dur) (hp : RdW w v2 ps) (hdl : dur.length ≤ 1048576) (hn : ps.length ≤ 1048576) (hpd : ∀ i, (pD ps i).length ≤ 1048576) :
    Calls Try.prog 50 #[.agg #[v1, v2], .int .i64 x] w fun e w' => ∃ v', e = .returned v' ∧ Own .u8 5 w' w.heap.size v' (rdA dur ps x) ∧ Below w.heap.size w w' := by
  obtain ⟨va, ca, rfl, -⟩ := hd.len
  obtain ⟨vb, cb, rfl, -⟩ := id hp
  unfold rdA
  cases h : rdOk dur.length ps x with
  | true =>
    simp only [if_true]
    have h' := h
    unfold rdOk at h'
    simp only [Bool.and_eq_true, decide_eq_true_eq] at h'
    obtain ⟨h1, h2, h3⟩ := h'
    obtain ⟨b, rfl⟩ : ∃ b : Nat, x = b := ⟨x.toNat, by omega⟩
    rw [Int.toNat_natCast]
    exact specRead_yes w va vb dur.length ca ps.length cb dur ps b hd rfl hp rfl h1 (by omega) hdl (by have := ((vldD_iff _ _).1 h1).2.2.2.1; omega) hpd
  | false =>
    simp only [Bool.false_eq_true, if_false]
    exact specRead_no w va vb dur.length ca ps.length cb ps x hp rfl h hn hdl hpd

end Go.Proofs.Ytplfpfnedgjidaa

