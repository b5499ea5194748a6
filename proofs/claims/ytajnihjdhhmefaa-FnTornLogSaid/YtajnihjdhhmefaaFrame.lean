import Derived.Test.YtajnihjdhhmefaaSPack
namespace Go.Proofs.Ytajnihjdhhmefaa
open Go.RowKit

def fr (xs : List Int) : List Int :=
  if xs.length = 0 ∨ 2000 < xs.length then [] else [128 + ((pk xs).length : Int) / 128, 128 + ((pk xs).length : Int) % 128] ++ pk xs

theorem fr_no {xs : List Int} (h : xs.length = 0 ∨ 2000 < xs.length) : fr xs = [] := if_pos h
theorem fr_yes {xs : List Int} (h0 : 0 < xs.length) (h1 : xs.length ≤ 2000) : fr xs = [128 + ((pk xs).length : Int) / 128, 128 + ((pk xs).length : Int) % 128] ++ pk xs := if_neg (by omega)

theorem fr_length (xs : List Int) : (fr xs).length ≤ 2 + (pk xs).length := by
  unfold fr; split <;> simp; omega

theorem own_nil' (w w' : World) (k : IntKind) (e : TypeId) : Own k e w' w.heap.size (.slice none 0 0) [] := World.ownsRow_nil _ _ _ _

set_option maxHeartbeats 400000 in
theorem implFrame_no (w : World) (ao : Option Addr) (n cap : Nat) (hn : n ≤ 1099511627776) (h : n = 0 ∨ 2000 < n) :
    Calls Try.prog 11 #[.slice ao n cap] w fun e w' => ∃ v', e = .returned v' ∧ Own .u8 5 w' w.heap.size v' [] ∧ Below w.heap.size w w' := by
  rcases h with rfl | h
  · go_enter Try.func11, Try.ntmps11
    go_wp2
    go_ret
    exact ⟨_, rfl, own_nil' _ _ _ _, Below.refl _ _⟩
  · have h1 : ((n : Int) == 0) = false := beq_eq_false_iff_ne.2 (by omega)
    have h2 : (2000 : Int) < (n : Int) := by omega
    go_enter Try.func11, Try.ntmps11
    go_wp2
    go_ret
    exact ⟨_, rfl, own_nil' _ _ _ _, Below.refl _ _⟩

set_option maxHeartbeats 400000 in
theorem specFrame_no (w : World) (ao : Option Addr) (n cap : Nat) (hn : n ≤ 1099511627776) (h : n = 0 ∨ 2000 < n) :
    Calls Try.prog 13 #[.slice ao n cap] w fun e w' => ∃ v', e = .returned v' ∧ Own .u8 5 w' w.heap.size v' [] ∧ Below w.heap.size w w' := by
  rcases h with rfl | h
  · go_enter Try.func13, Try.ntmps13
    go_wp2
    go_ret
    exact ⟨_, rfl, World.ownsRow_lit w #[] 0 (Nat.le_refl _) (Nat.zero_le _) rfl, (Below.refl _ _).alloc (Nat.le_refl _) _⟩
  · have h1 : ((n : Int) == 0) = false := beq_eq_false_iff_ne.2 (by omega)
    have h2 : (2000 : Int) < (n : Int) := by omega
    go_enter Try.func13, Try.ntmps13
    go_wp2
    go_ret
    exact ⟨_, rfl, World.ownsRow_lit w #[] 0 (Nat.le_refl _) (Nat.zero_le _) rfl, (Below.refl _ _).alloc (Nat.le_refl _) _⟩

theorem cells_own {k : IntKind} {e : TypeId} {w : World} {base g n cap : Nat} {xs : List Int} (h : Own k e w base (.slice (some ⟨g, 0, none⟩) n cap) xs) : ∀ j u, (xs.map (Value.int k))[j]? = some u → w.cell? ((⟨g, 0, none⟩ : Addr).add j) = some u :=
  World.ownsRow.cells h rfl

set_option maxHeartbeats 400000 in
set_option maxRecDepth 100000 in
theorem implFrame_yes (w : World) (v : Value) (xs : List Int) (h : Rd .u8 w v xs) (hby : Byt xs) (h0 : 0 < xs.length) (h1 : xs.length ≤ 2000) :
    Calls Try.prog 11 #[v] w fun e w' => ∃ v', e = .returned v' ∧ Own .u8 5 w' w.heap.size v' (fr xs) ∧ Below w.heap.size w w' := by
  obtain ⟨i0, hi, hz0, hz1, hz2⟩ := info_parts Try.infoB
  rw [fr_yes h0 h1]
  have HR : Hid (Rd .u8 w v xs) := h
  obtain ⟨ao, cap, rfl, _, _⟩ := h.len
  clear h
  have t1 : ((xs.length : Int) == 0) = false := beq_eq_false_iff_ne.2 (by omega)
  have t2 : ¬ (2000 : Int) < (xs.length : Int) := by omega
  go_enter Try.func11, Try.ntmps11
  go_wp2_with fail
  refine (implPack_any _ _ xs HR.out hby (by omega)).mono ?_
  rintro e w1 ⟨v1, rfl, o1, b1⟩
  have hpl := pk_length xs
  rcases o1.row with ⟨rfl, h3⟩ | ⟨g, cp, rfl, hbg, hmc, hcm⟩
  · have := congrArg List.length h3; rw [hpl] at this; simp at this; omega
  have hm0 : (pk xs).length ≤ 2286 := by omega
  have hm1 : 2 ≤ (pk xs).length := by omega
  have HO1 : Hid (Own .u8 5 w1 w.heap.size (.slice (some ⟨g, 0, none⟩) (pk xs).length cp) (pk xs)) := o1
  have HB1 : Hid (Below w.heap.size w w1) := b1
  have hsz := b1.size
  have hgl : g < w1.heap.size := (o1.lt g rfl).2
  generalize hm : (pk xs).length = m at *
  have HM : Hid ((pk xs).length = m) := hm
  clear hm hpl o1 b1 t1 t2 h0 h1
  go_wp2_with (at_make; go_must (refine wpList_make_own _ rfl _ _ 22 rfl w1.heap.size 5 i0 (.int .u8 0) 1 Try.underlying22 hi hz0 hz1 _ _ _ (2 + m) rfl rfl ?b1 ?b2 ?b3 ?b4 ?_))
  case b1 => omega
  case b2 => rw [hz2]; omega
  case b3 => unfold maxLen; omega
  case b4 => exact Nat.le_refl _
  intro w2 ho2 hg2
  have HB2 : Hid (Below w1.heap.size w1 w2) := (Below.refl _ _).grown hg2 (Nat.le_refl _) (by simp)
  have hsz2 := hg2.size
  clear hg2
  have e1 : bits .or .u8 128 ((m : Int) / 128) = 128 + (m : Int) / 128 := u8_mark _ (by omega) (by omega)
  have e2 : bits .or .u8 128 ((m : Int) % 128) = 128 + (m : Int) % 128 := u8_mark _ (by omega) (by omega)
  have e3 : bits .and .i64 (m : Int) 127 = (m : Int) % 128 := i64_and127 _
  go_wp2_with (at_builtin; go_must (refine wpList_append_fits _ rfl (.tmp 19) (.tmp 30) 22 rfl w1.heap.size 5 i0 1 Try.underlying22 hi hz1 w1.heap.size 0 (2 + m) _ rfl (ho2.alloc _) ⟨w2.heap.size, 0, none⟩ 2 2 [.int .u8 (128 + (m : Int) / 128), .int .u8 (128 + (m : Int) % 128)] rfl rfl (cell_two_new _ _ _ _) (by intro u hu; simp at hu; rcases hu with rfl | rfl <;> rfl) (by omega) ?_))
  intro w3 ho3 hg3
  have HB3 : Hid (Below w1.heap.size w1 w3) := (HB2.out.alloc hsz2 _).grown hg3 (by simp; omega) (by intro k hk; simp at hk; omega)
  have hsz3 := hg3.size
  clear hg3 ho2 e1 e2 e3
  have HO13 : Hid (Own .u8 5 w3 w.heap.size (.slice (some ⟨g, 0, none⟩) m cp) (pk xs)) := HO1.out.below HB3.out
  go_wp2_with (at_builtin; go_must (refine wpList_append_fits _ rfl (.tmp 32) (.tmp 33) 22 rfl w1.heap.size 5 i0 1 Try.underlying22 hi hz1 w1.heap.size 2 (2 + m) _ rfl ho3 ⟨g, 0, none⟩ m cp ((pk xs).map (Value.int .u8)) rfl ?c0 (cells_own HO13.out) (ints_oneCell _ _) (by omega) ?_))
  case c0 => rw [List.length_map, HM.out, Nat.mul_one]
  intro w4 ho4 hg4
  have HB4 : Hid (Below w1.heap.size w1 w4) := HB3.out.grown hg4 (by have := HB3.out.size; omega) (by intro k hk; simp at hk; omega)
  clear hg4 ho3
  go_wp2
  go_ret
  have ho5 : Own .u8 5 w4 w1.heap.size (.slice (some ⟨w1.heap.size, 0, none⟩) (2 + m) (2 + m)) ([128 + ((pk xs).length : Int) / 128, 128 + ((pk xs).length : Int) % 128] ++ pk xs) := by
    rw [HM.out]
    exact own_of (q := 2 + m) (by rw [List.length_append, HM.out]; rfl) rfl (by rw [List.map_append]; exact ho4)
  exact ⟨_, rfl, ho5.mono hsz, HB1.out.trans (HB4.out.mono hsz)⟩

set_option maxHeartbeats 400000 in
set_option maxRecDepth 100000 in
theorem specFrame_yes (w : World) (v : Value) (xs : List Int) (h : Rd .u8 w v xs) (hby : Byt xs) (h0 : 0 < xs.length) (h1 : xs.length ≤ 2000) :
    Calls Try.prog 13 #[v] w fun e w' => ∃ v', e = .returned v' ∧ Own .u8 5 w' w.heap.size v' (fr xs) ∧ Below w.heap.size w w' := by
  obtain ⟨i0, hi, hz0, hz1, hz2⟩ := info_parts Try.infoB
  rw [fr_yes h0 h1]
  have HR : Hid (Rd .u8 w v xs) := h
  obtain ⟨ao, cap, rfl, _, _⟩ := h.len
  clear h
  have t1 : ((xs.length : Int) == 0) = false := beq_eq_false_iff_ne.2 (by omega)
  have t2 : ¬ (2000 : Int) < (xs.length : Int) := by omega
  go_enter Try.func13, Try.ntmps13
  go_wp2_with fail
  refine (specPack_any _ _ xs HR.out hby (by omega)).mono ?_
  rintro e w1 ⟨v1, rfl, o1, b1⟩
  have hpl := pk_length xs
  rcases o1.row with ⟨rfl, h3⟩ | ⟨g, cp, rfl, hbg, hmc, hcm⟩
  · have := congrArg List.length h3; rw [hpl] at this; simp at this; omega
  have hm0 : (pk xs).length ≤ 2286 := by omega
  have hm1 : 2 ≤ (pk xs).length := by omega
  have HO1 : Hid (Own .u8 5 w1 w.heap.size (.slice (some ⟨g, 0, none⟩) (pk xs).length cp) (pk xs)) := o1
  have HB1 : Hid (Below w.heap.size w w1) := b1
  have hsz := b1.size
  have hgl : g < w1.heap.size := (o1.lt g rfl).2
  generalize hm : (pk xs).length = m at *
  have HM : Hid ((pk xs).length = m) := hm
  clear hm hpl o1 b1 t1 t2 h0 h1
  have HW2 : Hid ((w1.alloc (.cells #[.int .u8 (128 + (m : Int) / 128), .int .u8 (128 + (m : Int) % 128)] 5)).ownsRow w1.heap.size 5 1 (.slice (some ⟨w1.heap.size, 0, none⟩) 2 2) 2 [.int .u8 (128 + (m : Int) / 128), .int .u8 (128 + (m : Int) % 128)]) :=
    World.ownsRow_lit w1 #[.int .u8 (128 + (m : Int) / 128), .int .u8 (128 + (m : Int) % 128)] 2 (Nat.le_refl _) (by unfold maxLen; omega) rfl
  have HB2 : Hid (Below w1.heap.size w1 (w1.alloc (.cells #[.int .u8 (128 + (m : Int) / 128), .int .u8 (128 + (m : Int) % 128)] 5))) := (Below.refl _ _).alloc (Nat.le_refl _) _
  have HO13 : Hid (Own .u8 5 (w1.alloc (.cells #[.int .u8 (128 + (m : Int) / 128), .int .u8 (128 + (m : Int) % 128)] 5)) w.heap.size (.slice (some ⟨g, 0, none⟩) m cp) (pk xs)) := HO1.out.below HB2.out
  go_wp2_with (at_builtin; go_must (refine wpList_append_own _ rfl _ _ 22 rfl w1.heap.size 5 i0 (.int .u8 0) 1 1 Try.underlying22 hi hz0 hz1 hz2 rfl (by decide) _ _ _ rfl HW2.out ⟨g, 0, none⟩ m cp ((pk xs).map (Value.int .u8)) rfl ?c0 (cells_own HO13.out) (ints_oneCell _ _) ?c3 ?c4 ?c5 ?_))
  case c0 => rw [List.length_map, HM.out, Nat.mul_one]
  case c3 => unfold maxLen; omega
  case c4 => omega
  case c5 => simp
  intro v4 w4 ho4 hg4 _
  have HB4 : Hid (Below w1.heap.size w1 w4) := HB2.out.grown hg4 (by simp) (by intro k hk; simp [Value.ownBlock] at hk; omega)
  clear hg4
  have HO5 : Hid (Own .u8 5 w4 w1.heap.size v4 ([128 + ((pk xs).length : Int) / 128, 128 + ((pk xs).length : Int) % 128] ++ pk xs)) := by
    rw [HM.out]
    exact own_of (q := 2 + m) (by rw [List.length_append, HM.out]; rfl) rfl (by rw [List.map_append]; exact ho4)
  clear ho4
  go_wp2
  go_ret
  exact ⟨_, rfl, HO5.out.mono hsz, HB1.out.trans (HB4.out.mono hsz)⟩

theorem implFrame_any (w : World) (v : Value) (xs : List Int) (h : Rd .u8 w v xs) (hby : Byt xs) (hn : xs.length ≤ 1099511627776) :
    Calls Try.prog 11 #[v] w fun e w' => ∃ v', e = .returned v' ∧ Own .u8 5 w' w.heap.size v' (fr xs) ∧ Below w.heap.size w w' := by
  by_cases hc : xs.length = 0 ∨ 2000 < xs.length
  · rw [fr_no hc]
    obtain ⟨ao, cap, rfl, _, _⟩ := h.len
    exact implFrame_no w ao _ cap hn hc
  · exact implFrame_yes w v xs h hby (by omega) (by omega)

theorem specFrame_any (w : World) (v : Value) (xs : List Int) (h : Rd .u8 w v xs) (hby : Byt xs) (hn : xs.length ≤ 1099511627776) :
    Calls Try.prog 13 #[v] w fun e w' => ∃ v', e = .returned v' ∧ Own .u8 5 w' w.heap.size v' (fr xs) ∧ Below w.heap.size w w' := by
  by_cases hc : xs.length = 0 ∨ 2000 < xs.length
  · rw [fr_no hc]
    obtain ⟨ao, cap, rfl, _, _⟩ := h.len
    exact specFrame_no w ao _ cap hn hc
  · exact specFrame_yes w v xs h hby (by omega) (by omega)

end Go.Proofs.Ytajnihjdhhmefaa
