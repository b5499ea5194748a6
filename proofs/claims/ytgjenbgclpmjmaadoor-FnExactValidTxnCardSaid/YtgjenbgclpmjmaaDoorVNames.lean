import Derived.Test.YtgjenbgclpmjmaaDoorVName
namespace Go.Proofs.YtgjenbgclpmjmaaDoor
open Go.RowKit

theorem Tryd.infoT : (Tryd.prog.info? 9).map (fun i => (i.zero, i.size, i.bytes)) = some (some (.string ByteArray.empty), 1, 16) := by kernel_rfl

/-- The pieces between slashes, with the piece under way. -/
def splA : List UInt8 → List UInt8 → List (List UInt8)
  | cur, [] => [cur]
  | cur, x :: l => if x = 47 then cur :: splA [] l else splA (cur ++ [x]) l
theorem splA_sl (cur l : List UInt8) : splA cur (47 :: l) = cur :: splA [] l := by simp [splA]
theorem splA_ch {x : UInt8} (h : ¬ x = 47) (cur l : List UInt8) : splA cur (x :: l) = splA (cur ++ [x]) l := by simp [splA, h]
def nm (s : ByteArray) : List (List UInt8) := splA [] (s.data.toList.drop 1)
def seg (s : ByteArray) (a b : Nat) : List UInt8 := (s.data.toList.drop a).take (b - a)
def sV (l : List UInt8) : Value := .string ⟨l.toArray⟩

theorem seg_self (s : ByteArray) (a : Nat) : seg s a a = [] := by unfold seg; simp
theorem seg_succ (s : ByteArray) (a i : Nat) (ha : a ≤ i) (hi : i < s.size) : seg s a (i + 1) = seg s a i ++ [s[i]] := by
  have hl : i < s.data.toList.length := hi
  unfold seg
  rw [show i + 1 - a = (i - a) + 1 by omega, List.take_succ_eq_append_getElem (by rw [List.length_drop]; omega)]
  congr 1
  rw [List.getElem_drop]
  simp only [show a + (i - a) = i by omega]
  rfl
theorem drop_cons (s : ByteArray) (i : Nat) (hi : i < s.size) : s.data.toList.drop i = s[i] :: s.data.toList.drop (i + 1) := by
  have hl : i < s.data.toList.length := hi
  rw [List.drop_eq_getElem_cons hl]; rfl
theorem extract_seg (s : ByteArray) (a b : Nat) : s.extract a b = ⟨(seg s a b).toArray⟩ := by
  apply ByteArray.ext
  rw [ByteArray.data_extract]
  apply Array.ext'
  unfold seg
  rw [Array.toList_extract, List.extract_eq_take_drop]

theorem row_slice {w : World} {lo n : Nat} {e : TypeId} {v : Value} {us : List Value} (h : w.ownsRow lo e 1 v n us) : ∃ a c, v = .slice a n c ∧ n ≤ c ∧ c ≤ maxLen := by
  rcases h.2 with ⟨rfl, rfl⟩ | ⟨g, cap, cur, rfl, -, -, h1, h2, -⟩
  · exact ⟨none, 0, rfl, Nat.le_refl _, Nat.zero_le _⟩
  · exact ⟨_, _, rfl, h1, h2⟩

set_option maxHeartbeats 1000000 in
set_option maxRecDepth 100000 in
theorem names_any (w : World) (s : ByteArray) (h1 : 1 ≤ s.size) (h2 : s.size ≤ 1048576) :
    Calls Tryd.prog 52 #[.string s] w fun e w' => ∃ v, e = .returned v ∧ w'.ownsRow w.heap.size 9 1 v (nm s).length ((nm s).map sV) ∧ Below w.heap.size w w' := by
  obtain ⟨i0, hi, hz0, hz1, hz2⟩ := info_parts Tryd.infoT
  go_enter Tryd.func52, Tryd.ntmps52
  go_wp2
  go_loopw [3, 4, 5] (fun vo vf vi wr => ∃ (i fr : Nat) (acc : List (List UInt8)), 1 ≤ fr ∧ i ≤ s.size + 1 ∧ vi = .int .i64 i ∧ vf = .int .i64 fr ∧ acc.length ≤ i ∧ ((i ≤ s.size ∧ fr ≤ i ∧ Hid (nm s = acc ++ splA (seg s fr i) (s.data.toList.drop i))) ∨ (i = s.size + 1 ∧ fr = s.size + 1 ∧ Hid (nm s = acc))) ∧ Hid (wr.ownsRow w.heap.size 9 1 vo acc.length (acc.map sV)) ∧ Hid (Below w.heap.size w wr)) (fun _ _ i _ => s.size + 1 - (intOf i).toNat)
  case atStart =>
    refine ⟨1, 1, [], Nat.le_refl _, by omega, rfl, rfl, by simp, .inl ⟨h1, Nat.le_refl _, ?_⟩, World.ownsRow_lit w #[] 0 (Nat.le_refl _) (Nat.zero_le _) rfl, (Below.refl _ _).alloc (Nat.le_refl _) _⟩
    show nm s = _
    rw [seg_self]; rfl
  case round =>
    obtain ⟨i, fr, acc, hf1, hi1, rfl, rfl, hal, hst, HO, HB⟩ := hrel
    have sB := HB.out.size
    obtain ⟨a, c, hv, -, -⟩ := row_slice HO.out
    rcases hst with ⟨hi2, hfi, HN⟩ | ⟨hi2, hf2, HN⟩
    · have hI : (i : Int) ≤ (s.size : Int) := by omega
      by_cases hend : i = s.size
      · have he : ((i : Int) == (s.size : Int)) = true := by rw [hend]; simp
        have HN2 : Hid (nm s = acc ++ [seg s fr i]) := by
          show _ = _
          rw [HN.out, List.drop_eq_nil_of_le (by show s.size ≤ i; omega)]; rfl
        have HEX : Hid (Value.string (s.extract fr i) = sV (seg s fr i)) := by show _ = _; rw [extract_seg]; rfl
        have hk1 : (fr : Int) ≤ (i : Int) := by omega
        have hk2 : fr ≤ i := by omega
        have HEND : Hid (i = s.size) := hend
        clear hend
        subst hv
        go_wp2_with (at_builtin; go_must (refine wpList_append_own _ rfl _ _ 60 rfl w.heap.size 9 i0 (.string ByteArray.empty) 1 16 Tryd.underlying60 hi hz0 hz1 hz2 rfl (by decide) _ _ _ rfl (HO.out.alloc _) ⟨wr.heap.size, 0, none⟩ 1 1 [.string (s.extract fr i)] rfl rfl (cell_one_new _ _ _) (by intro u hu; simp at hu; subst hu; rfl) ?_ ?_ ?_ ?_))
        · unfold maxLen; omega
        · omega
        · simp; omega
        intro v2 w2 ho2 hg2 _
        have HO2 : Hid (w2.ownsRow w.heap.size 9 1 v2 (acc ++ [seg s fr i]).length ((acc ++ [seg s fr i]).map sV)) := by
          rw [HEX.out] at ho2
          show World.ownsRow _ _ _ _ _ _ _
          rw [List.length_append, List.map_append]; exact ho2
        have HB2 : Hid (Below w.heap.size w w2) := (HB.out.alloc sB _).grown hg2 (by simp; omega) (fun q hq => (World.ownsRow.lt HO.out q hq).1)
        clear ho2 hg2 HO HB
        go_wp2
        exact ⟨⟨i + 1, i + 1, acc ++ [seg s fr i], by omega, by have := HEND.out; omega, by go_num, by go_num, by rw [List.length_append]; simp; omega, .inr ⟨by have := HEND.out; omega, by have := HEND.out; omega, HN2⟩, HO2, HB2⟩, by simp [intOf]; omega⟩
      · have hlt : i < s.size := by omega
        have he : ((i : Int) == (s.size : Int)) = false := beq_eq_false_iff_ne.2 (by omega)
        have hltI : (i : Int) < (s.size : Int) := by omega
        have HC : Hid (s.data.toList.drop i = s[i] :: s.data.toList.drop (i + 1)) := drop_cons s i hlt
        have HEX : Hid (Value.string (s.extract fr i) = sV (seg s fr i)) := by show _ = _; rw [extract_seg]; rfl
        have hk1 : (fr : Int) ≤ (i : Int) := by omega
        have hk2 : fr ≤ i := by omega
        by_cases h47 : s[i] = 47
        · have e47 : ((s[i].toNat : Int) == 47) = true := by rw [h47]; rfl
          have HN2 : Hid (nm s = (acc ++ [seg s fr i]) ++ splA (seg s (i + 1) (i + 1)) (s.data.toList.drop (i + 1))) := by
            show _ = _
            rw [HN.out, HC.out, h47, splA_sl, seg_self, List.append_assoc]
            rfl
          clear h47
          subst hv
          go_wp2_with (at_builtin; go_must (refine wpList_append_own _ rfl _ _ 60 rfl w.heap.size 9 i0 (.string ByteArray.empty) 1 16 Tryd.underlying60 hi hz0 hz1 hz2 rfl (by decide) _ _ _ rfl (HO.out.alloc _) ⟨wr.heap.size, 0, none⟩ 1 1 [.string (s.extract fr i)] rfl rfl (cell_one_new _ _ _) (by intro u hu; simp at hu; subst hu; rfl) ?_ ?_ ?_ ?_))
          · unfold maxLen; omega
          · omega
          · simp; omega
          intro v2 w2 ho2 hg2 _
          have HO2 : Hid (w2.ownsRow w.heap.size 9 1 v2 (acc ++ [seg s fr i]).length ((acc ++ [seg s fr i]).map sV)) := by
            rw [HEX.out] at ho2
            show World.ownsRow _ _ _ _ _ _ _
            rw [List.length_append, List.map_append]; exact ho2
          have HB2 : Hid (Below w.heap.size w w2) := (HB.out.alloc sB _).grown hg2 (by simp; omega) (fun q hq => (World.ownsRow.lt HO.out q hq).1)
          clear ho2 hg2 HO HB
          go_wp2
          exact ⟨⟨i + 1, i + 1, acc ++ [seg s fr i], by omega, by omega, by go_num, by go_num, by rw [List.length_append]; simp; omega, .inl ⟨by omega, Nat.le_refl _, HN2⟩, HO2, HB2⟩, by simp [intOf]; omega⟩
        · have e47 : ((s[i].toNat : Int) == 47) = false := by
            rw [beq_eq_false_iff_ne]
            intro h
            apply h47
            apply UInt8.toNat_inj.1
            have : s[i].toNat = 47 := by omega
            rw [this]; rfl
          have HN2 : Hid (nm s = acc ++ splA (seg s fr (i + 1)) (s.data.toList.drop (i + 1))) := by
            show _ = _
            rw [HN.out, HC.out, splA_ch h47, seg_succ s fr i hk2 hlt]
          clear h47 hv
          go_wp2
          exact ⟨⟨i + 1, fr, acc, hf1, by omega, by go_num, rfl, by omega, .inl ⟨by omega, by omega, HN2⟩, HO, HB⟩, by simp [intOf]; omega⟩
    · have hI : ¬ (i : Int) ≤ (s.size : Int) := by omega
      clear hv
      go_wp2
      go_ret
      exact ⟨_, rfl, by rw [HN.out]; exact HO.out, HB.out⟩

end Go.Proofs.YtgjenbgclpmjmaaDoor
