import Derived.Test.YtdiingonnddkcaaGreatDoorK01
import Derived.Lib.Bytealg
import Derived.Laws.Externs
import Derived.Lib.IndexLaws
import Derived.Test.YtdiingonnddkcaaGreatDoorChecked
import Derived.RangeFuncNested
import Derived.RangeFuncLeaves
import Derived.Shelf.Abstract
import Derived.WalkKit
import Derived.OwnWalkIn
import Derived.TacticsInMore
import Derived.LoopNIn
import Derived.LoopIn
import Derived.RangeFuncBox
namespace Go.Proofs.YtdiingonnddkcaaGreatDoor
open Go.RowKit

def okL (l : List UInt8) : Bool := okN ⟨l.toArray⟩
def okPath (s : ByteArray) : Bool := decide (s.data.toList = [47]) || (decide (2 ≤ s.size) && decide (bN s 0 = 47) && decide ((nm s).length ≤ 6) && (nm s).all okL)

theorem splA_pos : ∀ (l cur : List UInt8), 0 < (splA cur l).length
  | [], cur => by simp [splA]
  | x :: l, cur => by
    by_cases h : x = 47
    · subst h; rw [splA_sl]; simp
    · rw [splA_ch h]; exact splA_pos l _
theorem splA_len : ∀ (l cur : List UInt8), (splA cur l).length ≤ l.length + 1
  | [], cur => by simp [splA]
  | x :: l, cur => by
    by_cases h : x = 47
    · subst h; rw [splA_sl]; have := splA_len l []; simp only [List.length_cons]; omega
    · rw [splA_ch h]; have := splA_len l (cur ++ [x]); simp only [List.length_cons]; omega
theorem nm_pos (s : ByteArray) : 0 < (nm s).length := splA_pos _ _
theorem nm_len (s : ByteArray) : (nm s).length ≤ s.size + 1 := by
  have := splA_len (s.data.toList.drop 1) []
  have h2 : (s.data.toList.drop 1).length ≤ s.size := by rw [List.length_drop]; show s.size - 1 ≤ _; omega
  unfold nm; omega
theorem okPath_root {s : ByteArray} (h : s.data.toList = [47]) : okPath s = true := by unfold okPath; rw [decide_eq_true h]; rfl
theorem okPath_not {s : ByteArray} (h : ¬ s.data.toList = [47]) : okPath s = (decide (2 ≤ s.size) && decide (bN s 0 = 47) && decide ((nm s).length ≤ 6) && (nm s).all okL) := by unfold okPath; rw [decide_eq_false h]; rfl
def pN (rs : List (List UInt8)) (i : Nat) : ByteArray := ⟨(rs.getD i []).toArray⟩
theorem all_no {rs : List (List UInt8)} {i : Nat} (h : i < rs.length) (hn : okN (pN rs i) = false) : rs.all okL = false := by
  rw [List.all_eq_false]
  refine ⟨rs[i], List.getElem_mem h, ?_⟩
  unfold okL
  have : pN rs i = ⟨rs[i].toArray⟩ := by unfold pN; simp [List.getD, h]
  rw [← this, hn]; simp
theorem all_yes {rs : List (List UInt8)} (hn : ∀ i, i < rs.length → okN (pN rs i) = true) : rs.all okL = true := by
  rw [List.all_eq_true]
  intro l hl
  obtain ⟨i, hi, rfl⟩ := List.mem_iff_getElem.1 hl
  have := hn i hi
  unfold okL
  have e : pN rs i = ⟨rs[i].toArray⟩ := by unfold pN; simp [List.getD, hi]
  rw [← e]; exact this

set_option maxHeartbeats 1000000 in
set_option maxRecDepth 100000 in
theorem specPath_any (w : World) (s : ByteArray) (h2 : s.size ≤ 1048576) :
    Calls Tryz.prog 64 #[.string s] w fun e w' => e = .returned (.bool (okPath s)) ∧ Below w.heap.size w w' := by
  by_cases hr : s.data.toList = [47]
  · have hrt : (s.toList == [47]) = true := by rw [ByteArray.toList_eq, hr]; rfl
    have HP := hd9 (okPath_root hr)
    clear hr
    go_enter Tryz.func64, Tryz.ntmps64
    go_wp2
    go_ret
    exact ⟨ret_b HP.out.symm, Below.refl _ _⟩
  · have hrt : (s.toList == [47]) = false := by rw [ByteArray.toList_eq, beq_eq_false_iff_ne]; exact hr
    have HP := hd9 (okPath_not hr)
    clear hr
    by_cases hs : s.size < 2
    · have hsI : (s.size : Int) < 2 := by omega
      have HP2 : Hid (okPath s = false) := by show _ = _; rw [HP.out, decide_eq_false (by omega)]; rfl
      go_enter Tryz.func64, Tryz.ntmps64
      go_wp2
      go_ret
      exact ⟨ret_b HP2.out.symm, Below.refl _ _⟩
    · have hsI : ¬ (s.size : Int) < 2 := by omega
      have h0 : 0 < s.size := by omega
      have hb0 := bN_get s 0 h0
      by_cases h47 : s[0].toNat = 47
      · have e47 : ((s[0].toNat : Int) != 47) = false := by rw [h47]; rfl
        have HP2 : Hid (okPath s = (decide ((nm s).length ≤ 6) && (nm s).all okL)) := by show _ = _; rw [HP.out, decide_eq_true (show 2 ≤ s.size by omega), decide_eq_true (hb0.trans h47)]; rfl
        clear h47 hb0 HP
        go_enter Tryz.func64, Tryz.ntmps64
        go_wp2_with fail
        refine (names_any _ s (by omega) h2).mono ?_
        rintro e w1 ⟨v, rfl, ho, hb⟩
        have hnl := nm_len s
        have hnp := nm_pos s
        obtain ⟨rs, hrs⟩ : ∃ rs, rs = nm s := ⟨_, rfl⟩
        rw [← hrs] at ho hnl hnp
        rw [← hrs] at HP2
        clear hrs
        obtain ⟨g, c, rfl⟩ : ∃ g c, v = .slice (some ⟨g, 0, none⟩) rs.length c := by
          rcases ho.2 with ⟨rfl, h1⟩ | ⟨g, cap, cur, rfl, -⟩
          · omega
          · exact ⟨g, cap, rfl⟩
        have HC : Hid (∀ i, i < rs.length → w1.cell? ⟨g, i, none⟩ = some (.string (pN rs i))) := fun i hi => by
          rw [World.ownsRow.cellAt ho i (by omega)]
          simp [pN, List.getD, hi, sV]
        have HB := hd9 hb
        clear ho hb
        by_cases h6 : rs.length ≤ 6
        · have h6I : ¬ (6 : Int) < (rs.length : Int) := by omega
          have HP3 : Hid (okPath s = rs.all okL) := by show _ = _; rw [HP2.out, decide_eq_true h6]; rfl
          clear HP2
          go_wp2
          go_loopw [4] (fun vi wr => ∃ i : Nat, i ≤ rs.length ∧ vi = .int .i64 i ∧ Hid (∀ t, t < i → okN (pN rs t) = true) ∧ ∃ q, wr = w1.drewN q) (fun i _ => rs.length - (intOf i).toNat)
          case atStart => exact ⟨0, Nat.zero_le _, rfl, (fun t ht => by omega), 0, rfl⟩
          case round =>
            obtain ⟨i, hi, rfl, HK, q, rfl⟩ := hrel
            by_cases hlt : i < rs.length
            · have hltI : (i : Int) < (rs.length : Int) := by omega
              have c1 := HC.out i hlt
              obtain ⟨p, hp⟩ : ∃ p, p = pN rs i := ⟨_, rfl⟩
              have HPI := hd9 hp
              rw [← hp] at c1
              clear hp
              by_cases hp1 : p.size < 1
              · have hpI : (p.size : Int) < 1 := by omega
                have HF : Hid (okPath s = false) := by show _ = _; rw [HP3.out]; exact all_no hlt (by rw [← HPI.out]; unfold okN; rw [decide_eq_false (by omega)]; rfl)
                have BQ := hd9 (HB.out.trans ((below_drewN' w1 q).mono HB.out.size))
                go_wp2
                go_ret
                exact ⟨ret_b HF.out.symm, BQ.out⟩
              · have hpI : ¬ (p.size : Int) < 1 := by omega
                by_cases hp2 : 16 < p.size
                · have hpI2 : (16 : Int) < (p.size : Int) := by omega
                  have HF : Hid (okPath s = false) := by show _ = _; rw [HP3.out]; exact all_no hlt (by rw [← HPI.out]; unfold okN; rw [decide_eq_false (show ¬ p.size ≤ 16 by omega)]; simp)
                  have BQ := hd9 (HB.out.trans ((below_drewN' w1 q).mono HB.out.size))
                  go_wp2
                  go_ret
                  exact ⟨ret_b HF.out.symm, BQ.out⟩
                · have hpI2 : ¬ (16 : Int) < (p.size : Int) := by omega
                  go_wp2
                  go_loopw [5] (fun vj wr => ∃ j : Nat, j ≤ p.size ∧ vj = .int .i64 j ∧ Hid (∀ t, t < j → okB (bN p t) = true) ∧ ∃ q, wr = w1.drewN q) (fun j _ => p.size - (intOf j).toNat)
                  case atStart => exact ⟨0, Nat.zero_le _, rfl, (fun t ht => by omega), q, rfl⟩
                  case round =>
                    obtain ⟨j, hj, rfl, HJ, q2, rfl⟩ := hrel
                    by_cases hjl : j < p.size
                    · have hjI : (j : Int) < (p.size : Int) := by omega
                      have hbn := bN_get p j hjl
                      have hx8 : p[j].toNat < 256 := p[j].toNat_lt
                      go_wp2_with fail
                      refine (letter_any _ p[j].toNat hx8).mono ?_
                      rintro e w3 ⟨rfl, rfl⟩
                      by_cases hok : okB (bN p j) = true
                      · have HOK : Hid (okB (bN p j) = true) := hok
                        rw [hbn] at hok
                        rw [hok]
                        clear hok hbn
                        go_wp2
                        exact ⟨⟨j + 1, by omega, by go_num, (fun t ht => by by_cases e : t = j; (subst e; exact HOK.out); exact HJ.out t (by omega)), q2, rfl⟩, by simp [intOf]; omega⟩
                      · have hok' : okB (bN p j) = false := by simpa using hok
                        have HF : Hid (okPath s = false) := by show _ = _; rw [HP3.out]; exact all_no hlt (by rw [← HPI.out]; exact okN_no hjl hok')
                        have BQ := hd9 (HB.out.trans ((below_drewN' w1 q2).mono HB.out.size))
                        rw [hbn] at hok'
                        rw [hok']
                        clear hok hok' hbn
                        go_wp2
                        go_ret
                        exact ⟨ret_b HF.out.symm, BQ.out⟩
                    · have hjI : ¬ (j : Int) < (p.size : Int) := by omega
                      have HOK : Hid (okN (pN rs i) = true) := by
                        show _ = _
                        rw [← HPI.out]
                        exact okN_yes (by omega) (by omega) (fun t ht => HJ.out t (by omega))
                      go_wp2
                      exact ⟨⟨i + 1, by omega, by go_num, (fun t ht => by by_cases e : t = i; (subst e; exact HOK.out); exact HK.out t (by omega)), q2, rfl⟩, by simp [intOf]; omega⟩
            · have hltI : ¬ (i : Int) < (rs.length : Int) := by omega
              have HT : Hid (okPath s = true) := by show _ = _; rw [HP3.out]; exact all_yes (fun t ht => HK.out t (by omega))
              have BQ := hd9 (HB.out.trans ((below_drewN' w1 q).mono HB.out.size))
              go_wp2
              go_ret
              exact ⟨ret_b HT.out.symm, BQ.out⟩
        · have h6I : (6 : Int) < (rs.length : Int) := by omega
          have HP3 : Hid (okPath s = false) := by show _ = _; rw [HP2.out, decide_eq_false h6]; rfl
          go_wp2
          go_ret
          exact ⟨ret_b HP3.out.symm, HB.out⟩
      · have e47 : ((s[0].toNat : Int) != 47) = true := by rw [bne_iff_ne]; omega
        have HP2 : Hid (okPath s = false) := by show _ = _; rw [HP.out, decide_eq_false (show ¬ bN s 0 = 47 by omega), Bool.and_false]; rfl
        clear HP
        go_enter Tryz.func64, Tryz.ntmps64
        go_wp2
        go_ret
        exact ⟨ret_b HP2.out.symm, Below.refl _ _⟩


set_option maxHeartbeats 1000000 in
set_option maxRecDepth 100000 in
theorem idxByte_any (w : World) (s : ByteArray) (c : Int) :
    Calls Tryz.prog 133 #[.string s, .int .u8 c] w fun e w' => e = .returned (.int .i64 (Lib.indexByte s.data.toList c.toNat.toUInt8)) ∧ w' = w := by
  go_enter Tryz.func133, Tryz.ntmps133
  go_wp2
  rw [run_callFunc_extern Tryz.func146 (by kernel_rfl) (by kernel_rfl) (by kernel_rfl) (e := Extern.BytealgIndexByte.indexByte) (by kernel_rfl), Lib.run_indexByteString]
  simp only [Result.andThen]
  rw [Oper.upon_value]
  go_wp2
  go_ret
  exact ⟨rfl, rfl⟩

/-- The text of one slash. -/
def slash : ByteArray := ⟨#[47]⟩

set_option maxHeartbeats 1000000 in
set_option maxRecDepth 100000 in
theorem idxLite_any (w : World) (s : ByteArray) :
    Calls Tryz.prog 125 #[.string s, .string ⟨#[47]⟩] w fun e w' => e = .returned (.int .i64 (Lib.indexByte s.data.toList 47)) ∧ w' = w := by
  by_cases he : s.data.toList = [47]
  · have hb : ([47] == s.toList) = true := by rw [ByteArray.toList_eq, he]; rfl
    have HX : Hid (Lib.indexByte s.data.toList 47 = 0) := by show _ = _; rw [he]; rfl
    clear he
    go_enter Tryz.func125, Tryz.ntmps125
    go_wp2
    go_ret
    exact ⟨by rw [HX.out]; rfl, rfl⟩
  · have hb : ([47] == s.toList) = false := by rw [ByteArray.toList_eq, beq_eq_false_iff_ne]; exact fun h => he h.symm
    clear he
    go_enter Tryz.func125, Tryz.ntmps125
    go_wp2_with fail
    refine (idxByte_any w s 47).mono ?_
    rintro e w2 ⟨rfl, rfl⟩
    go_wp2
    go_ret
    exact ⟨rfl, rfl⟩

set_option maxHeartbeats 1000000 in
set_option maxRecDepth 100000 in
theorem idx_any (w : World) (s : ByteArray) :
    Calls Tryz.prog 118 #[.string s, .string ⟨#[47]⟩] w fun e w' => e = .returned (.int .i64 (Lib.indexByte s.data.toList 47)) ∧ w' = w := by
  go_enter Tryz.func118, Tryz.ntmps118
  go_wp2_with fail
  refine (idxLite_any w s).mono ?_
  rintro e w2 ⟨rfl, rfl⟩
  go_wp2
  go_ret
  exact ⟨rfl, rfl⟩


theorem pre_eq (s : ByteArray) (h : 1 ≤ s.size) : ((s.extract 0 1).toList == [47]) = decide (bN s 0 = 47) := by
  have h0 : 0 < s.data.toList.length := h
  rw [ByteArray.toList_eq, ByteArray.data_extract, Array.toList_extract, List.extract_eq_take_drop]
  unfold bN
  cases e : s.data.toList with
  | nil => rw [e] at h0; simp at h0
  | cons x l =>
    simp only [List.drop_zero, Nat.sub_zero, List.take_succ_cons, List.take_zero, List.getD_cons_zero]
    by_cases hx : x = 47
    · subst hx; rfl
    · have h1 : ¬ x.toNat = 47 := fun hh => hx (UInt8.toNat_inj.1 hh)
      rw [decide_eq_false h1, beq_eq_false_iff_ne]
      simpa using hx

set_option maxHeartbeats 1000000 in
set_option maxRecDepth 100000 in
theorem preLite_any (w : World) (s : ByteArray) (hs : 1 ≤ s.size) :
    Calls Tryz.prog 99 #[.string s, .string ⟨#[47]⟩] w fun e w' => e = .returned (.bool (decide (bN s 0 = 47))) ∧ w' = w := by
  have HE := hd9 (pre_eq s hs)
  have h1 : (1 : Int) ≤ (s.size : Int) := by omega
  go_enter Tryz.func99, Tryz.ntmps99
  go_wp2
  go_ret
  exact ⟨by rw [← HE.out]; rfl, rfl⟩

set_option maxHeartbeats 1000000 in
set_option maxRecDepth 100000 in
theorem pre_any (w : World) (s : ByteArray) (hs : 1 ≤ s.size) :
    Calls Tryz.prog 72 #[.string s, .string ⟨#[47]⟩] w fun e w' => e = .returned (.bool (decide (bN s 0 = 47))) ∧ w' = w := by
  go_enter Tryz.func72, Tryz.ntmps72
  go_wp2_with fail
  refine (preLite_any w s hs).mono ?_
  rintro e w2 ⟨rfl, rfl⟩
  go_wp2
  go_ret
  exact ⟨rfl, rfl⟩

set_option maxHeartbeats 1000000 in
set_option maxRecDepth 100000 in
theorem pre_none (w : World) (s : ByteArray) (hs : s.size = 0) :
    Calls Tryz.prog 72 #[.string s, .string ⟨#[47]⟩] w fun e w' => e = .returned (.bool false) ∧ w' = w := by
  have h1 : ¬ (1 : Int) ≤ (s.size : Int) := by omega
  clear hs
  go_enter Tryz.func72, Tryz.ntmps72
  go_wp2_with fail
  refine (show Calls Tryz.prog 99 #[.string s, .string ⟨#[47]⟩] w (fun e w' => e = .returned (.bool false) ∧ w' = w) from ?_).mono ?_
  · go_enter Tryz.func99, Tryz.ntmps99
    go_wp2
    go_ret
    exact ⟨rfl, rfl⟩
  rintro e w2 ⟨rfl, rfl⟩
  go_wp2
  go_ret
  exact ⟨rfl, rfl⟩

set_option maxHeartbeats 1000000 in
set_option maxRecDepth 100000 in
theorem validName_any (w : World) (p : ByteArray) :
    Calls Tryz.prog 74 #[.string p] w fun e w' => e = .returned (.bool (okN p)) ∧ ∃ q, w' = w.drewN q := by
  by_cases hp1 : p.size < 1
  · have hpI : (p.size : Int) < 1 := by omega
    have HF : Hid (okN p = false) := by show _ = _; unfold okN; rw [decide_eq_false (by omega)]; rfl
    go_enter Tryz.func74, Tryz.ntmps74
    go_wp2
    go_ret
    exact ⟨ret_b HF.out.symm, 0, rfl⟩
  · have hpI : ¬ (p.size : Int) < 1 := by omega
    by_cases hp2 : 16 < p.size
    · have hpI2 : (16 : Int) < (p.size : Int) := by omega
      have HF : Hid (okN p = false) := by show _ = _; unfold okN; rw [decide_eq_false (show ¬ p.size ≤ 16 by omega)]; simp
      go_enter Tryz.func74, Tryz.ntmps74
      go_wp2
      go_ret
      exact ⟨ret_b HF.out.symm, 0, rfl⟩
    · have hpI2 : ¬ (16 : Int) < (p.size : Int) := by omega
      go_enter Tryz.func74, Tryz.ntmps74
      go_wp2
      go_loopw [16] (fun vj wr => ∃ j : Nat, j ≤ p.size ∧ vj = .int .i64 j ∧ Hid (∀ t, t < j → okB (bN p t) = true) ∧ ∃ q, wr = w.drewN q) (fun j _ => p.size - (intOf j).toNat)
      case atStart => exact ⟨0, Nat.zero_le _, rfl, (fun t ht => by omega), 0, rfl⟩
      case round =>
        obtain ⟨j, hj, rfl, HJ, q, rfl⟩ := hrel
        by_cases hjl : j < p.size
        · have hjI : (j : Int) < (p.size : Int) := by omega
          have hbn := bN_get p j hjl
          have hx8 : p[j].toNat < 256 := p[j].toNat_lt
          obtain ⟨x, hx⟩ : ∃ x, x = p[j].toNat := ⟨_, rfl⟩
          have HX := hd9 hx
          have HBN : Hid (bN p j = x) := by show _ = _; rw [hbn, hx]
          clear hx hbn
          by_cases c1 : x < 48
          · have k1 : ¬ (97 : Int) ≤ (p[j].toNat : Int) := by have := HX.out; omega
            have k2 : ¬ (48 : Int) ≤ (p[j].toNat : Int) := by have := HX.out; omega
            have HF := hd9 (okN_no hjl (by rw [HBN.out]; unfold okB; rw [decide_eq_false (show ¬ 97 ≤ x by omega), decide_eq_false (show ¬ 48 ≤ x by omega)]; rfl))
            go_wp2
            go_ret
            exact ⟨ret_b HF.out.symm, _, rfl⟩
          · by_cases c2 : x ≤ 57
            · have k1 : ¬ (97 : Int) ≤ (p[j].toNat : Int) := by have := HX.out; omega
              have k2 : (48 : Int) ≤ (p[j].toNat : Int) := by have := HX.out; omega
              have k3 : (p[j].toNat : Int) ≤ 57 := by have := HX.out; omega
              have HOK : Hid (okB (bN p j) = true) := by show _ = _; rw [HBN.out]; unfold okB; rw [decide_eq_true (show 48 ≤ x by omega), decide_eq_true (show x ≤ 57 by omega)]; simp
              go_wp2
              exact ⟨⟨j + 1, by omega, by go_num, (fun t ht => by by_cases e : t = j; (subst e; exact HOK.out); exact HJ.out t (by omega)), q, rfl⟩, by simp [intOf]; omega⟩
            · by_cases c3 : x < 97
              · have k1 : ¬ (97 : Int) ≤ (p[j].toNat : Int) := by have := HX.out; omega
                have k2 : (48 : Int) ≤ (p[j].toNat : Int) := by have := HX.out; omega
                have k3 : ¬ (p[j].toNat : Int) ≤ 57 := by have := HX.out; omega
                have HF := hd9 (okN_no hjl (by rw [HBN.out]; unfold okB; rw [decide_eq_false (show ¬ 97 ≤ x by omega), decide_eq_false (show ¬ x ≤ 57 by omega)]; simp))
                go_wp2
                go_ret
                exact ⟨ret_b HF.out.symm, _, rfl⟩
              · by_cases c4 : x ≤ 122
                · have k1 : (97 : Int) ≤ (p[j].toNat : Int) := by have := HX.out; omega
                  have k2 : (p[j].toNat : Int) ≤ 122 := by have := HX.out; omega
                  have k3 : (48 : Int) ≤ (p[j].toNat : Int) := by omega
                  have k4 : ¬ (p[j].toNat : Int) ≤ 57 := by omega
                  have HOK : Hid (okB (bN p j) = true) := by show _ = _; rw [HBN.out]; unfold okB; rw [decide_eq_true (show 97 ≤ x by omega), decide_eq_true (show x ≤ 122 by omega)]; simp
                  go_wp2
                  exact ⟨⟨j + 1, by omega, by go_num, (fun t ht => by by_cases e : t = j; (subst e; exact HOK.out); exact HJ.out t (by omega)), q, rfl⟩, by simp [intOf]; omega⟩
                · have k1 : (97 : Int) ≤ (p[j].toNat : Int) := by have := HX.out; omega
                  have k2 : ¬ (p[j].toNat : Int) ≤ 122 := by have := HX.out; omega
                  have k3 : (48 : Int) ≤ (p[j].toNat : Int) := by omega
                  have k4 : ¬ (p[j].toNat : Int) ≤ 57 := by omega
                  have HF := hd9 (okN_no hjl (by rw [HBN.out]; unfold okB; rw [decide_eq_false (show ¬ x ≤ 122 by omega), decide_eq_false (show ¬ x ≤ 57 by omega)]; simp))
                  go_wp2
                  go_ret
                  exact ⟨ret_b HF.out.symm, _, rfl⟩
        · have hjI : ¬ (j : Int) < (p.size : Int) := by omega
          have HOK := hd9 (okN_yes (by omega) (by omega) (fun t ht => HJ.out t (by omega)))
          go_wp2
          go_ret
          exact ⟨ret_b HOK.out.symm, _, rfl⟩

end Go.Proofs.YtdiingonnddkcaaGreatDoor
namespace Go.Proofs.YtdiingonnddkcaaGreatDoor
open Go.RowKit Go.Shelf

/-- The two blocks that a loop over a function keeps its books in. -/
def Book (r : Loop) (M : Nat) (W : World) : Prop := W.heap[M + 1]? = some (.loop r) ∧ W.heap[M]? = some (.deferred (some []))

theorem Book.keep {r : Loop} {M : Nat} {X Y : World} (h : Book r M X) (hk : KeepsFrom M X Y) : Book r M Y := ⟨hk.same _ _ (by omega) h.1 rfl, hk.same _ _ (Nat.le_refl _) h.2 rfl⟩


/-- The same, where the body may leave by a return (StX: what it has left then). -/
theorem range_leaves {F : Fence} {n : Nat} {P : Program} {β : Type} {g : Operand} {ps : Array Tmp} {assign body : Code} {Q : Exit → Act → World → Prop} {a : Act} {w : World}
    (hro : F.round = none) (h1 : 1 ≤ n) {gf : Nat} {lb : Array Value} (hg : a.eval g = .func (.func gf) #[] lb) (hFg : F.fn gf) (eg : ∀ args w, (callFunc gf args).run P w = .ok (.enter gf args) w)
    (St : β → World → Prop) (Pre : β → Array Value → World → Prop) (step : β → Array Value → β) (Kp : World → World → Prop) (Fin : β → Prop) (StX : World → Prop) (hStX : OwnFrom w.heap.size (fun (_ : Unit) W => StX W)) (s0 : β)
    (hSt : OwnFrom w.heap.size St) (hKt : ∀ {A B C : World}, Kp A B → Kp B C → Kp A C)
    (hKb : ∀ (W : World) (l : Nat) (o o' : Obj), w.heap.size ≤ l → W.heap[l]? = some o → o.isCells = false → o.isWalk = false → Kp W (W.putObj l o'))
    (hps : ∀ s vs W, Pre s vs W → vs.size = ps.size) (h0 : St s0 w)
    (Ax : β → Array Value → Act → World → Prop) (hAx : ∀ s vs a', OwnFrom w.heap.size (fun (_ : Unit) W => Ax s vs a' W))
    (hassign : ∀ (l : Nat) (s : β) (vs : Array Value) (W : World) (K : Act → World → Prop), St s W → Pre s vs W → (∀ a' W', KeepsFrom w.heap.size W W' → Kp W W' → Ax s vs a' W' → K a' W') →
      assign.wpIn (F.inRound l) (n - 1 - 1) P (Exit.then K (fun _ _ _ => False)) { tmps := (ps.zip vs).foldl (fun t (p, v) => t.setIfInBounds p v) a.tmps, defers := [] } W)
    (hbody : ∀ (l : Nat) (s : β) (vs : Array Value) (a' : Act) (W : World), Ax s vs a' W → body.wpIn (F.inRound l) (n - 1 - 1) P (fun e _ W' => (e = .normal ∧ KeepsFrom w.heap.size W W' ∧ Kp W W' ∧ St (step s vs) W') ∨ (e = .ret ∧ KeepsFrom w.heap.size W W' ∧ StX W')) a' W)
    (hcall : ∀ (Bk BkX : World → Prop) (W1 : World), (∀ X Y, KeepsFrom w.heap.size X Y → Bk X → Bk Y) → (∀ X Y, KeepsFrom w.heap.size X Y → BkX X → BkX Y) →
      (∀ s vs W, St s W → Bk W → Pre s vs W → YieldAt F (n - 1 - 1) P (w.heap.size + 1) vs W fun e W' => (e = .returned (.bool true) ∧ St (step s vs) W' ∧ Bk W' ∧ Kp W W') ∨ (e = .returned (.bool false) ∧ StX W' ∧ BkX W')) →
      Below w.heap.size w W1 → w.heap.size + 2 ≤ W1.heap.size → St s0 W1 → Bk W1 →
      CallsIn F (n - 1) P gf (#[.func (.yield (w.heap.size + 1)) #[] #[]] ++ lb) W1 fun e W' => (∃ v, e = .returned v) ∧ ((∃ s, Fin s ∧ St s W' ∧ Bk W') ∨ (StX W' ∧ BkX W')))
    (hdone : ∀ (D : Nat) (s : β) (W : World), w.heap.size ≤ D → Fin s → St s W → W.heap[D]? = some (.deferred (some [])) → Q .normal { a with defers := { target := .collected D, args := #[] } :: a.defers } W)
    (hstop : ∀ (D : Nat) (W : World), w.heap.size ≤ D → StX W → W.heap[D]? = some (.deferred (some [])) → Code.ret.wpIn F n P Q { a with defers := { target := .collected D, args := #[] } :: a.defers } W) :
    (Code.rangeFunc g ps assign body).wpIn F n P Q a w := by
  refine wpIn_rangeFunc ?_
  intro fn hfn
  rw [hro]
  obtain ⟨r0, hr0⟩ : ∃ r : Loop, r = { state := .ready, pending := none, fn, tmps := a.tmps, params := ps, assign, body, defers := w.heap.size } := ⟨_, rfl⟩
  have hst : r0.state = .ready := by rw [hr0]
  have hpe : r0.pending = none := by rw [hr0]
  have hgrow : Below w.heap.size w ((w.alloc (.deferred (some []))).alloc (.loop r0)) := ((Below.refl _ w).alloc (Nat.le_refl _) _).alloc (by simp) _
  have hbook : Book r0 w.heap.size ((w.alloc (.deferred (some []))).alloc (.loop r0)) := by
    constructor
    · have := heap_alloc_new (w.alloc (.deferred (some []))) (.loop r0)
      rwa [World.size_alloc] at this
    · exact (Below.heap_alloc _ _ _ (by simp)).trans (heap_alloc_new w _)
  have hst1 : St s0 ((w.alloc (.deferred (some []))).alloc (.loop r0)) := hSt.alloc _ (hSt.alloc _ h0)
  have hsz : w.heap.size + 2 ≤ ((w.alloc (.deferred (some []))).alloc (.loop r0)).heap.size := by simp
  have henter : (Instr.enterLoop fn a.tmps ps assign body none).run P w = .ok (w.heap.size + 1, [{ target := .collected w.heap.size, args := #[] }]) ((w.alloc (.deferred (some []))).alloc (.loop r0)) := by
    rw [hr0]; exact run_enterLoop_outer _ _ _ _ _
  generalize (w.alloc (.deferred (some []))).alloc (.loop r0) = W1 at *
  refine ⟨_, _, W1, { target := .fn (.func gf) lb, args := #[.func (.yield (w.heap.size + 1)) #[] #[]] }, W1, gf, #[.func (.yield (w.heap.size + 1)) #[] #[]] ++ lb, W1, henter, ?_, ?_, ?_, fun _ => h1, ?_⟩
  · simp only [resolve, hg]
    simp [go_sem]
  · intro f' hf'
    simp [Target.leads] at hf'
    subst hf'
    exact hFg
  · simp [invoke, go_sem, eg]
  refine (hcall (Book r0 w.heap.size) (Book { r0 with state := .done, pending := some .ret } w.heap.size) W1 (fun X Y hk hb => hb.keep hk) (fun X Y hk hb => hb.keep hk) ?_ hgrow hsz hst1 hbook).mono ?_
  · intro s vs W hs hb hp
    have hy := run_yield (P := P) (args := vs) hb.1 (by rw [hr0]; exact hps s vs W hp)
    rw [hr0] at hy
    refine ⟨fn, _, assign, body, hy, roundIn_of_wpIn hfn (hassign _ s vs W _ hs hp ?_)⟩
    clear hy
    intro a' Wa hka hkp hax
    have hba := hb.keep hka
    have hlt := (Array.getElem?_eq_some_iff.1 hba.1).1
    refine ⟨_, run_beginRound hba.1 hst, ?_⟩
    have hl2 : (Wa.putObj (w.heap.size + 1) (.loop { r0 with state := .busy })).heap[w.heap.size + 1]? = some (.loop { r0 with state := .busy }) := World.putObj_heap_same hlt
    have hk2 : (Wa.putObj (w.heap.size + 1) (.loop { r0 with state := .busy })).heap[w.heap.size]? = some (.deferred (some [])) := (World.putObj_heap_other (by omega)).trans hba.2
    have hkb : Kp Wa (Wa.putObj (w.heap.size + 1) (.loop { r0 with state := .busy })) := hKb _ _ _ _ (by omega) hba.1 rfl rfl
    refine wpIn_mono (hbody _ s vs a' _ ((hAx s vs a').putObj (s := ()) _ hax (by omega) hba.1 rfl)) ?_
    rintro e a3 W3 (⟨rfl, hk3, hp3, hs3⟩ | ⟨rfl, hk3, hs3⟩)
    · have hl3 := hk3.same _ _ (by omega) hl2 rfl
      have hd3 := hk3.same _ _ (Nat.le_refl _) hk2 rfl
      have hend := run_endRound (P := P) none hl3
      have hr1 : ({ { r0 with state := .busy } with state := if (none : Option Code).isNone then .ready else .done, pending := none } : Loop) = r0 := by rw [hr0]; rfl
      rw [hr1] at hend
      exact ⟨_, _, hend, .inl ⟨rfl, hSt.putObj _ hs3 (by omega) hl3 rfl, ⟨World.putObj_heap_same (Array.getElem?_eq_some_iff.1 hl3).1, (World.putObj_heap_other (by omega)).trans hd3⟩, hKt hkp (hKt (hKt hkb hp3) (hKb _ _ _ _ (by omega) hl3 rfl rfl))⟩⟩
    · have hl3 := hk3.same _ _ (by omega) hl2 rfl
      have hd3 := hk3.same _ _ (Nat.le_refl _) hk2 rfl
      have hend := run_endRound (P := P) (some .ret) hl3
      have hr1 : ({ { r0 with state := .busy } with state := if (some Code.ret : Option Code).isNone then .ready else .done, pending := some .ret } : Loop) = { r0 with state := .done, pending := some .ret } := by rw [hr0]; rfl
      rw [hr1] at hend
      exact ⟨_, _, hend, .inr ⟨rfl, hStX.putObj (s := ()) _ hs3 (by omega) hl3 rfl, ⟨World.putObj_heap_same (Array.getElem?_eq_some_iff.1 hl3).1, (World.putObj_heap_other (by omega)).trans hd3⟩⟩⟩
  · rintro e W2 ⟨⟨v, rfl⟩, (⟨s, hF, hs, hb⟩ | ⟨hs, hb⟩)⟩
    · have hend := run_endLoop (P := P) hb.1 (by rw [hst]; simp)
      rw [hpe] at hend
      exact ⟨none, _, hend, hdone _ s _ (Nat.le_refl _) hF (hSt.putObj _ hs (by omega) hb.1 rfl) ((World.putObj_heap_other (by omega)).trans hb.2)⟩
    · have hend := run_endLoop (P := P) hb.1 (by simp)
      exact ⟨some .ret, _, hend, hstop _ _ (Nat.le_refl _) (hStX.putObj (s := ()) _ hs (by omega) hb.1 rfl) ((World.putObj_heap_other (by omega)).trans hb.2)⟩


attribute [local go_sem] Oper.semAt_some

theorem splA_none : ∀ (l cur : List UInt8), Lib.indexByte l 47 = -1 → splA cur l = [cur ++ l]
  | [], cur, _ => by simp [splA]
  | x :: l, cur, h => by
    unfold Lib.indexByte at h
    by_cases hx : x = 47
    · rw [hx] at h; simp at h
    · have hb := beq_eq_false_iff_ne.2 hx
      rw [hb] at h
      simp only [Bool.false_eq_true, if_false] at h
      have hge := Lib.indexByte_ge l 47
      have h1 : Lib.indexByte l 47 = -1 := by
        by_cases e : Lib.indexByte l 47 = -1
        · exact e
        · rw [if_neg (by simpa using e)] at h; omega
      rw [splA_ch hx, splA_none l _ h1]; simp
theorem splA_some : ∀ (l cur : List UInt8) (k : Nat), Lib.indexByte l 47 = (k : Int) → k < l.length ∧ splA cur l = (cur ++ l.take k) :: splA [] (l.drop (k + 1))
  | [], cur, k, h => by simp [Lib.indexByte] at h
  | x :: l, cur, k, h => by
    unfold Lib.indexByte at h
    by_cases hx : x = 47
    · rw [hx] at h
      have hk : k = 0 := by simp at h; omega
      subst hk
      rw [hx, splA_sl]; simp
    · have hb := beq_eq_false_iff_ne.2 hx
      rw [hb] at h
      simp only [Bool.false_eq_true, if_false] at h
      by_cases e : Lib.indexByte l 47 = -1
      · rw [if_pos (by simpa using e)] at h; omega
      · rw [if_neg (by simpa using e)] at h
        have hge := Lib.indexByte_ge l 47
        obtain ⟨j, rfl⟩ : ∃ j, k = j + 1 := ⟨k - 1, by omega⟩
        obtain ⟨h1, h2⟩ := splA_some l (cur ++ [x]) j (by omega)
        refine ⟨by simp; omega, ?_⟩
        rw [splA_ch hx, h2]; simp

/-- The length of the text in a box. -/
def lenIn (B : Nat) (W : World) : Nat := match W.cell? ⟨B, 0, none⟩ with
  | some (.string x) => x.size
  | _ => 0


def YPost (Bs : Nat) (St : Nat → World → Prop) (StX Bk BkX : World → Prop) (k : Nat) (W : World) (e : Ending) (W' : World) : Prop :=
  (e = .returned (.bool true) ∧ St (k + 1) W' ∧ Bk W' ∧ ∀ v, Boxed W Bs 9 v → Boxed W' Bs 9 v) ∨ (e = .returned (.bool false) ∧ StX W' ∧ BkX W')

set_option maxHeartbeats 2000000 in
set_option maxRecDepth 100000 in
theorem split1_any (nn : Nat) (hn1 : 1 ≤ nn) (l Bs Be Bv : Nat) (R : List (List UInt8)) (s0 : ByteArray)
    (St : Nat → World → Prop) (StX Bk BkX : World → Prop)
    (hSB : ∀ k X Y, Below X.heap.size X Y → St k X → St k Y) (hBB : ∀ X Y, Below X.heap.size X Y → Bk X → Bk Y)
    (hSW : ∀ k X v, St k X → St k (X.setCell ⟨Bs, 0, none⟩ v)) (hBW : ∀ X v, Bk X → Bk (X.setCell ⟨Bs, 0, none⟩ v))
    (hSR : ∀ k W, St k W → W.cell? ⟨Be, 0, none⟩ = some (.string ⟨#[47]⟩) ∧ W.cell? ⟨Bv, 0, none⟩ = some (.int .i64 0))
    (hY : ∀ k vs W, St k W → Bk W → (k < R.length ∧ vs = #[sV (R.getD k [])]) → YieldAt Fence.wide (nn - 1) Tryz.prog l vs W (YPost Bs St StX Bk BkX k W))
    (W : World) (h0 : St 0 W) (h1 : Bk W) (hs : Boxed W Bs 9 (.string s0)) (hz : s0.size ≤ 1048576) (hR : R = splA [] s0.data.toList) :
    CallsIn Fence.wide nn Tryz.prog 116 #[.func (.yield l) #[] #[], .pointer (some ⟨Be, 0, none⟩), .pointer (some ⟨Bs, 0, none⟩), .pointer (some ⟨Bv, 0, none⟩)] W fun e W' => (∃ v, e = .returned v) ∧ ((∃ s, s = R.length ∧ St s W' ∧ Bk W') ∨ (StX W' ∧ BkX W')) := by
  have HY := hd9 hY
  have HSB := hd9 hSB
  have HBB := hd9 hBB
  have HSW := hd9 hSW
  have HBW := hd9 hBW
  have HSR := hd9 hSR
  have H0 := hd9 h0
  have H1 := hd9 h1
  have HS0 := hd9 hs
  have HR : Hid (R.drop 0 = splA [] s0.data.toList) := hR
  obtain ⟨cE, cV⟩ := hSR 0 W h0
  have cS := hs.cell
  clear hY hSB hBB hSW hBW hSR h0 h1 hs hR
  refine callsIn_of_wp Tryz.func116 rfl trivial ?_ rfl
  simp only [Tryz.ntmps116, List.size_toArray, List.length_cons, List.length_nil, Nat.reduceAdd, Nat.reduceSub, Array.replicate_succ, Array.replicate_zero, List.push_toArray, List.append_toArray, List.nil_append, List.cons_append]
  gi_wp2
  gi_loopw [] (fun wr => ∃ (k : Nat) (r : ByteArray), Hid (St k wr) ∧ Hid (Bk wr) ∧ r.size ≤ 1048576 ∧ Hid (Boxed wr Bs 9 (.string r)) ∧ Hid (R.drop k = splA [] r.data.toList)) (fun wr => lenIn Bs wr)
  case atStart => exact ⟨0, s0, H0, H1, hz, HS0, HR⟩
  case round =>
    obtain ⟨k, r, HS, HB, hrz, HX, HD⟩ := hrel
    obtain ⟨cE, cV⟩ := HSR.out k wr HS.out
    have cS := HX.out.cell
    gi_wp2_with fail
    refine ⟨trivial, ?_⟩
    refine (callsIn_wide.2 (idx_any _ r)).mono ?_
    rintro e w2 ⟨rfl, rfl⟩
    by_cases hneg : Lib.indexByte r.data.toList 47 = -1
    · have hd := HD.out
      rw [splA_none _ _ hneg, List.nil_append] at hd
      have hlt : k < R.length := by
        by_cases h : k < R.length
        · exact h
        · rw [List.drop_eq_nil_of_le (by omega)] at hd; cases hd
      have hend : Hid (k + 1 = R.length) := by
        have := congrArg List.length hd
        rw [List.length_drop] at this
        simp at this
        show _ = _; omega
      have hget : R.getD k [] = r.data.toList := by
        have := congrArg (fun x => x.getD 0 []) hd
        simpa [List.getD, List.getElem?_drop] using this
      have hYx := HY.out k #[.string r] w2 HS.out HB.out ⟨hlt, by rw [hget]; rfl⟩
      rw [hneg]
      clear hneg hd hlt hget
      obtain ⟨fn, tmps, assign, body, hy, hR⟩ := hYx
      gi_wp2
      refine hR.mono ?_
      rintro e W3 (⟨rfl, hS3, hB3, -⟩ | ⟨rfl, hS3, hB3⟩)
      · have HS3 : Hid (St (k + 1) W3) := hS3
        have HB3 := hd9 hB3
        clear hS3 hB3 hy hR
        gi_wp2
        refine bodyPost_end (results_none rfl _ _ _) rfl ?_
        exact ⟨⟨_, rfl⟩, .inl ⟨k + 1, hend.out, HS3.out, HB3.out⟩⟩
      · have HS3 : Hid (StX W3) := hS3
        have HB3 := hd9 hB3
        clear hS3 hB3 hy hR
        gi_wp2
        refine bodyPost_end (results_none rfl _ _ _) rfl ?_
        exact ⟨⟨_, rfl⟩, .inr ⟨HS3.out, HB3.out⟩⟩
    · have hge := Lib.indexByte_ge r.data.toList 47
      obtain ⟨j, hj⟩ : ∃ j : Nat, Lib.indexByte r.data.toList 47 = (j : Int) := ⟨(Lib.indexByte r.data.toList 47).toNat, by omega⟩
      have hd := HD.out
      obtain ⟨hjl, hsp⟩ := splA_some _ [] j hj
      have hjr : j < r.size := hjl
      rw [hsp, List.nil_append] at hd
      have hlt : k < R.length := by
        by_cases h : k < R.length
        · exact h
        · rw [List.drop_eq_nil_of_le (by omega)] at hd; cases hd
      have hget : R.getD k [] = r.data.toList.take j := by
        have := congrArg (fun x => x.getD 0 []) hd
        simpa [List.getD, List.getElem?_drop] using this
      have hD2 : Hid (R.drop (k + 1) = splA [] (r.extract (j + 1) r.size).data.toList) := by
        have h1 := congrArg (List.drop 1) hd
        rw [List.drop_drop, List.drop_succ_cons, List.drop_zero] at h1
        show _ = _
        rw [extract_seg, h1]
        unfold seg
        congr 1
        rw [List.take_of_length_le (by rw [List.length_drop]; show r.size - _ ≤ _; omega)]
      have hYx := HY.out k #[.string (r.extract 0 j)] w2 HS.out HB.out ⟨hlt, by rw [hget, extract_seg]; unfold seg; simp [sV]⟩
      rw [hj]
      have hsz : (r.extract (j + 1) r.size).size = r.size - (j + 1) := by simp
      have HSZ := hd9 hsz
      clear hneg hd hlt hget hj hsp hjl hge hsz
      have hjI : ¬ (j : Int) < 0 := by omega
      have hjI2 : (j : Int) ≤ (r.size : Int) := by omega
      have hjI3 : (j : Int) + 1 ≤ (r.size : Int) := by omega
      obtain ⟨fn, tmps, assign, body, hy, hR⟩ := hYx
      gi_wp2
      refine hR.mono ?_
      rintro e W3 (⟨rfl, hS3, hB3, hK3⟩ | ⟨rfl, hS3, hB3⟩)
      · have HS3 : Hid (St (k + 1) W3) := hS3
        have HB3 := hd9 hB3
        have HX3 := hd9 (hK3 _ HX.out)
        clear hS3 hB3 hy hR hK3 cE cV cS
        obtain ⟨cE, cV⟩ := HSR.out (k + 1) W3 HS3.out
        have cS := HX3.out.cell
        have fS := HX3.out.frozen
        gi_wp2
        go_roundw
        case rel => exact ⟨k + 1, _, HSW.out _ _ _ HS3.out, HBW.out _ _ HB3.out, by rw [HSZ.out]; omega, HX3.out.set _, hD2⟩
        case measure =>
          have e1 := (HX3.out.set (.string (r.extract (j + 1) r.size))).cell
          have e2 := HX.out.cell
          unfold lenIn
          rw [e1, e2]
          show (r.extract (j + 1) r.size).size < r.size
          rw [HSZ.out]; omega
      · have HS3 : Hid (StX W3) := hS3
        have HB3 := hd9 hB3
        clear hS3 hB3 hy hR
        gi_wp2
        refine bodyPost_ret (results_none rfl _ _ _) rfl ?_
        exact ⟨⟨_, rfl⟩, .inr ⟨HS3.out, HB3.out⟩⟩


attribute [local go_sem] Oper.semAt_some

def SeqPost (s : ByteArray) (w : World) (e : Ending) (w' : World) : Prop :=
  e = .returned (.func (.func 116) #[] #[.pointer (some ⟨w.heap.size + 1, 0, none⟩), .pointer (some ⟨w.heap.size, 0, none⟩), .pointer (some ⟨w.heap.size + 2, 0, none⟩)]) ∧
  w' = ((w.alloc (.cells #[.string s] 9)).alloc (.cells #[.string ⟨#[47]⟩] 9)).alloc (.cells #[.int .i64 0] 3)

set_option maxHeartbeats 400000 in
theorem splitSeq_in (F : Fence) (n : Nat) (h87 : F.fn 100) (hro : F.round = none) (s : ByteArray) (w : World) :
    CallsIn F n Tryz.prog 100 #[.string s, .string ⟨#[47]⟩, .int .i64 0] w (SeqPost s w) := by
  refine callsIn_of_wp Tryz.func100 rfl h87 ?_ hro
  simp only [Tryz.ntmps100, List.size_toArray, List.length_cons, List.length_nil, Nat.reduceAdd, Nat.reduceSub, Array.replicate_succ, Array.replicate_zero, List.push_toArray, List.append_toArray, List.nil_append, List.cons_append]
  gi_wp2
  go_ret
  exact ⟨rfl, rfl⟩

set_option maxHeartbeats 400000 in
theorem SplitSeq_in (n : Nat) (hn : 1 ≤ n) (s : ByteArray) (w : World) :
    CallsIn Fence.wide n Tryz.prog 73 #[.string s, .string ⟨#[47]⟩] w (SeqPost s w) := by
  refine callsIn_of_wp Tryz.func73 rfl trivial ?_ rfl
  simp only [Tryz.ntmps73, List.size_toArray, List.length_cons, List.length_nil, Nat.reduceAdd, Nat.reduceSub, Array.replicate_succ, Array.replicate_zero, List.push_toArray, List.append_toArray, List.nil_append, List.cons_append]
  gi_wp2_with fail
  refine ⟨trivial, ?_⟩
  refine (splitSeq_in Fence.wide _ trivial rfl s w).mono ?_
  rintro e w5 ⟨rfl, hw5⟩
  have HW := hd9 hw5
  clear hw5
  gi_wp2
  go_ret
  exact ⟨rfl, HW.out⟩

theorem splA_sum : ∀ (l cur : List UInt8), ((splA cur l).map (fun p => p.length + 1)).sum = cur.length + l.length + 1
  | [], cur => by simp [splA]
  | x :: l, cur => by
    by_cases h : x = 47
    · subst h; rw [splA_sl]; have := splA_sum l []; simp only [List.map_cons, List.sum_cons, this, List.length_cons, List.length_nil]; omega
    · rw [splA_ch h, splA_sum l (cur ++ [x])]; simp only [List.length_append, List.length_cons, List.length_nil]; omega

theorem sum_ok : ∀ (rs : List (List UInt8)), rs.all okL = true → (rs.map (fun p => p.length + 1)).sum ≤ 17 * rs.length
  | [], _ => by simp
  | p :: rs, h => by
    rw [List.all_cons, Bool.and_eq_true] at h
    have h1 := sum_ok rs h.2
    have h2 : p.length ≤ 16 := by
      have := h.1
      unfold okL okN at this
      simp only [Bool.and_eq_true, decide_eq_true_eq] at this
      exact this.1.2
    simp only [List.map_cons, List.sum_cons, List.length_cons]; omega

theorem okPath_long {s : ByteArray} (h : 102 < s.size) : okPath s = false := by
  have h1 : ¬ s.data.toList = [47] := fun e => by
    have : s.data.toList.length = 1 := by rw [e]; rfl
    have h2 : s.data.toList.length = s.size := rfl
    omega
  rw [okPath_not h1]
  cases hn : (decide ((nm s).length ≤ 6)) with
  | false => simp
  | true =>
    cases ha : (nm s).all okL with
    | false => simp
    | true =>
      exfalso
      have h3 := sum_ok _ ha
      have h4 := splA_sum (s.data.toList.drop 1) []
      have h5 : (s.data.toList.drop 1).length = s.size - 1 := by rw [List.length_drop]; rfl
      rw [h5] at h4
      unfold nm at h3 hn
      rw [h4] at h3
      simp at h3 hn
      omega


attribute [local go_sem] Oper.semAt_some

/-- The walk under way, with k names seen. -/
structure VSt (w : World) (R : List (List UInt8)) (k : Nat) (W : World) : Prop where
  le : k ≤ R.length
  ok : (R.take k).all okL = true
  res : Boxed W w.heap.size 4 (.bool false)
  dep : Boxed W (w.heap.size + 1) 3 (.int .i64 (k : Int))
  txt : ∃ v, Boxed W (w.heap.size + 2) 9 v
  sep : Boxed W (w.heap.size + 3) 9 (.string ⟨#[47]⟩)
  sav : Boxed W (w.heap.size + 4) 3 (.int .i64 0)
  below : Below w.heap.size w W
  size : w.heap.size + 5 ≤ W.heap.size
/-- The walk left at a wrong name. -/
structure VSx (w : World) (R : List (List UInt8)) (W : World) : Prop where
  no : R.all okL = false
  res : Boxed W w.heap.size 4 (.bool false)
  below : Below w.heap.size w W
  size : w.heap.size + 5 ≤ W.heap.size

theorem boxed_below {X Y : World} {B : Nat} {t : TypeId} {v : Value} (hb : Below X.heap.size X Y) (h : Boxed X B t v) : Boxed Y B t v := (hb.block _ h.lt).trans h

theorem VSt.later {w : World} {R : List (List UInt8)} {k : Nat} {X Y : World} (h : VSt w R k X) (hb : Below X.heap.size X Y) : VSt w R k Y :=
  ⟨h.le, h.ok, boxed_below hb h.res, boxed_below hb h.dep, h.txt.imp (fun _ hv => boxed_below hb hv), boxed_below hb h.sep, boxed_below hb h.sav, h.below.trans (hb.mono (by have := h.size; omega)), Nat.le_trans h.size hb.size⟩
theorem VSt.notCells {w : World} {R : List (List UInt8)} {k : Nat} {X Y : World} {row : Option Nat} (h : VSt w R k X) (hg : X.grownBy Y row) (hr : ∀ r, row = some r → w.heap.size + 5 ≤ r ∧ ∃ o : Obj, X.heap[r]? = some o ∧ o.isCells = false) : VSt w R k Y :=
  ⟨h.le, h.ok, h.res.kept hg (fun e => by have := (hr _ e.symm).1; omega), h.dep.kept hg (fun e => by have := (hr _ e.symm).1; omega), h.txt.imp (fun _ hv => hv.kept hg (fun e => by have := (hr _ e.symm).1; omega)), h.sep.kept hg (fun e => by have := (hr _ e.symm).1; omega), h.sav.kept hg (fun e => by have := (hr _ e.symm).1; omega),
   h.below.grown hg (by have := h.size; omega) (fun q e => by have := (hr q e).1; omega), Nat.le_trans h.size hg.size⟩
theorem VSx.notCells {w : World} {R : List (List UInt8)} {X Y : World} {row : Option Nat} (h : VSx w R X) (hg : X.grownBy Y row) (hr : ∀ r, row = some r → w.heap.size + 5 ≤ r ∧ ∃ o : Obj, X.heap[r]? = some o ∧ o.isCells = false) : VSx w R Y :=
  ⟨h.no, h.res.kept hg (fun e => by have := (hr _ e.symm).1; omega), h.below.grown hg (by have := h.size; omega) (fun q e => by have := (hr q e).1; omega), Nat.le_trans h.size hg.size⟩
theorem VSt.put {w : World} {R : List (List UInt8)} {k : Nat} {X : World} (h : VSt w R k X) (v : Value) : VSt w R k (X.setCell ⟨w.heap.size + 2, 0, none⟩ v) := by
  obtain ⟨u, hu⟩ := h.txt
  exact ⟨h.le, h.ok, h.res.other (by omega) _, h.dep.other (by omega) _, ⟨v, hu.set v⟩, h.sep.other (by omega) _, h.sav.other (by omega) _, h.below.setCell (by simp) _, by simpa using h.size⟩
theorem VSt.step {w : World} {R : List (List UInt8)} {k : Nat} {X : World} (h : VSt w R k X) (hk : k < R.length) (ho : okN (pN R k) = true) : VSt w R (k + 1) (X.setCell ⟨w.heap.size + 1, 0, none⟩ (.int .i64 ((k + 1 : Nat) : Int))) := by
  obtain ⟨u, hu⟩ := h.txt
  refine ⟨hk, ?_, h.res.other (by omega) _, h.dep.set _, ⟨u, hu.other (by omega) _⟩, h.sep.other (by omega) _, h.sav.other (by omega) _, h.below.setCell (by simp) _, by simpa using h.size⟩
  rw [List.take_succ_eq_append_getElem hk, List.all_append, h.ok]
  have e : pN R k = ⟨R[k].toArray⟩ := by unfold pN; simp [List.getD, hk]
  rw [e] at ho
  simp [okL, ho]
theorem VSt.left {w : World} {R : List (List UInt8)} {k : Nat} {X : World} (h : VSt w R k X) (hk : k < R.length) (ho : okN (pN R k) = false) : VSx w R (X.setCell ⟨w.heap.size, 0, none⟩ (.bool false)) :=
  ⟨all_no hk ho, h.res.set _, h.below.setCell (by simp) _, by simpa using h.size⟩
theorem keeps_of_below {B : Nat} {X Y : World} (h : Below X.heap.size X Y) : KeepsFrom B X Y := ⟨h.size, fun k _ _ hk _ => (h.block k (Array.getElem?_eq_some_iff.1 hk).1).trans hk⟩

/-- What the body finds. -/
def AxV (w : World) (R : List (List UInt8)) (tm : Value → Array Value) (k : Nat) (a' : Act) (W : World) : Prop := k < R.length ∧ VSt w R k W ∧ a' = { tmps := tm (.string (pN R k)), defers := [] }

set_option maxHeartbeats 2000000 in
set_option maxRecDepth 100000 in
theorem implPath_yes (w : World) (s : ByteArray) (hnr : (s.toList == [47]) = false) (hs1 : 1 ≤ s.size) (hs2 : s.size ≤ 102) (hb0 : bN s 0 = 47) :
    Calls Tryz.prog 39 #[.string s] w fun e w' => e = .returned (.bool (decide ((nm s).length ≤ 6) && (nm s).all okL)) ∧ Below w.heap.size w w' := by
  have h0 : ¬ (102 : Int) < (s.size : Int) := by omega
  have h1 : (1 : Int) ≤ (s.size : Int) := by omega
  have HB0 := hd9 hb0
  clear hb0
  refine (callsIn_wide (n := 6)).1 ?_
  refine callsIn_of_wp_marks Tryz.func39 rfl trivial ?_ rfl
  simp only [Tryz.ntmps39, List.size_toArray, List.length_cons, List.length_nil, Nat.reduceAdd, Nat.reduceSub, Array.replicate_succ, Array.replicate_zero, List.push_toArray, List.append_toArray, List.nil_append, List.cons_append]
  gi_wp2_with fail
  refine ⟨trivial, ?_⟩
  refine (callsIn_wide.2 (pre_any _ s hs1)).mono ?_
  rintro e w5 ⟨rfl, hw5⟩
  rw [decide_eq_true HB0.out]
  subst hw5
  gi_wp2_with fail
  refine ⟨trivial, ?_⟩
  refine (SplitSeq_in _ (by omega) (s.extract 1 s.size) _).mono ?_
  rintro e w5 ⟨rfl, hw5⟩
  gi_wp2_with fail
  have s5 : w5.heap.size = w.heap.size + 5 := by rw [hw5]; simp
  have HT0 : Hid (Boxed w5 (w.heap.size + 2) 9 (.string (s.extract 1 s.size))) := by
    rw [hw5]
    have := (((Boxed.new ((w.alloc (.cells #[.bool false] 4)).alloc (.cells #[.int .i64 0] 3)) 9 (.string (s.extract 1 s.size))).alloc (.cells #[.string ⟨#[47]⟩] 9)).alloc (.cells #[.int .i64 0] 3))
    rw [World.size_alloc, World.size_alloc] at this
    exact this
  have HR : Hid (nm s = splA [] (s.extract 1 s.size).data.toList) := by
    show _ = _
    rw [extract_seg]
    unfold nm seg
    congr 1
    rw [List.take_of_length_le (by rw [List.length_drop]; exact Nat.le_refl _)]
  have HST0 : Hid (VSt w (nm s) 0 w5) := by
    have hsz : ∀ (X : World) (o : Obj), (X.alloc o).heap.size = X.heap.size + 1 := fun X o => World.size_alloc X o
    refine ⟨Nat.zero_le _, by simp, ?_, ?_, ⟨_, HT0.out⟩, ?_, ?_, ?_, by omega⟩
    · rw [hw5]; exact ((((Boxed.new w 4 (.bool false)).alloc _).alloc _).alloc _).alloc _
    · rw [hw5]
      have := (((Boxed.new (w.alloc (.cells #[.bool false] 4)) 3 (.int .i64 0)).alloc (.cells #[.string (s.extract 1 s.size)] 9)).alloc (.cells #[.string ⟨#[47]⟩] 9)).alloc (.cells #[.int .i64 0] 3)
      simpa using this
    · rw [hw5]
      have := (Boxed.new (((w.alloc (.cells #[.bool false] 4)).alloc (.cells #[.int .i64 0] 3)).alloc (.cells #[.string (s.extract 1 s.size)] 9)) 9 (.string ⟨#[47]⟩)).alloc (.cells #[.int .i64 0] 3)
      simpa using this
    · rw [hw5]
      have := Boxed.new ((((w.alloc (.cells #[.bool false] 4)).alloc (.cells #[.int .i64 0] 3)).alloc (.cells #[.string (s.extract 1 s.size)] 9)).alloc (.cells #[.string ⟨#[47]⟩] 9)) 3 (.int .i64 0)
      simpa using this
    · rw [hw5]
      exact (((((Below.refl _ _).alloc (Nat.le_refl _) _).alloc (by simp) _).alloc (by simp; omega) _).alloc (by simp; omega) _).alloc (by simp; omega) _
  rw [← hw5]
  clear hw5
  have HNL : Hid ((nm s).length ≤ 103) := by have := nm_len s; show _ ≤ _; omega
  have HEX : Hid ((s.extract 1 s.size).size ≤ 1048576) := by show _ ≤ _; simp; omega
  generalize s.extract 1 s.size = sx at *
  generalize hRn : nm s = R at HR HST0 HNL
  have HRN := hd9 hRn
  clear hRn
  refine range_leaves (F := Fence.wide) (n := 6) rfl (by omega) (gf := 116) (lb := #[.pointer (some ⟨w.heap.size + 1 + 1 + 1, 0, none⟩), .pointer (some ⟨w.heap.size + 1 + 1, 0, none⟩), .pointer (some ⟨w.heap.size + 1 + 1 + 2, 0, none⟩)]) rfl trivial (enters_of Tryz.func116 (by kernel_rfl) rfl)
    (fun k W => VSt w R k W) (fun k vs W => k < R.length ∧ vs = #[sV (R.getD k [])]) (fun k _ => k + 1) (fun X Y => ∀ v, Boxed X (w.heap.size + 2) 9 v → Boxed Y (w.heap.size + 2) 9 v) (fun k => k = R.length) (VSx w R)
    (fun _ X Y row hs hg hr => hs.notCells hg (fun r e => by have := hr r e; rw [s5] at this; exact this)) 0
    (fun k X Y row hs hg hr => hs.notCells hg (fun r e => by have := hr r e; rw [s5] at this; exact this)) (fun h1 h2 v hv => h2 v (h1 v hv))
    (fun W l o o' hl ho _ _ v hv => hv.kept (grownBy_putObj' W l o') (fun e => by injection e with e; omega))
    (fun k vs W hp => by rw [hp.2]; rfl) HST0.out
    (fun k vs a' W => AxV w R (fun p => #[.string s, undef, .pointer (some ⟨w.heap.size, 0, none⟩), .pointer (some ⟨w.heap.size + 1, 0, none⟩), p, .string s, .bool false, .string s, .int .i64 s.size, .bool false, .bool false, .string s, .bool true, .bool false, .bool false, .string s, .string sx, .func (.func 116) #[] #[.pointer (some ⟨w.heap.size + 1 + 1 + 1, 0, none⟩), .pointer (some ⟨w.heap.size + 1 + 1, 0, none⟩), .pointer (some ⟨w.heap.size + 1 + 1 + 2, 0, none⟩)], p, undef, undef, undef, undef, undef, undef, undef]) k a' W)
    ?ax ?assign ?body ?call ?done ?stop
  case ax =>
    rintro k vs a' _ X Y row ⟨h1, h2, h3⟩ hg hr
    exact ⟨h1, h2.notCells hg (fun r e => by have := hr r e; rw [s5] at this; exact this), h3⟩
  case assign =>
    rintro l k vs W K hs ⟨hlt, rfl⟩ hK
    have HS := hd9 hs
    have HK : Hid (∀ a' W', _ → _ → _ → K a' W') := hK
    have HLT := hd9 hlt
    clear hs hK hlt
    gi_wp2
    refine HK.out _ _ (keeps_of_below (Below.refl _ _)) (fun v h => h) ⟨HLT.out, HS.out, rfl⟩
  case body =>
    rintro l k vs a' W ⟨hlt, hS, rfl⟩
    have HS := hd9 hS
    have HLT := hd9 hlt
    have hk : k ≤ 103 := by have := HNL.out; omega
    clear hS hlt
    gi_wp2_with fail
    refine ⟨trivial, ?_⟩
    refine (callsIn_wide.2 (validName_any _ (pN R k))).mono ?_
    rintro e w6 ⟨rfl, q, rfl⟩
    have HS2 := hd9 (HS.out.later (below_drewN' W q))
    have HKF : Hid (KeepsFrom (w.heap.size + 5) W (W.drewN q)) := keeps_of_below (below_drewN' W q)
    have HKP : Hid (∀ v, Boxed W (w.heap.size + 2) 9 v → Boxed (W.drewN q) (w.heap.size + 2) 9 v) := fun v hv => boxed_below (below_drewN' W q) hv
    have cR := HS.out.res.cell
    have fR := HS.out.res.frozen
    have cD := HS.out.dep.cell
    have fD := HS.out.dep.frozen
    by_cases hok : okN (pN R k) = true
    · have HST : Hid _ := HS2.out.step HLT.out hok
      rw [hok]
      clear hok
      gi_wp2
      refine ⟨HKF.out.trans ((KeepsOthers.setCell _ _ _).from _), fun v hv => (HKP.out v hv).other (by omega) _, HST.out⟩
    · have hok' : okN (pN R k) = false := by simpa using hok
      have HST : Hid _ := HS2.out.left HLT.out hok'
      rw [hok']
      clear hok hok'
      gi_wp2
      refine ⟨HKF.out.trans ((KeepsOthers.setCell _ _ _).from _), HST.out⟩
  case call =>
    intro Bk BkX W1 hBk hBkX hY hb5 hsz5 hs0 hb0
    refine (split1_any 5 (by omega) (w5.heap.size + 1) (w.heap.size + 2) (w.heap.size + 3) (w.heap.size + 4) R sx (fun k W => VSt w R k W) (VSx w R) Bk BkX (fun k X Y hb h => h.later hb) (fun X Y hb h => hBk X Y (keeps_of_below hb) h) (fun k X v h => h.put v) (fun X v h => hBk _ _ ((KeepsOthers.setCell _ _ _).from _) h) (fun k W h => ⟨h.sep.cell, h.sav.cell⟩) (fun k vs W hs hb hp => ?_) W1 hs0 hb0 ?_ HEX.out HR.out)
    · obtain ⟨fn, tm, asg, bd, hy, hR⟩ := hY k vs W hs hb hp
      exact ⟨fn, tm, asg, bd, hy, hR⟩
    · exact (hb5.block _ (by omega)).trans HT0.out
  case done =>
    rintro D k W hD hfin hS hK
    have hfin2 := hfin
    have hk : k ≤ 103 := by have := HNL.out; omega
    have HAL : Hid (R.all okL = true) := by have := hS.ok; rw [hfin2, List.take_length] at this; exact this
    have HFN := hd9 hfin2
    have hB := hS.below
    have zW := hS.size
    have cR := hS.res.cell
    have fR := hS.res.frozen
    have cD := hS.dep.cell
    have HRS := hd9 hS.res
    clear hS hfin hfin2
    gi_wp2
    have BX : Below w.heap.size w (W.setCell ⟨w.heap.size, 0, none⟩ (.bool (decide ((k : Int) ≤ 6)))) := hB.setCell (by simp) _
    have hK2 : (W.setCell ⟨w.heap.size, 0, none⟩ (.bool (decide ((k : Int) ≤ 6)))).heap[D]? = some (.deferred (some [])) := (KeepsOthers.setCell _ _ _).same D _ hK rfl
    have RX : Boxed (W.setCell ⟨w.heap.size, 0, none⟩ (.bool (decide ((k : Int) ≤ 6)))) w.heap.size 4 (.bool (decide ((k : Int) ≤ 6))) := HRS.out.set _
    have SX : (W.setCell ⟨w.heap.size, 0, none⟩ (.bool (decide ((k : Int) ≤ 6)))).heap.size = W.heap.size := by simp
    refine ⟨by simp, .inl ⟨_, _, rfl, run_takeDeferred hK2, ?_⟩⟩
    generalize W.setCell ⟨w.heap.size, 0, none⟩ (.bool (decide ((k : Int) ≤ 6))) = X at *
    have GX := grownBy_putObj' X D (.deferred none)
    have y0 := (RX.kept GX (by simp; omega)).cell
    have BF := BX.grown GX (by omega) (fun q e => by injection e with e; omega)
    generalize X.putObj D (.deferred none) = Z at *
    refine ⟨.bool (decide ((k : Int) ≤ 6)), ?_, ?_, BF⟩
    · simp [results, Tryz.results39, go_sem, y0]
    · refine ret_b ?_
      rw [HRN.out, HAL.out, ← HFN.out, Bool.and_true]
      apply decide_eq_decide.2; omega
  case stop =>
    rintro D W hD hS hK
    have zW := hS.size
    have HX := hd9 hS
    clear hS
    gi_wp2
    refine ⟨by simp, .inl ⟨_, _, rfl, run_takeDeferred hK, ?_⟩⟩
    have GX := grownBy_putObj' W D (.deferred none)
    have y0 := (HX.out.res.kept GX (by simp; omega)).cell
    have BF := HX.out.below.grown GX (by omega) (fun q e => by injection e with e; omega)
    have HNO := hd9 HX.out.no
    generalize W.putObj D (.deferred none) = Z at *
    refine ⟨.bool false, ?_, ?_, BF⟩
    · simp [results, Tryz.results39, go_sem, y0]
    · refine ret_b ?_
      rw [HRN.out, HNO.out, Bool.and_false]


set_option maxHeartbeats 2000000 in
set_option maxRecDepth 100000 in
theorem implPath_any (w : World) (s : ByteArray) :
    Calls Tryz.prog 39 #[.string s] w fun e w' => e = .returned (.bool (okPath s)) ∧ Below w.heap.size w w' := by
  by_cases hr : s.data.toList = [47]
  · have hrt : (s.toList == [47]) = true := by rw [ByteArray.toList_eq, hr]; rfl
    have HP := hd9 (okPath_root hr)
    clear hr
    go_enter Tryz.func39, Tryz.ntmps39
    go_wp2
    refine bodyPost_ret (v := .bool true) ?_ rfl ?_
    · simp [results, Tryz.results39, go_sem]
    · exact ⟨ret_b HP.out.symm, (Below.refl _ _).alloc (Nat.le_refl _) _⟩
  · have hrt : (s.toList == [47]) = false := by rw [ByteArray.toList_eq, beq_eq_false_iff_ne]; exact hr
    have HP := hd9 (okPath_not hr)
    by_cases hl : 102 < s.size
    · have hlI : (102 : Int) < (s.size : Int) := by omega
      have HP2 := hd9 (okPath_long hl)
      clear hr HP
      go_enter Tryz.func39, Tryz.ntmps39
      go_wp2
      refine bodyPost_ret (v := .bool false) ?_ rfl ?_
      · simp [results, Tryz.results39, go_sem]
      · exact ⟨ret_b HP2.out.symm, (Below.refl _ _).alloc (Nat.le_refl _) _⟩
    · have hlI : ¬ (102 : Int) < (s.size : Int) := by omega
      by_cases h0 : s.size = 0
      · have HP2 : Hid (okPath s = false) := by show _ = _; rw [HP.out, decide_eq_false (by omega)]; rfl
        have HZ := hd9 h0
        clear hr HP h0
        go_enter Tryz.func39, Tryz.ntmps39
        go_wp2_with fail
        refine (pre_none _ s HZ.out).mono ?_
        rintro e w5 ⟨rfl, rfl⟩
        go_wp2
        refine bodyPost_ret (v := .bool false) ?_ rfl ?_
        · simp [results, Tryz.results39, go_sem]
        · exact ⟨ret_b HP2.out.symm, (Below.refl _ _).alloc (Nat.le_refl _) _⟩
      · by_cases hb : bN s 0 = 47
        · have h2 : 2 ≤ s.size := by
            by_cases h2 : 2 ≤ s.size
            · exact h2
            · exfalso
              apply hr
              have h3 : s.data.toList.length = 1 := by show s.size = 1; omega
              unfold bN at hb
              cases e : s.data.toList with
              | nil => rw [e] at h3; cases h3
              | cons x l =>
                rw [e] at h3 hb
                cases l with
                | nil => simp only [List.getD_cons_zero] at hb; rw [show x = 47 from UInt8.toNat_inj.1 hb]
                | cons y l => simp at h3
          have := implPath_yes w s hrt (by omega) (by omega) hb
          rw [HP.out, decide_eq_true h2, decide_eq_true hb]
          exact this
        · have HP2 : Hid (okPath s = false) := by show _ = _; rw [HP.out, decide_eq_false hb, Bool.and_false]; rfl
          have HBF := hd9 (decide_eq_false hb)
          clear hr HP hb
          go_enter Tryz.func39, Tryz.ntmps39
          go_wp2_with fail
          refine (pre_any _ s (by omega)).mono ?_
          rintro e w5 ⟨rfl, rfl⟩
          rw [HBF.out]
          go_wp2
          refine bodyPost_ret (v := .bool false) ?_ rfl ?_
          · simp [results, Tryz.results39, go_sem]
          · exact ⟨ret_b HP2.out.symm, (Below.refl _ _).alloc (Nat.le_refl _) _⟩

end Go.Proofs.YtdiingonnddkcaaGreatDoor


