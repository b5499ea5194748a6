import Derived.Test.YtgjenbgclpmjmaaDoorVNames
namespace Go.Proofs.YtgjenbgclpmjmaaDoor
open Go.RowKit

def okL (l : List UInt8) : Bool := okN ⟨l.toArray⟩
def okPath (s : ByteArray) : Bool := decide (s.data.toList = [47]) || (decide (2 ≤ s.size) && decide (bN s 0 = 47) && decide ((nm s).length ≤ 6) && (nm s).all okL)

theorem splA_pos : ∀ (l cur : List UInt8), 0 < (splA cur l).length
  | [], cur => by simp [splA]
  | x :: l, cur => by
    by_cases h : x = 47
    · subst h; rw [splA_sl]; simp
    · rw [splA_ch h]; exact splA_pos l _
theorem splA_len : ∀ (l cur : List UInt8), (splA cur l).length ≤ l.length + 1
  | [], cur => by simp [splA]
  | x :: l, cur => by
    by_cases h : x = 47
    · subst h; rw [splA_sl]; have := splA_len l []; simp only [List.length_cons]; omega
    · rw [splA_ch h]; have := splA_len l (cur ++ [x]); simp only [List.length_cons]; omega
theorem nm_pos (s : ByteArray) : 0 < (nm s).length := splA_pos _ _
theorem nm_len (s : ByteArray) : (nm s).length ≤ s.size + 1 := by
  have := splA_len (s.data.toList.drop 1) []
  have h2 : (s.data.toList.drop 1).length ≤ s.size := by rw [List.length_drop]; show s.size - 1 ≤ _; omega
  unfold nm; omega
theorem okPath_root {s : ByteArray} (h : s.data.toList = [47]) : okPath s = true := by unfold okPath; rw [decide_eq_true h]; rfl
theorem okPath_not {s : ByteArray} (h : ¬ s.data.toList = [47]) : okPath s = (decide (2 ≤ s.size) && decide (bN s 0 = 47) && decide ((nm s).length ≤ 6) && (nm s).all okL) := by unfold okPath; rw [decide_eq_false h]; rfl
def pN (rs : List (List UInt8)) (i : Nat) : ByteArray := ⟨(rs.getD i []).toArray⟩
theorem all_no {rs : List (List UInt8)} {i : Nat} (h : i < rs.length) (hn : okN (pN rs i) = false) : rs.all okL = false := by
  rw [List.all_eq_false]
  refine ⟨rs[i], List.getElem_mem h, ?_⟩
  unfold okL
  have : pN rs i = ⟨rs[i].toArray⟩ := by unfold pN; simp [List.getD, h]
  rw [← this, hn]; simp
theorem all_yes {rs : List (List UInt8)} (hn : ∀ i, i < rs.length → okN (pN rs i) = true) : rs.all okL = true := by
  rw [List.all_eq_true]
  intro l hl
  obtain ⟨i, hi, rfl⟩ := List.mem_iff_getElem.1 hl
  have := hn i hi
  unfold okL
  have e : pN rs i = ⟨rs[i].toArray⟩ := by unfold pN; simp [List.getD, hi]
  rw [← e]; exact this

set_option maxHeartbeats 1000000 in
set_option maxRecDepth 100000 in
theorem specPath_any (w : World) (s : ByteArray) (h2 : s.size ≤ 1048576) :
    Calls Tryd.prog 12 #[.string s] w fun e w' => e = .returned (.bool (okPath s)) ∧ Below w.heap.size w w' := by
  by_cases hr : s.data.toList = [47]
  · have hrt : (s.toList == [47]) = true := by rw [ByteArray.toList_eq, hr]; rfl
    have HP : Hid (okPath s = true) := okPath_root hr
    clear hr
    go_enter Tryd.func12, Tryd.ntmps12
    go_wp2
    go_ret
    exact ⟨ret_b HP.out.symm, Below.refl _ _⟩
  · have hrt : (s.toList == [47]) = false := by rw [ByteArray.toList_eq, beq_eq_false_iff_ne]; exact hr
    have HP : Hid (okPath s = (decide (2 ≤ s.size) && decide (bN s 0 = 47) && decide ((nm s).length ≤ 6) && (nm s).all okL)) := okPath_not hr
    clear hr
    by_cases hs : s.size < 2
    · have hsI : (s.size : Int) < 2 := by omega
      have HP2 : Hid (okPath s = false) := by show _ = _; rw [HP.out, decide_eq_false (by omega)]; rfl
      go_enter Tryd.func12, Tryd.ntmps12
      go_wp2
      go_ret
      exact ⟨ret_b HP2.out.symm, Below.refl _ _⟩
    · have hsI : ¬ (s.size : Int) < 2 := by omega
      have h0 : 0 < s.size := by omega
      have hb0 := bN_get s 0 h0
      by_cases h47 : s[0].toNat = 47
      · have e47 : ((s[0].toNat : Int) != 47) = false := by rw [h47]; rfl
        have HP2 : Hid (okPath s = (decide ((nm s).length ≤ 6) && (nm s).all okL)) := by show _ = _; rw [HP.out, decide_eq_true (show 2 ≤ s.size by omega), decide_eq_true (hb0.trans h47)]; rfl
        clear h47 hb0 HP
        go_enter Tryd.func12, Tryd.ntmps12
        go_wp2_with fail
        refine (names_any _ s (by omega) h2).mono ?_
        rintro e w1 ⟨v, rfl, ho, hb⟩
        have hnl := nm_len s
        have hnp := nm_pos s
        obtain ⟨rs, hrs⟩ : ∃ rs, rs = nm s := ⟨_, rfl⟩
        rw [← hrs] at ho hnl hnp
        rw [← hrs] at HP2
        clear hrs
        obtain ⟨g, c, rfl⟩ : ∃ g c, v = .slice (some ⟨g, 0, none⟩) rs.length c := by
          rcases ho.2 with ⟨rfl, h1⟩ | ⟨g, cap, cur, rfl, -⟩
          · omega
          · exact ⟨g, cap, rfl⟩
        have HC : Hid (∀ i, i < rs.length → w1.cell? ⟨g, i, none⟩ = some (.string (pN rs i))) := fun i hi => by
          rw [World.ownsRow.cellAt ho i (by omega)]
          simp [pN, List.getD, hi, sV]
        have HB : Hid (Below w.heap.size w w1) := hb
        clear ho hb
        by_cases h6 : rs.length ≤ 6
        · have h6I : ¬ (6 : Int) < (rs.length : Int) := by omega
          have HP3 : Hid (okPath s = rs.all okL) := by show _ = _; rw [HP2.out, decide_eq_true h6]; rfl
          clear HP2
          go_wp2
          go_loopw [4] (fun vi wr => ∃ i : Nat, i ≤ rs.length ∧ vi = .int .i64 i ∧ Hid (∀ t, t < i → okN (pN rs t) = true) ∧ ∃ q, wr = w1.drewN q) (fun i _ => rs.length - (intOf i).toNat)
          case atStart => exact ⟨0, Nat.zero_le _, rfl, (fun t ht => by omega), 0, rfl⟩
          case round =>
            obtain ⟨i, hi, rfl, HK, q, rfl⟩ := hrel
            by_cases hlt : i < rs.length
            · have hltI : (i : Int) < (rs.length : Int) := by omega
              have c1 := HC.out i hlt
              obtain ⟨p, hp⟩ : ∃ p, p = pN rs i := ⟨_, rfl⟩
              have HPI : Hid (p = pN rs i) := hp
              rw [← hp] at c1
              clear hp
              by_cases hp1 : p.size < 1
              · have hpI : (p.size : Int) < 1 := by omega
                have HF : Hid (okPath s = false) := by show _ = _; rw [HP3.out]; exact all_no hlt (by rw [← HPI.out]; unfold okN; rw [decide_eq_false (by omega)]; rfl)
                have BQ : Hid (Below w.heap.size w (w1.drewN q)) := HB.out.trans ((below_drewN' w1 q).mono HB.out.size)
                go_wp2
                go_ret
                exact ⟨ret_b HF.out.symm, BQ.out⟩
              · have hpI : ¬ (p.size : Int) < 1 := by omega
                by_cases hp2 : 16 < p.size
                · have hpI2 : (16 : Int) < (p.size : Int) := by omega
                  have HF : Hid (okPath s = false) := by show _ = _; rw [HP3.out]; exact all_no hlt (by rw [← HPI.out]; unfold okN; rw [decide_eq_false (show ¬ p.size ≤ 16 by omega)]; simp)
                  have BQ : Hid (Below w.heap.size w (w1.drewN q)) := HB.out.trans ((below_drewN' w1 q).mono HB.out.size)
                  go_wp2
                  go_ret
                  exact ⟨ret_b HF.out.symm, BQ.out⟩
                · have hpI2 : ¬ (16 : Int) < (p.size : Int) := by omega
                  go_wp2
                  go_loopw [5] (fun vj wr => ∃ j : Nat, j ≤ p.size ∧ vj = .int .i64 j ∧ Hid (∀ t, t < j → okB (bN p t) = true) ∧ ∃ q, wr = w1.drewN q) (fun j _ => p.size - (intOf j).toNat)
                  case atStart => exact ⟨0, Nat.zero_le _, rfl, (fun t ht => by omega), q, rfl⟩
                  case round =>
                    obtain ⟨j, hj, rfl, HJ, q2, rfl⟩ := hrel
                    by_cases hjl : j < p.size
                    · have hjI : (j : Int) < (p.size : Int) := by omega
                      have hbn := bN_get p j hjl
                      have hx8 : p[j].toNat < 256 := p[j].toNat_lt
                      go_wp2_with fail
                      refine (letter_any _ p[j].toNat hx8).mono ?_
                      rintro e w3 ⟨rfl, rfl⟩
                      by_cases hok : okB (bN p j) = true
                      · have HOK : Hid (okB (bN p j) = true) := hok
                        rw [hbn] at hok
                        rw [hok]
                        clear hok hbn
                        go_wp2
                        exact ⟨⟨j + 1, by omega, by go_num, (fun t ht => by by_cases e : t = j; (subst e; exact HOK.out); exact HJ.out t (by omega)), q2, rfl⟩, by simp [intOf]; omega⟩
                      · have hok' : okB (bN p j) = false := by simpa using hok
                        have HF : Hid (okPath s = false) := by show _ = _; rw [HP3.out]; exact all_no hlt (by rw [← HPI.out]; exact okN_no hjl hok')
                        have BQ : Hid (Below w.heap.size w (w1.drewN q2)) := HB.out.trans ((below_drewN' w1 q2).mono HB.out.size)
                        rw [hbn] at hok'
                        rw [hok']
                        clear hok hok' hbn
                        go_wp2
                        go_ret
                        exact ⟨ret_b HF.out.symm, BQ.out⟩
                    · have hjI : ¬ (j : Int) < (p.size : Int) := by omega
                      have HOK : Hid (okN (pN rs i) = true) := by
                        show _ = _
                        rw [← HPI.out]
                        exact okN_yes (by omega) (by omega) (fun t ht => HJ.out t (by omega))
                      go_wp2
                      exact ⟨⟨i + 1, by omega, by go_num, (fun t ht => by by_cases e : t = i; (subst e; exact HOK.out); exact HK.out t (by omega)), q2, rfl⟩, by simp [intOf]; omega⟩
            · have hltI : ¬ (i : Int) < (rs.length : Int) := by omega
              have HT : Hid (okPath s = true) := by show _ = _; rw [HP3.out]; exact all_yes (fun t ht => HK.out t (by omega))
              have BQ : Hid (Below w.heap.size w (w1.drewN q)) := HB.out.trans ((below_drewN' w1 q).mono HB.out.size)
              go_wp2
              go_ret
              exact ⟨ret_b HT.out.symm, BQ.out⟩
        · have h6I : (6 : Int) < (rs.length : Int) := by omega
          have HP3 : Hid (okPath s = false) := by show _ = _; rw [HP2.out, decide_eq_false h6]; rfl
          go_wp2
          go_ret
          exact ⟨ret_b HP3.out.symm, HB.out⟩
      · have e47 : ((s[0].toNat : Int) != 47) = true := by rw [bne_iff_ne]; omega
        have HP2 : Hid (okPath s = false) := by show _ = _; rw [HP.out, decide_eq_false (show ¬ bN s 0 = 47 by omega), Bool.and_false]; rfl
        clear HP
        go_enter Tryd.func12, Tryd.ntmps12
        go_wp2
        go_ret
        exact ⟨ret_b HP2.out.symm, Below.refl _ _⟩

end Go.Proofs.YtgjenbgclpmjmaaDoor
