import Derived.Test.YtgjenbgclpmjmaaDoorVPre
import Derived.Test.YtgjenbgclpmjmaaDoorRangeLeaves
import Derived.RangeFuncBox
namespace Go.Proofs.YtgjenbgclpmjmaaDoor
open Go.RowKit Go.Shelf

attribute [local go_sem] Oper.semAt_some

theorem splA_none : ∀ (l cur : List UInt8), Lib.indexByte l 47 = -1 → splA cur l = [cur ++ l]
  | [], cur, _ => by simp [splA]
  | x :: l, cur, h => by
    unfold Lib.indexByte at h
    by_cases hx : x = 47
    · rw [hx] at h; simp at h
    · have hb : (x == 47) = false := beq_eq_false_iff_ne.2 hx
      rw [hb] at h
      simp only [Bool.false_eq_true, if_false] at h
      have hge := Lib.indexByte_ge l 47
      have h1 : Lib.indexByte l 47 = -1 := by
        by_cases e : Lib.indexByte l 47 = -1
        · exact e
        · rw [if_neg (by simpa using e)] at h; omega
      rw [splA_ch hx, splA_none l _ h1]; simp
theorem splA_some : ∀ (l cur : List UInt8) (k : Nat), Lib.indexByte l 47 = (k : Int) → k < l.length ∧ splA cur l = (cur ++ l.take k) :: splA [] (l.drop (k + 1))
  | [], cur, k, h => by simp [Lib.indexByte] at h
  | x :: l, cur, k, h => by
    unfold Lib.indexByte at h
    by_cases hx : x = 47
    · rw [hx] at h
      have hk : k = 0 := by simp at h; omega
      subst hk
      rw [hx, splA_sl]; simp
    · have hb : (x == 47) = false := beq_eq_false_iff_ne.2 hx
      rw [hb] at h
      simp only [Bool.false_eq_true, if_false] at h
      by_cases e : Lib.indexByte l 47 = -1
      · rw [if_pos (by simpa using e)] at h; omega
      · rw [if_neg (by simpa using e)] at h
        have hge := Lib.indexByte_ge l 47
        obtain ⟨j, rfl⟩ : ∃ j, k = j + 1 := ⟨k - 1, by omega⟩
        obtain ⟨h1, h2⟩ := splA_some l (cur ++ [x]) j (by omega)
        refine ⟨by simp; omega, ?_⟩
        rw [splA_ch hx, h2]; simp

/-- The length of the text in a box. -/
def lenIn (B : Nat) (W : World) : Nat := match W.cell? ⟨B, 0, none⟩ with
  | some (.string x) => x.size
  | _ => 0


def YPost (Bs : Nat) (St : Nat → World → Prop) (StX Bk BkX : World → Prop) (k : Nat) (W : World) (e : Ending) (W' : World) : Prop :=
  (e = .returned (.bool true) ∧ St (k + 1) W' ∧ Bk W' ∧ ∀ v, Boxed W Bs 9 v → Boxed W' Bs 9 v) ∨ (e = .returned (.bool false) ∧ StX W' ∧ BkX W')

set_option maxHeartbeats 2000000 in
set_option maxRecDepth 100000 in
theorem split1_any (nn : Nat) (hn1 : 1 ≤ nn) (l Bs Be Bv : Nat) (R : List (List UInt8)) (s0 : ByteArray)
    (St : Nat → World → Prop) (StX Bk BkX : World → Prop)
    (hSB : ∀ k X Y, Below X.heap.size X Y → St k X → St k Y) (hBB : ∀ X Y, Below X.heap.size X Y → Bk X → Bk Y)
    (hSW : ∀ k X v, St k X → St k (X.setCell ⟨Bs, 0, none⟩ v)) (hBW : ∀ X v, Bk X → Bk (X.setCell ⟨Bs, 0, none⟩ v))
    (hSR : ∀ k W, St k W → W.cell? ⟨Be, 0, none⟩ = some (.string ⟨#[47]⟩) ∧ W.cell? ⟨Bv, 0, none⟩ = some (.int .i64 0))
    (hY : ∀ k vs W, St k W → Bk W → (k < R.length ∧ vs = #[sV (R.getD k [])]) → YieldAt Fence.wide (nn - 1) Tryd.prog l vs W (YPost Bs St StX Bk BkX k W))
    (W : World) (h0 : St 0 W) (h1 : Bk W) (hs : Boxed W Bs 9 (.string s0)) (hz : s0.size ≤ 1048576) (hR : R = splA [] s0.data.toList) :
    CallsIn Fence.wide nn Tryd.prog 121 #[.func (.yield l) #[] #[], .pointer (some ⟨Be, 0, none⟩), .pointer (some ⟨Bs, 0, none⟩), .pointer (some ⟨Bv, 0, none⟩)] W fun e W' => (∃ v, e = .returned v) ∧ ((∃ s, s = R.length ∧ St s W' ∧ Bk W') ∨ (StX W' ∧ BkX W')) := by
  have HY : Hid (∀ k vs W, St k W → Bk W → (k < R.length ∧ vs = #[sV (R.getD k [])]) → YieldAt Fence.wide (nn - 1) Tryd.prog l vs W (YPost Bs St StX Bk BkX k W)) := hY
  have HSB : Hid (∀ k X Y, Below X.heap.size X Y → St k X → St k Y) := hSB
  have HBB : Hid (∀ X Y, Below X.heap.size X Y → Bk X → Bk Y) := hBB
  have HSW : Hid (∀ k X v, St k X → St k (X.setCell ⟨Bs, 0, none⟩ v)) := hSW
  have HBW : Hid (∀ X v, Bk X → Bk (X.setCell ⟨Bs, 0, none⟩ v)) := hBW
  have HSR : Hid (∀ k W, St k W → W.cell? ⟨Be, 0, none⟩ = some (.string ⟨#[47]⟩) ∧ W.cell? ⟨Bv, 0, none⟩ = some (.int .i64 0)) := hSR
  have H0 : Hid (St 0 W) := h0
  have H1 : Hid (Bk W) := h1
  have HS0 : Hid (Boxed W Bs 9 (.string s0)) := hs
  have HR : Hid (R.drop 0 = splA [] s0.data.toList) := hR
  obtain ⟨cE, cV⟩ := hSR 0 W h0
  have cS := hs.cell
  clear hY hSB hBB hSW hBW hSR h0 h1 hs hR
  refine callsIn_of_wp Tryd.func121 rfl trivial ?_ rfl
  simp only [Tryd.ntmps121, List.size_toArray, List.length_cons, List.length_nil, Nat.reduceAdd, Nat.reduceSub, Array.replicate_succ, Array.replicate_zero, List.push_toArray, List.append_toArray, List.nil_append, List.cons_append]
  gi_wp2
  gi_loopw [] (fun wr => ∃ (k : Nat) (r : ByteArray), Hid (St k wr) ∧ Hid (Bk wr) ∧ r.size ≤ 1048576 ∧ Hid (Boxed wr Bs 9 (.string r)) ∧ Hid (R.drop k = splA [] r.data.toList)) (fun wr => lenIn Bs wr)
  case atStart => exact ⟨0, s0, H0, H1, hz, HS0, HR⟩
  case round =>
    obtain ⟨k, r, HS, HB, hrz, HX, HD⟩ := hrel
    obtain ⟨cE, cV⟩ := HSR.out k wr HS.out
    have cS := HX.out.cell
    gi_wp2_with fail
    refine ⟨trivial, ?_⟩
    refine (callsIn_wide.2 (idx_any _ r)).mono ?_
    rintro e w2 ⟨rfl, rfl⟩
    by_cases hneg : Lib.indexByte r.data.toList 47 = -1
    · have hd := HD.out
      rw [splA_none _ _ hneg, List.nil_append] at hd
      have hlt : k < R.length := by
        by_cases h : k < R.length
        · exact h
        · rw [List.drop_eq_nil_of_le (by omega)] at hd; cases hd
      have hend : Hid (k + 1 = R.length) := by
        have := congrArg List.length hd
        rw [List.length_drop] at this
        simp at this
        show _ = _; omega
      have hget : R.getD k [] = r.data.toList := by
        have := congrArg (fun x => x.getD 0 []) hd
        simpa [List.getD, List.getElem?_drop] using this
      have hYx := HY.out k #[.string r] w2 HS.out HB.out ⟨hlt, by rw [hget]; rfl⟩
      rw [hneg]
      clear hneg hd hlt hget
      obtain ⟨fn, tmps, assign, body, hy, hR⟩ := hYx
      gi_wp2
      refine hR.mono ?_
      rintro e W3 (⟨rfl, hS3, hB3, -⟩ | ⟨rfl, hS3, hB3⟩)
      · have HS3 : Hid (St (k + 1) W3) := hS3
        have HB3 : Hid (Bk W3) := hB3
        clear hS3 hB3 hy hR
        gi_wp2
        refine bodyPost_end (results_none rfl _ _ _) rfl ?_
        exact ⟨⟨_, rfl⟩, .inl ⟨k + 1, hend.out, HS3.out, HB3.out⟩⟩
      · have HS3 : Hid (StX W3) := hS3
        have HB3 : Hid (BkX W3) := hB3
        clear hS3 hB3 hy hR
        gi_wp2
        refine bodyPost_end (results_none rfl _ _ _) rfl ?_
        exact ⟨⟨_, rfl⟩, .inr ⟨HS3.out, HB3.out⟩⟩
    · have hge := Lib.indexByte_ge r.data.toList 47
      obtain ⟨j, hj⟩ : ∃ j : Nat, Lib.indexByte r.data.toList 47 = (j : Int) := ⟨(Lib.indexByte r.data.toList 47).toNat, by omega⟩
      have hd := HD.out
      obtain ⟨hjl, hsp⟩ := splA_some _ [] j hj
      have hjr : j < r.size := hjl
      rw [hsp, List.nil_append] at hd
      have hlt : k < R.length := by
        by_cases h : k < R.length
        · exact h
        · rw [List.drop_eq_nil_of_le (by omega)] at hd; cases hd
      have hget : R.getD k [] = r.data.toList.take j := by
        have := congrArg (fun x => x.getD 0 []) hd
        simpa [List.getD, List.getElem?_drop] using this
      have hD2 : Hid (R.drop (k + 1) = splA [] (r.extract (j + 1) r.size).data.toList) := by
        have h1 := congrArg (List.drop 1) hd
        rw [List.drop_drop, List.drop_succ_cons, List.drop_zero] at h1
        show _ = _
        rw [extract_seg, h1]
        unfold seg
        congr 1
        rw [List.take_of_length_le (by rw [List.length_drop]; show r.size - _ ≤ _; omega)]
      have hYx := HY.out k #[.string (r.extract 0 j)] w2 HS.out HB.out ⟨hlt, by rw [hget, extract_seg]; unfold seg; simp [sV]⟩
      rw [hj]
      have hsz : (r.extract (j + 1) r.size).size = r.size - (j + 1) := by simp
      have HSZ : Hid ((r.extract (j + 1) r.size).size = r.size - (j + 1)) := hsz
      clear hneg hd hlt hget hj hsp hjl hge hsz
      have hjI : ¬ (j : Int) < 0 := by omega
      have hjI2 : (j : Int) ≤ (r.size : Int) := by omega
      have hjI3 : (j : Int) + 1 ≤ (r.size : Int) := by omega
      obtain ⟨fn, tmps, assign, body, hy, hR⟩ := hYx
      gi_wp2
      refine hR.mono ?_
      rintro e W3 (⟨rfl, hS3, hB3, hK3⟩ | ⟨rfl, hS3, hB3⟩)
      · have HS3 : Hid (St (k + 1) W3) := hS3
        have HB3 : Hid (Bk W3) := hB3
        have HX3 : Hid (Boxed W3 Bs 9 (.string r)) := hK3 _ HX.out
        clear hS3 hB3 hy hR hK3 cE cV cS
        obtain ⟨cE, cV⟩ := HSR.out (k + 1) W3 HS3.out
        have cS := HX3.out.cell
        have fS := HX3.out.frozen
        gi_wp2
        go_roundw
        case rel => exact ⟨k + 1, _, HSW.out _ _ _ HS3.out, HBW.out _ _ HB3.out, by rw [HSZ.out]; omega, HX3.out.set _, hD2⟩
        case measure =>
          have e1 := (HX3.out.set (.string (r.extract (j + 1) r.size))).cell
          have e2 := HX.out.cell
          unfold lenIn
          rw [e1, e2]
          show (r.extract (j + 1) r.size).size < r.size
          rw [HSZ.out]; omega
      · have HS3 : Hid (StX W3) := hS3
        have HB3 : Hid (BkX W3) := hB3
        clear hS3 hB3 hy hR
        gi_wp2
        refine bodyPost_ret (results_none rfl _ _ _) rfl ?_
        exact ⟨⟨_, rfl⟩, .inr ⟨HS3.out, HB3.out⟩⟩

end Go.Proofs.YtgjenbgclpmjmaaDoor
