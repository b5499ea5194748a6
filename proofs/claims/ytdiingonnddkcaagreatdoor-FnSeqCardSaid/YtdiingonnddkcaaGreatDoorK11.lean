import Derived.Test.YtdiingonnddkcaaGreatDoorK10
import Derived.Deep.QuietTactic
import Derived.Deep.RegionHeld3
namespace Go.Proofs.YtdiingonnddkcaaGreatDoor
open Go.RowKit Go.Shelf

/-- A local operation. -/
structure BoxO (w : World) (B : Nat) (o : Op5) : Prop where
  lt : B < w.heap.size
  c0 : w.cell? ⟨B, 0, none⟩ = some (.int .i64 o.kind)
  c1 : w.cell? ⟨B, 1, none⟩ = some (.string o.path)
  c2 : w.cell? ⟨B, 2, none⟩ = some (.string o.data)
  c3 : w.cell? ⟨B, 3, none⟩ = some (.int .i64 o.ver)
  c4 : w.cell? ⟨B, 4, none⟩ = some (.bool o.seq)
theorem BoxO.new (w : World) (o : Op5) (t : TypeId) : BoxO (w.alloc (.cells #[.int .i64 o.kind, .string o.path, .string o.data, .int .i64 o.ver, .bool o.seq] t)) w.heap.size o :=
  ⟨by simp, by simp, by simp, by simp, by simp, by simp⟩
theorem BoxO.below {w w' : World} {B : Nat} {o : Op5} (h : BoxO w B o) (hb : Below w.heap.size w w') : BoxO w' B o :=
  ⟨Nat.lt_of_lt_of_le h.lt hb.size, (hb.cell (p := ⟨B, _, none⟩) h.lt).trans h.c0, (hb.cell (p := ⟨B, _, none⟩) h.lt).trans h.c1, (hb.cell (p := ⟨B, _, none⟩) h.lt).trans h.c2, (hb.cell (p := ⟨B, _, none⟩) h.lt).trans h.c3, (hb.cell (p := ⟨B, _, none⟩) h.lt).trans h.c4⟩
/-- What is known when an operation is done. -/
def DoPost (w : World) (v : Value) (ns : List Nd) (o : Op5) (z : Int) (e : Ending) (w' : World) : Prop := ∃ v', e = .returned (.tuple #[.int .i64 (doO ns o z).1, v', .string (doO ns o z).2.2]) ∧ RdN w' v' (doO ns o z).2.1 ∧ Fresh w v v' ∧ Below w.heap.size w w'
theorem wiN_len (ns : List Nd) (n : Nd) : (wiN ns n).length ≤ 2 * ns.length + 1 := by
  have := wiF_len ns n ns.length
  rw [List.take_length] at this
  unfold wiN
  split
  · omega
  · simp; omega
theorem wfO_path {o : Op5} (h : wfO o = true) : okPath o.path = true ∧ o.data.size ≤ 64 := by
  unfold wfO at h
  simp only [Bool.and_eq_true, decide_eq_true_eq] at h
  exact ⟨h.1.1.1.2, h.1.1.2⟩

set_option maxHeartbeats 2000000 in
set_option maxRecDepth 100000 in
theorem l3Do_create (w : World) (v : Value) (ns : List Nd) (o : Op5) (z : Int) (h : RdN w v ns) (hn : ns.length ≤ 1000) (hok : ∀ k, k < ns.length → okNd (nAt ns k) = true) (hp : o.path.size ≤ 1048576) (hd : o.data.size ≤ 1048576) (hw : wfO o = true) (hk : o.kind = 1) :
    Calls Tryz.prog 32 #[v, .agg #[.int .i64 o.kind, .string o.path, .string o.data, .int .i64 o.ver, .bool o.seq], .int .i64 z] w fun e w' => DoPost w v ns o z e w' := by
  obtain ⟨ao, ca, rfl, _, _⟩ := h.len
  have HR : Hid (RdN w (.slice ao ns.length ca) ns) := h
  have HO : Hid (∀ k, k < ns.length → okNd (nAt ns k) = true) := hok
  have HW : Hid (wfO o = true) := hw
  have hkb : (o.kind == 1) = true := by simp [hk]
  have HD : Hid (doO ns o z = if ¬ ns.findIdx (isP (parB o.path)) < ns.length then (2, ns, ⟨#[]⟩)
    else if !okPath (nameO ns o) then (1, ns, ⟨#[]⟩)
    else if ns.findIdx (isP (nameO ns o)) < ns.length then (3, ns, ⟨#[]⟩)
    else if ns.length = 1000 then (6, ns, ⟨#[]⟩)
    else (0, toN (wiN ns ⟨nameO ns o, o.data, 0, 0, z, z, z⟩) (parB o.path) z, nameO ns o)) := by show _ = _; unfold doO; rw [hw, if_pos hk]; rfl
  have HPP := (wfO_path hw).1
  have B0 : Hid (Below w.heap.size w (w.alloc (.cells #[.int .i64 o.kind, .string o.path, .string o.data, .int .i64 o.ver, .bool o.seq] 40))) := (Below.refl _ _).alloc (Nat.le_refl _) _
  have X0 : Hid (BoxO (w.alloc (.cells #[.int .i64 o.kind, .string o.path, .string o.data, .int .i64 o.ver, .bool o.seq] 40)) w.heap.size o) := BoxO.new _ _ _
  have HPK : Hid (okPath o.path = true) := HPP
  clear h hw hok hk HPP
  go_enter Tryz.func32, Tryz.ntmps32
  go_wp2_with fail
  generalize w.alloc (.cells #[.int .i64 o.kind, .string o.path, .string o.data, .int .i64 o.ver, .bool o.seq] 40) = w0 at *
  refine (l3Well_any _ o hp hd).mono ?_
  rintro e w1 ⟨rfl, b1⟩
  rw [HW.out]
  have B1 : Hid (Below w.heap.size w w1) := B0.out.trans (b1.mono B0.out.size)
  have X1 : Hid (BoxO w1 w.heap.size o) := X0.out.below b1
  clear b1 B0 X0
  obtain ⟨xl, c0, c1, c2, c3, c4⟩ := X1.out
  go_wp2_with fail
  refine (l3Parent_any _ o.path HPK.out).mono ?_
  rintro e w2 ⟨rfl, b2⟩
  have B2 : Hid (Below w.heap.size w w2) := B1.out.trans (b2.mono B1.out.size)
  have X2 : Hid (BoxO w2 w.heap.size o) := X1.out.below b2
  clear b2 B1 X1 xl c0 c1 c2 c3 c4
  go_wp2_with fail
  rw [show sV (parL o.path) = .string (parB o.path) from rfl]
  generalize hpb : parB o.path = pb at *
  have HPB : Hid (parB o.path = pb) := hpb
  clear hpb
  refine (l3Find_any w2 _ ns pb (HR.out.below B2.out) (by omega)).mono ?_
  rintro e w3 ⟨rfl, rfl⟩
  by_cases hf : ns.findIdx (isP pb) < ns.length
  rotate_left
  · rw [if_pos hf] at HD
    rw [show fdV ns pb = -1 by unfold fdV; rw [if_neg hf]]
    clear hf
    go_wp2
    exact bodyPost_ret (v := .tuple #[.int .i64 2, .slice ao ns.length ca, .string ⟨#[]⟩]) (by simp [results, Tryz.results32, go_sem]) rfl ⟨_, by rw [HD.out], by rw [HD.out]; exact HR.out.below B2.out, .inl rfl, B2.out⟩
  rw [if_neg (by simpa using hf)] at HD
  rw [show fdV ns pb = ((ns.findIdx (isP pb) : Nat) : Int) by unfold fdV; rw [if_pos hf]]
  have HNM : Hid (nameO ns o = if o.seq then ⟨(o.path.data.toList ++ six 12 (nAt ns (ns.findIdx (isP pb))).cver.toNat 6).toArray⟩ else o.path) := by show _ = _; unfold nameO; rw [HPB.out]
  generalize ns.findIdx (isP pb) = k at *
  have hI : ¬ (k : Int) < 0 := by omega
  have hkI : (k : Int) < (ns.length : Int) := by omega
  obtain ⟨b, oo, hao, hb, hc⟩ : ∃ b o, ao = some ⟨b, o, none⟩ ∧ b < w.heap.size ∧ CellsN w b (o + k * 7) (nAt ns k) := by
    obtain ⟨ao', cap', e', -, -, h3⟩ := HR.out
    simp only [Value.slice.injEq] at e'
    obtain ⟨rfl, -, -⟩ := e'
    rcases h3 with h3 | ⟨b, o, rfl, hb, hc⟩
    · rw [h3] at hf; simp at hf
    · exact ⟨b, o, rfl, hb, hc k hf⟩
  subst hao
  have hcvk := cv_at (cv_of HO.out) k hf
  have hcv0 : 0 ≤ (nAt ns k).cver := by
    have := HO.out k hf
    unfold okNd okS at this
    simp only [Bool.and_eq_true, decide_eq_true_eq] at this
    omega
  obtain ⟨a0, a1, a2, a3, a4, a5, a6⟩ := hc.below B2.out hb
  generalize nAt ns k = m at *
  clear hc
  obtain ⟨xl, c0, c1, c2, c3, c4⟩ := X2.out
  cases hsq : o.seq with
  | false =>
    rw [hsq] at c4
    have HNE : Hid (nameO ns o = o.path) := by show _ = _; rw [HNM.out, hsq]; rfl
    clear a0 a1 a2 a4 a5 a6
    go_wp2_with fail
    clear xl c0 c1 c2 c3 c4 a3
    have B4 : Hid (Below w.heap.size w w3) := B2.out
    have X4 : Hid (BoxO w3 w.heap.size o) := X2.out
    have hns : o.path.size ≤ 1000000 := by have := okPath_size HPK.out; omega
    clear B2 X2 HNM
    rw [HNE.out] at HD
    generalize o.path = nm at *
    refine (specPath_any w3 nm (by omega)).mono ?_
    rintro e w5 ⟨rfl, b5⟩
    have B5 : Hid (Below w.heap.size w w5) := B4.out.trans (b5.mono B4.out.size)
    have X5 : Hid (BoxO w5 w.heap.size o) := X4.out.below b5
    clear b5 B4 X4
    cases hok2 : okPath nm with
    | false =>
      rw [hok2] at HD
      clear hok2
      go_wp2
      exact bodyPost_ret (v := .tuple #[.int .i64 1, .slice (some ⟨b, oo, none⟩) ns.length ca, .string ⟨#[]⟩]) (by simp [results, Tryz.results32, go_sem]) rfl ⟨_, by rw [HD.out]; rfl, by rw [HD.out]; exact HR.out.below B5.out, .inl rfl, B5.out⟩
    | true =>
      rw [hok2] at HD
      clear hok2
      go_wp2_with fail
      refine (l3Find_any w5 _ ns nm (HR.out.below B5.out) (by omega)).mono ?_
      rintro e w6 ⟨rfl, rfl⟩
      by_cases hg : ns.findIdx (isP nm) < ns.length
      · have hgI : (0 : Int) ≤ ((ns.findIdx (isP nm) : Nat) : Int) := by omega
        rw [show fdV ns nm = ((ns.findIdx (isP nm) : Nat) : Int) by unfold fdV; rw [if_pos hg]]
        simp only [Bool.not_true, Bool.false_eq_true, if_false] at HD
        rw [if_pos hg] at HD
        generalize ns.findIdx (isP nm) = g at *
        go_wp2
        exact bodyPost_ret (v := .tuple #[.int .i64 3, .slice (some ⟨b, oo, none⟩) ns.length ca, .string ⟨#[]⟩]) (by simp [results, Tryz.results32, go_sem]) rfl ⟨_, by rw [HD.out], by rw [HD.out]; exact HR.out.below B5.out, .inl rfl, B5.out⟩
      · rw [show fdV ns nm = -1 by unfold fdV; rw [if_neg hg]]
        simp only [Bool.not_true, Bool.false_eq_true, if_false] at HD
        rw [if_neg hg] at HD
        clear hg
        by_cases h1000 : ns.length = 1000
        · rw [if_pos h1000] at HD
          have hlb : ((ns.length : Int) == 1000) = true := by simp; omega
          clear h1000
          go_wp2
          exact bodyPost_ret (v := .tuple #[.int .i64 6, .slice (some ⟨b, oo, none⟩) ns.length ca, .string ⟨#[]⟩]) (by simp [results, Tryz.results32, go_sem]) rfl ⟨_, by rw [HD.out], by rw [HD.out]; exact HR.out.below B5.out, .inl rfl, B5.out⟩
        · rw [if_neg h1000] at HD
          have hlb : ((ns.length : Int) == 1000) = false := by simp; omega
          clear h1000
          obtain ⟨xl, c0, c1, c2, c3, c4⟩ := X5.out
          go_wp2_with fail
          clear xl c0 c1 c2 c3 c4
          have ba : Below w6.heap.size w6 (w6.alloc (.cells #[.string nm, .string o.data, .int .i64 0, .int .i64 0, .int .i64 z, .int .i64 z, .int .i64 z] 42)) := (Below.refl _ _).alloc (Nat.le_refl _) _
          have B6 : Hid (Below w.heap.size w (w6.alloc (.cells #[.string nm, .string o.data, .int .i64 0, .int .i64 0, .int .i64 z, .int .i64 z, .int .i64 z] 42))) := B5.out.trans (ba.mono B5.out.size)
          clear ba
          generalize w6.alloc (.cells #[.string nm, .string o.data, .int .i64 0, .int .i64 0, .int .i64 z, .int .i64 z, .int .i64 z] 42) = w6' at *
          refine (with_any _ _ ns ⟨nm, o.data, 0, 0, z, z, z⟩ (HR.out.below B6.out) (by omega)).mono ?_
          rintro e w7 ⟨v7, rfl, o7, b7⟩
          obtain ⟨a7, k7, hv7⟩ := o7.slice
          subst hv7
          have hwl := wiN_len ns ⟨nm, o.data, 0, 0, z, z, z⟩
          have HCV : Hid (∀ k, k < (wiN ns ⟨nm, o.data, 0, 0, z, z, z⟩).length → -1 ≤ (nAt (wiN ns ⟨nm, o.data, 0, 0, z, z, z⟩) k).cver ∧ (nAt (wiN ns ⟨nm, o.data, 0, 0, z, z, z⟩) k).cver ≤ 2147483647) := cv_at (fun m hm => by
            rcases wi_mem hm with h9 | h9
            · exact cv_of HO.out m h9
            · rw [h9]; simp)
          have R7 : Hid (RdN w7 (.slice a7 (wiN ns ⟨nm, o.data, 0, 0, z, z, z⟩).length k7) (wiN ns ⟨nm, o.data, 0, 0, z, z, z⟩)) := o7.rd
          have F7 : Hid (New w (.slice a7 (wiN ns ⟨nm, o.data, 0, 0, z, z, z⟩).length k7)) := OwnN.new9 o7 B6.out.size
          have B7 : Hid (Below w.heap.size w w7) := B6.out.trans (b7.mono B6.out.size)
          clear o7 b7 B6 B5 X5
          generalize wiN ns ⟨nm, o.data, 0, 0, z, z, z⟩ = WN at *
          go_wp2_with fail
          refine (l3Touch_any w7 _ WN pb z R7.out (by omega) HCV.out).mono ?_
          rintro e w8 ⟨v8, rfl, r8, f8, b8⟩
          obtain ⟨a8, k8, hv8, -, -⟩ := r8.len
          subst hv8
          have R8 : Hid (RdN w8 (.slice a8 (toN WN pb z).length k8) (toN WN pb z)) := r8
          have F8 : Hid (New w (.slice a8 (toN WN pb z).length k8)) := f8.new F7.out B7.out.size
          have B8 : Hid (Below w.heap.size w w8) := B7.out.trans (b8.mono B7.out.size)
          clear r8 f8 b8 B7 R7 F7 HCV
          go_wp2
          exact bodyPost_ret (v := .tuple #[.int .i64 0, .slice a8 (toN WN pb z).length k8, .string nm]) (by simp [results, Tryz.results32, go_sem]) rfl ⟨_, by rw [HD.out], by rw [HD.out]; exact R8.out, .inr F8.out, B8.out⟩
  | true =>
    rw [hsq] at c4
    obtain ⟨cvn, hcvn⟩ : ∃ n : Nat, m.cver = (n : Int) := ⟨m.cver.toNat, by omega⟩
    rw [hcvn] at a3
    clear a0 a1 a2 a4 a5 a6
    have h10 : cvn < 10 ^ 11 := by
      have : (10 : Nat) ^ 11 = 100000000000 := by decide
      omega
    go_wp2_with fail
    refine (l3Six_any 11 w3 cvn 6 (by omega) h10 (by omega) (by decide) (by omega) (by omega)).mono ?_
    rintro e w4 ⟨rfl, b4⟩
    have h6 := six_len 12 cvn 6
    have hps := okPath_size HPK.out
    have HNE : Hid (nameO ns o = o.path ++ ⟨(six 12 cvn 6).toArray⟩) := by
      show _ = _
      rw [HNM.out, hsq, hcvn]
      apply ByteArray.ext
      simp [ByteArray.data_append]
    have hsz : (o.path ++ (⟨(six 12 cvn 6).toArray⟩ : ByteArray)).size ≤ 1000000 := by
      rw [ByteArray.size_append]
      have : (⟨(six 12 cvn 6).toArray⟩ : ByteArray).size = (six 12 cvn 6).length := by simp [ByteArray.size]
      omega
    have B4 : Hid (Below w.heap.size w w4) := B2.out.trans (b4.mono B2.out.size)
    have X4 : Hid (BoxO w4 w.heap.size o) := X2.out.below b4
    clear b4 B2 X2 HNM xl c0 c1 c2 c3 c4 a3 h10
    have e66 : (6 : Int).toNat = 6 := rfl
    rw [e66]
    clear e66
    generalize six 12 cvn 6 = SX at *
    have hlS : o.path.size + SX.length ≤ 9223372036854775807 := by omega
    go_wp2_with fail
    rw [HNE.out] at HD
    clear HNE
    have hns := hsz
    clear hsz hlS
    generalize o.path ++ (⟨SX.toArray⟩ : ByteArray) = nm at *
    refine (specPath_any w4 nm (by omega)).mono ?_
    rintro e w5 ⟨rfl, b5⟩
    have B5 : Hid (Below w.heap.size w w5) := B4.out.trans (b5.mono B4.out.size)
    have X5 : Hid (BoxO w5 w.heap.size o) := X4.out.below b5
    clear b5 B4 X4
    cases hok2 : okPath nm with
    | false =>
      rw [hok2] at HD
      clear hok2
      go_wp2
      exact bodyPost_ret (v := .tuple #[.int .i64 1, .slice (some ⟨b, oo, none⟩) ns.length ca, .string ⟨#[]⟩]) (by simp [results, Tryz.results32, go_sem]) rfl ⟨_, by rw [HD.out]; rfl, by rw [HD.out]; exact HR.out.below B5.out, .inl rfl, B5.out⟩
    | true =>
      rw [hok2] at HD
      clear hok2
      go_wp2_with fail
      refine (l3Find_any w5 _ ns nm (HR.out.below B5.out) (by omega)).mono ?_
      rintro e w6 ⟨rfl, rfl⟩
      by_cases hg : ns.findIdx (isP nm) < ns.length
      · have hgI : (0 : Int) ≤ ((ns.findIdx (isP nm) : Nat) : Int) := by omega
        rw [show fdV ns nm = ((ns.findIdx (isP nm) : Nat) : Int) by unfold fdV; rw [if_pos hg]]
        simp only [Bool.not_true, Bool.false_eq_true, if_false] at HD
        rw [if_pos hg] at HD
        generalize ns.findIdx (isP nm) = g at *
        go_wp2
        exact bodyPost_ret (v := .tuple #[.int .i64 3, .slice (some ⟨b, oo, none⟩) ns.length ca, .string ⟨#[]⟩]) (by simp [results, Tryz.results32, go_sem]) rfl ⟨_, by rw [HD.out], by rw [HD.out]; exact HR.out.below B5.out, .inl rfl, B5.out⟩
      · rw [show fdV ns nm = -1 by unfold fdV; rw [if_neg hg]]
        simp only [Bool.not_true, Bool.false_eq_true, if_false] at HD
        rw [if_neg hg] at HD
        clear hg
        by_cases h1000 : ns.length = 1000
        · rw [if_pos h1000] at HD
          have hlb : ((ns.length : Int) == 1000) = true := by simp; omega
          clear h1000
          go_wp2
          exact bodyPost_ret (v := .tuple #[.int .i64 6, .slice (some ⟨b, oo, none⟩) ns.length ca, .string ⟨#[]⟩]) (by simp [results, Tryz.results32, go_sem]) rfl ⟨_, by rw [HD.out], by rw [HD.out]; exact HR.out.below B5.out, .inl rfl, B5.out⟩
        · rw [if_neg h1000] at HD
          have hlb : ((ns.length : Int) == 1000) = false := by simp; omega
          clear h1000
          obtain ⟨xl, c0, c1, c2, c3, c4⟩ := X5.out
          go_wp2_with fail
          clear xl c0 c1 c2 c3 c4
          have ba : Below w6.heap.size w6 (w6.alloc (.cells #[.string nm, .string o.data, .int .i64 0, .int .i64 0, .int .i64 z, .int .i64 z, .int .i64 z] 42)) := (Below.refl _ _).alloc (Nat.le_refl _) _
          have B6 : Hid (Below w.heap.size w (w6.alloc (.cells #[.string nm, .string o.data, .int .i64 0, .int .i64 0, .int .i64 z, .int .i64 z, .int .i64 z] 42))) := B5.out.trans (ba.mono B5.out.size)
          clear ba
          generalize w6.alloc (.cells #[.string nm, .string o.data, .int .i64 0, .int .i64 0, .int .i64 z, .int .i64 z, .int .i64 z] 42) = w6' at *
          refine (with_any _ _ ns ⟨nm, o.data, 0, 0, z, z, z⟩ (HR.out.below B6.out) (by omega)).mono ?_
          rintro e w7 ⟨v7, rfl, o7, b7⟩
          obtain ⟨a7, k7, hv7⟩ := o7.slice
          subst hv7
          have hwl := wiN_len ns ⟨nm, o.data, 0, 0, z, z, z⟩
          have HCV : Hid (∀ k, k < (wiN ns ⟨nm, o.data, 0, 0, z, z, z⟩).length → -1 ≤ (nAt (wiN ns ⟨nm, o.data, 0, 0, z, z, z⟩) k).cver ∧ (nAt (wiN ns ⟨nm, o.data, 0, 0, z, z, z⟩) k).cver ≤ 2147483647) := cv_at (fun m hm => by
            rcases wi_mem hm with h9 | h9
            · exact cv_of HO.out m h9
            · rw [h9]; simp)
          have R7 : Hid (RdN w7 (.slice a7 (wiN ns ⟨nm, o.data, 0, 0, z, z, z⟩).length k7) (wiN ns ⟨nm, o.data, 0, 0, z, z, z⟩)) := o7.rd
          have F7 : Hid (New w (.slice a7 (wiN ns ⟨nm, o.data, 0, 0, z, z, z⟩).length k7)) := OwnN.new9 o7 B6.out.size
          have B7 : Hid (Below w.heap.size w w7) := B6.out.trans (b7.mono B6.out.size)
          clear o7 b7 B6 B5 X5
          generalize wiN ns ⟨nm, o.data, 0, 0, z, z, z⟩ = WN at *
          go_wp2_with fail
          refine (l3Touch_any w7 _ WN pb z R7.out (by omega) HCV.out).mono ?_
          rintro e w8 ⟨v8, rfl, r8, f8, b8⟩
          obtain ⟨a8, k8, hv8, -, -⟩ := r8.len
          subst hv8
          have R8 : Hid (RdN w8 (.slice a8 (toN WN pb z).length k8) (toN WN pb z)) := r8
          have F8 : Hid (New w (.slice a8 (toN WN pb z).length k8)) := f8.new F7.out B7.out.size
          have B8 : Hid (Below w.heap.size w w8) := B7.out.trans (b8.mono B7.out.size)
          clear r8 f8 b8 B7 R7 F7 HCV
          go_wp2
          exact bodyPost_ret (v := .tuple #[.int .i64 0, .slice a8 (toN WN pb z).length k8, .string nm]) (by simp [results, Tryz.results32, go_sem]) rfl ⟨_, by rw [HD.out], by rw [HD.out]; exact R8.out, .inr F8.out, B8.out⟩


set_option maxHeartbeats 2000000 in
set_option maxRecDepth 100000 in
theorem l3Do_check (w : World) (v : Value) (ns : List Nd) (o : Op5) (z : Int) (h : RdN w v ns) (hn : ns.length ≤ 1000) (hp : o.path.size ≤ 1048576) (hd : o.data.size ≤ 1048576) (hw : wfO o = true) (hk : o.kind = 4) :
    Calls Tryz.prog 32 #[v, .agg #[.int .i64 o.kind, .string o.path, .string o.data, .int .i64 o.ver, .bool o.seq], .int .i64 z] w fun e w' => DoPost w v ns o z e w' := by
  obtain ⟨ao, ca, rfl, _, _⟩ := h.len
  have HR : Hid (RdN w (.slice ao ns.length ca) ns) := h
  have HW : Hid (wfO o = true) := hw
  have hk1 : (o.kind == 1) = false := by simp [hk]
  have hk2 : (o.kind == 2) = false := by simp [hk]
  have hk3 : (o.kind == 3) = false := by simp [hk]
  have HD : Hid (doO ns o z = if ¬ ns.findIdx (isP o.path) < ns.length then (2, ns, ⟨#[]⟩)
    else if o.ver ≠ -1 ∧ o.ver ≠ (nAt ns (ns.findIdx (isP o.path))).ver then (4, ns, ⟨#[]⟩)
    else (0, ns, o.path)) := by
    show _ = _
    unfold doO
    rw [hw, if_neg (by simp), if_neg (by omega), if_neg (show ¬ o.kind = 2 by omega), if_neg (show ¬ o.kind = 3 by omega)]
  have B0 : Hid (Below w.heap.size w (w.alloc (.cells #[.int .i64 o.kind, .string o.path, .string o.data, .int .i64 o.ver, .bool o.seq] 40))) := (Below.refl _ _).alloc (Nat.le_refl _) _
  have X0 : Hid (BoxO (w.alloc (.cells #[.int .i64 o.kind, .string o.path, .string o.data, .int .i64 o.ver, .bool o.seq] 40)) w.heap.size o) := BoxO.new _ _ _
  clear h hw hk
  go_enter Tryz.func32, Tryz.ntmps32
  go_wp2_with fail
  generalize w.alloc (.cells #[.int .i64 o.kind, .string o.path, .string o.data, .int .i64 o.ver, .bool o.seq] 40) = w0 at *
  refine (l3Well_any _ o hp hd).mono ?_
  rintro e w1 ⟨rfl, b1⟩
  rw [HW.out]
  have B1 : Hid (Below w.heap.size w w1) := B0.out.trans (b1.mono B0.out.size)
  have X1 : Hid (BoxO w1 w.heap.size o) := X0.out.below b1
  clear b1 B0 X0
  obtain ⟨xl, c0, c1, c2, c3, c4⟩ := X1.out
  go_wp2_with fail
  clear xl c0 c1 c2 c3 c4
  refine (l3Find_any w1 _ ns o.path (HR.out.below B1.out) (by omega)).mono ?_
  rintro e w3 ⟨rfl, rfl⟩
  by_cases hf : ns.findIdx (isP o.path) < ns.length
  rotate_left
  · rw [if_pos hf] at HD
    rw [show fdV ns o.path = -1 by unfold fdV; rw [if_neg hf]]
    clear hf
    go_wp2
    exact bodyPost_ret (v := .tuple #[.int .i64 2, .slice ao ns.length ca, .string ⟨#[]⟩]) (by simp [results, Tryz.results32, go_sem]) rfl ⟨_, by rw [HD.out], by rw [HD.out]; exact HR.out.below B1.out, .inl rfl, B1.out⟩
  rw [if_neg (by simpa using hf)] at HD
  rw [show fdV ns o.path = ((ns.findIdx (isP o.path) : Nat) : Int) by unfold fdV; rw [if_pos hf]]
  generalize ns.findIdx (isP o.path) = k at *
  have hI : ¬ (k : Int) < 0 := by omega
  have hkI : (k : Int) < (ns.length : Int) := by omega
  obtain ⟨b, oo, hao, hb, hc⟩ : ∃ b o, ao = some ⟨b, o, none⟩ ∧ b < w.heap.size ∧ CellsN w b (o + k * 7) (nAt ns k) := by
    obtain ⟨ao', cap', e', -, -, h3⟩ := HR.out
    simp only [Value.slice.injEq] at e'
    obtain ⟨rfl, -, -⟩ := e'
    rcases h3 with h3 | ⟨b, o, rfl, hb, hc⟩
    · rw [h3] at hf; simp at hf
    · exact ⟨b, o, rfl, hb, hc k hf⟩
  subst hao
  obtain ⟨a0, a1, a2, a3, a4, a5, a6⟩ := hc.below B1.out hb
  generalize nAt ns k = m at *
  clear hc a0 a1 a3 a4 a5 a6
  obtain ⟨xl, c0, c1, c2, c3, c4⟩ := X1.out
  by_cases hv : o.ver ≠ -1 ∧ o.ver ≠ m.ver
  · rw [if_pos hv] at HD
    have hv1 : (o.ver != -1) = true := by simpa using hv.1
    have hv2 : (o.ver != m.ver) = true := by simpa using hv.2
    clear hv
    go_wp2
    go_quiet (fail)
    have BQ : Hid (Below w.heap.size w (w3.drewN nq)) := B1.out.trans ((below_drewN' w3 nq).mono B1.out.size)
    go_wp2
    exact bodyPost_ret (v := .tuple #[.int .i64 4, .slice (some ⟨b, oo, none⟩) ns.length ca, .string ⟨#[]⟩]) (by simp [results, Tryz.results32, go_sem]) rfl ⟨_, by rw [HD.out], by rw [HD.out]; exact HR.out.below BQ.out, .inl rfl, BQ.out⟩
  rw [if_neg hv] at HD
  have hcase : (o.ver != -1) = false ∨ ((o.ver != -1) = true ∧ (o.ver != m.ver) = false) := by
    by_cases e1 : o.ver = -1
    · exact .inl (by simp [e1])
    · by_cases e2 : o.ver = m.ver
      · exact .inr ⟨by simp [e1], by simp [e2]⟩
      · exact absurd ⟨e1, e2⟩ hv
  clear hv
  rcases hcase with hv1 | ⟨hv1, hv2⟩
  all_goals
    go_wp2
    go_quiet (fail)
    have BQ : Hid (Below w.heap.size w (w3.drewN nq)) := B1.out.trans ((below_drewN' w3 nq).mono B1.out.size)
    have XQ : Hid (BoxO (w3.drewN nq) w.heap.size o) := X1.out.below (below_drewN' w3 nq)
    clear xl c0 c1 c2 c3 c4 a2
    generalize w3.drewN nq = wq at *
    obtain ⟨xl, c0, c1, c2, c3, c4⟩ := XQ.out
    go_wp2
    go_quiet (fail)
    have BZ : Hid (Below w.heap.size w (wq.drewN nq)) := BQ.out.trans ((below_drewN' wq nq).mono BQ.out.size)
    go_wp2
    exact bodyPost_ret (v := .tuple #[.int .i64 0, .slice (some ⟨b, oo, none⟩) ns.length ca, .string o.path]) (by simp [results, Tryz.results32, go_sem]) rfl ⟨_, by rw [HD.out], by rw [HD.out]; exact HR.out.below BZ.out, .inl rfl, BZ.out⟩


set_option maxHeartbeats 2000000 in
set_option maxRecDepth 100000 in
theorem l3Do_set (w : World) (v : Value) (ns : List Nd) (o : Op5) (z : Int) (h : RdN w v ns) (hn : ns.length ≤ 1000) (hok : ∀ k, k < ns.length → okNd (nAt ns k) = true) (hp : o.path.size ≤ 1048576) (hd : o.data.size ≤ 1048576) (hw : wfO o = true) (hk : o.kind = 3) :
    Calls Tryz.prog 32 #[v, .agg #[.int .i64 o.kind, .string o.path, .string o.data, .int .i64 o.ver, .bool o.seq], .int .i64 z] w fun e w' => DoPost w v ns o z e w' := by
  obtain ⟨ao, ca, rfl, _, _⟩ := h.len
  have HR : Hid (RdN w (.slice ao ns.length ca) ns) := h
  have HW : Hid (wfO o = true) := hw
  have hk1 : (o.kind == 1) = false := by simp [hk]
  have hk2 : (o.kind == 2) = false := by simp [hk]
  have hk3 : (o.kind == 3) = true := by simp [hk]
  have HOK : Hid (∀ k, k < ns.length → okNd (nAt ns k) = true) := hok
  have HD : Hid (doO ns o z = if ¬ ns.findIdx (isP o.path) < ns.length then (2, ns, ⟨#[]⟩)
    else if o.ver ≠ -1 ∧ o.ver ≠ (nAt ns (ns.findIdx (isP o.path))).ver then (4, ns, ⟨#[]⟩)
    else (0, wiN ns { nAt ns (ns.findIdx (isP o.path)) with data := o.data, ver := mor (nAt ns (ns.findIdx (isP o.path))).ver, mz := z }, o.path)) := by
    show _ = _
    unfold doO
    rw [hw, if_neg (by simp), if_neg (by omega), if_neg (show ¬ o.kind = 2 by omega), if_pos hk]
  have B0 : Hid (Below w.heap.size w (w.alloc (.cells #[.int .i64 o.kind, .string o.path, .string o.data, .int .i64 o.ver, .bool o.seq] 40))) := (Below.refl _ _).alloc (Nat.le_refl _) _
  have X0 : Hid (BoxO (w.alloc (.cells #[.int .i64 o.kind, .string o.path, .string o.data, .int .i64 o.ver, .bool o.seq] 40)) w.heap.size o) := BoxO.new _ _ _
  clear h hw hk hok
  go_enter Tryz.func32, Tryz.ntmps32
  go_wp2_with fail
  generalize w.alloc (.cells #[.int .i64 o.kind, .string o.path, .string o.data, .int .i64 o.ver, .bool o.seq] 40) = w0 at *
  refine (l3Well_any _ o hp hd).mono ?_
  rintro e w1 ⟨rfl, b1⟩
  rw [HW.out]
  have B1 : Hid (Below w.heap.size w w1) := B0.out.trans (b1.mono B0.out.size)
  have X1 : Hid (BoxO w1 w.heap.size o) := X0.out.below b1
  clear b1 B0 X0
  obtain ⟨xl, c0, c1, c2, c3, c4⟩ := X1.out
  go_wp2_with fail
  clear xl c0 c1 c2 c3 c4
  refine (l3Find_any w1 _ ns o.path (HR.out.below B1.out) (by omega)).mono ?_
  rintro e w3 ⟨rfl, rfl⟩
  by_cases hf : ns.findIdx (isP o.path) < ns.length
  rotate_left
  · rw [if_pos hf] at HD
    rw [show fdV ns o.path = -1 by unfold fdV; rw [if_neg hf]]
    clear hf
    go_wp2
    exact bodyPost_ret (v := .tuple #[.int .i64 2, .slice ao ns.length ca, .string ⟨#[]⟩]) (by simp [results, Tryz.results32, go_sem]) rfl ⟨_, by rw [HD.out], by rw [HD.out]; exact HR.out.below B1.out, .inl rfl, B1.out⟩
  rw [if_neg (by simpa using hf)] at HD
  rw [show fdV ns o.path = ((ns.findIdx (isP o.path) : Nat) : Int) by unfold fdV; rw [if_pos hf]]
  generalize ns.findIdx (isP o.path) = k at *
  have hI : ¬ (k : Int) < 0 := by omega
  have hkI : (k : Int) < (ns.length : Int) := by omega
  obtain ⟨b, oo, hao, hb, hc⟩ : ∃ b o, ao = some ⟨b, o, none⟩ ∧ b < w.heap.size ∧ CellsN w b (o + k * 7) (nAt ns k) := by
    obtain ⟨ao', cap', e', -, -, h3⟩ := HR.out
    simp only [Value.slice.injEq] at e'
    obtain ⟨rfl, -, -⟩ := e'
    rcases h3 with h3 | ⟨b, o, rfl, hb, hc⟩
    · rw [h3] at hf; simp at hf
    · exact ⟨b, o, rfl, hb, hc k hf⟩
  subst hao
  obtain ⟨a0, a1, a2, a3, a4, a5, a6⟩ := hc.below B1.out hb
  have HC : Hid (CellsN w b (oo + k * 7) (nAt ns k)) := hc
  have hvr : -1 ≤ (nAt ns k).ver ∧ (nAt ns k).ver ≤ 2147483647 := by
    have := HOK.out k hf
    unfold okNd okS at this
    simp only [Bool.and_eq_true, decide_eq_true_eq] at this
    omega
  generalize nAt ns k = m at *
  clear hc a0 a1 a3 a4 a5 a6
  obtain ⟨xl, c0, c1, c2, c3, c4⟩ := X1.out
  by_cases hv : o.ver ≠ -1 ∧ o.ver ≠ m.ver
  · rw [if_pos hv] at HD
    have hv1 : (o.ver != -1) = true := by simpa using hv.1
    have hv2 : (o.ver != m.ver) = true := by simpa using hv.2
    clear hv
    go_wp2
    go_quiet (fail)
    have BQ : Hid (Below w.heap.size w (w3.drewN nq)) := B1.out.trans ((below_drewN' w3 nq).mono B1.out.size)
    go_wp2
    exact bodyPost_ret (v := .tuple #[.int .i64 4, .slice (some ⟨b, oo, none⟩) ns.length ca, .string ⟨#[]⟩]) (by simp [results, Tryz.results32, go_sem]) rfl ⟨_, by rw [HD.out], by rw [HD.out]; exact HR.out.below BQ.out, .inl rfl, BQ.out⟩
  rw [if_neg hv] at HD
  have hcase : (o.ver != -1) = false ∨ ((o.ver != -1) = true ∧ (o.ver != m.ver) = false) := by
    by_cases e1 : o.ver = -1
    · exact .inl (by simp [e1])
    · by_cases e2 : o.ver = m.ver
      · exact .inr ⟨by simp [e1], by simp [e2]⟩
      · exact absurd ⟨e1, e2⟩ hv
  clear hv
  rcases hcase with hv1 | ⟨hv1, hv2⟩
  · go_wp2
    go_quiet (fail)
    have BQ : Hid (Below w.heap.size w (w3.drewN nq)) := B1.out.trans ((below_drewN' w3 nq).mono B1.out.size)
    have XQ : Hid (BoxO (w3.drewN nq) w.heap.size o) := X1.out.below (below_drewN' w3 nq)
    clear xl c0 c1 c2 c3 c4 a2
    generalize w3.drewN nq = wq at *
    obtain ⟨xl, c0, c1, c2, c3, c4⟩ := XQ.out
    obtain ⟨a0, a1, a2, a3, a4, a5, a6⟩ := HC.out.below BQ.out hb
    go_wp2_with fail
    refine (l3More_any _ m.ver hvr.1 hvr.2).mono ?_
    rintro e w9 ⟨rfl, rfl⟩
    go_wp2_with fail
    have ba : Below wq.heap.size wq (wq.alloc (.cells #[.string m.path, .string o.data, .int .i64 (mor m.ver), .int .i64 m.cver, .int .i64 m.cz, .int .i64 z, .int .i64 m.pz] 42)) := (Below.refl _ _).alloc (Nat.le_refl _) _
    have XA : Hid (BoxO (wq.alloc (.cells #[.string m.path, .string o.data, .int .i64 (mor m.ver), .int .i64 m.cver, .int .i64 m.cz, .int .i64 z, .int .i64 m.pz] 42)) w.heap.size o ∧ BoxN (wq.alloc (.cells #[.string m.path, .string o.data, .int .i64 (mor m.ver), .int .i64 m.cver, .int .i64 m.cz, .int .i64 z, .int .i64 m.pz] 42)) wq.heap.size ⟨m.path, o.data, mor m.ver, m.cver, m.cz, z, m.pz⟩) := ⟨XQ.out.below ba, BoxN.new wq ⟨m.path, o.data, mor m.ver, m.cver, m.cz, z, m.pz⟩ _⟩
    have BA : Hid (Below w.heap.size w (wq.alloc (.cells #[.string m.path, .string o.data, .int .i64 (mor m.ver), .int .i64 m.cver, .int .i64 m.cz, .int .i64 z, .int .i64 m.pz] 42))) := BQ.out.trans (ba.mono BQ.out.size)
    clear ba xl c0 c1 c2 c3 c4 a0 a1 a2 a3 a4 a5 a6 XQ BQ
    generalize wq.alloc (.cells #[.string m.path, .string o.data, .int .i64 (mor m.ver), .int .i64 m.cver, .int .i64 m.cz, .int .i64 z, .int .i64 m.pz] 42) = wn at *
    generalize wq.heap.size = Bn at *
    refine wp_region_held_drew (S := fun W => BoxO W w.heap.size o ∧ BoxN W Bn ⟨m.path, o.data, mor m.ver, m.cver, m.cz, z, m.pz⟩) (by kernel_rfl) (⟨XA.out.1.below (below_drewN' wn 1), XA.out.2.below (below_drewN' wn 1)⟩) (fun hHeld => ?_)
    have BD : Hid (Below w.heap.size w wn.drew) := BA.out.trans ((below_drewN' wn 1).mono BA.out.size)
    clear XA BA
    generalize wn.drew = G0 at *
    refine wpAnyH_take (i := 0) (oi := { dst := some 128, op := _, type := _, pos := _, after := _, guard := _ }) (v := (.slice (some ⟨b, oo, none⟩) ns.length ca)) rfl (by kernel_rfl) (by kernel_rfl) (by kernel_rfl) (fun _ _ _ h => h) (Or.inl ⟨by rfl, ?hy1⟩) (by assumption) ?rest1
    case hy1 =>
      intro w9 hS9
      go_simp
    try simp only [Act.put, List.setIfInBounds_toArray, List.set_cons_zero, List.set_cons_succ]
    refine wpAnyH_take (i := 1) (oi := { dst := some 129, op := _, type := _, pos := _, after := _, guard := _ }) (v := (.agg #[.string m.path, .string o.data, .int .i64 (mor m.ver), .int .i64 m.cver, .int .i64 m.cz, .int .i64 z, .int .i64 m.pz])) rfl (by kernel_rfl) (by kernel_rfl) (by kernel_rfl) (fun _ _ _ h => h) (Or.inl ⟨by rfl, ?hy2⟩) (by assumption) ?rest2
    case hy2 =>
      intro w9 hS9
      obtain ⟨zl, z0, z1, z2, z3, z4, z5, z6⟩ := hS9.2
      go_simp
    try simp only [Act.put, List.setIfInBounds_toArray, List.set_cons_zero, List.set_cons_succ]
    refine wpAnyH_take (i := 3) (oi := { dst := some 131, op := _, type := _, pos := _, after := _, guard := _ }) (v := (.pointer (some ⟨w.heap.size, 1, none⟩))) rfl (by kernel_rfl) (by kernel_rfl) (by kernel_rfl) (fun _ _ _ h => h) (Or.inl ⟨by rfl, ?hy3⟩) (by assumption) ?rest3
    case hy3 =>
      intro w9 hS9
      go_simp
    try simp only [Act.put, List.setIfInBounds_toArray, List.set_cons_zero, List.set_cons_succ]
    refine wpAnyH_take (i := 4) (oi := { dst := some 132, op := _, type := _, pos := _, after := _, guard := _ }) (v := (.string o.path)) rfl (by kernel_rfl) (by kernel_rfl) (by kernel_rfl) (fun _ _ _ h => h) (Or.inl ⟨by rfl, ?hy4⟩) (by assumption) ?rest4
    case hy4 =>
      intro w9 hS9
      have y1 := hS9.1.c1
      go_simp
    try simp only [Act.put, List.setIfInBounds_toArray, List.set_cons_zero, List.set_cons_succ]
    refine wpAnyH_ready (rs := [2]) (by kernel_rfl) (by simp) ?_
    refine AllReadyH.cons (o := { dst := some 130, op := _, type := _, pos := _, after := _, guard := _ }) rfl (fun K hK => ?_) AllReadyH.nil
    go_simp
    refine (with_any G0 _ ns ⟨m.path, o.data, mor m.ver, m.cver, m.cz, z, m.pz⟩ (HR.out.below BD.out) (by omega)).mono ?_
    rintro e G1 ⟨v7, rfl, o7, bA⟩
    obtain ⟨a7, k7, hv7⟩ := o7.slice
    subst hv7
    have A2 : _ ∧ _ := ⟨hHeld.1.below bA, hHeld.2.below bA⟩
    refine hK.out _ _ (A2) (fun hx9 => ?_)
    clear hK K hHeld hx9
    have hHeld := A2
    try simp only [Act.put, List.setIfInBounds_toArray, List.set_cons_zero, List.set_cons_succ]
    refine wpAnyH_take (i := 5) (oi := { dst := some 6, op := _, type := _, pos := _, after := _, guard := _ }) (v := (.int .i64 0)) rfl (by kernel_rfl) (by kernel_rfl) (by kernel_rfl) (fun _ _ _ h => h) (Or.inl ⟨by rfl, ?hy5⟩) (by assumption) ?rest5
    case hy5 =>
      intro w9 hS9
      go_simp
    try simp only [Act.put, List.setIfInBounds_toArray, List.set_cons_zero, List.set_cons_succ]
    refine wpAnyH_take (i := 6) (oi := { dst := some 7, op := _, type := _, pos := _, after := _, guard := _ }) (v := (.slice a7 (wiN ns ⟨m.path, o.data, mor m.ver, m.cver, m.cz, z, m.pz⟩).length k7)) rfl (by kernel_rfl) (by kernel_rfl) (by kernel_rfl) (fun _ _ _ h => h) (Or.inl ⟨by rfl, ?hy6⟩) (by assumption) ?rest6
    case hy6 =>
      intro w9 hS9
      go_simp
    try simp only [Act.put, List.setIfInBounds_toArray, List.set_cons_zero, List.set_cons_succ]
    refine wpAnyH_take (i := 7) (oi := { dst := some 8, op := _, type := _, pos := _, after := _, guard := _ }) (v := (.string o.path)) rfl (by kernel_rfl) (by kernel_rfl) (by kernel_rfl) (fun _ _ _ h => h) (Or.inl ⟨by rfl, ?hy7⟩) (by assumption) ?rest7
    case hy7 =>
      intro w9 hS9
      go_simp
    try simp only [Act.put, List.setIfInBounds_toArray, List.set_cons_zero, List.set_cons_succ]
    refine wpAnyH_done (by kernel_rfl) ?_ _
    clear hHeld
    have R7 : Hid (RdN G1 (.slice a7 (wiN ns ⟨m.path, o.data, mor m.ver, m.cver, m.cz, z, m.pz⟩).length k7) (wiN ns ⟨m.path, o.data, mor m.ver, m.cver, m.cz, z, m.pz⟩)) := o7.rd
    have BZ : Hid (Below w.heap.size w G1) := BD.out.trans (bA.mono BD.out.size)
    have F7 : Hid (New w (.slice a7 (wiN ns ⟨m.path, o.data, mor m.ver, m.cver, m.cz, z, m.pz⟩).length k7)) := OwnN.new9 o7 BD.out.size
    clear A2 o7 bA BD
    go_wp2
    exact bodyPost_ret (v := .tuple #[.int .i64 0, .slice a7 (wiN ns ⟨m.path, o.data, mor m.ver, m.cver, m.cz, z, m.pz⟩).length k7, .string o.path]) (by simp [results, Tryz.results32, go_sem]) rfl ⟨_, by rw [HD.out], by rw [HD.out]; exact R7.out, .inr F7.out, BZ.out⟩
  · go_wp2
    go_quiet (fail)
    have BQ : Hid (Below w.heap.size w (w3.drewN nq)) := B1.out.trans ((below_drewN' w3 nq).mono B1.out.size)
    have XQ : Hid (BoxO (w3.drewN nq) w.heap.size o) := X1.out.below (below_drewN' w3 nq)
    clear xl c0 c1 c2 c3 c4 a2
    generalize w3.drewN nq = wq at *
    obtain ⟨xl, c0, c1, c2, c3, c4⟩ := XQ.out
    obtain ⟨a0, a1, a2, a3, a4, a5, a6⟩ := HC.out.below BQ.out hb
    go_wp2_with fail
    refine (l3More_any _ m.ver hvr.1 hvr.2).mono ?_
    rintro e w9 ⟨rfl, rfl⟩
    go_wp2_with fail
    have ba : Below wq.heap.size wq (wq.alloc (.cells #[.string m.path, .string o.data, .int .i64 (mor m.ver), .int .i64 m.cver, .int .i64 m.cz, .int .i64 z, .int .i64 m.pz] 42)) := (Below.refl _ _).alloc (Nat.le_refl _) _
    have XA : Hid (BoxO (wq.alloc (.cells #[.string m.path, .string o.data, .int .i64 (mor m.ver), .int .i64 m.cver, .int .i64 m.cz, .int .i64 z, .int .i64 m.pz] 42)) w.heap.size o ∧ BoxN (wq.alloc (.cells #[.string m.path, .string o.data, .int .i64 (mor m.ver), .int .i64 m.cver, .int .i64 m.cz, .int .i64 z, .int .i64 m.pz] 42)) wq.heap.size ⟨m.path, o.data, mor m.ver, m.cver, m.cz, z, m.pz⟩) := ⟨XQ.out.below ba, BoxN.new wq ⟨m.path, o.data, mor m.ver, m.cver, m.cz, z, m.pz⟩ _⟩
    have BA : Hid (Below w.heap.size w (wq.alloc (.cells #[.string m.path, .string o.data, .int .i64 (mor m.ver), .int .i64 m.cver, .int .i64 m.cz, .int .i64 z, .int .i64 m.pz] 42))) := BQ.out.trans (ba.mono BQ.out.size)
    clear ba xl c0 c1 c2 c3 c4 a0 a1 a2 a3 a4 a5 a6 XQ BQ
    generalize wq.alloc (.cells #[.string m.path, .string o.data, .int .i64 (mor m.ver), .int .i64 m.cver, .int .i64 m.cz, .int .i64 z, .int .i64 m.pz] 42) = wn at *
    generalize wq.heap.size = Bn at *
    refine wp_region_held_drew (S := fun W => BoxO W w.heap.size o ∧ BoxN W Bn ⟨m.path, o.data, mor m.ver, m.cver, m.cz, z, m.pz⟩) (by kernel_rfl) (⟨XA.out.1.below (below_drewN' wn 1), XA.out.2.below (below_drewN' wn 1)⟩) (fun hHeld => ?_)
    have BD : Hid (Below w.heap.size w wn.drew) := BA.out.trans ((below_drewN' wn 1).mono BA.out.size)
    clear XA BA
    generalize wn.drew = G0 at *
    refine wpAnyH_take (i := 0) (oi := { dst := some 128, op := _, type := _, pos := _, after := _, guard := _ }) (v := (.slice (some ⟨b, oo, none⟩) ns.length ca)) rfl (by kernel_rfl) (by kernel_rfl) (by kernel_rfl) (fun _ _ _ h => h) (Or.inl ⟨by rfl, ?hyb1⟩) (by assumption) ?restb1
    case hyb1 =>
      intro w9 hS9
      go_simp
    try simp only [Act.put, List.setIfInBounds_toArray, List.set_cons_zero, List.set_cons_succ]
    refine wpAnyH_take (i := 1) (oi := { dst := some 129, op := _, type := _, pos := _, after := _, guard := _ }) (v := (.agg #[.string m.path, .string o.data, .int .i64 (mor m.ver), .int .i64 m.cver, .int .i64 m.cz, .int .i64 z, .int .i64 m.pz])) rfl (by kernel_rfl) (by kernel_rfl) (by kernel_rfl) (fun _ _ _ h => h) (Or.inl ⟨by rfl, ?hyb2⟩) (by assumption) ?restb2
    case hyb2 =>
      intro w9 hS9
      obtain ⟨zl, z0, z1, z2, z3, z4, z5, z6⟩ := hS9.2
      go_simp
    try simp only [Act.put, List.setIfInBounds_toArray, List.set_cons_zero, List.set_cons_succ]
    refine wpAnyH_take (i := 3) (oi := { dst := some 131, op := _, type := _, pos := _, after := _, guard := _ }) (v := (.pointer (some ⟨w.heap.size, 1, none⟩))) rfl (by kernel_rfl) (by kernel_rfl) (by kernel_rfl) (fun _ _ _ h => h) (Or.inl ⟨by rfl, ?hyb3⟩) (by assumption) ?restb3
    case hyb3 =>
      intro w9 hS9
      go_simp
    try simp only [Act.put, List.setIfInBounds_toArray, List.set_cons_zero, List.set_cons_succ]
    refine wpAnyH_take (i := 4) (oi := { dst := some 132, op := _, type := _, pos := _, after := _, guard := _ }) (v := (.string o.path)) rfl (by kernel_rfl) (by kernel_rfl) (by kernel_rfl) (fun _ _ _ h => h) (Or.inl ⟨by rfl, ?hyb4⟩) (by assumption) ?restb4
    case hyb4 =>
      intro w9 hS9
      have y1 := hS9.1.c1
      go_simp
    try simp only [Act.put, List.setIfInBounds_toArray, List.set_cons_zero, List.set_cons_succ]
    refine wpAnyH_ready (rs := [2]) (by kernel_rfl) (by simp) ?_
    refine AllReadyH.cons (o := { dst := some 130, op := _, type := _, pos := _, after := _, guard := _ }) rfl (fun K hK => ?_) AllReadyH.nil
    go_simp
    refine (with_any G0 _ ns ⟨m.path, o.data, mor m.ver, m.cver, m.cz, z, m.pz⟩ (HR.out.below BD.out) (by omega)).mono ?_
    rintro e G1 ⟨v7, rfl, o7, bA⟩
    obtain ⟨a7, k7, hv7⟩ := o7.slice
    subst hv7
    have A2 : _ ∧ _ := ⟨hHeld.1.below bA, hHeld.2.below bA⟩
    refine hK.out _ _ (A2) (fun hx9 => ?_)
    clear hK K hHeld hx9
    have hHeld := A2
    try simp only [Act.put, List.setIfInBounds_toArray, List.set_cons_zero, List.set_cons_succ]
    refine wpAnyH_take (i := 5) (oi := { dst := some 6, op := _, type := _, pos := _, after := _, guard := _ }) (v := (.int .i64 0)) rfl (by kernel_rfl) (by kernel_rfl) (by kernel_rfl) (fun _ _ _ h => h) (Or.inl ⟨by rfl, ?hyb5⟩) (by assumption) ?restb5
    case hyb5 =>
      intro w9 hS9
      go_simp
    try simp only [Act.put, List.setIfInBounds_toArray, List.set_cons_zero, List.set_cons_succ]
    refine wpAnyH_take (i := 6) (oi := { dst := some 7, op := _, type := _, pos := _, after := _, guard := _ }) (v := (.slice a7 (wiN ns ⟨m.path, o.data, mor m.ver, m.cver, m.cz, z, m.pz⟩).length k7)) rfl (by kernel_rfl) (by kernel_rfl) (by kernel_rfl) (fun _ _ _ h => h) (Or.inl ⟨by rfl, ?hyb6⟩) (by assumption) ?restb6
    case hyb6 =>
      intro w9 hS9
      go_simp
    try simp only [Act.put, List.setIfInBounds_toArray, List.set_cons_zero, List.set_cons_succ]
    refine wpAnyH_take (i := 7) (oi := { dst := some 8, op := _, type := _, pos := _, after := _, guard := _ }) (v := (.string o.path)) rfl (by kernel_rfl) (by kernel_rfl) (by kernel_rfl) (fun _ _ _ h => h) (Or.inl ⟨by rfl, ?hyb7⟩) (by assumption) ?restb7
    case hyb7 =>
      intro w9 hS9
      go_simp
    try simp only [Act.put, List.setIfInBounds_toArray, List.set_cons_zero, List.set_cons_succ]
    refine wpAnyH_done (by kernel_rfl) ?_ _
    clear hHeld
    have R7 : Hid (RdN G1 (.slice a7 (wiN ns ⟨m.path, o.data, mor m.ver, m.cver, m.cz, z, m.pz⟩).length k7) (wiN ns ⟨m.path, o.data, mor m.ver, m.cver, m.cz, z, m.pz⟩)) := o7.rd
    have BZ : Hid (Below w.heap.size w G1) := BD.out.trans (bA.mono BD.out.size)
    have F7 : Hid (New w (.slice a7 (wiN ns ⟨m.path, o.data, mor m.ver, m.cver, m.cz, z, m.pz⟩).length k7)) := OwnN.new9 o7 BD.out.size
    clear A2 o7 bA BD
    go_wp2
    exact bodyPost_ret (v := .tuple #[.int .i64 0, .slice a7 (wiN ns ⟨m.path, o.data, mor m.ver, m.cver, m.cz, z, m.pz⟩).length k7, .string o.path]) (by simp [results, Tryz.results32, go_sem]) rfl ⟨_, by rw [HD.out], by rw [HD.out]; exact R7.out, .inr F7.out, BZ.out⟩

end Go.Proofs.YtdiingonnddkcaaGreatDoor


