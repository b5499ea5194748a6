import Derived.Test.YtgjenbgclpmjmaaDoorCMath
namespace Go.Proofs.YtgjenbgclpmjmaaDoor
open Go.RowKit

theorem bN_ne {s : ByteArray} {A L : List UInt8} (hs : s.data.toList = A ++ 47 :: L) (hL : (47 : UInt8) ∉ L) (j : Nat) (hj : A.length < j) (hj2 : j < s.size) : bN s j ≠ 47 := by
  intro h
  have hl : j < s.data.toList.length := by rw [Array.length_toList]; exact hj2
  unfold bN at h
  simp only [List.getD, List.getElem?_eq_getElem hl, Option.getD_some] at h
  have he : s.data.toList[j] = 47 := UInt8.toNat.inj (by simpa using h)
  have hm : s.data.toList[j] ∈ L := by
    refine List.mem_of_getElem? (i := j - A.length - 1) ?_
    have h1 : s.data.toList[j]? = some s.data.toList[j] := List.getElem?_eq_getElem hl
    rw [← h1]
    conv => rhs; rw [hs]
    rw [List.getElem?_append_right (by omega)]
    conv => rhs; rw [show j - A.length = (j - A.length - 1) + 1 by omega, List.getElem?_cons_succ]
  rw [he] at hm
  exact hL hm
theorem bN_at {s : ByteArray} {A L : List UInt8} (hs : s.data.toList = A ++ 47 :: L) : bN s A.length = 47 ∧ A.length < s.size := by
  have hz : s.data.toList.length = s.size := by rw [Array.length_toList]; rfl
  constructor
  · unfold bN
    rw [hs]
    simp [List.getD]
  · rw [← hz, hs]; simp

set_option maxHeartbeats 1000000 in
set_option maxRecDepth 100000 in
theorem lastIdx_any (w : World) (s : ByteArray) (A L : List UInt8) (hs : s.data.toList = A ++ 47 :: L) (hL : (47 : UInt8) ∉ L) (hz : s.size ≤ 1048576) :
    Calls Tryd.prog 124 #[.string s, .int .u8 47] w fun e w' => e = .returned (.int .i64 (A.length : Int)) ∧ w' = w := by
  have HS : Hid (s.data.toList = A ++ 47 :: L) := hs
  have HL : Hid ((47 : UInt8) ∉ L) := hL
  obtain ⟨h47, hlt⟩ := bN_at hs
  clear hs hL
  go_enter Tryd.func124, Tryd.ntmps124
  go_wp2
  go_loop [5] (fun i => ∃ j : Nat, A.length ≤ j ∧ j < s.size ∧ i = .int .i64 j) (fun i => (intOf i).toNat)
  case atStart => exact ⟨s.size - 1, by omega, by omega, by go_num⟩
  case round =>
    obtain ⟨j, hj, hj2, rfl⟩ := hrel
    have hjI : (0 : Int) ≤ (j : Int) := by omega
    have hb := bN_get s j hj2
    by_cases he : j = A.length
    · subst he
      have hx : s[A.length].toNat = 47 := by rw [← hb]; exact h47
      go_wp2
      go_ret
      exact ⟨rfl, rfl⟩
    · have hx : s[j].toNat ≠ 47 := by rw [← hb]; exact bN_ne HS.out HL.out j (by omega) hj2
      go_wp2
      exact ⟨⟨j - 1, by omega, by omega, by go_num⟩, by simp [intOf]; omega⟩

set_option maxHeartbeats 400000 in
theorem lastIB_any (w : World) (s : ByteArray) (A L : List UInt8) (hs : s.data.toList = A ++ 47 :: L) (hL : (47 : UInt8) ∉ L) (hz : s.size ≤ 1048576) :
    Calls Tryd.prog 116 #[.string s, .int .u8 47] w fun e w' => e = .returned (.int .i64 (A.length : Int)) ∧ w' = w := by
  have H : Hid (Calls Tryd.prog 124 #[.string s, .int .u8 47] w fun e w' => e = .returned (.int .i64 (A.length : Int)) ∧ w' = w) := lastIdx_any w s A L hs hL hz
  clear hs hL
  go_enter Tryd.func116, Tryd.ntmps116
  go_wp2_with fail
  refine H.out.mono ?_
  rintro e w1 ⟨rfl, rfl⟩
  go_wp2
  go_ret
  exact ⟨rfl, rfl⟩

set_option maxHeartbeats 400000 in
theorem lastName_any (w : World) (s : ByteArray) (h : okPath s = true) :
    Calls Tryd.prog 83 #[.string s] w fun e w' => e = .returned (sV (lastL s)) ∧ w' = w := by
  obtain ⟨h1, h0⟩ := okPath_head h
  have hz := okPath_size h
  have hs := path_split h1 h0
  have hal := (bN_at hs).2
  have H : Hid (Calls Tryd.prog 116 #[.string s, .int .u8 47] w fun e w' => e = .returned (.int .i64 ((headL s).length : Int)) ∧ w' = w) := lastIB_any w s _ _ hs (last_no s) (by omega)
  have HEX : Hid (Value.string (s.extract ((headL s).length + 1) s.size) = sV (lastL s)) := by
    show _ = _
    rw [extract_seg]
    unfold sV seg
    rw [hs, List.drop_append, List.drop_eq_nil_of_le (by omega)]
    have hl : (lastL s).length = s.size - ((headL s).length + 1) := by
      have := congrArg List.length hs
      rw [List.length_append, List.length_cons, Array.length_toList] at this
      have h2 : s.data.size = s.size := rfl
      omega
    simp
    rw [List.take_of_length_le (by omega)]
  clear hs h h1 h0
  generalize (headL s).length = m at *
  go_enter Tryd.func83, Tryd.ntmps83
  go_wp2_with fail
  refine H.out.mono ?_
  rintro e w1 ⟨rfl, rfl⟩
  go_wp2
  go_ret
  exact ⟨congrArg Ending.returned HEX.out, rfl⟩

set_option maxHeartbeats 400000 in
theorem parentPath_any (w : World) (s : ByteArray) (h : okPath s = true) :
    Calls Tryd.prog 115 #[.string s] w fun e w' => e = .returned (sV (parL s)) ∧ w' = w := by
  obtain ⟨h1, h0⟩ := okPath_head h
  have hz := okPath_size h
  have hs := path_split h1 h0
  have hal := (bN_at hs).2
  have H : Hid (Calls Tryd.prog 116 #[.string s, .int .u8 47] w fun e w' => e = .returned (.int .i64 ((headL s).length : Int)) ∧ w' = w) := lastIB_any w s _ _ hs (last_no s) (by omega)
  by_cases hm : headL s = []
  · have HEX : Hid (Value.string (s.extract 0 1) = sV (parL s)) := by
      show _ = _
      rw [extract_seg]
      unfold sV seg parL
      rw [if_pos hm, hs, hm]
      simp
    have hml : (headL s).length = 0 := by rw [hm]; rfl
    rw [hml] at H
    clear hs h h0 hm hml hal
    go_enter Tryd.func115, Tryd.ntmps115
    go_wp2_with fail
    refine H.out.mono ?_
    rintro e w1 ⟨rfl, rfl⟩
    go_wp2
    go_ret
    exact ⟨congrArg Ending.returned HEX.out, rfl⟩
  · have hml : 1 ≤ (headL s).length := by
      cases hh : headL s with
      | nil => exact absurd hh hm
      | cons a l => simp
    have HEX : Hid (Value.string (s.extract 0 (headL s).length) = sV (parL s)) := by
      show _ = _
      rw [extract_seg]
      unfold sV seg parL
      rw [if_neg hm, hs]
      simp
    clear hs h h0 hm
    generalize (headL s).length = m at *
    go_enter Tryd.func115, Tryd.ntmps115
    go_wp2_with fail
    refine H.out.mono ?_
    rintro e w1 ⟨rfl, rfl⟩
    go_wp2
    · go_ret
      exact ⟨congrArg Ending.returned HEX.out, rfl⟩
    · have hm1 : m = 1 := by omega
      subst hm1
      go_ret
      exact ⟨congrArg Ending.returned HEX.out, rfl⟩

/-- Is it a child of that path? -/
def chB (s p : ByteArray) : Bool := !(s.toList == [47]) && (parL s == p.toList)

set_option maxHeartbeats 400000 in
theorem isChild_any (w : World) (s p : ByteArray) (h : okPath s = true) :
    Calls Tryd.prog 82 #[.string s, .string p] w fun e w' => e = .returned (.bool (chB s p)) ∧ w' = w := by
  have H : Hid (Calls Tryd.prog 115 #[.string s] w fun e w' => e = .returned (sV (parL s)) ∧ w' = w) := parentPath_any w s h
  clear h
  unfold chB
  cases hA : (s.toList == [47]) with
  | true =>
    go_enter Tryd.func82, Tryd.ntmps82
    go_wp2
    go_ret
    exact ⟨rfl, rfl⟩
  | false =>
    go_enter Tryd.func82, Tryd.ntmps82
    go_wp2_with fail
    refine H.out.mono ?_
    rintro e w1 ⟨rfl, rfl⟩
    unfold sV
    go_wp2
    go_ret
    exact ⟨rfl, rfl⟩

set_option maxHeartbeats 400000 in
theorem l3Last_any (w : World) (s : ByteArray) (h : okPath s = true) :
    Calls Tryd.prog 81 #[.string s] w fun e w' => e = .returned (sV (lastL s)) ∧ Below w.heap.size w w' := by
  obtain ⟨h1, -⟩ := okPath_head h
  have hz := okPath_size h
  have hn : 1 ≤ (nm s).length := by
    cases hh : nm s with
    | nil => exact absurd hh (nm_ne s)
    | cons a l => simp
  have hnl : (nm s).length ≤ 103 := by
    have := splA_tot (s.data.toList.drop 1) []
    have hs2 : s.data.toList.length = s.size := by rw [Array.length_toList]; rfl
    rw [List.length_drop, hs2] at this
    simp only [List.length_nil] at this
    unfold nm
    omega
  clear h
  go_enter Tryd.func81, Tryd.ntmps81
  go_wp2_with fail
  refine (names_any _ s h1 (by omega)).mono ?_
  rintro e w1 ⟨v1, rfl, o1, b1⟩
  obtain ⟨g, c, hv⟩ : ∃ g c, v1 = .slice (some ⟨g, 0, none⟩) (nm s).length c := by
    rcases o1.2 with ⟨-, h0⟩ | ⟨g, cap, cur, rfl, -⟩
    · omega
    · exact ⟨g, cap, rfl⟩
  subst hv
  have cl : w1.cell? ⟨g, (nm s).length - 1, none⟩ = some (sV (lastL s)) := by
    have := World.ownsRow.cells o1 (g := g) rfl ((nm s).length - 1) (sV (lastL s)) (by
      rw [List.getElem?_map]
      conv => lhs; rw [nm_split s]
      simp)
    rw [Addr.add_lit, Nat.zero_add] at this; exact this
  have B1 : Hid (Below w.heap.size w w1) := b1
  clear o1 b1
  generalize (nm s).length = n at *
  unfold sV at cl
  go_wp2
  go_ret
  exact ⟨rfl, B1.out⟩

theorem flat_succ (L : List (List UInt8)) (i : Nat) (h : i < L.length) : (L.take i).flatMap (fun a => 47 :: a) ++ 47 :: L[i] = (L.take (i + 1)).flatMap (fun a => 47 :: a) := by
  rw [List.take_succ_eq_append_getElem h, List.flatMap_append]; simp
theorem dropLast_take' (L : List (List UInt8)) (i : Nat) (h : i + 1 = L.length) : L.take i = L.dropLast := by
  rw [List.dropLast_eq_take]; congr 1; omega
theorem flat_le (s : ByteArray) (k : Nat) : (((nm s).take k).flatMap (fun a => (47 : UInt8) :: a)).length ≤ s.size + 1 := by
  have h1 : ((nm s).flatMap (fun a => (47 : UInt8) :: a)).length ≤ s.size + 1 := by
    have hj := congrArg List.length (splA_join (s.data.toList.drop 1) [])
    have hs2 : s.data.toList.length = s.size := by rw [Array.length_toList]; rfl
    rw [List.length_cons, List.nil_append, List.length_drop, hs2] at hj
    unfold nm
    omega
  have h2 : (nm s).flatMap (fun a => (47 : UInt8) :: a) = ((nm s).take k).flatMap (fun a => 47 :: a) ++ ((nm s).drop k).flatMap (fun a => 47 :: a) := by
    rw [← List.flatMap_append, List.take_append_drop]
  have h3 := congrArg List.length h2
  rw [List.length_append] at h3
  omega
theorem ba_ap (a b : List UInt8) : (⟨a.toArray⟩ ++ ⟨b.toArray⟩ : ByteArray) = ⟨(a ++ b).toArray⟩ := by
  apply ByteArray.ext
  simp [ByteArray.data_append]

set_option maxHeartbeats 1000000 in
set_option maxRecDepth 100000 in
theorem l3Parent_any (w : World) (s : ByteArray) (h : okPath s = true) :
    Calls Tryd.prog 114 #[.string s] w fun e w' => e = .returned (sV (parL s)) ∧ Below w.heap.size w w' := by
  obtain ⟨h1, -⟩ := okPath_head h
  have hz := okPath_size h
  have hn : 1 ≤ (nm s).length := by
    cases hh : nm s with
    | nil => exact absurd hh (nm_ne s)
    | cons a l => simp
  have hnl : (nm s).length ≤ 103 := by
    have := splA_tot (s.data.toList.drop 1) []
    have hs2 : s.data.toList.length = s.size := by rw [Array.length_toList]; rfl
    rw [List.length_drop, hs2] at this
    simp only [List.length_nil] at this
    unfold nm
    omega
  clear h
  go_enter Tryd.func114, Tryd.ntmps114
  go_wp2_with fail
  refine (names_any _ s h1 (by omega)).mono ?_
  rintro e w1 ⟨v1, rfl, o1, b1⟩
  obtain ⟨g, c, hv⟩ : ∃ g c, v1 = .slice (some ⟨g, 0, none⟩) (nm s).length c := by
    rcases o1.2 with ⟨-, h0⟩ | ⟨g, cap, cur, rfl, -⟩
    · omega
    · exact ⟨g, cap, rfl⟩
  subst hv
  have CL : Hid (∀ i (hi : i < (nm s).length), w1.cell? ⟨g, i, none⟩ = some (.string ⟨((nm s)[i]).toArray⟩)) := by
    intro i hi
    have := World.ownsRow.cells o1 (g := g) rfl i (sV (nm s)[i]) (by rw [List.getElem?_map, List.getElem?_eq_getElem hi]; rfl)
    rw [Addr.add_lit, Nat.zero_add] at this; exact this
  have B1 : Hid (Below w.heap.size w w1) := b1
  clear o1 b1
  obtain ⟨n, hnn⟩ : ∃ n, n = (nm s).length := ⟨_, rfl⟩
  have HNN : Hid (n = (nm s).length) := hnn
  rw [← hnn] at hn hnl ⊢
  clear hnn
  go_wp2
  go_loop [4, 5] (fun vo vi => ∃ i : Nat, i + 1 ≤ n ∧ vi = .int .i64 i ∧ vo = .string ⟨(((nm s).take i).flatMap (fun a => 47 :: a)).toArray⟩) (fun _ i => n - (intOf i).toNat)
  case atStart => exact ⟨0, hn, rfl, rfl⟩
  case round =>
    obtain ⟨i, hi, rfl, rfl⟩ := hrel
    by_cases hlt : i + 1 < n
    · have hltI : (i : Int) + 1 < (n : Int) := by omega
      have hil : i < (nm s).length := by rw [← HNN.out]; omega
      have c1 := CL.out i hil
      have HF : Hid ((⟨(((nm s).take i).flatMap (fun a => 47 :: a)).toArray⟩ : ByteArray) ++ ((⟨#[47]⟩ : ByteArray) ++ ⟨((nm s)[i]).toArray⟩) = ⟨(((nm s).take (i + 1)).flatMap (fun a => 47 :: a)).toArray⟩) := by
        show _ = _
        rw [show (⟨#[47]⟩ : ByteArray) = ⟨([47] : List UInt8).toArray⟩ from rfl, ba_ap, ba_ap, ← flat_succ _ i hil]
        rfl
      have hlen : (((nm s).take i).flatMap (fun a => (47 : UInt8) :: a)).length + (1 + ((nm s)[i]).length) ≤ 103 := by
        have := flat_le s (i + 1)
        rw [← flat_succ _ i hil, List.length_append, List.length_cons] at this
        omega
      generalize hA : ((nm s).take i).flatMap (fun a => (47 : UInt8) :: a) = A at *
      generalize hB : (nm s)[i] = Bx at *
      clear hA hB
      go_wp2
      exact ⟨⟨i + 1, by omega, by go_num, congrArg Value.string HF.out⟩, by simp [intOf]; omega⟩
    · have hin : i + 1 = (nm s).length := by rw [← HNN.out]; omega
      have hnI : ¬ (i : Int) + 1 < (n : Int) := by omega
      have HH : Hid (((nm s).take i).flatMap (fun a => (47 : UInt8) :: a) = headL s) := by show _ = _; rw [dropLast_take' _ _ hin]; rfl
      rw [HH.out]
      have HP : Hid (parL s = if headL s = [] then [47] else headL s) := rfl
      clear HH
      cases hh : headL s with
      | nil =>
        rw [hh] at HP
        go_wp2
        go_ret
        exact ⟨by rw [HP.out]; rfl, B1.out⟩
      | cons a l =>
        rw [hh] at HP
        go_wp2
        go_ret
        exact ⟨by rw [HP.out, if_neg (by simp)]; rfl, B1.out⟩

end Go.Proofs.YtgjenbgclpmjmaaDoor
