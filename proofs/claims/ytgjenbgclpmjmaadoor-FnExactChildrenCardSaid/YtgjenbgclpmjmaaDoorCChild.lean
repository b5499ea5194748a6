import Derived.Test.YtgjenbgclpmjmaaDoorCLast
import Derived.Test.YtgjenbgclpmjmaaDoorTTree
import Derived.Test.YtgjenbgclpmjmaaDoorDTree
namespace Go.Proofs.YtgjenbgclpmjmaaDoor
open Go.RowKit Go.Shelf

/-- The children's names. -/
def chN (ns : List Nd) (p : ByteArray) : List Nd := ns.filter fun n => chB n.path p
def chL (ns : List Nd) (p : ByteArray) : List (List UInt8) := (chN ns p).map fun n => lastL n.path
def resC (ns : List Nd) (p : ByteArray) : List (List UInt8) := if okTree ns && okPath p then chL ns p else []
theorem chN_yes (ns : List Nd) (p : ByteArray) (k : Nat) (h : k < ns.length) (hc : chB (nAt ns k).path p = true) : chN (ns.take (k + 1)) p = chN (ns.take k) p ++ [nAt ns k] := by
  unfold chN
  rw [List.take_succ_eq_append_getElem h, List.filter_append, ← nAt_get h]
  simp [hc]
theorem chN_no (ns : List Nd) (p : ByteArray) (k : Nat) (h : k < ns.length) (hc : chB (nAt ns k).path p = false) : chN (ns.take (k + 1)) p = chN (ns.take k) p := by
  unfold chN
  rw [List.take_succ_eq_append_getElem h, List.filter_append, ← nAt_get h]
  simp [hc]
theorem chN_len (ns : List Nd) (p : ByteArray) : (chN ns p).length ≤ ns.length := List.length_filter_le _ _
theorem chN_ok {ns : List Nd} {p : ByteArray} (h : ∀ k, k < ns.length → okNd (nAt ns k) = true) (j : Nat) (hj : j < (chN ns p).length) : okNd (nAt (chN ns p) j) = true := by
  have hm : nAt (chN ns p) j ∈ ns := by
    rw [nAt_get hj]
    exact (List.mem_filter.1 (List.getElem_mem hj)).1
  obtain ⟨k, hk, e⟩ := List.getElem_of_mem hm
  rw [← e, ← nAt_get hk]
  exact h k hk
theorem okNd_path {n : Nd} (h : okNd n = true) : okPath n.path = true := by
  unfold okNd at h
  simp only [Bool.and_eq_true] at h
  exact h.1.1.1.1.1.1
/-- A row of texts of the call's own. -/
def OwnS (w : World) (lo : Nat) (v : Value) (L : List (List UInt8)) : Prop := w.ownsRow lo 9 1 v L.length (L.map sV)
theorem OwnS.below {w w' : World} {lo : Nat} {v : Value} {L : List (List UInt8)} (h : OwnS w lo v L) (hb : Below w.heap.size w w') : OwnS w' lo v L := by
  refine ⟨h.1, ?_⟩
  rcases h.2 with hn | ⟨g, cap, cur, rfl, hbg, hgg, rest⟩
  · exact .inl hn
  · exact .inr ⟨g, cap, cur, rfl, hbg, by rw [hb.block g (Array.getElem?_eq_some_iff.1 hgg).1]; exact hgg, rest⟩
theorem OwnS.mono {w : World} {lo lo' : Nat} {v : Value} {L : List (List UInt8)} (h : OwnS w lo v L) (hl : lo' ≤ lo) : OwnS w lo' v L := by
  refine ⟨h.1, ?_⟩
  rcases h.2 with hn | ⟨g, cap, cur, rfl, hbg, rest⟩
  · exact .inl hn
  · exact .inr ⟨g, cap, cur, rfl, Nat.le_trans hl hbg, rest⟩

set_option maxHeartbeats 1000000 in
set_option maxRecDepth 100000 in
theorem implChildren_any (w : World) (v : Value) (ns : List Nd) (p : ByteArray) (h : RdN w v ns) (hsz : ∀ i, (nAt ns i).path.size ≤ 1048576 ∧ (nAt ns i).data.size ≤ 1048576) :
    Calls Tryd.prog 38 #[.agg #[v], .string p] w fun e w' => ∃ v', e = .returned v' ∧ OwnS w' w.heap.size v' (resC ns p) ∧ Below w.heap.size w w' := by
  obtain ⟨i0, hi, hz0, hz1, hz2⟩ := info_parts Tryd.infoT
  obtain ⟨ao, ca, rfl, _, _⟩ := h.len
  have HR : Hid (RdN w (.slice ao ns.length ca) ns) := h
  have HZ : Hid (∀ i, (nAt ns i).path.size ≤ 1048576 ∧ (nAt ns i).data.size ≤ 1048576) := hsz
  generalize hnn : ns.length = n at *
  have HP : Hid (ns.length = n) := hnn
  have B0 : Hid (Below w.heap.size w (w.alloc (.cells #[.slice ao n ca] 30))) := (Below.refl _ _).alloc (Nat.le_refl _) _
  have X0 : Hid (Boxed (w.alloc (.cells #[.slice ao n ca] 30)) w.heap.size 30 (.slice ao n ca)) := Boxed.new _ _ _
  clear h hsz hnn
  go_enter Tryd.func38, Tryd.ntmps38
  go_wp2_with fail
  generalize w.alloc (.cells #[.slice ao n ca] 30) = w0 at *
  refine (implTree_any _ _ ns (HR.out.below B0.out) HZ.out).mono ?_
  rintro e w1 ⟨rfl, b1⟩
  have B1 : Hid (Below w.heap.size w w1) := B0.out.trans (b1.mono B0.out.size)
  have X1 : Hid (Boxed w1 w.heap.size 30 (.slice ao n ca)) := boxed_below b1 X0.out
  clear b1 X0 B0
  by_cases hok : okTree ns = true
  rotate_left
  · have hok' : okTree ns = false := by simpa using hok
    have HT : Hid (resC ns p = []) := by show _ = _; unfold resC; rw [hok']; rfl
    rw [hok']
    clear hok hok'
    go_wp2
    go_ret
    exact ⟨_, rfl, (by rw [HT.out]; exact World.ownsRow_nil _ _ _ _), B1.out⟩
  rw [hok]
  go_wp2_with fail
  refine (implPath_any _ p).mono ?_
  rintro e w2 ⟨rfl, b2⟩
  have B2 : Hid (Below w.heap.size w w2) := B1.out.trans (b2.mono B1.out.size)
  have X2 : Hid (Boxed w2 w.heap.size 30 (.slice ao n ca)) := boxed_below b2 X1.out
  clear b2 X1 B1
  by_cases hpp : okPath p = true
  rotate_left
  · have hpp' : okPath p = false := by simpa using hpp
    have HT : Hid (resC ns p = []) := by show _ = _; unfold resC; rw [hpp']; simp
    rw [hpp']
    clear hpp hpp' hok
    go_wp2
    go_ret
    exact ⟨_, rfl, (by rw [HT.out]; exact World.ownsRow_nil _ _ _ _), B2.out⟩
  have hn : n ≤ 1000 := by have := okTree_len hok; rw [HP.out] at this; exact this
  have HT : Hid (resC ns p = chL ns p) := by show _ = _; unfold resC; rw [hok, hpp]; rfl
  have HOK : Hid (∀ k, k < n → okNd (nAt ns k) = true) := fun k hk => okTree_nd hok k (by rw [HP.out]; exact hk)
  rw [hpp]
  clear hok hpp
  have c0 := X2.out.cell
  go_wp2
  go_loopw [5, 19] (fun vo vk wr => ∃ k : Nat, k ≤ n ∧ vk = .int .i64 k ∧ Hid (OwnS wr w.heap.size vo (chL (ns.take k) p)) ∧ Hid (Below w.heap.size w wr)) (fun _ i _ => n - (intOf i).toNat)
  case atStart => exact ⟨0, Nat.zero_le _, rfl, World.ownsRow_nil _ _ _ _, B2⟩
  case round =>
    clear c0
    obtain ⟨k, hk, rfl, HW, HB⟩ := hrel
    have sB := HB.out.size
    by_cases hlt : k < n
    · have hltI : (k : Int) < (n : Int) := by omega
      obtain ⟨b, o, hao, hb, hc⟩ : ∃ b o, ao = some ⟨b, o, none⟩ ∧ b < w.heap.size ∧ CellsN w b (o + k * 7) (nAt ns k) := by
        obtain ⟨ao', cap', e', -, -, h3⟩ := HR.out
        simp only [Value.slice.injEq] at e'
        obtain ⟨rfl, -, -⟩ := e'
        rcases h3 with h3 | ⟨b, o, rfl, hb, hc⟩
        · have := HP.out; rw [h3] at this; simp at this; omega
        · exact ⟨b, o, rfl, hb, hc k (by rw [HP.out]; exact hlt)⟩
      subst hao
      obtain ⟨c0, c1, c2, c3, c4, c5, c6⟩ := hc.below HB.out hb
      have hok := HOK.out k hlt
      have hll : (chL (ns.take k) p).length ≤ 1000 := by
        unfold chL
        rw [List.length_map]
        have := chN_len (ns.take k) p
        rw [List.length_take] at this
        omega
      go_wp2_with fail
      clear c0 c1 c2 c3 c4 c5 c6
      have BA : Hid (Below wr.heap.size wr (wr.alloc (.cells #[.string (nAt ns k).path, .string (nAt ns k).data, .int .i64 (nAt ns k).ver, .int .i64 (nAt ns k).cver, .int .i64 (nAt ns k).cz, .int .i64 (nAt ns k).mz, .int .i64 (nAt ns k).pz] 81))) := (Below.refl _ _).alloc (Nat.le_refl _) _
      have EX : Hid (BoxN (wr.alloc (.cells #[.string (nAt ns k).path, .string (nAt ns k).data, .int .i64 (nAt ns k).ver, .int .i64 (nAt ns k).cver, .int .i64 (nAt ns k).cz, .int .i64 (nAt ns k).mz, .int .i64 (nAt ns k).pz] 81)) wr.heap.size (nAt ns k)) := BoxN.new _ _ _
      generalize wr.alloc (.cells #[.string (nAt ns k).path, .string (nAt ns k).data, .int .i64 (nAt ns k).ver, .int .i64 (nAt ns k).cver, .int .i64 (nAt ns k).cz, .int .i64 (nAt ns k).mz, .int .i64 (nAt ns k).pz] 81) = wA at *
      have OA : Hid (OwnS wA w.heap.size u5 (chL (ns.take k) p)) := HW.out.below BA.out
      have B3 : Hid (Below w.heap.size w wA) := HB.out.trans (BA.out.mono sB)
      clear HW HB BA
      have s3 := B3.out.size
      refine (isChild_any wA (nAt ns k).path p (okNd_path hok)).mono ?_
      rintro e w3 ⟨rfl, hw3⟩
      obtain rfl : wA = w3 := hw3.symm
      cases hcb : chB (nAt ns k).path p with
      | false =>
        have HS : Hid (chL (ns.take (k + 1)) p = chL (ns.take k) p) := by show _ = _; unfold chL; rw [chN_no ns p k (by rw [HP.out]; exact hlt) hcb]
        clear hcb
        go_wp2
        exact ⟨⟨k + 1, by omega, by go_num, (by rw [HS.out]; exact OA), B3⟩, by simp [intOf]; omega⟩
      | true =>
        have HS : Hid (chL (ns.take (k + 1)) p = chL (ns.take k) p ++ [lastL (nAt ns k).path]) := by show _ = _; unfold chL; rw [chN_yes ns p k (by rw [HP.out]; exact hlt) hcb, List.map_append]; rfl
        clear hcb
        have e0 := EX.out.c0
        go_wp2_with fail
        refine (lastName_any wA (nAt ns k).path (okNd_path hok)).mono ?_
        rintro e w4 ⟨rfl, hw4⟩
        obtain rfl : wA = w4 := hw4.symm
        generalize chL (ns.take k) p = Lk at *
        generalize lastL (nAt ns k).path = ln at *
        have OR : Hid (wA.ownsRow w.heap.size 9 1 u5 Lk.length (Lk.map sV)) := OA.out
        unfold sV
        go_wp2_with (at_builtin; go_must (refine wpList_append_own _ rfl _ _ 60 rfl w.heap.size 9 i0 (.string ByteArray.empty) 1 16 Tryd.underlying60 hi hz0 hz1 hz2 rfl (by decide) _ _ _ rfl (OR.out.alloc _) ⟨wA.heap.size, 0, none⟩ 1 1 [.string ⟨ln.toArray⟩] rfl rfl (cell_one_new _ _ _) (by intro u hu; simp at hu; subst hu; rfl) ?_ ?_ ?_ ?_))
        · unfold maxLen; omega
        · omega
        · simp; omega
        intro v5 w5 ho5 hg5 _
        have O5 : Hid (OwnS w5 w.heap.size v5 (chL (ns.take (k + 1)) p)) := by
          rw [HS.out]
          unfold OwnS
          rw [List.length_append, List.map_append]
          exact ho5
        have B5 : Hid (Below w.heap.size w w5) := (B3.out.alloc s3 _).grown hg5 (by simp; omega) (fun q hq => (World.ownsRow.lt OR.out q hq).1)
        clear ho5 hg5 OR OA B3 HS e0
        go_wp2
        exact ⟨⟨k + 1, by omega, by go_num, O5, B5⟩, by simp [intOf]; omega⟩
    · have hkn : k = n := by omega
      subst hkn
      go_wp2
      go_ret
      refine ⟨_, rfl, ?_, HB.out⟩
      have := HW.out
      rw [List.take_of_length_le (by rw [HP.out]; exact Nat.le_refl _)] at this
      rw [HT.out]; exact this

end Go.Proofs.YtgjenbgclpmjmaaDoor
