import Derived.Test.YtgjenbgclpmjmaaDoorESpec
namespace Go.Proofs.YtgjenbgclpmjmaaDoor
open Go.RowKit Go.Shelf

theorem ownsRow_keep {w w' : World} {lo n z : Nat} {e : TypeId} {v : Value} {us : List Value} (ho : w.ownsRow lo e z v n us) (hb : Below w.heap.size w w') : w'.ownsRow lo e z v n us := by
  refine ⟨ho.1, ?_⟩
  rcases ho.2 with hn | ⟨g, cap, cur, rfl, hbg, hgg, rest⟩
  · exact .inl hn
  · exact .inr ⟨g, cap, cur, rfl, hbg, by rw [hb.block g (Array.getElem?_eq_some_iff.1 hgg).1]; exact hgg, rest⟩

set_option maxHeartbeats 1000000 in
set_option maxRecDepth 100000 in
theorem sNodes_row (w : World) (b o n cap : Nat) (ns : List Nd) (hp : ns.length = n) (hn : n ≤ 1000) (hb : b < w.heap.size) (hc : ∀ i, i < n → CellsN w b (o + i * 7) (nAt ns i)) (hok : ∀ i, i < n → okNd (nAt ns i) = true) :
    Calls Tryd.prog 86 #[.slice (some ⟨b, o, none⟩) n cap] w fun e w' => ∃ v', e = .returned v' ∧ Own .u8 5 w' w.heap.size v' (nodesB ns) ∧ Below w.heap.size w w' := by
  obtain ⟨i0, hi, hz0, hz1, hz2⟩ := info_parts Tryd.infoB
  have HC : Hid (∀ i, i < n → CellsN w b (o + i * 7) (nAt ns i)) := hc
  have HP : Hid (ns.length = n) := hp
  have HOK : Hid (∀ k, k < n → okNd (nAt ns k) = true) := hok
  have HLN : Hid (∀ k, k ≤ n → (nodesB (ns.take k)).length ≤ k * 188) := fun k hk => nodesB_len (fun k hk => hok k (by rw [← hp]; exact hk)) k (by rw [hp]; exact hk)
  have O0 : Hid (Own .u8 5 (w.alloc (.cells #[] 5)) w.heap.size (.slice (some ⟨w.heap.size, 0, none⟩) 0 0) (nodesB (ns.take 0))) := World.ownsRow_lit w #[] 0 (Nat.le_refl _) (Nat.zero_le _) rfl
  have B0 : Hid (Below w.heap.size w (w.alloc (.cells #[] 5))) := (Below.refl _ _).alloc (Nat.le_refl _) _
  clear hc hp hok
  go_enter Tryd.func86, Tryd.ntmps86
  go_wp2
  go_loopw [3, 4] (fun vo vk wr => ∃ k : Nat, k ≤ n ∧ vk = .int .i64 k ∧ Hid (Own .u8 5 wr w.heap.size vo (nodesB (ns.take k))) ∧ Hid (Below w.heap.size w wr)) (fun _ i _ => n - (intOf i).toNat)
  case atStart => exact ⟨0, Nat.zero_le _, rfl, O0, B0⟩
  case round =>
    obtain ⟨k, hk, rfl, HW, HB⟩ := hrel
    have sB := HB.out.size
    by_cases hlt : k < n
    · have hltI : (k : Int) < (n : Int) := by omega
      obtain ⟨c0, c1, c2, c3, c4, c5, c6⟩ := (HC.out k hlt).below HB.out hb
      go_wp2_with fail
      clear c0 c1 c2 c3 c4 c5 c6
      refine (sNode_any _ (nAt ns k) (HOK.out k hlt)).mono ?_
      rintro e w1 ⟨v1, rfl, o1, b1⟩
      have hl1 : (nodeB (nAt ns k)).length ≤ 188 ∧ 0 < (nodeB (nAt ns k)).length := by
        have := okNd_all (HOK.out k hlt)
        rw [nodeB_len]; omega
      have hl0 := HLN.out k hk
      obtain ⟨g1, q1, hv1⟩ := own_full o1 hl1.2
      obtain ⟨L, hL⟩ : ∃ L, L = nodesB (ns.take k) := ⟨_, rfl⟩
      obtain ⟨N, hN⟩ : ∃ N, N = nodeB (nAt ns k) := ⟨_, rfl⟩
      have HS : Hid (L ++ N = nodesB (ns.take (k + 1))) := by show _ = _; rw [hL, hN]; exact nodesB_succ ns k (by rw [HP.out]; exact hlt)
      rw [← hN] at hv1 o1 hl1
      rw [← hL] at HW hl0
      generalize hm : N.length = m at *
      have HM : Hid (N.length = m) := hm
      subst hv1
      have O1 : Hid (w1.ownsRow w.heap.size 5 1 u3 L.length (L.map (Value.int .u8))) := HW.out.below b1
      have N1 : Hid (∀ j u, (N.map (Value.int .u8))[j]? = some u → w1.cell? ((⟨g1, 0, none⟩ : Addr).add j) = some u) := World.ownsRow.cells o1 rfl
      have B1 : Hid (Below w.heap.size w w1) := HB.out.trans (b1.mono sB)
      have s1 := B1.out.size
      clear o1 b1 HW HB hL hN hm
      go_wp2_with (at_builtin; go_must (refine wpList_append_own _ rfl _ _ 45 rfl w.heap.size 5 i0 (.int .u8 0) 1 1 Tryd.underlying45 hi hz0 hz1 hz2 rfl (by decide) _ _ _ rfl O1.out ⟨g1, 0, none⟩ m q1 (N.map (Value.int .u8)) rfl ?_ N1.out (u8_oneCell _) ?_ ?_ ?_ ?_))
      · rw [List.length_map, HM.out, Nat.mul_one]
      · unfold maxLen; omega
      · omega
      · exact s1
      intro v2 w2 ho2 hg2 _
      have O2 : Hid (Own .u8 5 w2 w.heap.size v2 (nodesB (ns.take (k + 1)))) := by
        refine own_of (q := L.length + m) (ys := L ++ N) (by rw [List.length_append, HM.out]) HS.out.symm ?_
        rw [List.map_append]; exact ho2
      have B2 : Hid (Below w.heap.size w w2) := B1.out.grown hg2 s1 (fun q hq => (World.ownsRow.lt O1.out q hq).1)
      clear ho2 hg2 O1 N1 B1 HS HM hl0 hl1
      go_wp2
      exact ⟨⟨k + 1, by omega, by go_num, O2, B2⟩, by simp [intOf]; omega⟩
    · have hkn : k = n := by omega
      subst hkn
      go_wp2
      go_ret
      refine ⟨_, rfl, ?_, HB.out⟩
      rw [← nodesB_all ns k (by rw [HP.out]; exact Nat.le_refl _)]
      exact HW.out

set_option maxHeartbeats 1000000 in
set_option maxRecDepth 100000 in
theorem sNodes_nil (w : World) (ao : Option Addr) (cap : Nat) :
    Calls Tryd.prog 86 #[.slice ao 0 cap] w fun e w' => ∃ v', e = .returned v' ∧ Own .u8 5 w' w.heap.size v' [] ∧ Below w.heap.size w w' := by
  have O0 : Hid (Own .u8 5 (w.alloc (.cells #[] 5)) w.heap.size (.slice (some ⟨w.heap.size, 0, none⟩) 0 0) []) := World.ownsRow_lit w #[] 0 (Nat.le_refl _) (Nat.zero_le _) rfl
  have B0 : Hid (Below w.heap.size w (w.alloc (.cells #[] 5))) := (Below.refl _ _).alloc (Nat.le_refl _) _
  go_enter Tryd.func86, Tryd.ntmps86
  go_wp2
  go_rounds 1
  go_ret
  exact ⟨_, rfl, O0.out, B0.out⟩

theorem sNodes_any (w : World) (v : Value) (ns : List Nd) (h : RdN w v ns) (hn : ns.length ≤ 1000) (hok : ∀ i, i < ns.length → okNd (nAt ns i) = true) :
    Calls Tryd.prog 86 #[v] w fun e w' => ∃ v', e = .returned v' ∧ Own .u8 5 w' w.heap.size v' (nodesB ns) ∧ Below w.heap.size w w' := by
  obtain ⟨ao, cap, rfl, h1, h2, h3⟩ := h
  rcases h3 with rfl | ⟨b, o, rfl, hb, hc⟩
  · exact sNodes_nil w ao cap
  · exact sNodes_row w b o ns.length cap ns rfl hn hb hc hok

set_option maxHeartbeats 1000000 in
set_option maxRecDepth 100000 in
theorem sTree_any (w : World) (v : Value) (ns : List Nd) (h : RdN w v ns) (hn : ns.length ≤ 1048576) (hsz : ∀ i, (nAt ns i).path.size ≤ 1048576 ∧ (nAt ns i).data.size ≤ 1048576) :
    Calls Tryd.prog 43 #[.agg #[v]] w fun e w' => ∃ v', e = .returned v' ∧ Own .u8 5 w' w.heap.size v' (treeB ns) ∧ Below w.heap.size w w' := by
  obtain ⟨ao, ca, rfl, _, _⟩ := h.len
  have HR : Hid (RdN w (.slice ao ns.length ca) ns) := h
  have HZ : Hid (∀ i, (nAt ns i).path.size ≤ 1048576 ∧ (nAt ns i).data.size ≤ 1048576) := hsz
  have B0 : Hid (Below w.heap.size w (w.alloc (.cells #[.slice ao ns.length ca] 30))) := (Below.refl _ _).alloc (Nat.le_refl _) _
  have X0 : Hid (Boxed (w.alloc (.cells #[.slice ao ns.length ca] 30)) w.heap.size 30 (.slice ao ns.length ca)) := Boxed.new _ _ _
  clear h hsz
  go_enter Tryd.func43, Tryd.ntmps43
  go_wp2_with fail
  generalize w.alloc (.cells #[.slice ao ns.length ca] 30) = w0 at *
  refine (specTree_any _ _ ns (HR.out.below B0.out) hn HZ.out).mono ?_
  rintro e w1 ⟨rfl, b1⟩
  have B1 : Hid (Below w.heap.size w w1) := B0.out.trans (b1.mono B0.out.size)
  have X1 : Hid (Boxed w1 w.heap.size 30 (.slice ao ns.length ca)) := boxed_below b1 X0.out
  clear b1 X0 B0
  have s1 := B1.out.size
  by_cases hok : okTree ns = true
  rotate_left
  · have hok' : okTree ns = false := by simpa using hok
    have HT : Hid (treeB ns = []) := by show _ = _; unfold treeB; rw [if_neg hok]
    have O2 : Hid (Own .u8 5 (w1.alloc (.cells #[] 5)) w.heap.size (.slice (some ⟨w1.heap.size, 0, none⟩) 0 0) []) := Own.mono (World.ownsRow_lit w1 #[] 0 (Nat.le_refl _) (Nat.zero_le _) rfl) s1
    rw [hok']
    clear hok hok'
    go_wp2
    go_ret
    exact ⟨_, rfl, (by rw [HT.out]; exact O2.out), B1.out.alloc s1 _⟩
  have HT : Hid (treeB ns = nodesB ns) := by show _ = _; unfold treeB; rw [if_pos hok]
  have HOK : Hid (∀ k, k < ns.length → okNd (nAt ns k) = true) := fun k hk => okTree_nd hok k hk
  have hn2 := okTree_len hok
  rw [hok]
  clear hok
  have c0 := X1.out.cell
  go_wp2_with fail
  refine (sNodes_any _ _ ns (HR.out.below B1.out) hn2 HOK.out).mono ?_
  rintro e w2 ⟨v2, rfl, o2, b2⟩
  have O2 : Hid (Own .u8 5 w2 w.heap.size v2 (treeB ns)) := by rw [HT.out]; exact o2.mono s1
  have B2 : Hid (Below w.heap.size w w2) := B1.out.trans (b2.mono s1)
  clear o2 b2 c0
  go_wp2
  go_ret
  exact ⟨_, rfl, O2.out, B2.out⟩

end Go.Proofs.YtgjenbgclpmjmaaDoor
