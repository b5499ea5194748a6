import Derived.Test.YtoljmlhnbmeloaaSettle
import Derived.Deep.AppendLies
namespace Go.Proofs.Ytoljmlhnbmeloaa
open Go.RowKit

set_option maxHeartbeats 400000 in
theorem keptBytes_any (w : World) (v : Value) (cs : List Int) (i : Nat) (h : Rd .i64 w v cs) (_hi : i ≤ 1048576) :
    Calls Try.prog 55 #[v, .int .i64 i] w fun e w' => e = .returned (.int .i64 (chc cs i)) ∧ w' = w := by
  obtain ⟨ao, cap, rfl, h1, h2, h3⟩ := h
  unfold maxLen at h2
  by_cases hlt : i < cs.length
  · rcases h3 with rfl | ⟨b, o, rfl, hb, hc⟩
    · simp at hlt
    · have c1 := hc i hlt
      have hge : ¬ (cs.length : Int) ≤ (i : Int) := by omega
      have hltI : (i : Int) < (cs.length : Int) := by omega
      have HE : Hid (chc cs i = if 0 ≤ cs.getD i 0 ∧ cs.getD i 0 < 64 then (cs.getD i 0).toNat else 64) := by show _ = _; unfold chc; rw [if_pos hlt]
      clear hc
      generalize hx : cs.getD i 0 = x at *
      clear hx
      by_cases hin : 0 ≤ x ∧ x < 64
      · have HV : Hid (((chc cs i : Nat) : Int) = x) := by have := HE.out; rw [if_pos hin] at this; show _ = _; omega
        obtain ⟨i1, i2⟩ := hin
        have d1 : decide (0 ≤ x) = true := by simpa using i1
        have d2 : decide (x < 64) = true := by simpa using i2
        go_enter Try.func55, Try.ntmps55
        go_wp2
        go_ret
        exact ⟨by rw [HV.out]; try rfl, rfl⟩
      · have HV : Hid (((chc cs i : Nat) : Int) = 64) := by have := HE.out; rw [if_neg hin] at this; show _ = _; omega
        by_cases i1 : 0 ≤ x
        · have i2 : ¬ x < 64 := fun h => hin ⟨i1, h⟩
          have d1 : decide (0 ≤ x) = true := by simpa using i1
          have d2 : decide (x < 64) = false := by simpa using i2
          clear hin
          go_enter Try.func55, Try.ntmps55
          go_wp2
          go_ret
          exact ⟨by rw [HV.out]; try rfl, rfl⟩
        · have d1 : decide (0 ≤ x) = false := by simpa using i1
          clear hin
          go_enter Try.func55, Try.ntmps55
          go_wp2
          go_ret
          exact ⟨by rw [HV.out]; try rfl, rfl⟩
  · have HV : Hid (((chc cs i : Nat) : Int) = 0) := by show _ = _; unfold chc; rw [if_neg hlt]; rfl
    have hge : (cs.length : Int) ≤ (i : Int) := by omega
    clear h3
    go_enter Try.func55, Try.ntmps55
    go_wp2
    go_ret
    exact ⟨by rw [HV.out]; try rfl, rfl⟩

theorem step_copy_grown {P : Program} {ops : Array Oper} {o : Oper} {a : Act} {w : World} {K : Act → World → Prop} {Q : Exit → Act → World → Prop} {E : Prop} (hgd : o.guard = none) (d s : Operand) (dT sT : TypeId)
    (ho : o.op = .call { callee := .builtin .copy, args := #[d, s], argTypes := #[dT, sT] }) (elem : TypeId) (hu : P.underlying dT = some (.slice elem)) (hsz : (P.info? elem).map (·.size) = some 1)
    (dp sp : Option Addr) (dLen dCap sLen sCap : Nat) (hd : a.eval d = .slice dp dLen dCap) (hs : a.eval s = .slice sp sLen sCap)
    (g off : Nat) (cur : List Value) (t : TypeId) (hg : w.heap[g]? = some (.cells cur.toArray t (0, 0))) (cs : List Value) (hn : cs.length = Nat.min sLen dLen)
    (hpos : 0 < cs.length → dp = some ⟨g, off, none⟩ ∧ ∃ ad, sp = some ad ∧ ∀ j v, cs[j]? = some v → w.cell? (ad.add j) = some v)
    (hfit : off + cs.length ≤ cur.length) (h1 : ∀ v ∈ cs, v.oneCell' = true)
    (h : ∀ w', Hid (w'.heap[g]? = some (.cells (splice cur off cs).toArray t (0, 0))) → Hid (w.grownBy w' (some g)) → K (a.put o.dst (goInt cs.length)) w') :
    if Region.wanted o (yielded ops a.tmps) = true then Oper.wp P o a w K Q else E := by
  have hw : Region.wanted o (yielded ops a.tmps) = true := by simp [Region.wanted, hgd]
  rw [if_pos hw]
  by_cases h0 : cs.length = 0
  · obtain rfl : cs = [] := List.eq_nil_of_length_eq_zero h0
    have hrun := run_copy_none (P := P) w dT sT o.type elem dp sp dLen dCap sLen sCap hu hsz (by simpa using hn.symm)
    unfold Oper.wp
    simp [execOp, ho, resolve, invoke, builtin, hd, hs, hrun, Result.andThen]
    exact h w (show _ = _ by simpa [splice] using hg) (World.grownBy.refl _ _)
  · obtain ⟨rfl, ad, rfl, hsrc⟩ := hpos (by omega)
    have hrun := run_copy_row (P := P) w dT sT o.type elem g off dLen dCap ad sLen sCap cur.toArray t cs hu hsz hg hn hsrc (by simpa using hfit) h1
    unfold Oper.wp
    simp [execOp, ho, resolve, invoke, builtin, hd, hs, hrun, Result.andThen]
    exact h _ (show _ = _ by simpa [splice] using setRow_heap w g _ _ t _ hg) (show World.grownBy _ _ _ from ⟨rfl, rfl, rfl, by simp [World.setRow], fun k _ hne => setRow_other w g k _ (fun e => hne (by rw [e]))⟩)

theorem there_third (w : World) (o1 o2 : Obj) (cs : Array Value) (t : TypeId) (n : Nat) (h : cs.size = n) : (((w.alloc o1).alloc o2).alloc (.cells cs t)).there (w.heap.size + 1 + 1) 0 n := by
  have := there_new ((w.alloc o1).alloc o2) cs t n h
  rwa [World.size_alloc, World.size_alloc] at this

theorem sizeA (n : Nat) (h : n = 64) : (Try.prog.info? 75).map (·.size) = some n := by subst h; kernel_rfl
theorem sizeB : (Try.prog.info? 5).map (·.size) = some 1 := by kernel_rfl

set_option maxHeartbeats 400000 in
set_option maxRecDepth 100000 in
theorem tornBlock_any (w : World) (bs ws : List Int) (c : Nat) (hb : bs.length = 64) (hw : ws.length = 64) (hc : c ≤ 64) :
    Calls Try.prog 54 #[.agg (bs.map (Value.int .u8)).toArray, .agg (ws.map (Value.int .u8)).toArray, .int .i64 c] w fun e w' => e = .returned (.agg ((splice bs 0 (ws.take c)).map (Value.int .u8)).toArray) ∧ Below w.heap.size w w' := by
  rw [splice_map]
  obtain ⟨X, hX⟩ : ∃ X, X = bs.map (Value.int .u8) := ⟨_, rfl⟩
  obtain ⟨Y, hY⟩ : ∃ Y, Y = ws.map (Value.int .u8) := ⟨_, rfl⟩
  obtain ⟨Z, hZ⟩ : ∃ Z, Z = (ws.take c).map (Value.int .u8) := ⟨_, rfl⟩
  rw [← hX, ← hY, ← hZ]
  obtain ⟨V, hV⟩ : ∃ V, V = splice X 0 Z := ⟨_, rfl⟩
  rw [← hV]
  have HV : Hid (V = splice X 0 Z) := hV
  have HX : Hid (X.length = 64) := by subst hX; show _ = _; simpa using hb
  have HY : Hid (Y.length = 64) := by subst hY; show _ = _; simpa using hw
  have HZ : Hid (Z.length = c) := by subst hZ; show _ = _; simp; omega
  have HZY : Hid (∀ (j : Nat) (v : Value), Z[j]? = some v → Y[j]? = some v) := by
    subst hZ; subst hY
    intro j v h
    simp [List.getElem?_take] at h ⊢
    obtain ⟨-, a, h2⟩ := h
    exact ⟨a, h2⟩
  have HZ1 : Hid (∀ v ∈ Z, v.oneCell' = true) := by subst hZ; exact ints_oneCell _ _
  have HX1 : Hid (∀ v ∈ X, v.oneCell' = true) := by subst hX; exact ints_oneCell _ _
  clear hX hY hZ hb hw hV
  go_enter Try.func54, Try.ntmps54
  go_wp2_with fail
  generalize hW : World.alloc _ _ = W0
  have GX : Hid (W0.heap[w.heap.size]? = some (.cells X.toArray 75 (0, 0))) := by
    subst hW; show _ = _
    rw [Below.heap_alloc _ _ _ (by simp; omega), Below.heap_alloc _ _ _ (by simp), heap_alloc_new]
  have GY : Hid (W0.heap[w.heap.size + 1]? = some (.cells Y.toArray 75 (0, 0))) := by
    subst hW; show _ = _
    rw [Below.heap_alloc _ _ _ (by simp)]
    have := heap_alloc_new (w.alloc (.cells X.toArray 75)) (.cells Y.toArray 75)
    simpa using this
  have TR : Hid (W0.there (w.heap.size + 1 + 1) 0 64) := by
    subst hW
    exact there_third _ _ _ _ _ _ rfl
  have BW : Hid (Below w.heap.size w W0) := by
    subst hW
    exact (((Below.refl _ _).alloc (Nat.le_refl _) _).alloc (by simp) _).alloc (by simp; omega) _
  have CY : Hid (∀ (j : Nat) (v : Value), Z[j]? = some v → W0.cell? ((⟨w.heap.size + 1, 0, none⟩ : Addr).add j) = some v) := by
    intro j v h
    rw [Addr.add_lit, Nat.zero_add, cell_of_row W0 _ j _ _ _ GY.out]
    simpa using HZY.out j v h
  have hsz : W0.heap.size = w.heap.size + 3 := by subst hW; simp
  clear hW
  have hcI : (c : Int) ≤ 64 := by omega
  go_region_law (refine step_copy_grown rfl (.tmp 8) (.tmp 10) 29 29 rfl 5 Try.underlying29 sizeB _ _ _ _ _ _ rfl rfl w.heap.size 0 X 75 GX.out Z (by rw [HZ.out]; exact (Nat.min_self c).symm) (fun _ => ⟨rfl, ⟨w.heap.size + 1, 0, none⟩, rfl, CY.out⟩) (by rw [HZ.out, HX.out]; omega) HZ1.out ?_; intro w4 hg4 hb4)
  have hlen : V.length = 64 := by rw [HV.out, length_splice _ _ _ (by rw [HZ.out, HX.out]; omega), HX.out]
  have HLEN : Hid (V.length = 64) := hlen
  have RG4 : Hid (w4.rangeAt w.heap.size 0 V) := by
    intro j v h
    rw [Nat.zero_add, cell_of_row w4 _ j _ _ _ hg4.out]
    rw [← HV.out]; simpa using h
  have TR4 : Hid (w4.there (w.heap.size + 1 + 1) 0 64) := by
    intro j hj
    obtain ⟨k1, k2⟩ := TR.out j hj
    refine ⟨?_, ?_⟩
    · rw [hb4.out.cell_far ⟨w.heap.size + 1 + 1, 0 + j, none⟩ (by show w.heap.size + 1 + 1 < W0.heap.size; omega) (by simp; omega)]; exact k1
    · rw [hb4.out.frozen_far ⟨w.heap.size + 1 + 1, 0 + j, none⟩ (by show w.heap.size + 1 + 1 < W0.heap.size; omega) (by simp; omega)]; exact k2
  have B4 : Hid (Below w.heap.size w w4) := BW.out.grown (show W0.grownBy w4 (some w.heap.size) from ⟨hb4.out.os, hb4.out.tape, hb4.out.output, hb4.out.size, hb4.out.block⟩) (by omega) (by intro q hq; simp at hq; omega)
  have H1 : Hid (∀ v ∈ V, v.oneCell' = true) := by
    intro v hv
    rw [HV.out] at hv
    unfold splice at hv
    simp only [List.mem_append] at hv
    rcases hv with hv | hv | hv
    · exact HX1.out v (List.mem_of_mem_take hv)
    · exact HZ1.out v hv
    · exact HX1.out v (List.mem_of_mem_drop hv)
  clear hg4 hb4 hlen
  go_wp2_with (first | (refine wpList_load_mid rfl 75 _ rfl w.heap.size 0 rfl V _ RG4.out Try.underlying75 rfl (sizeA _ HLEN.out) ?_) | (refine wpList_store_mid rfl 75 _ _ rfl (w.heap.size + 1 + 1) 0 V.toArray rfl rfl ?s1 ?s2 ?s3 ?_))
  case s1 =>
    have e : V.toArray.size = 64 := by rw [List.size_toArray]; exact HLEN.out
    rw [e]; exact TR4.out
  case s2 => rw [List.size_toArray]; exact sizeA _ HLEN.out
  case s3 => exact all_oneCell_toArray H1.out
  refine bodyPost_ret (v := .agg V.toArray) ?_ rfl ⟨rfl, ?_⟩
  · have LV : (loadVar 75 ⟨w.heap.size + 1 + 1, 0, none⟩).run Try.prog (w4.setCells (w.heap.size + 1 + 1) 0 V) = .ok (.agg V.toArray) (w4.setCells (w.heap.size + 1 + 1) 0 V) :=
      run_loadVar_mid (P := Try.prog) _ (w.heap.size + 1 + 1) 0 75 _ _ (World.rangeAt_setCells_same _ _ _ _ (by rw [HLEN.out]; exact TR4.out)) Try.underlying75 rfl (sizeA _ HLEN.out)
    simp [results, Try.results54, Act.put, asAddr]
    exact LV
  · exact below_setCells (by omega) _ _ _ B4.out

set_option maxHeartbeats 400000 in
set_option maxRecDepth 100000 in
theorem setBlock_any (w : World) (base g dl cap b : Nat) (D C : List Int) (ho : Own .u8 5 w base (.slice (some ⟨g, 0, none⟩) dl cap) D) (hD : D.length = dl) (hC : C.length = 64) (hb : b * 64 + 64 ≤ dl) (hd1 : dl ≤ 1048576) :
    Calls Try.prog 53 #[.slice (some ⟨g, 0, none⟩) dl cap, .int .i64 b, .agg (C.map (Value.int .u8)).toArray] w fun e w' => e = .returned (.tuple #[]) ∧ Own .u8 5 w' base (.slice (some ⟨g, 0, none⟩) dl cap) (splice D (b * 64) C) ∧ w.grownBy w' (some g) := by
  obtain ⟨X, hX⟩ : ∃ X, X = C.map (Value.int .u8) := ⟨_, rfl⟩
  rw [← hX]
  have HX : Hid (X.length = 64) := by subst hX; show _ = _; simpa using hC
  have HX1 : Hid (∀ v ∈ X, v.oneCell' = true) := by subst hX; exact ints_oneCell _ _
  have HO : Hid (Own .u8 5 w base (.slice (some ⟨g, 0, none⟩) dl cap) D) := ho
  obtain ⟨cur, hgb, hcur, hcap, hcm, htake⟩ : ∃ cur : Array Value, w.heap[g]? = some (.cells cur 5 (0, 0)) ∧ cur.size = cap ∧ dl ≤ cap ∧ cap ≤ maxLen ∧ cur.toList.take dl = D.map (Value.int .u8) := by
    rcases ho.2 with ⟨h, -⟩ | ⟨g', cap', cur, e, -, h2, h3, h4, h5, h6⟩
    · simp at h
    · simp only [Value.slice.injEq, Option.some.injEq, Addr.mk.injEq] at e
      obtain ⟨⟨rfl, -⟩, -, rfl⟩ := e
      rw [hD] at h3 h6
      rw [Nat.mul_one] at h5 h6
      exact ⟨cur, h2, h5, h3, h4, h6⟩
  have hgz : g < w.heap.size := (Array.getElem?_eq_some_iff.1 hgb).1
  have HGB : Hid (w.heap[g]? = some (.cells cur 5 (0, 0))) := hgb
  have HCUR : Hid (cur.size = cap) := hcur
  have HBASE : Hid (base ≤ g) := (World.ownsRow.lt ho g rfl).1
  have HFIN : Hid ((splice cur.toList (b * 64) X).take dl = (splice D (b * 64) C).map (Value.int .u8) ∧ (splice D (b * 64) C).length = dl ∧ (splice cur.toList (b * 64) X).length = cap) := by
    have hcl : cur.toList.length = cap := by simpa using hcur
    have hxl : X.length = 64 := HX.out
    refine ⟨?_, by rw [length_splice _ _ _ (by omega), hD], by rw [length_splice _ _ _ (by omega), hcl]⟩
    rw [splice_map, ← htake, ← hX]
    apply List.ext_getElem?
    intro j
    rw [splice_get _ _ _ (by rw [List.length_take]; omega), List.getElem?_take]
    by_cases hj : j < dl
    · rw [if_pos hj, splice_get _ _ _ (by omega), List.getElem?_take_of_lt hj]
    · rw [if_neg hj, if_neg (by omega), if_neg (by omega), List.getElem?_take, if_neg hj]
  unfold maxLen at hcm
  clear hX hC ho hgb htake hcur
  go_enter Try.func53, Try.ntmps53
  go_wp2_with fail
  have GA : Hid ((w.alloc (.cells X.toArray 75)).heap[g]? = some (.cells cur.toList.toArray 5 (0, 0))) := by
    show _ = _
    rw [Below.heap_alloc _ _ _ hgz, Array.toArray_toList]; exact HGB.out
  have CX : Hid (∀ (j : Nat) (v : Value), X[j]? = some v → (w.alloc (.cells X.toArray 75)).cell? ((⟨w.heap.size, 0, none⟩ : Addr).add j) = some v) := by
    intro j v h
    rw [Addr.add_lit, Nat.zero_add, cell_of_row _ _ j _ _ _ (heap_alloc_new w _)]
    simpa using h
  have hbI : ((b * 64 : Nat) : Int) ≤ (dl : Int) := by omega
  have hbI2 : (b : Int) * 64 ≤ (dl : Int) := by omega
  have hwr : IntKind.i64.wrap ((b : Int) * 64) = ((b * 64 : Nat) : Int) := by rw [IntKind.wrap_i64]; omega
  have hnc : ¬ cap = b * 64 := by omega
  have hb0 : (0 : Int) ≤ (b : Int) * 64 := by omega
  have htn : ((b : Int) * 64).toNat = b * 64 := by omega
  have hgr : w.grownBy (w.alloc (.cells X.toArray 75)) (some g) := World.grownBy_alloc _ _ _
  have HGR : Hid (w.grownBy (w.alloc (.cells X.toArray 75)) (some g)) := hgr
  clear hgr
  generalize w.alloc (.cells X.toArray 75) = W0 at *
  go_region_law (refine step_copy_grown rfl (.tmp 9) (.tmp 10) 29 29 rfl 5 Try.underlying29 sizeB _ _ _ _ _ _ rfl rfl g (b * 64) cur.toList 5 GA.out X (by rw [HX.out]; exact (Nat.min_eq_left (show 64 ≤ dl - b * 64 by omega)).symm) (fun _ => ⟨rfl, ⟨w.heap.size, 0, none⟩, rfl, CX.out⟩) (by rw [HX.out, Array.length_toList, HCUR.out]; omega) HX1.out ?_; intro w4 hg4 hb4)
  go_wp2
  go_end0
  refine ⟨rfl, ?_, ?_⟩
  · refine ⟨by rw [HFIN.out.2.1]; simpa using HFIN.out.2.1, .inr ⟨g, cap, (splice cur.toList (b * 64) X).toArray, ?_, HBASE.out, hg4.out, by rw [HFIN.out.2.1]; exact hcap, hcm, ?_, ?_⟩⟩
    · rw [HFIN.out.2.1]
    · simpa using HFIN.out.2.2
    · rw [HFIN.out.2.1, Nat.mul_one]; exact HFIN.out.1
  · exact HGR.out.trans (show W0.grownBy w4 (some g) from ⟨hb4.out.os, hb4.out.tape, hb4.out.output, hb4.out.size, hb4.out.block⟩)

end Go.Proofs.Ytoljmlhnbmeloaa
