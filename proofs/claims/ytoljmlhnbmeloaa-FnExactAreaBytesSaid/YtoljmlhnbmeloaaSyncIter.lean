import Derived.Test.YtoljmlhnbmeloaaImplRead
import Derived.Test.YtoljmlhnbmeloaaSyncMath
import Derived.RangeFuncNested
import Derived.RangeFuncLeaves
import Derived.Shelf.Abstract
import Derived.OwnWalkIn
import Derived.TacticsInMore
import Derived.LoopNIn
import Derived.LoopIn
namespace Go.Proofs.Ytoljmlhnbmeloaa
open Go.RowKit Go.Shelf

attribute [local go_sem] Oper.semAt_some

theorem wpListIn_load_mid {F : Fence} {nF : Nat} {P : Program} {ops : Array Oper} {rest : List Oper} {op : Oper} {a : Act} {w : World} {Q : Exit → Act → World → Prop} (hgd : op.guard = none) (ty : TypeId) (x : Operand) (ho : op.op = .load ty x)
    (b o : Nat) (hx : a.eval x = .pointer (some ⟨b, o, none⟩)) (cs : List Value) (d : TypeDesc) (hc : w.rangeAt b o cs) (hu : P.underlying ty = some d) (hd : d.isRow = true) (hi : (P.info? ty).map (·.size) = some cs.length)
    (h : wpListIn F nF P ops Q rest (a.put op.dst (.agg cs.toArray)) w) : wpListIn F nF P ops Q (op :: rest) a w := by
  refine wpListIn_plain hgd fun K' hK' => ?_
  have hrun := run_loadAt_mid (P := P) w b o ty cs d hc hu hd hi
  unfold Oper.wpIn
  refine ⟨by simp [Oper.about, ho], ?_⟩
  rw [Oper.semAt_plain F _ _ (by rw [ho]; intro c hc'; cases hc')]
  simp only [execOp, ho, hx, Sem.run_bind, hrun, Result.andThen_ok]
  exact hK' _ _ h

theorem wpListIn_store_mid {F : Fence} {nF : Nat} {P : Program} {ops : Array Oper} {rest : List Oper} {op : Oper} {a : Act} {w : World} {Q : Exit → Act → World → Prop} (hgd : op.guard = none) (ty : TypeId) (x y : Operand) (ho : op.op = .store ty x y)
    (b o : Nat) (cells : Array Value) (hx : a.eval x = .pointer (some ⟨b, o, none⟩)) (hy : a.eval y = .agg cells) (ht : w.there b o cells.size) (hi : (P.info? ty).map (·.size) = some cells.size) (h1 : cells.all (·.oneCell') = true)
    (h : wpListIn F nF P ops Q rest (a.put op.dst undef) (w.setCells b o cells.toList)) : wpListIn F nF P ops Q (op :: rest) a w := by
  refine wpListIn_plain hgd fun K' hK' => ?_
  have hrun := run_storeAt_mid (P := P) w b o ty cells ht hi h1
  unfold Oper.wpIn
  refine ⟨by simp [Oper.about, ho], ?_⟩
  rw [Oper.semAt_plain F _ _ (by rw [ho]; intro c hc'; cases hc')]
  simp only [execOp, ho, hx, hy, Sem.run_bind, hrun, Result.andThen_ok]
  exact hK' _ _ h

/-- A store that fills a new block. -/
theorem setCells_new (w : World) (t : TypeId) : ∀ (vs : List Value) (o : Nat) (cs : Array Value), o + vs.length ≤ cs.size → (w.alloc (.cells cs t)).setCells w.heap.size o vs = w.alloc (.cells (splice cs.toList o vs).toArray t)
  | [], o, cs, _ => by rw [splice_nil]; simp [World.setCells]
  | v :: vs, o, cs, h => by
    rw [World.setCells, World.setCell_alloc_at cs t _ o v rfl, setCells_new w t vs (o + 1) _ (by simp at h ⊢; omega), Array.toList_setIfInBounds, splice_cons _ _ _ _ (by simpa using h)]

theorem fill_new (w : World) (t : TypeId) (vs : List Value) (cs : Array Value) (h : vs.length = cs.size) : (w.alloc (.cells cs t)).setCells w.heap.size 0 vs = w.alloc (.cells vs.toArray t) := by
  rw [setCells_new w t vs 0 cs (by omega), splice_whole _ _ (by simpa using h)]

theorem wpListIn_fill {F : Fence} {nF : Nat} {P : Program} {ops : Array Oper} {rest : List Oper} {op : Oper} {a : Act} {w0 : World} {cs : Array Value} {t : TypeId} {Q : Exit → Act → World → Prop} (hgd : op.guard = none) (ty : TypeId) (x y : Operand) (ho : op.op = .store ty x y)
    (cells : Array Value) (hx : a.eval x = .pointer (some ⟨w0.heap.size, 0, none⟩)) (hy : a.eval y = .agg cells) (hcs : cells.size = cs.size) (hi : (P.info? ty).map (·.size) = some cells.size) (h1 : cells.all (·.oneCell') = true)
    (h : wpListIn F nF P ops Q rest (a.put op.dst undef) (w0.alloc (.cells cells t))) : wpListIn F nF P ops Q (op :: rest) a (w0.alloc (.cells cs t)) := by
  refine wpListIn_store_mid hgd ty x y ho w0.heap.size 0 cells hx hy (there_new _ _ _ _ hcs.symm) hi h1 ?_
  rw [fill_new w0 t cells.toList cs (by simpa using hcs)]
  simpa using h

theorem rowT_row (rs : List (Int × List Int)) (i : Nat) (hi : i < rs.length) (h : ∀ i, i < rs.length → (pD rs i).length = 64) (j : Nat) (u : Value) (hu : (Value.int .i64 (pB rs i) :: (pD rs i).map (Value.int .u8))[j]? = some u) : (rowT rs)[i * 65 + j]? = some u := by
  cases j with
  | zero => rw [Nat.add_zero, rowT_key rs i hi h]; simpa using hu
  | succ j =>
    rw [List.getElem?_cons_succ] at hu
    rw [show i * 65 + (j + 1) = i * 65 + 1 + j by omega]
    exact rowT_val rs i hi h j u hu

/-- Only blocks below M are asked, and of those not gd. -/
def KB (M gd : Nat) (W W' : World) : Prop := W.heap.size ≤ W'.heap.size ∧ ∀ q, q < M → q ≠ gd → W'.heap[q]? = W.heap[q]?
theorem KB.refl (M gd : Nat) (W : World) : KB M gd W W := ⟨Nat.le_refl _, fun _ _ _ => rfl⟩
theorem KB.trans {M gd : Nat} {A B C : World} (h : KB M gd A B) (k : KB M gd B C) : KB M gd A C := ⟨Nat.le_trans h.1 k.1, fun q hq hn => (k.2 q hq hn).trans (h.2 q hq hn)⟩
theorem KB.alloc {M gd : Nat} {A B : World} (h : KB M gd A B) (hM : M ≤ B.heap.size) (o : Obj) : KB M gd A (B.alloc o) := ⟨by have := h.1; simp; omega, fun q hq hn => (Below.heap_alloc B o q (by omega)).trans (h.2 q hq hn)⟩

/-- A row that fits, as a type. -/
abbrev RowF (dl : Nat) := { r : Int × List Int // Fits dl r }
def encR {dl : Nat} (x : RowF dl) : Array Value := #[.int .i64 x.1.1, .agg (x.1.2.map (Value.int .u8)).toArray]
def rowsF {dl : Nat} (rs : List (Int × List Int)) (h : ∀ r ∈ rs, Fits dl r) : List (RowF dl) := rs.pmap (fun r hr => ⟨r, hr⟩) h

theorem rowsF_map {dl : Nat} (rs : List (Int × List Int)) (h : ∀ r ∈ rs, Fits dl r) : (rowsF rs h).map (·.1) = rs := by
  unfold rowsF
  rw [List.map_pmap]
  simp

set_option maxHeartbeats 400000 in
theorem all_in (F : Fence) (n : Nat) (h87 : F.fn 56) (hro : F.round = none) (p0 : Option Addr) (w : World) :
    CallsIn F n Try.prog 56 #[.pointer p0] w fun e w' => e = .returned (.func (.func 79) #[] #[.pointer (some ⟨w.heap.size, 0, none⟩)]) ∧ w' = w.alloc (.cells #[.pointer p0] 77) := by
  refine callsIn_of_wp Try.func56 rfl h87 ?_ hro
  simp only [Try.ntmps56, List.size_toArray, List.length_cons, List.length_nil, Nat.reduceAdd, Nat.reduceSub, Array.replicate_succ, Array.replicate_zero, List.push_toArray, List.append_toArray, List.nil_append, List.cons_append]
  gi_wp2
  go_ret
  exact ⟨rfl, rfl⟩

theorem Tab.len {w : World} {lo tb mb : Nat} {v : Value} {rs : List (Int × List Int)} (h : Tab w lo tb mb v rs) : rs.length ≤ 9223372036854775807 := by
  rcases h.rows.2 with ⟨-, h1⟩ | ⟨g, cap, cur, -, -, -, h2, h3, -⟩
  · omega
  · unfold maxLen at h3; omega

theorem sizeT (n : Nat) (h : n = 65) : (Try.prog.info? 111).map (·.size) = some n := by subst h; kernel_rfl

set_option maxHeartbeats 2000000 in
set_option maxRecDepth 100000 in
theorem all1_in (F : Fence) (n : Nat) (h97 : F.fn 79) (hro : F.round = none) (hn : 1 ≤ n) (l Ba M gd lo tb mb dl : Nat) (v : Value) (rs : List (Int × List Int)) (hf : ∀ r ∈ rs, Fits dl r) (J Jx : List (RowF dl) → World → Prop)
    (hY : ∀ pre x W, J pre W → pre.length < rs.length → YieldAt F (n - 1) Try.prog l (encR x) W fun e W' =>
      (e = .returned (.bool true) ∧ J (pre ++ [x]) W' ∧ KB M gd W W') ∨ (e = .returned (.bool false) ∧ Jx (pre ++ [x]) W'))
    (W : World) (hJ : AbidesFrom W.heap.size J) (hM : M ≤ W.heap.size) (hvb : ∀ q, v.ownBlock = some q → q < M ∧ q ≠ gd) (hc : W.cell? ⟨Ba, 0, none⟩ = some (.pointer (some ⟨tb, 0, none⟩))) (hT : Tab W lo tb mb v rs) (hlen : rs.length ≤ 9223372036854775807) (h0 : J [] W) :
    CallsIn F n Try.prog 79 #[.func (.yield l) #[] #[], .pointer (some ⟨Ba, 0, none⟩)] W fun e W' => (∃ v, e = .returned v) ∧
      ((∃ ys, ys = rowsF rs hf ∧ J ys W') ∨ (∃ pre, True ∧ Jx pre W')) := by
  obtain ⟨va, vcap, rfl⟩ : ∃ a c, v = .slice a rs.length c := by
    rcases hT.rows.2 with ⟨rfl, h1⟩ | ⟨g, cap, cur, rfl, -⟩
    · exact ⟨none, 0, by rw [h1]⟩
    · exact ⟨_, _, rfl⟩
  have HT : Hid (Tab W lo tb mb (.slice va rs.length vcap) rs) := hT
  obtain ⟨⟨zt, c0, c1⟩, -⟩ := hT.box
  have HY : Hid (∀ pre x W, J pre W → pre.length < rs.length → YieldAt F (n - 1) Try.prog l (encR x) W fun e W' =>
      (e = .returned (.bool true) ∧ J (pre ++ [x]) W' ∧ KB M gd W W') ∨ (e = .returned (.bool false) ∧ Jx (pre ++ [x]) W')) := hY
  have HJ : Hid (AbidesFrom W.heap.size J) := hJ
  have H0 : Hid (J [] W) := h0
  clear hT hY hJ h0
  refine callsIn_of_wp Try.func79 rfl h97 ?_ hro
  simp only [Try.ntmps79, List.size_toArray, List.length_cons, List.length_nil, Nat.reduceAdd, Nat.reduceSub, Array.replicate_succ, Array.replicate_zero, List.push_toArray, List.append_toArray, List.nil_append, List.cons_append]
  gi_wp2
  clear c0 c1 hc
  gi_loopw [10] (fun i wr => ∃ k : Nat, k ≤ rs.length ∧ i = .int .i64 k ∧ Hid (J ((rowsF rs hf).take k) wr) ∧ Hid (KB M gd W wr)) (fun i _ => rs.length - (intOf i).toNat)
  case atStart => exact ⟨0, Nat.zero_le _, rfl, (by rw [List.take_zero]; exact H0.out), KB.refl _ _ _⟩
  case round =>
    obtain ⟨k, hk, rfl, HJk, HG⟩ := hrel
    have hlF : (rowsF rs hf).length = rs.length := by unfold rowsF; simp
    have HLF : Hid ((rowsF rs hf).length = rs.length) := hlF
    have sg := HG.out.1
    clear hlF
    by_cases hlt : k < rs.length
    · obtain ⟨g, cap, e, hg1, hg2, hc1, hc2⟩ := HT.out.form (by omega)
      simp only [Value.slice.injEq, true_and] at e
      obtain ⟨rfl, rfl⟩ := e
      obtain ⟨hgM, hgd⟩ := hvb g rfl
      obtain ⟨key, hkey⟩ : ∃ key, key = pB rs k := ⟨_, rfl⟩
      obtain ⟨V, hV⟩ : ∃ V, V = (pD rs k).map (Value.int .u8) := ⟨_, rfl⟩
      obtain ⟨x, hx⟩ : ∃ x, (rowsF rs hf)[k]? = some x := ⟨_, List.getElem?_eq_getElem (by rw [HLF.out]; exact hlt)⟩
      have hx1 : x.1 = (pB rs k, pD rs k) := by
        have h1 : ((rowsF rs hf).map (·.1))[k]? = some x.1 := by rw [List.getElem?_map, hx]; rfl
        rw [rowsF_map, List.getElem?_eq_getElem hlt] at h1
        injection h1 with h1
        rw [← h1]; unfold pB pD; simp [List.getD, hlt]
      have HTK : Hid ((rowsF rs hf).take (k + 1) = (rowsF rs hf).take k ++ [x]) := by show _ = _; rw [List.take_add_one, hx]; rfl
      have henc : encR x = #[.int .i64 key, .agg V.toArray] := by unfold encR; rw [hx1, hkey, hV]
      have HVL : Hid (V.length = 64) := by rw [hV]; show _ = _; rw [List.length_map]; exact HT.out.full k hlt
      have HV1 : Hid (∀ v ∈ V, v.oneCell' = true) := by rw [hV]; exact ints_oneCell _ _
      have RW : Hid (wr.rangeAt g (k * 65) (Value.int .i64 key :: V)) := by
        intro j u hu
        rw [hkey, hV] at hu
        have hj : j < 65 := by have := (List.getElem?_eq_some_iff.1 hu).1; simpa [HT.out.full k hlt] using this
        rw [World.cell?_of_block (w := W) (a := ⟨g, k * 65 + j, none⟩) (HG.out.2 g hgM hgd), World.ownsRow.cellAt HT.out.rows (k * 65 + j) (by omega)]
        exact rowT_row rs k hlt HT.out.full j u hu
      have H65 : Hid ((Value.int .i64 key :: V).length = 65) := by show _ = _; rw [List.length_cons, HVL.out]
      have H651 : Hid (∀ u ∈ (Value.int .i64 key :: V), u.oneCell' = true) := by
        intro u hu
        rcases List.mem_cons.1 hu with rfl | hu
        · rfl
        · exact HV1.out u hu
      have JA : J ((rowsF rs hf).take k) (wr.alloc (.cells (Value.int .i64 key :: V).toArray 111)) := HJ.out _ wr _ none HJk.out (World.grownBy_alloc _ _ _) (fun r e => by cases e)
      have hYx := HY.out _ x _ JA (by rw [List.length_take, HLF.out]; omega)
      rw [henc] at hYx
      have R2 : Hid ((wr.alloc (.cells (Value.int .i64 key :: V).toArray 111)).rangeAt wr.heap.size 1 V) := by
        intro j u hu
        rw [cell_of_row _ _ (1 + j) _ _ _ (heap_alloc_new wr _)]
        rw [show 1 + j = j + 1 by omega]
        simpa using hu
      have hltI : (k : Int) < (rs.length : Int) := by omega
      unfold maxLen at hc2
      obtain ⟨fn, tmps, assign, body, hy, hR⟩ := hYx
      clear hkey hV hx hx1 henc JA
      gi_wp2_with (first | (refine wpListIn_load_mid rfl 111 _ rfl g (k * 65) rfl (Value.int .i64 key :: V) _ (World.rangeAt_alloc RW.out _) Try.underlying111 rfl (sizeT _ H65.out) ?_) | (refine wpListIn_load_mid rfl 111 _ rfl g (k * 65) rfl (Value.int .i64 key :: V) _ RW.out Try.underlying111 rfl (sizeT _ H65.out) ?_) | (refine wpListIn_fill rfl 111 _ _ rfl (Value.int .i64 key :: V).toArray rfl rfl ?s1 ?s2 ?s3 ?_) | (refine wpListIn_load_mid rfl 75 _ rfl wr.heap.size 1 rfl V _ R2.out Try.underlying75 rfl (sizeA _ HVL.out) ?_))
      case s1 => rw [List.size_toArray, H65.out]; rfl
      case s2 => rw [List.size_toArray]; exact sizeT _ H65.out
      case s3 => exact all_oneCell_toArray H651.out
      refine hR.mono ?_
      rintro e W3 (⟨rfl, hJ3, hk3⟩ | ⟨rfl, hJx3⟩)
      · have HJ3 : Hid (J ((rowsF rs hf).take (k + 1)) W3) := by show J _ _; rw [HTK.out]; exact hJ3
        have HG3 : Hid (KB M gd W W3) := (HG.out.alloc (by omega) _).trans hk3
        clear hJ3 hk3 hy hR
        gi_wp2
        go_roundw
        case rel => exact ⟨k + 1, by omega, by go_num, HJ3, HG3⟩
        case measure => simp [intOf]; omega
      · gi_wp2
        refine bodyPost_ret (results_none rfl _ _ _) rfl ?_
        exact ⟨⟨_, rfl⟩, .inr ⟨_, trivial, hJx3⟩⟩
    · have hkn : k = rs.length := by omega
      subst hkn
      gi_wp2
      go_end0
      exact ⟨⟨_, rfl⟩, .inl ⟨_, rfl, by have := HJk.out; rw [List.take_of_length_le (by rw [HLF.out]; exact Nat.le_refl _)] at this; exact this⟩⟩

theorem all_stops (F : Fence) (n : Nat) (h97 : F.fn 79) (hro : F.round = none) (hn : 1 ≤ n) (Ba M gd lo tb mb dl : Nat) (v : Value) (rs : List (Int × List Int)) (hf : ∀ r ∈ rs, Fits dl r)
    (w : World) (hM : M ≤ w.heap.size) (hBa : Ba < w.heap.size) (hvb : ∀ q, v.ownBlock = some q → q < M ∧ q ≠ gd) (hc : w.cell? ⟨Ba, 0, none⟩ = some (.pointer (some ⟨tb, 0, none⟩))) (hT : Tab w lo tb mb v rs) (hlen : rs.length ≤ 9223372036854775807) :
    SeqStopsK F n Try.prog 79 #[.pointer (some ⟨Ba, 0, none⟩)] (encR (dl := dl)) (KB M gd) (fun ys => ys = rowsF rs hf) (fun _ => True) rs.length w := fun l J Jx W hW hJ _ hY h0 =>
  all1_in F n h97 hro hn l Ba M gd lo tb mb dl v rs hf J Jx hY W hJ (Nat.le_trans hM hW.size) hvb ((hW.cell (p := ⟨Ba, 0, none⟩) hBa).trans hc) (hT.below hW) hlen h0

end Go.Proofs.Ytoljmlhnbmeloaa
