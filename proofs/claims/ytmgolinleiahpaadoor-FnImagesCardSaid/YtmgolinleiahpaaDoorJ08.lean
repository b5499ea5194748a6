import Derived.Test.YtmgolinleiahpaaDoorJ07
import Derived.RangeFuncNested
import Derived.RangeFuncLeaves
import Derived.Shelf.Abstract
import Derived.OwnWalkIn
import Derived.TacticsInMore
import Derived.LoopNIn
import Derived.LoopIn
import Derived.Deep.RegionHeld3
import Derived.Test.YtmgolinleiahpaaDoorJ01
import Derived.Test.YtmgolinleiahpaaDoorChecked
import Derived.Deep.QuietTactic
import Derived.BigQuiet
import Derived.Deep.RegionWith
import Derived.Test.YtmgolinleiahpaaDoorJ05
namespace Go.Proofs.YtmgolinleiahpaaDoor
open Go.RowKit Go.Shelf

attribute [local go_sem] Oper.semAt_some

theorem wpListIn_load_mid {F : Fence} {nF : Nat} {P : Program} {ops : Array Oper} {rest : List Oper} {op : Oper} {a : Act} {w : World} {Q : Exit → Act → World → Prop} (hgd : op.guard = none) (ty : TypeId) (x : Operand) (ho : op.op = .load ty x)
    (b o : Nat) (hx : a.eval x = .pointer (some ⟨b, o, none⟩)) (cs : List Value) (d : TypeDesc) (hc : w.rangeAt b o cs) (hu : P.underlying ty = some d) (hd : d.isRow = true) (hi : (P.info? ty).map (·.size) = some cs.length)
    (h : wpListIn F nF P ops Q rest (a.put op.dst (.agg cs.toArray)) w) : wpListIn F nF P ops Q (op :: rest) a w := by
  refine wpListIn_plain hgd fun K' hK' => ?_
  have hrun := run_loadAt_mid (P := P) w b o ty cs d hc hu hd hi
  unfold Oper.wpIn
  refine ⟨by simp [Oper.about, ho], ?_⟩
  rw [Oper.semAt_plain F _ _ (by rw [ho]; intro c hc'; cases hc')]
  simp only [execOp, ho, hx, Sem.run_bind, hrun, Result.andThen_ok]
  exact hK' _ _ h

theorem wpListIn_store_mid {F : Fence} {nF : Nat} {P : Program} {ops : Array Oper} {rest : List Oper} {op : Oper} {a : Act} {w : World} {Q : Exit → Act → World → Prop} (hgd : op.guard = none) (ty : TypeId) (x y : Operand) (ho : op.op = .store ty x y)
    (b o : Nat) (cells : Array Value) (hx : a.eval x = .pointer (some ⟨b, o, none⟩)) (hy : a.eval y = .agg cells) (ht : w.there b o cells.size) (hi : (P.info? ty).map (·.size) = some cells.size) (h1 : cells.all (·.oneCell') = true)
    (h : wpListIn F nF P ops Q rest (a.put op.dst undef) (w.setCells b o cells.toList)) : wpListIn F nF P ops Q (op :: rest) a w := by
  refine wpListIn_plain hgd fun K' hK' => ?_
  have hrun := run_storeAt_mid (P := P) w b o ty cells ht hi h1
  unfold Oper.wpIn
  refine ⟨by simp [Oper.about, ho], ?_⟩
  rw [Oper.semAt_plain F _ _ (by rw [ho]; intro c hc'; cases hc')]
  simp only [execOp, ho, hx, hy, Sem.run_bind, hrun, Result.andThen_ok]
  exact hK' _ _ h

/-- A store that fills a new block. -/
theorem setCells_new (w : World) (t : TypeId) : ∀ (vs : List Value) (o : Nat) (cs : Array Value), o + vs.length ≤ cs.size → (w.alloc (.cells cs t)).setCells w.heap.size o vs = w.alloc (.cells (splice cs.toList o vs).toArray t)
  | [], o, cs, _ => by rw [splice_nil]; simp [World.setCells]
  | v :: vs, o, cs, h => by
    rw [World.setCells, World.setCell_alloc_at cs t _ o v rfl, setCells_new w t vs (o + 1) _ (by simp at h ⊢; omega), Array.toList_setIfInBounds, splice_cons _ _ _ _ (by simpa using h)]

theorem fill_new (w : World) (t : TypeId) (vs : List Value) (cs : Array Value) (h : vs.length = cs.size) : (w.alloc (.cells cs t)).setCells w.heap.size 0 vs = w.alloc (.cells vs.toArray t) := by
  rw [setCells_new w t vs 0 cs (by omega), splice_whole _ _ (by simpa using h)]

theorem wpListIn_fill {F : Fence} {nF : Nat} {P : Program} {ops : Array Oper} {rest : List Oper} {op : Oper} {a : Act} {w0 : World} {cs : Array Value} {t : TypeId} {Q : Exit → Act → World → Prop} (hgd : op.guard = none) (ty : TypeId) (x y : Operand) (ho : op.op = .store ty x y)
    (cells : Array Value) (hx : a.eval x = .pointer (some ⟨w0.heap.size, 0, none⟩)) (hy : a.eval y = .agg cells) (hcs : cells.size = cs.size) (hi : (P.info? ty).map (·.size) = some cells.size) (h1 : cells.all (·.oneCell') = true)
    (h : wpListIn F nF P ops Q rest (a.put op.dst undef) (w0.alloc (.cells cells t))) : wpListIn F nF P ops Q (op :: rest) a (w0.alloc (.cells cs t)) := by
  refine wpListIn_store_mid hgd ty x y ho w0.heap.size 0 cells hx hy (there_new _ _ _ _ hcs.symm) hi h1 ?_
  rw [fill_new w0 t cells.toList cs (by simpa using hcs)]
  simpa using h

theorem rowT_row (rs : List (Int × List Int)) (i : Nat) (hi : i < rs.length) (h : ∀ i, i < rs.length → (pD rs i).length = 64) (j : Nat) (u : Value) (hu : (Value.int .i64 (pB rs i) :: (pD rs i).map (Value.int .u8))[j]? = some u) : (rowT rs)[i * 65 + j]? = some u := by
  cases j with
  | zero => rw [Nat.add_zero, rowT_key rs i hi h]; simpa using hu
  | succ j =>
    rw [List.getElem?_cons_succ] at hu
    rw [show i * 65 + (j + 1) = i * 65 + 1 + j by omega]
    exact rowT_val rs i hi h j u hu

/-- Only blocks below M are asked, and of those not gd. -/
def KB (M gd : Nat) (W W' : World) : Prop := W.heap.size ≤ W'.heap.size ∧ ∀ q, q < M → q ≠ gd → W'.heap[q]? = W.heap[q]?
theorem KB.refl (M gd : Nat) (W : World) : KB M gd W W := ⟨Nat.le_refl _, fun _ _ _ => rfl⟩
theorem KB.trans {M gd : Nat} {A B C : World} (h : KB M gd A B) (k : KB M gd B C) : KB M gd A C := ⟨Nat.le_trans h.1 k.1, fun q hq hn => (k.2 q hq hn).trans (h.2 q hq hn)⟩
theorem KB.alloc {M gd : Nat} {A B : World} (h : KB M gd A B) (hM : M ≤ B.heap.size) (o : Obj) : KB M gd A (B.alloc o) := ⟨by have := h.1; simp; omega, fun q hq hn => (Below.heap_alloc B o q (by omega)).trans (h.2 q hq hn)⟩

/-- A row that fits, as a type. -/
abbrev RowF (dl : Nat) := { r : Int × List Int // Fits dl r }
def encR {dl : Nat} (x : RowF dl) : Array Value := #[.int .i64 x.1.1, .agg (x.1.2.map (Value.int .u8)).toArray]
def rowsF {dl : Nat} (rs : List (Int × List Int)) (h : ∀ r ∈ rs, Fits dl r) : List (RowF dl) := rs.pmap (fun r hr => ⟨r, hr⟩) h

theorem rowsF_map {dl : Nat} (rs : List (Int × List Int)) (h : ∀ r ∈ rs, Fits dl r) : (rowsF rs h).map (·.1) = rs := by
  unfold rowsF
  rw [List.map_pmap]
  simp

set_option maxHeartbeats 400000 in
theorem all_in (F : Fence) (n : Nat) (h87 : F.fn 136) (hro : F.round = none) (p0 : Option Addr) (w : World) :
    CallsIn F n Tryd.prog 136 #[.pointer p0] w fun e w' => e = .returned (.func (.func 154) #[] #[.pointer (some ⟨w.heap.size, 0, none⟩)]) ∧ w' = w.alloc (.cells #[.pointer p0] 196) := by
  refine callsIn_of_wp Tryd.func136 rfl h87 ?_ hro
  simp only [Tryd.ntmps136, List.size_toArray, List.length_cons, List.length_nil, Nat.reduceAdd, Nat.reduceSub, Array.replicate_succ, Array.replicate_zero, List.push_toArray, List.append_toArray, List.nil_append, List.cons_append]
  gi_wp2
  go_ret
  exact ⟨rfl, rfl⟩

theorem Tab.len {w : World} {lo tb mb : Nat} {v : Value} {rs : List (Int × List Int)} (h : Tab w lo tb mb v rs) : rs.length ≤ 9223372036854775807 := by
  rcases h.rows.2 with ⟨-, h1⟩ | ⟨g, cap, cur, -, -, -, h2, h3, -⟩
  · omega
  · unfold maxLen at h3; omega

theorem sizeT (n : Nat) (h : n = 65) : (Tryd.prog.info? 221).map (·.size) = some n := by subst h; kernel_rfl

set_option maxHeartbeats 2000000 in
set_option maxRecDepth 100000 in
theorem all1_in (F : Fence) (n : Nat) (h97 : F.fn 154) (hro : F.round = none) (hn : 1 ≤ n) (l Ba M gd lo tb mb dl : Nat) (v : Value) (rs : List (Int × List Int)) (hf : ∀ r ∈ rs, Fits dl r) (J Jx : List (RowF dl) → World → Prop)
    (hY : ∀ pre x W, J pre W → pre.length < rs.length → YieldAt F (n - 1) Tryd.prog l (encR x) W fun e W' =>
      (e = .returned (.bool true) ∧ J (pre ++ [x]) W' ∧ KB M gd W W') ∨ (e = .returned (.bool false) ∧ Jx (pre ++ [x]) W'))
    (W : World) (hJ : AbidesFrom W.heap.size J) (hM : M ≤ W.heap.size) (hvb : ∀ q, v.ownBlock = some q → q < M ∧ q ≠ gd) (hc : W.cell? ⟨Ba, 0, none⟩ = some (.pointer (some ⟨tb, 0, none⟩))) (hT : Tab W lo tb mb v rs) (hlen : rs.length ≤ 9223372036854775807) (h0 : J [] W) :
    CallsIn F n Tryd.prog 154 #[.func (.yield l) #[] #[], .pointer (some ⟨Ba, 0, none⟩)] W fun e W' => (∃ v, e = .returned v) ∧
      ((∃ ys, ys = rowsF rs hf ∧ J ys W') ∨ (∃ pre, True ∧ Jx pre W')) := by
  obtain ⟨va, vcap, rfl⟩ : ∃ a c, v = .slice a rs.length c := by
    rcases hT.rows.2 with ⟨rfl, h1⟩ | ⟨g, cap, cur, rfl, -⟩
    · exact ⟨none, 0, by rw [h1]⟩
    · exact ⟨_, _, rfl⟩
  have HT : Hid (Tab W lo tb mb (.slice va rs.length vcap) rs) := hT
  obtain ⟨⟨zt, c0, c1⟩, -⟩ := hT.box
  have HY : Hid (∀ pre x W, J pre W → pre.length < rs.length → YieldAt F (n - 1) Tryd.prog l (encR x) W fun e W' =>
      (e = .returned (.bool true) ∧ J (pre ++ [x]) W' ∧ KB M gd W W') ∨ (e = .returned (.bool false) ∧ Jx (pre ++ [x]) W')) := hY
  have HJ : Hid (AbidesFrom W.heap.size J) := hJ
  have H0 : Hid (J [] W) := h0
  clear hT hY hJ h0
  refine callsIn_of_wp Tryd.func154 rfl h97 ?_ hro
  simp only [Tryd.ntmps154, List.size_toArray, List.length_cons, List.length_nil, Nat.reduceAdd, Nat.reduceSub, Array.replicate_succ, Array.replicate_zero, List.push_toArray, List.append_toArray, List.nil_append, List.cons_append]
  gi_wp2
  clear c0 c1 hc
  gi_loopw [10] (fun i wr => ∃ k : Nat, k ≤ rs.length ∧ i = .int .i64 k ∧ Hid (J ((rowsF rs hf).take k) wr) ∧ Hid (KB M gd W wr)) (fun i _ => rs.length - (intOf i).toNat)
  case atStart => exact ⟨0, Nat.zero_le _, rfl, (by rw [List.take_zero]; exact H0.out), KB.refl _ _ _⟩
  case round =>
    obtain ⟨k, hk, rfl, HJk, HG⟩ := hrel
    have hlF : (rowsF rs hf).length = rs.length := by unfold rowsF; simp
    have HLF : Hid ((rowsF rs hf).length = rs.length) := hlF
    have sg := HG.out.1
    clear hlF
    by_cases hlt : k < rs.length
    · obtain ⟨g, cap, e, hg1, hg2, hc1, hc2⟩ := HT.out.form (by omega)
      simp only [Value.slice.injEq, true_and] at e
      obtain ⟨rfl, rfl⟩ := e
      obtain ⟨hgM, hgd⟩ := hvb g rfl
      obtain ⟨key, hkey⟩ : ∃ key, key = pB rs k := ⟨_, rfl⟩
      obtain ⟨V, hV⟩ : ∃ V, V = (pD rs k).map (Value.int .u8) := ⟨_, rfl⟩
      obtain ⟨x, hx⟩ : ∃ x, (rowsF rs hf)[k]? = some x := ⟨_, List.getElem?_eq_getElem (by rw [HLF.out]; exact hlt)⟩
      have hx1 : x.1 = (pB rs k, pD rs k) := by
        have h1 : ((rowsF rs hf).map (·.1))[k]? = some x.1 := by rw [List.getElem?_map, hx]; rfl
        rw [rowsF_map, List.getElem?_eq_getElem hlt] at h1
        injection h1 with h1
        rw [← h1]; unfold pB pD; simp [List.getD, hlt]
      have HTK : Hid ((rowsF rs hf).take (k + 1) = (rowsF rs hf).take k ++ [x]) := by show _ = _; rw [List.take_add_one, hx]; rfl
      have henc : encR x = #[.int .i64 key, .agg V.toArray] := by unfold encR; rw [hx1, hkey, hV]
      have HVL : Hid (V.length = 64) := by rw [hV]; show _ = _; rw [List.length_map]; exact HT.out.full k hlt
      have HV1 : Hid (∀ v ∈ V, v.oneCell' = true) := by rw [hV]; exact ints_oneCell _ _
      have RW : Hid (wr.rangeAt g (k * 65) (Value.int .i64 key :: V)) := by
        intro j u hu
        rw [hkey, hV] at hu
        have hj : j < 65 := by have := (List.getElem?_eq_some_iff.1 hu).1; simpa [HT.out.full k hlt] using this
        rw [World.cell?_of_block (w := W) (a := ⟨g, k * 65 + j, none⟩) (HG.out.2 g hgM hgd), World.ownsRow.cellAt HT.out.rows (k * 65 + j) (by omega)]
        exact rowT_row rs k hlt HT.out.full j u hu
      have H65 : Hid ((Value.int .i64 key :: V).length = 65) := by show _ = _; rw [List.length_cons, HVL.out]
      have H651 : Hid (∀ u ∈ (Value.int .i64 key :: V), u.oneCell' = true) := by
        intro u hu
        rcases List.mem_cons.1 hu with rfl | hu
        · rfl
        · exact HV1.out u hu
      have JA : J ((rowsF rs hf).take k) (wr.alloc (.cells (Value.int .i64 key :: V).toArray 221)) := HJ.out _ wr _ none HJk.out (World.grownBy_alloc _ _ _) (fun r e => by cases e)
      have hYx := HY.out _ x _ JA (by rw [List.length_take, HLF.out]; omega)
      rw [henc] at hYx
      have R2 : Hid ((wr.alloc (.cells (Value.int .i64 key :: V).toArray 221)).rangeAt wr.heap.size 1 V) := by
        intro j u hu
        rw [cell_of_row _ _ (1 + j) _ _ _ (heap_alloc_new wr _)]
        rw [show 1 + j = j + 1 by omega]
        simpa using hu
      have hltI : (k : Int) < (rs.length : Int) := by omega
      unfold maxLen at hc2
      obtain ⟨fn, tmps, assign, body, hy, hR⟩ := hYx
      clear hkey hV hx hx1 henc JA
      gi_wp2_with (first | (refine wpListIn_load_mid rfl 221 _ rfl g (k * 65) rfl (Value.int .i64 key :: V) _ (World.rangeAt_alloc RW.out _) Tryd.underlying221 rfl (sizeT _ H65.out) ?_) | (refine wpListIn_load_mid rfl 221 _ rfl g (k * 65) rfl (Value.int .i64 key :: V) _ RW.out Tryd.underlying221 rfl (sizeT _ H65.out) ?_) | (refine wpListIn_fill rfl 221 _ _ rfl (Value.int .i64 key :: V).toArray rfl rfl ?s1 ?s2 ?s3 ?_) | (refine wpListIn_load_mid rfl 77 _ rfl wr.heap.size 1 rfl V _ R2.out Tryd.underlying77 rfl (sizeA _ HVL.out) ?_))
      case s1 => rw [List.size_toArray, H65.out]; rfl
      case s2 => rw [List.size_toArray]; exact sizeT _ H65.out
      case s3 => exact all_oneCell_toArray H651.out
      refine hR.mono ?_
      rintro e W3 (⟨rfl, hJ3, hk3⟩ | ⟨rfl, hJx3⟩)
      · have HJ3 : Hid (J ((rowsF rs hf).take (k + 1)) W3) := by show J _ _; rw [HTK.out]; exact hJ3
        have HG3 : Hid (KB M gd W W3) := (HG.out.alloc (by omega) _).trans hk3
        clear hJ3 hk3 hy hR
        gi_wp2
        go_roundw
        case rel => exact ⟨k + 1, by omega, by go_num, HJ3, HG3⟩
        case measure => simp [intOf]; omega
      · gi_wp2
        refine bodyPost_ret (results_none rfl _ _ _) rfl ?_
        exact ⟨⟨_, rfl⟩, .inr ⟨_, trivial, hJx3⟩⟩
    · have hkn : k = rs.length := by omega
      subst hkn
      gi_wp2
      go_end0
      exact ⟨⟨_, rfl⟩, .inl ⟨_, rfl, by have := HJk.out; rw [List.take_of_length_le (by rw [HLF.out]; exact Nat.le_refl _)] at this; exact this⟩⟩

theorem all_stops (F : Fence) (n : Nat) (h97 : F.fn 154) (hro : F.round = none) (hn : 1 ≤ n) (Ba M gd lo tb mb dl : Nat) (v : Value) (rs : List (Int × List Int)) (hf : ∀ r ∈ rs, Fits dl r)
    (w : World) (hM : M ≤ w.heap.size) (hBa : Ba < w.heap.size) (hvb : ∀ q, v.ownBlock = some q → q < M ∧ q ≠ gd) (hc : w.cell? ⟨Ba, 0, none⟩ = some (.pointer (some ⟨tb, 0, none⟩))) (hT : Tab w lo tb mb v rs) (hlen : rs.length ≤ 9223372036854775807) :
    SeqStopsK F n Tryd.prog 154 #[.pointer (some ⟨Ba, 0, none⟩)] (encR (dl := dl)) (KB M gd) (fun ys => ys = rowsF rs hf) (fun _ => True) rs.length w := fun l J Jx W hW hJ _ hY h0 =>
  all1_in F n h97 hro hn l Ba M gd lo tb mb dl v rs hf J Jx hY W hJ (Nat.le_trans hM hW.size) hvb ((hW.cell (p := ⟨Ba, 0, none⟩) hBa).trans hc) (hT.below hW) hlen h0

end Go.Proofs.YtmgolinleiahpaaDoor

namespace Go.Proofs.YtmgolinleiahpaaDoor
open Go.RowKit Go.Shelf

attribute [local go_sem] Oper.semAt_some

set_option maxHeartbeats 2000000 in
set_option maxRecDepth 100000 in
theorem implSync_yes (w : World) (va vb : Option Addr) (dl ca n cb : Nat) (dur : List Int) (ps : List (Int × List Int)) (hd : Rd .u8 w (.slice va dl ca) dur) (hdl : dur.length = dl) (hp : RdW w (.slice vb n cb) ps) (hl : ps.length = n)
    (hv : vldD dl ps = true) (hd1 : dl ≤ 1048576) (hpd : ∀ i, (pD ps i).length ≤ 1048576) :
    Calls Tryd.prog 102 #[.agg #[.slice va dl ca, .slice vb n cb]] w fun e w' => ∃ v1, e = .returned (.agg #[v1, .slice none 0 0]) ∧ Own .u8 5 w' w.heap.size v1 (stl dur ps (fun _ => 64) n) ∧ Below w.heap.size w w' := by
  have HD : Hid (Rd .u8 w (.slice va dl ca) dur) := hd
  have HP : Hid (RdW w (.slice vb n cb) ps) := hp
  have HL : Hid (ps.length = n) := hl
  have HDL : Hid (dur.length = dl) := hdl
  have HV : Hid (vldD dl ps = true) := hv
  have HPD : Hid (∀ i, (pD ps i).length ≤ 1048576) := hpd
  have hdp : 0 < dl := by have := ((vldD_iff dl ps).1 hv).2.1; omega
  have hn2 : n ≤ 2000 := by have := ((vldD_iff dl ps).1 hv).2.2.2.1; omega
  have BA : Hid (∀ o1 o2, Below w.heap.size w ((w.alloc o1).alloc o2)) := fun o1 o2 => ((Below.refl _ _).alloc (Nat.le_refl _) _).alloc (by simp) _
  clear hd hp hl hdl hv hpd
  refine (callsIn_wide (n := 6)).1 ?_
  refine callsIn_of_wp_marks Tryd.func102 rfl trivial ?_ rfl
  simp only [Tryd.ntmps102, List.size_toArray, List.length_cons, List.length_nil, Nat.reduceAdd, Nat.reduceSub, Array.replicate_succ, Array.replicate_zero, List.push_toArray, List.append_toArray, List.nil_append, List.cons_append]
  gi_wp2_with fail
  refine ⟨trivial, ?_⟩
  have XA0 : Hid (BoxF ((w.alloc (.cells #[.slice va dl ca, .slice vb n cb] 27)).alloc (.cells #[.slice none 0 0, .slice none 0 0] 27)) w.heap.size (.slice va dl ca) (.slice vb n cb)) := (BoxF.new w _ _ _).below ((Below.refl _ _).alloc (Nat.le_refl _) _)
  have XR0 : Hid (BoxF ((w.alloc (.cells #[.slice va dl ca, .slice vb n cb] 27)).alloc (.cells #[.slice none 0 0, .slice none 0 0] 27)) (w.heap.size + 1) (.slice none 0 0) (.slice none 0 0)) := by
    have := BoxF.new (w.alloc (.cells #[.slice va dl ca, .slice vb n cb] 27)) (.slice none 0 0) (.slice none 0 0) 27
    show BoxF _ _ _ _
    simpa using this
  have B0 := BA.out (.cells #[.slice va dl ca, .slice vb n cb] 27) (.cells #[.slice none 0 0, .slice none 0 0] 27)
  have HB0 : Hid (Below w.heap.size w ((w.alloc (.cells #[.slice va dl ca, .slice vb n cb] 27)).alloc (.cells #[.slice none 0 0, .slice none 0 0] 27))) := B0
  clear B0 BA
  generalize (w.alloc (.cells #[.slice va dl ca, .slice vb n cb] 27)).alloc (.cells #[.slice none 0 0, .slice none 0 0] 27) = w0 at *
  refine (callsIn_wide.2 (implValid_any _ va vb dl ca n cb ps (HP.out.below HB0.out) HL.out hd1 (by omega) HPD.out)).mono ?_
  rintro e w1 ⟨rfl, b1⟩
  rw [HV.out]
  have HB1 : Hid (Below w.heap.size w w1) := HB0.out.trans (b1.mono HB0.out.size)
  have XA1 : Hid (BoxF w1 w.heap.size (.slice va dl ca) (.slice vb n cb)) := XA0.out.below b1
  have XR1 : Hid (BoxF w1 (w.heap.size + 1) (.slice none 0 0) (.slice none 0 0)) := XR0.out.below b1
  have s1 := HB1.out.size
  have zA1 := XA1.out.1.1
  have zR1 := XR1.out.1.1
  clear b1 XA0 XR0 HB0
  obtain ⟨⟨z1, c0, c1⟩, -⟩ := XA1.out
  gi_wp2_with fail
  refine ⟨trivial, ?_⟩
  refine (callsIn_wide.2 (clone_any _ _ dur (HD.out.below HB1.out) (by have := HDL.out; omega))).mono ?_
  rintro e w2 ⟨v2, rfl, o2, b2⟩
  obtain ⟨g, cap, rfl, hg0, hg1⟩ := o2.pos HDL.out hdp
  have O2 : Hid (Own .u8 5 w2 w1.heap.size (.slice (some ⟨g, 0, none⟩) dl cap) dur) := o2
  have HB2 : Hid (Below w.heap.size w w2) := HB1.out.trans (b2.mono s1)
  have XA2 : Hid (BoxF w2 w.heap.size (.slice va dl ca) (.slice vb n cb)) := XA1.out.below b2
  have XR2 : Hid (BoxF w2 (w.heap.size + 1) (.slice none 0 0) (.slice none 0 0)) := XR1.out.below b2
  have s2 := HB2.out.size
  clear o2 b2 XA1 XR1 HB1 z1 c0 c1
  obtain ⟨⟨z1, c0, c1⟩, -⟩ := XA2.out
  gi_wp2_with fail
  refine ⟨trivial, ?_⟩
  have BA3 : Hid (Below w2.heap.size w2 (w2.alloc (.cells #[.slice (some ⟨g, 0, none⟩) dl cap] 24))) := (Below.refl _ _).alloc (Nat.le_refl _) _
  have BX3 : Hid (Boxed (w2.alloc (.cells #[.slice (some ⟨g, 0, none⟩) dl cap] 24)) w2.heap.size 24 (.slice (some ⟨g, 0, none⟩) dl cap)) := Boxed.new _ _ _
  have s3 : (w2.alloc (.cells #[.slice (some ⟨g, 0, none⟩) dl cap] 24)).heap.size = w2.heap.size + 1 := by simp
  clear z1 c0 c1
  generalize w2.alloc (.cells #[.slice (some ⟨g, 0, none⟩) dl cap] 24) = w3 at *
  have O3 : Hid (Own .u8 5 w3 w1.heap.size (.slice (some ⟨g, 0, none⟩) dl cap) dur) := O2.out.below BA3.out
  have HB3 : Hid (Below w.heap.size w w3) := HB2.out.trans (BA3.out.mono s2)
  have XR3 : Hid (BoxF w3 (w.heap.size + 1) (.slice none 0 0) (.slice none 0 0)) := XR2.out.below BA3.out
  clear O2 HB2 XA2 XR2 BA3
  refine (callsIn_wide.2 (youngest_any w3 va vb dl ca n cb dur ps HDL.out (HP.out.below HB3.out) HL.out HV.out)).mono ?_
  rintro e w4 ⟨rfl, ⟨tv, rs, ht, hof⟩, b4⟩
  have O4 : Hid (Own .u8 5 w4 w1.heap.size (.slice (some ⟨g, 0, none⟩) dl cap) dur) := O3.out.below b4
  have HB4 : Hid (Below w.heap.size w w4) := HB3.out.trans (b4.mono (by omega))
  have XR4 : Hid (BoxF w4 (w.heap.size + 1) (.slice none 0 0) (.slice none 0 0)) := XR3.out.below b4
  have BX4 : Hid (Boxed w4 w2.heap.size 24 (.slice (some ⟨g, 0, none⟩) dl cap)) := (b4.block w2.heap.size (by omega)).trans BX3.out
  have HT4 : Hid (Tab w4 (w3.heap.size + 1) (w3.heap.size + 2) (w3.heap.size + 1) tv rs) := ht
  have HOF : Hid (TabOf dur ps n rs) := hof
  have s4 := ht.box.1.1
  clear b4 O3 HB3 XR3 BX3 ht hof
  gi_wp2_with fail
  refine ⟨trivial, ?_⟩
  refine (all_in Fence.wide _ trivial rfl _ _).mono ?_
  rintro e w5 ⟨rfl, hw5⟩
  have s5 : w5.heap.size = w4.heap.size + 1 := by rw [hw5]; simp
  have b5 : Below w4.heap.size w4 w5 := by rw [hw5]; exact (Below.refl _ _).alloc (Nat.le_refl _) _
  have BX5a : Hid (w5.cell? ⟨w4.heap.size, 0, none⟩ = some (.pointer (some ⟨w3.heap.size + 2, 0, none⟩))) := by rw [hw5]; show _ = _; simp
  have O5 : Hid (Own .u8 5 w5 w1.heap.size (.slice (some ⟨g, 0, none⟩) dl cap) dur) := O4.out.below b5
  have HB5 : Hid (Below w.heap.size w w5) := HB4.out.trans (b5.mono (by omega))
  have XR5 : Hid (BoxF w5 (w.heap.size + 1) (.slice none 0 0) (.slice none 0 0)) := XR4.out.below b5
  have BX5 : Hid (Boxed w5 w2.heap.size 24 (.slice (some ⟨g, 0, none⟩) dl cap)) := (b5.block w2.heap.size (by omega)).trans BX4.out
  have HT5 : Hid (Tab w5 (w3.heap.size + 1) (w3.heap.size + 2) (w3.heap.size + 1) tv rs) := HT4.out.below b5
  clear hw5 b5 O4 HB4 XR4 BX4 HT4
  gi_wp2_with fail
  have hfit : ∀ r ∈ rs, Fits dl r := fits_of dl rs (fun i hi => by have := HOF.out.2 i hi; rw [HDL.out] at this; exact this) HT5.out.full
  have hvb : ∀ q, tv.ownBlock = some q → q < w5.heap.size ∧ q ≠ g := fun q hq => by have := World.ownsRow.lt HT5.out.rows q hq; omega
  have hrl := HT5.out.len
  have hfin : lays dur rs = stl dur ps (fun _ => 64) n := by
    have := lays_stl dur ps rs (by rw [HDL.out]; exact HV.out) (by rw [HL.out]; exact HOF.out) HT5.out.full HT5.out.apart
    rw [HL.out] at this; exact this
  have HFIN : Hid (lays dur rs = stl dur ps (fun _ => 64) n) := hfin
  clear hfin
  refine wpIn_rangeFunc_ownH (F := Fence.wide) (n := 6) rfl (by omega) (gf := 154) (lb := #[.pointer (some ⟨w4.heap.size, 0, none⟩)]) rfl trivial (enters_of Tryd.func154 (by kernel_rfl) rfl)
    (all_stops Fence.wide (6 - 1) trivial rfl (by omega) w4.heap.size w5.heap.size g _ _ _ dl tv rs hfit w5 (Nat.le_refl _) (by omega) hvb BX5a.out HT5.out hrl)
    (fun h k => KB.trans h k)
    (fun W l o o' hl h _ _ => ⟨(grownBy_putObj' W l o').size, fun q hq _ => (grownBy_putObj' W l o').block q (by have := (Array.getElem?_eq_some_iff.1 h).1; omega) (fun e => by injection e with e; omega)⟩)
    (Below.refl _ _) (fun _ => rfl)
    (fun pre W => Boxed W w2.heap.size 24 (.slice (some ⟨g, 0, none⟩) dl cap) ∧ Own .u8 5 W w1.heap.size (.slice (some ⟨g, 0, none⟩) dl cap) (lays dur (pre.map (·.1))) ∧ BoxF W (w.heap.size + 1) (.slice none 0 0) (.slice none 0 0) ∧ Below w.heap.size w W ∧ w5.heap.size ≤ W.heap.size)
    (fun _ _ _ => False)
    (fun s X Y row hs hg hr => ⟨(hg.block w2.heap.size (by have := hs.2.2.2.2; omega) (fun e => by have := (hr _ e.symm).1; omega)).trans hs.1, hs.2.1.other hg (.inr (fun e => by have := (hr g (by rw [← e]; rfl)).1; omega)), hs.2.2.1.other hg (fun e => by have := (hr _ e.symm).1; omega), hs.2.2.2.1.grown hg (by have := hs.2.2.2.1.size; omega) (fun q e => by have := (hr q e).1; omega), Nat.le_trans hs.2.2.2.2 hg.size⟩)
    (fun _ _ _ _ _ hs _ _ => hs)
    ⟨BX5.out, O5.out, XR5.out, HB5.out, Nat.le_refl _⟩
    (fun x a' W => ∃ Bx, w5.heap.size ≤ Bx ∧ W.heap[Bx]? = some (.cells (x.1.2.map (Value.int .u8)).toArray 77 (0, 0)) ∧ a' = { tmps := #[.agg #[.slice va dl ca, .slice vb n cb], .pointer (some ⟨w.heap.size, 0, none⟩), .pointer (some ⟨w.heap.size + 1, 0, none⟩), .pointer (some ⟨w2.heap.size, 0, none⟩), .int .i64 x.1.1, .pointer (some ⟨Bx, 0, none⟩), .agg #[.slice va dl ca, .slice vb n cb], .bool true, .bool false, undef, .pointer (some ⟨w.heap.size, 0, none⟩), .slice va dl ca, .slice (some ⟨g, 0, none⟩) dl cap, .agg #[.slice va dl ca, .slice vb n cb], .pointer (some ⟨w2.heap.size + 1 + 2, 0, none⟩), .func (.func 154) #[] #[.pointer (some ⟨w4.heap.size, 0, none⟩)], .int .i64 x.1.1, .agg (x.1.2.map (Value.int .u8)).toArray, undef, undef, undef, undef, undef, undef], defers := [] })
    (fun x a' _ X Y row hs hg hr => by
      obtain ⟨Bx, h1, h2, h3⟩ := hs
      exact ⟨Bx, h1, (hg.block Bx (Array.getElem?_eq_some_iff.1 h2).1 (fun e => by obtain ⟨-, o, ho, hc⟩ := hr Bx e.symm; rw [h2] at ho; injection ho with ho; rw [← ho] at hc; cases hc)).trans h2, h3⟩)
    ?assign ?body ?done ?stop
  case assign =>
    rintro l pre ⟨⟨key, Vb⟩, b, hb1, hb2, hVb⟩ W K hi hK
    unfold encR
    dsimp only at hb1 hVb ⊢
    subst hb1
    have HVL : Hid ((Vb.map (Value.int .u8)).length = 64) := by show _ = _; rw [List.length_map]; exact hVb
    gi_wp2_with (refine wpListIn_fill rfl 77 _ _ rfl (Vb.map (Value.int .u8)).toArray rfl rfl (by rw [List.size_toArray, HVL.out]; rfl) (by rw [List.size_toArray]; exact sizeA _ HVL.out) (all_oneCell_toArray (ints_oneCell _ _)) ?_)
    have hs := hi.2.2.2.2
    refine hK _ _ ((KeepsOthers.alloc _ _).from _) ((KB.refl _ _ W).alloc hs _) ⟨hi.1.alloc _, hi.2.1.below ((Below.refl _ _).alloc (Nat.le_refl _) _), hi.2.2.1.below ((Below.refl _ _).alloc (Nat.le_refl _) _), hi.2.2.2.1.alloc hi.2.2.2.1.size _, by simp; omega⟩ ⟨W.heap.size, hs, heap_alloc_new W _, rfl⟩
  case body =>
    rintro l pre ⟨⟨key, Vb⟩, b, hb1, hb2, hVb⟩ a' W hl ⟨r, hr⟩ ⟨bX, oW, xR, hB, hs⟩ ⟨Bx, hBx, hcell, rfl⟩ hlt
    dsimp only at hb1 hVb hcell ⊢
    subst hb1
    have cX := bX.cell
    have hmem : ∀ q ∈ pre.map (·.1), Fits dl q := by
      intro q hq
      obtain ⟨y, -, rfl⟩ := List.mem_map.1 hq
      exact y.2
    have hlen : (lays dur (pre.map (·.1))).length = dl := by rw [lays_len dur _ (by rw [HDL.out]; exact hmem), HDL.out]
    have HVL : Hid ((Vb.map (Value.int .u8)).length = 64) := by show _ = _; rw [List.length_map]; exact hVb
    have RG : Hid (W.rangeAt Bx 0 (Vb.map (Value.int .u8))) := by
      intro j u hu
      rw [Nat.zero_add, cell_of_row W Bx j _ _ _ hcell]
      simpa using hu
    gi_wp2_with (refine wpListIn_load_mid rfl 77 _ rfl Bx 0 rfl (Vb.map (Value.int .u8)) _ RG.out Tryd.underlying77 rfl (sizeA _ HVL.out) ?_)
    refine ⟨trivial, ?_⟩
    refine (CallsIn.inRound l (callsIn_wide.2 (setBlock_any W w1.heap.size g dl cap b _ Vb oW hlen hVb hb2 hd1))).mono ?_
    rintro e W' ⟨rfl, o', g'⟩
    have hgz : g < W.heap.size := (World.ownsRow.lt oW g rfl).2
    have SNOC : Hid (lays dur ((pre ++ [(⟨((b : Int), Vb), ⟨b, rfl, hb2, hVb⟩⟩ : RowF dl)]).map (·.1)) = splice (lays dur (pre.map (·.1))) (b * 64) Vb) := by
      show _ = _
      rw [List.map_append, List.map_cons, List.map_nil, lays_snoc, Int.toNat_natCast]
    gi_wp2
    refine ⟨KeepsFrom.of_grownBy g' (fun j e => by injection e with e; omega), ⟨g'.size, fun q hq hn => g'.block q (by omega) (by simpa using hn)⟩, ⟨(g'.block w2.heap.size (by omega) (by simp; omega)).trans bX, ?_, xR.other g' (by simp; omega), hB.grown g' (by have := hB.size; omega) (fun q e => by injection e with e; omega), Nat.le_trans hs g'.size⟩⟩
    rw [SNOC.out]; exact o'
  case done =>
    rintro D xs W hD rfl ⟨bX, oW, xR, hB, hs⟩ hK
    rw [rowsF_map, HFIN.out] at oW
    have cX := bX.cell
    obtain ⟨⟨zr, d0, d1⟩, f0, f1⟩ := xR
    have HO : Hid (Own .u8 5 W w1.heap.size (.slice (some ⟨g, 0, none⟩) dl cap) (stl dur ps (fun _ => 64) n)) := oW
    gi_wp2
    have hK2 : ((W.setCell ⟨w.heap.size + 1, 0, none⟩ (.slice (some ⟨g, 0, none⟩) dl cap)).setCell ⟨w.heap.size + 1, 1, none⟩ (.slice none 0 0)).heap[D]? = some (.deferred (some [])) := (KeepsOthers.setCell _ _ _).same D _ ((KeepsOthers.setCell _ _ _).same D _ hK rfl) rfl
    refine ⟨by simp, .inl ⟨_, _, rfl, run_takeDeferred hK2, ?_⟩⟩
    have x0 : ((W.setCell ⟨w.heap.size + 1, 0, none⟩ (.slice (some ⟨g, 0, none⟩) dl cap)).setCell ⟨w.heap.size + 1, 1, none⟩ (.slice none 0 0)).cell? ⟨w.heap.size + 1, 0, none⟩ = some (.slice (some ⟨g, 0, none⟩) dl cap) := by
      rw [World.cell?_setCell_other _ _ _ _ (by simp)]; exact World.cell?_setCell_same _ _ _ d0
    have x1 : ((W.setCell ⟨w.heap.size + 1, 0, none⟩ (.slice (some ⟨g, 0, none⟩) dl cap)).setCell ⟨w.heap.size + 1, 1, none⟩ (.slice none 0 0)).cell? ⟨w.heap.size + 1, 1, none⟩ = some (.slice none 0 0) :=
      World.cell?_setCell_same _ _ _ (by rw [World.cell?_setCell_other _ _ _ _ (by simp)]; exact d1)
    have OX : Own .u8 5 ((W.setCell ⟨w.heap.size + 1, 0, none⟩ (.slice (some ⟨g, 0, none⟩) dl cap)).setCell ⟨w.heap.size + 1, 1, none⟩ (.slice none 0 0)) w1.heap.size (.slice (some ⟨g, 0, none⟩) dl cap) (stl dur ps (fun _ => 64) n) :=
      (HO.out.setAt (.inr (by simp [Value.ownBlock]; omega))).setAt (.inr (by simp [Value.ownBlock]; omega))
    have BX : Below w.heap.size w ((W.setCell ⟨w.heap.size + 1, 0, none⟩ (.slice (some ⟨g, 0, none⟩) dl cap)).setCell ⟨w.heap.size + 1, 1, none⟩ (.slice none 0 0)) := (hB.setCell (by simp) _).setCell (by simp) _
    have SX : ((W.setCell ⟨w.heap.size + 1, 0, none⟩ (.slice (some ⟨g, 0, none⟩) dl cap)).setCell ⟨w.heap.size + 1, 1, none⟩ (.slice none 0 0)).heap.size = W.heap.size := by simp
    generalize (W.setCell ⟨w.heap.size + 1, 0, none⟩ (.slice (some ⟨g, 0, none⟩) dl cap)).setCell ⟨w.heap.size + 1, 1, none⟩ (.slice none 0 0) = X at *
    have GX := grownBy_putObj' X D (.deferred none)
    have y0 := (World.cell?_of_block (w := X) (a := ⟨w.heap.size + 1, 0, none⟩) (GX.block (w.heap.size + 1) (by omega) (by simp; omega))).trans x0
    have y1 := (World.cell?_of_block (w := X) (a := ⟨w.heap.size + 1, 1, none⟩) (GX.block (w.heap.size + 1) (by omega) (by simp; omega))).trans x1
    have OF : Own .u8 5 (X.putObj D (.deferred none)) w1.heap.size (.slice (some ⟨g, 0, none⟩) dl cap) (stl dur ps (fun _ => 64) n) := OX.other GX (.inr (by simp [Value.ownBlock]; omega))
    have BF : Below w.heap.size w (X.putObj D (.deferred none)) := BX.grown GX (by omega) (fun q e => by injection e with e; omega)
    generalize X.putObj D (.deferred none) = Z at *
    refine ⟨.agg #[.slice (some ⟨g, 0, none⟩) dl cap, .slice none 0 0], ?_, _, rfl, OF.mono s1, BF⟩
    simp [results, Tryd.results102, go_sem, y0, y1]
  case stop =>
    rintro D c pre W _ _ h _
    exact h.elim

end Go.Proofs.YtmgolinleiahpaaDoor

namespace Go.Proofs.YtmgolinleiahpaaDoor
open Go.RowKit

set_option maxHeartbeats 1000000 in
set_option maxRecDepth 100000 in
theorem implSync_no (w : World) (va vb : Option Addr) (dl ca n cb : Nat) (ps : List (Int × List Int)) (hp : RdW w (.slice vb n cb) ps) (hl : ps.length = n)
    (hno : vldD dl ps = false) (hn : n ≤ 1048576) (hd1 : dl ≤ 1048576) (hpd : ∀ i, (pD ps i).length ≤ 1048576) :
    Calls Tryd.prog 102 #[.agg #[.slice va dl ca, .slice vb n cb]] w fun e w' => e = .returned (.agg #[.slice none 0 0, .slice none 0 0]) ∧ Below w.heap.size w w' := by
  have HP : Hid (RdW w (.slice vb n cb) ps) := hp
  have HL : Hid (ps.length = n) := hl
  have HPD : Hid (∀ i, (pD ps i).length ≤ 1048576) := hpd
  have BA : Hid (∀ o1 o2, Below w.heap.size w ((w.alloc o1).alloc o2)) := fun o1 o2 => ((Below.refl _ _).alloc (Nat.le_refl _) _).alloc (by simp) _
  clear hp hl hpd
  go_enter Tryd.func102, Tryd.ntmps102
  go_wp2_with fail
  have XR0 : Hid (BoxF ((w.alloc (.cells #[.slice va dl ca, .slice vb n cb] 27)).alloc (.cells #[.slice none 0 0, .slice none 0 0] 27)) (w.heap.size + 1) (.slice none 0 0) (.slice none 0 0)) := by
    have := BoxF.new (w.alloc (.cells #[.slice va dl ca, .slice vb n cb] 27)) (.slice none 0 0) (.slice none 0 0) 27
    show BoxF _ _ _ _
    simpa using this
  have B0 := BA.out (.cells #[.slice va dl ca, .slice vb n cb] 27) (.cells #[.slice none 0 0, .slice none 0 0] 27)
  have HB0 : Hid (Below w.heap.size w ((w.alloc (.cells #[.slice va dl ca, .slice vb n cb] 27)).alloc (.cells #[.slice none 0 0, .slice none 0 0] 27))) := B0
  clear B0 BA
  generalize (w.alloc (.cells #[.slice va dl ca, .slice vb n cb] 27)).alloc (.cells #[.slice none 0 0, .slice none 0 0] 27) = w0 at *
  refine (implValid_any _ va vb dl ca n cb ps (HP.out.below HB0.out) HL.out hd1 hn HPD.out).mono ?_
  rintro e w1 ⟨rfl, b1⟩
  have HB1 : Hid (Below w.heap.size w w1) := HB0.out.trans (b1.mono HB0.out.size)
  have XR1 : Hid (BoxF w1 (w.heap.size + 1) (.slice none 0 0) (.slice none 0 0)) := XR0.out.below b1
  clear b1 XR0 HB0
  obtain ⟨⟨zr, d0, d1⟩, f0, f1⟩ := XR1.out
  rw [hno]
  clear hno
  go_wp2
  refine bodyPost_ret (v := .agg #[.slice none 0 0, .slice none 0 0]) (by simp [results, Tryd.results102, go_sem, d0, d1]) rfl ⟨rfl, ?_⟩
  repeat (first | exact HB1.out | refine Below.setCell ?_ (by simp; try omega) _)

theorem implSync_any (w : World) (v1 v2 : Value) (dur : List Int) (ps : List (Int × List Int)) (hd : Rd .u8 w v1 dur) (hp : RdW w v2 ps) (hdl : dur.length ≤ 1048576) (hn : ps.length ≤ 1048576) (hpd : ∀ i, (pD ps i).length ≤ 1048576) :
    Calls Tryd.prog 102 #[.agg #[v1, v2]] w fun e w' => ∃ u, e = .returned (.agg #[u, .slice none 0 0]) ∧ Own .u8 5 w' w.heap.size u (syD dur ps) ∧ Below w.heap.size w w' := by
  obtain ⟨va, ca, rfl, -⟩ := hd.len
  obtain ⟨vb, cb, rfl, -⟩ := id hp
  unfold syD
  cases h : vldD dur.length ps with
  | true =>
    simp only [if_true]
    exact implSync_yes w va vb dur.length ca ps.length cb dur ps hd rfl hp rfl h hdl hpd
  | false =>
    simp only [Bool.false_eq_true, if_false]
    refine (implSync_no w va vb dur.length ca ps.length cb ps hp rfl h hn hdl hpd).mono ?_
    rintro e w' ⟨rfl, b⟩
    exact ⟨_, rfl, World.ownsRow_nil _ _ _ _, b⟩



end Go.Proofs.YtmgolinleiahpaaDoor

namespace Go.Proofs.YtmgolinleiahpaaDoor
open Go.RowKit

/-- Is the configuration one? -/
def cfgOk (S L : Int) : Bool := decide (1 ≤ S ∧ S ≤ 64) && decide (1 ≤ L ∧ L ≤ 64)
/-- Is the disk laid out for it? -/
def fitD (S L : Int) (dl : Nat) (ps : List (Int × List Int)) : Bool := cfgOk S L && (vldD dl ps && decide (((dl / 64 : Nat) : Int) = 2 + 2 * (S + L)))
/-- The first block of an area, and its blocks. -/
def arF (S L bank : Int) (log : Bool) : Int := 2 + bank * (S + L) + if log then S else 0
def arL (S L : Int) (log : Bool) : Int := if log then L else S
def arOk (S L : Int) (dl : Nat) (ps : List (Int × List Int)) (bank : Int) : Bool := fitD S L dl ps && decide (0 ≤ bank ∧ bank ≤ 1)
def arN (D : List Int) (f l : Nat) : List Int := (D.drop (f * 64)).take (l * 64)
def arA (dur : List Int) (ps : List (Int × List Int)) (S L bank : Int) (log : Bool) : List Int :=
  if arOk S L dur.length ps bank then arN (syD dur ps) (arF S L bank log).toNat (arL S L log).toNat else []

theorem cfgOk_iff (S L : Int) : cfgOk S L = true ↔ (1 ≤ S ∧ S ≤ 64) ∧ 1 ≤ L ∧ L ≤ 64 := by unfold cfgOk; simp only [Bool.and_eq_true, decide_eq_true_eq]
theorem fitD_iff (S L : Int) (dl : Nat) (ps : List (Int × List Int)) : fitD S L dl ps = true ↔ cfgOk S L = true ∧ vldD dl ps = true ∧ ((dl / 64 : Nat) : Int) = 2 + 2 * (S + L) := by
  unfold fitD; simp only [Bool.and_eq_true, decide_eq_true_eq]

theorem syD_length {dur : List Int} {ps : List (Int × List Int)} (h : vldD dur.length ps = true) : (syD dur ps).length = dur.length := by
  unfold syD; rw [if_pos h]; exact stl_len _ _ _ h _ (Nat.le_refl _)
theorem arN_length (D : List Int) (f l : Nat) (h : (f + l) * 64 ≤ D.length) : (arN D f l).length = l * 64 := by
  unfold arN; rw [List.length_take, List.length_drop]; omega
end Go.Proofs.YtmgolinleiahpaaDoor

namespace Go.Proofs.YtmgolinleiahpaaDoor
open Go.RowKit

set_option maxHeartbeats 400000 in
theorem validArea_any (w : World) (S : Int) :
    Calls Tryd.prog 85 #[.int .i64 S] w fun e w' => e = .returned (.bool (decide (1 ≤ S ∧ S ≤ 64))) ∧ w' = w := by
  by_cases h1 : 1 ≤ S
  · by_cases h2 : S ≤ 64
    · go_enter Tryd.func85, Tryd.ntmps85
      go_wp2
      go_ret
      exact ⟨ret_bool (by first | rfl | (symm; rw [decide_eq_true_eq]; exact ⟨h1, h2⟩)), rfl⟩
    · have d2 : decide (S ≤ 64) = false := by simpa using h2
      go_enter Tryd.func85, Tryd.ntmps85
      go_wp2
      go_ret
      exact ⟨ret_bool (by first | rfl | (symm; rw [decide_eq_false_iff_not]; omega)), rfl⟩
  · have d1 : decide (1 ≤ S) = false := by simpa using h1
    go_enter Tryd.func85, Tryd.ntmps85
    go_wp2
    go_ret
    exact ⟨ret_bool (by first | rfl | (symm; rw [decide_eq_false_iff_not]; omega)), rfl⟩

set_option linter.unusedSimpArgs false in
set_option maxHeartbeats 1000000 in
theorem validConfig_any (w : World) (S L : Int) :
    Calls Tryd.prog 39 #[.agg #[.int .i64 S, .int .i64 L]] w fun e w' => e = .returned (.bool (cfgOk S L)) ∧ Below w.heap.size w w' := by
  have B0 : Hid (Below w.heap.size w (w.alloc (.cells #[.int .i64 S, .int .i64 L] 29))) := (Below.refl _ _).alloc (Nat.le_refl _) _
  obtain ⟨t, ht⟩ : ∃ t, t = decide (1 ≤ S ∧ S ≤ 64) := ⟨_, rfl⟩
  obtain ⟨u, hu⟩ : ∃ u, u = decide (1 ≤ L ∧ L ≤ 64) := ⟨_, rfl⟩
  have H : Hid (cfgOk S L = (t && u)) := by show _ = _; rw [ht, hu]; rfl
  have V1 : Hid (∀ W, Calls Tryd.prog 85 #[.int .i64 S] W fun e w' => e = .returned (.bool t) ∧ w' = W) := fun W => by rw [ht]; exact validArea_any W S
  have V2 : Hid (∀ W, Calls Tryd.prog 85 #[.int .i64 L] W fun e w' => e = .returned (.bool u) ∧ w' = W) := fun W => by rw [hu]; exact validArea_any W L
  clear ht hu
  go_enter Tryd.func39, Tryd.ntmps39
  go_wp2_with fail
  cases t with
  | true =>
    refine (V1.out _).mono ?_
    rintro e w1 ⟨rfl, rfl⟩
    go_wp2_with fail
    refine (V2.out _).mono ?_
    rintro e w1 ⟨rfl, rfl⟩
    go_wp2
    go_ret
    exact ⟨ret_bool (by rw [H.out]; simp), B0.out⟩
  | false =>
    refine (V1.out _).mono ?_
    rintro e w1 ⟨rfl, rfl⟩
    go_wp2
    go_ret
    exact ⟨ret_bool (by rw [H.out]; simp), B0.out⟩

set_option maxHeartbeats 400000 in
theorem bankBlocks_any (w : World) (S L : Int) (hS : 1 ≤ S) (hS2 : S ≤ 64) (hL : 1 ≤ L) (hL2 : L ≤ 64) :
    Calls Tryd.prog 86 #[.agg #[.int .i64 S, .int .i64 L]] w fun e w' => e = .returned (.int .i64 (S + L)) ∧ Below w.heap.size w w' := by
  have B0 : Hid (Below w.heap.size w (w.alloc (.cells #[.int .i64 S, .int .i64 L] 29))) := (Below.refl _ _).alloc (Nat.le_refl _) _
  go_enter Tryd.func86, Tryd.ntmps86
  go_wp2
  go_ret
  exact ⟨rfl, B0.out⟩

set_option maxHeartbeats 400000 in
theorem diskBlocks_any (w : World) (S L : Int) (hS : 1 ≤ S) (hS2 : S ≤ 64) (hL : 1 ≤ L) (hL2 : L ≤ 64) :
    Calls Tryd.prog 41 #[.agg #[.int .i64 S, .int .i64 L]] w fun e w' => e = .returned (.int .i64 (2 + 2 * (S + L))) ∧ Below w.heap.size w w' := by
  have B0 : Hid (Below w.heap.size w (w.alloc (.cells #[.int .i64 S, .int .i64 L] 29))) := (Below.refl _ _).alloc (Nat.le_refl _) _
  go_enter Tryd.func41, Tryd.ntmps41
  go_wp2_with fail
  refine (bankBlocks_any _ S L hS hS2 hL hL2).mono ?_
  rintro e w1 ⟨rfl, b1⟩
  have B1 : Hid (Below w.heap.size w w1) := B0.out.trans (b1.mono B0.out.size)
  clear b1 B0
  go_wp2
  go_ret
  exact ⟨rfl, B1.out⟩

/-- What the two arguments' boxes hold. -/
def FitS (w : World) (ao bo : Option Addr) (dl ca n cb : Nat) (S L : Int) (W : World) : Prop :=
  Hid (Below w.heap.size w W ∧ Box2 W w.heap.size (.slice ao dl ca) (.slice bo n cb) ∧ Box2 W (w.heap.size + 1) (.int .i64 S) (.int .i64 L)) ∧
    W.cell? ⟨w.heap.size, 0, none⟩ = some (.slice ao dl ca) ∧ W.cell? ⟨w.heap.size, 1, none⟩ = some (.slice bo n cb) ∧ W.cell? ⟨w.heap.size + 1, 0, none⟩ = some (.int .i64 S) ∧ W.cell? ⟨w.heap.size + 1, 1, none⟩ = some (.int .i64 L)
theorem FitS.mk {w : World} {ao bo : Option Addr} {dl ca n cb : Nat} {S L : Int} {W : World} (h1 : Below w.heap.size w W) (h2 : Box2 W w.heap.size (.slice ao dl ca) (.slice bo n cb)) (h3 : Box2 W (w.heap.size + 1) (.int .i64 S) (.int .i64 L)) : FitS w ao bo dl ca n cb S L W :=
  ⟨⟨h1, h2, h3⟩, h2.2.1, h2.2.2, h3.2.1, h3.2.2⟩
theorem FitS.below {w : World} {ao bo : Option Addr} {dl ca n cb : Nat} {S L : Int} {W W' : World} (h : FitS w ao bo dl ca n cb S L W) (hb : Below W.heap.size W W') : FitS w ao bo dl ca n cb S L W' :=
  FitS.mk (h.1.out.1.trans (hb.mono h.1.out.1.size)) (h.1.out.2.1.below hb) (h.1.out.2.2.below hb)


set_option linter.unusedSimpArgs false in
set_option maxHeartbeats 1000000 in
theorem isLaidOut_any (w : World) (ao bo : Option Addr) (dl ca n cb : Nat) (ps : List (Int × List Int)) (S L : Int) (hp : RdW w (.slice bo n cb) ps) (hl : ps.length = n) (hd1 : dl ≤ 1048576) (hn : n ≤ 1048576) (hpd : ∀ i, (pD ps i).length ≤ 1048576) :
    Calls Tryd.prog 61 #[.agg #[.slice ao dl ca, .slice bo n cb], .agg #[.int .i64 S, .int .i64 L]] w fun e w' => e = .returned (.bool (fitD S L dl ps)) ∧ Below w.heap.size w w' := by
  have HP : Hid (RdW w (.slice bo n cb) ps) := hp
  have HL : Hid (ps.length = n) := hl
  have HPD : Hid (∀ i, (pD ps i).length ≤ 1048576) := hpd
  have B0 : Hid (Below w.heap.size w ((w.alloc (.cells #[.slice ao dl ca, .slice bo n cb] 27)).alloc (.cells #[.int .i64 S, .int .i64 L] 29))) := ((Below.refl _ _).alloc (Nat.le_refl _) _).alloc (by simp) _
  have XD : Hid (Box2 ((w.alloc (.cells #[.slice ao dl ca, .slice bo n cb] 27)).alloc (.cells #[.int .i64 S, .int .i64 L] 29)) w.heap.size (.slice ao dl ca) (.slice bo n cb)) := (Box2.new w _ _ _).below ((Below.refl _ _).alloc (Nat.le_refl _) _)
  have XC : Hid (Box2 ((w.alloc (.cells #[.slice ao dl ca, .slice bo n cb] 27)).alloc (.cells #[.int .i64 S, .int .i64 L] 29)) (w.heap.size + 1) (.int .i64 S) (.int .i64 L)) := by
    have := Box2.new (w.alloc (.cells #[.slice ao dl ca, .slice bo n cb] 27)) (.int .i64 S) (.int .i64 L) 29
    show Box2 _ _ _ _
    simpa using this
  obtain ⟨t, ht⟩ : ∃ t, t = cfgOk S L := ⟨_, rfl⟩
  obtain ⟨u, hu⟩ : ∃ u, u = vldD dl ps := ⟨_, rfl⟩
  have H : Hid (fitD S L dl ps = (t && (u && decide (((dl / 64 : Nat) : Int) = 2 + 2 * (S + L))))) := by show _ = _; rw [ht, hu]; rfl
  have HB : Hid (t = true → (1 ≤ S ∧ S ≤ 64) ∧ 1 ≤ L ∧ L ≤ 64) := fun e => (cfgOk_iff S L).1 (ht ▸ e)
  have Q : Hid (∀ W W', FitS w ao bo dl ca n cb S L W → Below W.heap.size W W' → FitS w ao bo dl ca n cb S L W') := fun W W' h1 h4 => h1.below h4
  have V1 : Hid (∀ W, Calls Tryd.prog 39 #[.agg #[.int .i64 S, .int .i64 L]] W fun e w' => e = .returned (.bool t) ∧ Below W.heap.size W w') := fun W => by rw [ht]; exact validConfig_any W S L
  have V2 : Hid (∀ W, FitS w ao bo dl ca n cb S L W → Calls Tryd.prog 100 #[.agg #[.slice ao dl ca, .slice bo n cb]] W fun e w' => e = .returned (.bool u) ∧ Below W.heap.size W w') := fun W hW => by rw [hu]; exact implValid_any W ao bo dl ca n cb ps (HP.out.below hW.1.out.1) HL.out hd1 hn HPD.out
  clear ht hu hp hl hpd
  go_enter Tryd.func61, Tryd.ntmps61
  go_wp2_with fail
  have S0 : Hid (FitS w ao bo dl ca n cb S L ((w.alloc (.cells #[.slice ao dl ca, .slice bo n cb] 27)).alloc (.cells #[.int .i64 S, .int .i64 L] 29))) := FitS.mk B0.out XD.out XC.out
  clear B0 XD XC
  generalize (w.alloc (.cells #[.slice ao dl ca, .slice bo n cb] 27)).alloc (.cells #[.int .i64 S, .int .i64 L] 29) = w0 at *
  cases t with
  | false =>
    refine wp_region_held_drew (S := FitS w ao bo dl ca n cb S L) (by kernel_rfl) (S0.out.below (below_drewN' w0 1)) (fun hHeld => ?_)
    refine wpAnyH_take (i := 0) (oi := { dst := some 5, op := _, type := _, pos := _, after := _, guard := _ }) (v := ?v30) rfl (by kernel_rfl) (by kernel_rfl) (by kernel_rfl) (fun _ _ _ h => h) (Or.inl ⟨by rfl, ?hy30⟩) (by assumption) ?rest30
    case hy30 =>
      intro w9 hS9
      obtain ⟨-, k0, k1, k2, k3⟩ := hS9
      go_simp
      try with_reducible rfl
    try simp only [Act.put, List.setIfInBounds_toArray, List.set_cons_zero, List.set_cons_succ]
    refine wpAnyH_ready (rs := [1]) (by kernel_rfl) (by simp) ?_
    refine AllReadyH.cons (o := { dst := some 6, op := _, type := _, pos := _, after := _, guard := _ }) rfl (fun K hK => ?_) AllReadyH.nil
    go_simp
    refine (V1.out _).mono ?_
    rintro e w1 ⟨rfl, b1⟩
    have hN1 := Q.out _ _ hHeld b1
    clear b1
    refine hK.out _ _ (hN1) (fun hx9 => ?_)
    clear hK K hHeld hx9
    have hHeld := hN1
    try simp only [Act.put, List.setIfInBounds_toArray, List.set_cons_zero, List.set_cons_succ]
    refine wpAnyH_take (i := 2) (oi := { dst := some 7, op := _, type := _, pos := _, after := _, guard := _ }) (v := ?v31) rfl (by kernel_rfl) (by kernel_rfl) (by kernel_rfl) (fun _ _ _ h => h) (Or.inl ⟨by rfl, ?hy31⟩) (by assumption) ?rest31
    case hy31 =>
      intro w9 hS9
      obtain ⟨-, k0, k1, k2, k3⟩ := hS9
      go_simp
      try with_reducible rfl
    try simp only [Act.put, List.setIfInBounds_toArray, List.set_cons_zero, List.set_cons_succ]
    refine wpAnyH_take (i := 3) (oi := { dst := some 8, op := _, type := _, pos := _, after := _, guard := _ }) (v := undef) rfl (by kernel_rfl) (by kernel_rfl) (by kernel_rfl) (fun _ _ _ h => h) (Or.inr ⟨by rfl, rfl⟩) (by assumption) ?_
    try simp only [Act.put, List.setIfInBounds_toArray, List.set_cons_zero, List.set_cons_succ]
    refine wpAnyH_take (i := 4) (oi := { dst := some 9, op := _, type := _, pos := _, after := _, guard := _ }) (v := undef) rfl (by kernel_rfl) (by kernel_rfl) (by kernel_rfl) (fun _ _ _ h => h) (Or.inr ⟨by rfl, rfl⟩) (by assumption) ?_
    try simp only [Act.put, List.setIfInBounds_toArray, List.set_cons_zero, List.set_cons_succ]
    refine wpAnyH_take (i := 5) (oi := { dst := some 10, op := _, type := _, pos := _, after := _, guard := _ }) (v := ?v32) rfl (by kernel_rfl) (by kernel_rfl) (by kernel_rfl) (fun _ _ _ h => h) (Or.inl ⟨by rfl, ?hy32⟩) (by assumption) ?rest32
    case hy32 =>
      intro w9 hS9
      obtain ⟨-, k0, k1, k2, k3⟩ := hS9
      go_simp
      try with_reducible rfl
    try simp only [Act.put, List.setIfInBounds_toArray, List.set_cons_zero, List.set_cons_succ]
    refine wpAnyH_take (i := 6) (oi := { dst := some 11, op := _, type := _, pos := _, after := _, guard := _ }) (v := ?v33) rfl (by kernel_rfl) (by kernel_rfl) (by kernel_rfl) (fun _ _ _ h => h) (Or.inl ⟨by rfl, ?hy33⟩) (by assumption) ?rest33
    case hy33 =>
      intro w9 hS9
      obtain ⟨-, k0, k1, k2, k3⟩ := hS9
      go_simp
      try with_reducible rfl
    try simp only [Act.put, List.setIfInBounds_toArray, List.set_cons_zero, List.set_cons_succ]
    refine wpAnyH_take (i := 7) (oi := { dst := some 12, op := _, type := _, pos := _, after := _, guard := _ }) (v := undef) rfl (by kernel_rfl) (by kernel_rfl) (by kernel_rfl) (fun _ _ _ h => h) (Or.inr ⟨by rfl, rfl⟩) (by assumption) ?_
    try simp only [Act.put, List.setIfInBounds_toArray, List.set_cons_zero, List.set_cons_succ]
    refine wpAnyH_take (i := 8) (oi := { dst := some 13, op := _, type := _, pos := _, after := _, guard := _ }) (v := undef) rfl (by kernel_rfl) (by kernel_rfl) (by kernel_rfl) (fun _ _ _ h => h) (Or.inr ⟨by rfl, rfl⟩) (by assumption) ?_
    try simp only [Act.put, List.setIfInBounds_toArray, List.set_cons_zero, List.set_cons_succ]
    refine wpAnyH_take (i := 9) (oi := { dst := some 14, op := _, type := _, pos := _, after := _, guard := _ }) (v := undef) rfl (by kernel_rfl) (by kernel_rfl) (by kernel_rfl) (fun _ _ _ h => h) (Or.inr ⟨by rfl, rfl⟩) (by assumption) ?_
    try simp only [Act.put, List.setIfInBounds_toArray, List.set_cons_zero, List.set_cons_succ]
    refine wpAnyH_take (i := 10) (oi := { dst := some 15, op := _, type := _, pos := _, after := _, guard := _ }) (v := undef) rfl (by kernel_rfl) (by kernel_rfl) (by kernel_rfl) (fun _ _ _ h => h) (Or.inr ⟨by rfl, rfl⟩) (by assumption) ?_
    try simp only [Act.put, List.setIfInBounds_toArray, List.set_cons_zero, List.set_cons_succ]
    refine wpAnyH_take (i := 11) (oi := { dst := some 16, op := _, type := _, pos := _, after := _, guard := _ }) (v := undef) rfl (by kernel_rfl) (by kernel_rfl) (by kernel_rfl) (fun _ _ _ h => h) (Or.inr ⟨by rfl, rfl⟩) (by assumption) ?_
    try simp only [Act.put, List.setIfInBounds_toArray, List.set_cons_zero, List.set_cons_succ]
    refine wpAnyH_take (i := 12) (oi := { dst := some 17, op := _, type := _, pos := _, after := _, guard := _ }) (v := ?v34) rfl (by kernel_rfl) (by kernel_rfl) (by kernel_rfl) (fun _ _ _ h => h) (Or.inl ⟨by rfl, ?hy34⟩) (by assumption) ?rest34
    case hy34 =>
      intro w9 hS9
      obtain ⟨-, k0, k1, k2, k3⟩ := hS9
      go_simp
      try with_reducible rfl
    try simp only [Act.put, List.setIfInBounds_toArray, List.set_cons_zero, List.set_cons_succ]
    refine wpAnyH_take (i := 13) (oi := { dst := some 4, op := _, type := _, pos := _, after := _, guard := _ }) (v := ?v35) rfl (by kernel_rfl) (by kernel_rfl) (by kernel_rfl) (fun _ _ _ h => h) (Or.inl ⟨by rfl, ?hy35⟩) (by assumption) ?rest35
    case hy35 =>
      intro w9 hS9
      obtain ⟨-, k0, k1, k2, k3⟩ := hS9
      go_simp
      try with_reducible rfl
    try simp only [Act.put, List.setIfInBounds_toArray, List.set_cons_zero, List.set_cons_succ]
    refine wpAnyH_done (by kernel_rfl) ?_ _
    have BE := hHeld.1
    clear hHeld
    go_wp2
    go_ret
    exact ⟨ret_bool (by rw [H.out]; simp <;> rfl), BE.out.1⟩
  | true =>
    obtain ⟨⟨hS1, hS2⟩, hL1, hL2⟩ := HB.out rfl
    cases u with
    | false =>
      refine wp_region_held_drew (S := FitS w ao bo dl ca n cb S L) (by kernel_rfl) (S0.out.below (below_drewN' w0 1)) (fun hHeld => ?_)
      refine wpAnyH_take (i := 0) (oi := { dst := some 5, op := _, type := _, pos := _, after := _, guard := _ }) (v := ?v36) rfl (by kernel_rfl) (by kernel_rfl) (by kernel_rfl) (fun _ _ _ h => h) (Or.inl ⟨by rfl, ?hy36⟩) (by assumption) ?rest36
      case hy36 =>
        intro w9 hS9
        obtain ⟨-, k0, k1, k2, k3⟩ := hS9
        go_simp
        try with_reducible rfl
      try simp only [Act.put, List.setIfInBounds_toArray, List.set_cons_zero, List.set_cons_succ]
      refine wpAnyH_ready (rs := [1]) (by kernel_rfl) (by simp) ?_
      refine AllReadyH.cons (o := { dst := some 6, op := _, type := _, pos := _, after := _, guard := _ }) rfl (fun K hK => ?_) AllReadyH.nil
      go_simp
      refine (V1.out _).mono ?_
      rintro e w1 ⟨rfl, b1⟩
      have hN1 := Q.out _ _ hHeld b1
      clear b1
      refine hK.out _ _ (hN1) (fun hx9 => ?_)
      clear hK K hHeld hx9
      have hHeld := hN1
      try simp only [Act.put, List.setIfInBounds_toArray, List.set_cons_zero, List.set_cons_succ]
      refine wpAnyH_take (i := 2) (oi := { dst := some 7, op := _, type := _, pos := _, after := _, guard := _ }) (v := ?v37) rfl (by kernel_rfl) (by kernel_rfl) (by kernel_rfl) (fun _ _ _ h => h) (Or.inl ⟨by rfl, ?hy37⟩) (by assumption) ?rest37
      case hy37 =>
        intro w9 hS9
        obtain ⟨-, k0, k1, k2, k3⟩ := hS9
        go_simp
        try with_reducible rfl
      try simp only [Act.put, List.setIfInBounds_toArray, List.set_cons_zero, List.set_cons_succ]
      refine wpAnyH_take (i := 3) (oi := { dst := some 8, op := _, type := _, pos := _, after := _, guard := _ }) (v := ?v38) rfl (by kernel_rfl) (by kernel_rfl) (by kernel_rfl) (fun _ _ _ h => h) (Or.inl ⟨by rfl, ?hy38⟩) (by assumption) ?rest38
      case hy38 =>
        intro w9 hS9
        obtain ⟨-, k0, k1, k2, k3⟩ := hS9
        go_simp
        try with_reducible rfl
      try simp only [Act.put, List.setIfInBounds_toArray, List.set_cons_zero, List.set_cons_succ]
      refine wpAnyH_ready (rs := [4]) (by kernel_rfl) (by simp) ?_
      refine AllReadyH.cons (o := { dst := some 9, op := _, type := _, pos := _, after := _, guard := _ }) rfl (fun K hK => ?_) AllReadyH.nil
      go_simp
      refine (V2.out _ hHeld).mono ?_
      rintro e w2 ⟨rfl, b2⟩
      have hN2 := Q.out _ _ hHeld b2
      clear b2
      refine hK.out _ _ (hN2) (fun hx9 => ?_)
      clear hK K hHeld hx9
      have hHeld := hN2
      try simp only [Act.put, List.setIfInBounds_toArray, List.set_cons_zero, List.set_cons_succ]
      refine wpAnyH_take (i := 5) (oi := { dst := some 10, op := _, type := _, pos := _, after := _, guard := _ }) (v := ?v39) rfl (by kernel_rfl) (by kernel_rfl) (by kernel_rfl) (fun _ _ _ h => h) (Or.inl ⟨by rfl, ?hy39⟩) (by assumption) ?rest39
      case hy39 =>
        intro w9 hS9
        obtain ⟨-, k0, k1, k2, k3⟩ := hS9
        go_simp
        try with_reducible rfl
      try simp only [Act.put, List.setIfInBounds_toArray, List.set_cons_zero, List.set_cons_succ]
      refine wpAnyH_take (i := 6) (oi := { dst := some 11, op := _, type := _, pos := _, after := _, guard := _ }) (v := ?v40) rfl (by kernel_rfl) (by kernel_rfl) (by kernel_rfl) (fun _ _ _ h => h) (Or.inl ⟨by rfl, ?hy40⟩) (by assumption) ?rest40
      case hy40 =>
        intro w9 hS9
        obtain ⟨-, k0, k1, k2, k3⟩ := hS9
        go_simp
        try with_reducible rfl
      try simp only [Act.put, List.setIfInBounds_toArray, List.set_cons_zero, List.set_cons_succ]
      refine wpAnyH_take (i := 7) (oi := { dst := some 12, op := _, type := _, pos := _, after := _, guard := _ }) (v := undef) rfl (by kernel_rfl) (by kernel_rfl) (by kernel_rfl) (fun _ _ _ h => h) (Or.inr ⟨by rfl, rfl⟩) (by assumption) ?_
      try simp only [Act.put, List.setIfInBounds_toArray, List.set_cons_zero, List.set_cons_succ]
      refine wpAnyH_take (i := 8) (oi := { dst := some 13, op := _, type := _, pos := _, after := _, guard := _ }) (v := undef) rfl (by kernel_rfl) (by kernel_rfl) (by kernel_rfl) (fun _ _ _ h => h) (Or.inr ⟨by rfl, rfl⟩) (by assumption) ?_
      try simp only [Act.put, List.setIfInBounds_toArray, List.set_cons_zero, List.set_cons_succ]
      refine wpAnyH_take (i := 9) (oi := { dst := some 14, op := _, type := _, pos := _, after := _, guard := _ }) (v := undef) rfl (by kernel_rfl) (by kernel_rfl) (by kernel_rfl) (fun _ _ _ h => h) (Or.inr ⟨by rfl, rfl⟩) (by assumption) ?_
      try simp only [Act.put, List.setIfInBounds_toArray, List.set_cons_zero, List.set_cons_succ]
      refine wpAnyH_take (i := 10) (oi := { dst := some 15, op := _, type := _, pos := _, after := _, guard := _ }) (v := undef) rfl (by kernel_rfl) (by kernel_rfl) (by kernel_rfl) (fun _ _ _ h => h) (Or.inr ⟨by rfl, rfl⟩) (by assumption) ?_
      try simp only [Act.put, List.setIfInBounds_toArray, List.set_cons_zero, List.set_cons_succ]
      refine wpAnyH_take (i := 11) (oi := { dst := some 16, op := _, type := _, pos := _, after := _, guard := _ }) (v := undef) rfl (by kernel_rfl) (by kernel_rfl) (by kernel_rfl) (fun _ _ _ h => h) (Or.inr ⟨by rfl, rfl⟩) (by assumption) ?_
      try simp only [Act.put, List.setIfInBounds_toArray, List.set_cons_zero, List.set_cons_succ]
      refine wpAnyH_take (i := 12) (oi := { dst := some 17, op := _, type := _, pos := _, after := _, guard := _ }) (v := ?v41) rfl (by kernel_rfl) (by kernel_rfl) (by kernel_rfl) (fun _ _ _ h => h) (Or.inl ⟨by rfl, ?hy41⟩) (by assumption) ?rest41
      case hy41 =>
        intro w9 hS9
        obtain ⟨-, k0, k1, k2, k3⟩ := hS9
        go_simp
        try with_reducible rfl
      try simp only [Act.put, List.setIfInBounds_toArray, List.set_cons_zero, List.set_cons_succ]
      refine wpAnyH_take (i := 13) (oi := { dst := some 4, op := _, type := _, pos := _, after := _, guard := _ }) (v := ?v42) rfl (by kernel_rfl) (by kernel_rfl) (by kernel_rfl) (fun _ _ _ h => h) (Or.inl ⟨by rfl, ?hy42⟩) (by assumption) ?rest42
      case hy42 =>
        intro w9 hS9
        obtain ⟨-, k0, k1, k2, k3⟩ := hS9
        go_simp
        try with_reducible rfl
      try simp only [Act.put, List.setIfInBounds_toArray, List.set_cons_zero, List.set_cons_succ]
      refine wpAnyH_done (by kernel_rfl) ?_ _
      have BE := hHeld.1
      clear hHeld
      go_wp2
      go_ret
      exact ⟨ret_bool (by rw [H.out]; simp <;> rfl), BE.out.1⟩
    | true =>
      refine wp_region_held_drew (S := FitS w ao bo dl ca n cb S L) (by kernel_rfl) (S0.out.below (below_drewN' w0 1)) (fun hHeld => ?_)
      refine wpAnyH_take (i := 0) (oi := { dst := some 5, op := _, type := _, pos := _, after := _, guard := _ }) (v := ?v43) rfl (by kernel_rfl) (by kernel_rfl) (by kernel_rfl) (fun _ _ _ h => h) (Or.inl ⟨by rfl, ?hy43⟩) (by assumption) ?rest43
      case hy43 =>
        intro w9 hS9
        obtain ⟨-, k0, k1, k2, k3⟩ := hS9
        go_simp
        try with_reducible rfl
      try simp only [Act.put, List.setIfInBounds_toArray, List.set_cons_zero, List.set_cons_succ]
      refine wpAnyH_ready (rs := [1]) (by kernel_rfl) (by simp) ?_
      refine AllReadyH.cons (o := { dst := some 6, op := _, type := _, pos := _, after := _, guard := _ }) rfl (fun K hK => ?_) AllReadyH.nil
      go_simp
      refine (V1.out _).mono ?_
      rintro e w1 ⟨rfl, b1⟩
      have hN1 := Q.out _ _ hHeld b1
      clear b1
      refine hK.out _ _ (hN1) (fun hx9 => ?_)
      clear hK K hHeld hx9
      have hHeld := hN1
      try simp only [Act.put, List.setIfInBounds_toArray, List.set_cons_zero, List.set_cons_succ]
      refine wpAnyH_take (i := 2) (oi := { dst := some 7, op := _, type := _, pos := _, after := _, guard := _ }) (v := ?v44) rfl (by kernel_rfl) (by kernel_rfl) (by kernel_rfl) (fun _ _ _ h => h) (Or.inl ⟨by rfl, ?hy44⟩) (by assumption) ?rest44
      case hy44 =>
        intro w9 hS9
        obtain ⟨-, k0, k1, k2, k3⟩ := hS9
        go_simp
        try with_reducible rfl
      try simp only [Act.put, List.setIfInBounds_toArray, List.set_cons_zero, List.set_cons_succ]
      refine wpAnyH_take (i := 3) (oi := { dst := some 8, op := _, type := _, pos := _, after := _, guard := _ }) (v := ?v45) rfl (by kernel_rfl) (by kernel_rfl) (by kernel_rfl) (fun _ _ _ h => h) (Or.inl ⟨by rfl, ?hy45⟩) (by assumption) ?rest45
      case hy45 =>
        intro w9 hS9
        obtain ⟨-, k0, k1, k2, k3⟩ := hS9
        go_simp
        try with_reducible rfl
      try simp only [Act.put, List.setIfInBounds_toArray, List.set_cons_zero, List.set_cons_succ]
      refine wpAnyH_ready (rs := [4]) (by kernel_rfl) (by simp) ?_
      refine AllReadyH.cons (o := { dst := some 9, op := _, type := _, pos := _, after := _, guard := _ }) rfl (fun K hK => ?_) AllReadyH.nil
      go_simp
      refine (V2.out _ hHeld).mono ?_
      rintro e w2 ⟨rfl, b2⟩
      have hN2 := Q.out _ _ hHeld b2
      clear b2
      refine hK.out _ _ (hN2) (fun hx9 => ?_)
      clear hK K hHeld hx9
      have hHeld := hN2
      try simp only [Act.put, List.setIfInBounds_toArray, List.set_cons_zero, List.set_cons_succ]
      refine wpAnyH_take (i := 5) (oi := { dst := some 10, op := _, type := _, pos := _, after := _, guard := _ }) (v := ?v46) rfl (by kernel_rfl) (by kernel_rfl) (by kernel_rfl) (fun _ _ _ h => h) (Or.inl ⟨by rfl, ?hy46⟩) (by assumption) ?rest46
      case hy46 =>
        intro w9 hS9
        obtain ⟨-, k0, k1, k2, k3⟩ := hS9
        go_simp
        try with_reducible rfl
      try simp only [Act.put, List.setIfInBounds_toArray, List.set_cons_zero, List.set_cons_succ]
      refine wpAnyH_take (i := 6) (oi := { dst := some 11, op := _, type := _, pos := _, after := _, guard := _ }) (v := ?v47) rfl (by kernel_rfl) (by kernel_rfl) (by kernel_rfl) (fun _ _ _ h => h) (Or.inl ⟨by rfl, ?hy47⟩) (by assumption) ?rest47
      case hy47 =>
        intro w9 hS9
        obtain ⟨-, k0, k1, k2, k3⟩ := hS9
        go_simp
        try with_reducible rfl
      try simp only [Act.put, List.setIfInBounds_toArray, List.set_cons_zero, List.set_cons_succ]
      refine wpAnyH_take (i := 7) (oi := { dst := some 12, op := _, type := _, pos := _, after := _, guard := _ }) (v := ?v48) rfl (by kernel_rfl) (by kernel_rfl) (by kernel_rfl) (fun _ _ _ h => h) (Or.inl ⟨by rfl, ?hy48⟩) (by assumption) ?rest48
      case hy48 =>
        intro w9 hS9
        obtain ⟨-, k0, k1, k2, k3⟩ := hS9
        go_simp
        try with_reducible rfl
      try simp only [Act.put, List.setIfInBounds_toArray, List.set_cons_zero, List.set_cons_succ]
      refine wpAnyH_take (i := 9) (oi := { dst := some 14, op := _, type := _, pos := _, after := _, guard := _ }) (v := ?v49) rfl (by kernel_rfl) (by kernel_rfl) (by kernel_rfl) (fun _ _ _ h => h) (Or.inl ⟨by rfl, ?hy49⟩) (by assumption) ?rest49
      case hy49 =>
        intro w9 hS9
        obtain ⟨-, k0, k1, k2, k3⟩ := hS9
        go_simp
        try with_reducible rfl
      try simp only [Act.put, List.setIfInBounds_toArray, List.set_cons_zero, List.set_cons_succ]
      refine wpAnyH_ready (rs := [8]) (by kernel_rfl) (by simp) ?_
      refine AllReadyH.cons (o := { dst := some 13, op := _, type := _, pos := _, after := _, guard := _ }) rfl (fun K hK => ?_) AllReadyH.nil
      go_simp
      refine (blockCount_any _ ao dl ca _ hd1).mono ?_
      rintro e w3 ⟨rfl, b3⟩
      have hN3 := Q.out _ _ hHeld b3
      clear b3
      refine hK.out _ _ (hN3) (fun hx9 => ?_)
      clear hK K hHeld hx9
      have hHeld := hN3
      try simp only [Act.put, List.setIfInBounds_toArray, List.set_cons_zero, List.set_cons_succ]
      refine wpAnyH_ready (rs := [10]) (by kernel_rfl) (by simp) ?_
      refine AllReadyH.cons (o := { dst := some 15, op := _, type := _, pos := _, after := _, guard := _ }) rfl (fun K hK => ?_) AllReadyH.nil
      go_simp
      refine (diskBlocks_any _ S L hS1 hS2 hL1 hL2).mono ?_
      rintro e w4 ⟨rfl, b4⟩
      have hN4 := Q.out _ _ hHeld b4
      clear b4
      refine hK.out _ _ (hN4) (fun hx9 => ?_)
      clear hK K hHeld hx9
      have hHeld := hN4
      try simp only [Act.put, List.setIfInBounds_toArray, List.set_cons_zero, List.set_cons_succ]
      refine wpAnyH_take (i := 11) (oi := { dst := some 16, op := _, type := _, pos := _, after := _, guard := _ }) (v := ?v50) rfl (by kernel_rfl) (by kernel_rfl) (by kernel_rfl) (fun _ _ _ h => h) (Or.inl ⟨by rfl, ?hy50⟩) (by assumption) ?rest50
      case hy50 =>
        intro w9 hS9
        obtain ⟨-, k0, k1, k2, k3⟩ := hS9
        go_simp
        try with_reducible rfl
      try simp only [Act.put, List.setIfInBounds_toArray, List.set_cons_zero, List.set_cons_succ]
      refine wpAnyH_take (i := 12) (oi := { dst := some 17, op := _, type := _, pos := _, after := _, guard := _ }) (v := ?v51) rfl (by kernel_rfl) (by kernel_rfl) (by kernel_rfl) (fun _ _ _ h => h) (Or.inl ⟨by rfl, ?hy51⟩) (by assumption) ?rest51
      case hy51 =>
        intro w9 hS9
        obtain ⟨-, k0, k1, k2, k3⟩ := hS9
        go_simp
        try with_reducible rfl
      try simp only [Act.put, List.setIfInBounds_toArray, List.set_cons_zero, List.set_cons_succ]
      refine wpAnyH_take (i := 13) (oi := { dst := some 4, op := _, type := _, pos := _, after := _, guard := _ }) (v := ?v52) rfl (by kernel_rfl) (by kernel_rfl) (by kernel_rfl) (fun _ _ _ h => h) (Or.inl ⟨by rfl, ?hy52⟩) (by assumption) ?rest52
      case hy52 =>
        intro w9 hS9
        obtain ⟨-, k0, k1, k2, k3⟩ := hS9
        go_simp
        try with_reducible rfl
      try simp only [Act.put, List.setIfInBounds_toArray, List.set_cons_zero, List.set_cons_succ]
      refine wpAnyH_done (by kernel_rfl) ?_ _
      have BE := hHeld.1
      clear hHeld
      go_wp2
      go_ret
      exact ⟨ret_bool (by rw [H.out]; simp <;> rfl), BE.out.1⟩

end Go.Proofs.YtmgolinleiahpaaDoor

namespace Go.Proofs.YtmgolinleiahpaaDoor
open Go.RowKit



theorem arOk_iff (S L : Int) (dl : Nat) (ps : List (Int × List Int)) (bank : Int) : arOk S L dl ps bank = true ↔ fitD S L dl ps = true ∧ 0 ≤ bank ∧ bank ≤ 1 := by
  unfold arOk; simp only [Bool.and_eq_true, decide_eq_true_eq]

/-- Where an area lies. -/
theorem ar_in {S L bank : Int} {log : Bool} {dl : Nat} {ps : List (Int × List Int)} (h : arOk S L dl ps bank = true) :
    ∃ f l : Nat, arF S L bank log = f ∧ arL S L log = l ∧ 2 ≤ f ∧ 1 ≤ l ∧ l ≤ 64 ∧ f + l ≤ dl / 64 ∧ (f + l) * 64 ≤ dl ∧ dl / 64 ≤ 258 := by
  obtain ⟨h1, h2, h3⟩ := (arOk_iff ..).1 h
  obtain ⟨hc, hv, hn⟩ := (fitD_iff ..).1 h1
  obtain ⟨⟨hS1, hS2⟩, hL1, hL2⟩ := (cfgOk_iff S L).1 hc
  have hm := ((vldD_iff _ _).1 hv).1
  have hb : bank = 0 ∨ bank = 1 := by omega
  refine ⟨(arF S L bank log).toNat, (arL S L log).toNat, ?_⟩
  unfold arF arL
  rcases hb with rfl | rfl <;> cases log <;> simp <;> omega

theorem FitS.belowB {w : World} {ao bo : Option Addr} {dl ca n cb : Nat} {S L : Int} {W W' : World} (h : FitS w ao bo dl ca n cb S L W) (hb : Below (w.heap.size + 2) W W') : FitS w ao bo dl ca n cb S L W' :=
  FitS.mk (h.1.out.1.trans (hb.mono (by omega))) ⟨Nat.lt_of_lt_of_le h.1.out.2.1.1 hb.size, (hb.cell (p := ⟨w.heap.size, 0, none⟩) (by show w.heap.size < _; omega)).trans h.1.out.2.1.2.1, (hb.cell (p := ⟨w.heap.size, 1, none⟩) (by show w.heap.size < _; omega)).trans h.1.out.2.1.2.2⟩
    ⟨Nat.lt_of_lt_of_le h.1.out.2.2.1 hb.size, (hb.cell (p := ⟨w.heap.size + 1, 0, none⟩) (by show w.heap.size + 1 < _; omega)).trans h.1.out.2.2.2.1, (hb.cell (p := ⟨w.heap.size + 1, 1, none⟩) (by show w.heap.size + 1 < _; omega)).trans h.1.out.2.2.2.2⟩
theorem FitS.lt {w : World} {ao bo : Option Addr} {dl ca n cb : Nat} {S L : Int} {W : World} (h : FitS w ao bo dl ca n cb S L W) : w.heap.size + 2 ≤ W.heap.size := h.1.out.2.2.1
/-- The two boxes at the head of a call. -/
theorem FitS.new (w : World) (ao bo : Option Addr) (dl ca n cb : Nat) (S L : Int) (t1 t2 : TypeId) : FitS w ao bo dl ca n cb S L ((w.alloc (.cells #[.slice ao dl ca, .slice bo n cb] t1)).alloc (.cells #[.int .i64 S, .int .i64 L] t2)) := by
  refine FitS.mk (((Below.refl _ _).alloc (Nat.le_refl _) _).alloc (by simp) _) ((Box2.new w _ _ _).below ((Below.refl _ _).alloc (Nat.le_refl _) _)) ?_
  have := Box2.new (w.alloc (.cells #[.slice ao dl ca, .slice bo n cb] t1)) (.int .i64 S) (.int .i64 L) t2
  simpa using this




end Go.Proofs.YtmgolinleiahpaaDoor

namespace Go.Proofs.YtmgolinleiahpaaDoor
open Go.RowKit

/-- A stretch of a row of the call's own. -/
def OwnO (w : World) (base : Nat) (v : Value) (xs : List Int) : Prop :=
  (v = .slice none 0 0 ∧ xs = []) ∨ ∃ g o cap N C ys, v = .slice (some ⟨g, o, none⟩) xs.length cap ∧ Own .u8 5 w base (.slice (some ⟨g, 0, none⟩) N C) ys ∧ ys.length = N ∧ o + xs.length ≤ N ∧ (∀ i, i < xs.length → ys.getD (o + i) 0 = xs.getD i 0) ∧ xs.length ≤ cap ∧ cap ≤ maxLen

theorem OwnO.rd {w : World} {base : Nat} {v : Value} {xs : List Int} (h : OwnO w base v xs) : Rd .u8 w v xs := by
  rcases h with ⟨rfl, rfl⟩ | ⟨g, o, cap, N, C, ys, rfl, ho, hy, hN, hg, h1, h2⟩
  · exact ⟨none, 0, rfl, Nat.le_refl _, Nat.zero_le _, .inl rfl⟩
  · have hr := ho.rd
    obtain ⟨ao, c, e, r1, r2, r3⟩ := hr
    refine ⟨_, cap, rfl, h1, h2, ?_⟩
    by_cases hz : xs = []
    · exact .inl hz
    · right
      have hpos : 0 < xs.length := List.length_pos_iff.2 hz
      simp only [Value.slice.injEq] at e
      obtain ⟨rfl, -, rfl⟩ := e
      rcases r3 with r3 | ⟨b, o', e2, hb, hc⟩
      · subst r3; simp at hy; omega
      · simp only [Option.some.injEq, Addr.mk.injEq] at e2
        obtain ⟨rfl, rfl, -⟩ := e2
        refine ⟨g, o, rfl, hb, fun i hi => ?_⟩
        have := hc (o + i) (by omega)
        rw [Nat.zero_add, hg i hi] at this
        exact this

theorem OwnO.lt {w : World} {base : Nat} {v : Value} {xs : List Int} (h : OwnO w base v xs) : ∀ k, v.ownBlock = some k → base ≤ k ∧ k < w.heap.size := by
  intro k hk
  rcases h with ⟨rfl, rfl⟩ | ⟨g, o, cap, N, C, ys, rfl, ho, _⟩
  · simp [Value.ownBlock] at hk
  · exact ho.lt k hk

theorem OwnO.mono {w : World} {base base' : Nat} {v : Value} {xs : List Int} (h : OwnO w base v xs) (hb : base' ≤ base) : OwnO w base' v xs := by
  rcases h with h | ⟨g, o, cap, N, C, ys, e, ho, r⟩
  · exact .inl h
  · exact .inr ⟨g, o, cap, N, C, ys, e, ho.mono hb, r⟩

theorem OwnO.below {w w' : World} {base : Nat} {v : Value} {xs : List Int} (h : OwnO w base v xs) (hb : Below w.heap.size w w') : OwnO w' base v xs := by
  rcases h with h | ⟨g, o, cap, N, C, ys, e, ho, r⟩
  · exact .inl h
  · exact .inr ⟨g, o, cap, N, C, ys, e, ho.below hb, r⟩

end Go.Proofs.YtmgolinleiahpaaDoor

namespace Go.Proofs.YtmgolinleiahpaaDoor
open Go.RowKit

/-- The boxes of the configuration and of the answer. -/
def RunS (w : World) (S L : Int) (W : World) : Prop :=
  Hid (Below w.heap.size w W ∧ Box2 W w.heap.size (.int .i64 S) (.int .i64 L) ∧ ∃ x y, BoxF W (w.heap.size + 1) x y) ∧ W.cell? ⟨w.heap.size, 0, none⟩ = some (.int .i64 S) ∧ W.cell? ⟨w.heap.size, 1, none⟩ = some (.int .i64 L)
theorem RunS.below {w : World} {S L : Int} {W W' : World} (h : RunS w S L W) (hb : Below W.heap.size W W') : RunS w S L W' := by
  obtain ⟨x, y, hx⟩ := h.1.out.2.2
  exact ⟨⟨h.1.out.1.trans (hb.mono h.1.out.1.size), h.1.out.2.1.below hb, x, y, hx.below hb⟩, (h.1.out.2.1.below hb).2.1, (h.1.out.2.1.below hb).2.2⟩
theorem RunS.new (w : World) (S L : Int) (t1 t2 : TypeId) : RunS w S L ((w.alloc (.cells #[.int .i64 S, .int .i64 L] t1)).alloc (.cells #[.int .i64 0, .int .i64 0] t2)) := by
  have h1 := (Box2.new w (.int .i64 S) (.int .i64 L) t1).below ((Below.refl _ _).alloc (Nat.le_refl _) (.cells #[.int .i64 0, .int .i64 0] t2))
  have h2 := BoxF.new (w.alloc (.cells #[.int .i64 S, .int .i64 L] t1)) (.int .i64 0) (.int .i64 0) t2
  exact ⟨⟨((Below.refl _ _).alloc (Nat.le_refl _) _).alloc (by simp) _, h1, _, _, by simpa using h2⟩, h1.2.1, h1.2.2⟩
theorem BoxF.stored {W : World} {b : Nat} {x y : Value} (h : BoxF W b x y) (u v : Value) : BoxF ((W.setCell ⟨b, 0, none⟩ u).setCell ⟨b, 1, none⟩ v) b u v := by
  obtain ⟨⟨z, c0, c1⟩, f0, f1⟩ := h
  exact ⟨⟨by simpa using z, by go_simp, by go_simp⟩, by simpa using f0, by simpa using f1⟩
theorem RunS.stored {w : World} {S L : Int} {W : World} (h : RunS w S L W) (u v : Value) : Box2 ((W.setCell ⟨w.heap.size + 1, 0, none⟩ u).setCell ⟨w.heap.size + 1, 1, none⟩ v) (w.heap.size + 1) u v := by
  obtain ⟨x, y, hx⟩ := h.1.out.2.2
  exact (hx.stored u v).1
theorem RunS.store {w : World} {S L : Int} {W : World} (h : RunS w S L W) (u v : Value) : RunS w S L ((W.setCell ⟨w.heap.size + 1, 0, none⟩ u).setCell ⟨w.heap.size + 1, 1, none⟩ v) := by
  obtain ⟨x, y, hx⟩ := h.1.out.2.2
  have hb : Below (w.heap.size + 1) W ((W.setCell ⟨w.heap.size + 1, 0, none⟩ u).setCell ⟨w.heap.size + 1, 1, none⟩ v) := by
    refine Below.setCell (Below.setCell (Below.refl _ _) ?_ _) ?_ _ <;> exact Nat.le_refl _
  have b1 := h.1.out.2.1
  have b2 : Box2 ((W.setCell ⟨w.heap.size + 1, 0, none⟩ u).setCell ⟨w.heap.size + 1, 1, none⟩ v) w.heap.size (.int .i64 S) (.int .i64 L) := ⟨Nat.lt_of_lt_of_le b1.1 hb.size, (hb.cell (p := ⟨w.heap.size, 0, none⟩) (by show w.heap.size < _; omega)).trans b1.2.1, (hb.cell (p := ⟨w.heap.size, 1, none⟩) (by show w.heap.size < _; omega)).trans b1.2.2⟩
  exact ⟨⟨h.1.out.1.trans (hb.mono (by omega)), b2, u, v, hx.stored u v⟩, b2.2.1, b2.2.2⟩

set_option linter.unusedSimpArgs false in
set_option maxRecDepth 100000 in
set_option maxHeartbeats 1000000 in
theorem snapArea_any (w : World) (S L bank : Int) (hc : cfgOk S L = true) (hb : 0 ≤ bank ∧ bank ≤ 1) :
    Calls Tryd.prog 43 #[.agg #[.int .i64 S, .int .i64 L], .int .i64 bank] w fun e w' => e = .returned (.agg #[.int .i64 (arF S L bank false), .int .i64 (arL S L false)]) ∧ Below w.heap.size w w' := by
  obtain ⟨⟨hS1, hS2⟩, hL1, hL2⟩ := (cfgOk_iff S L).1 hc
  clear hc
  have hb' : bank = 0 ∨ bank = 1 := by omega
  have HA : Hid (arF S L bank false = 2 + bank * (S + L) ∧ arL S L false = S) := by unfold arF arL; exact ⟨by simp, rfl⟩
  have hm : 0 ≤ bank * (S + L) ∧ bank * (S + L) ≤ 128 := by rcases hb' with rfl | rfl <;> omega
  rw [HA.out.1, HA.out.2]
  go_enter Tryd.func43, Tryd.ntmps43
  go_wp2_with fail
  have F0 : Hid (RunS w S L ((w.alloc (.cells #[.int .i64 S, .int .i64 L] 29)).alloc (.cells #[.int .i64 0, .int .i64 0] 72))) := RunS.new _ _ _ _ _
  generalize (w.alloc (.cells #[.int .i64 S, .int .i64 L] 29)).alloc (.cells #[.int .i64 0, .int .i64 0] 72) = w0 at *
  refine wp_region_held_drew (S := RunS w S L) (by kernel_rfl) (F0.out.below (below_drewN' w0 1)) (fun hHeld => ?_)
  refine wpAnyH_take (i := 0) (oi := { dst := some 5, op := _, type := _, pos := _, after := _, guard := _ }) (v := ?v9) rfl (by kernel_rfl) (by kernel_rfl) (by kernel_rfl) (fun _ _ _ h => h) (Or.inl ⟨by rfl, ?hy9⟩) (by assumption) ?rest9
  case hy9 =>
    intro w9 hS9
    obtain ⟨-, k0, k1⟩ := hS9
    go_simp
    try with_reducible rfl
  try simp only [Act.put, List.setIfInBounds_toArray, List.set_cons_zero, List.set_cons_succ]
  refine wpAnyH_take (i := 1) (oi := { dst := some 6, op := _, type := _, pos := _, after := _, guard := _ }) (v := ?v10) rfl (by kernel_rfl) (by kernel_rfl) (by kernel_rfl) (fun _ _ _ h => h) (Or.inl ⟨by rfl, ?hy10⟩) (by assumption) ?rest10
  case hy10 =>
    intro w9 hS9
    obtain ⟨-, k0, k1⟩ := hS9
    go_simp
    try with_reducible rfl
  try simp only [Act.put, List.setIfInBounds_toArray, List.set_cons_zero, List.set_cons_succ]
  refine wpAnyH_take (i := 5) (oi := { dst := some 10, op := _, type := _, pos := _, after := _, guard := _ }) (v := ?v11) rfl (by kernel_rfl) (by kernel_rfl) (by kernel_rfl) (fun _ _ _ h => h) (Or.inl ⟨by rfl, ?hy11⟩) (by assumption) ?rest11
  case hy11 =>
    intro w9 hS9
    obtain ⟨-, k0, k1⟩ := hS9
    go_simp
    try with_reducible rfl
  try simp only [Act.put, List.setIfInBounds_toArray, List.set_cons_zero, List.set_cons_succ]
  refine wpAnyH_take (i := 6) (oi := { dst := some 11, op := _, type := _, pos := _, after := _, guard := _ }) (v := ?v12) rfl (by kernel_rfl) (by kernel_rfl) (by kernel_rfl) (fun _ _ _ h => h) (Or.inl ⟨by rfl, ?hy12⟩) (by assumption) ?rest12
  case hy12 =>
    intro w9 hS9
    obtain ⟨-, k0, k1⟩ := hS9
    go_simp
    try with_reducible rfl
  try simp only [Act.put, List.setIfInBounds_toArray, List.set_cons_zero, List.set_cons_succ]
  refine wpAnyH_ready (rs := [2]) (by kernel_rfl) (by simp) ?_
  refine AllReadyH.cons (o := { dst := some 7, op := _, type := _, pos := _, after := _, guard := _ }) rfl (fun K hK => ?_) AllReadyH.nil
  go_simp
  refine (bankBlocks_any _ S L hS1 hS2 hL1 hL2).mono ?_
  rintro e w2 ⟨rfl, b2⟩
  have F2 : Hid (RunS w S L w2) := hHeld.below b2
  clear b2
  refine hK.out _ _ (F2.out) (fun hx9 => ?_)
  clear hK K hHeld hx9
  have hHeld := F2.out
  try simp only [Act.put, List.setIfInBounds_toArray, List.set_cons_zero, List.set_cons_succ]
  refine wpAnyH_take (i := 3) (oi := { dst := some 8, op := _, type := _, pos := _, after := _, guard := _ }) (v := (.int .i64 (bank * (S + L)))) rfl (by kernel_rfl) (by kernel_rfl) (by kernel_rfl) (fun _ _ _ h => h) (Or.inl ⟨by rfl, ?hy13⟩) (by assumption) ?rest13
  case hy13 =>
    intro w9 hS9
    go_simp
    try (rw [IntKind.wrap_i64]; omega)
  try simp only [Act.put, List.setIfInBounds_toArray, List.set_cons_zero, List.set_cons_succ]
  refine wpAnyH_take (i := 4) (oi := { dst := some 9, op := _, type := _, pos := _, after := _, guard := _ }) (v := (.int .i64 (2 + bank * (S + L)))) rfl (by kernel_rfl) (by kernel_rfl) (by kernel_rfl) (fun _ _ _ h => h) (Or.inl ⟨by rfl, ?hy14⟩) (by assumption) ?rest14
  case hy14 =>
    intro w9 hS9
    go_simp
    try (rw [IntKind.wrap_i64]; omega)
  try simp only [Act.put, List.setIfInBounds_toArray, List.set_cons_zero, List.set_cons_succ]
  refine wpAnyH_take (i := 7) (oi := { dst := some 12, op := _, type := _, pos := _, after := _, guard := _ }) (v := ?v15) rfl (by kernel_rfl) (by kernel_rfl) (by kernel_rfl) (fun _ _ _ h => h) (Or.inl ⟨by rfl, ?hy15⟩) (by assumption) ?rest15
  case hy15 =>
    intro w9 hS9
    obtain ⟨-, k0, k1⟩ := hS9
    go_simp
    try with_reducible rfl
  try simp only [Act.put, List.setIfInBounds_toArray, List.set_cons_zero, List.set_cons_succ]
  refine wpAnyH_ready (rs := [8]) (by kernel_rfl) (by simp) ?_
  refine AllReadyH.cons (o := { dst := none, op := _, type := _, pos := _, after := _, guard := _ }) rfl (fun K hK => ?_) AllReadyH.nil
  obtain ⟨x9, y9, bx9⟩ := F2.out.1.out.2.2
  obtain ⟨⟨z9, d0, d1⟩, f0, f1⟩ := bx9
  go_simp
  have F3 : Hid (RunS w S L ((w2.setCell ⟨w.heap.size + 1, 0, none⟩ (.int .i64 (2 + bank * (S + L)))).setCell ⟨w.heap.size + 1, 1, none⟩ (.int .i64 S))) := F2.out.store _ _
  have X3 : Hid (Box2 ((w2.setCell ⟨w.heap.size + 1, 0, none⟩ (.int .i64 (2 + bank * (S + L)))).setCell ⟨w.heap.size + 1, 1, none⟩ (.int .i64 S)) (w.heap.size + 1) (.int .i64 (2 + bank * (S + L))) (.int .i64 S)) := F2.out.stored _ _
  clear d0 d1 f0 f1 z9 F2
  generalize ((w2.setCell ⟨w.heap.size + 1, 0, none⟩ (.int .i64 (2 + bank * (S + L)))).setCell ⟨w.heap.size + 1, 1, none⟩ (.int .i64 S)) = w3 at *
  refine hK.out _ _ (F3.out) (fun hx9 => ?_)
  clear hK K hHeld hx9
  have hHeld := F3.out
  try simp only [Act.put, List.setIfInBounds_toArray, List.set_cons_zero, List.set_cons_succ]
  refine wpAnyH_done (by kernel_rfl) ?_ _
  clear hHeld
  obtain ⟨-, d0, d1⟩ := X3.out
  go_wp2
  refine bodyPost_ret (v := .agg #[.int .i64 (2 + bank * (S + L)), .int .i64 S]) (by simp [results, Tryd.results43, go_sem, d0, d1]) rfl ⟨rfl, F3.out.1.out.1⟩

theorem field_diskA (x y : Value) (W : World) : (Instr.field 27 (.agg #[x, y]) 0).run Tryd.prog W = .ok x W := by kernel_rfl
theorem field_run (x y : Value) (W : World) : (Instr.field 72 (.agg #[x, y]) 0).run Tryd.prog W = .ok x W := by kernel_rfl

set_option linter.unusedSimpArgs false in
set_option maxRecDepth 100000 in
set_option maxHeartbeats 1000000 in
theorem logArea_any (w : World) (S L bank : Int) (hc : cfgOk S L = true) (hb : 0 ≤ bank ∧ bank ≤ 1) :
    Calls Tryd.prog 62 #[.agg #[.int .i64 S, .int .i64 L], .int .i64 bank] w fun e w' => e = .returned (.agg #[.int .i64 (arF S L bank true), .int .i64 (arL S L true)]) ∧ Below w.heap.size w w' := by
  obtain ⟨⟨hS1, hS2⟩, hL1, hL2⟩ := (cfgOk_iff S L).1 hc
  have HC : Hid (cfgOk S L = true ∧ 0 ≤ bank ∧ bank ≤ 1) := ⟨hc, hb⟩
  clear hc
  have hb' : bank = 0 ∨ bank = 1 := by omega
  have HA : Hid (arF S L bank true = arF S L bank false + S ∧ arL S L true = L) := by unfold arF arL; exact ⟨by simp, rfl⟩
  have hm : 2 ≤ arF S L bank false ∧ arF S L bank false ≤ 130 := by unfold arF; rcases hb' with rfl | rfl <;> simp <;> omega
  rw [HA.out.1, HA.out.2]
  have HSN : Hid (∀ W, Calls Tryd.prog 43 #[.agg #[.int .i64 S, .int .i64 L], .int .i64 bank] W fun e w' => e = .returned (.agg #[.int .i64 (arF S L bank false), .int .i64 (arL S L false)]) ∧ Below W.heap.size W w') := fun W => snapArea_any W S L bank HC.out.1 HC.out.2
  generalize arF S L bank false = q at *
  generalize arL S L false = q2 at *
  clear hb hb'
  go_enter Tryd.func62, Tryd.ntmps62
  go_wp2_with fail
  have F0 : Hid (RunS w S L ((w.alloc (.cells #[.int .i64 S, .int .i64 L] 29)).alloc (.cells #[.int .i64 0, .int .i64 0] 72))) := RunS.new _ _ _ _ _
  generalize (w.alloc (.cells #[.int .i64 S, .int .i64 L] 29)).alloc (.cells #[.int .i64 0, .int .i64 0] 72) = w0 at *
  refine wp_region_held_drew (S := RunS w S L) (by kernel_rfl) (F0.out.below (below_drewN' w0 1)) (fun hHeld => ?_)
  refine wpAnyH_take (i := 0) (oi := { dst := some 5, op := _, type := _, pos := _, after := _, guard := _ }) (v := ?v16) rfl (by kernel_rfl) (by kernel_rfl) (by kernel_rfl) (fun _ _ _ h => h) (Or.inl ⟨by rfl, ?hy16⟩) (by assumption) ?rest16
  case hy16 =>
    intro w9 hS9
    obtain ⟨-, k0, k1⟩ := hS9
    go_simp
    try with_reducible rfl
  try simp only [Act.put, List.setIfInBounds_toArray, List.set_cons_zero, List.set_cons_succ]
  refine wpAnyH_take (i := 1) (oi := { dst := some 6, op := _, type := _, pos := _, after := _, guard := _ }) (v := ?v17) rfl (by kernel_rfl) (by kernel_rfl) (by kernel_rfl) (fun _ _ _ h => h) (Or.inl ⟨by rfl, ?hy17⟩) (by assumption) ?rest17
  case hy17 =>
    intro w9 hS9
    obtain ⟨-, k0, k1⟩ := hS9
    go_simp
    try with_reducible rfl
  try simp only [Act.put, List.setIfInBounds_toArray, List.set_cons_zero, List.set_cons_succ]
  refine wpAnyH_take (i := 4) (oi := { dst := some 9, op := _, type := _, pos := _, after := _, guard := _ }) (v := ?v18) rfl (by kernel_rfl) (by kernel_rfl) (by kernel_rfl) (fun _ _ _ h => h) (Or.inl ⟨by rfl, ?hy18⟩) (by assumption) ?rest18
  case hy18 =>
    intro w9 hS9
    obtain ⟨-, k0, k1⟩ := hS9
    go_simp
    try with_reducible rfl
  try simp only [Act.put, List.setIfInBounds_toArray, List.set_cons_zero, List.set_cons_succ]
  refine wpAnyH_take (i := 5) (oi := { dst := some 10, op := _, type := _, pos := _, after := _, guard := _ }) (v := ?v19) rfl (by kernel_rfl) (by kernel_rfl) (by kernel_rfl) (fun _ _ _ h => h) (Or.inl ⟨by rfl, ?hy19⟩) (by assumption) ?rest19
  case hy19 =>
    intro w9 hS9
    obtain ⟨-, k0, k1⟩ := hS9
    go_simp
    try with_reducible rfl
  try simp only [Act.put, List.setIfInBounds_toArray, List.set_cons_zero, List.set_cons_succ]
  refine wpAnyH_take (i := 7) (oi := { dst := some 12, op := _, type := _, pos := _, after := _, guard := _ }) (v := ?v20) rfl (by kernel_rfl) (by kernel_rfl) (by kernel_rfl) (fun _ _ _ h => h) (Or.inl ⟨by rfl, ?hy20⟩) (by assumption) ?rest20
  case hy20 =>
    intro w9 hS9
    obtain ⟨-, k0, k1⟩ := hS9
    go_simp
    try with_reducible rfl
  try simp only [Act.put, List.setIfInBounds_toArray, List.set_cons_zero, List.set_cons_succ]
  refine wpAnyH_take (i := 8) (oi := { dst := some 13, op := _, type := _, pos := _, after := _, guard := _ }) (v := ?v21) rfl (by kernel_rfl) (by kernel_rfl) (by kernel_rfl) (fun _ _ _ h => h) (Or.inl ⟨by rfl, ?hy21⟩) (by assumption) ?rest21
  case hy21 =>
    intro w9 hS9
    obtain ⟨-, k0, k1⟩ := hS9
    go_simp
    try with_reducible rfl
  try simp only [Act.put, List.setIfInBounds_toArray, List.set_cons_zero, List.set_cons_succ]
  refine wpAnyH_ready (rs := [2]) (by kernel_rfl) (by simp) ?_
  refine AllReadyH.cons (o := { dst := some 7, op := _, type := _, pos := _, after := _, guard := _ }) rfl (fun K hK => ?_) AllReadyH.nil
  go_simp
  refine (HSN.out _).mono ?_
  rintro e w2 ⟨rfl, b2⟩
  have F2 : Hid (RunS w S L w2) := hHeld.below b2
  clear b2
  refine hK.out _ _ (F2.out) (fun hx9 => ?_)
  clear hK K hHeld hx9
  have hHeld := F2.out
  try simp only [Act.put, List.setIfInBounds_toArray, List.set_cons_zero, List.set_cons_succ]
  refine wpAnyH_take (i := 3) (oi := { dst := some 8, op := _, type := _, pos := _, after := _, guard := _ }) (v := (.int .i64 q)) rfl (by kernel_rfl) (by kernel_rfl) (by kernel_rfl) (fun _ _ _ h => h) (Or.inl ⟨by rfl, ?hy22⟩) (by assumption) ?rest22
  case hy22 =>
    intro w9 hS9
    have hf9 := field_run (.int .i64 q) (.int .i64 q2) w9
    go_simp
  try simp only [Act.put, List.setIfInBounds_toArray, List.set_cons_zero, List.set_cons_succ]
  refine wpAnyH_take (i := 6) (oi := { dst := some 11, op := _, type := _, pos := _, after := _, guard := _ }) (v := (.int .i64 (q + S))) rfl (by kernel_rfl) (by kernel_rfl) (by kernel_rfl) (fun _ _ _ h => h) (Or.inl ⟨by rfl, ?hy23⟩) (by assumption) ?rest23
  case hy23 =>
    intro w9 hS9
    go_simp
    try (rw [IntKind.wrap_i64]; omega)
  try simp only [Act.put, List.setIfInBounds_toArray, List.set_cons_zero, List.set_cons_succ]
  refine wpAnyH_take (i := 9) (oi := { dst := some 14, op := _, type := _, pos := _, after := _, guard := _ }) (v := ?v24) rfl (by kernel_rfl) (by kernel_rfl) (by kernel_rfl) (fun _ _ _ h => h) (Or.inl ⟨by rfl, ?hy24⟩) (by assumption) ?rest24
  case hy24 =>
    intro w9 hS9
    obtain ⟨-, k0, k1⟩ := hS9
    go_simp
    try with_reducible rfl
  try simp only [Act.put, List.setIfInBounds_toArray, List.set_cons_zero, List.set_cons_succ]
  refine wpAnyH_ready (rs := [10]) (by kernel_rfl) (by simp) ?_
  refine AllReadyH.cons (o := { dst := none, op := _, type := _, pos := _, after := _, guard := _ }) rfl (fun K hK => ?_) AllReadyH.nil
  obtain ⟨x9, y9, bx9⟩ := F2.out.1.out.2.2
  obtain ⟨⟨z9, d0, d1⟩, f0, f1⟩ := bx9
  go_simp
  have F3 : Hid (RunS w S L ((w2.setCell ⟨w.heap.size + 1, 0, none⟩ (.int .i64 (q + S))).setCell ⟨w.heap.size + 1, 1, none⟩ (.int .i64 L))) := F2.out.store _ _
  have X3 : Hid (Box2 ((w2.setCell ⟨w.heap.size + 1, 0, none⟩ (.int .i64 (q + S))).setCell ⟨w.heap.size + 1, 1, none⟩ (.int .i64 L)) (w.heap.size + 1) (.int .i64 (q + S)) (.int .i64 L)) := F2.out.stored _ _
  clear d0 d1 f0 f1 z9 F2
  generalize ((w2.setCell ⟨w.heap.size + 1, 0, none⟩ (.int .i64 (q + S))).setCell ⟨w.heap.size + 1, 1, none⟩ (.int .i64 L)) = w3 at *
  refine hK.out _ _ (F3.out) (fun hx9 => ?_)
  clear hK K hHeld hx9
  have hHeld := F3.out
  try simp only [Act.put, List.setIfInBounds_toArray, List.set_cons_zero, List.set_cons_succ]
  refine wpAnyH_done (by kernel_rfl) ?_ _
  clear hHeld
  obtain ⟨-, d0, d1⟩ := X3.out
  go_wp2
  refine bodyPost_ret (v := .agg #[.int .i64 (q + S), .int .i64 L]) (by simp [results, Tryd.results62, go_sem, d0, d1]) rfl ⟨rfl, F3.out.1.out.1⟩

set_option maxHeartbeats 1000000 in
theorem areaOf_any (w : World) (g N C f l : Nat) (hfl : (f + l) * 64 ≤ N) (hl1 : 1 ≤ l) (hN : N ≤ C) (hN3 : N ≤ 1048576) :
    Calls Tryd.prog 44 #[.agg #[.int .i64 (f : Int), .int .i64 (l : Int)], .slice (some ⟨g, 0, none⟩) N C] w fun e w' => e = .returned (.slice (some ⟨g, f * 64, none⟩) (l * 64) (C - f * 64)) ∧ Below w.heap.size w w' := by
  have B0 : Hid (Below w.heap.size w (w.alloc (.cells #[.int .i64 (f : Int), .int .i64 (l : Int)] 72))) := (Below.refl _ _).alloc (Nat.le_refl _) _
  have hne : ¬ C = f * 64 := by omega
  have HE : Hid ((f + l) * 64 - f * 64 = l * 64) := by show _ = _; omega
  go_enter Tryd.func44, Tryd.ntmps44
  go_wp2
  go_ret
  rw [HE.out]
  exact ⟨rfl, B0.out⟩

set_option maxRecDepth 100000 in
set_option maxHeartbeats 1000000 in
theorem readAll_any (w : World) (v1 v2 : Value) (dur : List Int) (ps : List (Int × List Int)) (hd : Rd .u8 w v1 dur) (hp : RdW w v2 ps) (hdl : dur.length ≤ 1048576) (hn : ps.length ≤ 1048576) (hpd : ∀ i, (pD ps i).length ≤ 1048576) :
    Calls Tryd.prog 63 #[.agg #[v1, v2]] w fun e w' => ∃ u, e = .returned u ∧ Own .u8 5 w' w.heap.size u (syD dur ps) ∧ Below w.heap.size w w' := by
  obtain ⟨va, ca, rfl, -⟩ := hd.len
  obtain ⟨vb, cb, rfl, -⟩ := id hp
  have HD : Hid (Rd .u8 w (.slice va dur.length ca) dur) := hd
  have HP : Hid (RdW w (.slice vb ps.length cb) ps) := hp
  have HPD : Hid (∀ i, (pD ps i).length ≤ 1048576) := hpd
  have B0 : Hid (Below w.heap.size w (w.alloc (.cells #[.slice va dur.length ca, .slice vb ps.length cb] 27))) := (Below.refl _ _).alloc (Nat.le_refl _) _
  clear hd hp hpd
  go_enter Tryd.func63, Tryd.ntmps63
  go_wp2_with fail
  generalize w.alloc (.cells #[.slice va dur.length ca, .slice vb ps.length cb] 27) = w0 at *
  refine (implSync_any _ _ _ dur ps (HD.out.below B0.out) (HP.out.below B0.out) hdl hn HPD.out).mono ?_
  rintro e w1 ⟨u, rfl, o1, b1⟩
  have O1 : Hid (Own .u8 5 w1 w.heap.size u (syD dur ps)) := o1.mono B0.out.size
  have B1 : Hid (Below w.heap.size w w1) := B0.out.trans (b1.mono B0.out.size)
  clear o1 b1 B0
  have hf9 := field_diskA u (.slice none 0 0) w1
  go_wp2
  go_ret
  exact ⟨_, rfl, O1.out, B1.out⟩

theorem arN_getD (D : List Int) (f l i : Nat) (hi : i < l * 64) : D.getD (f * 64 + i) 0 = (arN D f l).getD i 0 := by
  unfold arN
  rw [List.getD_eq_getElem?_getD, List.getD_eq_getElem?_getD, List.getElem?_take_of_lt hi, List.getElem?_drop]

set_option linter.unusedSimpArgs false in
set_option maxHeartbeats 2000000 in
set_option maxRecDepth 100000 in
theorem implArea_yes (w : World) (ao bo : Option Addr) (dl ca n cb : Nat) (dur : List Int) (ps : List (Int × List Int)) (S L bank : Int) (log : Bool) (hd : Rd .u8 w (.slice ao dl ca) dur) (hdl : dur.length = dl) (hp : RdW w (.slice bo n cb) ps) (hl : ps.length = n) (hd1 : dl ≤ 1048576) (hn : n ≤ 1048576) (hpd : ∀ i, (pD ps i).length ≤ 1048576)
    (hok : arOk S L dl ps bank = true) :
    Calls Tryd.prog 19 #[.agg #[.slice ao dl ca, .slice bo n cb], .agg #[.int .i64 S, .int .i64 L], .int .i64 bank, .bool log] w fun e w' => ∃ v', e = .returned v' ∧ OwnO w' w.heap.size v' (arN (syD dur ps) (arF S L bank log).toNat (arL S L log).toNat) ∧ Below w.heap.size w w' := by
  have HD : Hid (Rd .u8 w (.slice ao dl ca) dur) := hd
  have HDL : Hid (dur.length = dl) := hdl
  have HP : Hid (RdW w (.slice bo n cb) ps) := hp
  have HL : Hid (ps.length = n) := hl
  have HPD : Hid (∀ i, (pD ps i).length ≤ 1048576) := hpd
  obtain ⟨f, l, hf, hl', hf2, hl1, hl2, hfl, hfl2, hdm⟩ := ar_in (log := log) hok
  have h1 := ((arOk_iff ..).1 hok).1
  have hb0 := ((arOk_iff ..).1 hok).2.1
  have hb1 := ((arOk_iff ..).1 hok).2.2
  have HF : Hid (fitD S L dl ps = true) := h1
  have HC : Hid (cfgOk S L = true) := ((fitD_iff ..).1 h1).1
  have HV : Hid (vldD dl ps = true) := ((fitD_iff ..).1 h1).2.1
  rw [hf, hl', Int.toNat_natCast, Int.toNat_natCast]
  have HSL : Hid ((syD dur ps).length = dl) := by show _ = _; rw [syD_length (by rw [HDL.out]; exact HV.out), HDL.out]
  have HLN : Hid ((arN (syD dur ps) f l).length = l * 64) := arN_length _ _ _ (by rw [HSL.out]; exact hfl2)
  have HRA : Hid (∀ (W : World), FitS w ao bo dl ca n cb S L W → Calls Tryd.prog 63 #[.agg #[.slice ao dl ca, .slice bo n cb]] W fun e w' => ∃ g c, e = .returned (.slice (some ⟨g, 0, none⟩) dl c) ∧ Hid (Own .u8 5 w' w.heap.size (.slice (some ⟨g, 0, none⟩) dl c) (syD dur ps)) ∧ (dl ≤ c ∧ c ≤ maxLen) ∧ Below W.heap.size W w') := by
    intro W hF
    refine (readAll_any W _ _ dur ps (HD.out.below hF.1.out.1) (HP.out.below hF.1.out.1) (by rw [HDL.out]; exact hd1) (by rw [HL.out]; exact hn) HPD.out).mono ?_
    rintro e w' ⟨u, rfl, o, b⟩
    have hlt := hF.lt
    rcases o.row with ⟨rfl, h0⟩ | ⟨g, c, rfl, hg, h1, h2⟩
    · have := HSL.out; rw [h0] at this; simp at this; omega
    · rw [HSL.out] at o h1 ⊢
      exact ⟨g, c, rfl, o.mono (by omega), ⟨h1, h2⟩, b⟩
  have HOO : Hid (∀ (W : World) (g c : Nat), Own .u8 5 W w.heap.size (.slice (some ⟨g, 0, none⟩) dl c) (syD dur ps) → dl ≤ c → c ≤ maxLen → OwnO W w.heap.size (.slice (some ⟨g, f * 64, none⟩) (l * 64) (c - f * 64)) (arN (syD dur ps) f l)) := by
    intro W g c h h1 h2
    refine .inr ⟨g, f * 64, c - f * 64, dl, c, syD dur ps, by rw [HLN.out], h, HSL.out, by rw [HLN.out]; omega, fun i hi => ?_, by rw [HLN.out]; omega, by omega⟩
    rw [HLN.out] at hi
    exact arN_getD _ _ _ _ hi
  have HAR : Hid (∀ W, (log = true → Calls Tryd.prog 62 #[.agg #[.int .i64 S, .int .i64 L], .int .i64 bank] W fun e w' => e = .returned (.agg #[.int .i64 (f : Int), .int .i64 (l : Int)]) ∧ Below W.heap.size W w') ∧
      (log = false → Calls Tryd.prog 43 #[.agg #[.int .i64 S, .int .i64 L], .int .i64 bank] W fun e w' => e = .returned (.agg #[.int .i64 (f : Int), .int .i64 (l : Int)]) ∧ Below W.heap.size W w')) := by
    intro W
    rw [← hf, ← hl']
    exact ⟨fun e => by subst e; exact logArea_any W S L bank HC.out ⟨hb0, hb1⟩, fun e => by subst e; exact snapArea_any W S L bank HC.out ⟨hb0, hb1⟩⟩
  clear hd hdl hp hl hpd hok h1 hf hl'
  go_enter Tryd.func19, Tryd.ntmps19
  go_wp2_with fail
  have F1 : Hid (FitS w ao bo dl ca n cb S L ((w.alloc (.cells #[.slice ao dl ca, .slice bo n cb] 27)).alloc (.cells #[.int .i64 S, .int .i64 L] 29))) := FitS.new _ _ _ _ _ _ _ _ _ _ _
  generalize (w.alloc (.cells #[.slice ao dl ca, .slice bo n cb] 27)).alloc (.cells #[.int .i64 S, .int .i64 L] 29) = w1 at *
  refine (isLaidOut_any _ ao bo dl ca n cb ps S L (HP.out.below F1.out.1.out.1) HL.out hd1 hn HPD.out).mono ?_
  rintro e w2 ⟨rfl, b2⟩
  rw [HF.out]
  have F2 : Hid (FitS w ao bo dl ca n cb S L w2) := F1.out.below b2
  clear F1 b2
  have t0 : ¬ bank < 0 := by omega
  have t0d : decide (bank < 0) = false := by simpa using t0
  have t1 : ¬ 2 ≤ bank := by omega
  have t1d : decide (2 ≤ bank) = false := by simpa using t1
  have HL1 : Hid (∀ W, FitS w ao bo dl ca n cb S L W → True) := fun _ _ => trivial
  cases log with
  | true =>
    replace HAR : Hid (∀ W, Calls Tryd.prog 62 #[.agg #[.int .i64 S, .int .i64 L], .int .i64 bank] W fun e w' => e = .returned (.agg #[.int .i64 (f : Int), .int .i64 (l : Int)]) ∧ Below W.heap.size W w') := fun W => (HAR.out W).1 rfl
    · go_wp2_with fail
      refine wp_region_held_drew (S := FitS w ao bo dl ca n cb S L) (by kernel_rfl) (F2.out.below (below_drewN' w2 1)) (fun hHeld => ?_)
      refine wpAnyH_take (i := 0) (oi := { dst := some 22, op := _, type := _, pos := _, after := _, guard := _ }) (v := ?v25) rfl (by kernel_rfl) (by kernel_rfl) (by kernel_rfl) (fun _ _ _ h => h) (Or.inl ⟨by rfl, ?hy25⟩) (by assumption) ?rest25
      case hy25 =>
        intro w9 hS9
        obtain ⟨-, k0, k1, k2, k3⟩ := hS9
        go_simp
        try with_reducible rfl
      try simp only [Act.put, List.setIfInBounds_toArray, List.set_cons_zero, List.set_cons_succ]
      refine wpAnyH_take (i := 1) (oi := { dst := some 23, op := _, type := _, pos := _, after := _, guard := _ }) (v := ?v26) rfl (by kernel_rfl) (by kernel_rfl) (by kernel_rfl) (fun _ _ _ h => h) (Or.inl ⟨by rfl, ?hy26⟩) (by assumption) ?rest26
      case hy26 =>
        intro w9 hS9
        obtain ⟨-, k0, k1, k2, k3⟩ := hS9
        go_simp
        try with_reducible rfl
      try simp only [Act.put, List.setIfInBounds_toArray, List.set_cons_zero, List.set_cons_succ]
      refine wpAnyH_take (i := 3) (oi := { dst := some 25, op := _, type := _, pos := _, after := _, guard := _ }) (v := ?v27) rfl (by kernel_rfl) (by kernel_rfl) (by kernel_rfl) (fun _ _ _ h => h) (Or.inl ⟨by rfl, ?hy27⟩) (by assumption) ?rest27
      case hy27 =>
        intro w9 hS9
        obtain ⟨-, k0, k1, k2, k3⟩ := hS9
        go_simp
        try with_reducible rfl
      try simp only [Act.put, List.setIfInBounds_toArray, List.set_cons_zero, List.set_cons_succ]
      refine wpAnyH_ready (rs := [2]) (by kernel_rfl) (by simp) ?_
      refine AllReadyH.cons (o := { dst := some 24, op := _, type := _, pos := _, after := _, guard := _ }) rfl (fun K hK => ?_) AllReadyH.nil
      go_simp
      refine (HAR.out _).mono ?_
      rintro e w3 ⟨rfl, b3⟩
      have F3 : Hid (FitS w ao bo dl ca n cb S L w3) := hHeld.below b3
      clear b3
      refine hK.out _ _ (F3.out) (fun hx9 => ?_)
      clear hK K hHeld hx9
      have hHeld := F3.out
      try simp only [Act.put, List.setIfInBounds_toArray, List.set_cons_zero, List.set_cons_succ]
      refine wpAnyH_ready (rs := [4]) (by kernel_rfl) (by simp) ?_
      refine AllReadyH.cons (o := { dst := some 26, op := _, type := _, pos := _, after := _, guard := _ }) rfl (fun K hK => ?_) AllReadyH.nil
      go_simp
      refine (HRA.out _ F3.out).mono ?_
      rintro e w4 ⟨g4, c4, rfl, O4, hc4, b4⟩
      have F4 : Hid (FitS w ao bo dl ca n cb S L w4) := F3.out.below b4
      clear b4 F3
      refine hK.out _ _ (F4.out) (fun hx9 => ?_)
      clear hK K hHeld hx9
      have hHeld := F4.out
      try simp only [Act.put, List.setIfInBounds_toArray, List.set_cons_zero, List.set_cons_succ]
      refine wpAnyH_ready (rs := [5]) (by kernel_rfl) (by simp) ?_
      refine AllReadyH.cons (o := { dst := some 27, op := _, type := _, pos := _, after := _, guard := _ }) rfl (fun K hK => ?_) AllReadyH.nil
      go_simp
      refine (areaOf_any _ g4 dl c4 f l hfl2 hl1 hc4.1 hd1).mono ?_
      rintro e w5 ⟨rfl, b5⟩
      have F5 : Hid (FitS w ao bo dl ca n cb S L w5) := F4.out.below b5
      have O5 : Hid (Own .u8 5 w5 w.heap.size (.slice (some ⟨g4, 0, none⟩) dl c4) (syD dur ps)) := O4.out.below b5
      clear b5 F4 O4
      refine hK.out _ _ (F5.out) (fun hx9 => ?_)
      clear hK K hHeld hx9
      have hHeld := F5.out
      try simp only [Act.put, List.setIfInBounds_toArray, List.set_cons_zero, List.set_cons_succ]
      refine wpAnyH_take (i := 6) (oi := { dst := some 8, op := _, type := _, pos := _, after := _, guard := _ }) (v := ?v28) rfl (by kernel_rfl) (by kernel_rfl) (by kernel_rfl) (fun _ _ _ h => h) (Or.inl ⟨by rfl, ?hy28⟩) (by assumption) ?rest28
      case hy28 =>
        intro w9 hS9
        obtain ⟨-, k0, k1, k2, k3⟩ := hS9
        go_simp
        try with_reducible rfl
      try simp only [Act.put, List.setIfInBounds_toArray, List.set_cons_zero, List.set_cons_succ]
      refine wpAnyH_done (by kernel_rfl) ?_ _
      clear hHeld
      go_wp2
      go_ret
      exact ⟨_, rfl, HOO.out _ _ _ O5.out hc4.1 hc4.2, F5.out.1.out.1⟩
  | false =>
    replace HAR : Hid (∀ W, Calls Tryd.prog 43 #[.agg #[.int .i64 S, .int .i64 L], .int .i64 bank] W fun e w' => e = .returned (.agg #[.int .i64 (f : Int), .int .i64 (l : Int)]) ∧ Below W.heap.size W w') := fun W => (HAR.out W).2 rfl
    · go_wp2_with fail
      refine wp_region_held_drew (S := FitS w ao bo dl ca n cb S L) (by kernel_rfl) (F2.out.below (below_drewN' w2 1)) (fun hHeld => ?_)
      refine wpAnyH_take (i := 0) (oi := { dst := some 28, op := _, type := _, pos := _, after := _, guard := _ }) (v := ?v29) rfl (by kernel_rfl) (by kernel_rfl) (by kernel_rfl) (fun _ _ _ h => h) (Or.inl ⟨by rfl, ?hy29⟩) (by assumption) ?rest29
      case hy29 =>
        intro w9 hS9
        obtain ⟨-, k0, k1, k2, k3⟩ := hS9
        go_simp
        try with_reducible rfl
      try simp only [Act.put, List.setIfInBounds_toArray, List.set_cons_zero, List.set_cons_succ]
      refine wpAnyH_take (i := 1) (oi := { dst := some 29, op := _, type := _, pos := _, after := _, guard := _ }) (v := ?v30) rfl (by kernel_rfl) (by kernel_rfl) (by kernel_rfl) (fun _ _ _ h => h) (Or.inl ⟨by rfl, ?hy30⟩) (by assumption) ?rest30
      case hy30 =>
        intro w9 hS9
        obtain ⟨-, k0, k1, k2, k3⟩ := hS9
        go_simp
        try with_reducible rfl
      try simp only [Act.put, List.setIfInBounds_toArray, List.set_cons_zero, List.set_cons_succ]
      refine wpAnyH_take (i := 3) (oi := { dst := some 31, op := _, type := _, pos := _, after := _, guard := _ }) (v := ?v31) rfl (by kernel_rfl) (by kernel_rfl) (by kernel_rfl) (fun _ _ _ h => h) (Or.inl ⟨by rfl, ?hy31⟩) (by assumption) ?rest31
      case hy31 =>
        intro w9 hS9
        obtain ⟨-, k0, k1, k2, k3⟩ := hS9
        go_simp
        try with_reducible rfl
      try simp only [Act.put, List.setIfInBounds_toArray, List.set_cons_zero, List.set_cons_succ]
      refine wpAnyH_ready (rs := [2]) (by kernel_rfl) (by simp) ?_
      refine AllReadyH.cons (o := { dst := some 30, op := _, type := _, pos := _, after := _, guard := _ }) rfl (fun K hK => ?_) AllReadyH.nil
      go_simp
      refine (HAR.out _).mono ?_
      rintro e w3 ⟨rfl, b3⟩
      have F3 : Hid (FitS w ao bo dl ca n cb S L w3) := hHeld.below b3
      clear b3
      refine hK.out _ _ (F3.out) (fun hx9 => ?_)
      clear hK K hHeld hx9
      have hHeld := F3.out
      try simp only [Act.put, List.setIfInBounds_toArray, List.set_cons_zero, List.set_cons_succ]
      refine wpAnyH_ready (rs := [4]) (by kernel_rfl) (by simp) ?_
      refine AllReadyH.cons (o := { dst := some 32, op := _, type := _, pos := _, after := _, guard := _ }) rfl (fun K hK => ?_) AllReadyH.nil
      go_simp
      refine (HRA.out _ F3.out).mono ?_
      rintro e w4 ⟨g4, c4, rfl, O4, hc4, b4⟩
      have F4 : Hid (FitS w ao bo dl ca n cb S L w4) := F3.out.below b4
      clear b4 F3
      refine hK.out _ _ (F4.out) (fun hx9 => ?_)
      clear hK K hHeld hx9
      have hHeld := F4.out
      try simp only [Act.put, List.setIfInBounds_toArray, List.set_cons_zero, List.set_cons_succ]
      refine wpAnyH_ready (rs := [5]) (by kernel_rfl) (by simp) ?_
      refine AllReadyH.cons (o := { dst := some 33, op := _, type := _, pos := _, after := _, guard := _ }) rfl (fun K hK => ?_) AllReadyH.nil
      go_simp
      refine (areaOf_any _ g4 dl c4 f l hfl2 hl1 hc4.1 hd1).mono ?_
      rintro e w5 ⟨rfl, b5⟩
      have F5 : Hid (FitS w ao bo dl ca n cb S L w5) := F4.out.below b5
      have O5 : Hid (Own .u8 5 w5 w.heap.size (.slice (some ⟨g4, 0, none⟩) dl c4) (syD dur ps)) := O4.out.below b5
      clear b5 F4 O4
      refine hK.out _ _ (F5.out) (fun hx9 => ?_)
      clear hK K hHeld hx9
      have hHeld := F5.out
      try simp only [Act.put, List.setIfInBounds_toArray, List.set_cons_zero, List.set_cons_succ]
      refine wpAnyH_take (i := 6) (oi := { dst := some 8, op := _, type := _, pos := _, after := _, guard := _ }) (v := ?v32) rfl (by kernel_rfl) (by kernel_rfl) (by kernel_rfl) (fun _ _ _ h => h) (Or.inl ⟨by rfl, ?hy32⟩) (by assumption) ?rest32
      case hy32 =>
        intro w9 hS9
        obtain ⟨-, k0, k1, k2, k3⟩ := hS9
        go_simp
        try with_reducible rfl
      try simp only [Act.put, List.setIfInBounds_toArray, List.set_cons_zero, List.set_cons_succ]
      refine wpAnyH_done (by kernel_rfl) ?_ _
      clear hHeld
      go_wp2
      go_ret
      exact ⟨_, rfl, HOO.out _ _ _ O5.out hc4.1 hc4.2, F5.out.1.out.1⟩

set_option maxHeartbeats 2000000 in
set_option maxRecDepth 100000 in
theorem implArea_no (w : World) (ao bo : Option Addr) (dl ca n cb : Nat) (dur : List Int) (ps : List (Int × List Int)) (S L bank : Int) (log : Bool) (hd : Rd .u8 w (.slice ao dl ca) dur) (hdl : dur.length = dl) (hp : RdW w (.slice bo n cb) ps) (hl : ps.length = n) (hd1 : dl ≤ 1048576) (hn : n ≤ 1048576) (hpd : ∀ i, (pD ps i).length ≤ 1048576)
    (hok : arOk S L dl ps bank = false) :
    Calls Tryd.prog 19 #[.agg #[.slice ao dl ca, .slice bo n cb], .agg #[.int .i64 S, .int .i64 L], .int .i64 bank, .bool log] w fun e w' => e = .returned (.slice none 0 0) ∧ Below w.heap.size w w' := by
  have HD : Hid (Rd .u8 w (.slice ao dl ca) dur) := hd
  have HDL : Hid (dur.length = dl) := hdl
  have HP : Hid (RdW w (.slice bo n cb) ps) := hp
  have HL : Hid (ps.length = n) := hl
  have HPD : Hid (∀ i, (pD ps i).length ≤ 1048576) := hpd
  have HOK : Hid (arOk S L dl ps bank = false) := hok
  clear hd hdl hp hl hpd hok
  go_enter Tryd.func19, Tryd.ntmps19
  go_wp2_with fail
  have F1 : Hid (FitS w ao bo dl ca n cb S L ((w.alloc (.cells #[.slice ao dl ca, .slice bo n cb] 27)).alloc (.cells #[.int .i64 S, .int .i64 L] 29))) := FitS.new _ _ _ _ _ _ _ _ _ _ _
  generalize (w.alloc (.cells #[.slice ao dl ca, .slice bo n cb] 27)).alloc (.cells #[.int .i64 S, .int .i64 L] 29) = w1 at *
  refine (isLaidOut_any _ ao bo dl ca n cb ps S L (HP.out.below F1.out.1.out.1) HL.out hd1 hn HPD.out).mono ?_
  rintro e w2 ⟨rfl, b2⟩
  have F2 : Hid (FitS w ao bo dl ca n cb S L w2) := F1.out.below b2
  clear F1 b2
  cases hF : fitD S L dl ps with
  | false =>
    clear hF
    go_wp2
    go_ret
    exact ⟨rfl, F2.out.1.out.1⟩
  | true =>
    have hnb : ¬ (0 ≤ bank ∧ bank ≤ 1) := fun h => by
      have h2 := (arOk_iff S L dl ps bank).2 ⟨hF, h⟩
      rw [HOK.out] at h2; cases h2
    clear hF
    by_cases t0 : bank < 0
    · have t0d : decide (bank < 0) = true := by simpa using t0
      clear hnb
      go_wp2
      go_ret
      exact ⟨rfl, F2.out.1.out.1⟩
    · have t0d : decide (bank < 0) = false := by simpa using t0
      have t1 : 2 ≤ bank := by omega
      have t1d : decide (2 ≤ bank) = true := by simpa using t1
      clear hnb
      go_wp2
      go_ret
      exact ⟨rfl, F2.out.1.out.1⟩

theorem implArea_any (w : World) (v1 v2 : Value) (dur : List Int) (ps : List (Int × List Int)) (S L bank : Int) (log : Bool) (hd : Rd .u8 w v1 dur) (hp : RdW w v2 ps) (hdl : dur.length ≤ 1048576) (hn : ps.length ≤ 1048576) (hpd : ∀ i, (pD ps i).length ≤ 1048576) :
    Calls Tryd.prog 19 #[.agg #[v1, v2], .agg #[.int .i64 S, .int .i64 L], .int .i64 bank, .bool log] w fun e w' => ∃ v', e = .returned v' ∧ OwnO w' w.heap.size v' (arA dur ps S L bank log) ∧ Below w.heap.size w w' := by
  obtain ⟨va, ca, rfl, -⟩ := hd.len
  obtain ⟨vb, cb, rfl, -⟩ := id hp
  unfold arA
  cases h : arOk S L dur.length ps bank with
  | true =>
    simp only [if_true]
    exact implArea_yes w va vb dur.length ca ps.length cb dur ps S L bank log hd rfl hp rfl hdl hn hpd h
  | false =>
    simp only [Bool.false_eq_true, if_false]
    refine (implArea_no w va vb dur.length ca ps.length cb dur ps S L bank log hd rfl hp rfl hdl hn hpd h).mono ?_
    rintro e w' ⟨rfl, b⟩
    exact ⟨_, rfl, .inl ⟨rfl, rfl⟩, b⟩

end Go.Proofs.YtmgolinleiahpaaDoor

namespace Go.Proofs.YtmgolinleiahpaaDoor
open Go.RowKit

/-- One node of the call's own in block B. -/
def Node7 (w : World) (B : Nat) (p d : ByteArray) (a b c e f : Int) : Prop :=
  w.heap[B]? = some (.cells #[.string p, .string d, .int .i64 a, .int .i64 b, .int .i64 c, .int .i64 e, .int .i64 f] 84 (0, 0))

theorem Node7.lt {w : World} {B : Nat} {p d : ByteArray} {a b c e f : Int} (h : Node7 w B p d a b c e f) : B < w.heap.size := (Array.getElem?_eq_some_iff.1 h).1
theorem Node7.below {w w' : World} {B : Nat} {p d : ByteArray} {a b c e f : Int} (h : Node7 w B p d a b c e f) (hb : Below w.heap.size w w') : Node7 w' B p d a b c e f := (hb.block B h.lt).trans h

def slashT : ByteArray := ⟨#[47]⟩
def empty : ByteArray := ⟨#[]⟩

set_option maxHeartbeats 400000 in
theorem implNewTree_any (w : World) : Calls Tryd.prog 20 #[] w fun e w' => e = .returned (.agg #[.slice (some ⟨w.heap.size + 1, 0, none⟩) 1 1]) ∧ Node7 w' (w.heap.size + 1) slashT empty 0 0 0 0 0 ∧ Below w.heap.size w w' := by
  go_enter Tryd.func20, Tryd.ntmps20
  go_wp2
  refine bodyPost_ret (v := .agg #[.slice (some ⟨w.heap.size + 1, 0, none⟩) 1 1]) (by simp [results, Tryd.results20, go_sem]) rfl ⟨rfl, ?_, ((Below.refl _ _).alloc (Nat.le_refl _) _).alloc (by simp) _⟩
  have := heap_alloc_new (w.alloc (.cells #[.slice (some ⟨w.heap.size + 1, 0, none⟩) 1 1] 36)) (.cells #[.string slashT, .string empty, .int .i64 0, .int .i64 0, .int .i64 0, .int .i64 0, .int .i64 0] 84)
  rw [World.size_alloc] at this
  exact this

set_option maxHeartbeats 400000 in
theorem specNewTree_any (w : World) : Calls Tryd.prog 35 #[] w fun e w' => e = .returned (.agg #[.slice (some ⟨w.heap.size + 1, 0, none⟩) 1 1]) ∧ Node7 w' (w.heap.size + 1) slashT empty 0 0 0 0 0 ∧ Below w.heap.size w w' := by
  go_enter Tryd.func35, Tryd.ntmps35
  go_wp2
  refine bodyPost_ret (v := .agg #[.slice (some ⟨w.heap.size + 1, 0, none⟩) 1 1]) (by simp [results, Tryd.results35, go_sem]) rfl ⟨rfl, ?_, ((Below.refl _ _).alloc (Nat.le_refl _) _).alloc (by simp) _⟩
  have := heap_alloc_new (w.alloc (.cells #[.slice (some ⟨w.heap.size + 1, 0, none⟩) 1 1] 36)) (.cells #[.string slashT, .string empty, .int .i64 0, .int .i64 0, .int .i64 0, .int .i64 0, .int .i64 0] 84)
  rw [World.size_alloc] at this
  exact this

theorem Node7.c0 {w : World} {B : Nat} {p d : ByteArray} {a b c e f : Int} (h : Node7 w B p d a b c e f) : w.cell? ⟨B, 0, none⟩ = some (.string p) := by
  rw [cell_of_row w B 0 _ _ _ h]; rfl
theorem Node7.f0 {w : World} {B : Nat} {p d : ByteArray} {a b c e f : Int} (h : Node7 w B p d a b c e f) : w.frozen? ⟨B, 0, none⟩ = false := by
  simp [World.frozen?, show w.heap[B]? = _ from h]
theorem Node7.c1 {w : World} {B : Nat} {p d : ByteArray} {a b c e f : Int} (h : Node7 w B p d a b c e f) : w.cell? ⟨B, 1, none⟩ = some (.string d) := by
  rw [cell_of_row w B 1 _ _ _ h]; rfl
theorem Node7.f1 {w : World} {B : Nat} {p d : ByteArray} {a b c e f : Int} (h : Node7 w B p d a b c e f) : w.frozen? ⟨B, 1, none⟩ = false := by
  simp [World.frozen?, show w.heap[B]? = _ from h]
theorem Node7.c2 {w : World} {B : Nat} {p d : ByteArray} {a b c e f : Int} (h : Node7 w B p d a b c e f) : w.cell? ⟨B, 2, none⟩ = some (.int .i64 a) := by
  rw [cell_of_row w B 2 _ _ _ h]; rfl
theorem Node7.f2 {w : World} {B : Nat} {p d : ByteArray} {a b c e f : Int} (h : Node7 w B p d a b c e f) : w.frozen? ⟨B, 2, none⟩ = false := by
  simp [World.frozen?, show w.heap[B]? = _ from h]
theorem Node7.c3 {w : World} {B : Nat} {p d : ByteArray} {a b c e f : Int} (h : Node7 w B p d a b c e f) : w.cell? ⟨B, 3, none⟩ = some (.int .i64 b) := by
  rw [cell_of_row w B 3 _ _ _ h]; rfl
theorem Node7.f3 {w : World} {B : Nat} {p d : ByteArray} {a b c e f : Int} (h : Node7 w B p d a b c e f) : w.frozen? ⟨B, 3, none⟩ = false := by
  simp [World.frozen?, show w.heap[B]? = _ from h]
theorem Node7.c4 {w : World} {B : Nat} {p d : ByteArray} {a b c e f : Int} (h : Node7 w B p d a b c e f) : w.cell? ⟨B, 4, none⟩ = some (.int .i64 c) := by
  rw [cell_of_row w B 4 _ _ _ h]; rfl
theorem Node7.f4 {w : World} {B : Nat} {p d : ByteArray} {a b c e f : Int} (h : Node7 w B p d a b c e f) : w.frozen? ⟨B, 4, none⟩ = false := by
  simp [World.frozen?, show w.heap[B]? = _ from h]
theorem Node7.c5 {w : World} {B : Nat} {p d : ByteArray} {a b c e f : Int} (h : Node7 w B p d a b c e f) : w.cell? ⟨B, 5, none⟩ = some (.int .i64 e) := by
  rw [cell_of_row w B 5 _ _ _ h]; rfl
theorem Node7.f5 {w : World} {B : Nat} {p d : ByteArray} {a b c e f : Int} (h : Node7 w B p d a b c e f) : w.frozen? ⟨B, 5, none⟩ = false := by
  simp [World.frozen?, show w.heap[B]? = _ from h]
theorem Node7.c6 {w : World} {B : Nat} {p d : ByteArray} {a b c e f : Int} (h : Node7 w B p d a b c e f) : w.cell? ⟨B, 6, none⟩ = some (.int .i64 f) := by
  rw [cell_of_row w B 6 _ _ _ h]; rfl
theorem Node7.f6 {w : World} {B : Nat} {p d : ByteArray} {a b c e f : Int} (h : Node7 w B p d a b c e f) : w.frozen? ⟨B, 6, none⟩ = false := by
  simp [World.frozen?, show w.heap[B]? = _ from h]

def m1 : ByteArray := ⟨#[109, 49]⟩
def m2 : ByteArray := ⟨#[109, 50]⟩

theorem Node7.set {w : World} {B : Nat} {cs : Array Value} {t : TypeId} (h : w.heap[B]? = some (.cells cs t (0, 0))) (j : Nat) (u : Value) : (w.setCell ⟨B, j, none⟩ u).heap[B]? = some (.cells (cs.setIfInBounds j u) t (0, 0)) := by
  rw [setCell_eq_setRow w B j cs t (0, 0) u h]
  exact setRow_heap w B cs _ t _ h

end Go.Proofs.YtmgolinleiahpaaDoor

namespace Go.Proofs.YtmgolinleiahpaaDoor

def cP : Nat := 2197175160
/-- One step of the register. -/
def cT (r : Nat) : Nat := (r / 2) ^^^ (if r % 2 = 1 then cP else 0)

theorem xor_div2 (a b : Nat) : (a ^^^ b) / 2 = a / 2 ^^^ b / 2 := by
  have := Nat.xor_div_two (a := a) (b := b)
  exact this

theorem xor_mod2 (a b : Nat) : (a ^^^ b) % 2 = (a + b) % 2 := by
  have := Nat.xor_mod_two_eq_one (a := a) (b := b)
  omega

theorem cT_lin (a b : Nat) : cT (a ^^^ b) = cT a ^^^ cT b := by
  unfold cT
  rw [xor_div2, xor_mod2]
  rcases Nat.mod_two_eq_zero_or_one a with ha | ha <;> rcases Nat.mod_two_eq_zero_or_one b with hb | hb
  · rw [if_neg (by omega), if_neg (by omega), if_neg (by omega)]; simp
  · rw [if_pos (by omega), if_neg (by omega), if_pos (by omega)]; simp [Nat.xor_assoc]
  · rw [if_pos (by omega), if_pos (by omega), if_neg (by omega), Nat.xor_zero, Nat.xor_assoc, Nat.xor_comm (b / 2), ← Nat.xor_assoc]
  · rw [if_neg (by omega), if_pos (by omega), if_pos (by omega)]
    rw [Nat.xor_zero, Nat.xor_comm (b / 2) cP, ← Nat.xor_assoc, Nat.xor_assoc (a / 2) cP cP, Nat.xor_self, Nat.xor_zero]

def cT4 (r : Nat) : Nat := cT (cT (cT (cT r)))
theorem cT4_lin (a b : Nat) : cT4 (a ^^^ b) = cT4 a ^^^ cT4 b := by unfold cT4; simp only [cT_lin]

theorem cT_even (q : Nat) : cT (2 * q) = q := by unfold cT; rw [if_neg (by omega)]; simp

theorem cT4_16 (q : Nat) : cT4 (16 * q) = q := by
  unfold cT4
  rw [show 16 * q = 2 * (2 * (2 * (2 * q))) by omega, cT_even, cT_even, cT_even, cT_even]

theorem split16 (r : Nat) : r = 16 * (r / 16) ^^^ r % 16 := by
  apply Nat.eq_of_testBit_eq
  intro k
  rw [Nat.testBit_xor, show 16 * (r / 16) = r / 2 ^ 4 * 2 ^ 4 by simp only [Nat.reducePow]; omega, Nat.testBit_mul_two_pow, show r % 16 = r % 2 ^ 4 by rfl, Nat.testBit_mod_two_pow]
  by_cases h : 4 ≤ k
  · have h2 : ¬ k < 4 := by omega
    simp only [h, h2, decide_true, decide_false, Bool.true_and, Bool.false_and, Bool.xor_false, Nat.testBit_div_two_pow]
    congr 1; omega
  · have h2 : k < 4 := by omega
    simp [h, h2]

def tabL : List Nat := [0, 274646895, 549293790, 820201905, 1098587580, 1361435347, 1640403810, 1905808397, 2197175160, 2460548119, 2722870694, 2987750089, 3280807620, 3553878443, 3811616794, 4084100981]

theorem tab_eq : ∀ i, i < 16 → tabL.getD i 0 = cT4 i := by decide +kernel

/-- A nibble by the table. -/
theorem nibble (r : Nat) : cT4 r = r / 16 ^^^ tabL.getD (r % 16) 0 := by
  rw [tab_eq _ (Nat.mod_lt _ (by omega))]
  conv => lhs; rw [split16 r]
  rw [cT4_lin, cT4_16]

/-- A byte. -/
def cB (r x : Nat) : Nat := cT4 (cT4 (r ^^^ x))

/-- The register behind j bits of a byte. -/
def cS (r x : Nat) : Nat → Nat
  | 0 => r
  | j + 1 => (cS r x j / 2) ^^^ (if (cS r x j + x / 2 ^ j) % 2 = 1 then cP else 0)

def crcL (r : Nat) (xs : List Int) : Nat := xs.foldl (fun a x => cB a x.toNat) r
theorem crcL_snoc (r : Nat) (xs : List Int) (x : Int) : crcL r (xs ++ [x]) = cB (crcL r xs) x.toNat := by simp [crcL, List.foldl_append]

theorem xor_lt32 {a b : Nat} (ha : a < 4294967296) (hb : b < 4294967296) : a ^^^ b < 4294967296 := by
  have := Nat.xor_lt_two_pow (n := 32) (by simpa using ha) (by simpa using hb)
  simpa using this
end Go.Proofs.YtmgolinleiahpaaDoor

namespace Go.Proofs.YtmgolinleiahpaaDoor
open Go.RowKit

theorem take_snoc' (xs : List Int) (k : Nat) (h : k < xs.length) : xs.take (k + 1) = xs.take k ++ [xs.getD k 0] := by
  rw [List.take_succ_eq_append_getElem h]; simp [List.getD, h]

def M32 : Nat := 4294967296

theorem u32_xor_def (a b : Nat) (ha : a < M32) (hb : b < M32) : ∃ z : Nat, z < M32 ∧ bits .xor .u32 (a : Int) (b : Int) = (z : Int) ∧ z = a ^^^ b :=
  ⟨a ^^^ b, xor_lt32 ha hb, u32_xor_nat a b ha hb, rfl⟩
theorem u32_low4 (a : Nat) (ha : a < M32) : ∃ i : Nat, i < 16 ∧ bits .and .u32 (a : Int) 15 = (i : Int) ∧ i = a % 16 :=
  ⟨a % 16, Nat.mod_lt _ (by omega), by rw [show (15 : Int) = ((15 : Nat) : Int) from rfl, u32_and_nat a 15 ha (by unfold M32 at *; omega), nat_mask4], rfl⟩
theorem u32_xor_div (a b : Nat) (ha : a < M32) (hb : b < M32) : ∃ z : Nat, z < M32 ∧ bits .xor .u32 ((a : Int) / 16) (b : Int) = (z : Int) ∧ z = a / 16 ^^^ b := by
  refine ⟨a / 16 ^^^ b, xor_lt32 (by unfold M32 at *; omega) hb, ?_, rfl⟩
  have e : (a : Int) / 16 = ((a / 16 : Nat) : Int) := by omega
  rw [e, u32_xor_nat (a / 16) b (by unfold M32 at *; omega) hb]

theorem nat_not32 (R : Nat) (h : R < M32) : 4294967295 ^^^ R = 4294967295 - R := by
  have e := congrArg BitVec.toNat (BitVec.allOnes_xor (x := BitVec.ofNat 32 R))
  rw [BitVec.toNat_xor, BitVec.toNat_not, BitVec.toNat_allOnes, BitVec.toNat_ofNat, Nat.mod_eq_of_lt (show R < 2 ^ 32 from h)] at e
  simpa using e

theorem not32 (R : Nat) (h : R < M32) : wrap64 (bits .xor .u32 IntKind.u32.max (R : Int)) = ((4294967295 - R : Nat) : Int) := by
  rw [show IntKind.u32.max = ((4294967295 : Nat) : Int) from by decide, u32_xor_nat 4294967295 R (by decide) h, nat_not32 R h]
  have hz : 4294967295 - R ≤ 4294967295 := Nat.sub_le _ _
  generalize 4294967295 - R = z at *
  exact IntWalk.wrap64_in _ ⟨by omega, by omega⟩

/-- The table's cells. -/
def TabC (w : World) : Prop := ∀ i, i < 16 → w.cell? ⟨0, i, none⟩ = some (.int .u32 ((tabL.getD i 0 : Nat) : Int))
theorem TabC.below {w w' : World} (h : TabC w) (h0 : 0 < w.heap.size) (hb : Below w.heap.size w w') : TabC w' := fun i hi => (hb.cell (p := ⟨0, i, none⟩) h0).trans (h i hi)

theorem tabL_lt (i : Nat) : tabL.getD i 0 < M32 := by
  by_cases h : i < 16
  · exact (show ∀ i, i < 16 → tabL.getD i 0 < M32 by decide +kernel) i h
  · rw [show tabL.getD i 0 = 0 by rw [List.getD, List.getElem?_eq_none (show tabL.length ≤ i by simp [tabL]; omega)]; rfl]; decide

set_option maxHeartbeats 400000 in
set_option maxRecDepth 100000 in
theorem implCrc_row (w : World) (b o n cap : Nat) (xs : List Int) (hx : xs.length = n) (hc : ∀ i, i < n → w.cell? ⟨b, o + i, none⟩ = some (.int .u8 (xs.getD i 0))) (hby : Byt xs) (hn : n ≤ 1099511627776) (ht : TabC w) :
    Calls Tryd.prog 42 #[.slice (some ⟨b, o, none⟩) n cap] w fun e w' => e = .returned (.int .i64 ((4294967295 - crcL 4294967295 xs : Nat) : Int)) ∧ w' = w := by
  have HC : Hid (∀ i, i < n → w.cell? ⟨b, o + i, none⟩ = some (.int .u8 (xs.getD i 0))) := hc
  have HX : Hid (xs.length = n) := hx
  have HT : Hid (TabC w) := ht
  clear hc hx ht
  go_enter Tryd.func42, Tryd.ntmps42
  go_wp2
  go_loop [3, 8] (fun r i => ∃ k R : Nat, k ≤ n ∧ i = .int .i64 k ∧ Hid (R < M32) ∧ r = .int .u32 R ∧ Hid (R = crcL 4294967295 (xs.take k))) (fun _ i => n - (intOf i).toNat)
  case atStart => exact ⟨0, 4294967295, Nat.zero_le _, rfl, (by show _ < M32; decide), rfl, rfl⟩
  case round =>
    obtain ⟨k, R, hk, rfl, HR, rfl, HE⟩ := hrel
    by_cases hlt : k < n
    · obtain ⟨x, hx, hxe⟩ := byt_at hby k
      have hsrc : w.cell? ⟨b, o + k, none⟩ = some (.int .u8 (x : Int)) := by rw [← hxe]; exact HC.out k hlt
      have hltI : (k : Int) < (n : Int) := by omega
      obtain ⟨Y, hY, e1, y1⟩ := u32_xor_def R x HR.out (by unfold M32; omega)
      obtain ⟨I, hI, e2, y2⟩ := u32_low4 Y hY
      have c1 := HT.out I hI
      obtain ⟨T1, hT1⟩ : ∃ t, t = tabL.getD I 0 := ⟨_, rfl⟩
      rw [← hT1] at c1
      obtain ⟨Z, hZ, e3, y3⟩ := u32_xor_div Y T1 hY (by rw [hT1]; exact tabL_lt _)
      obtain ⟨J, hJ, e4, y4⟩ := u32_low4 Z hZ
      have c2 := HT.out J hJ
      obtain ⟨T2, hT2⟩ : ∃ t, t = tabL.getD J 0 := ⟨_, rfl⟩
      rw [← hT2] at c2
      obtain ⟨V, hV, e5, y5⟩ := u32_xor_div Z T2 hZ (by rw [hT2]; exact tabL_lt _)
      have HV : Hid (V = crcL 4294967295 (xs.take (k + 1))) := by
        show _ = _
        rw [take_snoc' xs k (by rw [HX.out]; exact hlt), crcL_snoc, ← HE.out, hxe, Int.toNat_natCast]
        have z1 : Z = cT4 Y := by rw [nibble, y3, hT1, y2]
        have v1 : V = cT4 Z := by rw [nibble, y5, hT2, y4]
        rw [v1, z1, y1]
        rfl
      have HVL : Hid (V < M32) := hV
      clear hV y1 y2 y3 y4 y5 hT1 hT2 hY hZ hxe HE HR
      go_wp2
      go_round
      case rel => exact ⟨k + 1, V, by omega, by go_num, HVL, rfl, HV⟩
      case measure => simp [intOf]; omega
    · go_wp2
      go_ret
      exact ⟨ret_int (by rw [not32 R HR.out, HE.out, List.take_of_length_le (by rw [HX.out]; omega)]), rfl⟩

set_option maxHeartbeats 400000 in
theorem implCrc_nil (w : World) (ao : Option Addr) (cap : Nat) :
    Calls Tryd.prog 42 #[.slice ao 0 cap] w fun e w' => e = .returned (.int .i64 0) ∧ w' = w := by
  go_enter Tryd.func42, Tryd.ntmps42
  go_wp2
  go_rounds 1
  go_ret
  exact ⟨ret_int (not32 4294967295 (by decide)), rfl⟩

theorem implCrc_any (w : World) (v : Value) (xs : List Int) (h : Rd .u8 w v xs) (hby : Byt xs) (hn : xs.length ≤ 1099511627776) (ht : TabC w) :
    Calls Tryd.prog 42 #[v] w fun e w' => e = .returned (.int .i64 ((4294967295 - crcL 4294967295 xs : Nat) : Int)) ∧ w' = w := by
  obtain ⟨ao, cap, rfl, h1, h2, h3⟩ := h
  rcases h3 with rfl | ⟨b, o, rfl, hb, hc⟩
  · exact implCrc_nil w ao cap
  · exact implCrc_row w b o xs.length cap xs rfl hc hby hn ht

end Go.Proofs.YtmgolinleiahpaaDoor

namespace Go.Proofs.YtmgolinleiahpaaDoor
open Go.RowKit

/-- The root alone. -/
def rootN : Nd := ⟨slashT, empty, 0, 0, 0, 0, 0⟩
theorem rdN_root {w : World} {B : Nat} (h : Node7 w B slashT empty 0 0 0 0 0) : RdN w (.slice (some ⟨B, 0, none⟩) 1 1) [rootN] := by
  refine ⟨_, 1, rfl, Nat.le_refl _, by unfold maxLen; omega, .inr ⟨B, 0, rfl, h.lt, fun i hi => ?_⟩⟩
  obtain rfl : i = 0 := by simp at hi; omega
  have hc := fun j => cell_of h j
  refine ⟨?_, ?_, ?_, ?_, ?_, ?_, ?_⟩ <;> simp [hc, nAt, rootN]
theorem root_sz (i : Nat) : (nAt [rootN] i).path.size ≤ 1048576 ∧ (nAt [rootN] i).data.size ≤ 1048576 := by
  cases i with
  | zero => exact ⟨by decide, by decide⟩
  | succ i => exact ⟨by simp [nAt, nd0], by simp [nAt, nd0]⟩
theorem root_ok : okTree [rootN] = true := by decide +kernel
/-- Its image. -/
def I0 : List Int := treeB [rootN]
theorem I0_len : I0.length = 23 := by
  unfold I0 treeB nodesB
  rw [if_pos root_ok]
  simp [nodeB_len, rootN, slashT, empty]
  rfl
theorem I0_byt : Byt I0 := by
  have : I0.all (fun x => decide (0 ≤ x ∧ x < 256)) = true := by decide +kernel
  intro x hx
  have := List.all_eq_true.1 this x hx
  simpa using this
def C0 : Nat := 4294967295 - crcL 4294967295 I0
theorem C0_le : C0 ≤ 4294967295 := Nat.sub_le _ _
/-- The first superblock. -/
def Sp0 : List Int := sup 1 0 0 23 (C0 : Int)
theorem Sp0_ok : supOk 1 0 0 23 (C0 : Int) = true := by
  have := C0_le
  unfold supOk
  simp
  omega
theorem Sp0_len : Sp0.length = 64 := by unfold Sp0 sup; rw [if_pos Sp0_ok]; exact supB_len _ _ _ _ _
/-- A new disk's bytes. -/
def fmN (n : Nat) : List Int := zeros 64 ++ Sp0 ++ I0 ++ zeros (n * 64 - 151)
def fmK (S L : Int) : Nat := (2 + 2 * (S + L)).toNat
theorem fmN_len (n : Nat) (h : 3 ≤ n) : (fmN n).length = n * 64 := by
  unfold fmN; simp only [List.length_append, zeros_len, Sp0_len, I0_len]; omega
theorem fmK_in {S L : Int} (h : cfgOk S L = true) : 2 + 2 * (S + L) = ((fmK S L : Nat) : Int) ∧ 6 ≤ fmK S L ∧ fmK S L ≤ 258 := by
  obtain ⟨⟨h1, h2⟩, h3, h4⟩ := (cfgOk_iff S L).1 h
  unfold fmK; omega
/-- The two pieces laid over zeros. -/
theorem fmN_made (n : Nat) (h : 3 ≤ n) : splice (splice (zeros (n * 64)) 128 I0) 64 Sp0 = fmN n := by
  apply List.ext_getElem?
  intro j
  have hz : (zeros (n * 64)).length = n * 64 := zeros_len _
  rw [splice_get _ _ _ (by rw [length_splice _ _ _ (by rw [hz, I0_len]; omega), hz, Sp0_len]; omega), Sp0_len, splice_get _ _ _ (by rw [hz, I0_len]; omega), I0_len]
  unfold fmN
  by_cases h1 : j < 64
  · rw [if_pos h1, if_pos (show j < 128 by omega), List.append_assoc, List.append_assoc, List.getElem?_append_left (by rw [zeros_len]; exact h1)]
    unfold zeros
    rw [List.getElem?_replicate, List.getElem?_replicate, if_pos (show j < n * 64 by omega), if_pos h1]
  · by_cases h2 : j < 128
    · rw [if_neg h1, if_pos (show j < 64 + 64 by omega), List.append_assoc, List.append_assoc, List.getElem?_append_right (by rw [zeros_len]; omega), zeros_len, List.getElem?_append_left (by rw [Sp0_len]; omega)]
    · by_cases h3 : j < 151
      · have e : j - 128 = j - 64 - 64 := by omega
        rw [if_neg h1, if_neg (show ¬ j < 64 + 64 by omega), if_neg h2, if_pos (show j < 128 + 23 by omega), List.append_assoc, List.append_assoc, List.getElem?_append_right (by rw [zeros_len]; omega), zeros_len, List.getElem?_append_right (by rw [Sp0_len]; omega), Sp0_len, List.getElem?_append_left (by rw [I0_len]; omega), e]
      · rw [if_neg h1, if_neg (show ¬ j < 64 + 64 by omega), if_neg h2, if_neg (show ¬ j < 128 + 23 by omega), List.append_assoc, List.append_assoc, List.getElem?_append_right (by rw [zeros_len]; omega), zeros_len, List.getElem?_append_right (by rw [Sp0_len]; omega), Sp0_len, List.getElem?_append_right (by rw [I0_len]; omega), I0_len]
        unfold zeros
        rw [List.getElem?_replicate, List.getElem?_replicate]
        by_cases h4 : j < n * 64
        · rw [if_pos h4, if_pos (show j - 64 - 64 - 23 < n * 64 - 151 by omega)]
        · rw [if_neg h4, if_neg (show ¬ j - 64 - 64 - 23 < n * 64 - 151 by omega)]

end Go.Proofs.YtmgolinleiahpaaDoor

namespace Go.Proofs.YtmgolinleiahpaaDoor
open Go.RowKit

theorem OwnN.setO {w : World} {lo b j : Nat} {v : Value} {ns : List Nd} (h : OwnN 84 w lo v ns) (hn : v.ownBlock ≠ some b) (u : Value) : OwnN 84 (w.setCell ⟨b, j, none⟩ u) lo v ns := World.ownsRow.kept h (grownBy_set _ _ _ _ _ (World.grownBy.refl _ _)) (.inr hn)
theorem OwnE.slice9 {e : TypeId} {w : World} {lo : Nat} {v : Value} {es : List Ef} (h : OwnE e w lo v es) : ∃ a c, v = .slice a es.length c := by
  obtain ⟨a, c, h0, _⟩ := (OwnE.rd h).len
  exact ⟨a, c, h0⟩
theorem OwnN.slice9 {e : TypeId} {w : World} {lo : Nat} {v : Value} {ns : List Nd} (h : OwnN e w lo v ns) : ∃ a c, v = .slice a ns.length c := by
  obtain ⟨a, c, h0, _⟩ := h.rd.len
  exact ⟨a, c, h0⟩

end Go.Proofs.YtmgolinleiahpaaDoor

