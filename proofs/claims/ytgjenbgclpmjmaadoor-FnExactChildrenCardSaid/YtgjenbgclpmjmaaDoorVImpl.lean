import Derived.Test.YtgjenbgclpmjmaaDoorVSeq
namespace Go.Proofs.YtgjenbgclpmjmaaDoor
open Go.RowKit Go.Shelf

attribute [local go_sem] Oper.semAt_some

/-- The walk under way, with k names seen. -/
structure VSt (w : World) (R : List (List UInt8)) (k : Nat) (W : World) : Prop where
  le : k ≤ R.length
  ok : (R.take k).all okL = true
  res : Boxed W w.heap.size 4 (.bool false)
  dep : Boxed W (w.heap.size + 1) 3 (.int .i64 (k : Int))
  txt : ∃ v, Boxed W (w.heap.size + 2) 9 v
  sep : Boxed W (w.heap.size + 3) 9 (.string ⟨#[47]⟩)
  sav : Boxed W (w.heap.size + 4) 3 (.int .i64 0)
  below : Below w.heap.size w W
  size : w.heap.size + 5 ≤ W.heap.size
/-- The walk left at a wrong name. -/
structure VSx (w : World) (R : List (List UInt8)) (W : World) : Prop where
  no : R.all okL = false
  res : Boxed W w.heap.size 4 (.bool false)
  below : Below w.heap.size w W
  size : w.heap.size + 5 ≤ W.heap.size

theorem boxed_below {X Y : World} {B : Nat} {t : TypeId} {v : Value} (hb : Below X.heap.size X Y) (h : Boxed X B t v) : Boxed Y B t v := (hb.block _ h.lt).trans h

theorem VSt.later {w : World} {R : List (List UInt8)} {k : Nat} {X Y : World} (h : VSt w R k X) (hb : Below X.heap.size X Y) : VSt w R k Y :=
  ⟨h.le, h.ok, boxed_below hb h.res, boxed_below hb h.dep, h.txt.imp (fun _ hv => boxed_below hb hv), boxed_below hb h.sep, boxed_below hb h.sav, h.below.trans (hb.mono (by have := h.size; omega)), Nat.le_trans h.size hb.size⟩
theorem VSt.notCells {w : World} {R : List (List UInt8)} {k : Nat} {X Y : World} {row : Option Nat} (h : VSt w R k X) (hg : X.grownBy Y row) (hr : ∀ r, row = some r → w.heap.size + 5 ≤ r ∧ ∃ o : Obj, X.heap[r]? = some o ∧ o.isCells = false) : VSt w R k Y :=
  ⟨h.le, h.ok, h.res.kept hg (fun e => by have := (hr _ e.symm).1; omega), h.dep.kept hg (fun e => by have := (hr _ e.symm).1; omega), h.txt.imp (fun _ hv => hv.kept hg (fun e => by have := (hr _ e.symm).1; omega)), h.sep.kept hg (fun e => by have := (hr _ e.symm).1; omega), h.sav.kept hg (fun e => by have := (hr _ e.symm).1; omega),
   h.below.grown hg (by have := h.size; omega) (fun q e => by have := (hr q e).1; omega), Nat.le_trans h.size hg.size⟩
theorem VSx.notCells {w : World} {R : List (List UInt8)} {X Y : World} {row : Option Nat} (h : VSx w R X) (hg : X.grownBy Y row) (hr : ∀ r, row = some r → w.heap.size + 5 ≤ r ∧ ∃ o : Obj, X.heap[r]? = some o ∧ o.isCells = false) : VSx w R Y :=
  ⟨h.no, h.res.kept hg (fun e => by have := (hr _ e.symm).1; omega), h.below.grown hg (by have := h.size; omega) (fun q e => by have := (hr q e).1; omega), Nat.le_trans h.size hg.size⟩
theorem VSt.put {w : World} {R : List (List UInt8)} {k : Nat} {X : World} (h : VSt w R k X) (v : Value) : VSt w R k (X.setCell ⟨w.heap.size + 2, 0, none⟩ v) := by
  obtain ⟨u, hu⟩ := h.txt
  exact ⟨h.le, h.ok, h.res.other (by omega) _, h.dep.other (by omega) _, ⟨v, hu.set v⟩, h.sep.other (by omega) _, h.sav.other (by omega) _, h.below.setCell (by simp) _, by simpa using h.size⟩
theorem VSt.step {w : World} {R : List (List UInt8)} {k : Nat} {X : World} (h : VSt w R k X) (hk : k < R.length) (ho : okN (pN R k) = true) : VSt w R (k + 1) (X.setCell ⟨w.heap.size + 1, 0, none⟩ (.int .i64 ((k + 1 : Nat) : Int))) := by
  obtain ⟨u, hu⟩ := h.txt
  refine ⟨hk, ?_, h.res.other (by omega) _, h.dep.set _, ⟨u, hu.other (by omega) _⟩, h.sep.other (by omega) _, h.sav.other (by omega) _, h.below.setCell (by simp) _, by simpa using h.size⟩
  rw [List.take_succ_eq_append_getElem hk, List.all_append, h.ok]
  have e : pN R k = ⟨R[k].toArray⟩ := by unfold pN; simp [List.getD, hk]
  rw [e] at ho
  simp [okL, ho]
theorem VSt.left {w : World} {R : List (List UInt8)} {k : Nat} {X : World} (h : VSt w R k X) (hk : k < R.length) (ho : okN (pN R k) = false) : VSx w R (X.setCell ⟨w.heap.size, 0, none⟩ (.bool false)) :=
  ⟨all_no hk ho, h.res.set _, h.below.setCell (by simp) _, by simpa using h.size⟩
theorem keeps_of_below {B : Nat} {X Y : World} (h : Below X.heap.size X Y) : KeepsFrom B X Y := ⟨h.size, fun k _ _ hk _ => (h.block k (Array.getElem?_eq_some_iff.1 hk).1).trans hk⟩

/-- What the body finds. -/
def AxV (w : World) (R : List (List UInt8)) (tm : Value → Array Value) (k : Nat) (a' : Act) (W : World) : Prop := k < R.length ∧ VSt w R k W ∧ a' = { tmps := tm (.string (pN R k)), defers := [] }

set_option maxHeartbeats 2000000 in
set_option maxRecDepth 100000 in
theorem implPath_yes (w : World) (s : ByteArray) (hnr : (s.toList == [47]) = false) (hs1 : 1 ≤ s.size) (hs2 : s.size ≤ 102) (hb0 : bN s 0 = 47) :
    Calls Tryd.prog 13 #[.string s] w fun e w' => e = .returned (.bool (decide ((nm s).length ≤ 6) && (nm s).all okL)) ∧ Below w.heap.size w w' := by
  have h0 : ¬ (102 : Int) < (s.size : Int) := by omega
  have h1 : (1 : Int) ≤ (s.size : Int) := by omega
  have HB0 : Hid (bN s 0 = 47) := hb0
  clear hb0
  refine (callsIn_wide (n := 6)).1 ?_
  refine callsIn_of_wp_marks Tryd.func13 rfl trivial ?_ rfl
  simp only [Tryd.ntmps13, List.size_toArray, List.length_cons, List.length_nil, Nat.reduceAdd, Nat.reduceSub, Array.replicate_succ, Array.replicate_zero, List.push_toArray, List.append_toArray, List.nil_append, List.cons_append]
  gi_wp2_with fail
  refine ⟨trivial, ?_⟩
  refine (callsIn_wide.2 (pre_any _ s hs1)).mono ?_
  rintro e w5 ⟨rfl, hw5⟩
  rw [decide_eq_true HB0.out]
  subst hw5
  gi_wp2_with fail
  refine ⟨trivial, ?_⟩
  refine (SplitSeq_in _ (by omega) (s.extract 1 s.size) _).mono ?_
  rintro e w5 ⟨rfl, hw5⟩
  gi_wp2_with fail
  have s5 : w5.heap.size = w.heap.size + 5 := by rw [hw5]; simp
  have HT0 : Hid (Boxed w5 (w.heap.size + 2) 9 (.string (s.extract 1 s.size))) := by
    rw [hw5]
    have := (((Boxed.new ((w.alloc (.cells #[.bool false] 4)).alloc (.cells #[.int .i64 0] 3)) 9 (.string (s.extract 1 s.size))).alloc (.cells #[.string ⟨#[47]⟩] 9)).alloc (.cells #[.int .i64 0] 3))
    rw [World.size_alloc, World.size_alloc] at this
    exact this
  have HR : Hid (nm s = splA [] (s.extract 1 s.size).data.toList) := by
    show _ = _
    rw [extract_seg]
    unfold nm seg
    congr 1
    rw [List.take_of_length_le (by rw [List.length_drop]; exact Nat.le_refl _)]
  have HST0 : Hid (VSt w (nm s) 0 w5) := by
    have hsz : ∀ (X : World) (o : Obj), (X.alloc o).heap.size = X.heap.size + 1 := fun X o => World.size_alloc X o
    refine ⟨Nat.zero_le _, by simp, ?_, ?_, ⟨_, HT0.out⟩, ?_, ?_, ?_, by omega⟩
    · rw [hw5]; exact ((((Boxed.new w 4 (.bool false)).alloc _).alloc _).alloc _).alloc _
    · rw [hw5]
      have := (((Boxed.new (w.alloc (.cells #[.bool false] 4)) 3 (.int .i64 0)).alloc (.cells #[.string (s.extract 1 s.size)] 9)).alloc (.cells #[.string ⟨#[47]⟩] 9)).alloc (.cells #[.int .i64 0] 3)
      simpa using this
    · rw [hw5]
      have := (Boxed.new (((w.alloc (.cells #[.bool false] 4)).alloc (.cells #[.int .i64 0] 3)).alloc (.cells #[.string (s.extract 1 s.size)] 9)) 9 (.string ⟨#[47]⟩)).alloc (.cells #[.int .i64 0] 3)
      simpa using this
    · rw [hw5]
      have := Boxed.new ((((w.alloc (.cells #[.bool false] 4)).alloc (.cells #[.int .i64 0] 3)).alloc (.cells #[.string (s.extract 1 s.size)] 9)).alloc (.cells #[.string ⟨#[47]⟩] 9)) 3 (.int .i64 0)
      simpa using this
    · rw [hw5]
      exact (((((Below.refl _ _).alloc (Nat.le_refl _) _).alloc (by simp) _).alloc (by simp; omega) _).alloc (by simp; omega) _).alloc (by simp; omega) _
  rw [← hw5]
  clear hw5
  have HNL : Hid ((nm s).length ≤ 103) := by have := nm_len s; show _ ≤ _; omega
  have HEX : Hid ((s.extract 1 s.size).size ≤ 1048576) := by show _ ≤ _; simp; omega
  generalize s.extract 1 s.size = sx at *
  generalize hRn : nm s = R at HR HST0 HNL
  have HRN : Hid (nm s = R) := hRn
  clear hRn
  refine range_leaves (F := Fence.wide) (n := 6) rfl (by omega) (gf := 121) (lb := #[.pointer (some ⟨w.heap.size + 1 + 1 + 1, 0, none⟩), .pointer (some ⟨w.heap.size + 1 + 1, 0, none⟩), .pointer (some ⟨w.heap.size + 1 + 1 + 2, 0, none⟩)]) rfl trivial (enters_of Tryd.func121 (by kernel_rfl) rfl)
    (fun k W => VSt w R k W) (fun k vs W => k < R.length ∧ vs = #[sV (R.getD k [])]) (fun k _ => k + 1) (fun X Y => ∀ v, Boxed X (w.heap.size + 2) 9 v → Boxed Y (w.heap.size + 2) 9 v) (fun k => k = R.length) (VSx w R)
    (fun _ X Y row hs hg hr => hs.notCells hg (fun r e => by have := hr r e; rw [s5] at this; exact this)) 0
    (fun k X Y row hs hg hr => hs.notCells hg (fun r e => by have := hr r e; rw [s5] at this; exact this)) (fun h1 h2 v hv => h2 v (h1 v hv))
    (fun W l o o' hl ho _ _ v hv => hv.kept (grownBy_putObj' W l o') (fun e => by injection e with e; omega))
    (fun k vs W hp => by rw [hp.2]; rfl) HST0.out
    (fun k vs a' W => AxV w R (fun p => #[.string s, undef, .pointer (some ⟨w.heap.size, 0, none⟩), .pointer (some ⟨w.heap.size + 1, 0, none⟩), p, .string s, .bool false, .string s, .int .i64 s.size, .bool false, .bool false, .string s, .bool true, .bool false, .bool false, .string s, .string sx, .func (.func 121) #[] #[.pointer (some ⟨w.heap.size + 1 + 1 + 1, 0, none⟩), .pointer (some ⟨w.heap.size + 1 + 1, 0, none⟩), .pointer (some ⟨w.heap.size + 1 + 1 + 2, 0, none⟩)], p, undef, undef, undef, undef, undef, undef, undef]) k a' W)
    ?ax ?assign ?body ?call ?done ?stop
  case ax =>
    rintro k vs a' _ X Y row ⟨h1, h2, h3⟩ hg hr
    exact ⟨h1, h2.notCells hg (fun r e => by have := hr r e; rw [s5] at this; exact this), h3⟩
  case assign =>
    rintro l k vs W K hs ⟨hlt, rfl⟩ hK
    have HS : Hid (VSt w R k W) := hs
    have HK : Hid (∀ a' W', _ → _ → _ → K a' W') := hK
    have HLT : Hid (k < R.length) := hlt
    clear hs hK hlt
    gi_wp2
    refine HK.out _ _ (keeps_of_below (Below.refl _ _)) (fun v h => h) ⟨HLT.out, HS.out, rfl⟩
  case body =>
    rintro l k vs a' W ⟨hlt, hS, rfl⟩
    have HS : Hid (VSt w R k W) := hS
    have HLT : Hid (k < R.length) := hlt
    have hk : k ≤ 103 := by have := HNL.out; omega
    clear hS hlt
    gi_wp2_with fail
    refine ⟨trivial, ?_⟩
    refine (callsIn_wide.2 (validName_any _ (pN R k))).mono ?_
    rintro e w6 ⟨rfl, q, rfl⟩
    have HS2 : Hid (VSt w R k (W.drewN q)) := HS.out.later (below_drewN' W q)
    have HKF : Hid (KeepsFrom (w.heap.size + 5) W (W.drewN q)) := keeps_of_below (below_drewN' W q)
    have HKP : Hid (∀ v, Boxed W (w.heap.size + 2) 9 v → Boxed (W.drewN q) (w.heap.size + 2) 9 v) := fun v hv => boxed_below (below_drewN' W q) hv
    have cR := HS.out.res.cell
    have fR := HS.out.res.frozen
    have cD := HS.out.dep.cell
    have fD := HS.out.dep.frozen
    by_cases hok : okN (pN R k) = true
    · have HST : Hid _ := HS2.out.step HLT.out hok
      rw [hok]
      clear hok
      gi_wp2
      refine ⟨HKF.out.trans ((KeepsOthers.setCell _ _ _).from _), fun v hv => (HKP.out v hv).other (by omega) _, HST.out⟩
    · have hok' : okN (pN R k) = false := by simpa using hok
      have HST : Hid _ := HS2.out.left HLT.out hok'
      rw [hok']
      clear hok hok'
      gi_wp2
      refine ⟨HKF.out.trans ((KeepsOthers.setCell _ _ _).from _), HST.out⟩
  case call =>
    intro Bk BkX W1 hBk hBkX hY hb5 hsz5 hs0 hb0
    refine (split1_any 5 (by omega) (w5.heap.size + 1) (w.heap.size + 2) (w.heap.size + 3) (w.heap.size + 4) R sx (fun k W => VSt w R k W) (VSx w R) Bk BkX (fun k X Y hb h => h.later hb) (fun X Y hb h => hBk X Y (keeps_of_below hb) h) (fun k X v h => h.put v) (fun X v h => hBk _ _ ((KeepsOthers.setCell _ _ _).from _) h) (fun k W h => ⟨h.sep.cell, h.sav.cell⟩) (fun k vs W hs hb hp => ?_) W1 hs0 hb0 ?_ HEX.out HR.out)
    · obtain ⟨fn, tm, asg, bd, hy, hR⟩ := hY k vs W hs hb hp
      exact ⟨fn, tm, asg, bd, hy, hR⟩
    · exact (hb5.block _ (by omega)).trans HT0.out
  case done =>
    rintro D k W hD hfin hS hK
    have hfin2 : k = R.length := hfin
    have hk : k ≤ 103 := by have := HNL.out; omega
    have HAL : Hid (R.all okL = true) := by have := hS.ok; rw [hfin2, List.take_length] at this; exact this
    have HFN : Hid (k = R.length) := hfin2
    have hB : Below w.heap.size w W := hS.below
    have zW := hS.size
    have cR := hS.res.cell
    have fR := hS.res.frozen
    have cD := hS.dep.cell
    have HRS : Hid (Boxed W w.heap.size 4 (.bool false)) := hS.res
    clear hS hfin hfin2
    gi_wp2
    have BX : Below w.heap.size w (W.setCell ⟨w.heap.size, 0, none⟩ (.bool (decide ((k : Int) ≤ 6)))) := hB.setCell (by simp) _
    have hK2 : (W.setCell ⟨w.heap.size, 0, none⟩ (.bool (decide ((k : Int) ≤ 6)))).heap[D]? = some (.deferred (some [])) := (KeepsOthers.setCell _ _ _).same D _ hK rfl
    have RX : Boxed (W.setCell ⟨w.heap.size, 0, none⟩ (.bool (decide ((k : Int) ≤ 6)))) w.heap.size 4 (.bool (decide ((k : Int) ≤ 6))) := HRS.out.set _
    have SX : (W.setCell ⟨w.heap.size, 0, none⟩ (.bool (decide ((k : Int) ≤ 6)))).heap.size = W.heap.size := by simp
    refine ⟨by simp, .inl ⟨_, _, rfl, run_takeDeferred hK2, ?_⟩⟩
    generalize W.setCell ⟨w.heap.size, 0, none⟩ (.bool (decide ((k : Int) ≤ 6))) = X at *
    have GX := grownBy_putObj' X D (.deferred none)
    have y0 := (RX.kept GX (by simp; omega)).cell
    have BF : Below w.heap.size w (X.putObj D (.deferred none)) := BX.grown GX (by omega) (fun q e => by injection e with e; omega)
    generalize X.putObj D (.deferred none) = Z at *
    refine ⟨.bool (decide ((k : Int) ≤ 6)), ?_, ?_, BF⟩
    · simp [results, Tryd.results13, go_sem, y0]
    · refine ret_b ?_
      rw [HRN.out, HAL.out, ← HFN.out, Bool.and_true]
      apply decide_eq_decide.2; omega
  case stop =>
    rintro D W hD hS hK
    have zW := hS.size
    have HX : Hid (VSx w R W) := hS
    clear hS
    gi_wp2
    refine ⟨by simp, .inl ⟨_, _, rfl, run_takeDeferred hK, ?_⟩⟩
    have GX := grownBy_putObj' W D (.deferred none)
    have y0 := (HX.out.res.kept GX (by simp; omega)).cell
    have BF : Below w.heap.size w (W.putObj D (.deferred none)) := HX.out.below.grown GX (by omega) (fun q e => by injection e with e; omega)
    have HNO : Hid (R.all okL = false) := HX.out.no
    generalize W.putObj D (.deferred none) = Z at *
    refine ⟨.bool false, ?_, ?_, BF⟩
    · simp [results, Tryd.results13, go_sem, y0]
    · refine ret_b ?_
      rw [HRN.out, HNO.out, Bool.and_false]

end Go.Proofs.YtgjenbgclpmjmaaDoor
