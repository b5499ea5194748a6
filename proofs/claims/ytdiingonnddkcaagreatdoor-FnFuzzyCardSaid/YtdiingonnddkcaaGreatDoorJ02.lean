import Derived.Test.YtdiingonnddkcaaGreatDoorJ01
import Derived.Deep.RegionWith
namespace Go.Proofs.YtdiingonnddkcaaGreatDoor
open Go.RowKit Go.Shelf

attribute [local go_sem] Oper.semAt_some

/-- The walk under way, with k names seen. -/
structure VSt (w : World) (R : List (List UInt8)) (k : Nat) (W : World) : Prop where
  le : k ≤ R.length
  ok : (R.take k).all okL = true
  res : Boxed W w.heap.size 4 (.bool false)
  dep : Boxed W (w.heap.size + 1) 3 (.int .i64 (k : Int))
  txt : ∃ v, Boxed W (w.heap.size + 2) 9 v
  sep : Boxed W (w.heap.size + 3) 9 (.string ⟨#[47]⟩)
  sav : Boxed W (w.heap.size + 4) 3 (.int .i64 0)
  below : Below w.heap.size w W
  size : w.heap.size + 5 ≤ W.heap.size
/-- The walk left at a wrong name. -/
structure VSx (w : World) (R : List (List UInt8)) (W : World) : Prop where
  no : R.all okL = false
  res : Boxed W w.heap.size 4 (.bool false)
  below : Below w.heap.size w W
  size : w.heap.size + 5 ≤ W.heap.size

theorem boxed_below {X Y : World} {B : Nat} {t : TypeId} {v : Value} (hb : Below X.heap.size X Y) (h : Boxed X B t v) : Boxed Y B t v := (hb.block _ h.lt).trans h

theorem VSt.later {w : World} {R : List (List UInt8)} {k : Nat} {X Y : World} (h : VSt w R k X) (hb : Below X.heap.size X Y) : VSt w R k Y :=
  ⟨h.le, h.ok, boxed_below hb h.res, boxed_below hb h.dep, h.txt.imp (fun _ hv => boxed_below hb hv), boxed_below hb h.sep, boxed_below hb h.sav, h.below.trans (hb.mono (by have := h.size; omega)), Nat.le_trans h.size hb.size⟩
theorem VSt.notCells {w : World} {R : List (List UInt8)} {k : Nat} {X Y : World} {row : Option Nat} (h : VSt w R k X) (hg : X.grownBy Y row) (hr : ∀ r, row = some r → w.heap.size + 5 ≤ r ∧ ∃ o : Obj, X.heap[r]? = some o ∧ o.isCells = false) : VSt w R k Y :=
  ⟨h.le, h.ok, h.res.kept hg (fun e => by have := (hr _ e.symm).1; omega), h.dep.kept hg (fun e => by have := (hr _ e.symm).1; omega), h.txt.imp (fun _ hv => hv.kept hg (fun e => by have := (hr _ e.symm).1; omega)), h.sep.kept hg (fun e => by have := (hr _ e.symm).1; omega), h.sav.kept hg (fun e => by have := (hr _ e.symm).1; omega),
   h.below.grown hg (by have := h.size; omega) (fun q e => by have := (hr q e).1; omega), Nat.le_trans h.size hg.size⟩
theorem VSx.notCells {w : World} {R : List (List UInt8)} {X Y : World} {row : Option Nat} (h : VSx w R X) (hg : X.grownBy Y row) (hr : ∀ r, row = some r → w.heap.size + 5 ≤ r ∧ ∃ o : Obj, X.heap[r]? = some o ∧ o.isCells = false) : VSx w R Y :=
  ⟨h.no, h.res.kept hg (fun e => by have := (hr _ e.symm).1; omega), h.below.grown hg (by have := h.size; omega) (fun q e => by have := (hr q e).1; omega), Nat.le_trans h.size hg.size⟩
theorem VSt.put {w : World} {R : List (List UInt8)} {k : Nat} {X : World} (h : VSt w R k X) (v : Value) : VSt w R k (X.setCell ⟨w.heap.size + 2, 0, none⟩ v) := by
  obtain ⟨u, hu⟩ := h.txt
  exact ⟨h.le, h.ok, h.res.other (by omega) _, h.dep.other (by omega) _, ⟨v, hu.set v⟩, h.sep.other (by omega) _, h.sav.other (by omega) _, h.below.setCell (by simp) _, by simpa using h.size⟩
theorem VSt.step {w : World} {R : List (List UInt8)} {k : Nat} {X : World} (h : VSt w R k X) (hk : k < R.length) (ho : okN (pN R k) = true) : VSt w R (k + 1) (X.setCell ⟨w.heap.size + 1, 0, none⟩ (.int .i64 ((k + 1 : Nat) : Int))) := by
  obtain ⟨u, hu⟩ := h.txt
  refine ⟨hk, ?_, h.res.other (by omega) _, h.dep.set _, ⟨u, hu.other (by omega) _⟩, h.sep.other (by omega) _, h.sav.other (by omega) _, h.below.setCell (by simp) _, by simpa using h.size⟩
  rw [List.take_succ_eq_append_getElem hk, List.all_append, h.ok]
  have e : pN R k = ⟨R[k].toArray⟩ := by unfold pN; simp [List.getD, hk]
  rw [e] at ho
  simp [okL, ho]
theorem VSt.left {w : World} {R : List (List UInt8)} {k : Nat} {X : World} (h : VSt w R k X) (hk : k < R.length) (ho : okN (pN R k) = false) : VSx w R (X.setCell ⟨w.heap.size, 0, none⟩ (.bool false)) :=
  ⟨all_no hk ho, h.res.set _, h.below.setCell (by simp) _, by simpa using h.size⟩
theorem keeps_of_below {B : Nat} {X Y : World} (h : Below X.heap.size X Y) : KeepsFrom B X Y := ⟨h.size, fun k _ _ hk _ => (h.block k (Array.getElem?_eq_some_iff.1 hk).1).trans hk⟩

/-- What the body finds. -/
def AxV (w : World) (R : List (List UInt8)) (tm : Value → Array Value) (k : Nat) (a' : Act) (W : World) : Prop := k < R.length ∧ VSt w R k W ∧ a' = { tmps := tm (.string (pN R k)), defers := [] }

set_option maxHeartbeats 2000000 in
set_option maxRecDepth 100000 in
theorem implPath_yes (w : World) (s : ByteArray) (hnr : (s.toList == [47]) = false) (hs1 : 1 ≤ s.size) (hs2 : s.size ≤ 102) (hb0 : bN s 0 = 47) :
    Calls Tryz.prog 39 #[.string s] w fun e w' => e = .returned (.bool (decide ((nm s).length ≤ 6) && (nm s).all okL)) ∧ Below w.heap.size w w' := by
  have h0 : ¬ (102 : Int) < (s.size : Int) := by omega
  have h1 : (1 : Int) ≤ (s.size : Int) := by omega
  have HB0 := hd9 hb0
  clear hb0
  refine (callsIn_wide (n := 6)).1 ?_
  refine callsIn_of_wp_marks Tryz.func39 rfl trivial ?_ rfl
  simp only [Tryz.ntmps39, List.size_toArray, List.length_cons, List.length_nil, Nat.reduceAdd, Nat.reduceSub, Array.replicate_succ, Array.replicate_zero, List.push_toArray, List.append_toArray, List.nil_append, List.cons_append]
  gi_wp2_with fail
  refine ⟨trivial, ?_⟩
  refine (callsIn_wide.2 (pre_any _ s hs1)).mono ?_
  rintro e w5 ⟨rfl, hw5⟩
  rw [decide_eq_true HB0.out]
  subst hw5
  gi_wp2_with fail
  refine ⟨trivial, ?_⟩
  refine (SplitSeq_in _ (by omega) (s.extract 1 s.size) _).mono ?_
  rintro e w5 ⟨rfl, hw5⟩
  gi_wp2_with fail
  have s5 : w5.heap.size = w.heap.size + 5 := by rw [hw5]; simp
  have HT0 : Hid (Boxed w5 (w.heap.size + 2) 9 (.string (s.extract 1 s.size))) := by
    rw [hw5]
    have := (((Boxed.new ((w.alloc (.cells #[.bool false] 4)).alloc (.cells #[.int .i64 0] 3)) 9 (.string (s.extract 1 s.size))).alloc (.cells #[.string ⟨#[47]⟩] 9)).alloc (.cells #[.int .i64 0] 3))
    rw [World.size_alloc, World.size_alloc] at this
    exact this
  have HR : Hid (nm s = splA [] (s.extract 1 s.size).data.toList) := by
    show _ = _
    rw [extract_seg]
    unfold nm seg
    congr 1
    rw [List.take_of_length_le (by rw [List.length_drop]; exact Nat.le_refl _)]
  have HST0 : Hid (VSt w (nm s) 0 w5) := by
    have hsz : ∀ (X : World) (o : Obj), (X.alloc o).heap.size = X.heap.size + 1 := fun X o => World.size_alloc X o
    refine ⟨Nat.zero_le _, by simp, ?_, ?_, ⟨_, HT0.out⟩, ?_, ?_, ?_, by omega⟩
    · rw [hw5]; exact ((((Boxed.new w 4 (.bool false)).alloc _).alloc _).alloc _).alloc _
    · rw [hw5]
      have := (((Boxed.new (w.alloc (.cells #[.bool false] 4)) 3 (.int .i64 0)).alloc (.cells #[.string (s.extract 1 s.size)] 9)).alloc (.cells #[.string ⟨#[47]⟩] 9)).alloc (.cells #[.int .i64 0] 3)
      simpa using this
    · rw [hw5]
      have := (Boxed.new (((w.alloc (.cells #[.bool false] 4)).alloc (.cells #[.int .i64 0] 3)).alloc (.cells #[.string (s.extract 1 s.size)] 9)) 9 (.string ⟨#[47]⟩)).alloc (.cells #[.int .i64 0] 3)
      simpa using this
    · rw [hw5]
      have := Boxed.new ((((w.alloc (.cells #[.bool false] 4)).alloc (.cells #[.int .i64 0] 3)).alloc (.cells #[.string (s.extract 1 s.size)] 9)).alloc (.cells #[.string ⟨#[47]⟩] 9)) 3 (.int .i64 0)
      simpa using this
    · rw [hw5]
      exact (((((Below.refl _ _).alloc (Nat.le_refl _) _).alloc (by simp) _).alloc (by simp; omega) _).alloc (by simp; omega) _).alloc (by simp; omega) _
  rw [← hw5]
  clear hw5
  have HNL : Hid ((nm s).length ≤ 103) := by have := nm_len s; show _ ≤ _; omega
  have HEX : Hid ((s.extract 1 s.size).size ≤ 1048576) := by show _ ≤ _; simp; omega
  generalize s.extract 1 s.size = sx at *
  generalize hRn : nm s = R at HR HST0 HNL
  have HRN := hd9 hRn
  clear hRn
  refine range_leaves (F := Fence.wide) (n := 6) rfl (by omega) (gf := 116) (lb := #[.pointer (some ⟨w.heap.size + 1 + 1 + 1, 0, none⟩), .pointer (some ⟨w.heap.size + 1 + 1, 0, none⟩), .pointer (some ⟨w.heap.size + 1 + 1 + 2, 0, none⟩)]) rfl trivial (enters_of Tryz.func116 (by kernel_rfl) rfl)
    (fun k W => VSt w R k W) (fun k vs W => k < R.length ∧ vs = #[sV (R.getD k [])]) (fun k _ => k + 1) (fun X Y => ∀ v, Boxed X (w.heap.size + 2) 9 v → Boxed Y (w.heap.size + 2) 9 v) (fun k => k = R.length) (VSx w R)
    (fun _ X Y row hs hg hr => hs.notCells hg (fun r e => by have := hr r e; rw [s5] at this; exact this)) 0
    (fun k X Y row hs hg hr => hs.notCells hg (fun r e => by have := hr r e; rw [s5] at this; exact this)) (fun h1 h2 v hv => h2 v (h1 v hv))
    (fun W l o o' hl ho _ _ v hv => hv.kept (grownBy_putObj' W l o') (fun e => by injection e with e; omega))
    (fun k vs W hp => by rw [hp.2]; rfl) HST0.out
    (fun k vs a' W => AxV w R (fun p => #[.string s, undef, .pointer (some ⟨w.heap.size, 0, none⟩), .pointer (some ⟨w.heap.size + 1, 0, none⟩), p, .string s, .bool false, .string s, .int .i64 s.size, .bool false, .bool false, .string s, .bool true, .bool false, .bool false, .string s, .string sx, .func (.func 116) #[] #[.pointer (some ⟨w.heap.size + 1 + 1 + 1, 0, none⟩), .pointer (some ⟨w.heap.size + 1 + 1, 0, none⟩), .pointer (some ⟨w.heap.size + 1 + 1 + 2, 0, none⟩)], p, undef, undef, undef, undef, undef, undef, undef]) k a' W)
    ?ax ?assign ?body ?call ?done ?stop
  case ax =>
    rintro k vs a' _ X Y row ⟨h1, h2, h3⟩ hg hr
    exact ⟨h1, h2.notCells hg (fun r e => by have := hr r e; rw [s5] at this; exact this), h3⟩
  case assign =>
    rintro l k vs W K hs ⟨hlt, rfl⟩ hK
    have HS := hd9 hs
    have HK : Hid (∀ a' W', _ → _ → _ → K a' W') := hK
    have HLT := hd9 hlt
    clear hs hK hlt
    gi_wp2
    refine HK.out _ _ (keeps_of_below (Below.refl _ _)) (fun v h => h) ⟨HLT.out, HS.out, rfl⟩
  case body =>
    rintro l k vs a' W ⟨hlt, hS, rfl⟩
    have HS := hd9 hS
    have HLT := hd9 hlt
    have hk : k ≤ 103 := by have := HNL.out; omega
    clear hS hlt
    gi_wp2_with fail
    refine ⟨trivial, ?_⟩
    refine (callsIn_wide.2 (validName_any _ (pN R k))).mono ?_
    rintro e w6 ⟨rfl, q, rfl⟩
    have HS2 := hd9 (HS.out.later (below_drewN' W q))
    have HKF : Hid (KeepsFrom (w.heap.size + 5) W (W.drewN q)) := keeps_of_below (below_drewN' W q)
    have HKP : Hid (∀ v, Boxed W (w.heap.size + 2) 9 v → Boxed (W.drewN q) (w.heap.size + 2) 9 v) := fun v hv => boxed_below (below_drewN' W q) hv
    have cR := HS.out.res.cell
    have fR := HS.out.res.frozen
    have cD := HS.out.dep.cell
    have fD := HS.out.dep.frozen
    by_cases hok : okN (pN R k) = true
    · have HST : Hid _ := HS2.out.step HLT.out hok
      rw [hok]
      clear hok
      gi_wp2
      refine ⟨HKF.out.trans ((KeepsOthers.setCell _ _ _).from _), fun v hv => (HKP.out v hv).other (by omega) _, HST.out⟩
    · have hok' : okN (pN R k) = false := by simpa using hok
      have HST : Hid _ := HS2.out.left HLT.out hok'
      rw [hok']
      clear hok hok'
      gi_wp2
      refine ⟨HKF.out.trans ((KeepsOthers.setCell _ _ _).from _), HST.out⟩
  case call =>
    intro Bk BkX W1 hBk hBkX hY hb5 hsz5 hs0 hb0
    refine (split1_any 5 (by omega) (w5.heap.size + 1) (w.heap.size + 2) (w.heap.size + 3) (w.heap.size + 4) R sx (fun k W => VSt w R k W) (VSx w R) Bk BkX (fun k X Y hb h => h.later hb) (fun X Y hb h => hBk X Y (keeps_of_below hb) h) (fun k X v h => h.put v) (fun X v h => hBk _ _ ((KeepsOthers.setCell _ _ _).from _) h) (fun k W h => ⟨h.sep.cell, h.sav.cell⟩) (fun k vs W hs hb hp => ?_) W1 hs0 hb0 ?_ HEX.out HR.out)
    · obtain ⟨fn, tm, asg, bd, hy, hR⟩ := hY k vs W hs hb hp
      exact ⟨fn, tm, asg, bd, hy, hR⟩
    · exact (hb5.block _ (by omega)).trans HT0.out
  case done =>
    rintro D k W hD hfin hS hK
    have hfin2 := hfin
    have hk : k ≤ 103 := by have := HNL.out; omega
    have HAL : Hid (R.all okL = true) := by have := hS.ok; rw [hfin2, List.take_length] at this; exact this
    have HFN := hd9 hfin2
    have hB := hS.below
    have zW := hS.size
    have cR := hS.res.cell
    have fR := hS.res.frozen
    have cD := hS.dep.cell
    have HRS := hd9 hS.res
    clear hS hfin hfin2
    gi_wp2
    have BX : Below w.heap.size w (W.setCell ⟨w.heap.size, 0, none⟩ (.bool (decide ((k : Int) ≤ 6)))) := hB.setCell (by simp) _
    have hK2 : (W.setCell ⟨w.heap.size, 0, none⟩ (.bool (decide ((k : Int) ≤ 6)))).heap[D]? = some (.deferred (some [])) := (KeepsOthers.setCell _ _ _).same D _ hK rfl
    have RX : Boxed (W.setCell ⟨w.heap.size, 0, none⟩ (.bool (decide ((k : Int) ≤ 6)))) w.heap.size 4 (.bool (decide ((k : Int) ≤ 6))) := HRS.out.set _
    have SX : (W.setCell ⟨w.heap.size, 0, none⟩ (.bool (decide ((k : Int) ≤ 6)))).heap.size = W.heap.size := by simp
    refine ⟨by simp, .inl ⟨_, _, rfl, run_takeDeferred hK2, ?_⟩⟩
    generalize W.setCell ⟨w.heap.size, 0, none⟩ (.bool (decide ((k : Int) ≤ 6))) = X at *
    have GX := grownBy_putObj' X D (.deferred none)
    have y0 := (RX.kept GX (by simp; omega)).cell
    have BF := BX.grown GX (by omega) (fun q e => by injection e with e; omega)
    generalize X.putObj D (.deferred none) = Z at *
    refine ⟨.bool (decide ((k : Int) ≤ 6)), ?_, ?_, BF⟩
    · simp [results, Tryz.results39, go_sem, y0]
    · refine ret_b ?_
      rw [HRN.out, HAL.out, ← HFN.out, Bool.and_true]
      apply decide_eq_decide.2; omega
  case stop =>
    rintro D W hD hS hK
    have zW := hS.size
    have HX := hd9 hS
    clear hS
    gi_wp2
    refine ⟨by simp, .inl ⟨_, _, rfl, run_takeDeferred hK, ?_⟩⟩
    have GX := grownBy_putObj' W D (.deferred none)
    have y0 := (HX.out.res.kept GX (by simp; omega)).cell
    have BF := HX.out.below.grown GX (by omega) (fun q e => by injection e with e; omega)
    have HNO := hd9 HX.out.no
    generalize W.putObj D (.deferred none) = Z at *
    refine ⟨.bool false, ?_, ?_, BF⟩
    · simp [results, Tryz.results39, go_sem, y0]
    · refine ret_b ?_
      rw [HRN.out, HNO.out, Bool.and_false]


set_option maxHeartbeats 2000000 in
set_option maxRecDepth 100000 in
theorem implPath_any (w : World) (s : ByteArray) :
    Calls Tryz.prog 39 #[.string s] w fun e w' => e = .returned (.bool (okPath s)) ∧ Below w.heap.size w w' := by
  by_cases hr : s.data.toList = [47]
  · have hrt : (s.toList == [47]) = true := by rw [ByteArray.toList_eq, hr]; rfl
    have HP := hd9 (okPath_root hr)
    clear hr
    go_enter Tryz.func39, Tryz.ntmps39
    go_wp2
    refine bodyPost_ret (v := .bool true) ?_ rfl ?_
    · simp [results, Tryz.results39, go_sem]
    · exact ⟨ret_b HP.out.symm, (Below.refl _ _).alloc (Nat.le_refl _) _⟩
  · have hrt : (s.toList == [47]) = false := by rw [ByteArray.toList_eq, beq_eq_false_iff_ne]; exact hr
    have HP := hd9 (okPath_not hr)
    by_cases hl : 102 < s.size
    · have hlI : (102 : Int) < (s.size : Int) := by omega
      have HP2 := hd9 (okPath_long hl)
      clear hr HP
      go_enter Tryz.func39, Tryz.ntmps39
      go_wp2
      refine bodyPost_ret (v := .bool false) ?_ rfl ?_
      · simp [results, Tryz.results39, go_sem]
      · exact ⟨ret_b HP2.out.symm, (Below.refl _ _).alloc (Nat.le_refl _) _⟩
    · have hlI : ¬ (102 : Int) < (s.size : Int) := by omega
      by_cases h0 : s.size = 0
      · have HP2 : Hid (okPath s = false) := by show _ = _; rw [HP.out, decide_eq_false (by omega)]; rfl
        have HZ := hd9 h0
        clear hr HP h0
        go_enter Tryz.func39, Tryz.ntmps39
        go_wp2_with fail
        refine (pre_none _ s HZ.out).mono ?_
        rintro e w5 ⟨rfl, rfl⟩
        go_wp2
        refine bodyPost_ret (v := .bool false) ?_ rfl ?_
        · simp [results, Tryz.results39, go_sem]
        · exact ⟨ret_b HP2.out.symm, (Below.refl _ _).alloc (Nat.le_refl _) _⟩
      · by_cases hb : bN s 0 = 47
        · have h2 : 2 ≤ s.size := by
            by_cases h2 : 2 ≤ s.size
            · exact h2
            · exfalso
              apply hr
              have h3 : s.data.toList.length = 1 := by show s.size = 1; omega
              unfold bN at hb
              cases e : s.data.toList with
              | nil => rw [e] at h3; cases h3
              | cons x l =>
                rw [e] at h3 hb
                cases l with
                | nil => simp only [List.getD_cons_zero] at hb; rw [show x = 47 from UInt8.toNat_inj.1 hb]
                | cons y l => simp at h3
          have := implPath_yes w s hrt (by omega) (by omega) hb
          rw [HP.out, decide_eq_true h2, decide_eq_true hb]
          exact this
        · have HP2 : Hid (okPath s = false) := by show _ = _; rw [HP.out, decide_eq_false hb, Bool.and_false]; rfl
          have HBF := hd9 (decide_eq_false hb)
          clear hr HP hb
          go_enter Tryz.func39, Tryz.ntmps39
          go_wp2_with fail
          refine (pre_any _ s (by omega)).mono ?_
          rintro e w5 ⟨rfl, rfl⟩
          rw [HBF.out]
          go_wp2
          refine bodyPost_ret (v := .bool false) ?_ rfl ?_
          · simp [results, Tryz.results39, go_sem]
          · exact ⟨ret_b HP2.out.symm, (Below.refl _ _).alloc (Nat.le_refl _) _⟩

end Go.Proofs.YtdiingonnddkcaaGreatDoor
namespace Go.Proofs.YtdiingonnddkcaaGreatDoor
open Go.RowKit

/-- A node. -/
structure Nd where
  path : ByteArray
  data : ByteArray
  ver : Int
  cver : Int
  cz : Int
  mz : Int
  pz : Int
def ndL (n : Nd) : List Value := [.string n.path, .string n.data, .int .i64 n.ver, .int .i64 n.cver, .int .i64 n.cz, .int .i64 n.mz, .int .i64 n.pz]
def nd0 : Nd := ⟨ByteArray.empty, ByteArray.empty, 0, 0, 0, 0, 0⟩
def nAt (ns : List Nd) (i : Nat) : Nd := ns.getD i nd0
theorem nAt_get {ns : List Nd} {i : Nat} (h : i < ns.length) : nAt ns i = ns[i] := by unfold nAt; simp [List.getD, h]

/-- The cells of a node. -/
structure CellsN (w : World) (b p : Nat) (n : Nd) : Prop where
  c0 : w.cell? ⟨b, p, none⟩ = some (.string n.path)
  c1 : w.cell? ⟨b, p + 1, none⟩ = some (.string n.data)
  c2 : w.cell? ⟨b, p + 2, none⟩ = some (.int .i64 n.ver)
  c3 : w.cell? ⟨b, p + 3, none⟩ = some (.int .i64 n.cver)
  c4 : w.cell? ⟨b, p + 4, none⟩ = some (.int .i64 n.cz)
  c5 : w.cell? ⟨b, p + 5, none⟩ = some (.int .i64 n.mz)
  c6 : w.cell? ⟨b, p + 6, none⟩ = some (.int .i64 n.pz)
theorem CellsN.below {w w' : World} {m b p : Nat} {n : Nd} (h : CellsN w b p n) (hb : Below m w w') (hl : b < m) : CellsN w' b p n :=
  ⟨(hb.cell (p := ⟨b, _, none⟩) hl).trans h.c0, (hb.cell (p := ⟨b, _, none⟩) hl).trans h.c1, (hb.cell (p := ⟨b, _, none⟩) hl).trans h.c2, (hb.cell (p := ⟨b, _, none⟩) hl).trans h.c3,
   (hb.cell (p := ⟨b, _, none⟩) hl).trans h.c4, (hb.cell (p := ⟨b, _, none⟩) hl).trans h.c5, (hb.cell (p := ⟨b, _, none⟩) hl).trans h.c6⟩

/-- A slice of nodes that reads as ns. -/
def RdN (w : World) (v : Value) (ns : List Nd) : Prop :=
  ∃ ao cap, v = .slice ao ns.length cap ∧ ns.length ≤ cap ∧ cap ≤ maxLen ∧
    (ns = [] ∨ ∃ b off, ao = some ⟨b, off, none⟩ ∧ b < w.heap.size ∧ ∀ i, i < ns.length → CellsN w b (off + i * 7) (nAt ns i))
theorem RdN.len {w : World} {v : Value} {ns : List Nd} (h : RdN w v ns) : ∃ ao cap, v = .slice ao ns.length cap ∧ ns.length ≤ cap ∧ cap ≤ maxLen := by
  obtain ⟨ao, cap, h0, h1, h2, _⟩ := h
  exact ⟨ao, cap, h0, h1, h2⟩
theorem RdN.below {w w' : World} {v : Value} {ns : List Nd} (h : RdN w v ns) (hb : Below w.heap.size w w') : RdN w' v ns := by
  obtain ⟨ao, cap, rfl, h1, h2, h3⟩ := h
  refine ⟨ao, cap, rfl, h1, h2, ?_⟩
  rcases h3 with h3 | ⟨b, off, rfl, hlt, hc⟩
  · exact .inl h3
  · exact .inr ⟨b, off, rfl, Nat.lt_of_lt_of_le hlt hb.size, fun i hi => (hc i hi).below hb hlt⟩

/-! ### rows of nodes -/
def nrow (ns : List Nd) : List Value := ns.flatMap ndL
theorem nrow_cons (n : Nd) (ns : List Nd) : nrow (n :: ns) = ndL n ++ nrow ns := by simp [nrow]
theorem nrow_append (ns ms : List Nd) : nrow (ns ++ ms) = nrow ns ++ nrow ms := by simp [nrow]
theorem nrow_length : ∀ ns : List Nd, (nrow ns).length = ns.length * 7
  | [] => rfl
  | n :: ns => by rw [nrow_cons, List.length_append, nrow_length ns, List.length_cons]; show 7 + _ = _; omega
theorem nrow_get : ∀ (ns : List Nd) (i j : Nat), i < ns.length → j < 7 → (nrow ns)[i * 7 + j]? = (ndL (nAt ns i))[j]?
  | [], i, j, h, _ => by simp at h
  | n :: ns, 0, j, _, hj => by
    rw [nrow_cons, Nat.zero_mul, Nat.zero_add, List.getElem?_append_left (by show j < 7; exact hj)]; rfl
  | n :: ns, i + 1, j, h, hj => by
    rw [nrow_cons, List.getElem?_append_right (by show 7 ≤ _; omega), show (i + 1) * 7 + j - (ndL n).length = i * 7 + j by show (i + 1) * 7 + j - 7 = _; omega, nrow_get ns i j (by simpa using h) hj]
    rfl
def set7 (L : List Value) (p : Nat) (n : Nd) : List Value :=
  ((((((L.set p (.string n.path)).set (p + 1) (.string n.data)).set (p + 2) (.int .i64 n.ver)).set (p + 3) (.int .i64 n.cver)).set (p + 4) (.int .i64 n.cz)).set (p + 5) (.int .i64 n.mz)).set (p + 6) (.int .i64 n.pz)
theorem set7_app (a L : List Value) (p : Nat) (n : Nd) (h : a.length = 7) : set7 (a ++ L) (7 + p) n = a ++ set7 L p n := by
  unfold set7
  have e : ∀ (M : List Value) (q : Nat) (v : Value), (a ++ M).set (7 + q) v = a ++ M.set q v := fun M q v => by
    rw [List.set_append_right _ _ (by omega)]; congr 2; omega
  rw [e, show 7 + p + 1 = 7 + (p + 1) by omega, e, show 7 + p + 2 = 7 + (p + 2) by omega, e, show 7 + p + 3 = 7 + (p + 3) by omega, e, show 7 + p + 4 = 7 + (p + 4) by omega, e, show 7 + p + 5 = 7 + (p + 5) by omega, e, show 7 + p + 6 = 7 + (p + 6) by omega, e]
theorem nrow_set : ∀ (ns : List Nd) (k : Nat) (n : Nd), k < ns.length → set7 (nrow ns) (k * 7) n = nrow (ns.set k n)
  | [], k, n, h => by simp at h
  | m :: ns, 0, n, _ => by
    rw [nrow_cons, List.set_cons_zero, nrow_cons]
    rfl
  | m :: ns, k + 1, n, h => by
    rw [nrow_cons, List.set_cons_succ, nrow_cons, show (k + 1) * 7 = 7 + k * 7 by omega, set7_app _ _ _ _ rfl, nrow_set ns k n (by simpa using h)]
/-- A slice of nodes of the call's own. -/
def OwnN (e : TypeId) (w : World) (lo : Nat) (v : Value) (ns : List Nd) : Prop := w.ownsRow lo e 7 v ns.length (nrow ns)
theorem OwnN.rd {e : TypeId} {w : World} {lo : Nat} {v : Value} {ns : List Nd} (h : OwnN e w lo v ns) : RdN w v ns := by
  rcases h.2 with ⟨rfl, h0⟩ | ⟨g, cap, cur, rfl, hb, hg, hn, hm, hs, ht⟩
  · have : ns = [] := List.eq_nil_of_length_eq_zero h0
    subst this
    exact ⟨none, 0, rfl, Nat.le_refl _, Nat.zero_le _, .inl rfl⟩
  · refine ⟨_, cap, rfl, hn, hm, .inr ⟨g, 0, rfl, (Array.getElem?_eq_some_iff.1 hg).1, fun i hi => ?_⟩⟩
    have c : ∀ j, j < 7 → w.cell? ⟨g, 0 + (i * 7 + j), none⟩ = (ndL (nAt ns i))[j]? := fun j hj => by
      have hh := nrow_get ns i j hi hj
      have h9 : (ndL (nAt ns i))[j]? = some ((ndL (nAt ns i)).getD j undef) := by
        match j, hj with
        | 0, _ => rfl
        | 1, _ => rfl
        | 2, _ => rfl
        | 3, _ => rfl
        | 4, _ => rfl
        | 5, _ => rfl
        | 6, _ => rfl
      rw [h9] at hh
      have := World.ownsRow.cells h (g := g) rfl (i * 7 + j) _ hh
      rw [Addr.add_lit] at this
      rw [this, h9]
    exact ⟨c 0 (by omega), c 1 (by omega), c 2 (by omega), c 3 (by omega), c 4 (by omega), c 5 (by omega), c 6 (by omega)⟩
theorem OwnN.below {e : TypeId} {w w' : World} {lo : Nat} {v : Value} {ns : List Nd} (h : OwnN e w lo v ns) (hb : Below w.heap.size w w') : OwnN e w' lo v ns := by
  refine ⟨h.1, ?_⟩
  rcases h.2 with hn | ⟨g, cap, cur, rfl, hbg, hgg, rest⟩
  · exact .inl hn
  · exact .inr ⟨g, cap, cur, rfl, hbg, by rw [hb.block g (Array.getElem?_eq_some_iff.1 hgg).1]; exact hgg, rest⟩
theorem OwnN.mono {e : TypeId} {w : World} {lo lo' : Nat} {v : Value} {ns : List Nd} (h : OwnN e w lo v ns) (hl : lo' ≤ lo) : OwnN e w lo' v ns := by
  refine ⟨h.1, ?_⟩
  rcases h.2 with hn | ⟨g, cap, cur, rfl, hbg, rest⟩
  · exact .inl hn
  · exact .inr ⟨g, cap, cur, rfl, Nat.le_trans hl hbg, rest⟩
theorem OwnN.slice {e : TypeId} {w : World} {lo : Nat} {v : Value} {ns : List Nd} (h : OwnN e w lo v ns) : ∃ a c, v = .slice a ns.length c := by
  obtain ⟨a, c, h0, _⟩ := h.rd.len
  exact ⟨a, c, h0⟩

@[reducible] def CN7 (W : World) (b p : Nat) (n : Nd) : Prop := W.cell? ⟨b, p, none⟩ = some (.string n.path) ∧ W.cell? ⟨b, p + 1, none⟩ = some (.string n.data) ∧ W.cell? ⟨b, p + 2, none⟩ = some (.int .i64 n.ver) ∧ W.cell? ⟨b, p + 3, none⟩ = some (.int .i64 n.cver) ∧ W.cell? ⟨b, p + 4, none⟩ = some (.int .i64 n.cz) ∧ W.cell? ⟨b, p + 5, none⟩ = some (.int .i64 n.mz) ∧ W.cell? ⟨b, p + 6, none⟩ = some (.int .i64 n.pz)
@[reducible] def CB7 (W : World) (b : Nat) (n : Nd) : Prop := W.cell? ⟨b, 0, none⟩ = some (.string n.path) ∧ W.cell? ⟨b, 1, none⟩ = some (.string n.data) ∧ W.cell? ⟨b, 2, none⟩ = some (.int .i64 n.ver) ∧ W.cell? ⟨b, 3, none⟩ = some (.int .i64 n.cver) ∧ W.cell? ⟨b, 4, none⟩ = some (.int .i64 n.cz) ∧ W.cell? ⟨b, 5, none⟩ = some (.int .i64 n.mz) ∧ W.cell? ⟨b, 6, none⟩ = some (.int .i64 n.pz)


theorem Tryz.infoN : (Tryz.prog.info? 42).map (fun i => (i.zero, i.size, i.bytes)) = some (some (.agg #[.string ByteArray.empty, .string ByteArray.empty, .int .i64 0, .int .i64 0, .int .i64 0, .int .i64 0, .int .i64 0]), 7, 72) := by kernel_rfl


theorem nstored {w : World} {lo g n cap : Nat} {e : TypeId} {ms : List Nd} (ho : w.ownsRow lo e 7 (.slice (some ⟨g, 0, none⟩) n cap) n (nrow ms)) (k : Nat) (hk : k < ms.length) (m : Nd) :
    (((((((w.setCell ⟨g, k * 7, none⟩ (.string m.path)).setCell ⟨g, k * 7 + 1, none⟩ (.string m.data)).setCell ⟨g, k * 7 + 2, none⟩ (.int .i64 m.ver)).setCell ⟨g, k * 7 + 3, none⟩ (.int .i64 m.cver)).setCell ⟨g, k * 7 + 4, none⟩ (.int .i64 m.cz)).setCell ⟨g, k * 7 + 5, none⟩ (.int .i64 m.mz)).setCell ⟨g, k * 7 + 6, none⟩ (.int .i64 m.pz)).ownsRow lo e 7 (.slice (some ⟨g, 0, none⟩) n cap) n (nrow (ms.set k m)) := by
  have s0 := (World.ownsRow.stored ho (k * 7) (.string m.path)).1
  have s1 := (World.ownsRow.stored s0 (k * 7 + 1) (.string m.data)).1
  have s2 := (World.ownsRow.stored s1 (k * 7 + 2) (.int .i64 m.ver)).1
  have s3 := (World.ownsRow.stored s2 (k * 7 + 3) (.int .i64 m.cver)).1
  have s4 := (World.ownsRow.stored s3 (k * 7 + 4) (.int .i64 m.cz)).1
  have s5 := (World.ownsRow.stored s4 (k * 7 + 5) (.int .i64 m.mz)).1
  have s6 := (World.ownsRow.stored s5 (k * 7 + 6) (.int .i64 m.pz)).1
  rw [← nrow_set ms k m hk]
  exact s6





theorem OwnN.setBelow {e : TypeId} {w : World} {lo : Nat} {v : Value} {ns : List Nd} (h : OwnN e w lo v ns) {a : Addr} (ha : a.block < lo) (u : Value) : OwnN e (w.setCell a u) lo v ns := ownsRow_setCell_below h ha u








def okS (v : Int) : Bool := decide (0 ≤ v) && decide (v ≤ 2147483647)
def okNd (n : Nd) : Bool := okPath n.path && decide (n.data.size ≤ 64) && okS n.ver && okS n.cver && okS n.cz && okS n.mz && okS n.pz

set_option maxHeartbeats 400000 in
theorem stat_any (w : World) (v : Int) : Calls Tryz.prog 87 #[.int .i64 v] w fun e w' => e = .returned (.bool (okS v)) ∧ w' = w := by
  by_cases h1 : 0 ≤ v
  · by_cases h2 : v ≤ 2147483647
    · have HO : Hid (okS v = true) := by show _ = _; unfold okS; rw [decide_eq_true h1, decide_eq_true h2]; rfl
      go_enter Tryz.func87, Tryz.ntmps87
      go_wp2
      go_ret
      exact ⟨ret_b HO.out.symm, rfl⟩
    · have HO : Hid (okS v = false) := by show _ = _; unfold okS; rw [decide_eq_false h2]; simp
      go_enter Tryz.func87, Tryz.ntmps87
      go_wp2
      go_ret
      exact ⟨ret_b HO.out.symm, rfl⟩
  · have HO : Hid (okS v = false) := by show _ = _; unfold okS; rw [decide_eq_false h1]; rfl
    go_enter Tryz.func87, Tryz.ntmps87
    go_wp2
    go_ret
    exact ⟨ret_b HO.out.symm, rfl⟩

set_option maxHeartbeats 400000 in
theorem istat_any (w : World) (v : Int) : Calls Tryz.prog 83 #[.int .i64 v] w fun e w' => e = .returned (.bool (okS v)) ∧ w' = w := by
  by_cases h1 : 0 ≤ v
  · by_cases h2 : v ≤ 2147483647
    · have HO : Hid (okS v = true) := by show _ = _; unfold okS; rw [decide_eq_true h1, decide_eq_true h2]; rfl
      go_enter Tryz.func83, Tryz.ntmps83
      go_wp2
      go_ret
      exact ⟨ret_b HO.out.symm, rfl⟩
    · have HO : Hid (okS v = false) := by show _ = _; unfold okS; rw [decide_eq_false h2]; simp
      go_enter Tryz.func83, Tryz.ntmps83
      go_wp2
      go_ret
      exact ⟨ret_b HO.out.symm, rfl⟩
  · have HO : Hid (okS v = false) := by show _ = _; unfold okS; rw [decide_eq_false h1]; rfl
    go_enter Tryz.func83, Tryz.ntmps83
    go_wp2
    go_ret
    exact ⟨ret_b HO.out.symm, rfl⟩

/-- A local node. -/
structure BoxN (w : World) (B : Nat) (n : Nd) : Prop where
  lt : B < w.heap.size
  c0 : w.cell? ⟨B, 0, none⟩ = some (.string n.path)
  c1 : w.cell? ⟨B, 1, none⟩ = some (.string n.data)
  c2 : w.cell? ⟨B, 2, none⟩ = some (.int .i64 n.ver)
  c3 : w.cell? ⟨B, 3, none⟩ = some (.int .i64 n.cver)
  c4 : w.cell? ⟨B, 4, none⟩ = some (.int .i64 n.cz)
  c5 : w.cell? ⟨B, 5, none⟩ = some (.int .i64 n.mz)
  c6 : w.cell? ⟨B, 6, none⟩ = some (.int .i64 n.pz)
theorem BoxN.new (w : World) (n : Nd) (t : TypeId) : BoxN (w.alloc (.cells #[.string n.path, .string n.data, .int .i64 n.ver, .int .i64 n.cver, .int .i64 n.cz, .int .i64 n.mz, .int .i64 n.pz] t)) w.heap.size n :=
  ⟨by simp, by simp, by simp, by simp, by simp, by simp, by simp, by simp⟩
theorem BoxN.below {w w' : World} {B : Nat} {n : Nd} (h : BoxN w B n) (hb : Below w.heap.size w w') : BoxN w' B n :=
  ⟨Nat.lt_of_lt_of_le h.lt hb.size, (hb.cell (p := ⟨B, _, none⟩) h.lt).trans h.c0, (hb.cell (p := ⟨B, _, none⟩) h.lt).trans h.c1, (hb.cell (p := ⟨B, _, none⟩) h.lt).trans h.c2, (hb.cell (p := ⟨B, _, none⟩) h.lt).trans h.c3,
   (hb.cell (p := ⟨B, _, none⟩) h.lt).trans h.c4, (hb.cell (p := ⟨B, _, none⟩) h.lt).trans h.c5, (hb.cell (p := ⟨B, _, none⟩) h.lt).trans h.c6⟩

set_option maxHeartbeats 2000000 in
set_option maxRecDepth 100000 in
theorem specNode_any (w : World) (n : Nd) (hp : n.path.size ≤ 1048576) (hd : n.data.size ≤ 1048576) :
    Calls Tryz.prog 56 #[.agg #[.string n.path, .string n.data, .int .i64 n.ver, .int .i64 n.cver, .int .i64 n.cz, .int .i64 n.mz, .int .i64 n.pz]] w fun e w' => e = .returned (.bool (okNd n)) ∧ Below w.heap.size w w' := by
  have X0 : Hid (BoxN (w.alloc (.cells #[.string n.path, .string n.data, .int .i64 n.ver, .int .i64 n.cver, .int .i64 n.cz, .int .i64 n.mz, .int .i64 n.pz] 42)) w.heap.size n) := BoxN.new _ _ _
  have B0 : Hid (Below w.heap.size w (w.alloc (.cells #[.string n.path, .string n.data, .int .i64 n.ver, .int .i64 n.cver, .int .i64 n.cz, .int .i64 n.mz, .int .i64 n.pz] 42))) := (Below.refl _ _).alloc (Nat.le_refl _) _
  go_enter Tryz.func56, Tryz.ntmps56
  go_wp2_with fail
  generalize w.alloc (.cells #[.string n.path, .string n.data, .int .i64 n.ver, .int .i64 n.cver, .int .i64 n.cz, .int .i64 n.mz, .int .i64 n.pz] 42) = w0 at *
  refine (specPath_any _ n.path hp).mono ?_
  rintro e w1 ⟨rfl, b1⟩
  have B1 := hd9 (B0.out.trans (b1.mono B0.out.size))
  obtain ⟨-, c0, c1, c2, c3, c4, c5, c6⟩ := X0.out.below b1
  clear b1 X0 B0
  cases hP : okPath n.path with
  | false =>
    have HO : Hid (okNd n = false) := by show _ = _; unfold okNd; rw [hP]; simp
    go_wp2
    go_ret
    exact ⟨ret_b HO.out.symm, B1.out⟩
  | true =>
    have HP := hd9 hP
    clear hP
    by_cases hD : 64 < n.data.size
    · have hDI : (64 : Int) < (n.data.size : Int) := by omega
      have HO : Hid (okNd n = false) := by show _ = _; unfold okNd; rw [decide_eq_false (show ¬ n.data.size ≤ 64 by omega)]; simp
      go_wp2
      go_ret
      exact ⟨ret_b HO.out.symm, B1.out⟩
    · have hDI : ¬ (64 : Int) < (n.data.size : Int) := by omega
      have HDD := hd9 (decide_eq_true (show n.data.size ≤ 64 by omega))
      go_wp2_with fail
      refine (stat_any _ n.ver).mono ?_
      rintro e w2 ⟨rfl, rfl⟩
      cases h_ver : okS n.ver with
      | false =>
        have HO : Hid (okNd n = false) := by show _ = _; unfold okNd; rw [h_ver]; simp
        go_wp2
        go_ret
        exact ⟨ret_b HO.out.symm, B1.out⟩
      | true =>
        have H_ver := hd9 h_ver
        clear h_ver
        go_wp2_with fail
        refine (stat_any _ n.cver).mono ?_
        rintro e w2 ⟨rfl, rfl⟩
        cases h_cver : okS n.cver with
        | false =>
          have HO : Hid (okNd n = false) := by show _ = _; unfold okNd; rw [h_cver]; simp
          go_wp2
          go_ret
          exact ⟨ret_b HO.out.symm, B1.out⟩
        | true =>
          have H_cver := hd9 h_cver
          clear h_cver
          go_wp2_with fail
          refine (stat_any _ n.cz).mono ?_
          rintro e w2 ⟨rfl, rfl⟩
          cases h_cz : okS n.cz with
          | false =>
            have HO : Hid (okNd n = false) := by show _ = _; unfold okNd; rw [h_cz]; simp
            go_wp2
            go_ret
            exact ⟨ret_b HO.out.symm, B1.out⟩
          | true =>
            have H_cz := hd9 h_cz
            clear h_cz
            go_wp2_with fail
            refine (stat_any _ n.mz).mono ?_
            rintro e w2 ⟨rfl, rfl⟩
            cases h_mz : okS n.mz with
            | false =>
              have HO : Hid (okNd n = false) := by show _ = _; unfold okNd; rw [h_mz]; simp
              go_wp2
              go_ret
              exact ⟨ret_b HO.out.symm, B1.out⟩
            | true =>
              have H_mz := hd9 h_mz
              clear h_mz
              go_wp2_with fail
              refine (stat_any _ n.pz).mono ?_
              rintro e w2 ⟨rfl, rfl⟩
              cases h_pz : okS n.pz with
              | false =>
                have HO : Hid (okNd n = false) := by show _ = _; unfold okNd; rw [h_pz]; simp
                go_wp2
                go_ret
                exact ⟨ret_b HO.out.symm, B1.out⟩
              | true =>
                have H_pz := hd9 h_pz
                clear h_pz
                have HO : Hid (okNd n = true) := by show _ = _; unfold okNd; rw [HP.out, HDD.out, H_ver.out, H_cver.out, H_cz.out, H_mz.out, H_pz.out]; rfl
                go_wp2
                go_ret
                exact ⟨ret_b HO.out.symm, B1.out⟩

set_option maxHeartbeats 2000000 in
set_option maxRecDepth 100000 in
theorem implNode_any (w : World) (n : Nd) (hd : n.data.size ≤ 1048576) :
    Calls Tryz.prog 51 #[.agg #[.string n.path, .string n.data, .int .i64 n.ver, .int .i64 n.cver, .int .i64 n.cz, .int .i64 n.mz, .int .i64 n.pz]] w fun e w' => e = .returned (.bool (okNd n)) ∧ Below w.heap.size w w' := by
  have X0 : Hid (BoxN (w.alloc (.cells #[.string n.path, .string n.data, .int .i64 n.ver, .int .i64 n.cver, .int .i64 n.cz, .int .i64 n.mz, .int .i64 n.pz] 42)) w.heap.size n) := BoxN.new _ _ _
  have B0 : Hid (Below w.heap.size w (w.alloc (.cells #[.string n.path, .string n.data, .int .i64 n.ver, .int .i64 n.cver, .int .i64 n.cz, .int .i64 n.mz, .int .i64 n.pz] 42))) := (Below.refl _ _).alloc (Nat.le_refl _) _
  go_enter Tryz.func51, Tryz.ntmps51
  go_wp2_with fail
  generalize w.alloc (.cells #[.string n.path, .string n.data, .int .i64 n.ver, .int .i64 n.cver, .int .i64 n.cz, .int .i64 n.mz, .int .i64 n.pz] 42) = w0 at *
  refine (implPath_any _ n.path).mono ?_
  rintro e w1 ⟨rfl, b1⟩
  have B1 := hd9 (B0.out.trans (b1.mono B0.out.size))
  obtain ⟨-, c0, c1, c2, c3, c4, c5, c6⟩ := X0.out.below b1
  clear b1 X0 B0
  cases hP : okPath n.path with
  | false =>
    have HO : Hid (okNd n = false) := by show _ = _; unfold okNd; rw [hP]; simp
    go_wp2
    go_ret
    exact ⟨ret_b HO.out.symm, B1.out⟩
  | true =>
    have HP := hd9 hP
    clear hP
    by_cases hD : 64 < n.data.size
    · have hDI : (64 : Int) < (n.data.size : Int) := by omega
      have HO : Hid (okNd n = false) := by show _ = _; unfold okNd; rw [decide_eq_false (show ¬ n.data.size ≤ 64 by omega)]; simp
      go_wp2
      go_ret
      exact ⟨ret_b HO.out.symm, B1.out⟩
    · have hDI : ¬ (64 : Int) < (n.data.size : Int) := by omega
      have HDD := hd9 (decide_eq_true (show n.data.size ≤ 64 by omega))
      go_wp2_with fail
      refine (istat_any _ n.ver).mono ?_
      rintro e w2 ⟨rfl, rfl⟩
      cases h_ver : okS n.ver with
      | false =>
        have HO : Hid (okNd n = false) := by show _ = _; unfold okNd; rw [h_ver]; simp
        go_wp2
        go_ret
        exact ⟨ret_b HO.out.symm, B1.out⟩
      | true =>
        have H_ver := hd9 h_ver
        clear h_ver
        go_wp2_with fail
        refine (istat_any _ n.cver).mono ?_
        rintro e w2 ⟨rfl, rfl⟩
        cases h_cver : okS n.cver with
        | false =>
          have HO : Hid (okNd n = false) := by show _ = _; unfold okNd; rw [h_cver]; simp
          go_wp2
          go_ret
          exact ⟨ret_b HO.out.symm, B1.out⟩
        | true =>
          have H_cver := hd9 h_cver
          clear h_cver
          go_wp2_with fail
          refine (istat_any _ n.cz).mono ?_
          rintro e w2 ⟨rfl, rfl⟩
          cases h_cz : okS n.cz with
          | false =>
            have HO : Hid (okNd n = false) := by show _ = _; unfold okNd; rw [h_cz]; simp
            go_wp2
            go_ret
            exact ⟨ret_b HO.out.symm, B1.out⟩
          | true =>
            have H_cz := hd9 h_cz
            clear h_cz
            go_wp2_with fail
            refine (istat_any _ n.mz).mono ?_
            rintro e w2 ⟨rfl, rfl⟩
            cases h_mz : okS n.mz with
            | false =>
              have HO : Hid (okNd n = false) := by show _ = _; unfold okNd; rw [h_mz]; simp
              go_wp2
              go_ret
              exact ⟨ret_b HO.out.symm, B1.out⟩
            | true =>
              have H_mz := hd9 h_mz
              clear h_mz
              go_wp2_with fail
              refine (istat_any _ n.pz).mono ?_
              rintro e w2 ⟨rfl, rfl⟩
              cases h_pz : okS n.pz with
              | false =>
                have HO : Hid (okNd n = false) := by show _ = _; unfold okNd; rw [h_pz]; simp
                go_wp2
                go_ret
                exact ⟨ret_b HO.out.symm, B1.out⟩
              | true =>
                have H_pz := hd9 h_pz
                clear h_pz
                have HO : Hid (okNd n = true) := by show _ = _; unfold okNd; rw [HP.out, HDD.out, H_ver.out, H_cver.out, H_cz.out, H_mz.out, H_pz.out]; rfl
                go_wp2
                go_ret
                exact ⟨ret_b HO.out.symm, B1.out⟩

end Go.Proofs.YtdiingonnddkcaaGreatDoor


