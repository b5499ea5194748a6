import Derived.Test.YtajnihjdhhmefaaFrIt
import Derived.Test.YtajnihjdhhmefaaScanMark
import Derived.Test.YtajnihjdhhmefaaSpecSettle
namespace Go.Proofs.Ytajnihjdhhmefaa
open Go.RowKit Go.Shelf

attribute [local go_sem] Oper.semAt_some

theorem Try.infoP : (Try.prog.info? 32).map (fun i => (i.zero, i.size, i.bytes)) = some (some (.agg #[.slice none 0 0]), 1, 24) := by kernel_rfl

theorem ownsRow_notCells {W W' : World} {row : Option Nat} {lo n z : Nat} {e : TypeId} {v : Value} {xs : List Value} (h : W.ownsRow lo e z v n xs) (hg : W.grownBy W' row) (hr : ∀ r, row = some r → ∃ o : Obj, W.heap[r]? = some o ∧ o.isCells = false) : W'.ownsRow lo e z v n xs := by
  refine ⟨h.1, ?_⟩
  rcases h.2 with hn | ⟨g, cap, cur, rfl, hbg, hgg, rest⟩
  · exact .inl hn
  · refine .inr ⟨g, cap, cur, rfl, hbg, ?_, rest⟩
    rw [hg.block g (Array.getElem?_eq_some_iff.1 hgg).1 (fun e => by obtain ⟨o, ho, hc⟩ := hr g e.symm; rw [hgg] at ho; injection ho with ho; rw [← ho] at hc; cases hc)]
    exact hgg

theorem OwnP.notCells {W W' : World} {row : Option Nat} {lo : Nat} {v : Value} {rs : List (List Int)} {us : List Value} (h : OwnP W lo v rs us) (hg : W.grownBy W' row) (hr : ∀ r, row = some r → ∃ o : Obj, W.heap[r]? = some o ∧ o.isCells = false) : OwnP W' lo v rs us :=
  ⟨ownsRow_notCells h.1 hg hr, fun i hi => ownsRow_notCells (h.2.1 i hi) hg hr, h.2.2⟩

theorem OwnP.mono {w : World} {lo lo' : Nat} {v : Value} {rs : List (List Int)} {us : List Value} (h : OwnP w lo v rs us) (hl : lo' ≤ lo) : OwnP w lo' v rs us := by
  refine ⟨⟨h.1.1, ?_⟩, fun i hi => (h.2.1 i hi).mono hl, h.2.2⟩
  rcases h.1.2 with hn | ⟨g, cap, cur, rfl, hbg, rest⟩
  · exact .inl hn
  · exact .inr ⟨g, cap, cur, rfl, Nat.le_trans hl hbg, rest⟩

/-- The scan under way: its payloads s, in the slice v. -/
structure StV (w : World) (ao : Option Addr) (n cap : Nat) (R : List (List Int × Nat)) (s : List Value) (v : Value) (W : World) : Prop where
  le : s.length ≤ R.length
  own : OwnP W (w.heap.size + 3) v ((R.map (·.1)).take s.length) s
  scan : BoxF W (w.heap.size + 1) v (.int .i64 ((pos R s.length : Nat) : Int))
  res : BoxF W w.heap.size (.slice none 0 0) (.int .i64 0)
  area : Boxed W (w.heap.size + 2) 22 (.slice ao n cap)
  below : Below w.heap.size w W
  size : w.heap.size + 3 ≤ W.heap.size

theorem StV.later {w : World} {ao : Option Addr} {n cap : Nat} {R : List (List Int × Nat)} {s : List Value} {v : Value} {X Y : World} (h : StV w ao n cap R s v X) (hb : Below X.heap.size X Y) : StV w ao n cap R s v Y :=
  ⟨h.le, h.own.below hb, h.scan.below hb, h.res.below hb, (hb.block _ (by have := h.size; omega)).trans h.area, h.below.trans (hb.mono (by have := h.size; omega)), Nat.le_trans h.size hb.size⟩

theorem StV.notCells {w : World} {ao : Option Addr} {n cap : Nat} {R : List (List Int × Nat)} {s : List Value} {v : Value} {X Y : World} {row : Option Nat} (h : StV w ao n cap R s v X) (hg : X.grownBy Y row) (hr : ∀ r, row = some r → w.heap.size + 3 ≤ r ∧ ∃ o : Obj, X.heap[r]? = some o ∧ o.isCells = false) : StV w ao n cap R s v Y :=
  ⟨h.le, h.own.notCells hg (fun r e => (hr r e).2), h.scan.other hg (fun e => by have := (hr _ e.symm).1; omega), h.res.other hg (fun e => by have := (hr _ e.symm).1; omega),
   (hg.block _ (by have := h.size; omega) (fun e => by have := (hr _ e.symm).1; omega)).trans h.area, h.below.grown hg (by have := h.size; omega) (fun q e => by have := (hr q e).1; omega), Nat.le_trans h.size hg.size⟩

theorem StV.cellRd {w : World} {ao : Option Addr} {n cap : Nat} {R : List (List Int × Nat)} {s : List Value} {v : Value} {W : World} {a : List Int} (h : StV w ao n cap R s v W) (hr : Rd .u8 w (.slice ao n cap) a) : W.cell? ⟨w.heap.size + 2, 0, none⟩ = some (.slice ao n cap) ∧ Rd .u8 W (.slice ao n cap) a := ⟨h.area.cell, hr.below h.below⟩

theorem below_keeps {B : Nat} {X Y : World} (h : Below X.heap.size X Y) : KeepsFrom B X Y := ⟨h.size, fun k _ _ hk _ => (h.block k (Array.getElem?_eq_some_iff.1 hk).1).trans hk⟩

theorem ne_by_type {w : World} {lo lo' n : Nat} {u v : Value} {xs : List Int} {us : List Value} (ho : Own .u8 5 w lo u xs) (hv : w.ownsRow lo' 32 1 v n us) : Ne2 u v := by
  rcases ho.2 with ⟨rfl, -⟩ | ⟨g, cap, cur, rfl, -, hg, -⟩
  · exact .inl rfl
  · refine .inr ?_
    rcases hv.2 with ⟨rfl, -⟩ | ⟨g', cap', cur', rfl, -, hg', -⟩
    · simp [Value.ownBlock]
    · intro e
      simp only [Value.ownBlock, Option.some.injEq] at e
      subst e
      rw [hg] at hg'
      injection hg' with hg'
      injection hg' with h1 h2
      cases h2

theorem keeps_row {B : Nat} {X Y : World} {lo n z : Nat} {e : TypeId} {v : Value} {xs : List Value} (h : X.ownsRow lo e z v n xs) (hg : X.grownBy Y v.ownBlock) : KeepsFrom B X Y := by
  refine ⟨hg.size, fun k o _ hk ho => (hg.block k (Array.getElem?_eq_some_iff.1 hk).1 (fun e => ?_)).trans hk⟩
  rcases h.2 with ⟨rfl, -⟩ | ⟨g, cap, cur, rfl, -, hgg, -⟩
  · cases e
  · simp only [Value.ownBlock, Option.some.injEq] at e
    subst e
    rw [hgg] at hk
    injection hk with hk
    rw [← hk] at ho; cases ho

theorem uV_left {s : List Value} {u : Value} {i : Nat} (h : i < s.length) : uV (s ++ [u]) i = uV s i := by unfold uV; simp [List.getD, List.getElem?_append_left h]
theorem uV_last {s : List Value} {u : Value} : uV (s ++ [u]) s.length = u := by unfold uV; simp [List.getD]
theorem pR_take {rs : List (List Int)} {m i : Nat} (h : i < m) : pR (rs.take m) i = pR rs i := by unfold pR; simp [List.getD, List.getElem?_take_of_lt h]

theorem scn_len : ∀ (f : Nat) (a : List Int), (scn f a).length ≤ f
  | 0, a => by simp [scn]
  | f + 1, a => by
    unfold scn
    split
    · have := scn_len f (a.drop (2 + frm_m a)); simp; omega
    · simp

theorem gset (w : World) (B j : Nat) (u : Value) : w.grownBy (w.setCell ⟨B, j, none⟩ u) (some B) := ⟨rfl, rfl, rfl, by simp, fun k _ hne => Below.heap_setCell _ _ _ _ (fun e => hne (by rw [e]))⟩

theorem StV.step {w : World} {ao : Option Addr} {n cap : Nat} {R : List (List Int × Nat)} {s : List Value} {V : Value} {W : World} (hS : StV w ao n cap R s V W) (hlt : s.length < R.length) {u : Value} {hi : Nat} (hL : LtP hi V ((R.map (·.1)).take s.length) s) (hhi : w.heap.size + 3 ≤ hi)
    (ho : Own .u8 5 W hi u (pR (R.map (·.1)) s.length)) {o : Obj} {v2 : Value} {w2 : World} (ho2 : w2.ownsRow (w.heap.size + 3) 32 1 v2 (s.length + 1) (s ++ [u])) (hg2 : (W.alloc o).grownBy w2 V.ownBlock) :
    KeepsFrom (w.heap.size + 3) W ((w2.setCell ⟨w.heap.size + 1, 0, none⟩ v2).setCell ⟨w.heap.size + 1, 1, none⟩ (.int .i64 ((pos R (s.length + 1) : Nat) : Int))) ∧
    StV w ao n cap R (s ++ [u]) v2 ((w2.setCell ⟨w.heap.size + 1, 0, none⟩ v2).setCell ⟨w.heap.size + 1, 1, none⟩ (.int .i64 ((pos R (s.length + 1) : Nat) : Int))) := by
  have hbA : Below W.heap.size W (W.alloc o) := (Below.refl _ _).alloc (Nat.le_refl _) _
  have hlen : ((R.map (·.1)).take s.length).length = s.length := by rw [List.length_take, List.length_map]; omega
  have hlen2 : ((R.map (·.1)).take (s.length + 1)).length = s.length + 1 := by rw [List.length_take, List.length_map]; omega
  have hsA := hS.later hbA
  have hV : ∀ g, V.ownBlock = some g → w.heap.size + 3 ≤ g := fun g e => (World.ownsRow.lt hS.own.1 g e).1
  have hz := hS.size
  have hz2 := hg2.size
  have hz3 := hbA.size
  have oS : ∀ i, i < s.length → Own .u8 5 w2 (w.heap.size + 3) (uV s i) (pR (R.map (·.1)) i) := fun i hi' => by
    have h1 := hsA.own.2.1 i (by rw [hlen]; exact hi')
    rw [pR_take hi'] at h1
    exact h1.other hg2 (hS.own.2.2.2 i (by rw [hlen]; exact hi'))
  have oU : Own .u8 5 w2 hi u (pR (R.map (·.1)) s.length) := (ho.below hbA).other hg2 (by
    cases e : u.ownBlock with
    | none => exact .inl rfl
    | some g => exact .inr (fun e2 => by have h1 := (ho.lt g e).1; have h2 := hL.1 g (by rw [← e2]); omega))
  have sc : BoxF w2 (w.heap.size + 1) V (.int .i64 ((pos R s.length : Nat) : Int)) := hsA.scan.other hg2 (fun e => by have := hV _ e.symm; omega)
  have rs : BoxF w2 w.heap.size (.slice none 0 0) (.int .i64 0) := hsA.res.other hg2 (fun e => by have := hV _ e.symm; omega)
  have ar : w2.heap[w.heap.size + 2]? = (W.alloc o).heap[w.heap.size + 2]? := hg2.block _ (by omega) (fun e => by have := hV _ e.symm; omega)
  have bl : Below w.heap.size w w2 := hsA.below.grown hg2 (by omega) (fun q e => by have := hV q e; omega)
  refine ⟨((below_keeps hbA).trans (keeps_row hsA.own.1 hg2)).trans (((KeepsOthers.setCell _ _ _).from _).trans ((KeepsOthers.setCell _ _ _).from _)), ?_⟩
  refine ⟨by rw [List.length_append]; exact hlt, ?_, ?_, ?_, ?_, (bl.setCell (by simp) _).setCell (by simp) _, by simp; omega⟩
  · rw [show (s ++ [u]).length = s.length + 1 by simp]
    refine ⟨?_, fun i hi' => ?_, fun i j hi' hj' hne => ?_, fun i hi' => ?_⟩
    · rw [hlen2]
      exact ownsRow_setCell_below (ownsRow_setCell_below ho2 (by show w.heap.size + 1 < _; omega) _) (by show w.heap.size + 1 < _; omega) _
    · rw [hlen2] at hi'
      rw [pR_take hi']
      by_cases e : i < s.length
      · rw [uV_left e]
        exact ((oS i e).setBelow (by show w.heap.size + 1 < _; omega) _).setBelow (by show w.heap.size + 1 < _; omega) _
      · have e' : i = s.length := by omega
        subst e'
        rw [uV_last]
        exact (((oU.mono hhi).setBelow (by show w.heap.size + 1 < _; omega) _)).setBelow (by show w.heap.size + 1 < _; omega) _
    · rw [hlen2] at hi' hj'
      by_cases e : i < s.length
      · by_cases e2 : j < s.length
        · rw [uV_left e, uV_left e2]
          exact hS.own.2.2.1 i j (by rw [hlen]; exact e) (by rw [hlen]; exact e2) hne
        · have e2' : j = s.length := by omega
          subst e2'
          rw [uV_left e, uV_last]
          cases q : (uV s i).ownBlock with
          | none => exact .inl q
          | some g => exact .inr (fun e3 => by have h1 := hL.2 i (by rw [hlen]; exact e) g q; have h2 := (ho.lt g (by rw [← e3]; exact q)).1; omega)
      · have e' : i = s.length := by omega
        subst e'
        have e2 : j < s.length := by omega
        rw [uV_left e2, uV_last]
        cases q : u.ownBlock with
        | none => exact .inl q
        | some g => exact .inr (fun e3 => by have h1 := hL.2 j (by rw [hlen]; exact e2) g (by rw [← e3]; exact q); have h2 := (ho.lt g q).1; omega)
    · rw [hlen2] at hi'
      by_cases e : i < s.length
      · rw [uV_left e]; exact ne_by_type (oS i e) ho2
      · have e' : i = s.length := by omega
        subst e'
        rw [uV_last]; exact ne_by_type oU ho2
  · rw [show (s ++ [u]).length = s.length + 1 by simp]
    obtain ⟨⟨z, d0, d1⟩, f0, f1⟩ := sc
    refine ⟨⟨by simpa using z, ?_, ?_⟩, ?_, ?_⟩
    · rw [World.cell?_setCell_other _ _ _ _ (by simp)]; exact World.cell?_setCell_same _ _ _ d0
    · exact World.cell?_setCell_same _ _ _ (by rw [World.cell?_setCell_other _ _ _ _ (by simp)]; exact d1)
    · simpa using f0
    · simpa using f1
  · exact (rs.other (gset w2 (w.heap.size + 1) 0 v2) (by simp)).other (gset _ (w.heap.size + 1) 1 _) (by simp)
  · show _ = _
    rw [Below.heap_setCell _ _ _ _ (by simp), Below.heap_setCell _ _ _ _ (by simp), ar]
    exact hsA.area

/-- What the body finds. -/
def AxS (w : World) (ao : Option Addr) (n cap : Nat) (R : List (List Int × Nat)) (tm : Value → Value → Value → Array Value) (s : List Value) (vs : Array Value) (a' : Act) (W : World) : Prop :=
  ∃ ua uc v Bx hi, uOf vs = .slice ua (pR (R.map (·.1)) s.length).length uc ∧ s.length < R.length ∧ StV w ao n cap R s v W ∧ LtP hi v ((R.map (·.1)).take s.length) s ∧ w.heap.size + 3 ≤ hi ∧
    Own .u8 5 W hi (.slice ua (pR (R.map (·.1)) s.length).length uc) (pR (R.map (·.1)) s.length) ∧ Boxed W Bx 32 (.slice ua (pR (R.map (·.1)) s.length).length uc) ∧ a' = { tmps := tm (.int .i64 ((pos R (s.length + 1) : Nat) : Int)) (.pointer (some ⟨Bx, 0, none⟩)) (.agg #[.slice ua (pR (R.map (·.1)) s.length).length uc]), defers := [] }

set_option maxHeartbeats 2000000 in
set_option maxRecDepth 100000 in
theorem implScan_yes (w : World) (ao : Option Addr) (n cap : Nat) (a : List Int) (h : Rd .u8 w (.slice ao n cap) a) (hl : a.length = n) (hby : Byt a) (hn : n ≤ 8192) (hform : (ao = none ∧ n = 0 ∧ cap = 0) ∨ ∃ blk o, ao = some ⟨blk, o, none⟩) :
    Calls Try.prog 12 #[.slice ao n cap] w fun e w' => ∃ v us, e = .returned (.agg #[v, .int .i64 ((pos (scn n a) (scn n a).length : Nat) : Int)]) ∧ OwnP w' w.heap.size v ((scn n a).map (·.1)) us ∧ Below w.heap.size w w' := by
  have HR : Hid (Rd .u8 w (.slice ao n cap) a) := h
  have HL : Hid (a.length = n) := hl
  have HBY : Hid (Byt a) := hby
  have HF : Hid ((ao = none ∧ n = 0 ∧ cap = 0) ∨ ∃ blk o, ao = some ⟨blk, o, none⟩) := hform
  clear h hl hby hform
  have h0 : ¬ (8192 : Int) < (n : Int) := by omega
  have h0d : decide ((8192 : Int) < (n : Int)) = false := by simpa using h0
  refine (callsIn_wide (n := 6)).1 ?_
  refine callsIn_of_wp_marks Try.func12 rfl trivial ?_ rfl
  simp only [Try.ntmps12, List.size_toArray, List.length_cons, List.length_nil, Nat.reduceAdd, Nat.reduceSub, Array.replicate_succ, Array.replicate_zero, List.push_toArray, List.append_toArray, List.nil_append, List.cons_append]
  gi_wp2_with fail
  refine ⟨trivial, ?_⟩
  refine (frames_in Fence.wide _ trivial rfl _ _ _ _).mono ?_
  rintro e w5 ⟨rfl, hw5⟩
  gi_wp2_with fail
  have HST0 : Hid (StV w ao n cap (scn n a) [] (.slice none 0 0) w5) := by
    rw [hw5]
    refine ⟨Nat.zero_le _, ⟨World.ownsRow_nil _ _ _ _, fun i hi => by simp at hi, fun i j hi => by simp at hi, fun i hi => by simp at hi⟩, ?_, ?_, ?_, ?_, by simp⟩
    · have := (BoxF.new (w.alloc (.cells #[.slice none 0 0, .int .i64 0] 29)) (.slice none 0 0) (.int .i64 0) 29).below ((Below.refl _ _).alloc (Nat.le_refl _) (.cells #[.slice ao n cap] 22))
      rw [World.size_alloc] at this
      exact this
    · exact ((BoxF.new w (.slice none 0 0) (.int .i64 0) 29).below ((Below.refl _ _).alloc (Nat.le_refl _) _)).below ((Below.refl _ _).alloc (Nat.le_refl _) _)
    · have := Boxed.new ((w.alloc (.cells #[.slice none 0 0, .int .i64 0] 29)).alloc (.cells #[.slice none 0 0, .int .i64 0] 29)) 22 (.slice ao n cap)
      rw [World.size_alloc, World.size_alloc] at this
      exact this
    · exact (((Below.refl _ _).alloc (Nat.le_refl _) _).alloc (by simp) _).alloc (by simp; omega) _
  have s5 : w5.heap.size = w.heap.size + 3 := by rw [hw5]; simp
  rw [← hw5]
  clear hw5
  refine range_given (F := Fence.wide) (n := 6) rfl (by omega) (gf := 69) (lb := #[.pointer (some ⟨w.heap.size + 2, 0, none⟩)]) rfl trivial (enters_of Try.func69 (by kernel_rfl) rfl)
    (fun s W => ∃ v, StV w ao n cap (scn n a) s v W) (PreS (scn n a) (fun s W => ∃ v, StV w ao n cap (scn n a) s v W)) (fun s vs => s ++ [uOf vs]) (fun _ _ => True) (fun s => s.length = (scn n a).length) []
    (fun s X Y row hs hg hr => by obtain ⟨v, hs⟩ := hs; exact ⟨v, hs.notCells hg (fun r e => by have := hr r e; rw [s5] at this; exact this)⟩) (fun _ _ => trivial) (fun _ _ _ _ _ _ _ _ => trivial)
    (fun s vs W hp => by obtain ⟨u, W0, rfl, -⟩ := hp; rfl) ⟨_, HST0.out⟩
    (AxS w ao n cap (scn n a) (fun e b p => #[.slice ao n cap, undef, .pointer (some ⟨w.heap.size, 0, none⟩), .pointer (some ⟨w.heap.size + 1, 0, none⟩), e, b, .slice ao n cap, .int .i64 n, .bool false, undef, .slice ao n cap, .func (.func 69) #[] #[.pointer (some ⟨w.heap.size + 2, 0, none⟩)], e, p, undef, undef, undef, undef, undef, undef, undef, undef, undef]))
    ?ax ?assign ?body ?call ?done
  case ax =>
    rintro s vs a' _ X Y row ⟨ua, uc, v, Bx, hi, h1, h2, h3, h4, h5, h6, h7, h8⟩ hg hr
    refine ⟨ua, uc, v, Bx, hi, h1, h2, h3.notCells hg (fun r e => by have := hr r e; rw [s5] at this; exact this), h4, h5, ownsRow_notCells h6 hg (fun r e => (hr r e).2), ?_, h8⟩
    exact (hg.block Bx (Array.getElem?_eq_some_iff.1 h7).1 (fun e => by obtain ⟨-, o, ho, hc⟩ := hr Bx e.symm; rw [h7] at ho; injection ho with ho; rw [← ho] at hc; cases hc)).trans h7
  case assign =>
    rintro l s vs W K - ⟨u, W0, rfl, hlt, ⟨v, hs⟩, hb, ho⟩ hK
    have hpr : ((scn n a).getD s.length ([], 0)).1 = pR ((scn n a).map (·.1)) s.length := by unfold pR; simp [List.getD, hlt]
    rw [hpr] at ho
    obtain ⟨ua, uc, rfl⟩ := Own.slice ho
    have HO : Hid (Own .u8 5 W W0.heap.size (.slice ua (pR ((scn n a).map (·.1)) s.length).length uc) (pR ((scn n a).map (·.1)) s.length)) := ho
    have HS : Hid (StV w ao n cap (scn n a) s v W0) := hs
    have HB : Hid (Below W0.heap.size W0 W) := hb
    have HK : Hid (∀ a' W', KeepsFrom w5.heap.size W W' → True → AxS w ao n cap (scn n a) (fun e b p => #[.slice ao n cap, undef, .pointer (some ⟨w.heap.size, 0, none⟩), .pointer (some ⟨w.heap.size + 1, 0, none⟩), e, b, .slice ao n cap, .int .i64 n, .bool false, undef, .slice ao n cap, .func (.func 69) #[] #[.pointer (some ⟨w.heap.size + 2, 0, none⟩)], e, p, undef, undef, undef, undef, undef, undef, undef, undef, undef]) s _ a' W' → K a' W') := hK
    clear ho hs hb hK hpr
    generalize hq : pR ((scn n a).map (·.1)) s.length = q at *
    have HLT0 : Hid (s.length < (scn n a).length) := hlt
    clear hlt
    gi_wp2
    refine HK.out _ _ (below_keeps ((Below.refl _ _).alloc (Nat.le_refl _) _)) trivial ⟨ua, uc, v, W.heap.size, W0.heap.size, by rw [hq]; rfl, HLT0.out, (HS.out.later HB.out).later ((Below.refl _ _).alloc (Nat.le_refl _) _), HS.out.own.lt, HS.out.size, by rw [hq]; exact HO.out.below ((Below.refl _ _).alloc (Nat.le_refl _) _), by rw [hq]; exact Boxed.new _ _ _, by rw [hq]⟩
  case body =>
    rintro l s vs a' W ⟨ua, uc, v, Bx, hi, hu, hlt, hS, hL, hhi, ho, hx, rfl⟩
    obtain ⟨va, vc, rfl⟩ := hS.own.slice
    have HS : Hid (StV w ao n cap (scn n a) s (.slice va ((scn n a).map (·.1) |>.take s.length).length vc) W) := hS
    have HLT : Hid (LtP hi (.slice va ((scn n a).map (·.1) |>.take s.length).length vc) (((scn n a).map (·.1)).take s.length) s) := hL
    have HO : Hid (Own .u8 5 W hi (.slice ua (pR ((scn n a).map (·.1)) s.length).length uc) (pR ((scn n a).map (·.1)) s.length)) := ho
    have hsl : (((scn n a).map (·.1)).take s.length).length = s.length := by rw [List.length_take, List.length_map]; omega
    obtain ⟨⟨zs, d0, d1⟩, f0, f1⟩ := hS.scan
    have cx := hx.cell
    rw [hsl] at d0
    have sW := hS.size
    have zx : Bx < W.heap.size := (Array.getElem?_eq_some_iff.1 hx).1
    have OWN : Hid ((W.alloc (.cells #[.slice ua (pR ((scn n a).map (·.1)) s.length).length uc] 32)).ownsRow (w.heap.size + 3) 32 1 (.slice va s.length vc) s.length s) := by
      have := World.ownsRow.alloc HS.out.own.1 (.cells #[.slice ua (pR ((scn n a).map (·.1)) s.length).length uc] 32)
      rw [hsl] at this
      exact this
    have HSL : Hid ((((scn n a).map (·.1)).take s.length).length = s.length) := hsl
    have hsm : s.length ≤ 8192 := by have := scn_len n a; omega
    have WV : ∀ g, Value.ownBlock (.slice va s.length vc) = some g → w.heap.size + 3 ≤ g := fun g e => (World.ownsRow.lt OWN.out g e).1
    have HWV : Hid (∀ g, Value.ownBlock (.slice va s.length vc) = some g → w.heap.size + 3 ≤ g) := WV
    have XS : Hid (BoxF W (w.heap.size + 1) (.slice va s.length vc) (.int .i64 ((pos (scn n a) s.length : Nat) : Int))) := by have := HS.out.scan; rw [hsl] at this; exact this
    have HU : Hid (uOf vs = .slice ua (pR ((scn n a).map (·.1)) s.length).length uc) := hu
    clear hS hL ho hx hsl WV hu
    obtain ⟨i0, hi0, hz0, hz1, hz2⟩ := info_parts Try.infoP
    gi_wp2_with (gi_at_builtin; go_must (refine wpListIn_append_own _ rfl _ _ 27 rfl (w.heap.size + 3) 32 i0 (.agg #[.slice none 0 0]) 1 24 Try.underlying27 hi0 hz0 hz1 hz2 rfl (by decide) _ _ s rfl OWN.out ⟨W.heap.size, 0, none⟩ 1 1 [.slice ua (pR ((scn n a).map (·.1)) s.length).length uc] rfl rfl (cell_one_new _ _ _) (by intro u hu; simp at hu; subst hu; rfl) ?c3 ?c4 ?c5 ?_))
    case c3 => unfold maxLen; omega
    case c4 => omega
    case c5 => (try simp); omega
    intro v2 w2 ho2 hg2 _
    have XS2 : Hid (BoxF w2 (w.heap.size + 1) (.slice va s.length vc) (.int .i64 ((pos (scn n a) s.length : Nat) : Int))) := (XS.out.below ((Below.refl _ _).alloc (Nat.le_refl _) _)).other hg2 (fun e => by have := HWV.out _ e.symm; omega)
    obtain ⟨g, gc, rfl⟩ : ∃ g gc, v2 = .slice (some ⟨g, 0, none⟩) (s.length + 1) gc := by
      rcases ho2.2 with ⟨-, h⟩ | ⟨g, gc, cur, rfl, -⟩
      · omega
      · exact ⟨g, gc, rfl⟩
    have FIN : Hid _ := StV.step HS.out hlt (by have := HLT.out; exact this) hhi HO.out ho2 (by rw [HSL.out]; exact hg2)
    obtain ⟨⟨z2, e0, e1⟩, k0, k1⟩ := XS2.out
    clear d0 d1 f0 f1 cx zs ho2 hg2 OWN
    gi_wp2
    refine ⟨FIN.out.1, .slice (some ⟨g, 0, none⟩) (s.length + 1) gc, ?_⟩
    rw [HU.out]; exact FIN.out.2
  case call =>
    intro Bk W1 hBk hY _ _ hs0 hb0
    have hY' : ∀ s vs W, (∃ v, StV w ao n cap (scn n a) s v W) → Bk W → PreS (scn n a) (fun s W => ∃ v, StV w ao n cap (scn n a) s v W) s vs W → YieldAt Fence.wide (5 - 1) Try.prog (w5.heap.size + 1) vs W fun e W' => e = .returned (.bool true) ∧ (∃ v, StV w ao n cap (scn n a) (s ++ [uOf vs]) v W') ∧ Bk W' := by
      intro s vs W hs hb hp
      obtain ⟨fn, tm, asg, bd, hy, hR⟩ := hY s vs W hs hb hp
      exact ⟨fn, tm, asg, bd, hy, hR.mono (fun e W' h => ⟨h.1, h.2.1, h.2.2.1⟩)⟩
    rcases HF.out with ⟨ho, hn0, hc0⟩ | ⟨blk, o, ho⟩
    · have ha : a = [] := List.eq_nil_of_length_eq_zero (by rw [HL.out]; exact hn0)
      have hr := frames1_nil 5 (by omega) (w5.heap.size + 1) (w.heap.size + 2) (fun s W => ∃ v, StV w ao n cap (scn n a) s v W) Bk (fun s X Y hb ⟨v, h⟩ => ⟨v, h.later hb⟩) (fun X Y hb h => hBk X Y (below_keeps hb) h) (fun s W ⟨v, h⟩ => by have := h.area.cell; rw [ho, hn0, hc0] at this; exact this) W1 hs0 hb0
      refine hr.mono ?_
      rintro e W' ⟨h1, s, h2, h3⟩
      exact ⟨h1, s, by rw [h2, hn0, ha], h3⟩
    · subst ho
      exact frames1_some 5 (by omega) (w5.heap.size + 1) (w.heap.size + 2) blk o n cap a HL.out HBY.out hn (fun s W => ∃ v, StV w (some ⟨blk, o, none⟩) n cap (scn n a) s v W) Bk (fun s X Y hb ⟨v, h⟩ => ⟨v, h.later hb⟩) (fun X Y hb h => hBk X Y (below_keeps hb) h) (fun s W ⟨v, h⟩ => h.cellRd HR.out) hY' W1 hs0 hb0
  case done =>
    rintro D s W hD hfin ⟨v, hS⟩ hK
    obtain ⟨va, vc, hv⟩ := hS.own.slice
    have hsl : (((scn n a).map (·.1)).take s.length).length = s.length := by rw [List.length_take, List.length_map]; omega
    rw [hsl] at hv
    subst hv
    have OP : Hid (OwnP W (w.heap.size + 3) (.slice va s.length vc) ((scn n a).map (·.1)) s) := by
      have := hS.own
      rw [hfin, List.take_of_length_le (by rw [List.length_map]; exact Nat.le_refl _)] at this
      rw [hfin]; exact this
    have HPOS : Hid (pos (scn n a) s.length = pos (scn n a) (scn n a).length) := by rw [hfin]; exact rfl
    have hB : Below w.heap.size w W := hS.below
    have zW := hS.size
    obtain ⟨⟨zs, d0, d1⟩, -⟩ := hS.scan
    obtain ⟨⟨zr, r0, r1⟩, f0, f1⟩ := hS.res
    clear hS hfin hsl
    generalize pos (scn n a) s.length = ps at *
    gi_wp2
    have hK2 : ((W.setCell ⟨w.heap.size, 0, none⟩ (.slice va s.length vc)).setCell ⟨w.heap.size, 1, none⟩ (.int .i64 (ps : Int))).heap[D]? = some (.deferred (some [])) := (KeepsOthers.setCell _ _ _).same D _ ((KeepsOthers.setCell _ _ _).same D _ hK rfl) rfl
    refine ⟨by simp, .inl ⟨_, _, rfl, run_takeDeferred hK2, ?_⟩⟩
    have x0 : ((W.setCell ⟨w.heap.size, 0, none⟩ (.slice va s.length vc)).setCell ⟨w.heap.size, 1, none⟩ (.int .i64 (ps : Int))).cell? ⟨w.heap.size, 0, none⟩ = some (.slice va s.length vc) := by
      rw [World.cell?_setCell_other _ _ _ _ (by simp)]; exact World.cell?_setCell_same _ _ _ r0
    have x1 : ((W.setCell ⟨w.heap.size, 0, none⟩ (.slice va s.length vc)).setCell ⟨w.heap.size, 1, none⟩ (.int .i64 (ps : Int))).cell? ⟨w.heap.size, 1, none⟩ = some (.int .i64 (ps : Int)) :=
      World.cell?_setCell_same _ _ _ (by rw [World.cell?_setCell_other _ _ _ _ (by simp)]; exact r1)
    have OX : OwnP ((W.setCell ⟨w.heap.size, 0, none⟩ (.slice va s.length vc)).setCell ⟨w.heap.size, 1, none⟩ (.int .i64 (ps : Int))) (w.heap.size + 3) (.slice va s.length vc) ((scn n a).map (·.1)) s :=
      ⟨ownsRow_setCell_below (ownsRow_setCell_below OP.out.1 (by show w.heap.size < _; omega) _) (by show w.heap.size < _; omega) _, fun i hi => ((OP.out.2.1 i hi).setBelow (by show w.heap.size < _; omega) _).setBelow (by show w.heap.size < _; omega) _, OP.out.2.2⟩
    have BX : Below w.heap.size w ((W.setCell ⟨w.heap.size, 0, none⟩ (.slice va s.length vc)).setCell ⟨w.heap.size, 1, none⟩ (.int .i64 (ps : Int))) := (hB.setCell (by simp) _).setCell (by simp) _
    have SX : ((W.setCell ⟨w.heap.size, 0, none⟩ (.slice va s.length vc)).setCell ⟨w.heap.size, 1, none⟩ (.int .i64 (ps : Int))).heap.size = W.heap.size := by simp
    generalize (W.setCell ⟨w.heap.size, 0, none⟩ (.slice va s.length vc)).setCell ⟨w.heap.size, 1, none⟩ (.int .i64 (ps : Int)) = X at *
    have GX := grownBy_putObj' X D (.deferred none)
    have y0 := (World.cell?_of_block (w := X) (a := ⟨w.heap.size, 0, none⟩) (GX.block w.heap.size (by omega) (by simp; omega))).trans x0
    have y1 := (World.cell?_of_block (w := X) (a := ⟨w.heap.size, 1, none⟩) (GX.block w.heap.size (by omega) (by simp; omega))).trans x1
    have OF : OwnP (X.putObj D (.deferred none)) (w.heap.size + 3) (.slice va s.length vc) ((scn n a).map (·.1)) s := OX.notCells GX (fun r e => by injection e with e; subst e; exact ⟨_, hK2, rfl⟩)
    have BF : Below w.heap.size w (X.putObj D (.deferred none)) := BX.grown GX (by omega) (fun q e => by injection e with e; omega)
    generalize X.putObj D (.deferred none) = Z at *
    refine ⟨.agg #[.slice va s.length vc, .int .i64 (ps : Int)], ?_, _, s, by rw [HPOS.out], OF.mono (by omega), BF⟩
    simp [results, Try.results12, go_sem, y0, y1]

end Go.Proofs.Ytajnihjdhhmefaa
