import Derived.Test.YtajnihjdhhmefaaImplScan
namespace Go.Proofs.Ytajnihjdhhmefaa
open Go.RowKit

theorem scn_no {a : List Int} (h : frmB a = false) (f : Nat) : scn f a = [] := by
  cases f with
  | zero => rfl
  | succ f => unfold scn; rw [h]; simp
theorem scn_yes {a : List Int} (h : frmB a = true) (f : Nat) : scn (f + 1) a = (frm_p a, 2 + frm_m a) :: scn f (a.drop (2 + frm_m a)) := by
  conv => lhs; unfold scn
  rw [h]; simp

def ScanPost (w : World) (f : Nat) (a : List Int) (e : Ending) (w' : World) : Prop := ∃ v us, e = .returned (.agg #[v, .int .i64 ((pos (scn f a) (scn f a).length : Nat) : Int)]) ∧ OwnP w' w.heap.size v ((scn f a).map (·.1)) us ∧ Below w.heap.size w w'

theorem scn_short : ∀ (f : Nat) (a : List Int), a.length ≤ f → (scn f a).length ≤ a.length
  | 0, a, _ => by simp [scn]
  | f + 1, a, h => by
    cases e : frmB a with
    | false => rw [scn_no e]; simp
    | true =>
      obtain ⟨k1, k2, k3, k4, -⟩ := (frmB_iff a).1 e
      have := scn_short f (a.drop (2 + frm_m a)) (by rw [List.length_drop]; omega)
      rw [List.length_drop] at this
      rw [scn_yes e, List.length_cons]; omega

theorem scan_none {w w' : World} {f : Nat} {a : List Int} (hno : frmB a = false) (hb : Below w.heap.size w w') : ScanPost w f a (.returned (.agg #[.slice none 0 0, .int .i64 0])) w' := by
  unfold ScanPost
  rw [scn_no hno f]
  exact ⟨_, [], rfl, ⟨World.ownsRow_nil _ _ _ _, fun i hi => by simp at hi, fun i j hi => by simp at hi, fun i hi => by simp at hi⟩, hb⟩

theorem ScanPost.alloc {w w' : World} {f : Nat} {a : List Int} {e : Ending} (h : ScanPost w f a e w') (o : Obj) : ScanPost w f a e (w'.alloc o) := by
  obtain ⟨v, us, h1, h2, h3⟩ := h
  exact ⟨v, us, h1, h2.below ((Below.refl _ _).alloc (Nat.le_refl _) _), h3.alloc h3.size _⟩

theorem ne_type_block {W : World} {lo n c : Nat} {v : Value} {us : List Value} {cs : Array Value} (hv : W.ownsRow lo 32 1 v n us) (hc : W.heap[c]? = some (.cells cs 29 (0, 0))) : v.ownBlock ≠ some c := by
  rcases hv.2 with ⟨rfl, -⟩ | ⟨g', cap', cur', rfl, -, hg', -⟩
  · simp [Value.ownBlock]
  · intro e
    simp only [Value.ownBlock, Option.some.injEq] at e
    subst e
    rw [hg'] at hc
    injection hc with hc
    injection hc with h1 h2
    cases h2

theorem uV_cons0 {s : List Value} {u : Value} : uV (u :: s) 0 = u := rfl
theorem uV_consS {s : List Value} {u : Value} {i : Nat} : uV (u :: s) (i + 1) = uV s i := rfl
theorem pR_consS {s : List (List Int)} {u : List Int} {i : Nat} : pR (u :: s) (i + 1) = pR s i := rfl

/-- The last stores of spec.ScanFrames. -/
theorem scan_fin {w W : World} {f m c : Nat} {a p : List Int} {R' : List (List Int × Nat)} {v U : Value} {us : List Value} {cs : Array Value} (hRR : scn f a = (p, m) :: R') (hr : W.ownsRow (w.heap.size + 1) 32 1 v (1 + R'.length) ([U] ++ us))
    (hu : Own .u8 5 W (w.heap.size + 1) U p) (h4 : ∀ i, i < R'.length → Own .u8 5 W (w.heap.size + 1) (uV us i) (pR (R'.map (·.1)) i)) (hp : ∀ i j, i < R'.length → j < R'.length → i ≠ j → Ne2 (uV us i) (uV us j))
    (hd : ∀ i, i < R'.length → Ne2 U (uV us i) ∧ Ne2 (uV us i) U) (hcU : U.ownBlock ≠ some c) (hc4 : ∀ i, i < R'.length → (uV us i).ownBlock ≠ some c) (hcs : W.heap[c]? = some (.cells cs 29 (0, 0))) (hcw : w.heap.size < c) (hb : Below w.heap.size w W) {x y : Value} :
    ScanPost w f a (.returned (.agg #[v, .int .i64 ((m + pos R' R'.length : Nat) : Int)])) ((((W.setCell ⟨c, 0, none⟩ x).setCell ⟨c, 1, none⟩ y).setCell ⟨w.heap.size, 0, none⟩ x).setCell ⟨w.heap.size, 1, none⟩ y) := by
  have hcv := ne_type_block hr hcs
  refine ⟨v, U :: us, ?_, ?_, (((hb.setCell (by show _ ≤ c; omega) _).setCell (by show _ ≤ c; omega) _).setCell (by simp) _).setCell (by simp) _⟩
  · rw [hRR, List.length_cons, pos_cons]
  · have hX : ∀ {u : Value} {xs : List Int}, Own .u8 5 W (w.heap.size + 1) u xs → u.ownBlock ≠ some c → Own .u8 5 ((((W.setCell ⟨c, 0, none⟩ x).setCell ⟨c, 1, none⟩ y).setCell ⟨w.heap.size, 0, none⟩ x).setCell ⟨w.heap.size, 1, none⟩ y) (w.heap.size + 1) u xs := fun ho hne =>
      (((ho.setAt (.inr hne)).setAt (.inr hne)).setBelow (by show w.heap.size < _; omega) _).setBelow (by show w.heap.size < _; omega) _
    refine OwnP.mono (lo := w.heap.size + 1) ?_ (by omega)
    rw [hRR]
    refine ⟨?_, fun i hi => ?_, fun i j hi hj hne => ?_, fun i hi => ?_⟩
    · have h1 : World.ownsRow ((W.setCell ⟨c, 0, none⟩ x).setCell ⟨c, 1, none⟩ y) (w.heap.size + 1) 32 1 v (1 + R'.length) ([U] ++ us) := World.ownsRow.kept (World.ownsRow.kept hr (gset W c 0 x) (.inr hcv)) (gset _ c 1 y) (.inr hcv)
      have h2 := ownsRow_setCell_below (ownsRow_setCell_below h1 (a := ⟨w.heap.size, 0, none⟩) (by show w.heap.size < _; omega) x) (a := ⟨w.heap.size, 1, none⟩) (by show w.heap.size < _; omega) y
      rw [show (((p, m) :: R').map (·.1)).length = 1 + R'.length by simp; omega]
      exact h2
    · cases i with
      | zero => exact hX hu hcU
      | succ i =>
        have hi' : i < R'.length := by simpa using hi
        rw [uV_consS, List.map_cons, pR_consS]
        exact hX (h4 i hi') (hc4 i hi')
    · cases i with
      | zero =>
        cases j with
        | zero => omega
        | succ j => rw [uV_consS]; exact (hd j (by simpa using hj)).1
      | succ i =>
        cases j with
        | zero => rw [uV_consS]; exact (hd i (by simpa using hi)).2
        | succ j => rw [uV_consS, uV_consS]; exact hp i j (by simpa using hi) (by simpa using hj) (by omega)
    · cases i with
      | zero => exact ne_by_type hu hr
      | succ i =>
        have hi' : i < R'.length := by simpa using hi
        rw [uV_consS]; exact ne_by_type (h4 i hi') hr

theorem four_cells {W : World} {b c : Nat} {x y V E : Value} (hb : Box2 W b x y) (hne : b ≠ c) : ((((W.setCell ⟨c, 0, none⟩ V).setCell ⟨c, 1, none⟩ E).setCell ⟨b, 0, none⟩ V).setCell ⟨b, 1, none⟩ E).cell? ⟨b, 0, none⟩ = some V ∧ ((((W.setCell ⟨c, 0, none⟩ V).setCell ⟨c, 1, none⟩ E).setCell ⟨b, 0, none⟩ V).setCell ⟨b, 1, none⟩ E).cell? ⟨b, 1, none⟩ = some E := by
  obtain ⟨z, d0, d1⟩ := hb
  have h0 : ((W.setCell ⟨c, 0, none⟩ V).setCell ⟨c, 1, none⟩ E).cell? ⟨b, 0, none⟩ = some x := by
    rw [World.cell?_setCell_other _ _ _ _ (by simp; try omega), World.cell?_setCell_other _ _ _ _ (by simp; try omega)]; exact d0
  have h1 : ((W.setCell ⟨c, 0, none⟩ V).setCell ⟨c, 1, none⟩ E).cell? ⟨b, 1, none⟩ = some y := by
    rw [World.cell?_setCell_other _ _ _ _ (by simp; try omega), World.cell?_setCell_other _ _ _ _ (by simp; try omega)]; exact d1
  constructor
  · rw [World.cell?_setCell_other _ _ _ _ (by simp)]; exact World.cell?_setCell_same _ _ _ h0
  · exact World.cell?_setCell_same _ _ _ (by rw [World.cell?_setCell_other _ _ _ _ (by simp)]; exact h1)
theorem cell_alloc {W : World} {b j : Nat} {v : Value} (hb : b < W.heap.size) (h : W.cell? ⟨b, j, none⟩ = some v) (o : Obj) : (W.alloc o).cell? ⟨b, j, none⟩ = some v := (((Below.refl _ W).alloc (Nat.le_refl _) o).cell (p := ⟨b, j, none⟩) hb).trans h

def SpecOK (f : Nat) : Prop := ∀ (w : World) (ao : Option Addr) (n cap : Nat) (a : List Int), Rd .u8 w (.slice ao n cap) a → a.length = n → Byt a → n ≤ 8192 → n ≤ f →
    Calls Try.prog 18 #[.slice ao n cap] w (ScanPost w f a)

set_option maxHeartbeats 2000000 in
set_option maxRecDepth 100000 in
theorem specScan_step (f : Nat) (IH : ∀ f', f' < f → SpecOK f') (w : World) (ao : Option Addr) (n cap : Nat) (a : List Int) (h : Rd .u8 w (.slice ao n cap) a) (hl : a.length = n) (hby : Byt a) (hn : n ≤ 8192) (hnf : n ≤ f) :
    Calls Try.prog 18 #[.slice ao n cap] w (ScanPost w f a) := by
  have HIH : Hid (∀ f', f' < f → SpecOK f') := IH
  clear IH
  have B0 : Hid (Below w.heap.size w (w.alloc (.cells #[.slice none 0 0, .int .i64 0] 29))) := (Below.refl _ _).alloc (Nat.le_refl _) _
  have HL : Hid (a.length = n) := hl
  clear hl
  have h0 : ¬ (8192 : Int) < (n : Int) := by omega
  have h0d : decide ((8192 : Int) < (n : Int)) = false := by simpa using h0
  by_cases h2 : n < 2
  · have h2I : (n : Int) < 2 := by omega
    have h2d : decide ((n : Int) < 2) = true := by simpa using h2I
    have HF : Hid (frmB a = false) := frmB_no (fun hk => by have := hk.1; have := HL.out; omega)
    clear h hby
    go_enter Try.func18, Try.ntmps18
    go_wp2
    refine bodyPost_ret (v := .agg #[.slice none 0 0, .int .i64 0]) (by simp [results, Try.results18, go_sem]) rfl (scan_none (w := w) (f := f) HF.out ?_)
    repeat (first | exact B0.out | refine Below.setCell ?_ (by simp; try omega) _)
  · have h2I : ¬ (n : Int) < 2 := by omega
    have h2d : decide ((n : Int) < 2) = false := by simpa using h2I
    obtain ⟨blk, o, rfl, hb, hcap, hcm, hc⟩ := h.cut HL.out (by omega)
    have HRDH : Hid (Rd .u8 w (.slice (some ⟨blk, o, none⟩) n cap) a) := h
    obtain ⟨x0, hx0, hxe0⟩ := byt_at hby 0
    obtain ⟨x1, hx1, hxe1⟩ := byt_at hby 1
    have c0 := hc 0 (by omega)
    have c1 := hc 1 (by omega)
    rw [hxe0, Nat.add_zero] at c0
    rw [hxe1] at c1
    have HC : Hid (∀ i, i < n → w.cell? ⟨blk, o + i, none⟩ = some (.int .u8 (a.getD i 0))) := hc
    have HBY : Hid (Byt a) := hby
    have hn0 : (0 : Int) < (n : Int) := by omega
    have hn1 : (1 : Int) < (n : Int) := by omega
    have HM : Hid (frm_m a = x0 % 128 * 128 + x1 % 128) := by show _ = _; unfold frm_m; rw [hxe0, hxe1, Int.toNat_natCast, Int.toNat_natCast]
    have HCM : Hid (cap ≤ maxLen) := hcm
    unfold maxLen at hcm
    by_cases q0 : (x0 : Int) < 128
    · have q0d : decide ((x0 : Int) < 128) = true := by simpa using q0
      have HF : Hid (frmB a = false) := frmB_no (fun hk => by have := hk.2.1; rw [hxe0] at this; omega)
      clear h hby hc hxe0 hxe1
      go_enter Try.func18, Try.ntmps18
      go_wp2
      refine bodyPost_ret (v := .agg #[.slice none 0 0, .int .i64 0]) (by simp [results, Try.results18, go_sem]) rfl (scan_none (w := w) (f := f) HF.out ?_)
      repeat (first | exact B0.out | refine Below.setCell ?_ (by simp; try omega) _)
    · have q0d : decide ((x0 : Int) < 128) = false := by simpa using q0
      by_cases q1 : (x1 : Int) < 128
      · have q1d : decide ((x1 : Int) < 128) = true := by simpa using q1
        have HF : Hid (frmB a = false) := frmB_no (fun hk => by have := hk.2.2.1; rw [hxe1] at this; omega)
        clear h hby hc hxe0 hxe1
        go_enter Try.func18, Try.ntmps18
        go_wp2
        refine bodyPost_ret (v := .agg #[.slice none 0 0, .int .i64 0]) (by simp [results, Try.results18, go_sem]) rfl (scan_none (w := w) (f := f) HF.out ?_)
        repeat (first | exact B0.out | refine Below.setCell ?_ (by simp; try omega) _)
      · have q1d : decide ((x1 : Int) < 128) = false := by simpa using q1
        have HOK : Hid (2 + frm_m a ≤ n → frm_p a ≠ [] → (frm_p a).length ≤ 2000 → frmB a = true) := fun k1 k2 k3 => (frmB_iff a).2 ⟨by rw [HL.out]; omega, by rw [hxe0]; omega, by rw [hxe1]; omega, by rw [HL.out]; exact k1, k2, k3⟩
        clear h hby hc hxe0 hxe1
        obtain ⟨y0, hy0⟩ : ∃ y0 : Nat, x0 = 128 + y0 := ⟨x0 - 128, by omega⟩
        obtain ⟨y1, hy1⟩ : ∃ y1 : Nat, x1 = 128 + y1 := ⟨x1 - 128, by omega⟩
        subst hy0 hy1
        have HM2 : Hid (frm_m a = y0 * 128 + y1) := by rw [HM.out]; show _ = _; omega
        have hy0' : y0 < 128 := by omega
        have hy1' : y1 < 128 := by omega
        have s0 : (128 : Int) + (y0 : Int) - 128 = (y0 : Int) := by omega
        have s1 : (128 : Int) + (y1 : Int) - 128 = (y1 : Int) := by omega
        clear HM
        go_enter Try.func18, Try.ntmps18
        go_wp2_with fail
        go_quiet (fail)
        by_cases hm1 : y0 * 128 + y1 < 1
        · have hm1I : (y0 : Int) * 128 + (y1 : Int) < 1 := by omega
          have hm1d : decide ((y0 : Int) * 128 + (y1 : Int) < 1) = true := by simpa using hm1I
          have HF : Hid (frmB a = false) := frmB_no (fun hk => by
            have h5 := hk.2.2.2.2.1
            apply h5
            unfold frm_p
            rw [show frm_m a = 0 by rw [HM2.out]; omega]
            simp [unp_nil])
          go_wp2
          refine bodyPost_ret (v := .agg #[.slice none 0 0, .int .i64 0]) (by simp [results, Try.results18, go_sem]) rfl (scan_none (w := w) (f := f) HF.out ?_)
          repeat (first | exact B0.out | exact below_drewQ B0.out _ | refine Below.setCell ?_ (by simp; try omega) _)
        · have hm1I : ¬ (y0 : Int) * 128 + (y1 : Int) < 1 := by omega
          have hm1d : decide ((y0 : Int) * 128 + (y1 : Int) < 1) = false := by simpa using hm1I
          by_cases hs : 2 + (y0 * 128 + y1) ≤ n
          · have hsI : ¬ (n : Int) < 2 + ((y0 : Int) * 128 + (y1 : Int)) := by omega
            have hsd : decide ((n : Int) < 2 + ((y0 : Int) * 128 + (y1 : Int))) = false := by simpa using hsI
            have hcp : ¬ cap = 2 := by omega
            have RS : Hid (Rd .u8 w (.slice (some ⟨blk, o + 2, none⟩) (y0 * 128 + y1) (cap - 2)) ((a.drop 2).take (frm_m a))) := by
              rw [HM2.out]
              exact rd_piece hb HC.out HL.out 2 (y0 * 128 + y1) (by omega) hcap HCM.out
            go_wp2_with fail
            refine (specUnpack_any _ _ _ (RS.out.below (below_drewQ B0.out nq)) (byt_piece HBY.out 2 (frm_m a)) (by rw [List.length_take]; have := HM2.out; omega)).mono ?_
            rintro e w2 ⟨u, rfl, o2, b2⟩
            have o2' : Own .u8 5 w2 _ u (frm_p a) := o2
            obtain ⟨ua, uc, rfl⟩ := Own.slice o2'
            have B2 : Hid (Below w.heap.size w w2) := (below_drewQ B0.out nq).trans (b2.mono (by show w.heap.size ≤ (w.alloc _).heap.size; simp))
            have O2 : Hid (Own .u8 5 w2 (w.heap.size + 1) (.slice ua (frm_p a).length uc) (frm_p a)) := Own.mono o2' (by show w.heap.size + 1 ≤ (w.alloc _).heap.size; simp)
            have hul : (frm_p a).length ≤ maxLen := by obtain ⟨_, _, e, h1, h2⟩ := O2.out.rd.len; simp only [Value.slice.injEq] at e; omega
            unfold maxLen at hul
            have X2 : Hid (BoxF w2 w.heap.size (.slice none 0 0) (.int .i64 0)) := by
              have h1 : BoxF ((w.alloc (.cells #[.slice none 0 0, .int .i64 0] 29)).drewN nq) w.heap.size (.slice none 0 0) (.int .i64 0) := BoxF.new w _ _ _
              exact h1.below b2
            have HP : Hid (frm_p a ≠ [] ↔ (frm_p a).length ≠ 0) := by show _ ↔ _; cases frm_p a <;> simp
            have HIN : Hid (2 + frm_m a ≤ n) := by rw [HM2.out]; exact hs
            have HNO : Hid ((frm_p a).length = 0 ∨ 2000 < (frm_p a).length → frmB a = false) := fun hh => frmB_no (fun hk => by have h5 := HP.out.1 hk.2.2.2.2.1; have h6 := hk.2.2.2.2.2; omega)
            have HYES : Hid ((frm_p a).length ≠ 0 → (frm_p a).length ≤ 2000 → frmB a = true) := fun h5 h6 => HOK.out HIN.out (HP.out.2 h5) h6
            clear o2 o2' b2 RS HOK
            obtain ⟨⟨z2, d0, d1⟩, f0, f1⟩ := X2.out
            generalize hp : frm_p a = p at *
            have HPE : Hid (frm_p a = p) := hp
            clear hp
            have YY : ∀ (u v : Value) (o : Obj), (((w2.setCell ⟨w.heap.size, 0, none⟩ u).setCell ⟨w.heap.size, 1, none⟩ v).alloc o).cell? ⟨w.heap.size, 0, none⟩ = some u ∧ (((w2.setCell ⟨w.heap.size, 0, none⟩ u).setCell ⟨w.heap.size, 1, none⟩ v).alloc o).cell? ⟨w.heap.size, 1, none⟩ = some v := fun u v o => by
              have k0 : ((w2.setCell ⟨w.heap.size, 0, none⟩ u).setCell ⟨w.heap.size, 1, none⟩ v).cell? ⟨w.heap.size, 0, none⟩ = some u := by rw [World.cell?_setCell_other _ _ _ _ (by simp)]; exact World.cell?_setCell_same _ _ _ d0
              have k1 : ((w2.setCell ⟨w.heap.size, 0, none⟩ u).setCell ⟨w.heap.size, 1, none⟩ v).cell? ⟨w.heap.size, 1, none⟩ = some v := World.cell?_setCell_same _ _ _ (by rw [World.cell?_setCell_other _ _ _ _ (by simp)]; exact d1)
              exact ⟨cell_alloc (by simpa using z2) k0 o, cell_alloc (by simpa using z2) k1 o⟩
            have YY0 := fun u v o => (YY u v o).1
            have YY1 := fun u v o => (YY u v o).2
            clear YY
            by_cases l0 : p.length = 0
            · have l0I : (p.length : Int) = 0 := by omega
              have l0b : ((p.length : Int) == 0) = true := by simpa using l0I
              go_wp2
              refine bodyPost_ret (v := .agg #[.slice none 0 0, .int .i64 0]) (by simp [results, Try.results18, go_sem, YY0, YY1]) rfl (scan_none (w := w) (f := f) (HNO.out (.inl l0)) ?_)
              repeat (first | exact B2.out | exact B2.out.alloc B2.out.size _ | refine Below.setCell ?_ (by simp; try omega) _ | refine Below.alloc ?_ (by simp; try omega) _)
            · have l0I : ¬ (p.length : Int) = 0 := by omega
              have l0b : ((p.length : Int) == 0) = false := by simpa using l0I
              by_cases l2 : 2000 < p.length
              · have l2I : (2000 : Int) < (p.length : Int) := by omega
                have l2d : decide ((2000 : Int) < (p.length : Int)) = true := by simpa using l2I
                go_wp2
                refine bodyPost_ret (v := .agg #[.slice none 0 0, .int .i64 0]) (by simp [results, Try.results18, go_sem, YY0, YY1]) rfl (scan_none (w := w) (f := f) (HNO.out (.inr l2)) ?_)
                repeat (first | exact B2.out | exact B2.out.alloc B2.out.size _ | refine Below.setCell ?_ (by simp; try omega) _ | refine Below.alloc ?_ (by simp; try omega) _)
              · have l2I : ¬ (2000 : Int) < (p.length : Int) := by omega
                have l2d : decide ((2000 : Int) < (p.length : Int)) = false := by simpa using l2I
                have HYE : Hid (frmB a = true) := HYES.out l0 (by omega)
                have hw3s : (((w2.alloc (.cells #[.slice ua p.length uc] 32)).alloc (.cells #[.slice ua p.length uc] 32)).alloc (.cells #[.slice (some ⟨w2.heap.size + 1, 0, none⟩) 1 1, .int .i64 (2 + ((y0 : Int) * 128 + (y1 : Int)))] 29)).heap.size = w2.heap.size + 3 := by simp
                have b3 : Below w2.heap.size w2 (((w2.alloc (.cells #[.slice ua p.length uc] 32)).alloc (.cells #[.slice ua p.length uc] 32)).alloc (.cells #[.slice (some ⟨w2.heap.size + 1, 0, none⟩) 1 1, .int .i64 (2 + ((y0 : Int) * 128 + (y1 : Int)))] 29)) := (((Below.refl _ _).alloc (Nat.le_refl _) _).alloc (by simp) _).alloc (by simp; omega) _
                have XO3 : Hid (BoxF (((w2.alloc (.cells #[.slice ua p.length uc] 32)).alloc (.cells #[.slice ua p.length uc] 32)).alloc (.cells #[.slice (some ⟨w2.heap.size + 1, 0, none⟩) 1 1, .int .i64 (2 + ((y0 : Int) * 128 + (y1 : Int)))] 29)) (w2.heap.size + 2) (.slice (some ⟨w2.heap.size + 1, 0, none⟩) 1 1) (.int .i64 (2 + ((y0 : Int) * 128 + (y1 : Int))))) := by
                  have := BoxF.new ((w2.alloc (.cells #[.slice ua p.length uc] 32)).alloc (.cells #[.slice ua p.length uc] 32)) (.slice (some ⟨w2.heap.size + 1, 0, none⟩) 1 1) (.int .i64 (2 + ((y0 : Int) * 128 + (y1 : Int)))) 29
                  rw [World.size_alloc, World.size_alloc] at this
                  exact this
                have OR3 : Hid ((((w2.alloc (.cells #[.slice ua p.length uc] 32)).alloc (.cells #[.slice ua p.length uc] 32)).alloc (.cells #[.slice (some ⟨w2.heap.size + 1, 0, none⟩) 1 1, .int .i64 (2 + ((y0 : Int) * 128 + (y1 : Int)))] 29)).ownsRow (w.heap.size + 1) 32 1 (.slice (some ⟨w2.heap.size + 1, 0, none⟩) 1 1) 1 [.slice ua p.length uc]) := by
                  refine World.ownsRow.alloc (w := (w2.alloc (.cells #[.slice ua p.length uc] 32)).alloc (.cells #[.slice ua p.length uc] 32)) ⟨rfl, .inr ⟨w2.heap.size + 1, 1, #[.slice ua p.length uc], rfl, by omega, ?_, Nat.le_refl _, by unfold maxLen; omega, rfl, rfl⟩⟩ _
                  have := heap_alloc_new (w2.alloc (.cells #[.slice ua p.length uc] 32)) (.cells #[.slice ua p.length uc] 32)
                  rw [World.size_alloc] at this
                  exact this
                have HH3 : Hid ((((w2.alloc (.cells #[.slice ua p.length uc] 32)).alloc (.cells #[.slice ua p.length uc] 32)).alloc (.cells #[.slice (some ⟨w2.heap.size + 1, 0, none⟩) 1 1, .int .i64 (2 + ((y0 : Int) * 128 + (y1 : Int)))] 29)).heap[w2.heap.size + 2]? = some (.cells #[.slice (some ⟨w2.heap.size + 1, 0, none⟩) 1 1, .int .i64 (2 + ((y0 : Int) * 128 + (y1 : Int)))] 29 (0, 0))) := by
                  have := heap_alloc_new ((w2.alloc (.cells #[.slice ua p.length uc] 32)).alloc (.cells #[.slice ua p.length uc] 32)) (.cells #[.slice (some ⟨w2.heap.size + 1, 0, none⟩) 1 1, .int .i64 (2 + ((y0 : Int) * 128 + (y1 : Int)))] 29)
                  rw [World.size_alloc, World.size_alloc] at this
                  exact this
                have b3' : Hid (Below w2.heap.size w2 (((w2.alloc (.cells #[.slice ua p.length uc] 32)).alloc (.cells #[.slice ua p.length uc] 32)).alloc (.cells #[.slice (some ⟨w2.heap.size + 1, 0, none⟩) 1 1, .int .i64 (2 + ((y0 : Int) * 128 + (y1 : Int)))] 29))) := b3
                have HSZ : Hid ((((w2.alloc (.cells #[.slice ua p.length uc] 32)).alloc (.cells #[.slice ua p.length uc] 32)).alloc (.cells #[.slice (some ⟨w2.heap.size + 1, 0, none⟩) 1 1, .int .i64 (2 + ((y0 : Int) * 128 + (y1 : Int)))] 29)).heap.size = w2.heap.size + 3) := hw3s
                have HLT2 : Hid (∀ g, Value.ownBlock (.slice ua p.length uc) = some g → g < w2.heap.size) := fun g e => (O2.out.lt g e).2
                clear hw3s b3 YY0 YY1
                have HR0 : Hid (Rd .u8 w (.slice (some ⟨blk, o, none⟩) n cap) a) := HRDH.out
                by_cases hcz : cap = 2 + (y0 * 128 + y1)
                · have RS : Hid (Rd .u8 w (.slice (some ⟨blk, o, none⟩) (n - (2 + (y0 * 128 + y1))) 0) (a.drop (2 + (y0 * 128 + y1)))) := by
                    have e1 : n - (2 + (y0 * 128 + y1)) = 0 := by omega
                    have e2 : a.drop (2 + (y0 * 128 + y1)) = [] := List.eq_nil_of_length_eq_zero (by rw [List.length_drop, HL.out]; exact e1)
                    rw [e1, e2]; exact rd_empty _ _ _ (Nat.zero_le _)
                  go_wp2_with fail
                  generalize ((w2.alloc (.cells #[.slice ua p.length uc] 32)).alloc (.cells #[.slice ua p.length uc] 32)).alloc (.cells #[.slice (some ⟨w2.heap.size + 1, 0, none⟩) 1 1, .int .i64 (2 + ((y0 : Int) * 128 + (y1 : Int)))] 29) = w3 at *
                  have B3 : Hid (Below w.heap.size w w3) := B2.out.trans (b3'.out.mono (by omega))
                  refine ((HIH.out (f - 1) (by omega)) w3 (some ⟨blk, o, none⟩) (n - (2 + (y0 * 128 + y1))) 0 (a.drop (2 + (y0 * 128 + y1))) (RS.out.below B3.out) (by rw [List.length_drop, HL.out]) (fun x hx => HBY.out x (List.mem_of_mem_drop hx)) (by omega) (by omega)).mono ?_
                  rintro e w4 ⟨v4, us4, rfl, op4, b4⟩
                  have HRR : Hid (scn f a = (p, 2 + (y0 * 128 + y1)) :: scn (f - 1) (a.drop (2 + (y0 * 128 + y1)))) := by
                    have := scn_yes HYE.out (f - 1)
                    rw [show f - 1 + 1 = f by omega, HPE.out, HM2.out] at this
                    exact this
                  have hrl : (scn (f - 1) (a.drop (2 + (y0 * 128 + y1)))).length ≤ 8192 := by
                    have h5 := scn_all (f - 1) (a.drop (2 + (y0 * 128 + y1))) (by rw [List.length_drop, HL.out]; omega)
                    have h6 := scn_short (f - 1) (a.drop (2 + (y0 * 128 + y1))) (by rw [List.length_drop, HL.out]; omega)
                    rw [List.length_drop, HL.out] at h6; omega
                  have hpl : pos (scn (f - 1) (a.drop (2 + (y0 * 128 + y1)))) (scn (f - 1) (a.drop (2 + (y0 * 128 + y1)))).length ≤ 8192 := by
                    have h5 := (scn_all (f - 1) (a.drop (2 + (y0 * 128 + y1))) (by rw [List.length_drop, HL.out]; omega)).2.2 _ (Nat.le_refl _)
                    rw [List.length_drop, HL.out] at h5; omega
                  generalize scn (f - 1) (a.drop (2 + (y0 * 128 + y1))) = R' at *
                  have OP4 : Hid (OwnP w4 w3.heap.size v4 (R'.map (·.1)) us4) := op4
                  have XO4 : Hid (BoxF w4 (w2.heap.size + 2) (.slice (some ⟨w2.heap.size + 1, 0, none⟩) 1 1) (.int .i64 (2 + ((y0 : Int) * 128 + (y1 : Int))))) := XO3.out.below b4
                  have OR4 : Hid (w4.ownsRow (w.heap.size + 1) 32 1 (.slice (some ⟨w2.heap.size + 1, 0, none⟩) 1 1) 1 [.slice ua p.length uc]) := ownsRow_below OR3.out b4
                  have OU4 : Hid (Own .u8 5 w4 (w.heap.size + 1) (.slice ua p.length uc) p) := (O2.out.below b3'.out).below b4
                  have X4 : Hid (BoxF w4 w.heap.size (.slice none 0 0) (.int .i64 0)) := (X2.out.below b3'.out).below b4
                  have B4 : Hid (Below w.heap.size w w4) := B3.out.trans (b4.mono B3.out.size)
                  have HH4 : Hid (w4.heap[w2.heap.size + 2]? = some (.cells #[.slice (some ⟨w2.heap.size + 1, 0, none⟩) 1 1, .int .i64 (2 + ((y0 : Int) * 128 + (y1 : Int)))] 29 (0, 0))) := (b4.block _ (by have := HSZ.out; omega)).trans HH3.out
                  have sz4 := b4.size
                  have sz3 := HSZ.out
                  clear op4 b4 XO3 OR3 O2 X2 RS d0 d1 f0 f1 HH3
                  obtain ⟨⟨zo, g0, g1⟩, h0', h1'⟩ := XO4.out
                  obtain ⟨⟨z4, d0, d1⟩, f0, f1⟩ := X4.out
                  obtain ⟨i0, hi0, hz0, hz1, hz2⟩ := info_parts Try.infoP
                  rcases OP4.out.1.2 with ⟨hv4, hz4⟩ | ⟨g4, cap4, cur4, hv4, -⟩
                  · subst hv4
                    have hR0 : R' = [] := by have : R'.length = 0 := by simpa using hz4
                                             exact List.eq_nil_of_length_eq_zero this
                    have SF : Hid (∀ x y, ScanPost w f a (.returned (.agg #[.slice (some ⟨w2.heap.size + 1, 0, none⟩) 1 1, .int .i64 ((2 + (y0 * 128 + y1) + pos R' R'.length : Nat) : Int)])) ((((w4.setCell ⟨w2.heap.size + 2, 0, none⟩ x).setCell ⟨w2.heap.size + 2, 1, none⟩ y).setCell ⟨w.heap.size, 0, none⟩ x).setCell ⟨w.heap.size, 1, none⟩ y)) := fun x y => by
                      subst hR0
                      refine scan_fin (us := []) HRR.out OR4.out OU4.out (fun i hi => by simp at hi) (fun i j hi => by simp at hi) (fun i hi => by simp at hi) (fun e => by have := HLT2.out _ e; omega) (fun i hi => by simp at hi) HH4.out (by have := B2.out.size; omega) B4.out
                    have zz : w.heap.size < w4.heap.size := z4
                    have F4 := fun V E => four_cells (V := V) (E := E) (c := w2.heap.size + 2) X4.out.1 (by have := B2.out.size; omega)
                    have F40 : ∀ V E o, (((((w4.setCell ⟨w2.heap.size + 2, 0, none⟩ V).setCell ⟨w2.heap.size + 2, 1, none⟩ E).setCell ⟨w.heap.size, 0, none⟩ V).setCell ⟨w.heap.size, 1, none⟩ E).alloc o).cell? ⟨w.heap.size, 0, none⟩ = some V := fun V E o => cell_alloc (by simpa using zz) (F4 V E).1 o
                    have F41 : ∀ V E o, (((((w4.setCell ⟨w2.heap.size + 2, 0, none⟩ V).setCell ⟨w2.heap.size + 2, 1, none⟩ E).setCell ⟨w.heap.size, 0, none⟩ V).setCell ⟨w.heap.size, 1, none⟩ E).alloc o).cell? ⟨w.heap.size, 1, none⟩ = some E := fun V E o => cell_alloc (by simpa using zz) (F4 V E).2 o
                    clear F4
                    have HPEq : Hid (((2 + (y0 * 128 + y1) + pos R' R'.length : Nat) : Int) = 2 + ((y0 : Int) * 128 + (y1 : Int)) + ((pos R' R'.length : Nat) : Int)) := by show _ = _; omega
                    clear hR0 hz4
                    generalize pos R' R'.length = pe at *
                    go_wp2
                    refine bodyPost_ret (v := .agg #[.slice (some ⟨w2.heap.size + 1, 0, none⟩) 1 1, .int .i64 (2 + ((y0 : Int) * 128 + (y1 : Int)) + (pe : Int))]) (by simp [results, Try.results18, go_sem, F40, F41]) rfl ?_
                    rw [← HPEq.out]
                    exact (SF.out _ _).alloc _
                  · subst hv4
                    have hml : (R'.map (·.1)).length = R'.length := by simp
                    have OP5 : Hid (OwnP (w4.alloc (.cells #[.slice (some ⟨g4, 0, none⟩) R'.length cap4, .int .i64 ((pos R' R'.length : Nat) : Int)] 29)) w3.heap.size (.slice (some ⟨g4, 0, none⟩) R'.length cap4) (R'.map (·.1)) us4) := by
                      have := OP4.out.below ((Below.refl _ _).alloc (Nat.le_refl _) (.cells #[.slice (some ⟨g4, 0, none⟩) R'.length cap4, .int .i64 ((pos R' R'.length : Nat) : Int)] 29))
                      rw [hml] at this
                      exact this
                    have OR5 : Hid ((w4.alloc (.cells #[.slice (some ⟨g4, 0, none⟩) R'.length cap4, .int .i64 ((pos R' R'.length : Nat) : Int)] 29)).ownsRow (w.heap.size + 1) 32 1 (.slice (some ⟨w2.heap.size + 1, 0, none⟩) 1 1) 1 [.slice ua p.length uc]) := World.ownsRow.alloc OR4.out _
                    have OU5 : Hid (Own .u8 5 (w4.alloc (.cells #[.slice (some ⟨g4, 0, none⟩) R'.length cap4, .int .i64 ((pos R' R'.length : Nat) : Int)] 29)) (w.heap.size + 1) (.slice ua p.length uc) p) := World.ownsRow.alloc OU4.out _
                    have hul4 : us4.length = R'.length * 1 := by have := OP4.out.len; rw [hml] at this; omega
                    have HC5 : Hid (∀ j u, us4[j]? = some u → (w4.alloc (.cells #[.slice (some ⟨g4, 0, none⟩) R'.length cap4, .int .i64 ((pos R' R'.length : Nat) : Int)] 29)).cell? ((⟨g4, 0, none⟩ : Addr).add j) = some u) := fun j u hu => World.ownsRow.cells OP5.out.1 (g := g4) rfl j u hu
                    have H1C : Hid (∀ u ∈ us4, u.oneCell' = true) := fun u hu => by
                      obtain ⟨j, hj, rfl⟩ := List.mem_iff_getElem.1 hu
                      have h5 := OP4.out.2.1 j (by rw [hml]; omega)
                      have h6 : us4[j] = uV us4 j := by unfold uV; simp [List.getD, hj]
                      rw [h6]
                      obtain ⟨_, _, e⟩ := Own.slice h5
                      rw [e]; rfl
                    have HUL : Hid (us4.length = R'.length * 1) := hul4
                    have HPEq : Hid (((2 + (y0 * 128 + y1) + pos R' R'.length : Nat) : Int) = 2 + ((y0 : Int) * 128 + (y1 : Int)) + ((pos R' R'.length : Nat) : Int)) := by show _ = _; omega
                    clear hul4
                    generalize hpe : pos R' R'.length = pe at *
                    have HPE2 : Hid (pos R' R'.length = pe) := hpe
                    clear hpe
                    go_wp2_with (at_builtin; go_must (refine wpList_append_own _ rfl _ _ 27 rfl (w.heap.size + 1) 32 i0 (.agg #[.slice none 0 0]) 1 24 Try.underlying27 hi0 hz0 hz1 hz2 rfl (by decide) _ 1 _ rfl OR5.out ⟨g4, 0, none⟩ R'.length cap4 us4 rfl HUL.out HC5.out H1C.out ?c3 ?c4 ?c5 ?_))
                    case c3 => unfold maxLen; omega
                    case c4 => omega
                    case c5 => have := B4.out.size; (try simp); omega
                    intro v5 w5 ho5 hg5 _
                    have hwA : Below w4.heap.size w4 (w4.alloc (.cells #[.slice (some ⟨g4, 0, none⟩) R'.length cap4, .int .i64 (pe : Int)] 29)) := (Below.refl _ _).alloc (Nat.le_refl _) _
                    have hsA : (w4.alloc (.cells #[.slice (some ⟨g4, 0, none⟩) R'.length cap4, .int .i64 (pe : Int)] 29)).heap.size = w4.heap.size + 1 := by simp
                    have s20 := B2.out.size
                    have s40 := B4.out.size
                    have OU6 : Own .u8 5 w5 (w.heap.size + 1) (.slice ua p.length uc) p := OU5.out.other hg5 (.inr (fun e => by have := HLT2.out (w2.heap.size + 1) (by rw [e]; rfl); omega))
                    have HG4 : ∀ i, i < R'.length → ∀ g, (uV us4 i).ownBlock = some g → w3.heap.size ≤ g := fun i hi g e => ((OP4.out.2.1 i (by rw [hml]; exact hi)).lt g e).1
                    have O46 : ∀ i, i < R'.length → Own .u8 5 w5 (w.heap.size + 1) (uV us4 i) (pR (R'.map (·.1)) i) := fun i hi => Own.mono ((OP5.out.2.1 i (by rw [hml]; exact hi)).other hg5 (.inr (fun e => by have := HG4 i hi (w2.heap.size + 1) (by rw [e]; rfl); omega))) (by omega)
                    have HH6 : w5.heap[w2.heap.size + 2]? = some (.cells #[.slice (some ⟨w2.heap.size + 1, 0, none⟩) 1 1, .int .i64 (2 + ((y0 : Int) * 128 + (y1 : Int)))] 29 (0, 0)) := (hg5.block _ (by rw [hsA]; omega) (by simp [Value.ownBlock])).trans ((hwA.block _ (by omega)).trans HH4.out)
                    have X6 : Hid (BoxF w5 w.heap.size (.slice none 0 0) (.int .i64 0)) := (X4.out.below hwA).other hg5 (by simp [Value.ownBlock]; omega)
                    have XO6 : Hid (BoxF w5 (w2.heap.size + 2) (.slice (some ⟨w2.heap.size + 1, 0, none⟩) 1 1) (.int .i64 (2 + ((y0 : Int) * 128 + (y1 : Int))))) := (XO4.out.below hwA).other hg5 (by simp [Value.ownBlock])
                    have XT6 : Hid (BoxF w5 w4.heap.size (.slice (some ⟨g4, 0, none⟩) R'.length cap4) (.int .i64 (pe : Int))) := (BoxF.new w4 _ _ _).other hg5 (by simp [Value.ownBlock]; omega)
                    have B6 : Below w.heap.size w w5 := (B4.out.trans (hwA.mono s40)).grown hg5 (by rw [hsA]; omega) (fun q e => by simp only [Value.ownBlock, Option.some.injEq] at e; omega)
                    obtain ⟨g5, c5, hv5⟩ : ∃ g5 c5, v5 = .slice (some ⟨g5, 0, none⟩) (1 + R'.length) c5 := by
                      rcases ho5.2 with ⟨-, h⟩ | ⟨g, gc, cur, rfl, -⟩
                      · omega
                      · exact ⟨g, gc, rfl⟩
                    subst hv5
                    have SF : Hid (∀ x y, ScanPost w f a (.returned (.agg #[.slice (some ⟨g5, 0, none⟩) (1 + R'.length) c5, .int .i64 (2 + ((y0 : Int) * 128 + (y1 : Int)) + (pe : Int))])) ((((w5.setCell ⟨w2.heap.size + 2, 0, none⟩ x).setCell ⟨w2.heap.size + 2, 1, none⟩ y).setCell ⟨w.heap.size, 0, none⟩ x).setCell ⟨w.heap.size, 1, none⟩ y)) := fun x y => by
                      have h7 := scan_fin (x := x) (y := y) HRR.out ho5 OU6 O46 (fun i j hi hj hne => OP4.out.2.2.1 i j (by rw [hml]; exact hi) (by rw [hml]; exact hj) hne) (fun i hi => ⟨by
                        cases q : Value.ownBlock (.slice ua p.length uc) with
                        | none => exact .inl q
                        | some g => exact .inr (fun e3 => by have h1 := HLT2.out g q; have h2 := HG4 i hi g (by rw [← e3]; exact q); omega), by
                        cases q : (uV us4 i).ownBlock with
                        | none => exact .inl q
                        | some g => exact .inr (fun e3 => by have h1 := HG4 i hi g q; have h2 := HLT2.out g (by rw [← e3]; exact q); omega)⟩) (fun e => by have := HLT2.out _ e; omega) (fun i hi e => by have := HG4 i hi _ e; omega) HH6 (by omega) B6
                      rw [HPE2.out, HPEq.out] at h7
                      exact h7
                    have F4 := fun V E => four_cells (V := V) (E := E) (c := w2.heap.size + 2) X6.out.1 (by omega)
                    have F40 : ∀ V E, ((((w5.setCell ⟨w2.heap.size + 2, 0, none⟩ V).setCell ⟨w2.heap.size + 2, 1, none⟩ E).setCell ⟨w.heap.size, 0, none⟩ V).setCell ⟨w.heap.size, 1, none⟩ E).cell? ⟨w.heap.size, 0, none⟩ = some V := fun V E => (F4 V E).1
                    have F41 : ∀ V E, ((((w5.setCell ⟨w2.heap.size + 2, 0, none⟩ V).setCell ⟨w2.heap.size + 2, 1, none⟩ E).setCell ⟨w.heap.size, 0, none⟩ V).setCell ⟨w.heap.size, 1, none⟩ E).cell? ⟨w.heap.size, 1, none⟩ = some E := fun V E => (F4 V E).2
                    clear F4 ho5 hg5 hwA hsA OU6 HG4 O46 HH6 B6 d0 d1 f0 f1 g0 g1 h0' h1' zo z4 OP5 OR5 OU5 HC5 H1C HUL
                    obtain ⟨⟨z6, d0, d1⟩, f0, f1⟩ := X6.out
                    obtain ⟨⟨zo, g0, g1⟩, h0', h1'⟩ := XO6.out
                    obtain ⟨⟨zt, t0, t1⟩, -⟩ := XT6.out
                    go_wp2
                    refine bodyPost_ret (v := .agg #[.slice (some ⟨g5, 0, none⟩) (1 + R'.length) c5, .int .i64 (2 + ((y0 : Int) * 128 + (y1 : Int)) + (pe : Int))]) (by simp [results, Try.results18, go_sem, F40, F41]) rfl ?_
                    exact SF.out _ _
                · have RS : Hid (Rd .u8 w (.slice (some ⟨blk, o + (2 + (y0 * 128 + y1)), none⟩) (n - (2 + (y0 * 128 + y1))) (cap - (2 + (y0 * 128 + y1)))) (a.drop (2 + (y0 * 128 + y1)))) := rd_cutN HR0.out HL.out blk o rfl (2 + (y0 * 128 + y1)) hs
                  go_wp2_with fail
                  generalize ((w2.alloc (.cells #[.slice ua p.length uc] 32)).alloc (.cells #[.slice ua p.length uc] 32)).alloc (.cells #[.slice (some ⟨w2.heap.size + 1, 0, none⟩) 1 1, .int .i64 (2 + ((y0 : Int) * 128 + (y1 : Int)))] 29) = w3 at *
                  have B3 : Hid (Below w.heap.size w w3) := B2.out.trans (b3'.out.mono (by omega))
                  refine ((HIH.out (f - 1) (by omega)) w3 (some ⟨blk, o + (2 + (y0 * 128 + y1)), none⟩) (n - (2 + (y0 * 128 + y1))) (cap - (2 + (y0 * 128 + y1))) (a.drop (2 + (y0 * 128 + y1))) (RS.out.below B3.out) (by rw [List.length_drop, HL.out]) (fun x hx => HBY.out x (List.mem_of_mem_drop hx)) (by omega) (by omega)).mono ?_
                  rintro e w4 ⟨v4, us4, rfl, op4, b4⟩
                  have HRR : Hid (scn f a = (p, 2 + (y0 * 128 + y1)) :: scn (f - 1) (a.drop (2 + (y0 * 128 + y1)))) := by
                    have := scn_yes HYE.out (f - 1)
                    rw [show f - 1 + 1 = f by omega, HPE.out, HM2.out] at this
                    exact this
                  have hrl : (scn (f - 1) (a.drop (2 + (y0 * 128 + y1)))).length ≤ 8192 := by
                    have h5 := scn_all (f - 1) (a.drop (2 + (y0 * 128 + y1))) (by rw [List.length_drop, HL.out]; omega)
                    have h6 := scn_short (f - 1) (a.drop (2 + (y0 * 128 + y1))) (by rw [List.length_drop, HL.out]; omega)
                    rw [List.length_drop, HL.out] at h6; omega
                  have hpl : pos (scn (f - 1) (a.drop (2 + (y0 * 128 + y1)))) (scn (f - 1) (a.drop (2 + (y0 * 128 + y1)))).length ≤ 8192 := by
                    have h5 := (scn_all (f - 1) (a.drop (2 + (y0 * 128 + y1))) (by rw [List.length_drop, HL.out]; omega)).2.2 _ (Nat.le_refl _)
                    rw [List.length_drop, HL.out] at h5; omega
                  generalize scn (f - 1) (a.drop (2 + (y0 * 128 + y1))) = R' at *
                  have OP4 : Hid (OwnP w4 w3.heap.size v4 (R'.map (·.1)) us4) := op4
                  have XO4 : Hid (BoxF w4 (w2.heap.size + 2) (.slice (some ⟨w2.heap.size + 1, 0, none⟩) 1 1) (.int .i64 (2 + ((y0 : Int) * 128 + (y1 : Int))))) := XO3.out.below b4
                  have OR4 : Hid (w4.ownsRow (w.heap.size + 1) 32 1 (.slice (some ⟨w2.heap.size + 1, 0, none⟩) 1 1) 1 [.slice ua p.length uc]) := ownsRow_below OR3.out b4
                  have OU4 : Hid (Own .u8 5 w4 (w.heap.size + 1) (.slice ua p.length uc) p) := (O2.out.below b3'.out).below b4
                  have X4 : Hid (BoxF w4 w.heap.size (.slice none 0 0) (.int .i64 0)) := (X2.out.below b3'.out).below b4
                  have B4 : Hid (Below w.heap.size w w4) := B3.out.trans (b4.mono B3.out.size)
                  have HH4 : Hid (w4.heap[w2.heap.size + 2]? = some (.cells #[.slice (some ⟨w2.heap.size + 1, 0, none⟩) 1 1, .int .i64 (2 + ((y0 : Int) * 128 + (y1 : Int)))] 29 (0, 0))) := (b4.block _ (by have := HSZ.out; omega)).trans HH3.out
                  have sz4 := b4.size
                  have sz3 := HSZ.out
                  clear op4 b4 XO3 OR3 O2 X2 RS d0 d1 f0 f1 HH3
                  obtain ⟨⟨zo, g0, g1⟩, h0', h1'⟩ := XO4.out
                  obtain ⟨⟨z4, d0, d1⟩, f0, f1⟩ := X4.out
                  obtain ⟨i0, hi0, hz0, hz1, hz2⟩ := info_parts Try.infoP
                  rcases OP4.out.1.2 with ⟨hv4, hz4⟩ | ⟨g4, cap4, cur4, hv4, -⟩
                  · subst hv4
                    have hR0 : R' = [] := by have : R'.length = 0 := by simpa using hz4
                                             exact List.eq_nil_of_length_eq_zero this
                    have SF : Hid (∀ x y, ScanPost w f a (.returned (.agg #[.slice (some ⟨w2.heap.size + 1, 0, none⟩) 1 1, .int .i64 ((2 + (y0 * 128 + y1) + pos R' R'.length : Nat) : Int)])) ((((w4.setCell ⟨w2.heap.size + 2, 0, none⟩ x).setCell ⟨w2.heap.size + 2, 1, none⟩ y).setCell ⟨w.heap.size, 0, none⟩ x).setCell ⟨w.heap.size, 1, none⟩ y)) := fun x y => by
                      subst hR0
                      refine scan_fin (us := []) HRR.out OR4.out OU4.out (fun i hi => by simp at hi) (fun i j hi => by simp at hi) (fun i hi => by simp at hi) (fun e => by have := HLT2.out _ e; omega) (fun i hi => by simp at hi) HH4.out (by have := B2.out.size; omega) B4.out
                    have zz : w.heap.size < w4.heap.size := z4
                    have F4 := fun V E => four_cells (V := V) (E := E) (c := w2.heap.size + 2) X4.out.1 (by have := B2.out.size; omega)
                    have F40 : ∀ V E o, (((((w4.setCell ⟨w2.heap.size + 2, 0, none⟩ V).setCell ⟨w2.heap.size + 2, 1, none⟩ E).setCell ⟨w.heap.size, 0, none⟩ V).setCell ⟨w.heap.size, 1, none⟩ E).alloc o).cell? ⟨w.heap.size, 0, none⟩ = some V := fun V E o => cell_alloc (by simpa using zz) (F4 V E).1 o
                    have F41 : ∀ V E o, (((((w4.setCell ⟨w2.heap.size + 2, 0, none⟩ V).setCell ⟨w2.heap.size + 2, 1, none⟩ E).setCell ⟨w.heap.size, 0, none⟩ V).setCell ⟨w.heap.size, 1, none⟩ E).alloc o).cell? ⟨w.heap.size, 1, none⟩ = some E := fun V E o => cell_alloc (by simpa using zz) (F4 V E).2 o
                    clear F4
                    have HPEq : Hid (((2 + (y0 * 128 + y1) + pos R' R'.length : Nat) : Int) = 2 + ((y0 : Int) * 128 + (y1 : Int)) + ((pos R' R'.length : Nat) : Int)) := by show _ = _; omega
                    clear hR0 hz4
                    generalize pos R' R'.length = pe at *
                    go_wp2
                    refine bodyPost_ret (v := .agg #[.slice (some ⟨w2.heap.size + 1, 0, none⟩) 1 1, .int .i64 (2 + ((y0 : Int) * 128 + (y1 : Int)) + (pe : Int))]) (by simp [results, Try.results18, go_sem, F40, F41]) rfl ?_
                    rw [← HPEq.out]
                    exact (SF.out _ _).alloc _
                  · subst hv4
                    have hml : (R'.map (·.1)).length = R'.length := by simp
                    have OP5 : Hid (OwnP (w4.alloc (.cells #[.slice (some ⟨g4, 0, none⟩) R'.length cap4, .int .i64 ((pos R' R'.length : Nat) : Int)] 29)) w3.heap.size (.slice (some ⟨g4, 0, none⟩) R'.length cap4) (R'.map (·.1)) us4) := by
                      have := OP4.out.below ((Below.refl _ _).alloc (Nat.le_refl _) (.cells #[.slice (some ⟨g4, 0, none⟩) R'.length cap4, .int .i64 ((pos R' R'.length : Nat) : Int)] 29))
                      rw [hml] at this
                      exact this
                    have OR5 : Hid ((w4.alloc (.cells #[.slice (some ⟨g4, 0, none⟩) R'.length cap4, .int .i64 ((pos R' R'.length : Nat) : Int)] 29)).ownsRow (w.heap.size + 1) 32 1 (.slice (some ⟨w2.heap.size + 1, 0, none⟩) 1 1) 1 [.slice ua p.length uc]) := World.ownsRow.alloc OR4.out _
                    have OU5 : Hid (Own .u8 5 (w4.alloc (.cells #[.slice (some ⟨g4, 0, none⟩) R'.length cap4, .int .i64 ((pos R' R'.length : Nat) : Int)] 29)) (w.heap.size + 1) (.slice ua p.length uc) p) := World.ownsRow.alloc OU4.out _
                    have hul4 : us4.length = R'.length * 1 := by have := OP4.out.len; rw [hml] at this; omega
                    have HC5 : Hid (∀ j u, us4[j]? = some u → (w4.alloc (.cells #[.slice (some ⟨g4, 0, none⟩) R'.length cap4, .int .i64 ((pos R' R'.length : Nat) : Int)] 29)).cell? ((⟨g4, 0, none⟩ : Addr).add j) = some u) := fun j u hu => World.ownsRow.cells OP5.out.1 (g := g4) rfl j u hu
                    have H1C : Hid (∀ u ∈ us4, u.oneCell' = true) := fun u hu => by
                      obtain ⟨j, hj, rfl⟩ := List.mem_iff_getElem.1 hu
                      have h5 := OP4.out.2.1 j (by rw [hml]; omega)
                      have h6 : us4[j] = uV us4 j := by unfold uV; simp [List.getD, hj]
                      rw [h6]
                      obtain ⟨_, _, e⟩ := Own.slice h5
                      rw [e]; rfl
                    have HUL : Hid (us4.length = R'.length * 1) := hul4
                    have HPEq : Hid (((2 + (y0 * 128 + y1) + pos R' R'.length : Nat) : Int) = 2 + ((y0 : Int) * 128 + (y1 : Int)) + ((pos R' R'.length : Nat) : Int)) := by show _ = _; omega
                    clear hul4
                    generalize hpe : pos R' R'.length = pe at *
                    have HPE2 : Hid (pos R' R'.length = pe) := hpe
                    clear hpe
                    go_wp2_with (at_builtin; go_must (refine wpList_append_own _ rfl _ _ 27 rfl (w.heap.size + 1) 32 i0 (.agg #[.slice none 0 0]) 1 24 Try.underlying27 hi0 hz0 hz1 hz2 rfl (by decide) _ 1 _ rfl OR5.out ⟨g4, 0, none⟩ R'.length cap4 us4 rfl HUL.out HC5.out H1C.out ?c3 ?c4 ?c5 ?_))
                    case c3 => unfold maxLen; omega
                    case c4 => omega
                    case c5 => have := B4.out.size; (try simp); omega
                    intro v5 w5 ho5 hg5 _
                    have hwA : Below w4.heap.size w4 (w4.alloc (.cells #[.slice (some ⟨g4, 0, none⟩) R'.length cap4, .int .i64 (pe : Int)] 29)) := (Below.refl _ _).alloc (Nat.le_refl _) _
                    have hsA : (w4.alloc (.cells #[.slice (some ⟨g4, 0, none⟩) R'.length cap4, .int .i64 (pe : Int)] 29)).heap.size = w4.heap.size + 1 := by simp
                    have s20 := B2.out.size
                    have s40 := B4.out.size
                    have OU6 : Own .u8 5 w5 (w.heap.size + 1) (.slice ua p.length uc) p := OU5.out.other hg5 (.inr (fun e => by have := HLT2.out (w2.heap.size + 1) (by rw [e]; rfl); omega))
                    have HG4 : ∀ i, i < R'.length → ∀ g, (uV us4 i).ownBlock = some g → w3.heap.size ≤ g := fun i hi g e => ((OP4.out.2.1 i (by rw [hml]; exact hi)).lt g e).1
                    have O46 : ∀ i, i < R'.length → Own .u8 5 w5 (w.heap.size + 1) (uV us4 i) (pR (R'.map (·.1)) i) := fun i hi => Own.mono ((OP5.out.2.1 i (by rw [hml]; exact hi)).other hg5 (.inr (fun e => by have := HG4 i hi (w2.heap.size + 1) (by rw [e]; rfl); omega))) (by omega)
                    have HH6 : w5.heap[w2.heap.size + 2]? = some (.cells #[.slice (some ⟨w2.heap.size + 1, 0, none⟩) 1 1, .int .i64 (2 + ((y0 : Int) * 128 + (y1 : Int)))] 29 (0, 0)) := (hg5.block _ (by rw [hsA]; omega) (by simp [Value.ownBlock])).trans ((hwA.block _ (by omega)).trans HH4.out)
                    have X6 : Hid (BoxF w5 w.heap.size (.slice none 0 0) (.int .i64 0)) := (X4.out.below hwA).other hg5 (by simp [Value.ownBlock]; omega)
                    have XO6 : Hid (BoxF w5 (w2.heap.size + 2) (.slice (some ⟨w2.heap.size + 1, 0, none⟩) 1 1) (.int .i64 (2 + ((y0 : Int) * 128 + (y1 : Int))))) := (XO4.out.below hwA).other hg5 (by simp [Value.ownBlock])
                    have XT6 : Hid (BoxF w5 w4.heap.size (.slice (some ⟨g4, 0, none⟩) R'.length cap4) (.int .i64 (pe : Int))) := (BoxF.new w4 _ _ _).other hg5 (by simp [Value.ownBlock]; omega)
                    have B6 : Below w.heap.size w w5 := (B4.out.trans (hwA.mono s40)).grown hg5 (by rw [hsA]; omega) (fun q e => by simp only [Value.ownBlock, Option.some.injEq] at e; omega)
                    obtain ⟨g5, c5, hv5⟩ : ∃ g5 c5, v5 = .slice (some ⟨g5, 0, none⟩) (1 + R'.length) c5 := by
                      rcases ho5.2 with ⟨-, h⟩ | ⟨g, gc, cur, rfl, -⟩
                      · omega
                      · exact ⟨g, gc, rfl⟩
                    subst hv5
                    have SF : Hid (∀ x y, ScanPost w f a (.returned (.agg #[.slice (some ⟨g5, 0, none⟩) (1 + R'.length) c5, .int .i64 (2 + ((y0 : Int) * 128 + (y1 : Int)) + (pe : Int))])) ((((w5.setCell ⟨w2.heap.size + 2, 0, none⟩ x).setCell ⟨w2.heap.size + 2, 1, none⟩ y).setCell ⟨w.heap.size, 0, none⟩ x).setCell ⟨w.heap.size, 1, none⟩ y)) := fun x y => by
                      have h7 := scan_fin (x := x) (y := y) HRR.out ho5 OU6 O46 (fun i j hi hj hne => OP4.out.2.2.1 i j (by rw [hml]; exact hi) (by rw [hml]; exact hj) hne) (fun i hi => ⟨by
                        cases q : Value.ownBlock (.slice ua p.length uc) with
                        | none => exact .inl q
                        | some g => exact .inr (fun e3 => by have h1 := HLT2.out g q; have h2 := HG4 i hi g (by rw [← e3]; exact q); omega), by
                        cases q : (uV us4 i).ownBlock with
                        | none => exact .inl q
                        | some g => exact .inr (fun e3 => by have h1 := HG4 i hi g q; have h2 := HLT2.out g (by rw [← e3]; exact q); omega)⟩) (fun e => by have := HLT2.out _ e; omega) (fun i hi e => by have := HG4 i hi _ e; omega) HH6 (by omega) B6
                      rw [HPE2.out, HPEq.out] at h7
                      exact h7
                    have F4 := fun V E => four_cells (V := V) (E := E) (c := w2.heap.size + 2) X6.out.1 (by omega)
                    have F40 : ∀ V E, ((((w5.setCell ⟨w2.heap.size + 2, 0, none⟩ V).setCell ⟨w2.heap.size + 2, 1, none⟩ E).setCell ⟨w.heap.size, 0, none⟩ V).setCell ⟨w.heap.size, 1, none⟩ E).cell? ⟨w.heap.size, 0, none⟩ = some V := fun V E => (F4 V E).1
                    have F41 : ∀ V E, ((((w5.setCell ⟨w2.heap.size + 2, 0, none⟩ V).setCell ⟨w2.heap.size + 2, 1, none⟩ E).setCell ⟨w.heap.size, 0, none⟩ V).setCell ⟨w.heap.size, 1, none⟩ E).cell? ⟨w.heap.size, 1, none⟩ = some E := fun V E => (F4 V E).2
                    clear F4 ho5 hg5 hwA hsA OU6 HG4 O46 HH6 B6 d0 d1 f0 f1 g0 g1 h0' h1' zo z4 OP5 OR5 OU5 HC5 H1C HUL
                    obtain ⟨⟨z6, d0, d1⟩, f0, f1⟩ := X6.out
                    obtain ⟨⟨zo, g0, g1⟩, h0', h1'⟩ := XO6.out
                    obtain ⟨⟨zt, t0, t1⟩, -⟩ := XT6.out
                    go_wp2
                    refine bodyPost_ret (v := .agg #[.slice (some ⟨g5, 0, none⟩) (1 + R'.length) c5, .int .i64 (2 + ((y0 : Int) * 128 + (y1 : Int)) + (pe : Int))]) (by simp [results, Try.results18, go_sem, F40, F41]) rfl ?_
                    exact SF.out _ _
          · have hsI : (n : Int) < 2 + ((y0 : Int) * 128 + (y1 : Int)) := by omega
            have hsd : decide ((n : Int) < 2 + ((y0 : Int) * 128 + (y1 : Int))) = true := by simpa using hsI
            have HF : Hid (frmB a = false) := frmB_no (fun hk => by have := hk.2.2.2.1; rw [HM2.out, HL.out] at this; omega)
            go_wp2
            refine bodyPost_ret (v := .agg #[.slice none 0 0, .int .i64 0]) (by simp [results, Try.results18, go_sem]) rfl (scan_none (w := w) (f := f) HF.out ?_)
            repeat (first | exact B0.out | exact below_drewQ B0.out _ | refine Below.setCell ?_ (by simp; try omega) _)
end Go.Proofs.Ytajnihjdhhmefaa
