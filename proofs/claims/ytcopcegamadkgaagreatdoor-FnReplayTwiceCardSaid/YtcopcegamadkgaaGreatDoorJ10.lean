import Derived.Test.YtcopcegamadkgaaGreatDoorJ09
import Derived.Test.YtcopcegamadkgaaGreatDoorJ08
import Derived.Test.YtcopcegamadkgaaGreatDoorJ06
import Derived.Test.YtcopcegamadkgaaGreatDoorJ07
import Derived.Deep.QuietTactic
import Derived.BigQuiet
set_option maxRecDepth 100000
set_option maxHeartbeats 16000000
namespace Go.Proofs.YtcopcegamadkgaaGreatDoor
open Go.RowKit
theorem scn_no {a : List Int} (h : frmB a = false) (f : Nat) : scn f a = [] := by
 cases f with
 | zero => rfl
 | succ f => unfold scn; rw [h]; simp
theorem scn_yes {a : List Int} (h : frmB a = true) (f : Nat) : scn (f + 1) a = (frm_p a, 2 + frm_m a) :: scn f (a.drop (2 + frm_m a)) := by
 conv => lhs; unfold scn
 rw [h]; simp
def ScanPost (w : World) (f : Nat) (a : List Int) (e : Ending) (w' : World) : Prop := ∃ v us, e = .returned (.agg #[v, .int .i64 ((pos (scn f a) (scn f a).length : Nat) : Int)]) ∧ OwnP w' w.heap.size v ((scn f a).map (·.1)) us ∧ Below w.heap.size w w'
theorem scn_short : ∀ (f : Nat) (a : List Int), a.length ≤ f → (scn f a).length ≤ a.length
 | 0, a, _ => by simp [scn]
 | f + 1, a, h => by
  cases e : frmB a with
  | false => rw [scn_no e]; simp
  | true =>
   obtain ⟨k1, k2, k3, k4, -⟩ := (frmB_iff a).1 e
   have := scn_short f (a.drop (2 + frm_m a)) (by rw [List.length_drop]; omega)
   rw [List.length_drop] at this
   rw [scn_yes e, List.length_cons]; omega
theorem scan_none {w w' : World} {f : Nat} {a : List Int} (hno : frmB a = false) (hb : Below w.heap.size w w') : ScanPost w f a (.returned (.agg #[.slice none 0 0, .int .i64 0])) w' := by
 unfold ScanPost
 rw [scn_no hno f]
 exact ⟨_, [], rfl, ⟨World.ownsRow_nil _ _ _ _, fun i hi => by simp at hi, fun i j hi => by simp at hi, fun i hi => by simp at hi⟩, hb⟩
theorem ScanPost.alloc {w w' : World} {f : Nat} {a : List Int} {e : Ending} (h : ScanPost w f a e w') (o : Obj) : ScanPost w f a e (w'.alloc o) := by
 obtain ⟨v, us, h1, h2, h3⟩ := h
 exact ⟨v, us, h1, h2.below ((Below.refl _ _).alloc (Nat.le_refl _) _), h3.alloc h3.size _⟩
theorem ne_type_block {W : World} {lo n c : Nat} {v : Value} {us : List Value} {cs : Array Value} (hv : W.ownsRow lo 40 1 v n us) (hc : W.heap[c]? = some (.cells cs 36 (0, 0))) : v.ownBlock ≠ some c := by
 rcases hv.2 with ⟨rfl, -⟩ | ⟨g', cap', cur', rfl, -, hg', -⟩
 · simp [Value.ownBlock]
 · intro e
   simp only [Value.ownBlock, Option.some.injEq] at e
   subst e
   rw [hg'] at hc
   injection hc with hc
   injection hc with h1 h2
   cases h2
theorem uV_consS {s : List Value} {u : Value} {i : Nat} : uV (u :: s) (i + 1) = uV s i := rfl
theorem pR_consS {s : List (List Int)} {u : List Int} {i : Nat} : pR (u :: s) (i + 1) = pR s i := rfl
theorem scan_fin {w W : World} {f m c : Nat} {a p : List Int} {R' : List (List Int × Nat)} {v U : Value} {us : List Value} {cs : Array Value} (hRR : scn f a = (p, m) :: R') (hr : W.ownsRow (w.heap.size + 1) 40 1 v (1 + R'.length) ([U] ++ us))
    (hu : Own .u8 5 W (w.heap.size + 1) U p) (h4 : ∀ i, i < R'.length → Own .u8 5 W (w.heap.size + 1) (uV us i) (pR (R'.map (·.1)) i)) (hp : ∀ i j, i < R'.length → j < R'.length → i ≠ j → Ne2 (uV us i) (uV us j))
    (hd : ∀ i, i < R'.length → Ne2 U (uV us i) ∧ Ne2 (uV us i) U) (hcU : U.ownBlock ≠ some c) (hc4 : ∀ i, i < R'.length → (uV us i).ownBlock ≠ some c) (hcs : W.heap[c]? = some (.cells cs 36 (0, 0))) (hcw : w.heap.size < c) (hb : Below w.heap.size w W) {x y : Value} :
    ScanPost w f a (.returned (.agg #[v, .int .i64 ((m + pos R' R'.length : Nat) : Int)])) ((((W.setCell ⟨c, 0, none⟩ x).setCell ⟨c, 1, none⟩ y).setCell ⟨w.heap.size, 0, none⟩ x).setCell ⟨w.heap.size, 1, none⟩ y) := by
 have hcv := ne_type_block hr hcs
 refine ⟨v, U :: us, ?_, ?_, (((hb.setCell (by show _ ≤ c; omega) _).setCell (by show _ ≤ c; omega) _).setCell (by simp) _).setCell (by simp) _⟩
 · rw [hRR, List.length_cons, pos_cons]
 · have hX : ∀ {u : Value} {xs : List Int}, Own .u8 5 W (w.heap.size + 1) u xs → u.ownBlock ≠ some c → Own .u8 5 ((((W.setCell ⟨c, 0, none⟩ x).setCell ⟨c, 1, none⟩ y).setCell ⟨w.heap.size, 0, none⟩ x).setCell ⟨w.heap.size, 1, none⟩ y) (w.heap.size + 1) u xs := fun ho hne =>
    (((ho.setAt (.inr hne)).setAt (.inr hne)).setBelow (by show w.heap.size < _; omega) _).setBelow (by show w.heap.size < _; omega) _
   refine OwnP.mono (lo := w.heap.size + 1) ?_ (by omega)
   rw [hRR]
   refine ⟨?_, fun i hi => ?_, fun i j hi hj hne => ?_, fun i hi => ?_⟩
   · have h1 : World.ownsRow ((W.setCell ⟨c, 0, none⟩ x).setCell ⟨c, 1, none⟩ y) (w.heap.size + 1) 40 1 v (1 + R'.length) ([U] ++ us) := World.ownsRow.kept (World.ownsRow.kept hr (gset W c 0 x) (.inr hcv)) (gset _ c 1 y) (.inr hcv)
     have h2 := ownsRow_setCell_below (ownsRow_setCell_below h1 (a := ⟨w.heap.size, 0, none⟩) (by show w.heap.size < _; omega) x) (a := ⟨w.heap.size, 1, none⟩) (by show w.heap.size < _; omega) y
     rw [show (((p, m) :: R').map (·.1)).length = 1 + R'.length by simp; omega]
     exact h2
   · cases i with
     | zero => exact hX hu hcU
     | succ i =>
      have hi' : i < R'.length := by simpa using hi
      rw [uV_consS, List.map_cons, pR_consS]
      exact hX (h4 i hi') (hc4 i hi')
   · cases i with
     | zero =>
      cases j with
      | zero => omega
      | succ j => rw [uV_consS]; exact (hd j (by simpa using hj)).1
     | succ i =>
      cases j with
      | zero => rw [uV_consS]; exact (hd i (by simpa using hi)).2
      | succ j => rw [uV_consS, uV_consS]; exact hp i j (by simpa using hi) (by simpa using hj) (by omega)
   · cases i with
     | zero => exact ne_by_type hu hr
     | succ i =>
      have hi' : i < R'.length := by simpa using hi
      rw [uV_consS]; exact ne_by_type (h4 i hi') hr
theorem four_cells {W : World} {b c : Nat} {x y V E : Value} (hb : Box2 W b x y) (hne : b ≠ c) : ((((W.setCell ⟨c, 0, none⟩ V).setCell ⟨c, 1, none⟩ E).setCell ⟨b, 0, none⟩ V).setCell ⟨b, 1, none⟩ E).cell? ⟨b, 0, none⟩ = some V ∧ ((((W.setCell ⟨c, 0, none⟩ V).setCell ⟨c, 1, none⟩ E).setCell ⟨b, 0, none⟩ V).setCell ⟨b, 1, none⟩ E).cell? ⟨b, 1, none⟩ = some E := by
 obtain ⟨z, d0, d1⟩ := hb
 have h0 : ((W.setCell ⟨c, 0, none⟩ V).setCell ⟨c, 1, none⟩ E).cell? ⟨b, 0, none⟩ = some x := by
  rw [World.cell?_setCell_other _ _ _ _ (by simp; try omega), World.cell?_setCell_other _ _ _ _ (by simp; try omega)]; exact d0
 have h1 : ((W.setCell ⟨c, 0, none⟩ V).setCell ⟨c, 1, none⟩ E).cell? ⟨b, 1, none⟩ = some y := by
  rw [World.cell?_setCell_other _ _ _ _ (by simp; try omega), World.cell?_setCell_other _ _ _ _ (by simp; try omega)]; exact d1
 constructor
 · rw [World.cell?_setCell_other _ _ _ _ (by simp)]; exact World.cell?_setCell_same _ _ _ h0
 · exact World.cell?_setCell_same _ _ _ (by rw [World.cell?_setCell_other _ _ _ _ (by simp)]; exact h1)
theorem cell_alloc {W : World} {b j : Nat} {v : Value} (hb : b < W.heap.size) (h : W.cell? ⟨b, j, none⟩ = some v) (o : Obj) : (W.alloc o).cell? ⟨b, j, none⟩ = some v := (((Below.refl _ W).alloc (Nat.le_refl _) o).cell (p := ⟨b, j, none⟩) hb).trans h
def SpecOK (f : Nat) : Prop := ∀ (w : World) (ao : Option Addr) (n cap : Nat) (a : List Int), Rd .u8 w (.slice ao n cap) a → a.length = n → Byt a → n ≤ 8192 → n ≤ f →
    Calls Tryz.prog 11 #[.slice ao n cap] w (ScanPost w f a)
theorem specScan_step (f : Nat) (IH : ∀ f', f' < f → SpecOK f') (w : World) (ao : Option Addr) (n cap : Nat) (a : List Int) (h : Rd .u8 w (.slice ao n cap) a) (hl : a.length = n) (hby : Byt a) (hn : n ≤ 8192) (hnf : n ≤ f) :
    Calls Tryz.prog 11 #[.slice ao n cap] w (ScanPost w f a) := by
 have HIH : Hid (∀ f', f' < f → SpecOK f') := IH
 clear IH
 have B0 : Hid (Below w.heap.size w (w.alloc (.cells #[.slice none 0 0, .int .i64 0] 36))) := (Below.refl _ _).alloc (Nat.le_refl _) _
 have HL : Hid (a.length = n) := hl
 clear hl
 have h0 : ¬ (8192 : Int) < (n : Int) := by omega
 have h0d : decide ((8192 : Int) < (n : Int)) = false := by simpa using h0
 by_cases h2 : n < 2
 · have h2I : (n : Int) < 2 := by omega
   have h2d : decide ((n : Int) < 2) = true := by simpa using h2I
   have HF : Hid (frmB a = false) := frmB_no (fun hk => by have := hk.1; have := HL.out; omega)
   clear h hby
   go_enter Tryz.func11, Tryz.ntmps11
   go_wp2
   refine bodyPost_ret (v := .agg #[.slice none 0 0, .int .i64 0]) (by simp [results, Tryz.results11, go_sem]) rfl (scan_none (w := w) (f := f) HF.out ?_)
   repeat (first | exact B0.out | refine Below.setCell ?_ (by simp; try omega) _)
 · have h2I : ¬ (n : Int) < 2 := by omega
   have h2d : decide ((n : Int) < 2) = false := by simpa using h2I
   obtain ⟨blk, o, rfl, hb, hcap, hcm, hc⟩ := h.cut HL.out (by omega)
   have HRDH : Hid (Rd .u8 w (.slice (some ⟨blk, o, none⟩) n cap) a) := h
   obtain ⟨x0, hx0, hxe0⟩ := byt_at hby 0
   obtain ⟨x1, hx1, hxe1⟩ := byt_at hby 1
   have c0 := hc 0 (by omega)
   have c1 := hc 1 (by omega)
   rw [hxe0, Nat.add_zero] at c0
   rw [hxe1] at c1
   have HC : Hid (∀ i, i < n → w.cell? ⟨blk, o + i, none⟩ = some (.int .u8 (a.getD i 0))) := hc
   have HBY : Hid (Byt a) := hby
   have hn0 : (0 : Int) < (n : Int) := by omega
   have hn1 : (1 : Int) < (n : Int) := by omega
   have HM : Hid (frm_m a = x0 % 128 * 128 + x1 % 128) := by show _ = _; unfold frm_m; rw [hxe0, hxe1, Int.toNat_natCast, Int.toNat_natCast]
   have HCM : Hid (cap ≤ maxLen) := hcm
   unfold maxLen at hcm
   by_cases q0 : (x0 : Int) < 128
   · have q0d : decide ((x0 : Int) < 128) = true := by simpa using q0
     have HF : Hid (frmB a = false) := frmB_no (fun hk => by have := hk.2.1; rw [hxe0] at this; omega)
     clear h hby hc hxe0 hxe1
     go_enter Tryz.func11, Tryz.ntmps11
     go_wp2
     refine bodyPost_ret (v := .agg #[.slice none 0 0, .int .i64 0]) (by simp [results, Tryz.results11, go_sem]) rfl (scan_none (w := w) (f := f) HF.out ?_)
     repeat (first | exact B0.out | refine Below.setCell ?_ (by simp; try omega) _)
   · have q0d : decide ((x0 : Int) < 128) = false := by simpa using q0
     by_cases q1 : (x1 : Int) < 128
     · have q1d : decide ((x1 : Int) < 128) = true := by simpa using q1
       have HF : Hid (frmB a = false) := frmB_no (fun hk => by have := hk.2.2.1; rw [hxe1] at this; omega)
       clear h hby hc hxe0 hxe1
       go_enter Tryz.func11, Tryz.ntmps11
       go_wp2
       refine bodyPost_ret (v := .agg #[.slice none 0 0, .int .i64 0]) (by simp [results, Tryz.results11, go_sem]) rfl (scan_none (w := w) (f := f) HF.out ?_)
       repeat (first | exact B0.out | refine Below.setCell ?_ (by simp; try omega) _)
     · have q1d : decide ((x1 : Int) < 128) = false := by simpa using q1
       have HOK : Hid (2 + frm_m a ≤ n → frm_p a ≠ [] → (frm_p a).length ≤ 2000 → frmB a = true) := fun k1 k2 k3 => (frmB_iff a).2 ⟨by rw [HL.out]; omega, by rw [hxe0]; omega, by rw [hxe1]; omega, by rw [HL.out]; exact k1, k2, k3⟩
       clear h hby hc hxe0 hxe1
       obtain ⟨y0, hy0⟩ : ∃ y0 : Nat, x0 = 128 + y0 := ⟨x0 - 128, by omega⟩
       obtain ⟨y1, hy1⟩ : ∃ y1 : Nat, x1 = 128 + y1 := ⟨x1 - 128, by omega⟩
       subst hy0 hy1
       have HM2 : Hid (frm_m a = y0 * 128 + y1) := by rw [HM.out]; show _ = _; omega
       have hy0' : y0 < 128 := by omega
       have hy1' : y1 < 128 := by omega
       have s0 : (128 : Int) + (y0 : Int) - 128 = (y0 : Int) := by omega
       have s1 : (128 : Int) + (y1 : Int) - 128 = (y1 : Int) := by omega
       clear HM
       go_enter Tryz.func11, Tryz.ntmps11
       go_wp2_with fail
       go_quiet (fail)
       by_cases hm1 : y0 * 128 + y1 < 1
       · have hm1I : (y0 : Int) * 128 + (y1 : Int) < 1 := by omega
         have hm1d : decide ((y0 : Int) * 128 + (y1 : Int) < 1) = true := by simpa using hm1I
         have HF : Hid (frmB a = false) := frmB_no (fun hk => by
          have h5 := hk.2.2.2.2.1
          apply h5
          unfold frm_p
          rw [show frm_m a = 0 by rw [HM2.out]; omega]
          simp [unp_nil])
         go_wp2
         refine bodyPost_ret (v := .agg #[.slice none 0 0, .int .i64 0]) (by simp [results, Tryz.results11, go_sem]) rfl (scan_none (w := w) (f := f) HF.out ?_)
         repeat (first | exact B0.out | exact below_drewQ B0.out _ | refine Below.setCell ?_ (by simp; try omega) _)
       · have hm1I : ¬ (y0 : Int) * 128 + (y1 : Int) < 1 := by omega
         have hm1d : decide ((y0 : Int) * 128 + (y1 : Int) < 1) = false := by simpa using hm1I
         by_cases hs : 2 + (y0 * 128 + y1) ≤ n
         · have hsI : ¬ (n : Int) < 2 + ((y0 : Int) * 128 + (y1 : Int)) := by omega
           have hsd : decide ((n : Int) < 2 + ((y0 : Int) * 128 + (y1 : Int))) = false := by simpa using hsI
           have hcp : ¬ cap = 2 := by omega
           have RS : Hid (Rd .u8 w (.slice (some ⟨blk, o + 2, none⟩) (y0 * 128 + y1) (cap - 2)) ((a.drop 2).take (frm_m a))) := by
            rw [HM2.out]
            exact rd_piece hb HC.out HL.out 2 (y0 * 128 + y1) (by omega) hcap HCM.out
           go_wp2_with fail
           refine (specUnpack_any _ _ _ (RS.out.below (below_drewQ B0.out nq)) (byt_piece HBY.out 2 (frm_m a)) (by rw [List.length_take]; have := HM2.out; omega)).mono ?_
           rintro e w2 ⟨u, rfl, o2, b2⟩
           have o2' : Own .u8 5 w2 _ u (frm_p a) := o2
           obtain ⟨ua, uc, rfl⟩ := Own.slice o2'
           have B2 : Hid (Below w.heap.size w w2) := (below_drewQ B0.out nq).trans (b2.mono (by show w.heap.size ≤ (w.alloc _).heap.size; simp))
           have O2 : Hid (Own .u8 5 w2 (w.heap.size + 1) (.slice ua (frm_p a).length uc) (frm_p a)) := Own.mono o2' (by show w.heap.size + 1 ≤ (w.alloc _).heap.size; simp)
           have hul : (frm_p a).length ≤ maxLen := by obtain ⟨_, _, e, h1, h2⟩ := O2.out.rd.len; simp only [Value.slice.injEq] at e; omega
           unfold maxLen at hul
           have X2 : Hid (BoxF w2 w.heap.size (.slice none 0 0) (.int .i64 0)) := by
            have h1 : BoxF ((w.alloc (.cells #[.slice none 0 0, .int .i64 0] 36)).drewN nq) w.heap.size (.slice none 0 0) (.int .i64 0) := BoxF.new w _ _ _
            exact h1.below b2
           have HP : Hid (frm_p a ≠ [] ↔ (frm_p a).length ≠ 0) := by show _ ↔ _; cases frm_p a <;> simp
           have HIN : Hid (2 + frm_m a ≤ n) := by rw [HM2.out]; exact hs
           have HNO : Hid ((frm_p a).length = 0 ∨ 2000 < (frm_p a).length → frmB a = false) := fun hh => frmB_no (fun hk => by have h5 := HP.out.1 hk.2.2.2.2.1; have h6 := hk.2.2.2.2.2; omega)
           have HYES : Hid ((frm_p a).length ≠ 0 → (frm_p a).length ≤ 2000 → frmB a = true) := fun h5 h6 => HOK.out HIN.out (HP.out.2 h5) h6
           clear o2 o2' b2 RS HOK
           obtain ⟨⟨z2, d0, d1⟩, f0, f1⟩ := X2.out
           generalize hp : frm_p a = p at *
           have HPE : Hid (frm_p a = p) := hp
           clear hp
           have YY : ∀ (u v : Value) (o : Obj), (((w2.setCell ⟨w.heap.size, 0, none⟩ u).setCell ⟨w.heap.size, 1, none⟩ v).alloc o).cell? ⟨w.heap.size, 0, none⟩ = some u ∧ (((w2.setCell ⟨w.heap.size, 0, none⟩ u).setCell ⟨w.heap.size, 1, none⟩ v).alloc o).cell? ⟨w.heap.size, 1, none⟩ = some v := fun u v o => by
            have k0 : ((w2.setCell ⟨w.heap.size, 0, none⟩ u).setCell ⟨w.heap.size, 1, none⟩ v).cell? ⟨w.heap.size, 0, none⟩ = some u := by rw [World.cell?_setCell_other _ _ _ _ (by simp)]; exact World.cell?_setCell_same _ _ _ d0
            have k1 : ((w2.setCell ⟨w.heap.size, 0, none⟩ u).setCell ⟨w.heap.size, 1, none⟩ v).cell? ⟨w.heap.size, 1, none⟩ = some v := World.cell?_setCell_same _ _ _ (by rw [World.cell?_setCell_other _ _ _ _ (by simp)]; exact d1)
            exact ⟨cell_alloc (by simpa using z2) k0 o, cell_alloc (by simpa using z2) k1 o⟩
           have YY0 := fun u v o => (YY u v o).1
           have YY1 := fun u v o => (YY u v o).2
           clear YY
           by_cases l0 : p.length = 0
           · have l0I : (p.length : Int) = 0 := by omega
             have l0b : ((p.length : Int) == 0) = true := by simpa using l0I
             go_wp2
             refine bodyPost_ret (v := .agg #[.slice none 0 0, .int .i64 0]) (by simp [results, Tryz.results11, go_sem, YY0, YY1]) rfl (scan_none (w := w) (f := f) (HNO.out (.inl l0)) ?_)
             repeat (first | exact B2.out | exact B2.out.alloc B2.out.size _ | refine Below.setCell ?_ (by simp; try omega) _ | refine Below.alloc ?_ (by simp; try omega) _)
           · have l0I : ¬ (p.length : Int) = 0 := by omega
             have l0b : ((p.length : Int) == 0) = false := by simpa using l0I
             by_cases l2 : 2000 < p.length
             · have l2I : (2000 : Int) < (p.length : Int) := by omega
               have l2d : decide ((2000 : Int) < (p.length : Int)) = true := by simpa using l2I
               go_wp2
               refine bodyPost_ret (v := .agg #[.slice none 0 0, .int .i64 0]) (by simp [results, Tryz.results11, go_sem, YY0, YY1]) rfl (scan_none (w := w) (f := f) (HNO.out (.inr l2)) ?_)
               repeat (first | exact B2.out | exact B2.out.alloc B2.out.size _ | refine Below.setCell ?_ (by simp; try omega) _ | refine Below.alloc ?_ (by simp; try omega) _)
             · have l2I : ¬ (2000 : Int) < (p.length : Int) := by omega
               have l2d : decide ((2000 : Int) < (p.length : Int)) = false := by simpa using l2I
               have HYE : Hid (frmB a = true) := HYES.out l0 (by omega)
               have hw3s : (((w2.alloc (.cells #[.slice ua p.length uc] 40)).alloc (.cells #[.slice ua p.length uc] 40)).alloc (.cells #[.slice (some ⟨w2.heap.size + 1, 0, none⟩) 1 1, .int .i64 (2 + ((y0 : Int) * 128 + (y1 : Int)))] 36)).heap.size = w2.heap.size + 3 := by simp
               have b3 : Below w2.heap.size w2 (((w2.alloc (.cells #[.slice ua p.length uc] 40)).alloc (.cells #[.slice ua p.length uc] 40)).alloc (.cells #[.slice (some ⟨w2.heap.size + 1, 0, none⟩) 1 1, .int .i64 (2 + ((y0 : Int) * 128 + (y1 : Int)))] 36)) := (((Below.refl _ _).alloc (Nat.le_refl _) _).alloc (by simp) _).alloc (by simp; omega) _
               have XO3 : Hid (BoxF (((w2.alloc (.cells #[.slice ua p.length uc] 40)).alloc (.cells #[.slice ua p.length uc] 40)).alloc (.cells #[.slice (some ⟨w2.heap.size + 1, 0, none⟩) 1 1, .int .i64 (2 + ((y0 : Int) * 128 + (y1 : Int)))] 36)) (w2.heap.size + 2) (.slice (some ⟨w2.heap.size + 1, 0, none⟩) 1 1) (.int .i64 (2 + ((y0 : Int) * 128 + (y1 : Int))))) := by
                have := BoxF.new ((w2.alloc (.cells #[.slice ua p.length uc] 40)).alloc (.cells #[.slice ua p.length uc] 40)) (.slice (some ⟨w2.heap.size + 1, 0, none⟩) 1 1) (.int .i64 (2 + ((y0 : Int) * 128 + (y1 : Int)))) 36
                rw [World.size_alloc, World.size_alloc] at this
                exact this
               have OR3 : Hid ((((w2.alloc (.cells #[.slice ua p.length uc] 40)).alloc (.cells #[.slice ua p.length uc] 40)).alloc (.cells #[.slice (some ⟨w2.heap.size + 1, 0, none⟩) 1 1, .int .i64 (2 + ((y0 : Int) * 128 + (y1 : Int)))] 36)).ownsRow (w.heap.size + 1) 40 1 (.slice (some ⟨w2.heap.size + 1, 0, none⟩) 1 1) 1 [.slice ua p.length uc]) := by
                refine World.ownsRow.alloc (w := (w2.alloc (.cells #[.slice ua p.length uc] 40)).alloc (.cells #[.slice ua p.length uc] 40)) ⟨rfl, .inr ⟨w2.heap.size + 1, 1, #[.slice ua p.length uc], rfl, by omega, ?_, Nat.le_refl _, by unfold maxLen; omega, rfl, rfl⟩⟩ _
                have := heap_alloc_new (w2.alloc (.cells #[.slice ua p.length uc] 40)) (.cells #[.slice ua p.length uc] 40)
                rw [World.size_alloc] at this
                exact this
               have HH3 : Hid ((((w2.alloc (.cells #[.slice ua p.length uc] 40)).alloc (.cells #[.slice ua p.length uc] 40)).alloc (.cells #[.slice (some ⟨w2.heap.size + 1, 0, none⟩) 1 1, .int .i64 (2 + ((y0 : Int) * 128 + (y1 : Int)))] 36)).heap[w2.heap.size + 2]? = some (.cells #[.slice (some ⟨w2.heap.size + 1, 0, none⟩) 1 1, .int .i64 (2 + ((y0 : Int) * 128 + (y1 : Int)))] 36 (0, 0))) := by
                have := heap_alloc_new ((w2.alloc (.cells #[.slice ua p.length uc] 40)).alloc (.cells #[.slice ua p.length uc] 40)) (.cells #[.slice (some ⟨w2.heap.size + 1, 0, none⟩) 1 1, .int .i64 (2 + ((y0 : Int) * 128 + (y1 : Int)))] 36)
                rw [World.size_alloc, World.size_alloc] at this
                exact this
               have b3' : Hid (Below w2.heap.size w2 (((w2.alloc (.cells #[.slice ua p.length uc] 40)).alloc (.cells #[.slice ua p.length uc] 40)).alloc (.cells #[.slice (some ⟨w2.heap.size + 1, 0, none⟩) 1 1, .int .i64 (2 + ((y0 : Int) * 128 + (y1 : Int)))] 36))) := b3
               have HSZ : Hid ((((w2.alloc (.cells #[.slice ua p.length uc] 40)).alloc (.cells #[.slice ua p.length uc] 40)).alloc (.cells #[.slice (some ⟨w2.heap.size + 1, 0, none⟩) 1 1, .int .i64 (2 + ((y0 : Int) * 128 + (y1 : Int)))] 36)).heap.size = w2.heap.size + 3) := hw3s
               have HLT2 : Hid (∀ g, Value.ownBlock (.slice ua p.length uc) = some g → g < w2.heap.size) := fun g e => (O2.out.lt g e).2
               clear hw3s b3 YY0 YY1
               have HR0 : Hid (Rd .u8 w (.slice (some ⟨blk, o, none⟩) n cap) a) := HRDH.out
               by_cases hcz : cap = 2 + (y0 * 128 + y1)
               · have RS : Hid (Rd .u8 w (.slice (some ⟨blk, o, none⟩) (n - (2 + (y0 * 128 + y1))) 0) (a.drop (2 + (y0 * 128 + y1)))) := by
                  have e1 : n - (2 + (y0 * 128 + y1)) = 0 := by omega
                  have e2 : a.drop (2 + (y0 * 128 + y1)) = [] := List.eq_nil_of_length_eq_zero (by rw [List.length_drop, HL.out]; exact e1)
                  rw [e1, e2]; exact rd_empty _ _ _ (Nat.zero_le _)
                 go_wp2_with fail
                 generalize ((w2.alloc (.cells #[.slice ua p.length uc] 40)).alloc (.cells #[.slice ua p.length uc] 40)).alloc (.cells #[.slice (some ⟨w2.heap.size + 1, 0, none⟩) 1 1, .int .i64 (2 + ((y0 : Int) * 128 + (y1 : Int)))] 36) = w3 at *
                 have B3 := hd9 (B2.out.trans (b3'.out.mono (by omega)))
                 refine ((HIH.out (f - 1) (by omega)) w3 (some ⟨blk, o, none⟩) (n - (2 + (y0 * 128 + y1))) 0 (a.drop (2 + (y0 * 128 + y1))) (RS.out.below B3.out) (by rw [List.length_drop, HL.out]) (fun x hx => HBY.out x (List.mem_of_mem_drop hx)) (by omega) (by omega)).mono ?_
                 rintro e w4 ⟨v4, us4, rfl, op4, b4⟩
                 have HRR : Hid (scn f a = (p, 2 + (y0 * 128 + y1)) :: scn (f - 1) (a.drop (2 + (y0 * 128 + y1)))) := by
                  have := scn_yes HYE.out (f - 1)
                  rw [show f - 1 + 1 = f by omega, HPE.out, HM2.out] at this
                  exact this
                 have hrl : (scn (f - 1) (a.drop (2 + (y0 * 128 + y1)))).length ≤ 8192 := by
                  have h5 := scn_all (f - 1) (a.drop (2 + (y0 * 128 + y1))) (by rw [List.length_drop, HL.out]; omega)
                  have h6 := scn_short (f - 1) (a.drop (2 + (y0 * 128 + y1))) (by rw [List.length_drop, HL.out]; omega)
                  rw [List.length_drop, HL.out] at h6; omega
                 have hpl : pos (scn (f - 1) (a.drop (2 + (y0 * 128 + y1)))) (scn (f - 1) (a.drop (2 + (y0 * 128 + y1)))).length ≤ 8192 := by
                  have h5 := (scn_all (f - 1) (a.drop (2 + (y0 * 128 + y1))) (by rw [List.length_drop, HL.out]; omega)).2.2 _ (Nat.le_refl _)
                  rw [List.length_drop, HL.out] at h5; omega
                 generalize scn (f - 1) (a.drop (2 + (y0 * 128 + y1))) = R' at *
                 have OP4 : Hid (OwnP w4 w3.heap.size v4 (R'.map (·.1)) us4) := op4
                 have XO4 := hd9 (XO3.out.below b4)
                 have OR4 : Hid (w4.ownsRow (w.heap.size + 1) 40 1 (.slice (some ⟨w2.heap.size + 1, 0, none⟩) 1 1) 1 [.slice ua p.length uc]) := ownsRow_below OR3.out b4
                 have OU4 : Hid (Own .u8 5 w4 (w.heap.size + 1) (.slice ua p.length uc) p) := (O2.out.below b3'.out).below b4
                 have X4 : Hid (BoxF w4 w.heap.size (.slice none 0 0) (.int .i64 0)) := (X2.out.below b3'.out).below b4
                 have B4 := hd9 (B3.out.trans (b4.mono B3.out.size))
                 have HH4 : Hid (w4.heap[w2.heap.size + 2]? = some (.cells #[.slice (some ⟨w2.heap.size + 1, 0, none⟩) 1 1, .int .i64 (2 + ((y0 : Int) * 128 + (y1 : Int)))] 36 (0, 0))) := (b4.block _ (by have := HSZ.out; omega)).trans HH3.out
                 have sz4 := b4.size
                 have sz3 := HSZ.out
                 clear op4 b4 XO3 OR3 O2 X2 RS d0 d1 f0 f1 HH3
                 obtain ⟨⟨zo, g0, g1⟩, h0', h1'⟩ := XO4.out
                 obtain ⟨⟨z4, d0, d1⟩, f0, f1⟩ := X4.out
                 obtain ⟨i0, hi0, hz0, hz1, hz2⟩ := info_parts Tryz.infoP
                 rcases OP4.out.1.2 with ⟨hv4, hz4⟩ | ⟨g4, cap4, cur4, hv4, -⟩
                 · subst hv4
                   have hR0 : R' = [] := by have : R'.length = 0 := by simpa using hz4
                                            exact List.eq_nil_of_length_eq_zero this
                   have SF : Hid (∀ x y, ScanPost w f a (.returned (.agg #[.slice (some ⟨w2.heap.size + 1, 0, none⟩) 1 1, .int .i64 ((2 + (y0 * 128 + y1) + pos R' R'.length : Nat) : Int)])) ((((w4.setCell ⟨w2.heap.size + 2, 0, none⟩ x).setCell ⟨w2.heap.size + 2, 1, none⟩ y).setCell ⟨w.heap.size, 0, none⟩ x).setCell ⟨w.heap.size, 1, none⟩ y)) := fun x y => by
                    subst hR0
                    refine scan_fin (us := []) HRR.out OR4.out OU4.out (fun i hi => by simp at hi) (fun i j hi => by simp at hi) (fun i hi => by simp at hi) (fun e => by have := HLT2.out _ e; omega) (fun i hi => by simp at hi) HH4.out (by have := B2.out.size; omega) B4.out
                   have zz : w.heap.size < w4.heap.size := z4
                   have F4 := fun V E => four_cells (V := V) (E := E) (c := w2.heap.size + 2) X4.out.1 (by have := B2.out.size; omega)
                   have F40 : ∀ V E o, (((((w4.setCell ⟨w2.heap.size + 2, 0, none⟩ V).setCell ⟨w2.heap.size + 2, 1, none⟩ E).setCell ⟨w.heap.size, 0, none⟩ V).setCell ⟨w.heap.size, 1, none⟩ E).alloc o).cell? ⟨w.heap.size, 0, none⟩ = some V := fun V E o => cell_alloc (by simpa using zz) (F4 V E).1 o
                   have F41 : ∀ V E o, (((((w4.setCell ⟨w2.heap.size + 2, 0, none⟩ V).setCell ⟨w2.heap.size + 2, 1, none⟩ E).setCell ⟨w.heap.size, 0, none⟩ V).setCell ⟨w.heap.size, 1, none⟩ E).alloc o).cell? ⟨w.heap.size, 1, none⟩ = some E := fun V E o => cell_alloc (by simpa using zz) (F4 V E).2 o
                   clear F4
                   have HPEq : Hid (((2 + (y0 * 128 + y1) + pos R' R'.length : Nat) : Int) = 2 + ((y0 : Int) * 128 + (y1 : Int)) + ((pos R' R'.length : Nat) : Int)) := by show _ = _; omega
                   clear hR0 hz4
                   generalize pos R' R'.length = pe at *
                   go_wp2
                   refine bodyPost_ret (v := .agg #[.slice (some ⟨w2.heap.size + 1, 0, none⟩) 1 1, .int .i64 (2 + ((y0 : Int) * 128 + (y1 : Int)) + (pe : Int))]) (by simp [results, Tryz.results11, go_sem, F40, F41]) rfl ?_
                   rw [← HPEq.out]
                   exact (SF.out _ _).alloc _
                 · subst hv4
                   have hml : (R'.map (·.1)).length = R'.length := by simp
                   have OP5 : Hid (OwnP (w4.alloc (.cells #[.slice (some ⟨g4, 0, none⟩) R'.length cap4, .int .i64 ((pos R' R'.length : Nat) : Int)] 36)) w3.heap.size (.slice (some ⟨g4, 0, none⟩) R'.length cap4) (R'.map (·.1)) us4) := by
                    have := OP4.out.below ((Below.refl _ _).alloc (Nat.le_refl _) (.cells #[.slice (some ⟨g4, 0, none⟩) R'.length cap4, .int .i64 ((pos R' R'.length : Nat) : Int)] 36))
                    rw [hml] at this
                    exact this
                   have OR5 : Hid ((w4.alloc (.cells #[.slice (some ⟨g4, 0, none⟩) R'.length cap4, .int .i64 ((pos R' R'.length : Nat) : Int)] 36)).ownsRow (w.heap.size + 1) 40 1 (.slice (some ⟨w2.heap.size + 1, 0, none⟩) 1 1) 1 [.slice ua p.length uc]) := World.ownsRow.alloc OR4.out _
                   have OU5 : Hid (Own .u8 5 (w4.alloc (.cells #[.slice (some ⟨g4, 0, none⟩) R'.length cap4, .int .i64 ((pos R' R'.length : Nat) : Int)] 36)) (w.heap.size + 1) (.slice ua p.length uc) p) := World.ownsRow.alloc OU4.out _
                   have hul4 : us4.length = R'.length * 1 := by have := OP4.out.len; rw [hml] at this; omega
                   have HC5 : Hid (∀ j u, us4[j]? = some u → (w4.alloc (.cells #[.slice (some ⟨g4, 0, none⟩) R'.length cap4, .int .i64 ((pos R' R'.length : Nat) : Int)] 36)).cell? ((⟨g4, 0, none⟩ : Addr).add j) = some u) := fun j u hu => World.ownsRow.cells OP5.out.1 (g := g4) rfl j u hu
                   have H1C : Hid (∀ u ∈ us4, u.oneCell' = true) := fun u hu => by
                    obtain ⟨j, hj, rfl⟩ := List.mem_iff_getElem.1 hu
                    have h5 := OP4.out.2.1 j (by rw [hml]; omega)
                    have h6 : us4[j] = uV us4 j := by unfold uV; simp [List.getD, hj]
                    rw [h6]
                    obtain ⟨_, _, e⟩ := Own.slice h5
                    rw [e]; rfl
                   have HUL : Hid (us4.length = R'.length * 1) := hul4
                   have HPEq : Hid (((2 + (y0 * 128 + y1) + pos R' R'.length : Nat) : Int) = 2 + ((y0 : Int) * 128 + (y1 : Int)) + ((pos R' R'.length : Nat) : Int)) := by show _ = _; omega
                   clear hul4
                   generalize hpe : pos R' R'.length = pe at *
                   have HPE2 : Hid (pos R' R'.length = pe) := hpe
                   clear hpe
                   go_wp2_with (at_builtin; go_must (refine wpList_append_own _ rfl _ _ 34 rfl (w.heap.size + 1) 40 i0 (.agg #[.slice none 0 0]) 1 24 Tryz.underlying34 hi0 hz0 hz1 hz2 rfl (by decide) _ 1 _ rfl OR5.out ⟨g4, 0, none⟩ R'.length cap4 us4 rfl HUL.out HC5.out H1C.out ?c3 ?c4 ?c5 ?_))
                   case c3 => unfold maxLen; omega
                   case c4 => omega
                   case c5 => have := B4.out.size; (try simp); omega
                   intro v5 w5 ho5 hg5 _
                   have hwA : Below w4.heap.size w4 (w4.alloc (.cells #[.slice (some ⟨g4, 0, none⟩) R'.length cap4, .int .i64 (pe : Int)] 36)) := (Below.refl _ _).alloc (Nat.le_refl _) _
                   have hsA : (w4.alloc (.cells #[.slice (some ⟨g4, 0, none⟩) R'.length cap4, .int .i64 (pe : Int)] 36)).heap.size = w4.heap.size + 1 := by simp
                   have s20 := B2.out.size
                   have s40 := B4.out.size
                   have OU6 : Own .u8 5 w5 (w.heap.size + 1) (.slice ua p.length uc) p := OU5.out.other hg5 (.inr (fun e => by have := HLT2.out (w2.heap.size + 1) (by rw [e]; rfl); omega))
                   have HG4 : ∀ i, i < R'.length → ∀ g, (uV us4 i).ownBlock = some g → w3.heap.size ≤ g := fun i hi g e => ((OP4.out.2.1 i (by rw [hml]; exact hi)).lt g e).1
                   have O46 : ∀ i, i < R'.length → Own .u8 5 w5 (w.heap.size + 1) (uV us4 i) (pR (R'.map (·.1)) i) := fun i hi => Own.mono ((OP5.out.2.1 i (by rw [hml]; exact hi)).other hg5 (.inr (fun e => by have := HG4 i hi (w2.heap.size + 1) (by rw [e]; rfl); omega))) (by omega)
                   have HH6 : w5.heap[w2.heap.size + 2]? = some (.cells #[.slice (some ⟨w2.heap.size + 1, 0, none⟩) 1 1, .int .i64 (2 + ((y0 : Int) * 128 + (y1 : Int)))] 36 (0, 0)) := (hg5.block _ (by rw [hsA]; omega) (by simp [Value.ownBlock])).trans ((hwA.block _ (by omega)).trans HH4.out)
                   have X6 : Hid (BoxF w5 w.heap.size (.slice none 0 0) (.int .i64 0)) := (X4.out.below hwA).other hg5 (by simp [Value.ownBlock]; omega)
                   have XO6 : Hid (BoxF w5 (w2.heap.size + 2) (.slice (some ⟨w2.heap.size + 1, 0, none⟩) 1 1) (.int .i64 (2 + ((y0 : Int) * 128 + (y1 : Int))))) := (XO4.out.below hwA).other hg5 (by simp [Value.ownBlock])
                   have XT6 : Hid (BoxF w5 w4.heap.size (.slice (some ⟨g4, 0, none⟩) R'.length cap4) (.int .i64 (pe : Int))) := (BoxF.new w4 _ _ _).other hg5 (by simp [Value.ownBlock]; omega)
                   have B6 : Below w.heap.size w w5 := (B4.out.trans (hwA.mono s40)).grown hg5 (by rw [hsA]; omega) (fun q e => by simp only [Value.ownBlock, Option.some.injEq] at e; omega)
                   obtain ⟨g5, c5, hv5⟩ : ∃ g5 c5, v5 = .slice (some ⟨g5, 0, none⟩) (1 + R'.length) c5 := by
                    rcases ho5.2 with ⟨-, h⟩ | ⟨g, gc, cur, rfl, -⟩
                    · omega
                    · exact ⟨g, gc, rfl⟩
                   subst hv5
                   have SF : Hid (∀ x y, ScanPost w f a (.returned (.agg #[.slice (some ⟨g5, 0, none⟩) (1 + R'.length) c5, .int .i64 (2 + ((y0 : Int) * 128 + (y1 : Int)) + (pe : Int))])) ((((w5.setCell ⟨w2.heap.size + 2, 0, none⟩ x).setCell ⟨w2.heap.size + 2, 1, none⟩ y).setCell ⟨w.heap.size, 0, none⟩ x).setCell ⟨w.heap.size, 1, none⟩ y)) := fun x y => by
                    have h7 := scan_fin (x := x) (y := y) HRR.out ho5 OU6 O46 (fun i j hi hj hne => OP4.out.2.2.1 i j (by rw [hml]; exact hi) (by rw [hml]; exact hj) hne) (fun i hi => ⟨by
                     cases q : Value.ownBlock (.slice ua p.length uc) with
                     | none => exact .inl q
                     | some g => exact .inr (fun e3 => by have h1 := HLT2.out g q; have h2 := HG4 i hi g (by rw [← e3]; exact q); omega), by
                     cases q : (uV us4 i).ownBlock with
                     | none => exact .inl q
                     | some g => exact .inr (fun e3 => by have h1 := HG4 i hi g q; have h2 := HLT2.out g (by rw [← e3]; exact q); omega)⟩) (fun e => by have := HLT2.out _ e; omega) (fun i hi e => by have := HG4 i hi _ e; omega) HH6 (by omega) B6
                    rw [HPE2.out, HPEq.out] at h7
                    exact h7
                   have F4 := fun V E => four_cells (V := V) (E := E) (c := w2.heap.size + 2) X6.out.1 (by omega)
                   have F40 : ∀ V E, ((((w5.setCell ⟨w2.heap.size + 2, 0, none⟩ V).setCell ⟨w2.heap.size + 2, 1, none⟩ E).setCell ⟨w.heap.size, 0, none⟩ V).setCell ⟨w.heap.size, 1, none⟩ E).cell? ⟨w.heap.size, 0, none⟩ = some V := fun V E => (F4 V E).1
                   have F41 : ∀ V E, ((((w5.setCell ⟨w2.heap.size + 2, 0, none⟩ V).setCell ⟨w2.heap.size + 2, 1, none⟩ E).setCell ⟨w.heap.size, 0, none⟩ V).setCell ⟨w.heap.size, 1, none⟩ E).cell? ⟨w.heap.size, 1, none⟩ = some E := fun V E => (F4 V E).2
                   clear F4 ho5 hg5 hwA hsA OU6 HG4 O46 HH6 B6 d0 d1 f0 f1 g0 g1 h0' h1' zo z4 OP5 OR5 OU5 HC5 H1C HUL
                   obtain ⟨⟨z6, d0, d1⟩, f0, f1⟩ := X6.out
                   obtain ⟨⟨zo, g0, g1⟩, h0', h1'⟩ := XO6.out
                   obtain ⟨⟨zt, t0, t1⟩, -⟩ := XT6.out
                   go_wp2
                   refine bodyPost_ret (v := .agg #[.slice (some ⟨g5, 0, none⟩) (1 + R'.length) c5, .int .i64 (2 + ((y0 : Int) * 128 + (y1 : Int)) + (pe : Int))]) (by simp [results, Tryz.results11, go_sem, F40, F41]) rfl ?_
                   exact SF.out _ _
               · have RS : Hid (Rd .u8 w (.slice (some ⟨blk, o + (2 + (y0 * 128 + y1)), none⟩) (n - (2 + (y0 * 128 + y1))) (cap - (2 + (y0 * 128 + y1)))) (a.drop (2 + (y0 * 128 + y1)))) := rd_cutN HR0.out HL.out blk o rfl (2 + (y0 * 128 + y1)) hs
                 go_wp2_with fail
                 generalize ((w2.alloc (.cells #[.slice ua p.length uc] 40)).alloc (.cells #[.slice ua p.length uc] 40)).alloc (.cells #[.slice (some ⟨w2.heap.size + 1, 0, none⟩) 1 1, .int .i64 (2 + ((y0 : Int) * 128 + (y1 : Int)))] 36) = w3 at *
                 have B3 := hd9 (B2.out.trans (b3'.out.mono (by omega)))
                 refine ((HIH.out (f - 1) (by omega)) w3 (some ⟨blk, o + (2 + (y0 * 128 + y1)), none⟩) (n - (2 + (y0 * 128 + y1))) (cap - (2 + (y0 * 128 + y1))) (a.drop (2 + (y0 * 128 + y1))) (RS.out.below B3.out) (by rw [List.length_drop, HL.out]) (fun x hx => HBY.out x (List.mem_of_mem_drop hx)) (by omega) (by omega)).mono ?_
                 rintro e w4 ⟨v4, us4, rfl, op4, b4⟩
                 have HRR : Hid (scn f a = (p, 2 + (y0 * 128 + y1)) :: scn (f - 1) (a.drop (2 + (y0 * 128 + y1)))) := by
                  have := scn_yes HYE.out (f - 1)
                  rw [show f - 1 + 1 = f by omega, HPE.out, HM2.out] at this
                  exact this
                 have hrl : (scn (f - 1) (a.drop (2 + (y0 * 128 + y1)))).length ≤ 8192 := by
                  have h5 := scn_all (f - 1) (a.drop (2 + (y0 * 128 + y1))) (by rw [List.length_drop, HL.out]; omega)
                  have h6 := scn_short (f - 1) (a.drop (2 + (y0 * 128 + y1))) (by rw [List.length_drop, HL.out]; omega)
                  rw [List.length_drop, HL.out] at h6; omega
                 have hpl : pos (scn (f - 1) (a.drop (2 + (y0 * 128 + y1)))) (scn (f - 1) (a.drop (2 + (y0 * 128 + y1)))).length ≤ 8192 := by
                  have h5 := (scn_all (f - 1) (a.drop (2 + (y0 * 128 + y1))) (by rw [List.length_drop, HL.out]; omega)).2.2 _ (Nat.le_refl _)
                  rw [List.length_drop, HL.out] at h5; omega
                 generalize scn (f - 1) (a.drop (2 + (y0 * 128 + y1))) = R' at *
                 have OP4 : Hid (OwnP w4 w3.heap.size v4 (R'.map (·.1)) us4) := op4
                 have XO4 := hd9 (XO3.out.below b4)
                 have OR4 : Hid (w4.ownsRow (w.heap.size + 1) 40 1 (.slice (some ⟨w2.heap.size + 1, 0, none⟩) 1 1) 1 [.slice ua p.length uc]) := ownsRow_below OR3.out b4
                 have OU4 : Hid (Own .u8 5 w4 (w.heap.size + 1) (.slice ua p.length uc) p) := (O2.out.below b3'.out).below b4
                 have X4 : Hid (BoxF w4 w.heap.size (.slice none 0 0) (.int .i64 0)) := (X2.out.below b3'.out).below b4
                 have B4 := hd9 (B3.out.trans (b4.mono B3.out.size))
                 have HH4 : Hid (w4.heap[w2.heap.size + 2]? = some (.cells #[.slice (some ⟨w2.heap.size + 1, 0, none⟩) 1 1, .int .i64 (2 + ((y0 : Int) * 128 + (y1 : Int)))] 36 (0, 0))) := (b4.block _ (by have := HSZ.out; omega)).trans HH3.out
                 have sz4 := b4.size
                 have sz3 := HSZ.out
                 clear op4 b4 XO3 OR3 O2 X2 RS d0 d1 f0 f1 HH3
                 obtain ⟨⟨zo, g0, g1⟩, h0', h1'⟩ := XO4.out
                 obtain ⟨⟨z4, d0, d1⟩, f0, f1⟩ := X4.out
                 obtain ⟨i0, hi0, hz0, hz1, hz2⟩ := info_parts Tryz.infoP
                 rcases OP4.out.1.2 with ⟨hv4, hz4⟩ | ⟨g4, cap4, cur4, hv4, -⟩
                 · subst hv4
                   have hR0 : R' = [] := by have : R'.length = 0 := by simpa using hz4
                                            exact List.eq_nil_of_length_eq_zero this
                   have SF : Hid (∀ x y, ScanPost w f a (.returned (.agg #[.slice (some ⟨w2.heap.size + 1, 0, none⟩) 1 1, .int .i64 ((2 + (y0 * 128 + y1) + pos R' R'.length : Nat) : Int)])) ((((w4.setCell ⟨w2.heap.size + 2, 0, none⟩ x).setCell ⟨w2.heap.size + 2, 1, none⟩ y).setCell ⟨w.heap.size, 0, none⟩ x).setCell ⟨w.heap.size, 1, none⟩ y)) := fun x y => by
                    subst hR0
                    refine scan_fin (us := []) HRR.out OR4.out OU4.out (fun i hi => by simp at hi) (fun i j hi => by simp at hi) (fun i hi => by simp at hi) (fun e => by have := HLT2.out _ e; omega) (fun i hi => by simp at hi) HH4.out (by have := B2.out.size; omega) B4.out
                   have zz : w.heap.size < w4.heap.size := z4
                   have F4 := fun V E => four_cells (V := V) (E := E) (c := w2.heap.size + 2) X4.out.1 (by have := B2.out.size; omega)
                   have F40 : ∀ V E o, (((((w4.setCell ⟨w2.heap.size + 2, 0, none⟩ V).setCell ⟨w2.heap.size + 2, 1, none⟩ E).setCell ⟨w.heap.size, 0, none⟩ V).setCell ⟨w.heap.size, 1, none⟩ E).alloc o).cell? ⟨w.heap.size, 0, none⟩ = some V := fun V E o => cell_alloc (by simpa using zz) (F4 V E).1 o
                   have F41 : ∀ V E o, (((((w4.setCell ⟨w2.heap.size + 2, 0, none⟩ V).setCell ⟨w2.heap.size + 2, 1, none⟩ E).setCell ⟨w.heap.size, 0, none⟩ V).setCell ⟨w.heap.size, 1, none⟩ E).alloc o).cell? ⟨w.heap.size, 1, none⟩ = some E := fun V E o => cell_alloc (by simpa using zz) (F4 V E).2 o
                   clear F4
                   have HPEq : Hid (((2 + (y0 * 128 + y1) + pos R' R'.length : Nat) : Int) = 2 + ((y0 : Int) * 128 + (y1 : Int)) + ((pos R' R'.length : Nat) : Int)) := by show _ = _; omega
                   clear hR0 hz4
                   generalize pos R' R'.length = pe at *
                   go_wp2
                   refine bodyPost_ret (v := .agg #[.slice (some ⟨w2.heap.size + 1, 0, none⟩) 1 1, .int .i64 (2 + ((y0 : Int) * 128 + (y1 : Int)) + (pe : Int))]) (by simp [results, Tryz.results11, go_sem, F40, F41]) rfl ?_
                   rw [← HPEq.out]
                   exact (SF.out _ _).alloc _
                 · subst hv4
                   have hml : (R'.map (·.1)).length = R'.length := by simp
                   have OP5 : Hid (OwnP (w4.alloc (.cells #[.slice (some ⟨g4, 0, none⟩) R'.length cap4, .int .i64 ((pos R' R'.length : Nat) : Int)] 36)) w3.heap.size (.slice (some ⟨g4, 0, none⟩) R'.length cap4) (R'.map (·.1)) us4) := by
                    have := OP4.out.below ((Below.refl _ _).alloc (Nat.le_refl _) (.cells #[.slice (some ⟨g4, 0, none⟩) R'.length cap4, .int .i64 ((pos R' R'.length : Nat) : Int)] 36))
                    rw [hml] at this
                    exact this
                   have OR5 : Hid ((w4.alloc (.cells #[.slice (some ⟨g4, 0, none⟩) R'.length cap4, .int .i64 ((pos R' R'.length : Nat) : Int)] 36)).ownsRow (w.heap.size + 1) 40 1 (.slice (some ⟨w2.heap.size + 1, 0, none⟩) 1 1) 1 [.slice ua p.length uc]) := World.ownsRow.alloc OR4.out _
                   have OU5 : Hid (Own .u8 5 (w4.alloc (.cells #[.slice (some ⟨g4, 0, none⟩) R'.length cap4, .int .i64 ((pos R' R'.length : Nat) : Int)] 36)) (w.heap.size + 1) (.slice ua p.length uc) p) := World.ownsRow.alloc OU4.out _
                   have hul4 : us4.length = R'.length * 1 := by have := OP4.out.len; rw [hml] at this; omega
                   have HC5 : Hid (∀ j u, us4[j]? = some u → (w4.alloc (.cells #[.slice (some ⟨g4, 0, none⟩) R'.length cap4, .int .i64 ((pos R' R'.length : Nat) : Int)] 36)).cell? ((⟨g4, 0, none⟩ : Addr).add j) = some u) := fun j u hu => World.ownsRow.cells OP5.out.1 (g := g4) rfl j u hu
                   have H1C : Hid (∀ u ∈ us4, u.oneCell' = true) := fun u hu => by
                    obtain ⟨j, hj, rfl⟩ := List.mem_iff_getElem.1 hu
                    have h5 := OP4.out.2.1 j (by rw [hml]; omega)
                    have h6 : us4[j] = uV us4 j := by unfold uV; simp [List.getD, hj]
                    rw [h6]
                    obtain ⟨_, _, e⟩ := Own.slice h5
                    rw [e]; rfl
                   have HUL : Hid (us4.length = R'.length * 1) := hul4
                   have HPEq : Hid (((2 + (y0 * 128 + y1) + pos R' R'.length : Nat) : Int) = 2 + ((y0 : Int) * 128 + (y1 : Int)) + ((pos R' R'.length : Nat) : Int)) := by show _ = _; omega
                   clear hul4
                   generalize hpe : pos R' R'.length = pe at *
                   have HPE2 : Hid (pos R' R'.length = pe) := hpe
                   clear hpe
                   go_wp2_with (at_builtin; go_must (refine wpList_append_own _ rfl _ _ 34 rfl (w.heap.size + 1) 40 i0 (.agg #[.slice none 0 0]) 1 24 Tryz.underlying34 hi0 hz0 hz1 hz2 rfl (by decide) _ 1 _ rfl OR5.out ⟨g4, 0, none⟩ R'.length cap4 us4 rfl HUL.out HC5.out H1C.out ?c3 ?c4 ?c5 ?_))
                   case c3 => unfold maxLen; omega
                   case c4 => omega
                   case c5 => have := B4.out.size; (try simp); omega
                   intro v5 w5 ho5 hg5 _
                   have hwA : Below w4.heap.size w4 (w4.alloc (.cells #[.slice (some ⟨g4, 0, none⟩) R'.length cap4, .int .i64 (pe : Int)] 36)) := (Below.refl _ _).alloc (Nat.le_refl _) _
                   have hsA : (w4.alloc (.cells #[.slice (some ⟨g4, 0, none⟩) R'.length cap4, .int .i64 (pe : Int)] 36)).heap.size = w4.heap.size + 1 := by simp
                   have s20 := B2.out.size
                   have s40 := B4.out.size
                   have OU6 : Own .u8 5 w5 (w.heap.size + 1) (.slice ua p.length uc) p := OU5.out.other hg5 (.inr (fun e => by have := HLT2.out (w2.heap.size + 1) (by rw [e]; rfl); omega))
                   have HG4 : ∀ i, i < R'.length → ∀ g, (uV us4 i).ownBlock = some g → w3.heap.size ≤ g := fun i hi g e => ((OP4.out.2.1 i (by rw [hml]; exact hi)).lt g e).1
                   have O46 : ∀ i, i < R'.length → Own .u8 5 w5 (w.heap.size + 1) (uV us4 i) (pR (R'.map (·.1)) i) := fun i hi => Own.mono ((OP5.out.2.1 i (by rw [hml]; exact hi)).other hg5 (.inr (fun e => by have := HG4 i hi (w2.heap.size + 1) (by rw [e]; rfl); omega))) (by omega)
                   have HH6 : w5.heap[w2.heap.size + 2]? = some (.cells #[.slice (some ⟨w2.heap.size + 1, 0, none⟩) 1 1, .int .i64 (2 + ((y0 : Int) * 128 + (y1 : Int)))] 36 (0, 0)) := (hg5.block _ (by rw [hsA]; omega) (by simp [Value.ownBlock])).trans ((hwA.block _ (by omega)).trans HH4.out)
                   have X6 : Hid (BoxF w5 w.heap.size (.slice none 0 0) (.int .i64 0)) := (X4.out.below hwA).other hg5 (by simp [Value.ownBlock]; omega)
                   have XO6 : Hid (BoxF w5 (w2.heap.size + 2) (.slice (some ⟨w2.heap.size + 1, 0, none⟩) 1 1) (.int .i64 (2 + ((y0 : Int) * 128 + (y1 : Int))))) := (XO4.out.below hwA).other hg5 (by simp [Value.ownBlock])
                   have XT6 : Hid (BoxF w5 w4.heap.size (.slice (some ⟨g4, 0, none⟩) R'.length cap4) (.int .i64 (pe : Int))) := (BoxF.new w4 _ _ _).other hg5 (by simp [Value.ownBlock]; omega)
                   have B6 : Below w.heap.size w w5 := (B4.out.trans (hwA.mono s40)).grown hg5 (by rw [hsA]; omega) (fun q e => by simp only [Value.ownBlock, Option.some.injEq] at e; omega)
                   obtain ⟨g5, c5, hv5⟩ : ∃ g5 c5, v5 = .slice (some ⟨g5, 0, none⟩) (1 + R'.length) c5 := by
                    rcases ho5.2 with ⟨-, h⟩ | ⟨g, gc, cur, rfl, -⟩
                    · omega
                    · exact ⟨g, gc, rfl⟩
                   subst hv5
                   have SF : Hid (∀ x y, ScanPost w f a (.returned (.agg #[.slice (some ⟨g5, 0, none⟩) (1 + R'.length) c5, .int .i64 (2 + ((y0 : Int) * 128 + (y1 : Int)) + (pe : Int))])) ((((w5.setCell ⟨w2.heap.size + 2, 0, none⟩ x).setCell ⟨w2.heap.size + 2, 1, none⟩ y).setCell ⟨w.heap.size, 0, none⟩ x).setCell ⟨w.heap.size, 1, none⟩ y)) := fun x y => by
                    have h7 := scan_fin (x := x) (y := y) HRR.out ho5 OU6 O46 (fun i j hi hj hne => OP4.out.2.2.1 i j (by rw [hml]; exact hi) (by rw [hml]; exact hj) hne) (fun i hi => ⟨by
                     cases q : Value.ownBlock (.slice ua p.length uc) with
                     | none => exact .inl q
                     | some g => exact .inr (fun e3 => by have h1 := HLT2.out g q; have h2 := HG4 i hi g (by rw [← e3]; exact q); omega), by
                     cases q : (uV us4 i).ownBlock with
                     | none => exact .inl q
                     | some g => exact .inr (fun e3 => by have h1 := HG4 i hi g q; have h2 := HLT2.out g (by rw [← e3]; exact q); omega)⟩) (fun e => by have := HLT2.out _ e; omega) (fun i hi e => by have := HG4 i hi _ e; omega) HH6 (by omega) B6
                    rw [HPE2.out, HPEq.out] at h7
                    exact h7
                   have F4 := fun V E => four_cells (V := V) (E := E) (c := w2.heap.size + 2) X6.out.1 (by omega)
                   have F40 : ∀ V E, ((((w5.setCell ⟨w2.heap.size + 2, 0, none⟩ V).setCell ⟨w2.heap.size + 2, 1, none⟩ E).setCell ⟨w.heap.size, 0, none⟩ V).setCell ⟨w.heap.size, 1, none⟩ E).cell? ⟨w.heap.size, 0, none⟩ = some V := fun V E => (F4 V E).1
                   have F41 : ∀ V E, ((((w5.setCell ⟨w2.heap.size + 2, 0, none⟩ V).setCell ⟨w2.heap.size + 2, 1, none⟩ E).setCell ⟨w.heap.size, 0, none⟩ V).setCell ⟨w.heap.size, 1, none⟩ E).cell? ⟨w.heap.size, 1, none⟩ = some E := fun V E => (F4 V E).2
                   clear F4 ho5 hg5 hwA hsA OU6 HG4 O46 HH6 B6 d0 d1 f0 f1 g0 g1 h0' h1' zo z4 OP5 OR5 OU5 HC5 H1C HUL
                   obtain ⟨⟨z6, d0, d1⟩, f0, f1⟩ := X6.out
                   obtain ⟨⟨zo, g0, g1⟩, h0', h1'⟩ := XO6.out
                   obtain ⟨⟨zt, t0, t1⟩, -⟩ := XT6.out
                   go_wp2
                   refine bodyPost_ret (v := .agg #[.slice (some ⟨g5, 0, none⟩) (1 + R'.length) c5, .int .i64 (2 + ((y0 : Int) * 128 + (y1 : Int)) + (pe : Int))]) (by simp [results, Tryz.results11, go_sem, F40, F41]) rfl ?_
                   exact SF.out _ _
         · have hsI : (n : Int) < 2 + ((y0 : Int) * 128 + (y1 : Int)) := by omega
           have hsd : decide ((n : Int) < 2 + ((y0 : Int) * 128 + (y1 : Int))) = true := by simpa using hsI
           have HF : Hid (frmB a = false) := frmB_no (fun hk => by have := hk.2.2.2.1; rw [HM2.out, HL.out] at this; omega)
           go_wp2
           refine bodyPost_ret (v := .agg #[.slice none 0 0, .int .i64 0]) (by simp [results, Tryz.results11, go_sem]) rfl (scan_none (w := w) (f := f) HF.out ?_)
           repeat (first | exact B0.out | exact below_drewQ B0.out _ | refine Below.setCell ?_ (by simp; try omega) _)
theorem specScan_any (f : Nat) : SpecOK f := by
 induction f using Nat.strongRecOn with
 | _ f IH => exact fun w ao n cap a h hl hby hn hnf => specScan_step f IH w ao n cap a h hl hby hn hnf
def scR (a : List Int) : List (List Int) := if a.length ≤ 8192 then (scn a.length a).map (·.1) else []
def scE (a : List Int) : Int := if a.length ≤ 8192 then ((pos (scn a.length a) (scn a.length a).length : Nat) : Int) else 0
theorem scR_len (a : List Int) : (scR a).length ≤ 8192 := by
 unfold scR
 split
 · next h =>
   have := scn_short a.length a (Nat.le_refl _)
   rw [List.length_map]; omega
 · simp
theorem specScan_big (w : World) (ao : Option Addr) (n cap : Nat) (hn : 8192 < n) (hm : n ≤ 1048576) :
    Calls Tryz.prog 11 #[.slice ao n cap] w fun e w' => e = .returned (.agg #[.slice none 0 0, .int .i64 0]) ∧ Below w.heap.size w w' := by
 have B0 : Hid (Below w.heap.size w (w.alloc (.cells #[.slice none 0 0, .int .i64 0] 36))) := (Below.refl _ _).alloc (Nat.le_refl _) _
 have h0 : (8192 : Int) < (n : Int) := by omega
 have h0d : decide ((8192 : Int) < (n : Int)) = true := by simpa using h0
 go_enter Tryz.func11, Tryz.ntmps11
 go_wp2
 refine bodyPost_ret (v := .agg #[.slice none 0 0, .int .i64 0]) (by simp [results, Tryz.results11, go_sem]) rfl ⟨rfl, ?_⟩
 repeat (first | exact B0.out | refine Below.setCell ?_ (by simp; try omega) _)
theorem scan_big {w w' : World} {a : List Int} {e : Ending} (hn : ¬ a.length ≤ 8192) (h : e = .returned (.agg #[.slice none 0 0, .int .i64 0]) ∧ Below w.heap.size w w') :
    ∃ va vc us, e = .returned (.agg #[.slice va (scR a).length vc, .int .i64 (scE a)]) ∧ OwnP w' w.heap.size (.slice va (scR a).length vc) (scR a) us ∧ Below w.heap.size w w' := by
 unfold scR scE
 rw [if_neg hn, if_neg hn]
 exact ⟨none, 0, [], h.1, ⟨World.ownsRow_nil _ _ _ _, fun i hi => by simp at hi, fun i j hi => by simp at hi, fun i hi => by simp at hi⟩, h.2⟩
theorem scan_small {w w' : World} {a : List Int} {e : Ending} (hn : a.length ≤ 8192) (h : ScanPost w a.length a e w') :
    ∃ va vc us, e = .returned (.agg #[.slice va (scR a).length vc, .int .i64 (scE a)]) ∧ OwnP w' w.heap.size (.slice va (scR a).length vc) (scR a) us ∧ Below w.heap.size w w' := by
 unfold scR scE
 rw [if_pos hn, if_pos hn]
 obtain ⟨v, us, h1, h2, h3⟩ := h
 obtain ⟨va, vc, rfl⟩ := h2.slice
 exact ⟨va, vc, us, h1, h2, h3⟩
theorem specScan_all (w : World) (lo : Nat) (v : Value) (a : List Int) (h : Own .u8 5 w lo v a) (hby : Byt a) (hm : a.length ≤ 1048576) :
    Calls Tryz.prog 11 #[v] w fun e w' => ∃ va vc us, e = .returned (.agg #[.slice va (scR a).length vc, .int .i64 (scE a)]) ∧ OwnP w' w.heap.size (.slice va (scR a).length vc) (scR a) us ∧ Below w.heap.size w w' := by
 obtain ⟨ao, cap, hv⟩ := Own.slice h
 subst hv
 by_cases hn : a.length ≤ 8192
 · refine (specScan_any a.length w ao a.length cap a h.rd rfl hby hn (Nat.le_refl _)).mono ?_
   intro e w' hh
   exact scan_small hn hh
 · refine (specScan_big w ao a.length cap (by omega) hm).mono ?_
   intro e w' hh
   exact scan_big hn hh
end Go.Proofs.YtcopcegamadkgaaGreatDoor
namespace Go.Proofs.YtcopcegamadkgaaGreatDoor
open Go.RowKit Go.Shelf
theorem stW_memR {n a y : Nd} {st : List Nd × Bool} (h : y ∈ (stW n st a).1) : y ∈ st.1 ∨ y = n ∨ y = a := by
 unfold stW at h
 dsimp only at h
 generalize (!st.2 && !(Op.bytesLess a.path.toList n.path.toList)) = c1 at h
 generalize (a.path.toList == n.path.toList) = c2 at h
 cases c1 <;> cases c2 <;> simp at h <;> grind
theorem wi_memR {ns : List Nd} {n m : Nd} (h : m ∈ wiN ns n) : m ∈ ns ∨ m = n := by
 have key : ∀ (l : List Nd) (st : List Nd × Bool), (∀ x ∈ st.1, x ∈ ns ∨ x = n) → (∀ x ∈ l, x ∈ ns) → ∀ x ∈ (l.foldl (stW n) st).1, x ∈ ns ∨ x = n := by
  intro l
  induction l with
  | nil => intro st h1 _ x hx; exact h1 x hx
  | cons a l ih =>
   intro st h1 h2 x hx
   refine ih (stW n st a) ?_ (fun y hy => h2 y (List.mem_cons_of_mem _ hy)) x hx
   intro y hy
   rcases stW_memR hy with h3 | h3 | h3
   · exact h1 y h3
   · exact .inr h3
   · exact .inl (h3 ▸ h2 a (List.mem_cons_self ..))
 unfold wiN wiF at h
 split at h
 · exact key ns ([], false) (fun x hx => by simp at hx) (fun x hx => hx) m h
 · rcases List.mem_append.1 h with h | h
   · exact key ns ([], false) (fun x hx => by simp at hx) (fun x hx => hx) m h
   · simp at h; exact .inr h
def Good (ns : List Nd) : Prop := ∀ n ∈ ns, okNd n = true
theorem good_tree {ns : List Nd} (h : okTree ns = true) : Good ns := by
 unfold okTree okSorted at h
 simp only [Bool.and_eq_true, List.all_eq_true, List.mem_range] at h
 intro n hn
 obtain ⟨i, hi, rfl⟩ := List.mem_iff_getElem.1 hn
 have := h.2 i hi
 unfold okAt at this
 simp only [Bool.and_eq_true] at this
 rw [nAt_get hi] at this
 exact this.1
theorem good_at {ns : List Nd} (h : Good ns) (k : Nat) (hk : k < ns.length) : okNd (nAt ns k) = true := by rw [nAt_get hk]; exact h _ (List.getElem_mem hk)
theorem good_sz {ns : List Nd} (h : Good ns) (i : Nat) : (nAt ns i).path.size ≤ 1048576 ∧ (nAt ns i).data.size ≤ 1048576 := by
 by_cases hi : i < ns.length
 · have := okNd_all (good_at h i hi)
   exact ⟨by omega, by omega⟩
 · unfold nAt
   rw [List.getD_eq_getElem?_getD, List.getElem?_eq_none (by omega)]
   exact ⟨by simp [nd0], by simp [nd0]⟩
theorem good_es {z : Int} {es : List Ef} (h : okTxn z es = true) : ∀ e ∈ es, okNd e.nd = true := by
 unfold okTxn okEs at h
 simp only [Bool.and_eq_true, List.all_eq_true, List.mem_range] at h
 intro e he
 obtain ⟨i, hi, rfl⟩ := List.mem_iff_getElem.1 he
 have h1 := h.2 i hi
 unfold okEAt okEf eAt at h1
 simp only [Bool.and_eq_true] at h1
 have h2 := h1.1.1
 simpa [List.getD, hi] using h2
theorem es_sz {z : Int} {es : List Ef} (h : okTxn z es = true) (i : Nat) : (eAt es i).nd.path.size ≤ 1048576 ∧ (eAt es i).nd.data.size ≤ 1048576 := by
 by_cases hi : i < es.length
 · have := okNd_all (good_es h _ (List.getElem_mem hi))
   unfold eAt
   simp only [List.getD, List.getElem?_eq_getElem hi, Option.getD_some]
   exact ⟨by omega, by omega⟩
 · unfold eAt
   rw [List.getD_eq_getElem?_getD, List.getElem?_eq_none (by omega)]
   exact ⟨by decide, by decide⟩
theorem good_apL {es : List Ef} (he : ∀ e ∈ es, okNd e.nd = true) : ∀ {ns : List Nd}, Good ns → Good (apL ns es) := by
 unfold apL
 induction es with
 | nil => intro ns h; exact h
 | cons e es ih =>
  intro ns h
  refine ih (fun x hx => he x (List.mem_cons_of_mem _ hx)) ?_
  intro n hn
  unfold apQ at hn
  split at hn
  · exact h n (List.mem_filter.1 hn).1
  · rcases wi_memR hn with h1 | rfl
    · exact h n h1
    · exact he e (List.mem_cons_self ..)
theorem good_resA {ns : List Nd} {z : Int} {es : List Ef} (h : Good ns) (hx : okTxn z es = true) : Good (resA ns z es) := by
 unfold resA
 split
 · exact good_apL (good_es hx) h
 · intro n hn; simp at hn
theorem decX_ok {ys : List Int} {z : Int} {es : List Ef} (h : decX ys = some (z, es)) : okTxn z es = true := by
 unfold decX at h
 split at h
 · cases h
 · split at h
   · cases h
   · split at h
     · rename_i hh
       simp only [Option.some.injEq, Prod.mk.injEq] at h
       obtain ⟨rfl, rfl⟩ := h
       exact hh.2
     · cases h
theorem okTxn_z {z : Int} {es : List Ef} (h : okTxn z es = true) : 1 ≤ z ∧ z ≤ 2147483647 := by
 unfold okTxn at h
 simp only [Bool.and_eq_true, decide_eq_true_eq] at h
 exact ⟨h.1.1.1, h.1.1.2⟩
def rpl (start : Int) : Nat → List (List Int) → List Nd → Int → Int → List Nd × Int × Nat
 | k, [], ns, zx, _ => (ns, zx, k)
 | k, p :: R, ns, zx, last =>
  match decX p with
  | none => (ns, zx, k)
  | some (z, es) =>
   if (if k = 0 then decide (start + 1 < z) else decide (z ≠ last + 1)) then (ns, zx, k)
   else if zx < z then (if 1000 < (resA ns z es).length then (ns, zx, k) else rpl start (k + 1) R (resA ns z es) z z)
   else rpl start (k + 1) R ns zx z
theorem rpl_none {start : Int} {k : Nat} {p : List Int} {R : List (List Int)} {ns : List Nd} {zx last : Int} (h : decX p = none) : rpl start k (p :: R) ns zx last = (ns, zx, k) := by rw [rpl, h]
theorem rpl_bad {start : Int} {k : Nat} {p : List Int} {R : List (List Int)} {ns : List Nd} {zx last z : Int} {es : List Ef} (h : decX p = some (z, es)) (hb : (if k = 0 then decide (start + 1 < z) else decide (z ≠ last + 1)) = true) : rpl start k (p :: R) ns zx last = (ns, zx, k) := by
 rw [rpl, h]; simp only; rw [if_pos hb]
theorem rpl_big {start : Int} {k : Nat} {p : List Int} {R : List (List Int)} {ns : List Nd} {zx last z : Int} {es : List Ef} (h : decX p = some (z, es)) (hb : (if k = 0 then decide (start + 1 < z) else decide (z ≠ last + 1)) = false) (hz : zx < z) (hl : 1000 < (resA ns z es).length) : rpl start k (p :: R) ns zx last = (ns, zx, k) := by
 rw [rpl, h]; simp only; rw [if_neg (by rw [hb]; simp), if_pos hz, if_pos hl]
theorem rpl_app {start : Int} {k : Nat} {p : List Int} {R : List (List Int)} {ns : List Nd} {zx last z : Int} {es : List Ef} (h : decX p = some (z, es)) (hb : (if k = 0 then decide (start + 1 < z) else decide (z ≠ last + 1)) = false) (hz : zx < z) (hl : ¬ 1000 < (resA ns z es).length) : rpl start k (p :: R) ns zx last = rpl start (k + 1) R (resA ns z es) z z := by
 rw [rpl, h]; simp only; rw [if_neg (by rw [hb]; simp), if_pos hz, if_neg hl]
theorem rpl_pass {start : Int} {k : Nat} {p : List Int} {R : List (List Int)} {ns : List Nd} {zx last z : Int} {es : List Ef} (h : decX p = some (z, es)) (hb : (if k = 0 then decide (start + 1 < z) else decide (z ≠ last + 1)) = false) (hz : ¬ zx < z) : rpl start k (p :: R) ns zx last = rpl start (k + 1) R ns zx z := by
 rw [rpl, h]; simp only; rw [if_neg (by rw [hb]; simp), if_neg hz]
theorem rpl_le (start : Int) : ∀ (R : List (List Int)) (k : Nat) (ns : List Nd) (zx last : Int), (rpl start k R ns zx last).2.2 ≤ k + R.length
 | [], k, ns, zx, last => by simp [rpl]
 | p :: R, k, ns, zx, last => by
  rw [rpl]
  split
  · simp
  · rename_i z es _
    generalize (if k = 0 then decide (start + 1 < z) else decide (z ≠ last + 1)) = c
    split
    · simp
    · split
      · split
        · simp
        · have := rpl_le start R (k + 1) (resA ns z es) z z; simp; omega
      · have := rpl_le start R (k + 1) ns zx z; simp; omega
theorem frame_size {a : List Int} (h : frmB a = true) : (fr (frm_p a)).length = 2 + frm_m a := by
 obtain ⟨h1, h2, h3, h4, h5, h6⟩ := (frmB_iff a).1 h
 have hp : 0 < (frm_p a).length := List.length_pos_iff.2 h5
 rw [fr_yes hp h6]
 have e : pk (frm_p a) = (a.drop 2).take (frm_m a) := by
  unfold frm_p unp at h5 ⊢
  split at h5
  · rename_i hh
    rw [if_pos hh]; exact hh
  · exact absurd rfl h5
 rw [e]
 simp only [List.length_append, List.length_cons, List.length_nil, List.length_take, List.length_drop]
 omega
def B4F (W : World) (b : Nat) (x0 x1 x2 x3 : Value) : Prop := b < W.heap.size ∧ (W.cell? ⟨b, 0, none⟩ = some x0 ∧ W.cell? ⟨b, 1, none⟩ = some x1 ∧ W.cell? ⟨b, 2, none⟩ = some x2 ∧ W.cell? ⟨b, 3, none⟩ = some x3) ∧ (W.frozen? ⟨b, 0, none⟩ = false ∧ W.frozen? ⟨b, 1, none⟩ = false ∧ W.frozen? ⟨b, 2, none⟩ = false ∧ W.frozen? ⟨b, 3, none⟩ = false)
theorem B4F.belowB {W W' : World} {b B : Nat} {x0 x1 x2 x3 : Value} (h : B4F W b x0 x1 x2 x3) (hb : Below B W W') (hB : b < B) : B4F W' b x0 x1 x2 x3 :=
 ⟨Nat.lt_of_lt_of_le h.1 hb.size, ⟨(hb.cell (p := ⟨b, 0, none⟩) hB).trans h.2.1.1, (hb.cell (p := ⟨b, 1, none⟩) hB).trans h.2.1.2.1, (hb.cell (p := ⟨b, 2, none⟩) hB).trans h.2.1.2.2.1, (hb.cell (p := ⟨b, 3, none⟩) hB).trans h.2.1.2.2.2⟩,
  (hb.frozen (p := ⟨b, 0, none⟩) hB).trans h.2.2.1, (hb.frozen (p := ⟨b, 1, none⟩) hB).trans h.2.2.2.1, (hb.frozen (p := ⟨b, 2, none⟩) hB).trans h.2.2.2.2.1, (hb.frozen (p := ⟨b, 3, none⟩) hB).trans h.2.2.2.2.2⟩
theorem B4F.below {W W' : World} {b : Nat} {x0 x1 x2 x3 : Value} (h : B4F W b x0 x1 x2 x3) (hb : Below W.heap.size W W') : B4F W' b x0 x1 x2 x3 := h.belowB hb h.1
theorem B4F.new (W : World) (x0 x1 x2 x3 : Value) (t : TypeId) : B4F (W.alloc (.cells #[x0, x1, x2, x3] t)) W.heap.size x0 x1 x2 x3 := ⟨by simp, ⟨by simp, by simp, by simp, by simp⟩, by simp, by simp, by simp, by simp⟩
def RpS (w : World) (vt : Value) (W : World) : Prop := Below w.heap.size w W ∧ w.heap.size + 2 ≤ W.heap.size ∧ W.cell? ⟨w.heap.size, 0, none⟩ = some vt ∧ B4F W (w.heap.size + 1) (.slice none 0 0) (.int .i64 0) (.int .i64 0) (.int .i64 0)
theorem RpS.belowB {w : World} {vt : Value} {W W' : World} {B : Nat} (h : RpS w vt W) (hb : Below B W W') (hB : w.heap.size + 2 ≤ B) : RpS w vt W' :=
 ⟨h.1.trans (hb.mono (by omega)), Nat.le_trans h.2.1 hb.size, (hb.cell (p := ⟨w.heap.size, 0, none⟩) (by show w.heap.size < _; omega)).trans h.2.2.1, h.2.2.2.belowB hb (by omega)⟩
theorem RpS.below {w : World} {vt : Value} {W W' : World} (h : RpS w vt W) (hb : Below W.heap.size W W') : RpS w vt W' := h.belowB hb h.2.1
theorem RpS.new (w : World) (vt : Value) (t1 t2 : TypeId) : RpS w vt ((w.alloc (.cells #[vt] t1)).alloc (.cells #[.slice none 0 0, .int .i64 0, .int .i64 0, .int .i64 0] t2)) := by
 refine ⟨((Below.refl _ _).alloc (Nat.le_refl _) _).alloc (by simp) _, by simp, ?_, ?_⟩
 · exact (((Below.refl _ _).alloc (Nat.le_refl _) _).cell (p := ⟨w.heap.size, 0, none⟩) (show w.heap.size < _ by simp)).trans (by simp)
 · have := B4F.new (w.alloc (.cells #[vt] t1)) (.slice none 0 0) (.int .i64 0) (.int .i64 0) (.int .i64 0) t2
   simpa using this
theorem B4F.set0 {W : World} {b : Nat} {x0 x1 x2 x3 : Value} (h : B4F W b x0 x1 x2 x3) (u : Value) : B4F (W.setCell ⟨b, 0, none⟩ u) b u x1 x2 x3 :=
 ⟨by simpa using h.1, ⟨World.cell?_setCell_same _ _ _ h.2.1.1, (World.cell?_setCell_other _ _ _ _ (by simp)).trans h.2.1.2.1, (World.cell?_setCell_other _ _ _ _ (by simp)).trans h.2.1.2.2.1, (World.cell?_setCell_other _ _ _ _ (by simp)).trans h.2.1.2.2.2⟩, by simpa using h.2.2.1, by simpa using h.2.2.2.1, by simpa using h.2.2.2.2.1, by simpa using h.2.2.2.2.2⟩
theorem B4F.set1 {W : World} {b : Nat} {x0 x1 x2 x3 : Value} (h : B4F W b x0 x1 x2 x3) (u : Value) : B4F (W.setCell ⟨b, 1, none⟩ u) b x0 u x2 x3 :=
 ⟨by simpa using h.1, ⟨(World.cell?_setCell_other _ _ _ _ (by simp)).trans h.2.1.1, World.cell?_setCell_same _ _ _ h.2.1.2.1, (World.cell?_setCell_other _ _ _ _ (by simp)).trans h.2.1.2.2.1, (World.cell?_setCell_other _ _ _ _ (by simp)).trans h.2.1.2.2.2⟩, by simpa using h.2.2.1, by simpa using h.2.2.2.1, by simpa using h.2.2.2.2.1, by simpa using h.2.2.2.2.2⟩
theorem B4F.set2 {W : World} {b : Nat} {x0 x1 x2 x3 : Value} (h : B4F W b x0 x1 x2 x3) (u : Value) : B4F (W.setCell ⟨b, 2, none⟩ u) b x0 x1 u x3 :=
 ⟨by simpa using h.1, ⟨(World.cell?_setCell_other _ _ _ _ (by simp)).trans h.2.1.1, (World.cell?_setCell_other _ _ _ _ (by simp)).trans h.2.1.2.1, World.cell?_setCell_same _ _ _ h.2.1.2.2.1, (World.cell?_setCell_other _ _ _ _ (by simp)).trans h.2.1.2.2.2⟩, by simpa using h.2.2.1, by simpa using h.2.2.2.1, by simpa using h.2.2.2.2.1, by simpa using h.2.2.2.2.2⟩
theorem B4F.set3 {W : World} {b : Nat} {x0 x1 x2 x3 : Value} (h : B4F W b x0 x1 x2 x3) (u : Value) : B4F (W.setCell ⟨b, 3, none⟩ u) b x0 x1 x2 u :=
 ⟨by simpa using h.1, ⟨(World.cell?_setCell_other _ _ _ _ (by simp)).trans h.2.1.1, (World.cell?_setCell_other _ _ _ _ (by simp)).trans h.2.1.2.1, (World.cell?_setCell_other _ _ _ _ (by simp)).trans h.2.1.2.2.1, World.cell?_setCell_same _ _ _ h.2.1.2.2.2⟩, by simpa using h.2.2.1, by simpa using h.2.2.2.1, by simpa using h.2.2.2.2.1, by simpa using h.2.2.2.2.2⟩
def RpPost (w : World) (R : List (List Int × Nat)) (res : List Nd × Int × Nat) (e : Ending) (w' : World) : Prop :=
 ∃ v, e = .returned (.agg #[v, .int .i64 res.2.1, .int .i64 (res.2.2 : Int), .int .i64 ((pos R res.2.2 : Nat) : Int)]) ∧ OwnN 85 w' w.heap.size v res.1 ∧ Below w.heap.size w w'
theorem field_scan (x y : Value) (W : World) : (Instr.field 36 (.agg #[x, y]) 0).run Tryz.prog W = .ok x W := by kernel_rfl
structure Rp (w : World) (vt : Value) (Bo : Nat) (R : List (List Int × Nat)) (start : Int) (res : List Nd × Int × Nat) (k : Nat) (v : Value) (ns : List Nd) (zx last : Int) (W : World) : Prop where
 head : RpS w vt W
 out : B4F W Bo v (.int .i64 zx) (.int .i64 (k : Int)) (.int .i64 ((pos R k : Nat) : Int))
 own : OwnN 85 W (w.heap.size + 2) v ns
 ne : v.ownBlock ≠ some Bo
 good : Good ns
 len : ns.length ≤ 1000
 zx0 : -1 ≤ zx ∧ zx ≤ 2147483647
 last0 : 0 < k → 1 ≤ last ∧ last ≤ 2147483647
 goes : rpl start k ((R.drop k).map (·.1)) ns zx last = res
theorem Rp.below {w : World} {vt : Value} {Bo : Nat} {R : List (List Int × Nat)} {start : Int} {res : List Nd × Int × Nat} {k : Nat} {v : Value} {ns : List Nd} {zx last : Int} {W W' : World} (h : Rp w vt Bo R start res k v ns zx last W) (hb : Below W.heap.size W W') : Rp w vt Bo R start res k v ns zx last W' :=
 ⟨h.head.below hb, h.out.below hb, h.own.below hb, h.ne, h.good, h.len, h.zx0, h.last0, h.goes⟩
theorem RpS.setO {w : World} {vt : Value} {W : World} {b j : Nat} (h : RpS w vt W) (hb : w.heap.size + 2 ≤ b) (u : Value) : RpS w vt (W.setCell ⟨b, j, none⟩ u) := h.belowB (B := b) (by refine Below.setCell (Below.refl _ _) ?_ _; exact Nat.le_refl _) hb
theorem Rp.next {w : World} {vt : Value} {Bo : Nat} {R : List (List Int × Nat)} {start : Int} {res : List Nd × Int × Nat} {k : Nat} {v : Value} {ns : List Nd} {zx z : Int} {X w' : World} (hb : w.heap.size + 2 ≤ Bo) (h1 : RpS w vt X) (h2 : B4F X Bo v (.int .i64 zx) (.int .i64 ((k : Int) + 1)) (.int .i64 ((pos R k : Nat) : Int))) (h3 : OwnN 85 X (w.heap.size + 2) v ns) (h4 : v.ownBlock ≠ some Bo) (h5 : Good ns) (h5l : ns.length ≤ 1000) (h6 : -1 ≤ zx ∧ zx ≤ 2147483647) (h7 : 1 ≤ z ∧ z ≤ 2147483647) (h8 : rpl start (k + 1) ((R.drop (k + 1)).map (·.1)) ns zx z = res) (hw : Below X.heap.size X w') (u : Value) (hu : u = .int .i64 ((pos R (k + 1) : Nat) : Int)) :
    Rp w vt Bo R start res (k + 1) v ns zx z (w'.setCell ⟨Bo, 3, none⟩ u) :=
 ⟨(h1.below hw).setO hb _, by subst hu; have := (h2.below hw).set3 (.int .i64 ((pos R (k + 1) : Nat) : Int)); rw [show ((k + 1 : Nat) : Int) = (k : Int) + 1 by omega]; exact this, (h3.below hw).setO h4 _, h4, h5, h5l, h6, fun _ => h7, h8⟩
theorem pR_map (R : List (List Int × Nat)) (k : Nat) (hk : k < R.length) : pR (R.map (·.1)) k = (R.getD k ([], 0)).1 := by
 unfold pR
 simp [List.getD, hk]
theorem rec_byt {n : Nat} {a : List Int} (hl : a.length = n) (k : Nat) (hk : k < (scn n a).length) : Byt (pR ((scn n a).map (·.1)) k) ∧ (pR ((scn n a).map (·.1)) k).length ≤ 2000 ∧ (fr (pR ((scn n a).map (·.1)) k)).length = ((scn n a).getD k ([], 0)).2 := by
 obtain ⟨h1, h2⟩ := (scn_all n a (by rw [hl]; exact Nat.le_refl _)).1 k hk
 rw [pR_map _ _ hk, h2]
 exact ⟨(by unfold frm_p unp; split; exact byt_up _; exact fun x hx => by simp at hx), ((frmB_iff _).1 h1).2.2.2.2.2, frame_size h1⟩
theorem rec_drop (R : List (List Int × Nat)) (k : Nat) (hk : k < R.length) : (R.drop k).map (·.1) = pR (R.map (·.1)) k :: (R.drop (k + 1)).map (·.1) := by
 rw [List.drop_eq_getElem_cons hk, List.map_cons, pR_map _ _ hk]
 simp [List.getD, hk]
theorem specReplay_yes (w : World) (ta : Option Addr) (tc : Nat) (ns : List Nd) (start : Int) (ao : Option Addr) (n cap : Nat) (a : List Int) (ht : RdN w (.slice ta ns.length tc) ns) (hok : okTree ns = true) (hs : okS start = true) (hr : Rd .u8 w (.slice ao n cap) a) (hl : a.length = n) (hby : Byt a) (hn : n ≤ 8192) :
    Calls Tryz.prog 6 #[.agg #[.slice ta ns.length tc], .int .i64 start, .slice ao n cap] w (RpPost w (scn n a) (rpl start 0 ((scn n a).map (·.1)) ns start 0)) := by
 have HN : Hid (RdN w (.slice ta ns.length tc) ns) := ht
 have HOK : Hid (okTree ns = true) := hok
 have HS : Hid (okS start = true) := hs
 have HR : Hid (Rd .u8 w (.slice ao n cap) a) := hr
 have HL : Hid (a.length = n) := hl
 have HBY : Hid (Byt a) := hby
 have hnl : ns.length ≤ 1000 := by unfold okTree at hok; simp only [Bool.and_eq_true, decide_eq_true_eq] at hok; exact hok.1
 have hst : 0 ≤ start ∧ start ≤ 2147483647 := by unfold okS at hs; simpa using hs
 have HG : Hid (Good ns) := good_tree hok
 obtain ⟨res, hres⟩ : ∃ res, res = rpl start 0 ((scn n a).map (·.1)) ns start 0 := ⟨_, rfl⟩
 have HRES : Hid (rpl start 0 ((scn n a).map (·.1)) ns start 0 = res) := hres.symm
 rw [← hres]
 have hn2 : ¬ (8192 : Int) < (n : Int) := by omega
 have hn2d : decide ((8192 : Int) < (n : Int)) = false := by simpa using hn2
 clear ht hok hs hr hl hby hres
 go_enter Tryz.func6, Tryz.ntmps6
 go_wp2_with fail
 have F0 : Hid (RpS w (.slice ta ns.length tc) ((w.alloc (.cells #[.slice ta ns.length tc] 25)).alloc (.cells #[.slice none 0 0, .int .i64 0, .int .i64 0, .int .i64 0] 29))) := RpS.new _ _ _ _
 generalize (w.alloc (.cells #[.slice ta ns.length tc] 25)).alloc (.cells #[.slice none 0 0, .int .i64 0, .int .i64 0, .int .i64 0] 29) = w0 at *
 refine (specTree_any _ _ ns (HN.out.below F0.out.1) (by omega) (good_sz HG.out)).mono ?_
 rintro e w1 ⟨rfl, b1⟩
 rw [HOK.out]
 have F1 := hd9 (F0.out.below b1)
 clear b1 F0
 go_wp2_with fail
 refine (stat_any _ start).mono ?_
 rintro e wq ⟨rfl, hwq⟩
 rw [HS.out, hwq]
 clear hwq
 go_wp2_with fail
 refine (specScan_any n _ ao n cap a (HR.out.below F1.out.1) HL.out HBY.out hn (Nat.le_refl _)).mono ?_
 rintro e w2 ⟨v2, us, rfl, o2, b2⟩
 have F2 := hd9 (F1.out.below b2)
 obtain ⟨P, hP⟩ : ∃ P, P = (scn n a).map (·.1) := ⟨_, rfl⟩
 rw [← hP] at o2
 have HPE : Hid (P = (scn n a).map (·.1)) := hP
 clear hP
 obtain ⟨pa, pc, rfl⟩ := OwnP.slice o2
 have P2 : Hid (OwnP w2 w1.heap.size (.slice pa P.length pc) P us) := o2
 have s1 := F1.out.2.1
 have s2 := b2.size
 clear o2 b2 F1
 have hf9 := field_scan (.slice pa P.length pc) (.int .i64 ((pos (scn n a) (scn n a).length : Nat) : Int)) w2
 obtain ⟨-, -, x0, -⟩ := F2.out
 go_wp2_with fail
 clear hf9 x0
 refine (without_any _ _ ns ⟨#[]⟩ (HN.out.below F2.out.1) (by omega)).mono ?_
 rintro e w3 ⟨v3, rfl, o3, b3⟩
 rw [wo_empty (fun k hk => good_at HG.out k hk) ⟨#[]⟩ (by rw [ByteArray.toList_eq])] at o3
 obtain ⟨na, nc, rfl⟩ := OwnN.slice9 o3
 have F3 := hd9 (F2.out.below b3)
 have O3 : Hid (OwnN 85 w3 w2.heap.size (.slice na ns.length nc) ns) := o3
 have P3 := hd9 (P2.out.below b3)
 have S23 : Hid (w2.heap.size ≤ w3.heap.size) := b3.size
 clear o3 b3 F2 P2
 go_wp2_with fail
 have BA : Hid (Below w3.heap.size w3 (w3.alloc (.cells #[.slice na ns.length nc, .int .i64 start, .int .i64 0, .int .i64 0] 29))) := (Below.refl _ _).alloc (Nat.le_refl _) _
 have XO : Hid (B4F (w3.alloc (.cells #[.slice na ns.length nc, .int .i64 start, .int .i64 0, .int .i64 0] 29)) w3.heap.size (.slice na ns.length nc) (.int .i64 start) (.int .i64 0) (.int .i64 0)) := B4F.new _ _ _ _ _ _
 generalize w3.alloc (.cells #[.slice na ns.length nc, .int .i64 start, .int .i64 0, .int .i64 0] 29) = w4 at *
 have s3 : w.heap.size + 2 ≤ w3.heap.size := F3.out.2.1
 have s23 : w2.heap.size ≤ w3.heap.size := S23.out
 have RP4 : Hid (Rp w (.slice ta ns.length tc) w3.heap.size (scn n a) start res 0 (.slice na ns.length nc) ns start 0 w4) :=
  ⟨F3.out.below BA.out, by have := XO.out; rw [pos_zero]; exact this, (O3.out.below BA.out).mono (by omega), fun e => by have := (World.ownsRow.lt O3.out _ e).2; omega, HG.out, hnl, ⟨by omega, by omega⟩, fun h => by omega, by rw [List.drop_zero]; exact HRES.out⟩
 have hP := HPE.out
 have hPl : P.length = (scn n a).length := by rw [hP, List.length_map]
 have hP8 : P.length ≤ 8192 := by have := scn_len n a; omega
 have HREC : Hid (∀ k, k < P.length → ∃ g ua uc, pa = some ⟨g, 0, none⟩ ∧ g < w3.heap.size ∧ w3.cell? ⟨g, k, none⟩ = some (.slice ua (pR P k).length uc) ∧ Rd .u8 w3 (.slice ua (pR P k).length uc) (pR P k)) := by
  intro k hk
  have h1 := P3.out.2.1 k hk
  obtain ⟨ua, uc, hu⟩ := Own.slice h1
  rcases P3.out.1.2 with ⟨h2, h3⟩ | ⟨g, gc, cur, h2, -⟩
  · omega
  · simp only [Value.slice.injEq] at h2
    obtain ⟨rfl, -, rfl⟩ := h2
    refine ⟨g, ua, uc, rfl, (World.ownsRow.lt P3.out.1 g rfl).2, ?_, by rw [← hu]; exact h1.rd⟩
    have h4 := World.ownsRow.cellAt P3.out.1 k (by omega)
    rw [h4, uV_get (by rw [OwnP.len P3.out]; exact hk), hu]
 have HBYT : Hid (∀ k, k < P.length → Byt (pR P k) ∧ (pR P k).length ≤ 2000 ∧ (fr (pR P k)).length = ((scn n a).getD k ([], 0)).2) := fun k hk => by rw [hP]; exact rec_byt HL.out k (by omega)
 have HPOS : Hid (∀ k, k ≤ P.length → pos (scn n a) k ≤ 8192) := fun k hk => by have := (scn_all n a (by rw [HL.out]; exact Nat.le_refl _)).2.2 k (by omega); have := HL.out; omega
 have HDR : Hid (∀ k, k < P.length → ((scn n a).drop k).map (·.1) = pR P k :: ((scn n a).drop (k + 1)).map (·.1)) := fun k hk => by rw [hP]; exact rec_drop _ k (by omega)
 have HPS : Hid (∀ k, k < P.length → pos (scn n a) (k + 1) = pos (scn n a) k + ((scn n a).getD k ([], 0)).2) := fun k hk => pos_succ _ _ (by omega)
 have HEND : Hid (∀ k, P.length ≤ k → ((scn n a).drop k).map (·.1) = []) := fun k hk => by rw [List.drop_of_length_le (by omega)]; rfl
 clear HPE hP
 generalize scn n a = R at *
 have B4 : Hid (Below w3.heap.size w3 w4) := BA.out
 clear XO BA P3 O3 hPl HRES
 go_loopw [9, 10] (fun bef i wr => ∃ (k : Nat) (v : Value) (ns' : List Nd) (zx last bv : Int), k ≤ P.length ∧ i = .int .i64 k ∧ bef = .int .i64 bv ∧ Hid (bv = if k = 0 then -1 else last) ∧ Hid (Rp w (.slice ta ns.length tc) w3.heap.size R start res k v ns' zx last wr) ∧ Hid (Below w3.heap.size w3 wr)) (fun _ i _ => P.length - (intOf i).toNat)
 case atStart => exact ⟨0, _, _, _, 0, -1, Nat.zero_le _, rfl, rfl, (show _ = _ from rfl), RP4, B4⟩
 case round =>
  clear RP4 B4
  obtain ⟨k, v, ns', zx, last, bv, hk, rfl, rfl, HBV, HRP, HB⟩ := hrel
  obtain ⟨va, vc, rfl⟩ := OwnN.slice9 HRP.out.own
  by_cases hlt : k < P.length
  · obtain ⟨g, ua, uc, rfl, hg3, hcell, hrd⟩ := HREC.out k hlt
    have hltI : (k : Int) < (P.length : Int) := by omega
    have hce := (HB.out.cell (p := ⟨g, k, none⟩) hg3).trans hcell
    have HRD : Hid (Rd .u8 wr (.slice ua (pR P k).length uc) (pR P k)) := hrd.below HB.out
    obtain ⟨hby, hp2, hfr⟩ := HBYT.out k hlt
    have HBY9 : Hid (Byt (pR P k)) := hby
    have HFR : Hid ((fr (pR P k)).length = (R.getD k ([], 0)).2) := hfr
    have HC3 : Hid (w3.cell? ⟨g, k, none⟩ = some (.slice ua (pR P k).length uc)) := hcell
    have HR3 : Hid (Rd .u8 w3 (.slice ua (pR P k).length uc) (pR P k)) := hrd
    clear hcell hrd hby hfr
    go_wp2_with fail
    refine (specDecX_any _ _ (pR P k) HRD.out HBY9.out (by omega)).mono ?_
    rintro e w5 ⟨b5, hd⟩
    have RP5 := hd9 (HRP.out.below b5)
    have B5 := hd9 (HB.out.trans (b5.mono HB.out.size))
    have HRD5 := hd9 (HRD.out.below b5)
    clear b5 HRP HB hce HRD
    have sr := RP5.out.head.2.1
    have hzx := RP5.out.zx0
    have hps := HPOS.out k hk
    rename_i K10 hK10 K9 hK9
    have HK10 : Hid _ := hK10
    clear hK10
    rcases hd with ⟨hd, rfl⟩ | ⟨z, es, vx, hd, rfl, ox⟩
    · have HRES9 : Hid (res = (ns', zx, k)) := by
       have := RP5.out.goes
       rw [HDR.out k hlt, rpl_none hd] at this
       exact this.symm
      clear hd
      have HX6 : Hid (Rp w (.slice ta ns.length tc) w3.heap.size R start res k (.slice va ns'.length vc) ns' zx last (w5.alloc (.cells #[.bool false, .int .i64 0, .slice none 0 0] 80))) := RP5.out.below ((Below.refl _ _).alloc (Nat.le_refl _) _)
      have t0 : (w5.alloc (.cells #[.bool false, .int .i64 0, .slice none 0 0] 80)).cell? ⟨w5.heap.size, 0, none⟩ = some (.bool false) := by simp
      unfold zeroX
      go_wp2_with fail
      generalize w5.alloc (.cells #[.bool false, .int .i64 0, .slice none 0 0] 80) = w6 at *
      refine HK10.out _ _ ?_
      clear HK10
      clear RP5
      have hrs := HX6.out.head.2.2.2
      obtain ⟨zr, ⟨d0, d1, d2, d3⟩, f0, f1, f2, f3⟩ := hrs
      obtain ⟨zo, ⟨e0, e1, e2, e3⟩, -⟩ := HX6.out.out
      go_wp2
      refine bodyPost_ret (v := .agg #[.slice va ns'.length vc, .int .i64 zx, .int .i64 (k : Int), .int .i64 ((pos R k : Nat) : Int)]) (by simp [results, Tryz.results6, go_sem, d0, d1, d2, d3]) rfl ?_
      rw [HRES9.out]
      exact ⟨_, rfl, OwnN.mono (by repeat (first | exact HX6.out.own | refine OwnN.setBelow ?_ (show w.heap.size + 1 < w.heap.size + 2 by omega) _)) (by omega), by repeat (first | exact HX6.out.head.1 | refine Below.setCell ?_ (by simp) _)⟩
    · have hzz := okTxn_z (decX_ok hd)
      have HD : Hid (decX (pR P k) = some (z, es)) := hd
      obtain ⟨xa, xc, rfl⟩ := OwnE.slice9 ox
      have OX : Hid (OwnE 139 w5 wr.heap.size (.slice xa es.length xc) es) := ox
      clear hd ox
      have HX6 : Hid (Rp w (.slice ta ns.length tc) w3.heap.size R start res k (.slice va ns'.length vc) ns' zx last (w5.alloc (.cells #[.bool true, .int .i64 z, .slice xa es.length xc] 80))) := RP5.out.below ((Below.refl _ _).alloc (Nat.le_refl _) _)
      have B6 : Hid (Below w3.heap.size w3 (w5.alloc (.cells #[.bool true, .int .i64 z, .slice xa es.length xc] 80))) := B5.out.alloc B5.out.size _
      have HRD6 : Hid (Rd .u8 (w5.alloc (.cells #[.bool true, .int .i64 z, .slice xa es.length xc] 80)) (.slice ua (pR P k).length uc) (pR P k)) := HRD5.out.below ((Below.refl _ _).alloc (Nat.le_refl _) _)
      have OX6 : Hid (RdE (w5.alloc (.cells #[.bool true, .int .i64 z, .slice xa es.length xc] 80)) (.slice xa es.length xc) es) := (OwnE.rd OX.out).below ((Below.refl _ _).alloc (Nat.le_refl _) _)
      have t0 : (w5.alloc (.cells #[.bool true, .int .i64 z, .slice xa es.length xc] 80)).cell? ⟨w5.heap.size, 0, none⟩ = some (.bool true) := by simp
      have t1 : (w5.alloc (.cells #[.bool true, .int .i64 z, .slice xa es.length xc] 80)).cell? ⟨w5.heap.size, 1, none⟩ = some (.int .i64 z) := by simp
      have t2 : (w5.alloc (.cells #[.bool true, .int .i64 z, .slice xa es.length xc] 80)).cell? ⟨w5.heap.size, 2, none⟩ = some (.slice xa es.length xc) := by simp
      have HS6 : Hid ((w5.alloc (.cells #[.bool true, .int .i64 z, .slice xa es.length xc] 80)).heap.size = w5.heap.size + 1) := by show _ = _; simp
      have S5 : Hid (w3.heap.size < w5.heap.size) := RP5.out.out.1
      go_wp2_with fail
      generalize w5.alloc (.cells #[.bool true, .int .i64 z, .slice xa es.length xc] 80) = w6 at *
      generalize hBx : w5.heap.size = Bx at *
      clear hBx
      refine HK10.out _ _ ?_
      clear HK10 RP5 B5 HRD5 OX
      cases hbad : (if k = 0 then decide (start + 1 < z) else decide (z ≠ last + 1)) with
      | true =>
       have HRES9 : Hid (res = (ns', zx, k)) := by
        have := HX6.out.goes
        rw [HDR.out k hlt, rpl_bad HD.out hbad] at this
        exact this.symm
       by_cases hk0 : k = 0
       · have hbv : bv = -1 := by have := HBV.out; rw [if_pos hk0] at this; exact this
         rw [if_pos hk0] at hbad
         have hz9 : start + 1 < z := by simpa using hbad
         clear hbad hk0 HBV
         subst hbv
         have hrs := HX6.out.head.2.2.2
         obtain ⟨zr, ⟨d0, d1, d2, d3⟩, f0, f1, f2, f3⟩ := hrs
         obtain ⟨zo, ⟨e0, e1, e2, e3⟩, -⟩ := HX6.out.out
         go_wp2
         refine bodyPost_ret (v := .agg #[.slice va ns'.length vc, .int .i64 zx, .int .i64 (k : Int), .int .i64 ((pos R k : Nat) : Int)]) (by simp [results, Tryz.results6, go_sem, d0, d1, d2, d3]) rfl ?_
         rw [HRES9.out]
         exact ⟨_, rfl, OwnN.mono (by repeat (first | exact HX6.out.own | refine OwnN.setBelow ?_ (show w.heap.size + 1 < w.heap.size + 2 by omega) _)) (by omega), by repeat (first | exact HX6.out.head.1 | refine Below.setCell ?_ (by simp) _)⟩
       · have hbv : bv = last := by have := HBV.out; rw [if_neg hk0] at this; exact this
         rw [if_neg hk0] at hbad
         have hla := HX6.out.last0 (by omega)
         have hz9 : ¬ z = last + 1 := by simpa using hbad
         have hz9b : (z != last + 1) = true := by simpa using hz9
         have hnl2 : ¬ last < 0 := by omega
         clear hbad hk0 HBV
         subst hbv
         have hrs := HX6.out.head.2.2.2
         obtain ⟨zr, ⟨d0, d1, d2, d3⟩, f0, f1, f2, f3⟩ := hrs
         obtain ⟨zo, ⟨e0, e1, e2, e3⟩, -⟩ := HX6.out.out
         go_wp2
         refine bodyPost_ret (v := .agg #[.slice va ns'.length vc, .int .i64 zx, .int .i64 (k : Int), .int .i64 ((pos R k : Nat) : Int)]) (by simp [results, Tryz.results6, go_sem, d0, d1, d2, d3]) rfl ?_
         rw [HRES9.out]
         exact ⟨_, rfl, OwnN.mono (by repeat (first | exact HX6.out.own | refine OwnN.setBelow ?_ (show w.heap.size + 1 < w.heap.size + 2 by omega) _)) (by omega), by repeat (first | exact HX6.out.head.1 | refine Below.setCell ?_ (by simp) _)⟩
      | false =>
       by_cases hk0 : k = 0
       · have hbv : bv = -1 := by have := HBV.out; rw [if_pos hk0] at this; exact this
         have HBAD : Hid ((if k = 0 then decide (start + 1 < z) else decide (z ≠ last + 1)) = false) := hbad
         rw [if_pos hk0] at hbad
         have hz9 : ¬ start + 1 < z := by simpa using hbad
         clear hbad hk0 HBV
         subst hbv
         obtain ⟨zo, ⟨e0, e1, e2, e3⟩, g0, g1, g2, g3⟩ := HX6.out.out
         by_cases hzx2 : zx < z
         · have HLEN := HX6.out.len
           have T6 : Hid (Bx < w6.heap.size ∧ w6.cell? ⟨Bx, 0, none⟩ = some (.bool true) ∧ w6.cell? ⟨Bx, 1, none⟩ = some (.int .i64 z) ∧ w6.cell? ⟨Bx, 2, none⟩ = some (.slice xa es.length xc)) := ⟨by have := HS6.out; omega, t0, t1, t2⟩
           go_wp2_with fail
           refine (specApply_any _ (.slice va ns'.length vc) ns' z (.slice xa es.length xc) es HX6.out.own.rd OX6.out (by omega) (good_sz HX6.out.good) (es_sz (decX_ok HD.out))).mono ?_
           rintro e w7 ⟨v7, rfl, o7, b7⟩
           rename_i K14 hK14 K13 hK13
           have HK14 : Hid _ := hK14
           clear hK14 e0 e1 e2 e3 g0 g1 g2 g3 zo t0 t1 t2
           obtain ⟨ra, rc, rfl⟩ := OwnN.slice9 o7
           have HRL := resA_len ns' z es
           have bA : Below w7.heap.size w7 (w7.alloc (.cells #[(.slice ra (resA ns' z es).length rc)] 25)) := (Below.refl _ _).alloc (Nat.le_refl _) _
           have b78 : Below w6.heap.size w6 (w7.alloc (.cells #[(.slice ra (resA ns' z es).length rc)] 25)) := b7.trans (bA.mono b7.size)
           have HX8 := hd9 (HX6.out.below b78)
           have T8 : Hid ((w7.alloc (.cells #[(.slice ra (resA ns' z es).length rc)] 25)).cell? ⟨Bx, 1, none⟩ = some (.int .i64 z)) := (b78.cell (p := ⟨Bx, 1, none⟩) T6.out.1).trans T6.out.2.2.1
           have Y8 : Hid ((w7.alloc (.cells #[(.slice ra (resA ns' z es).length rc)] 25)).cell? ⟨w7.heap.size, 0, none⟩ = some (.slice ra (resA ns' z es).length rc)) := by show _ = _; simp
           have O9 : Hid (OwnN 85 (w7.alloc (.cells #[(.slice ra (resA ns' z es).length rc)] 25)) w6.heap.size (.slice ra (resA ns' z es).length rc) (resA ns' z es)) := o7.below bA
           have B9 := hd9 (B6.out.trans (b78.mono B6.out.size))
           have S67 : Hid (w3.heap.size < w6.heap.size ∧ Bx ≠ w3.heap.size ∧ w7.heap.size ≠ w3.heap.size) := ⟨HX6.out.out.1, by have := S5.out; omega, by have := HX6.out.out.1; have := b7.size; omega⟩
           clear b7 bA b78 o7 HX6 B6 OX6 HRD6 HS6 T6 S5
           go_wp2_with fail
           generalize w7.alloc (.cells #[(.slice ra (resA ns' z es).length rc)] 25) = w8 at *
           generalize hBy : w7.heap.size = By at *
           clear hBy
           refine HK14.out _ _ ?_
           clear HK14
           have y0 := Y8.out
           have t1 := T8.out
           by_cases hbig : 1000 < (resA ns' z es).length
           · have HRES9 : Hid (res = (ns', zx, k)) := by
              have := HX8.out.goes
              rw [HDR.out k hlt, rpl_big HD.out HBAD.out hzx2 hbig] at this
              exact this.symm
             have hbigI : (1000 : Int) < ((resA ns' z es).length : Int) := by omega
             have hrs := HX8.out.head.2.2.2
             obtain ⟨zr, ⟨d0, d1, d2, d3⟩, f0, f1, f2, f3⟩ := hrs
             obtain ⟨zo, ⟨e0, e1, e2, e3⟩, -⟩ := HX8.out.out
             go_wp2
             refine bodyPost_ret (v := .agg #[.slice va ns'.length vc, .int .i64 zx, .int .i64 (k : Int), .int .i64 ((pos R k : Nat) : Int)]) (by simp [results, Tryz.results6, go_sem, d0, d1, d2, d3]) rfl ?_
             rw [HRES9.out]
             exact ⟨_, rfl, OwnN.mono (by repeat (first | exact HX8.out.own | refine OwnN.setBelow ?_ (show w.heap.size + 1 < w.heap.size + 2 by omega) _)) (by omega), by repeat (first | exact HX8.out.head.1 | refine Below.setCell ?_ (by simp) _)⟩
           · have GOES : Hid (rpl start (k + 1) ((R.drop (k + 1)).map (·.1)) (resA ns' z es) z z = res) := by
              have := HX8.out.goes
              rw [HDR.out k hlt, rpl_app HD.out HBAD.out hzx2 hbig] at this
              exact this
             have hbigI : ¬ (1000 : Int) < ((resA ns' z es).length : Int) := by omega
             obtain ⟨zo, ⟨e0, e1, e2, e3⟩, g0, g1, g2, g3⟩ := HX8.out.out
             have hne1 := S67.out.2.1
             have hne2 := S67.out.2.2
             have hne3 : w3.heap.size ≠ Bx := fun e => hne1 e.symm
             have hne4 : w3.heap.size ≠ By := fun e => hne2 e.symm
             go_wp2_with fail
             have F8 : Hid (RpS w (.slice ta ns.length tc) (((w8.setCell ⟨w3.heap.size, 0, none⟩ (.slice ra (resA ns' z es).length rc)).setCell ⟨w3.heap.size, 1, none⟩ (.int .i64 z)).setCell ⟨w3.heap.size, 2, none⟩ (.int .i64 ((k : Int) + 1)))) := ((HX8.out.head.setO s3 _).setO s3 _).setO s3 _
             have XO8 : Hid (B4F (((w8.setCell ⟨w3.heap.size, 0, none⟩ (.slice ra (resA ns' z es).length rc)).setCell ⟨w3.heap.size, 1, none⟩ (.int .i64 z)).setCell ⟨w3.heap.size, 2, none⟩ (.int .i64 ((k : Int) + 1))) w3.heap.size (.slice ra (resA ns' z es).length rc) (.int .i64 z) (.int .i64 ((k : Int) + 1)) (.int .i64 ((pos R k : Nat) : Int))) := ((HX8.out.out.set0 _).set1 _).set2 _
             have NE8 : Hid (Value.ownBlock (.slice ra (resA ns' z es).length rc) ≠ some w3.heap.size) := fun e => by have h1 : w6.heap.size ≤ w3.heap.size := (World.ownsRow.lt O9.out _ e).1; have := S67.out.1; omega
             have O8 : Hid (OwnN 85 (((w8.setCell ⟨w3.heap.size, 0, none⟩ (.slice ra (resA ns' z es).length rc)).setCell ⟨w3.heap.size, 1, none⟩ (.int .i64 z)).setCell ⟨w3.heap.size, 2, none⟩ (.int .i64 ((k : Int) + 1))) (w.heap.size + 2) (.slice ra (resA ns' z es).length rc) (resA ns' z es)) := (((O9.out.setO NE8.out _).setO NE8.out _).setO NE8.out _).mono (by have := S67.out.1; omega)
             have B8 : Hid (Below w3.heap.size w3 (((w8.setCell ⟨w3.heap.size, 0, none⟩ (.slice ra (resA ns' z es).length rc)).setCell ⟨w3.heap.size, 1, none⟩ (.int .i64 z)).setCell ⟨w3.heap.size, 2, none⟩ (.int .i64 ((k : Int) + 1)))) := ((B9.out.setCell (Nat.le_refl _) _).setCell (Nat.le_refl _) _).setCell (Nat.le_refl _) _
             have HRD8 : Hid (Rd .u8 (((w8.setCell ⟨w3.heap.size, 0, none⟩ (.slice ra (resA ns' z es).length rc)).setCell ⟨w3.heap.size, 1, none⟩ (.int .i64 z)).setCell ⟨w3.heap.size, 2, none⟩ (.int .i64 ((k : Int) + 1))) (.slice ua (pR P k).length uc) (pR P k)) := (HR3.out).below B8.out
             have GD8 : Hid (Good (resA ns' z es)) := good_resA HX8.out.good (decX_ok HD.out)
             have LN8 : Hid ((resA ns' z es).length ≤ 1000) := by show _ ≤ _; omega
             have ZX8 : Hid (-1 ≤ z ∧ z ≤ 2147483647) := ⟨by omega, by omega⟩
             clear HX8 O9 B9 T8 Y8 y0 t1 e0 e1 e2 e3 g0 g1 g2 g3 zo hne1 hne2 hne3 hne4 hbigI
             generalize ((w8.setCell ⟨w3.heap.size, 0, none⟩ (.slice ra (resA ns' z es).length rc)).setCell ⟨w3.heap.size, 1, none⟩ (.int .i64 z)).setCell ⟨w3.heap.size, 2, none⟩ (.int .i64 ((k : Int) + 1)) = w8x at *
             have hce8 := (B8.out.cell (p := ⟨g, k, none⟩) hg3).trans HC3.out
             have HFRM : Hid (Calls Tryz.prog 12 #[.slice ua (pR P k).length uc] w8x.drew fun e w' => ∃ fa fc, e = .returned (.slice fa (R.getD k ([], 0)).2 fc) ∧ w'.cell? ⟨w3.heap.size, 3, none⟩ = some (.int .i64 ((pos R k : Nat) : Int)) ∧ w'.frozen? ⟨w3.heap.size, 3, none⟩ = false ∧ w3.heap.size < w'.heap.size ∧ Hid (Below w8x.heap.size w8x w')) := by
              refine (specFrame_any _ _ (pR P k) (HRD8.out.drewN 1) HBY9.out (by omega)).mono ?_
              rintro e w' ⟨v', rfl, o', b'⟩
              obtain ⟨fa, fc, rfl⟩ := Own.slice o'
              have b2 : Below w8x.heap.size w8x w' := (below_drewN' _ 1).trans b'
              have X := XO8.out.below b2
              rw [HFR.out]
              exact ⟨fa, fc, rfl, X.2.1.2.2.2, X.2.2.2.2.2, X.1, b2⟩
             obtain ⟨zo8, ⟨-, -, -, q3⟩, -, -, -, r3⟩ := XO8.out
             have hsz2 := HPS.out k hlt
             have hps1 := HPOS.out (k + 1) (by omega)
             have HPS9 : Hid (((pos R k : Nat) : Int) + (((R.getD k ([], 0)).2 : Nat) : Int) = ((pos R (k + 1) : Nat) : Int)) := by show _ = _; omega
             have hbd : ((pos R k : Nat) : Int) + (((R.getD k ([], 0)).2 : Nat) : Int) ≤ 8192 := by omega
             clear hsz2 hps1
             generalize (R.getD k ([], 0)).2 = sz at *
             generalize hpk : pos R k = pk9 at *
             go_region_law (go_simp; go_at_call 12; refine HFRM.out.mono ?_; rintro e w' ⟨fa, fc, rfl, k3, kz3, zw, bw⟩)
             all_goals
              have RPN : Hid (Rp w (.slice ta ns.length tc) w3.heap.size R start res (k + 1) (.slice ra (resA ns' z es).length rc) (resA ns' z es) z z (w'.setCell ⟨w3.heap.size, 3, none⟩ (.int .i64 ((pk9 : Int) + (sz : Int))))) := Rp.next s3 F8.out (by rw [hpk]; exact XO8.out) O8.out NE8.out GD8.out LN8.out ZX8.out hzz GOES.out bw.out _ (by rw [HPS9.out])
              have BN : Hid (Below w3.heap.size w3 (w'.setCell ⟨w3.heap.size, 3, none⟩ (.int .i64 ((pk9 : Int) + (sz : Int))))) := (B8.out.trans (bw.out.mono B8.out.size)).setCell (Nat.le_refl _) _
              clear k3 kz3 zw bw HFRM q3 r3
              go_wp2
              exact ⟨⟨k + 1, _, _, _, z, z, by omega, by go_num, rfl, (show _ = _ by rw [if_neg (by omega)]), RPN, BN⟩, by simp [intOf]; omega⟩
         · have GOES : Hid (rpl start (k + 1) ((R.drop (k + 1)).map (·.1)) ns' zx z = res) := by
            have := HX6.out.goes
            rw [HDR.out k hlt, rpl_pass HD.out HBAD.out hzx2] at this
            exact this
           go_wp2_with fail
           have F8 : Hid (RpS w (.slice ta ns.length tc) (w6.setCell ⟨w3.heap.size, 2, none⟩ (.int .i64 ((k : Int) + 1)))) := HX6.out.head.setO s3 _
           have XO8 : Hid (B4F (w6.setCell ⟨w3.heap.size, 2, none⟩ (.int .i64 ((k : Int) + 1))) w3.heap.size (.slice va ns'.length vc) (.int .i64 zx) (.int .i64 ((k : Int) + 1)) (.int .i64 ((pos R k : Nat) : Int))) := HX6.out.out.set2 _
           have O8 : Hid (OwnN 85 (w6.setCell ⟨w3.heap.size, 2, none⟩ (.int .i64 ((k : Int) + 1))) (w.heap.size + 2) (.slice va ns'.length vc) ns') := HX6.out.own.setO HX6.out.ne _
           have B8 : Hid (Below w3.heap.size w3 (w6.setCell ⟨w3.heap.size, 2, none⟩ (.int .i64 ((k : Int) + 1)))) := B6.out.setCell (Nat.le_refl _) _
           have HRD8 : Hid (Rd .u8 (w6.setCell ⟨w3.heap.size, 2, none⟩ (.int .i64 ((k : Int) + 1))) (.slice ua (pR P k).length uc) (pR P k)) := (HR3.out).below B8.out
           have NE8 : Hid (Value.ownBlock (.slice va ns'.length vc) ≠ some w3.heap.size) := HX6.out.ne
           have GD8 : Hid (Good ns') := HX6.out.good
           have LN8 : Hid (ns'.length ≤ 1000) := HX6.out.len
           have ZX8 : Hid (-1 ≤ zx ∧ zx ≤ 2147483647) := HX6.out.zx0
           clear HX6 e0 e1 e2 e3 g0 g1 g2 g3 zo t0 t1 t2 HRD6 OX6 HS6
           generalize w6.setCell ⟨w3.heap.size, 2, none⟩ (.int .i64 ((k : Int) + 1)) = w8 at *
           have hce8 := (B8.out.cell (p := ⟨g, k, none⟩) hg3).trans HC3.out
           have HFRM : Hid (Calls Tryz.prog 12 #[.slice ua (pR P k).length uc] w8.drew fun e w' => ∃ fa fc, e = .returned (.slice fa (R.getD k ([], 0)).2 fc) ∧ w'.cell? ⟨w3.heap.size, 3, none⟩ = some (.int .i64 ((pos R k : Nat) : Int)) ∧ w'.frozen? ⟨w3.heap.size, 3, none⟩ = false ∧ w3.heap.size < w'.heap.size ∧ Hid (Below w8.heap.size w8 w')) := by
            refine (specFrame_any _ _ (pR P k) (HRD8.out.drewN 1) HBY9.out (by omega)).mono ?_
            rintro e w' ⟨v', rfl, o', b'⟩
            obtain ⟨fa, fc, rfl⟩ := Own.slice o'
            have b2 : Below w8.heap.size w8 w' := (below_drewN' _ 1).trans b'
            have X := XO8.out.below b2
            rw [HFR.out]
            exact ⟨fa, fc, rfl, X.2.1.2.2.2, X.2.2.2.2.2, X.1, b2⟩
           obtain ⟨zo8, ⟨-, -, -, q3⟩, -, -, -, r3⟩ := XO8.out
           have hsz2 := HPS.out k hlt
           have hps1 := HPOS.out (k + 1) (by omega)
           have HPS9 : Hid (((pos R k : Nat) : Int) + (((R.getD k ([], 0)).2 : Nat) : Int) = ((pos R (k + 1) : Nat) : Int)) := by show _ = _; omega
           have hbd : ((pos R k : Nat) : Int) + (((R.getD k ([], 0)).2 : Nat) : Int) ≤ 8192 := by omega
           clear hsz2 hps1
           generalize (R.getD k ([], 0)).2 = sz at *
           generalize hpk : pos R k = pk9 at *
           go_region_law (go_simp; go_at_call 12; refine HFRM.out.mono ?_; rintro e w' ⟨fa, fc, rfl, k3, kz3, zw, bw⟩)
           all_goals
            have RPN : Hid (Rp w (.slice ta ns.length tc) w3.heap.size R start res (k + 1) (.slice va ns'.length vc) ns' zx z (w'.setCell ⟨w3.heap.size, 3, none⟩ (.int .i64 ((pk9 : Int) + (sz : Int))))) := Rp.next s3 F8.out (by rw [hpk]; exact XO8.out) O8.out NE8.out GD8.out LN8.out ZX8.out hzz GOES.out bw.out _ (by rw [HPS9.out])
            have BN : Hid (Below w3.heap.size w3 (w'.setCell ⟨w3.heap.size, 3, none⟩ (.int .i64 ((pk9 : Int) + (sz : Int))))) := (B8.out.trans (bw.out.mono B8.out.size)).setCell (Nat.le_refl _) _
            clear k3 kz3 zw bw HFRM q3 r3
            go_wp2
            exact ⟨⟨k + 1, _, _, _, z, z, by omega, by go_num, rfl, (show _ = _ by rw [if_neg (by omega)]), RPN, BN⟩, by simp [intOf]; omega⟩
       · have hbv : bv = last := by have := HBV.out; rw [if_neg hk0] at this; exact this
         have HBAD : Hid ((if k = 0 then decide (start + 1 < z) else decide (z ≠ last + 1)) = false) := hbad
         rw [if_neg hk0] at hbad
         have hla := HX6.out.last0 (by omega)
         have hz9 : z = last + 1 := by simpa using hbad
         have hz9b : (z != last + 1) = false := by simpa using hz9
         have hnl2 : ¬ last < 0 := by omega
         have HZ9 : Hid (z = last + 1) := hz9
         clear hbad hk0 HBV hz9
         subst hbv
         obtain ⟨zo, ⟨e0, e1, e2, e3⟩, g0, g1, g2, g3⟩ := HX6.out.out
         by_cases hzx2 : zx < z
         · have HLEN := HX6.out.len
           have T6 : Hid (Bx < w6.heap.size ∧ w6.cell? ⟨Bx, 0, none⟩ = some (.bool true) ∧ w6.cell? ⟨Bx, 1, none⟩ = some (.int .i64 z) ∧ w6.cell? ⟨Bx, 2, none⟩ = some (.slice xa es.length xc)) := ⟨by have := HS6.out; omega, t0, t1, t2⟩
           go_wp2_with fail
           refine (specApply_any _ (.slice va ns'.length vc) ns' z (.slice xa es.length xc) es HX6.out.own.rd OX6.out (by omega) (good_sz HX6.out.good) (es_sz (decX_ok HD.out))).mono ?_
           rintro e w7 ⟨v7, rfl, o7, b7⟩
           rename_i K14 hK14 K13 hK13
           have HK14 : Hid _ := hK14
           clear hK14 e0 e1 e2 e3 g0 g1 g2 g3 zo t0 t1 t2
           obtain ⟨ra, rc, rfl⟩ := OwnN.slice9 o7
           have HRL := resA_len ns' z es
           have bA : Below w7.heap.size w7 (w7.alloc (.cells #[(.slice ra (resA ns' z es).length rc)] 25)) := (Below.refl _ _).alloc (Nat.le_refl _) _
           have b78 : Below w6.heap.size w6 (w7.alloc (.cells #[(.slice ra (resA ns' z es).length rc)] 25)) := b7.trans (bA.mono b7.size)
           have HX8 := hd9 (HX6.out.below b78)
           have T8 : Hid ((w7.alloc (.cells #[(.slice ra (resA ns' z es).length rc)] 25)).cell? ⟨Bx, 1, none⟩ = some (.int .i64 z)) := (b78.cell (p := ⟨Bx, 1, none⟩) T6.out.1).trans T6.out.2.2.1
           have Y8 : Hid ((w7.alloc (.cells #[(.slice ra (resA ns' z es).length rc)] 25)).cell? ⟨w7.heap.size, 0, none⟩ = some (.slice ra (resA ns' z es).length rc)) := by show _ = _; simp
           have O9 : Hid (OwnN 85 (w7.alloc (.cells #[(.slice ra (resA ns' z es).length rc)] 25)) w6.heap.size (.slice ra (resA ns' z es).length rc) (resA ns' z es)) := o7.below bA
           have B9 := hd9 (B6.out.trans (b78.mono B6.out.size))
           have S67 : Hid (w3.heap.size < w6.heap.size ∧ Bx ≠ w3.heap.size ∧ w7.heap.size ≠ w3.heap.size) := ⟨HX6.out.out.1, by have := S5.out; omega, by have := HX6.out.out.1; have := b7.size; omega⟩
           clear b7 bA b78 o7 HX6 B6 OX6 HRD6 HS6 T6 S5
           go_wp2_with fail
           generalize w7.alloc (.cells #[(.slice ra (resA ns' z es).length rc)] 25) = w8 at *
           generalize hBy : w7.heap.size = By at *
           clear hBy
           refine HK14.out _ _ ?_
           clear HK14
           have y0 := Y8.out
           have t1 := T8.out
           by_cases hbig : 1000 < (resA ns' z es).length
           · have HRES9 : Hid (res = (ns', zx, k)) := by
              have := HX8.out.goes
              rw [HDR.out k hlt, rpl_big HD.out HBAD.out hzx2 hbig] at this
              exact this.symm
             have hbigI : (1000 : Int) < ((resA ns' z es).length : Int) := by omega
             have hrs := HX8.out.head.2.2.2
             obtain ⟨zr, ⟨d0, d1, d2, d3⟩, f0, f1, f2, f3⟩ := hrs
             obtain ⟨zo, ⟨e0, e1, e2, e3⟩, -⟩ := HX8.out.out
             go_wp2
             refine bodyPost_ret (v := .agg #[.slice va ns'.length vc, .int .i64 zx, .int .i64 (k : Int), .int .i64 ((pos R k : Nat) : Int)]) (by simp [results, Tryz.results6, go_sem, d0, d1, d2, d3]) rfl ?_
             rw [HRES9.out]
             exact ⟨_, rfl, OwnN.mono (by repeat (first | exact HX8.out.own | refine OwnN.setBelow ?_ (show w.heap.size + 1 < w.heap.size + 2 by omega) _)) (by omega), by repeat (first | exact HX8.out.head.1 | refine Below.setCell ?_ (by simp) _)⟩
           · have GOES : Hid (rpl start (k + 1) ((R.drop (k + 1)).map (·.1)) (resA ns' z es) z z = res) := by
              have := HX8.out.goes
              rw [HDR.out k hlt, rpl_app HD.out HBAD.out hzx2 hbig] at this
              exact this
             have hbigI : ¬ (1000 : Int) < ((resA ns' z es).length : Int) := by omega
             obtain ⟨zo, ⟨e0, e1, e2, e3⟩, g0, g1, g2, g3⟩ := HX8.out.out
             have hne1 := S67.out.2.1
             have hne2 := S67.out.2.2
             have hne3 : w3.heap.size ≠ Bx := fun e => hne1 e.symm
             have hne4 : w3.heap.size ≠ By := fun e => hne2 e.symm
             go_wp2_with fail
             have F8 : Hid (RpS w (.slice ta ns.length tc) (((w8.setCell ⟨w3.heap.size, 0, none⟩ (.slice ra (resA ns' z es).length rc)).setCell ⟨w3.heap.size, 1, none⟩ (.int .i64 z)).setCell ⟨w3.heap.size, 2, none⟩ (.int .i64 ((k : Int) + 1)))) := ((HX8.out.head.setO s3 _).setO s3 _).setO s3 _
             have XO8 : Hid (B4F (((w8.setCell ⟨w3.heap.size, 0, none⟩ (.slice ra (resA ns' z es).length rc)).setCell ⟨w3.heap.size, 1, none⟩ (.int .i64 z)).setCell ⟨w3.heap.size, 2, none⟩ (.int .i64 ((k : Int) + 1))) w3.heap.size (.slice ra (resA ns' z es).length rc) (.int .i64 z) (.int .i64 ((k : Int) + 1)) (.int .i64 ((pos R k : Nat) : Int))) := ((HX8.out.out.set0 _).set1 _).set2 _
             have NE8 : Hid (Value.ownBlock (.slice ra (resA ns' z es).length rc) ≠ some w3.heap.size) := fun e => by have h1 : w6.heap.size ≤ w3.heap.size := (World.ownsRow.lt O9.out _ e).1; have := S67.out.1; omega
             have O8 : Hid (OwnN 85 (((w8.setCell ⟨w3.heap.size, 0, none⟩ (.slice ra (resA ns' z es).length rc)).setCell ⟨w3.heap.size, 1, none⟩ (.int .i64 z)).setCell ⟨w3.heap.size, 2, none⟩ (.int .i64 ((k : Int) + 1))) (w.heap.size + 2) (.slice ra (resA ns' z es).length rc) (resA ns' z es)) := (((O9.out.setO NE8.out _).setO NE8.out _).setO NE8.out _).mono (by have := S67.out.1; omega)
             have B8 : Hid (Below w3.heap.size w3 (((w8.setCell ⟨w3.heap.size, 0, none⟩ (.slice ra (resA ns' z es).length rc)).setCell ⟨w3.heap.size, 1, none⟩ (.int .i64 z)).setCell ⟨w3.heap.size, 2, none⟩ (.int .i64 ((k : Int) + 1)))) := ((B9.out.setCell (Nat.le_refl _) _).setCell (Nat.le_refl _) _).setCell (Nat.le_refl _) _
             have HRD8 : Hid (Rd .u8 (((w8.setCell ⟨w3.heap.size, 0, none⟩ (.slice ra (resA ns' z es).length rc)).setCell ⟨w3.heap.size, 1, none⟩ (.int .i64 z)).setCell ⟨w3.heap.size, 2, none⟩ (.int .i64 ((k : Int) + 1))) (.slice ua (pR P k).length uc) (pR P k)) := (HR3.out).below B8.out
             have GD8 : Hid (Good (resA ns' z es)) := good_resA HX8.out.good (decX_ok HD.out)
             have LN8 : Hid ((resA ns' z es).length ≤ 1000) := by show _ ≤ _; omega
             have ZX8 : Hid (-1 ≤ z ∧ z ≤ 2147483647) := ⟨by omega, by omega⟩
             clear HX8 O9 B9 T8 Y8 y0 t1 e0 e1 e2 e3 g0 g1 g2 g3 zo hne1 hne2 hne3 hne4 hbigI
             generalize ((w8.setCell ⟨w3.heap.size, 0, none⟩ (.slice ra (resA ns' z es).length rc)).setCell ⟨w3.heap.size, 1, none⟩ (.int .i64 z)).setCell ⟨w3.heap.size, 2, none⟩ (.int .i64 ((k : Int) + 1)) = w8x at *
             have hce8 := (B8.out.cell (p := ⟨g, k, none⟩) hg3).trans HC3.out
             have HFRM : Hid (Calls Tryz.prog 12 #[.slice ua (pR P k).length uc] w8x.drew fun e w' => ∃ fa fc, e = .returned (.slice fa (R.getD k ([], 0)).2 fc) ∧ w'.cell? ⟨w3.heap.size, 3, none⟩ = some (.int .i64 ((pos R k : Nat) : Int)) ∧ w'.frozen? ⟨w3.heap.size, 3, none⟩ = false ∧ w3.heap.size < w'.heap.size ∧ Hid (Below w8x.heap.size w8x w')) := by
              refine (specFrame_any _ _ (pR P k) (HRD8.out.drewN 1) HBY9.out (by omega)).mono ?_
              rintro e w' ⟨v', rfl, o', b'⟩
              obtain ⟨fa, fc, rfl⟩ := Own.slice o'
              have b2 : Below w8x.heap.size w8x w' := (below_drewN' _ 1).trans b'
              have X := XO8.out.below b2
              rw [HFR.out]
              exact ⟨fa, fc, rfl, X.2.1.2.2.2, X.2.2.2.2.2, X.1, b2⟩
             obtain ⟨zo8, ⟨-, -, -, q3⟩, -, -, -, r3⟩ := XO8.out
             have hsz2 := HPS.out k hlt
             have hps1 := HPOS.out (k + 1) (by omega)
             have HPS9 : Hid (((pos R k : Nat) : Int) + (((R.getD k ([], 0)).2 : Nat) : Int) = ((pos R (k + 1) : Nat) : Int)) := by show _ = _; omega
             have hbd : ((pos R k : Nat) : Int) + (((R.getD k ([], 0)).2 : Nat) : Int) ≤ 8192 := by omega
             clear hsz2 hps1
             generalize (R.getD k ([], 0)).2 = sz at *
             generalize hpk : pos R k = pk9 at *
             go_region_law (go_simp; go_at_call 12; refine HFRM.out.mono ?_; rintro e w' ⟨fa, fc, rfl, k3, kz3, zw, bw⟩)
             all_goals
              have RPN : Hid (Rp w (.slice ta ns.length tc) w3.heap.size R start res (k + 1) (.slice ra (resA ns' z es).length rc) (resA ns' z es) z z (w'.setCell ⟨w3.heap.size, 3, none⟩ (.int .i64 ((pk9 : Int) + (sz : Int))))) := Rp.next s3 F8.out (by rw [hpk]; exact XO8.out) O8.out NE8.out GD8.out LN8.out ZX8.out hzz GOES.out bw.out _ (by rw [HPS9.out])
              have BN : Hid (Below w3.heap.size w3 (w'.setCell ⟨w3.heap.size, 3, none⟩ (.int .i64 ((pk9 : Int) + (sz : Int))))) := (B8.out.trans (bw.out.mono B8.out.size)).setCell (Nat.le_refl _) _
              clear k3 kz3 zw bw HFRM q3 r3
              go_wp2
              exact ⟨⟨k + 1, _, _, _, z, z, by omega, by go_num, rfl, (show _ = _ by rw [if_neg (by omega)]), RPN, BN⟩, by simp [intOf]; omega⟩
         · have GOES : Hid (rpl start (k + 1) ((R.drop (k + 1)).map (·.1)) ns' zx z = res) := by
            have := HX6.out.goes
            rw [HDR.out k hlt, rpl_pass HD.out HBAD.out hzx2] at this
            exact this
           go_wp2_with fail
           have F8 : Hid (RpS w (.slice ta ns.length tc) (w6.setCell ⟨w3.heap.size, 2, none⟩ (.int .i64 ((k : Int) + 1)))) := HX6.out.head.setO s3 _
           have XO8 : Hid (B4F (w6.setCell ⟨w3.heap.size, 2, none⟩ (.int .i64 ((k : Int) + 1))) w3.heap.size (.slice va ns'.length vc) (.int .i64 zx) (.int .i64 ((k : Int) + 1)) (.int .i64 ((pos R k : Nat) : Int))) := HX6.out.out.set2 _
           have O8 : Hid (OwnN 85 (w6.setCell ⟨w3.heap.size, 2, none⟩ (.int .i64 ((k : Int) + 1))) (w.heap.size + 2) (.slice va ns'.length vc) ns') := HX6.out.own.setO HX6.out.ne _
           have B8 : Hid (Below w3.heap.size w3 (w6.setCell ⟨w3.heap.size, 2, none⟩ (.int .i64 ((k : Int) + 1)))) := B6.out.setCell (Nat.le_refl _) _
           have HRD8 : Hid (Rd .u8 (w6.setCell ⟨w3.heap.size, 2, none⟩ (.int .i64 ((k : Int) + 1))) (.slice ua (pR P k).length uc) (pR P k)) := (HR3.out).below B8.out
           have NE8 : Hid (Value.ownBlock (.slice va ns'.length vc) ≠ some w3.heap.size) := HX6.out.ne
           have GD8 : Hid (Good ns') := HX6.out.good
           have LN8 : Hid (ns'.length ≤ 1000) := HX6.out.len
           have ZX8 : Hid (-1 ≤ zx ∧ zx ≤ 2147483647) := HX6.out.zx0
           clear HX6 e0 e1 e2 e3 g0 g1 g2 g3 zo t0 t1 t2 HRD6 OX6 HS6
           generalize w6.setCell ⟨w3.heap.size, 2, none⟩ (.int .i64 ((k : Int) + 1)) = w8 at *
           have hce8 := (B8.out.cell (p := ⟨g, k, none⟩) hg3).trans HC3.out
           have HFRM : Hid (Calls Tryz.prog 12 #[.slice ua (pR P k).length uc] w8.drew fun e w' => ∃ fa fc, e = .returned (.slice fa (R.getD k ([], 0)).2 fc) ∧ w'.cell? ⟨w3.heap.size, 3, none⟩ = some (.int .i64 ((pos R k : Nat) : Int)) ∧ w'.frozen? ⟨w3.heap.size, 3, none⟩ = false ∧ w3.heap.size < w'.heap.size ∧ Hid (Below w8.heap.size w8 w')) := by
            refine (specFrame_any _ _ (pR P k) (HRD8.out.drewN 1) HBY9.out (by omega)).mono ?_
            rintro e w' ⟨v', rfl, o', b'⟩
            obtain ⟨fa, fc, rfl⟩ := Own.slice o'
            have b2 : Below w8.heap.size w8 w' := (below_drewN' _ 1).trans b'
            have X := XO8.out.below b2
            rw [HFR.out]
            exact ⟨fa, fc, rfl, X.2.1.2.2.2, X.2.2.2.2.2, X.1, b2⟩
           obtain ⟨zo8, ⟨-, -, -, q3⟩, -, -, -, r3⟩ := XO8.out
           have hsz2 := HPS.out k hlt
           have hps1 := HPOS.out (k + 1) (by omega)
           have HPS9 : Hid (((pos R k : Nat) : Int) + (((R.getD k ([], 0)).2 : Nat) : Int) = ((pos R (k + 1) : Nat) : Int)) := by show _ = _; omega
           have hbd : ((pos R k : Nat) : Int) + (((R.getD k ([], 0)).2 : Nat) : Int) ≤ 8192 := by omega
           clear hsz2 hps1
           generalize (R.getD k ([], 0)).2 = sz at *
           generalize hpk : pos R k = pk9 at *
           go_region_law (go_simp; go_at_call 12; refine HFRM.out.mono ?_; rintro e w' ⟨fa, fc, rfl, k3, kz3, zw, bw⟩)
           all_goals
            have RPN : Hid (Rp w (.slice ta ns.length tc) w3.heap.size R start res (k + 1) (.slice va ns'.length vc) ns' zx z (w'.setCell ⟨w3.heap.size, 3, none⟩ (.int .i64 ((pk9 : Int) + (sz : Int))))) := Rp.next s3 F8.out (by rw [hpk]; exact XO8.out) O8.out NE8.out GD8.out LN8.out ZX8.out hzz GOES.out bw.out _ (by rw [HPS9.out])
            have BN : Hid (Below w3.heap.size w3 (w'.setCell ⟨w3.heap.size, 3, none⟩ (.int .i64 ((pk9 : Int) + (sz : Int))))) := (B8.out.trans (bw.out.mono B8.out.size)).setCell (Nat.le_refl _) _
            clear k3 kz3 zw bw HFRM q3 r3
            go_wp2
            exact ⟨⟨k + 1, _, _, _, z, z, by omega, by go_num, rfl, (show _ = _ by rw [if_neg (by omega)]), RPN, BN⟩, by simp [intOf]; omega⟩
  · have hkn : k = P.length := by omega
    have hltI : ¬ (k : Int) < (P.length : Int) := by omega
    have HRES9 : Hid (res = (ns', zx, k)) := by
     have := HRP.out.goes
     rw [HEND.out k (by omega), rpl] at this
     exact this.symm
    have sr := HRP.out.head.2.1
    clear hkn
    have hrs := HRP.out.head.2.2.2
    obtain ⟨zr, ⟨d0, d1, d2, d3⟩, f0, f1, f2, f3⟩ := hrs
    obtain ⟨zo, ⟨e0, e1, e2, e3⟩, -⟩ := HRP.out.out
    go_wp2
    refine bodyPost_ret (v := .agg #[.slice va ns'.length vc, .int .i64 zx, .int .i64 (k : Int), .int .i64 ((pos R k : Nat) : Int)]) (by simp [results, Tryz.results6, go_sem, d0, d1, d2, d3]) rfl ?_
    rw [HRES9.out]
    exact ⟨_, rfl, OwnN.mono (by repeat (first | exact HRP.out.own | refine OwnN.setBelow ?_ (show w.heap.size + 1 < w.heap.size + 2 by omega) _)) (by omega), by repeat (first | exact HRP.out.head.1 | refine Below.setCell ?_ (by simp) _)⟩
theorem follows_any (w : World) (Br : Nat) (v : Value) (zx en last z : Int) (k : Nat) (xa : Option Addr) (xl xc : Nat) (h : B4F w Br v (.int .i64 zx) (.int .i64 (k : Int)) (.int .i64 en)) (hx : -1 ≤ zx ∧ zx ≤ 2147483647) (hl : 0 < k → 1 ≤ last ∧ last ≤ 2147483647) :
    Calls Tryz.prog 38 #[.pointer (some ⟨Br, 0, none⟩), .int .i64 last, .agg #[.int .i64 z, .slice xa xl xc]] w fun e w' => e = .returned (.bool (if k = 0 then decide (z ≤ zx + 1) else decide (z = last + 1))) ∧ Below w.heap.size w w' := by
 have B0 : Hid (Below w.heap.size w (w.alloc (.cells #[.int .i64 z, .slice xa xl xc] 78))) := (Below.refl _ _).alloc (Nat.le_refl _) _
 have H0 : Hid (B4F (w.alloc (.cells #[.int .i64 z, .slice xa xl xc] 78)) Br v (.int .i64 zx) (.int .i64 (k : Int)) (.int .i64 en)) := h.below B0.out
 have HT : Hid (Box2 (w.alloc (.cells #[.int .i64 z, .slice xa xl xc] 78)) w.heap.size (.int .i64 z) (.slice xa xl xc)) := Box2.new _ _ _ _
 clear h
 by_cases hk0 : k = 0
 · subst hk0
   rw [if_pos rfl]
   cases hle : decide (z ≤ zx + 1) with
   | true =>
    have hle' : z ≤ zx + 1 := by simpa using hle
    obtain ⟨z0, ⟨c0, c1, c2, c3⟩, -⟩ := H0.out
    go_enter Tryz.func38, Tryz.ntmps38
    go_wp2_with fail
    obtain ⟨z1, t0, t1⟩ := HT.out
    generalize w.alloc (.cells #[.int .i64 z, .slice xa xl xc] 78) = w0 at *
    go_quiet (fail)
    go_wp2
    go_ret
    exact ⟨rfl, below_drewQ B0.out _⟩
   | false =>
    have hle' : ¬ z ≤ zx + 1 := by simpa using hle
    obtain ⟨z0, ⟨c0, c1, c2, c3⟩, -⟩ := H0.out
    go_enter Tryz.func38, Tryz.ntmps38
    go_wp2_with fail
    obtain ⟨z1, t0, t1⟩ := HT.out
    generalize w.alloc (.cells #[.int .i64 z, .slice xa xl xc] 78) = w0 at *
    go_quiet (fail)
    go_wp2
    go_ret
    exact ⟨rfl, below_drewQ B0.out _⟩
 · rw [if_neg hk0]
   have hl' := hl (by omega)
   have hkI : ¬ (k : Int) = 0 := by omega
   have hkb : ((k : Int) == 0) = false := by simpa using hkI
   clear hl
   obtain ⟨z0, ⟨c0, c1, c2, c3⟩, -⟩ := H0.out
   obtain ⟨b, hb⟩ : ∃ b, b = (z == last + 1) := ⟨_, rfl⟩
   have HE : Hid (decide (z = last + 1) = b) := by rw [hb]; show _ = _; cases h : (z == last + 1) <;> simp_all
   rw [HE.out]
   go_enter Tryz.func38, Tryz.ntmps38
   go_wp2
   go_ret
   exact ⟨by rw [hb]; rfl, B0.out⟩
def ReachPost (w : World) (Br : Nat) (ns : List Nd) (zx : Int) (k : Nat) (en z : Int) (es : List Ef) (e : Ending) (w' : World) : Prop :=
 (z ≤ zx ∧ e = .returned (.bool true) ∧ Below w.heap.size w w') ∨ (zx < z ∧ 1000 < (resA ns z es).length ∧ e = .returned (.bool false) ∧ Below w.heap.size w w') ∨
  (zx < z ∧ ¬ 1000 < (resA ns z es).length ∧ e = .returned (.bool true) ∧ ∃ v', B4F w' Br v' (.int .i64 z) (.int .i64 (k : Int)) (.int .i64 en) ∧ OwnN 85 w' w.heap.size v' (resA ns z es) ∧ w.grownBy w' (some Br))
theorem reach_any (w : World) (Br : Nat) (va : Option Addr) (vc : Nat) (ns : List Nd) (zx en z : Int) (k : Nat) (xa : Option Addr) (xc : Nat) (es : List Ef) (h : B4F w Br (.slice va ns.length vc) (.int .i64 zx) (.int .i64 (k : Int)) (.int .i64 en)) (hn : RdN w (.slice va ns.length vc) ns) (hnil : NilOk (.slice va ns.length vc)) (hg : Good ns) (hx : RdE w (.slice xa es.length xc) es) (hok : okTxn z es = true) :
    Calls Tryz.prog 39 #[.pointer (some ⟨Br, 0, none⟩), .agg #[.int .i64 z, .slice xa es.length xc]] w (ReachPost w Br ns zx k en z es) := by
 have B0 : Hid (Below w.heap.size w (w.alloc (.cells #[.int .i64 z, .slice xa es.length xc] 78))) := (Below.refl _ _).alloc (Nat.le_refl _) _
 have H0 : Hid (B4F (w.alloc (.cells #[.int .i64 z, .slice xa es.length xc] 78)) Br (.slice va ns.length vc) (.int .i64 zx) (.int .i64 (k : Int)) (.int .i64 en)) := h.below B0.out
 have HT : Hid (Box2 (w.alloc (.cells #[.int .i64 z, .slice xa es.length xc] 78)) w.heap.size (.int .i64 z) (.slice xa es.length xc)) := Box2.new _ _ _ _
 have HBr : Hid (Br < w.heap.size) := h.1
 have HN : Hid (RdN w (.slice va ns.length vc) ns) := hn
 have HX : Hid (RdE w (.slice xa es.length xc) es) := hx
 have HNIL : Hid (NilOk (.slice va ns.length vc)) := hnil
 have HG : Hid (Good ns) := hg
 have HOK : Hid (okTxn z es = true) := hok
 clear h hn hx hnil hg hok
 go_enter Tryz.func39, Tryz.ntmps39
 go_wp2_with fail
 obtain ⟨z0, ⟨c0, c1, c2, c3⟩, -⟩ := H0.out
 obtain ⟨z1, t0, t1⟩ := HT.out
 have HS0 : Hid ((w.alloc (.cells #[.int .i64 z, .slice xa es.length xc] 78)).heap.size = w.heap.size + 1) := by show _ = _; simp
 generalize w.alloc (.cells #[.int .i64 z, .slice xa es.length xc] 78) = w0 at *
 by_cases hle : z ≤ zx
 · go_quiet (fail)
   go_wp2
   go_ret
   exact .inl ⟨hle, rfl, below_drewQ B0.out _⟩
 · go_quiet (fail)
   have bq : Below w0.heap.size w0 (w0.drewN nq) := below_drewN' w0 nq
   have B1 : Hid (Below w.heap.size w (w0.drewN nq)) := B0.out.trans (bq.mono B0.out.size)
   have H1 : Hid (B4F (w0.drewN nq) Br (.slice va ns.length vc) (.int .i64 zx) (.int .i64 (k : Int)) (.int .i64 en)) := H0.out.below bq
   have T1 : Hid (Box2 (w0.drewN nq) w.heap.size (.int .i64 z) (.slice xa es.length xc)) := HT.out.below bq
   clear bq z0 c0 c1 c2 c3 z1 t0 t1 B0 H0 HT
   go_wp2_with fail
   generalize w0.drewN nq = w1 at *
   obtain ⟨z1, t0, t1⟩ := T1.out
   obtain ⟨z0, ⟨c0, c1, c2, c3⟩, -⟩ := H1.out
   have HAP : Hid (∀ W, Below w1.heap.size w1 W → Calls Tryz.prog 98 #[.agg #[.slice va ns.length vc], .agg #[.int .i64 z, .slice xa es.length xc]] W fun e w' => ∃ ra rc, e = .returned (.agg #[.slice ra (resA ns z es).length rc]) ∧ OwnN 85 w' W.heap.size (.slice ra (resA ns z es).length rc) (resA ns z es) ∧ Below W.heap.size W w') := by
    intro W hW
    have hb := B1.out.trans (hW.mono B1.out.size)
    refine (implApply_any W _ ns z _ es (HN.out.below hb) HNIL.out (HX.out.below hb) (good_sz HG.out) (es_sz HOK.out)).mono ?_
    rintro e w' ⟨v', rfl, o, b⟩
    obtain ⟨ra, rc, rfl⟩ := OwnN.slice9 o
    exact ⟨ra, rc, rfl, o, b⟩
   have hrl := resA_len ns z es
   have bP : Below w1.heap.size w1 w1.drew := below_drewN' w1 1
   refine wp_region_held_drew (S := fun W => W.cell? ⟨Br, 0, none⟩ = some (.slice va ns.length vc) ∧ W.cell? ⟨w.heap.size, 0, none⟩ = some (.int .i64 z) ∧ W.cell? ⟨w.heap.size, 1, none⟩ = some (.slice xa es.length xc)) (by kernel_rfl) (⟨(bP.cell (p := ⟨Br, 0, none⟩) H1.out.1).trans H1.out.2.1.1, (bP.cell (p := ⟨w.heap.size, 0, none⟩) T1.out.1).trans T1.out.2.1, (bP.cell (p := ⟨w.heap.size, 1, none⟩) T1.out.1).trans T1.out.2.2⟩) (fun hHeld => ?_)
   have BP : Hid (Below w1.heap.size w1 w1.drew) := bP
   clear bP
   generalize w1.drew = p1 at *
   refine tkL9 (i := 0) (oi := ⟨some 13, _, _, _, _, _⟩) (v := (.pointer (some ⟨Br, 0, none⟩))) rfl (by kernel_rfl) (fun _ _ _ h => h) (by rfl) (by assumption) ?hy6 ?_
   case hy6 => intro w9 hS9; obtain ⟨k0, k1, k2⟩ := hS9; go_simp; try with_reducible rfl
   try simp only [Act.put, sT9, sZ9, sS9]
   refine tkL9 (i := 1) (oi := ⟨some 14, _, _, _, _, _⟩) (v := (.pointer (some ⟨Br, 0, none⟩))) rfl (by kernel_rfl) (fun _ _ _ h => h) (by rfl) (by assumption) ?hy7 ?_
   case hy7 => intro w9 hS9; obtain ⟨k0, k1, k2⟩ := hS9; go_simp; try with_reducible rfl
   try simp only [Act.put, sT9, sZ9, sS9]
   refine tkL9 (i := 2) (oi := ⟨some 15, _, _, _, _, _⟩) (v := (.pointer (some ⟨Br, 0, none⟩))) rfl (by kernel_rfl) (fun _ _ _ h => h) (by rfl) (by assumption) ?hy8 ?_
   case hy8 => intro w9 hS9; obtain ⟨k0, k1, k2⟩ := hS9; go_simp; try with_reducible rfl
   try simp only [Act.put, sT9, sZ9, sS9]
   refine tkL9 (i := 3) (oi := ⟨some 16, _, _, _, _, _⟩) (v := (.agg #[.slice va ns.length vc])) rfl (by kernel_rfl) (fun _ _ _ h => h) (by rfl) (by assumption) ?hy9 ?_
   case hy9 => intro w9 hS9; obtain ⟨k0, k1, k2⟩ := hS9; go_simp; try with_reducible rfl
   try simp only [Act.put, sT9, sZ9, sS9]
   refine tkL9 (i := 4) (oi := ⟨some 17, _, _, _, _, _⟩) (v := (.agg #[.int .i64 z, .slice xa es.length xc])) rfl (by kernel_rfl) (fun _ _ _ h => h) (by rfl) (by assumption) ?hy10 ?_
   case hy10 => intro w9 hS9; obtain ⟨k0, k1, k2⟩ := hS9; go_simp; try with_reducible rfl
   try simp only [Act.put, sT9, sZ9, sS9]
   refine wpAnyH_ready (rs := [5, 6]) (by kernel_rfl) (by simp) ?_
   refine (AllReadyH.cons (o := ⟨some 18, _, _, _, _, _⟩) rfl (fun K hK => ?_) (AllReadyH.cons (o := ⟨some 5, _, _, _, _, _⟩) rfl (fun K hK => ?_) AllReadyH.nil))
   · go_simp
     refine (HAP.out p1 BP.out).mono ?_
     rintro e w2 ⟨ra, rc, rfl, o2, b2⟩
     have B2 := hd9 (BP.out.trans (b2.mono BP.out.size))
     have O2 : Hid (OwnN 85 w2 w1.heap.size (.slice ra (resA ns z es).length rc) (resA ns z es)) := o2.mono BP.out.size
     clear b2 o2
     refine hK.out _ _ (⟨(B2.out.cell (p := ⟨Br, 0, none⟩) H1.out.1).trans H1.out.2.1.1, (B2.out.cell (p := ⟨w.heap.size, 0, none⟩) T1.out.1).trans T1.out.2.1, (B2.out.cell (p := ⟨w.heap.size, 1, none⟩) T1.out.1).trans T1.out.2.2⟩) (fun hx9 => ?_)
     clear hK K hx9 hHeld
     have hHeld := (⟨(B2.out.cell (p := ⟨Br, 0, none⟩) H1.out.1).trans H1.out.2.1.1, (B2.out.cell (p := ⟨w.heap.size, 0, none⟩) T1.out.1).trans T1.out.2.1, (B2.out.cell (p := ⟨w.heap.size, 1, none⟩) T1.out.1).trans T1.out.2.2⟩ : (fun W => W.cell? ⟨Br, 0, none⟩ = some (.slice va ns.length vc) ∧ W.cell? ⟨w.heap.size, 0, none⟩ = some (.int .i64 z) ∧ W.cell? ⟨w.heap.size, 1, none⟩ = some (.slice xa es.length xc)) w2)
     try simp only [Act.put, sT9, sZ9, sS9]
     refine wpAnyH_ready (rs := [6]) (by kernel_rfl) (by simp) ?_
     refine (AllReadyH.cons (o := ⟨some 5, _, _, _, _, _⟩) rfl (fun K hK => ?_) AllReadyH.nil)
     go_simp
     have BA : Hid (Below w1.heap.size w1 (w2.alloc (.cells #[.slice none 0 0] 25))) := B2.out.alloc B2.out.size _
     refine hK.out _ _ (⟨(BA.out.cell (p := ⟨Br, 0, none⟩) H1.out.1).trans H1.out.2.1.1, (BA.out.cell (p := ⟨w.heap.size, 0, none⟩) T1.out.1).trans T1.out.2.1, (BA.out.cell (p := ⟨w.heap.size, 1, none⟩) T1.out.1).trans T1.out.2.2⟩) (fun hx9 => ?_)
     clear hK K hx9 hHeld
     have hHeld := (⟨(BA.out.cell (p := ⟨Br, 0, none⟩) H1.out.1).trans H1.out.2.1.1, (BA.out.cell (p := ⟨w.heap.size, 0, none⟩) T1.out.1).trans T1.out.2.1, (BA.out.cell (p := ⟨w.heap.size, 1, none⟩) T1.out.1).trans T1.out.2.2⟩ : (fun W => W.cell? ⟨Br, 0, none⟩ = some (.slice va ns.length vc) ∧ W.cell? ⟨w.heap.size, 0, none⟩ = some (.int .i64 z) ∧ W.cell? ⟨w.heap.size, 1, none⟩ = some (.slice xa es.length xc)) (w2.alloc (.cells #[.slice none 0 0] 25)))
     try simp only [Act.put, sT9, sZ9, sS9]
     refine wpAnyH_ready (rs := [7]) (by kernel_rfl) (by simp) ?_
     refine (AllReadyH.cons (o := ⟨none, _, _, _, _, _⟩) rfl (fun K hK => ?_) AllReadyH.nil)
     go_simp
     have B3 : Hid (Below w1.heap.size w1 (w2.alloc (.cells #[(.slice ra (resA ns z es).length rc)] 25))) := B2.out.alloc B2.out.size _
     have Y3 : Hid (w2.heap.size < (w2.alloc (.cells #[(.slice ra (resA ns z es).length rc)] 25)).heap.size ∧ (w2.alloc (.cells #[(.slice ra (resA ns z es).length rc)] 25)).cell? ⟨w2.heap.size, 0, none⟩ = some (.slice ra (resA ns z es).length rc)) := ⟨by simp, by simp⟩
     have O3 : Hid (OwnN 85 (w2.alloc (.cells #[(.slice ra (resA ns z es).length rc)] 25)) w1.heap.size (.slice ra (resA ns z es).length rc) (resA ns z es)) := O2.out.below ((Below.refl _ _).alloc (Nat.le_refl _) _)
     have N3 : Hid (w1.heap.size ≤ w2.heap.size) := B2.out.size
     clear BA B2 O2
     refine hK.out _ _ (⟨(B3.out.cell (p := ⟨Br, 0, none⟩) H1.out.1).trans H1.out.2.1.1, (B3.out.cell (p := ⟨w.heap.size, 0, none⟩) T1.out.1).trans T1.out.2.1, (B3.out.cell (p := ⟨w.heap.size, 1, none⟩) T1.out.1).trans T1.out.2.2⟩) (fun hx9 => ?_)
     clear hK K hx9 hHeld
     have hHeld := (⟨(B3.out.cell (p := ⟨Br, 0, none⟩) H1.out.1).trans H1.out.2.1.1, (B3.out.cell (p := ⟨w.heap.size, 0, none⟩) T1.out.1).trans T1.out.2.1, (B3.out.cell (p := ⟨w.heap.size, 1, none⟩) T1.out.1).trans T1.out.2.2⟩ : (fun W => W.cell? ⟨Br, 0, none⟩ = some (.slice va ns.length vc) ∧ W.cell? ⟨w.heap.size, 0, none⟩ = some (.int .i64 z) ∧ W.cell? ⟨w.heap.size, 1, none⟩ = some (.slice xa es.length xc)) ((w2.alloc (.cells #[(.slice ra (resA ns z es).length rc)] 25))))
     try simp only [Act.put, sT9, sZ9, sS9]
     refine wpAnyH_done (by kernel_rfl) ?_ _
     clear hHeld
     generalize (w2.alloc (.cells #[(.slice ra (resA ns z es).length rc)] 25)) = w3 at *
     generalize hBy : w2.heap.size = By at *
     clear hBy
     have B3w := hd9 (B1.out.trans (B3.out.mono B1.out.size))
     have H3 := hd9 (H1.out.below B3.out)
     have T3 := hd9 (T1.out.below B3.out)
     have S31 := B3.out.size
     have s1w := B1.out.size
     have hBr := HBr.out
     clear H1 T1 B1 z0 c0 c1 c2 c3 z1 t0 t1 HAP BP
     obtain ⟨z1, t0, t1⟩ := T3.out
     obtain ⟨z0, ⟨c0, c1, c2, c3⟩, f0, f1, f2, f3⟩ := H3.out
     obtain ⟨zy, y0⟩ := Y3.out
     by_cases hbig : 1000 < (resA ns z es).length
     · have hbigI : (1000 : Int) < ((resA ns z es).length : Int) := by omega
       go_wp2
       go_ret
       exact .inr (.inl ⟨by omega, hbig, rfl, B3w.out⟩)
     · have hbigI : ¬ (1000 : Int) < ((resA ns z es).length : Int) := by omega
       go_wp2_with fail
       have hyb : By ≠ Br := by have := N3.out; omega
       have hyb2 : Br ≠ By := fun e => hyb e.symm
       have hwb : w.heap.size ≠ Br := by omega
       have hwb2 : Br ≠ w.heap.size := by omega
       have NE : Hid (Value.ownBlock (.slice ra (resA ns z es).length rc) ≠ some Br) := fun e => by have h1 : w1.heap.size ≤ Br := (World.ownsRow.lt O3.out _ e).1; omega
       have FX : Hid (B4F (((w3.setCell ⟨Br, 0, none⟩ (.slice ra (resA ns z es).length rc)).setCell ⟨Br, 1, none⟩ (.int .i64 z))) Br (.slice ra (resA ns z es).length rc) (.int .i64 z) (.int .i64 (k : Int)) (.int .i64 en)) := (H3.out.set0 _).set1 _
       have FO : Hid (OwnN 85 (((w3.setCell ⟨Br, 0, none⟩ (.slice ra (resA ns z es).length rc)).setCell ⟨Br, 1, none⟩ (.int .i64 z))) w.heap.size (.slice ra (resA ns z es).length rc) (resA ns z es)) := ((O3.out.setO NE.out _).setO NE.out _).mono s1w
       have FG : Hid (w.grownBy (((w3.setCell ⟨Br, 0, none⟩ (.slice ra (resA ns z es).length rc)).setCell ⟨Br, 1, none⟩ (.int .i64 z))) (some Br)) := grownBy_set _ _ _ _ _ (grownBy_set _ _ _ _ _ ⟨B3w.out.os, B3w.out.tape, B3w.out.output, B3w.out.size, fun q hq _ => B3w.out.block q hq⟩)
       clear H3 T3 O3 B3 B3w NE
       go_region_law (fail)
       all_goals
        generalize ((w3.setCell ⟨Br, 0, none⟩ (.slice ra (resA ns z es).length rc)).setCell ⟨Br, 1, none⟩ (.int .i64 z)) = w9 at *
        go_wp2
        go_ret
        exact .inr (.inr ⟨by omega, hbig, rfl, _, FX.out.below (below_drewN' w9 1), FO.out.below (below_drewN' w9 1), ⟨FG.out.os, FG.out.tape, FG.out.output, FG.out.size, FG.out.block⟩⟩)
   · go_simp
     have BQ : Hid (Below w1.heap.size w1 (p1.alloc (.cells #[.slice none 0 0] 25))) := BP.out.alloc BP.out.size _
     have YQ : Hid (p1.heap.size < (p1.alloc (.cells #[.slice none 0 0] 25)).heap.size ∧ (p1.alloc (.cells #[.slice none 0 0] 25)).cell? ⟨p1.heap.size, 0, none⟩ = some (.slice none 0 0) ∧ (p1.alloc (.cells #[.slice none 0 0] 25)).frozen? ⟨p1.heap.size, 0, none⟩ = false) := ⟨by simp, by simp, by simp⟩
     refine hK.out _ _ (⟨(BQ.out.cell (p := ⟨Br, 0, none⟩) H1.out.1).trans H1.out.2.1.1, (BQ.out.cell (p := ⟨w.heap.size, 0, none⟩) T1.out.1).trans T1.out.2.1, (BQ.out.cell (p := ⟨w.heap.size, 1, none⟩) T1.out.1).trans T1.out.2.2⟩) (fun hx9 => ?_)
     clear hK K hx9 hHeld
     have hHeld := (⟨(BQ.out.cell (p := ⟨Br, 0, none⟩) H1.out.1).trans H1.out.2.1.1, (BQ.out.cell (p := ⟨w.heap.size, 0, none⟩) T1.out.1).trans T1.out.2.1, (BQ.out.cell (p := ⟨w.heap.size, 1, none⟩) T1.out.1).trans T1.out.2.2⟩ : (fun W => W.cell? ⟨Br, 0, none⟩ = some (.slice va ns.length vc) ∧ W.cell? ⟨w.heap.size, 0, none⟩ = some (.int .i64 z) ∧ W.cell? ⟨w.heap.size, 1, none⟩ = some (.slice xa es.length xc)) (p1.alloc (.cells #[.slice none 0 0] 25)))
     try simp only [Act.put, sT9, sZ9, sS9]
     have SQ : Hid ((p1.alloc (.cells #[.slice none 0 0] 25)).heap.size = p1.heap.size + 1) := by show _ = _; simp
     generalize (p1.alloc (.cells #[.slice none 0 0] 25)) = q1 at *
     refine wpAnyH_ready (rs := [5]) (by kernel_rfl) (by simp) ?_
     refine (AllReadyH.cons (o := ⟨some 18, _, _, _, _, _⟩) rfl (fun K hK => ?_) AllReadyH.nil)
     go_simp
     refine (HAP.out q1 BQ.out).mono ?_
     rintro e w2 ⟨ra, rc, rfl, o2, b2⟩
     have B2 := hd9 (BQ.out.trans (b2.mono BQ.out.size))
     have O2 : Hid (OwnN 85 w2 q1.heap.size (.slice ra (resA ns z es).length rc) (resA ns z es)) := o2
     have Y2 : Hid (p1.heap.size < w2.heap.size ∧ w2.cell? ⟨p1.heap.size, 0, none⟩ = some (.slice none 0 0) ∧ w2.frozen? ⟨p1.heap.size, 0, none⟩ = false) := ⟨Nat.lt_of_lt_of_le YQ.out.1 b2.size, (b2.cell (p := ⟨p1.heap.size, 0, none⟩) YQ.out.1).trans YQ.out.2.1, (b2.frozen (p := ⟨p1.heap.size, 0, none⟩) YQ.out.1).trans YQ.out.2.2⟩
     clear b2 o2
     refine hK.out _ _ (⟨(B2.out.cell (p := ⟨Br, 0, none⟩) H1.out.1).trans H1.out.2.1.1, (B2.out.cell (p := ⟨w.heap.size, 0, none⟩) T1.out.1).trans T1.out.2.1, (B2.out.cell (p := ⟨w.heap.size, 1, none⟩) T1.out.1).trans T1.out.2.2⟩) (fun hx9 => ?_)
     clear hK K hx9 hHeld
     have hHeld := (⟨(B2.out.cell (p := ⟨Br, 0, none⟩) H1.out.1).trans H1.out.2.1.1, (B2.out.cell (p := ⟨w.heap.size, 0, none⟩) T1.out.1).trans T1.out.2.1, (B2.out.cell (p := ⟨w.heap.size, 1, none⟩) T1.out.1).trans T1.out.2.2⟩ : (fun W => W.cell? ⟨Br, 0, none⟩ = some (.slice va ns.length vc) ∧ W.cell? ⟨w.heap.size, 0, none⟩ = some (.int .i64 z) ∧ W.cell? ⟨w.heap.size, 1, none⟩ = some (.slice xa es.length xc)) w2)
     try simp only [Act.put, sT9, sZ9, sS9]
     obtain ⟨zz, zc, zf⟩ := Y2.out
     refine wpAnyH_ready (rs := [7]) (by kernel_rfl) (by simp) ?_
     refine (AllReadyH.cons (o := ⟨none, _, _, _, _, _⟩) rfl (fun K hK => ?_) AllReadyH.nil)
     go_simp
     have B3 : Hid (Below w1.heap.size w1 (w2.setCell ⟨p1.heap.size, 0, none⟩ (.slice ra (resA ns z es).length rc))) := B2.out.setCell BP.out.size _
     have Y3 : Hid (p1.heap.size < (w2.setCell ⟨p1.heap.size, 0, none⟩ (.slice ra (resA ns z es).length rc)).heap.size ∧ (w2.setCell ⟨p1.heap.size, 0, none⟩ (.slice ra (resA ns z es).length rc)).cell? ⟨p1.heap.size, 0, none⟩ = some (.slice ra (resA ns z es).length rc)) := ⟨by simpa using zz, World.cell?_setCell_same _ _ _ zc⟩
     have O3 : Hid (OwnN 85 (w2.setCell ⟨p1.heap.size, 0, none⟩ (.slice ra (resA ns z es).length rc)) w1.heap.size (.slice ra (resA ns z es).length rc) (resA ns z es)) := (OwnN.setO O2.out (fun e => by have h1 : q1.heap.size ≤ p1.heap.size := (World.ownsRow.lt O2.out _ e).1; have := SQ.out; omega) _).mono (by have := SQ.out; have := BP.out.size; omega)
     have N3 : Hid (w1.heap.size ≤ p1.heap.size) := BP.out.size
     clear BQ YQ B2 O2 Y2 zz zc zf SQ
     refine hK.out _ _ (⟨(B3.out.cell (p := ⟨Br, 0, none⟩) H1.out.1).trans H1.out.2.1.1, (B3.out.cell (p := ⟨w.heap.size, 0, none⟩) T1.out.1).trans T1.out.2.1, (B3.out.cell (p := ⟨w.heap.size, 1, none⟩) T1.out.1).trans T1.out.2.2⟩) (fun hx9 => ?_)
     clear hK K hx9 hHeld
     have hHeld := (⟨(B3.out.cell (p := ⟨Br, 0, none⟩) H1.out.1).trans H1.out.2.1.1, (B3.out.cell (p := ⟨w.heap.size, 0, none⟩) T1.out.1).trans T1.out.2.1, (B3.out.cell (p := ⟨w.heap.size, 1, none⟩) T1.out.1).trans T1.out.2.2⟩ : (fun W => W.cell? ⟨Br, 0, none⟩ = some (.slice va ns.length vc) ∧ W.cell? ⟨w.heap.size, 0, none⟩ = some (.int .i64 z) ∧ W.cell? ⟨w.heap.size, 1, none⟩ = some (.slice xa es.length xc)) ((w2.setCell ⟨p1.heap.size, 0, none⟩ (.slice ra (resA ns z es).length rc))))
     try simp only [Act.put, sT9, sZ9, sS9]
     refine wpAnyH_done (by kernel_rfl) ?_ _
     clear hHeld
     generalize (w2.setCell ⟨p1.heap.size, 0, none⟩ (.slice ra (resA ns z es).length rc)) = w3 at *
     generalize hBy : p1.heap.size = By at *
     clear hBy
     have B3w := hd9 (B1.out.trans (B3.out.mono B1.out.size))
     have H3 := hd9 (H1.out.below B3.out)
     have T3 := hd9 (T1.out.below B3.out)
     have S31 := B3.out.size
     have s1w := B1.out.size
     have hBr := HBr.out
     clear H1 T1 B1 z0 c0 c1 c2 c3 z1 t0 t1 HAP BP
     obtain ⟨z1, t0, t1⟩ := T3.out
     obtain ⟨z0, ⟨c0, c1, c2, c3⟩, f0, f1, f2, f3⟩ := H3.out
     obtain ⟨zy, y0⟩ := Y3.out
     by_cases hbig : 1000 < (resA ns z es).length
     · have hbigI : (1000 : Int) < ((resA ns z es).length : Int) := by omega
       go_wp2
       go_ret
       exact .inr (.inl ⟨by omega, hbig, rfl, B3w.out⟩)
     · have hbigI : ¬ (1000 : Int) < ((resA ns z es).length : Int) := by omega
       go_wp2_with fail
       have hyb : By ≠ Br := by have := N3.out; omega
       have hyb2 : Br ≠ By := fun e => hyb e.symm
       have hwb : w.heap.size ≠ Br := by omega
       have hwb2 : Br ≠ w.heap.size := by omega
       have NE : Hid (Value.ownBlock (.slice ra (resA ns z es).length rc) ≠ some Br) := fun e => by have h1 : w1.heap.size ≤ Br := (World.ownsRow.lt O3.out _ e).1; omega
       have FX : Hid (B4F (((w3.setCell ⟨Br, 0, none⟩ (.slice ra (resA ns z es).length rc)).setCell ⟨Br, 1, none⟩ (.int .i64 z))) Br (.slice ra (resA ns z es).length rc) (.int .i64 z) (.int .i64 (k : Int)) (.int .i64 en)) := (H3.out.set0 _).set1 _
       have FO : Hid (OwnN 85 (((w3.setCell ⟨Br, 0, none⟩ (.slice ra (resA ns z es).length rc)).setCell ⟨Br, 1, none⟩ (.int .i64 z))) w.heap.size (.slice ra (resA ns z es).length rc) (resA ns z es)) := ((O3.out.setO NE.out _).setO NE.out _).mono s1w
       have FG : Hid (w.grownBy (((w3.setCell ⟨Br, 0, none⟩ (.slice ra (resA ns z es).length rc)).setCell ⟨Br, 1, none⟩ (.int .i64 z))) (some Br)) := grownBy_set _ _ _ _ _ (grownBy_set _ _ _ _ _ ⟨B3w.out.os, B3w.out.tape, B3w.out.output, B3w.out.size, fun q hq _ => B3w.out.block q hq⟩)
       clear H3 T3 O3 B3 B3w NE
       go_region_law (fail)
       all_goals
        generalize ((w3.setCell ⟨Br, 0, none⟩ (.slice ra (resA ns z es).length rc)).setCell ⟨Br, 1, none⟩ (.int .i64 z)) = w9 at *
        go_wp2
        go_ret
        exact .inr (.inr ⟨by omega, hbig, rfl, _, FX.out.below (below_drewN' w9 1), FO.out.below (below_drewN' w9 1), ⟨FG.out.os, FG.out.tape, FG.out.output, FG.out.size, FG.out.block⟩⟩)
theorem cloneN_any (w : World) (ao : Option Addr) (cap : Nat) (ns : List Nd) (h : RdN w (.slice ao ns.length cap) ns) (hn : ns.length ≤ 1000) :
    Calls Tryz.prog 35 #[.slice ao ns.length cap] w fun e w' => ∃ v', e = .returned v' ∧ OwnN 85 w' w.heap.size v' ns ∧ Below w.heap.size w w' := by
 obtain ⟨i0, hi, hz0, hz1, hz2⟩ := info_parts Tryz.infoN
 have q22 : ∀ (w : World) (a : Option Addr) (n c n' c' : Nat), (binOp .eql 23 (.slice a n c) (.slice none n' c')).run Tryz.prog w = .ok (.bool a.isNone) w := fun w a n c n' c' => Lib.run_eql_slice_nil w _ _ a n c n' c' Tryz.underlying23
 have HE : Hid ((w.alloc (.cells #[] 85)).ownsRow w.heap.size 85 7 (.slice (some ⟨w.heap.size, 0, none⟩) 0 0) 0 []) := World.ownsRow_lit w #[] 0 (Nat.le_refl _) (Nat.zero_le _) rfl
 have HB : Hid (Below w.heap.size w (w.alloc (.cells #[] 85))) := (Below.refl _ _).alloc (Nat.le_refl _) _
 have HR : Hid (RdN w (.slice ao ns.length cap) ns) := h
 cases ao with
 | none =>
  have hx : ns = [] := by
   obtain ⟨a', c', e, -, -, h3⟩ := h
   simp only [Value.slice.injEq] at e
   rcases h3 with h3 | ⟨b, o, e2, _⟩
   · exact h3
   · rw [← e.1] at e2; cases e2
  subst hx
  clear h HR
  go_enter Tryz.func35, Tryz.ntmps35
  go_wp2
  go_ret
  exact ⟨_, rfl, World.ownsRow_nil _ _ _ _, Below.refl _ _⟩
 | some a =>
  have HCS : Hid (∀ j u, (nrow ns)[j]? = some u → (w.alloc (.cells #[] 85)).cell? (a.add j) = some u) := fun j u hu => (HR.out.below HB.out).rowCells a rfl j u hu
  clear h
  generalize hl : ns.length = m at *
  have HL : Hid (ns.length = m) := hl
  clear hl
  go_enter Tryz.func35, Tryz.ntmps35
  go_wp2_with (at_builtin; go_must (refine wpList_append_own _ rfl _ _ 23 rfl w.heap.size 85 i0 _ 7 72 Tryz.underlying23 hi hz0 hz1 hz2 rfl (by decide) _ _ _ rfl HE.out a m cap (nrow ns) rfl ?c0 HCS.out (ndL_ones _) ?c3 ?c4 ?c5 ?_))
  case c0 => rw [nrow_length, HL.out]
  case c3 => unfold maxLen; omega
  case c4 => omega
  case c5 => simp
  intro v2 w2 ho2 hg2 _
  have HO2 : Hid (OwnN 85 w2 w.heap.size v2 ns) := by
   show World.ownsRow _ _ _ _ _ _ _
   rw [HL.out]
   exact ho2
  have HG2 : Hid (Below w.heap.size w w2) := HB.out.grown hg2 (by simp) (by intro q hq; simp [Value.ownBlock] at hq; omega)
  clear ho2 hg2
  go_wp2
  go_ret
  exact ⟨_, rfl, HO2.out, HG2.out⟩
attribute [local go_sem] Oper.semAt_some
theorem frames1_br (nn : Nat) (hn1 : 1 ≤ nn) (l Ba : Nat) (blk o n cap : Nat) (a : List Int) (hl : a.length = n) (hby : Byt a) (hn : n ≤ 8192)
    (St : List Value → World → Prop) (Bk StX BkX : World → Prop)
    (hSB : ∀ s X Y, Below X.heap.size X Y → St s X → St s Y) (hBB : ∀ X Y, Below X.heap.size X Y → Bk X → Bk Y)
    (hSR : ∀ s W, St s W → W.cell? ⟨Ba, 0, none⟩ = some (.slice (some ⟨blk, o, none⟩) n cap) ∧ Rd .u8 W (.slice (some ⟨blk, o, none⟩) n cap) a)
    (hY : ∀ s vs W, St s W → Bk W → PreS (scn n a) St s vs W → YieldAt Fence.wide (nn - 1) Tryz.prog l vs W fun e W' => (e = .returned (.bool true) ∧ St (s ++ [uOf vs]) W' ∧ Bk W') ∨ (e = .returned (.bool false) ∧ StX W' ∧ BkX W'))
    (W : World) (h0 : St [] W) (h1 : Bk W) :
    CallsIn Fence.wide nn Tryz.prog 89 #[.func (.yield l) #[] #[], .pointer (some ⟨Ba, 0, none⟩)] W fun e W' => (∃ v, e = .returned v) ∧ ((∃ s, s.length = (scn n a).length ∧ St s W' ∧ Bk W') ∨ (StX W' ∧ BkX W')) := by
 have HY : Hid (∀ s vs W, St s W → Bk W → PreS (scn n a) St s vs W → YieldAt Fence.wide (nn - 1) Tryz.prog l vs W fun e W' => (e = .returned (.bool true) ∧ St (s ++ [uOf vs]) W' ∧ Bk W') ∨ (e = .returned (.bool false) ∧ StX W' ∧ BkX W')) := hY
 have HSB : Hid (∀ s X Y, Below X.heap.size X Y → St s X → St s Y) := hSB
 have HBB : Hid (∀ X Y, Below X.heap.size X Y → Bk X → Bk Y) := hBB
 have HSR : Hid (∀ s W, St s W → W.cell? ⟨Ba, 0, none⟩ = some (.slice (some ⟨blk, o, none⟩) n cap) ∧ Rd .u8 W (.slice (some ⟨blk, o, none⟩) n cap) a) := hSR
 have H0 : Hid (St [] W) := h0
 have H1 : Hid (Bk W) := h1
 have HL : Hid (a.length = n) := hl
 have HBY : Hid (Byt a) := hby
 have HALL : Hid _ := scn_all n a (by omega)
 clear hY hSB hBB hSR h0 h1 hl hby
 obtain ⟨c0, r0⟩ := HSR.out [] W H0.out
 have hcn : n ≤ cap ∧ cap ≤ maxLen := by
  obtain ⟨_, _, e1, hc1, hc2⟩ := r0.len
  simp only [Value.slice.injEq] at e1; have := HL.out; omega
 clear c0 r0
 obtain ⟨hcn1, hcn2⟩ := hcn
 have HCM : Hid (cap ≤ maxLen) := hcn2
 unfold maxLen at hcn2
 generalize scn n a = R at *
 refine callsIn_of_wp Tryz.func89 rfl trivial ?_ rfl
 simp only [Tryz.ntmps89, List.size_toArray, List.length_cons, List.length_nil, Nat.reduceAdd, Nat.reduceSub, Array.replicate_succ, Array.replicate_zero, List.push_toArray, List.append_toArray, List.nil_append, List.cons_append]
 gi_wp2
 gi_loopw [3] (fun i wr => ∃ s : List Value, ∃ p : Nat, s.length ≤ R.length ∧ Hid (pos R s.length = p) ∧ p ≤ n ∧ i = .int .i64 p ∧ Hid (St s wr) ∧ Hid (Bk wr)) (fun i _ => n - (intOf i).toNat)
 case atStart => exact ⟨[], 0, Nat.zero_le _, pos_zero _, Nat.zero_le _, rfl, H0.out, H1.out⟩
 case round =>
  obtain ⟨s, p, hs, HP, hp, rfl, HS, HB⟩ := hrel
  obtain ⟨cB, rA⟩ := HSR.out s wr HS.out
  have RA : Hid (Rd .u8 wr (.slice (some ⟨blk, o, none⟩) n cap) a) := rA
  clear rA
  by_cases hcp : cap = p
  · have RS : Hid (Rd .u8 wr (.slice (some ⟨blk, o, none⟩) (n - p) 0) (a.drop p)) := by
     have e1 : n - p = 0 := by omega
     have e2 : a.drop p = [] := List.eq_nil_of_length_eq_zero (by rw [List.length_drop, HL.out]; exact e1)
     rw [e1, e2]; exact rd_empty _ _ _ (Nat.zero_le _)
    gi_wp2_with fail
    refine ⟨trivial, ?_⟩
    refine (callsIn_wide.2 (recordAt_any wr (some ⟨blk, o, none⟩) (n - p) 0 (a.drop p) RS.out (by rw [List.length_drop, HL.out]) (fun x hx => HBY.out x (List.mem_of_mem_drop hx)) (by omega))).mono ?_
    rintro e w2 ⟨⟨u, sz, rfl, hc⟩, b2⟩
    have HS2 : Hid (St s w2) := HSB.out s wr w2 b2 HS.out
    have HB2 : Hid (Bk w2) := HBB.out wr w2 b2 HB.out
    by_cases hlt : s.length < R.length
    · rcases hc with ⟨hf, -, -⟩ | ⟨hf, hsz, o2⟩
      · have := (HALL.out.1 s.length hlt).1; rw [HP.out, hf] at this; cases this
      · subst hsz
        have hget := (HALL.out.1 s.length hlt).2
        have hps := pos_succ R s.length hlt
        have hle := HALL.out.2.2 (s.length + 1) hlt
        rw [HP.out] at hget hps
        rw [hget] at hps
        rw [HL.out] at hle
        rw [hps] at hle
        omega
    · rcases hc with ⟨hf, rfl, rfl⟩ | ⟨hf, -, -⟩
      · have hsl : Hid (s.length = R.length) := by show _ = _; omega
        gi_wp2
        refine bodyPost_ret (results_none rfl _ _ _) rfl ?_
        exact ⟨⟨_, rfl⟩, .inl ⟨s, hsl.out, HSB.out s _ _ ((Below.refl _ _).alloc (Nat.le_refl _) _) HS2.out, HBB.out _ _ ((Below.refl _ _).alloc (Nat.le_refl _) _) HB2.out⟩⟩
      · have h9 := HALL.out.2.1
        have e9 : s.length = R.length := by omega
        rw [← e9, HP.out, hf] at h9; cases h9
  · have RS : Hid (Rd .u8 wr (.slice (some ⟨blk, o + p, none⟩) (n - p) (cap - p)) (a.drop p)) := rd_cutN RA.out HL.out blk o rfl p hp
    gi_wp2_with fail
    refine ⟨trivial, ?_⟩
    refine (callsIn_wide.2 (recordAt_any wr (some ⟨blk, o + p, none⟩) (n - p) (cap - p) (a.drop p) RS.out (by rw [List.length_drop, HL.out]) (fun x hx => HBY.out x (List.mem_of_mem_drop hx)) (by omega))).mono ?_
    rintro e w2 ⟨⟨u, sz, rfl, hc⟩, b2⟩
    have HS2 : Hid (St s w2) := HSB.out s wr w2 b2 HS.out
    have HB2 : Hid (Bk w2) := HBB.out wr w2 b2 HB.out
    by_cases hlt : s.length < R.length
    · rcases hc with ⟨hf, -, -⟩ | ⟨hf, hsz, o2⟩
      · have := (HALL.out.1 s.length hlt).1; rw [HP.out, hf] at this; cases this
      · subst hsz
        have hget := (HALL.out.1 s.length hlt).2
        have hps := pos_succ R s.length hlt
        have hle := HALL.out.2.2 (s.length + 1) hlt
        rw [HP.out] at hget hps
        rw [hget] at hps
        rw [HL.out] at hle
        have hP2 : Hid (pos R (s.length + 1) = p + (2 + frm_m (a.drop p))) := hps
        have hle2 : p + (2 + frm_m (a.drop p)) ≤ n := by rw [hps] at hle; exact hle
        obtain ⟨ua, uc, rfl⟩ := Own.slice o2
        have hul : (frm_p (a.drop p)).length ≤ maxLen := by obtain ⟨_, _, e, h1, h2⟩ := o2.rd.len; simp only [Value.slice.injEq] at e; omega
        unfold maxLen at hul
        have BA : Below w2.heap.size w2 (w2.alloc (.cells #[.slice ua (frm_p (a.drop p)).length uc] 40)) := (Below.refl _ _).alloc (Nat.le_refl _) _
        have hpre : PreS R St s #[.int .i64 (((p : Nat) : Int) + ((2 + frm_m (a.drop p) : Nat) : Int)), .agg #[.slice ua (frm_p (a.drop p)).length uc]] (w2.alloc (.cells #[.slice ua (frm_p (a.drop p)).length uc] 40)) := ⟨_, wr, by rw [hP2.out, Int.natCast_add p], hlt, HS.out, b2.trans (BA.mono b2.size), by rw [hget]; exact o2.below BA⟩
        have hYx := HY.out s _ _ (HSB.out s _ _ BA HS2.out) (HBB.out _ _ BA HB2.out) hpre
        clear hpre hget hps hle hf o2 b2 cB HS HB BA HS2 HB2
        have hszI : ¬ (((2 + frm_m (a.drop p) : Nat) : Int) = 0) := by omega
        generalize (frm_p (a.drop p)).length = ul at *
        generalize 2 + frm_m (a.drop p) = sz at *
        have hszb : ((sz : Int) == 0) = false := by simpa using hszI
        obtain ⟨fn, tmps, assign, body, hy, hR⟩ := hYx
        gi_wp2
        refine hR.mono ?_
        rintro e W3 (⟨rfl, hS3, hB3⟩ | ⟨rfl, hS3, hB3⟩)
        rotate_left
        · have HX3 : Hid (StX W3 ∧ BkX W3) := ⟨hS3, hB3⟩
          clear hS3 hB3 hy hR
          gi_wp2
          refine bodyPost_ret (results_none rfl _ _ _) rfl ?_
          exact ⟨⟨_, rfl⟩, .inr HX3.out⟩
        have HS3 : Hid (St (s ++ [.slice ua ul uc]) W3) := hS3
        have HB3 : Hid (Bk W3) := hB3
        clear hS3 hB3 hy hR
        gi_wp2
        go_roundw
        case rel => exact ⟨s ++ [.slice ua ul uc], p + sz, by rw [List.length_append]; exact hlt, by rw [List.length_append]; exact hP2.out, hle2, by go_num, HS3, HB3⟩
        case measure => simp [intOf]; omega
    · rcases hc with ⟨hf, rfl, rfl⟩ | ⟨hf, -, -⟩
      · have hsl : Hid (s.length = R.length) := by show _ = _; omega
        gi_wp2
        refine bodyPost_ret (results_none rfl _ _ _) rfl ?_
        exact ⟨⟨_, rfl⟩, .inl ⟨s, hsl.out, HSB.out s _ _ ((Below.refl _ _).alloc (Nat.le_refl _) _) HS2.out, HBB.out _ _ ((Below.refl _ _).alloc (Nat.le_refl _) _) HB2.out⟩⟩
      · have h9 := HALL.out.2.1
        have e9 : s.length = R.length := by omega
        rw [← e9, HP.out, hf] at h9; cases h9
theorem frames1_brnil (nn : Nat) (hn1 : 1 ≤ nn) (l Ba : Nat) (St : List Value → World → Prop) (Bk StX BkX : World → Prop)
    (hSB : ∀ s X Y, Below X.heap.size X Y → St s X → St s Y) (hBB : ∀ X Y, Below X.heap.size X Y → Bk X → Bk Y)
    (hSR : ∀ s W, St s W → W.cell? ⟨Ba, 0, none⟩ = some (.slice none 0 0))
    (W : World) (h0 : St [] W) (h1 : Bk W) :
    CallsIn Fence.wide nn Tryz.prog 89 #[.func (.yield l) #[] #[], .pointer (some ⟨Ba, 0, none⟩)] W fun e W' => (∃ v, e = .returned v) ∧ ((∃ s, s.length = (scn 0 []).length ∧ St s W' ∧ Bk W') ∨ (StX W' ∧ BkX W')) := by
 have HSB : Hid (∀ s X Y, Below X.heap.size X Y → St s X → St s Y) := hSB
 have HBB : Hid (∀ X Y, Below X.heap.size X Y → Bk X → Bk Y) := hBB
 have HSR : Hid (∀ s W, St s W → W.cell? ⟨Ba, 0, none⟩ = some (.slice none 0 0)) := hSR
 have H0 : Hid (St [] W) := h0
 have H1 : Hid (Bk W) := h1
 clear hSB hBB hSR h0 h1
 refine callsIn_of_wp Tryz.func89 rfl trivial ?_ rfl
 simp only [Tryz.ntmps89, List.size_toArray, List.length_cons, List.length_nil, Nat.reduceAdd, Nat.reduceSub, Array.replicate_succ, Array.replicate_zero, List.push_toArray, List.append_toArray, List.nil_append, List.cons_append]
 gi_wp2
 gi_loopw [3] (fun i wr => i = .int .i64 0 ∧ Hid (St [] wr) ∧ Hid (Bk wr)) (fun _ _ => 0)
 case atStart => exact ⟨rfl, H0.out, H1.out⟩
 case round =>
  obtain ⟨rfl, HS, HB⟩ := hrel
  have cB := HSR.out [] wr HS.out
  gi_wp2_with fail
  refine ⟨trivial, ?_⟩
  refine (callsIn_wide.2 (recordAt_any wr none 0 0 [] (rd_empty _ _ _ (Nat.zero_le _)) rfl (fun x hx => by cases hx) (by omega))).mono ?_
  rintro e w2 ⟨⟨u, sz, rfl, hc⟩, b2⟩
  have HS2 : Hid (St [] w2) := HSB.out [] wr w2 b2 HS.out
  have HB2 : Hid (Bk w2) := HBB.out wr w2 b2 HB.out
  rcases hc with ⟨hf, rfl, rfl⟩ | ⟨hf, -, -⟩
  · clear hf
    gi_wp2
    refine bodyPost_ret (results_none rfl _ _ _) rfl ?_
    exact ⟨⟨_, rfl⟩, .inl ⟨[], rfl, HSB.out [] _ _ ((Below.refl _ _).alloc (Nat.le_refl _) _) HS2.out, HBB.out _ _ ((Below.refl _ _).alloc (Nat.le_refl _) _) HB2.out⟩⟩
  · have := ((frmB_iff []).1 hf).1
    simp at this
end Go.Proofs.YtcopcegamadkgaaGreatDoor


