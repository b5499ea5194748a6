import Derived.Test.YtajnihjdhhmefaaScanMath
import Derived.Test.YtajnihjdhhmefaaDiskTo
namespace Go.Proofs.Ytajnihjdhhmefaa
open Go.RowKit

theorem Rd.cut {k : IntKind} {w : World} {ao : Option Addr} {n cap : Nat} {xs : List Int} (h : Rd k w (.slice ao n cap) xs) (hn : xs.length = n) (h0 : 0 < n) : ∃ blk o, ao = some ⟨blk, o, none⟩ ∧ blk < w.heap.size ∧ n ≤ cap ∧ cap ≤ maxLen ∧ ∀ i, i < n → w.cell? ⟨blk, o + i, none⟩ = some (.int k (xs.getD i 0)) := by
  obtain ⟨ao', cap', e, h1, h2, h3⟩ := h
  simp only [Value.slice.injEq] at e
  obtain ⟨rfl, hl, rfl⟩ := e
  rcases h3 with rfl | ⟨b, o, rfl, hb, hc⟩
  · simp at hn; omega
  · exact ⟨b, o, rfl, hb, by omega, h2, fun i hi => hc i (by omega)⟩

theorem rd_piece {k : IntKind} {w : World} {blk o n cap : Nat} {xs : List Int} (hb : blk < w.heap.size) (hc : ∀ i, i < n → w.cell? ⟨blk, o + i, none⟩ = some (.int k (xs.getD i 0))) (hn : xs.length = n) (i m : Nat) (hm : i + m ≤ n) (hcap : n ≤ cap) (hcm : cap ≤ maxLen) : Rd k w (.slice (some ⟨blk, o + i, none⟩) m (cap - i)) ((xs.drop i).take m) := by
  have hlen : ((xs.drop i).take m).length = m := by rw [List.length_take, List.length_drop]; omega
  refine ⟨_, cap - i, by rw [hlen], by omega, by omega, .inr ⟨blk, o + i, rfl, hb, fun j hj => ?_⟩⟩
  rw [hlen] at hj
  have := hc (i + j) (by omega)
  rw [Nat.add_assoc, this]
  simp [List.getD, List.getElem?_drop, hj]

theorem below_drewQ {B : Nat} {w w' : World} (h : Below B w w') (q : Nat) : Below B w (w'.drewN q) := ⟨h.os, h.tape, h.output, h.size, h.block⟩

theorem byt_piece {xs : List Int} (h : Byt xs) (i m : Nat) : Byt ((xs.drop i).take m) := fun x hx => h x (List.mem_of_mem_drop (List.mem_of_mem_take hx))

theorem box_set {w : World} {B : Nat} {v : Value} (h : Box w B v) (u : Value) : Box (w.setCell ⟨B, 0, none⟩ u) B u := ⟨by have h1 := h.1; go_simp, by have h2 := h.2; go_simp⟩
theorem box_alloc {w : World} {B : Nat} {v : Value} (h : Box w B v) (o : Obj) : Box (w.alloc o) B v := h.below ((Below.refl _ _).alloc (Nat.le_refl _) _)

set_option maxHeartbeats 2000000 in
set_option maxRecDepth 100000 in
theorem recordAt_any (w : World) (ao : Option Addr) (n cap : Nat) (a : List Int) (h : Rd .u8 w (.slice ao n cap) a) (hl : a.length = n) (hby : Byt a) (hn : n ≤ 8192) :
    Calls Try.prog 70 #[.slice ao n cap] w fun e w' => (∃ u s, e = .returned (.tuple #[.agg #[u], .int .i64 s]) ∧ ((frmB a = false ∧ s = 0 ∧ u = .slice none 0 0) ∨ (frmB a = true ∧ s = ((2 + frm_m a : Nat) : Int) ∧ Own .u8 5 w' w.heap.size u (frm_p a)))) ∧ Below w.heap.size w w' := by
  have B0 : Hid (Below w.heap.size w (w.alloc (.cells #[.slice none 0 0] 32))) := (Below.refl _ _).alloc (Nat.le_refl _) _
  have HL : Hid (a.length = n) := hl
  clear hl
  by_cases h2 : n < 2
  · have h2I : (n : Int) < 2 := by omega
    have h2d : decide ((n : Int) < 2) = true := by simpa using h2I
    have HF : Hid (frmB a = false) := frmB_no (fun hk => by have := hk.1; have := HL.out; omega)
    clear h hby
    go_enter Try.func70, Try.ntmps70
    go_wp2
    refine bodyPost_ret (v := .tuple #[.agg #[.slice none 0 0], .int .i64 0]) (by simp [results, Try.results70, go_sem]) rfl ⟨⟨_, _, rfl, .inl ⟨HF.out, rfl, rfl⟩⟩, ?_⟩
    repeat (first | exact B0.out | refine Below.setCell ?_ (by simp; try omega) _)
  · have h2I : ¬ (n : Int) < 2 := by omega
    have h2d : decide ((n : Int) < 2) = false := by simpa using h2I
    obtain ⟨blk, o, rfl, hb, hcap, hcm, hc⟩ := h.cut HL.out (by omega)
    obtain ⟨x0, hx0, hxe0⟩ := byt_at hby 0
    obtain ⟨x1, hx1, hxe1⟩ := byt_at hby 1
    have c0 := hc 0 (by omega)
    have c1 := hc 1 (by omega)
    rw [hxe0, Nat.add_zero] at c0
    rw [hxe1] at c1
    have HC : Hid (∀ i, i < n → w.cell? ⟨blk, o + i, none⟩ = some (.int .u8 (a.getD i 0))) := hc
    have HBY : Hid (Byt a) := hby
    have hn0 : (0 : Int) < (n : Int) := by omega
    have hn1 : (1 : Int) < (n : Int) := by omega
    have HM : Hid (frm_m a = x0 % 128 * 128 + x1 % 128) := by show _ = _; unfold frm_m; rw [hxe0, hxe1, Int.toNat_natCast, Int.toNat_natCast]
    have HCM : Hid (cap ≤ maxLen) := hcm
    unfold maxLen at hcm
    by_cases q0 : (x0 : Int) < 128
    · have q0d : decide ((x0 : Int) < 128) = true := by simpa using q0
      have HF : Hid (frmB a = false) := frmB_no (fun hk => by have := hk.2.1; rw [hxe0] at this; omega)
      clear h hby hc hxe0 hxe1
      go_enter Try.func70, Try.ntmps70
      go_wp2
      refine bodyPost_ret (v := .tuple #[.agg #[.slice none 0 0], .int .i64 0]) (by simp [results, Try.results70, go_sem]) rfl ⟨⟨_, _, rfl, .inl ⟨HF.out, rfl, rfl⟩⟩, ?_⟩
      repeat (first | exact B0.out | refine Below.setCell ?_ (by simp; try omega) _)
    · have q0d : decide ((x0 : Int) < 128) = false := by simpa using q0
      by_cases q1 : (x1 : Int) < 128
      · have q1d : decide ((x1 : Int) < 128) = true := by simpa using q1
        have HF : Hid (frmB a = false) := frmB_no (fun hk => by have := hk.2.2.1; rw [hxe1] at this; omega)
        clear h hby hc hxe0 hxe1
        go_enter Try.func70, Try.ntmps70
        go_wp2
        refine bodyPost_ret (v := .tuple #[.agg #[.slice none 0 0], .int .i64 0]) (by simp [results, Try.results70, go_sem]) rfl ⟨⟨_, _, rfl, .inl ⟨HF.out, rfl, rfl⟩⟩, ?_⟩
        repeat (first | exact B0.out | refine Below.setCell ?_ (by simp; try omega) _)
      · have q1d : decide ((x1 : Int) < 128) = false := by simpa using q1
        have hand0 := u8_low7 x0 hx0
        have hand1 := u8_low7 x1 hx1
        have HOK : Hid (2 + frm_m a ≤ n → frm_p a ≠ [] → (frm_p a).length ≤ 2000 → frmB a = true) := fun k1 k2 k3 => (frmB_iff a).2 ⟨by rw [HL.out]; omega, by rw [hxe0]; omega, by rw [hxe1]; omega, by rw [HL.out]; exact k1, k2, k3⟩
        clear h hby hc hxe0 hxe1
        generalize hy0 : x0 % 128 = y0 at *
        generalize hy1 : x1 % 128 = y1 at *
        have hy0' : y0 < 128 := by omega
        have hy1' : y1 < 128 := by omega
        clear hy0 hy1
        go_enter Try.func70, Try.ntmps70
        go_wp2_with fail
        go_quiet (fail)
        by_cases hs : 2 + (y0 * 128 + y1) ≤ n
        · have hsI : ¬ (n : Int) < 2 + (y0 : Int) * 128 + (y1 : Int) := by omega
          have hsd : decide ((n : Int) < 2 + (y0 : Int) * 128 + (y1 : Int)) = false := by simpa using hsI
          by_cases hcp : cap = 2
          · have hcpd : (cap = 2) = True := by simp [hcp]
            clear hcpd
            have RS : Hid (Rd .u8 w (.slice (some ⟨blk, o, none⟩) (2 + y0 * 128 + y1 - 2) 0) ((a.drop 2).take (frm_m a))) := by
              have hz : y0 * 128 + y1 = 0 := by omega
              rw [HM.out, hz, show 2 + y0 * 128 + y1 - 2 = 0 by omega]
              exact ⟨_, 0, rfl, Nat.le_refl _, Nat.zero_le _, .inl (by simp)⟩
            go_wp2_with fail
            refine (implUnpack_any _ _ _ (RS.out.below (below_drewQ B0.out nq)) (byt_piece HBY.out 2 (frm_m a)) (by rw [List.length_take]; have := HM.out; omega)).mono ?_
            rintro e w2 ⟨u, rfl, o2, b2⟩
            have o2' : Own .u8 5 w2 _ u (frm_p a) := o2
            obtain ⟨ua, uc, rfl⟩ := Own.slice o2'
            have B2 : Hid (Below w.heap.size w w2) := (below_drewQ B0.out nq).trans (b2.mono (by show w.heap.size ≤ (w.alloc _).heap.size; simp))
            have O2 : Hid (Own .u8 5 w2 w.heap.size (.slice ua (frm_p a).length uc) (frm_p a)) := Own.mono o2' (by show w.heap.size ≤ (w.alloc _).heap.size; simp)
            have hul : (frm_p a).length ≤ maxLen := by obtain ⟨_, _, e, h1, h2⟩ := O2.out.rd.len; simp only [Value.slice.injEq] at e; omega
            unfold maxLen at hul
            have X2 : Hid (Box w2 w.heap.size (.slice none 0 0)) := (Box.drewN (Box.new w (.slice none 0 0) 32) nq).below b2
            have F2 : Hid (w2.frozen? ⟨w.heap.size, 0, none⟩ = false) := (b2.frozen (p := ⟨w.heap.size, 0, none⟩) (by show w.heap.size < (w.alloc _).heap.size; simp)).trans (by simp)
            have NB : Hid (Value.ownBlock (.slice ua (frm_p a).length uc) ≠ some w.heap.size) := fun e => by have := (Own.lt o2' _ e).1; have h' : (w.alloc (.cells #[.slice none 0 0] 32)).heap.size ≤ w.heap.size := this; rw [World.size_alloc] at h'; omega
            have HP : Hid (frm_p a ≠ [] ↔ (frm_p a).length ≠ 0) := by show _ ↔ _; cases frm_p a <;> simp
            have HS : Hid (((2 + frm_m a : Nat) : Int) = 2 + (y0 : Int) * 128 + (y1 : Int)) := by rw [HM.out]; show _ = _; omega
            have HIN : Hid (2 + frm_m a ≤ n) := by rw [HM.out]; show _ ≤ _; omega
            have HNO : Hid ((frm_p a).length = 0 ∨ 2000 < (frm_p a).length → frmB a = false) := fun hh => frmB_no (fun hk => by have h5 := HP.out.1 hk.2.2.2.2.1; have h6 := hk.2.2.2.2.2; omega)
            have HYES : Hid ((frm_p a).length ≠ 0 → (frm_p a).length ≤ 2000 → frmB a = true) := fun h5 h6 => HOK.out HIN.out (HP.out.2 h5) h6
            clear o2 o2' b2 RS HOK
            obtain ⟨z2, d0⟩ := X2.out
            have f0 : w2.frozen? ⟨w.heap.size, 0, none⟩ = false := F2.out
            generalize hp : frm_p a = p at *
            have HPE : Hid (frm_p a = p) := hp
            clear hp
            have YY : ∀ (u : Value) (o : Obj), ((w2.setCell ⟨w.heap.size, 0, none⟩ u).alloc o).cell? ⟨w.heap.size, 0, none⟩ = some u := fun u o => (box_alloc (box_set X2.out u) o).2
            by_cases l0 : p.length = 0
            · have l0I : (p.length : Int) = 0 := by omega
              have l0b : ((p.length : Int) == 0) = true := by simpa using l0I
              go_wp2
              refine bodyPost_ret (v := .tuple #[.agg #[.slice none 0 0], .int .i64 0]) (by simp [results, Try.results70, go_sem, YY]) rfl ⟨⟨_, _, rfl, .inl ⟨HNO.out (.inl l0), rfl, rfl⟩⟩, ?_⟩
              repeat (first | exact B2.out | exact B2.out.alloc B2.out.size _ | refine Below.setCell ?_ (by simp; try omega) _ | refine Below.alloc ?_ (by simp; try omega) _)
            · have l0I : ¬ (p.length : Int) = 0 := by omega
              have l0b : ((p.length : Int) == 0) = false := by simpa using l0I
              by_cases l2 : 2000 < p.length
              · have l2I : (2000 : Int) < (p.length : Int) := by omega
                have l2d : decide ((2000 : Int) < (p.length : Int)) = true := by simpa using l2I
                go_wp2
                refine bodyPost_ret (v := .tuple #[.agg #[.slice none 0 0], .int .i64 0]) (by simp [results, Try.results70, go_sem, YY]) rfl ⟨⟨_, _, rfl, .inl ⟨HNO.out (.inr l2), rfl, rfl⟩⟩, ?_⟩
                repeat (first | exact B2.out | exact B2.out.alloc B2.out.size _ | refine Below.setCell ?_ (by simp; try omega) _ | refine Below.alloc ?_ (by simp; try omega) _)
              · have l2I : ¬ (2000 : Int) < (p.length : Int) := by omega
                have l2d : decide ((2000 : Int) < (p.length : Int)) = false := by simpa using l2I
                go_wp2
                refine bodyPost_ret (v := .tuple #[.agg #[.slice ua p.length uc], .int .i64 (2 + (y0 : Int) * 128 + (y1 : Int))]) (by simp [results, Try.results70, go_sem, YY]) rfl ⟨⟨_, _, rfl, .inr ⟨HYES.out l0 (by omega), HS.out.symm, ?_⟩⟩, ?_⟩
                · rw [HPE.out]
                  repeat (first | exact O2.out | refine Own.setAt ?_ (.inr NB.out) | refine World.ownsRow.alloc ?_ _)
                · repeat (first | exact B2.out | exact B2.out.alloc B2.out.size _ | refine Below.setCell ?_ (by simp; try omega) _ | refine Below.alloc ?_ (by simp; try omega) _)
          · have RS : Hid (Rd .u8 w (.slice (some ⟨blk, o + 2, none⟩) (2 + y0 * 128 + y1 - 2) (cap - 2)) ((a.drop 2).take (frm_m a))) := by
              rw [HM.out, show 2 + y0 * 128 + y1 - 2 = y0 * 128 + y1 by omega]
              exact rd_piece hb HC.out HL.out 2 (y0 * 128 + y1) (by omega) hcap HCM.out
            go_wp2_with fail
            refine (implUnpack_any _ _ _ (RS.out.below (below_drewQ B0.out nq)) (byt_piece HBY.out 2 (frm_m a)) (by rw [List.length_take]; have := HM.out; omega)).mono ?_
            rintro e w2 ⟨u, rfl, o2, b2⟩
            have o2' : Own .u8 5 w2 _ u (frm_p a) := o2
            obtain ⟨ua, uc, rfl⟩ := Own.slice o2'
            have B2 : Hid (Below w.heap.size w w2) := (below_drewQ B0.out nq).trans (b2.mono (by show w.heap.size ≤ (w.alloc _).heap.size; simp))
            have O2 : Hid (Own .u8 5 w2 w.heap.size (.slice ua (frm_p a).length uc) (frm_p a)) := Own.mono o2' (by show w.heap.size ≤ (w.alloc _).heap.size; simp)
            have hul : (frm_p a).length ≤ maxLen := by obtain ⟨_, _, e, h1, h2⟩ := O2.out.rd.len; simp only [Value.slice.injEq] at e; omega
            unfold maxLen at hul
            have X2 : Hid (Box w2 w.heap.size (.slice none 0 0)) := (Box.drewN (Box.new w (.slice none 0 0) 32) nq).below b2
            have F2 : Hid (w2.frozen? ⟨w.heap.size, 0, none⟩ = false) := (b2.frozen (p := ⟨w.heap.size, 0, none⟩) (by show w.heap.size < (w.alloc _).heap.size; simp)).trans (by simp)
            have NB : Hid (Value.ownBlock (.slice ua (frm_p a).length uc) ≠ some w.heap.size) := fun e => by have := (Own.lt o2' _ e).1; have h' : (w.alloc (.cells #[.slice none 0 0] 32)).heap.size ≤ w.heap.size := this; rw [World.size_alloc] at h'; omega
            have HP : Hid (frm_p a ≠ [] ↔ (frm_p a).length ≠ 0) := by show _ ↔ _; cases frm_p a <;> simp
            have HS : Hid (((2 + frm_m a : Nat) : Int) = 2 + (y0 : Int) * 128 + (y1 : Int)) := by rw [HM.out]; show _ = _; omega
            have HIN : Hid (2 + frm_m a ≤ n) := by rw [HM.out]; show _ ≤ _; omega
            have HNO : Hid ((frm_p a).length = 0 ∨ 2000 < (frm_p a).length → frmB a = false) := fun hh => frmB_no (fun hk => by have h5 := HP.out.1 hk.2.2.2.2.1; have h6 := hk.2.2.2.2.2; omega)
            have HYES : Hid ((frm_p a).length ≠ 0 → (frm_p a).length ≤ 2000 → frmB a = true) := fun h5 h6 => HOK.out HIN.out (HP.out.2 h5) h6
            clear o2 o2' b2 RS HOK
            obtain ⟨z2, d0⟩ := X2.out
            have f0 : w2.frozen? ⟨w.heap.size, 0, none⟩ = false := F2.out
            generalize hp : frm_p a = p at *
            have HPE : Hid (frm_p a = p) := hp
            clear hp
            have YY : ∀ (u : Value) (o : Obj), ((w2.setCell ⟨w.heap.size, 0, none⟩ u).alloc o).cell? ⟨w.heap.size, 0, none⟩ = some u := fun u o => (box_alloc (box_set X2.out u) o).2
            by_cases l0 : p.length = 0
            · have l0I : (p.length : Int) = 0 := by omega
              have l0b : ((p.length : Int) == 0) = true := by simpa using l0I
              go_wp2
              refine bodyPost_ret (v := .tuple #[.agg #[.slice none 0 0], .int .i64 0]) (by simp [results, Try.results70, go_sem, YY]) rfl ⟨⟨_, _, rfl, .inl ⟨HNO.out (.inl l0), rfl, rfl⟩⟩, ?_⟩
              repeat (first | exact B2.out | exact B2.out.alloc B2.out.size _ | refine Below.setCell ?_ (by simp; try omega) _ | refine Below.alloc ?_ (by simp; try omega) _)
            · have l0I : ¬ (p.length : Int) = 0 := by omega
              have l0b : ((p.length : Int) == 0) = false := by simpa using l0I
              by_cases l2 : 2000 < p.length
              · have l2I : (2000 : Int) < (p.length : Int) := by omega
                have l2d : decide ((2000 : Int) < (p.length : Int)) = true := by simpa using l2I
                go_wp2
                refine bodyPost_ret (v := .tuple #[.agg #[.slice none 0 0], .int .i64 0]) (by simp [results, Try.results70, go_sem, YY]) rfl ⟨⟨_, _, rfl, .inl ⟨HNO.out (.inr l2), rfl, rfl⟩⟩, ?_⟩
                repeat (first | exact B2.out | exact B2.out.alloc B2.out.size _ | refine Below.setCell ?_ (by simp; try omega) _ | refine Below.alloc ?_ (by simp; try omega) _)
              · have l2I : ¬ (2000 : Int) < (p.length : Int) := by omega
                have l2d : decide ((2000 : Int) < (p.length : Int)) = false := by simpa using l2I
                go_wp2
                refine bodyPost_ret (v := .tuple #[.agg #[.slice ua p.length uc], .int .i64 (2 + (y0 : Int) * 128 + (y1 : Int))]) (by simp [results, Try.results70, go_sem, YY]) rfl ⟨⟨_, _, rfl, .inr ⟨HYES.out l0 (by omega), HS.out.symm, ?_⟩⟩, ?_⟩
                · rw [HPE.out]
                  repeat (first | exact O2.out | refine Own.setAt ?_ (.inr NB.out) | refine World.ownsRow.alloc ?_ _)
                · repeat (first | exact B2.out | exact B2.out.alloc B2.out.size _ | refine Below.setCell ?_ (by simp; try omega) _ | refine Below.alloc ?_ (by simp; try omega) _)
        · have hsI : (n : Int) < 2 + (y0 : Int) * 128 + (y1 : Int) := by omega
          have hsd : decide ((n : Int) < 2 + (y0 : Int) * 128 + (y1 : Int)) = true := by simpa using hsI
          have HF : Hid (frmB a = false) := frmB_no (fun hk => by have := hk.2.2.2.1; rw [HM.out, HL.out] at this; omega)
          go_wp2
          refine bodyPost_ret (v := .tuple #[.agg #[.slice none 0 0], .int .i64 0]) (by simp [results, Try.results70, go_sem]) rfl ⟨⟨_, _, rfl, .inl ⟨HF.out, rfl, rfl⟩⟩, ?_⟩
          repeat (first | exact B0.out | refine Below.setCell ?_ (by simp; try omega) _ | exact below_drewQ B0.out _)

end Go.Proofs.Ytajnihjdhhmefaa
