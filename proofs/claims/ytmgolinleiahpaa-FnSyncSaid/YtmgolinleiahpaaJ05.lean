import Derived.Test.YtmgolinleiahpaaJ04
import Derived.Test.YtmgolinleiahpaaJ03
import Derived.Test.YtmgolinleiahpaaJ01
import Derived.Test.YtmgolinleiahpaaRows
import Derived.ShutString
import Derived.ChangeOld
namespace Go.Proofs.Ytmgolinleiahpaa
open Go.RowKit

/-- A box holds a disk that reads as two lists. -/
structure DB (W : World) (b : Nat) (u1 u2 : Value) (d : Dk) : Prop where
  x : BoxF W b u1 u2
  r1 : Rd .u8 W u1 d.1
  r2 : RdW W u2 d.2
theorem DB.below {W W' : World} {b : Nat} {u1 u2 : Value} {d : Dk} (h : DB W b u1 u2 d) (hb : Below W.heap.size W W') : DB W' b u1 u2 d := ⟨h.x.below hb, h.r1.below hb, h.r2.below hb⟩
/-- What the law holds: the drawn disk, the data and the written disk. -/
structure LS (w : World) (b5 : Nat) (u1 u2 : Value) (d : Dk) (v : Value) (X : List Int) (b8 : Nat) (p1 p2 : Value) (dw : Dk) (W : World) : Prop where
  d5 : DB W b5 u1 u2 d
  rv : Rd .u8 W v X
  d8 : DB W b8 p1 p2 dw
  b : Below w.heap.size w W
theorem LS.later {w : World} {b5 : Nat} {u1 u2 : Value} {d : Dk} {v : Value} {X : List Int} {b8 : Nat} {p1 p2 : Value} {dw : Dk} {W W' : World} (h : LS w b5 u1 u2 d v X b8 p1 p2 dw W) (hb : Below W.heap.size W W') : LS w b5 u1 u2 d v X b8 p1 p2 dw W' :=
  ⟨h.d5.below hb, h.rv.below hb, h.d8.below hb, h.b.trans (hb.mono h.b.size)⟩
/-- Is the block calm, as far as the law has looked? -/
def calmU (ps : List (Int × List Int)) (b : Int) (o k : Nat) : Bool := decide ((o : Int) ≠ b) && (List.range k).all (fun i => decide (pB ps i ≠ (o : Int)))
theorem calmU_yes {ps : List (Int × List Int)} {b : Int} {o : Nat} (h : calmU ps b o ps.length = true) : b ≠ (o : Int) ∧ ∀ i, i < ps.length → pB ps i ≠ (o : Int) := by
  unfold calmU at h
  simp only [Bool.and_eq_true, decide_eq_true_eq, List.all_eq_true, List.mem_range] at h
  exact ⟨fun e => h.1 e.symm, h.2⟩
theorem calmU_succ (ps : List (Int × List Int)) (b : Int) (o k : Nat) : calmU ps b o (k + 1) = (calmU ps b o k && decide (pB ps k ≠ (o : Int))) := by
  unfold calmU
  rw [List.range_succ, List.all_append]
  simp [Bool.and_assoc]
theorem disk_sm (s : Sr) (hs : s.size ≤ 7) : s.disk.1.1.length ≤ 19264 ∧ s.disk.1.2.length ≤ 2001 ∧ ∀ i, (pD s.disk.1.2 i).length ≤ 65 := by
  obtain ⟨g1, g2, g3⟩ := good_sm s hs
  unfold Sr.disk
  generalize s.good = q at *
  have h2 := (q.2.next 30).2.next_lt 2 (by omega)
  have h3 := (q.2.next 30).2.next_lt 3 (by omega)
  have h4 := ((q.2.next 30).2.next 2).2.next_lt 3 (by omega)
  have snoc : ∀ (x : Int) (n : Nat), n ≤ 65 → ∀ i, (pD (q.1.2 ++ [(x, zeros n)]) i).length ≤ 65 := by
    intro x n hn i
    by_cases hi : i < q.1.2.length
    · rw [pD_app _ _ _ hi]; have := g3 i; omega
    · by_cases he : i = q.1.2.length
      · rw [he, pD_last]; simp only [zeros_len]; exact hn
      · unfold pD
        simp only [List.getD]
        rw [List.getElem?_eq_none (by simp; omega)]
        simp
  have old : ∀ i, (pD q.1.2 i).length ≤ 65 := fun i => by have := g3 i; omega
  unfold Sr.dk
  split
  · exact ⟨by simp; omega, by simp; omega, old⟩
  · split
    · exact ⟨by simp, by simp; omega, old⟩
    · split
      · exact ⟨by simp only [zeros_len]; omega, by simp; omega, old⟩
      · split
        · exact ⟨by simp; omega, by simp; omega, snoc _ _ (by omega)⟩
        · split
          · exact ⟨by simp; omega, by simp; omega, snoc _ _ (by omega)⟩
          · split
            · refine ⟨by simp; omega, by simp; omega, fun i => ?_⟩
              unfold pD
              simp only [List.getD]
              by_cases hi : i < q.1.2.length
              · rw [List.getElem?_append_left hi]
                exact old i
              · rw [List.getElem?_append_right (by omega), List.getElem?_replicate]
                split
                · simp [zeros_len]
                · simp
            · exact ⟨Nat.le_trans g1 (by omega), Nat.le_trans g2 (by omega), old⟩
theorem fill_byt (s : Sr) : Byt s.fill.1 := by
  intro x hx
  have h1 := s.next_lt 255 (by omega)
  have h3 := ((s.next 255).2.next 64).2.next_lt 256 (by omega)
  unfold Sr.fill at hx
  rcases List.mem_or_eq_of_mem_set hx with hx | hx
  · have := List.eq_of_mem_replicate hx
    omega
  · omega
theorem drawX_byt (q : Dk × Sr) : Byt (drawX q) := by
  unfold drawX
  split
  · exact fun x hx => fill_byt _ x (List.mem_of_mem_drop hx)
  · exact fill_byt _
/-- What is known of what is drawn, said of lists. -/
def WP (W : World) (d : Dk) (b : Int) (X : List Int) (e : Ending) (w' : World) : Prop := ∃ a1 c1 a2 c2 ax cx, e = .returned (.tuple #[.agg #[.slice a1 d.1.length c1, .slice a2 d.2.length c2], .int .i64 b, .slice ax X.length cx]) ∧ (Rd .u8 w' (.slice a1 d.1.length c1) d.1 ∧ RdW w' (.slice a2 d.2.length c2) d.2 ∧ Rd .u8 w' (.slice ax X.length cx) X) ∧
  (∀ j x y, j < W.heap.size → Rd .u8 ((w'.setCell ⟨j, 0, none⟩ x).setCell ⟨j, 1, none⟩ y) (.slice a1 d.1.length c1) d.1 ∧ RdW ((w'.setCell ⟨j, 0, none⟩ x).setCell ⟨j, 1, none⟩ y) (.slice a2 d.2.length c2) d.2 ∧ Rd .u8 ((w'.setCell ⟨j, 0, none⟩ x).setCell ⟨j, 1, none⟩ y) (.slice ax X.length cx) X) ∧ Below W.heap.size W w'
theorem WrPost.wp {W : World} {q : Dk × Sr} {e : Ending} {w' : World} (h : WrPost W q e w') : WP W q.1 (drawB q) (drawX q) e w' := by
  obtain ⟨u1, u2, v, rfl, ⟨r1, r2, rx⟩, hst, hb⟩ := h
  obtain ⟨a1, c1, hu1, -, -⟩ := r1.len
  obtain ⟨a2, c2, hu2, -, -⟩ := r2.len
  obtain ⟨ax, cx, hvx, -, -⟩ := rx.len
  subst hu1 hu2 hvx
  exact ⟨a1, c1, a2, c2, ax, cx, rfl, ⟨r1, r2, rx⟩, hst, hb⟩
theorem rdW_nil (w : World) : RdW w (.slice none 0 0) [] := ⟨none, 0, rfl, Nat.le_refl _, Nat.zero_le _, .inl rfl⟩
theorem rdA_nil (b : Int) : rdA [] [] b = [] := by
  unfold rdA rdOk
  rw [show vldD ([] : List Int).length [] = false by decide]
  rfl
theorem field_disk (x y : Value) (W : World) : (Instr.field 32 (.agg #[x, y]) 0).run Try.prog W = .ok x W := by kernel_rfl
set_option linter.unusedSimpArgs false in
set_option maxHeartbeats 4000000 in
set_option maxRecDepth 100000 in
theorem lawSync_walk (w : World) (v : Value) (xs : List Int) (h : Rd .u8 w v xs) (hby : Byt xs) (u : Value) (ys : List Int) (hy : Rd .u8 w u ys) (hbz : Byt ys) :
    Calls Try.prog 4 #[v, u] w fun e w' => e = .returned (.bool true) ∧ Below w.heap.size w w' := by
  obtain ⟨va, ca, rfl, hl1, hl2⟩ := h.len
  obtain ⟨ua, cu, rfl, hk1, hk2⟩ := hy.len
  have HR : Hid (Rd .u8 w (.slice va xs.length ca) xs) := h
  have HY : Hid (Rd .u8 w (.slice ua ys.length cu) ys) := hy
  have HBX : Hid (Byt xs) := hby
  have HBY : Hid (Byt ys) := hbz
  clear h hy hby hbz
  unfold maxLen at hl2 hk2
  by_cases hb1 : 1048576 < xs.length
  · have hbI : (1048576 : Int) < (xs.length : Int) := by omega
    go_enter Try.func4, Try.ntmps4
    go_wp2
    go_ret
    exact ⟨rfl, Below.refl _ _⟩
  have hbI : ¬ (1048576 : Int) < (xs.length : Int) := by omega
  by_cases hb2 : 1048576 < ys.length
  · have hbJ : (1048576 : Int) < (ys.length : Int) := by omega
    go_enter Try.func4, Try.ntmps4
    go_wp2
    go_ret
    exact ⟨rfl, Below.refl _ _⟩
  have hbJ : ¬ (1048576 : Int) < (ys.length : Int) := by omega
  have hxl : xs.length ≤ 1048576 := by omega
  have hyl : ys.length ≤ 1048576 := by omega
  obtain ⟨d, b, X, HDR, hq1, hq2, HQ3, hX, HXB⟩ : ∃ (d : Dk) (b : Int) (X : List Int), Hid (∀ W v, Rd .u8 W v xs → Calls Try.prog 14 #[v] W fun e w' => WP W d b X e w') ∧ d.1.length ≤ 19264 ∧ d.2.length ≤ 2001 ∧ Hid (∀ i, (pD d.2 i).length ≤ 1048576) ∧ X.length ≤ 64 ∧ Hid (Byt X) := by
    obtain ⟨h1, h2, h3⟩ := disk_sm (srcOf xs) (by simp only [srcOf]; omega)
    refine ⟨(srcOf xs).disk.1, drawB (srcOf xs).disk, drawX (srcOf xs).disk, fun W v hv => (drawWrite_x W v xs hv HBX.out hxl).mono (fun e w' hh => hh.wp), h1, h2, fun i => by have := h3 i; omega, ?_, drawX_byt _⟩
    unfold drawX
    split
    · rw [List.length_drop, Sr.fill_len]; omega
    · rw [Sr.fill_len]; omega
  go_enter Try.func4, Try.ntmps4
  go_wp2_with fail
  refine (HDR.out _ _ HR.out).mono ?_
  rintro e w1 ⟨a1, c1, a2, c2, ax, cx, rfl, ⟨r1, r2, rx⟩, -, b1⟩
  have ba : Below w1.heap.size w1 (w1.alloc (.cells #[.slice a1 d.1.length c1, .slice a2 d.2.length c2] 32)) := (Below.refl _ _).alloc (Nat.le_refl _) _
  have X5 : BoxF (w1.alloc (.cells #[.slice a1 d.1.length c1, .slice a2 d.2.length c2] 32)) w1.heap.size (.slice a1 d.1.length c1) (.slice a2 d.2.length c2) := BoxF.new _ _ _ _
  have zA : (w1.alloc (.cells #[.slice a1 d.1.length c1, .slice a2 d.2.length c2] 32)).heap.size = w1.heap.size + 1 := by simp
  have hc1 := conv_any (rx.below ba)
  obtain ⟨cap1, W1, hr1, bb1, z1, rr1, -⟩ := conv_back (w1.alloc (.cells #[.slice a1 d.1.length c1, .slice a2 d.2.length c2] 32)) X HXB.out (by omega)
  have R1 : Hid (Rd .u8 W1 (.slice a1 d.1.length c1) d.1) := (r1.below ba).below bb1
  have R2 : Hid (RdW W1 (.slice a2 d.2.length c2) d.2) := (r2.below ba).below bb1
  have X1 : Hid (BoxF W1 w1.heap.size (.slice a1 d.1.length c1) (.slice a2 d.2.length c2)) := X5.below bb1
  have RR : Hid (Rd .u8 W1 (.slice (some ⟨w1.heap.size + 1, 0, none⟩) X.length cap1) X) := by rw [zA] at rr1; exact rr1
  have B1 : Hid (Below w.heap.size w W1) := (b1.trans (ba.mono b1.size)).trans (bb1.mono (by have := b1.size; omega))
  have hW1 : w1.heap.size < W1.heap.size := by omega
  have hwb1 : w.heap.size ≤ w1.heap.size := b1.size
  clear r1 r2 rx ba X5 bb1 z1 rr1 b1
  go_wp2_with fail
  clear hc1 hr1 zA
  refine (implWrite_any W1 (.slice a1 d.1.length c1) (.slice a2 d.2.length c2) (.slice (some ⟨w1.heap.size + 1, 0, none⟩) X.length cap1) d.1 X d.2 b R1.out R2.out RR.out (by omega) (by omega) HQ3.out).mono ?_
  rintro e w3 ⟨p1, p2, dvw, rfl, ow, bw⟩
  obtain ⟨dw, hdw⟩ : ∃ dw : Dk, dw = (wrDur d.1 d.2 b X, wrPend d.1 d.2 b X) := ⟨_, rfl⟩
  have HDW : Hid (dw = (wrDur d.1 d.2 b X, wrPend d.1 d.2 b X)) := hdw
  replace ow : OwnD w3 W1.heap.size w3.heap.size p1 p2 dw.1 dw.2 dvw := by rw [hdw]; exact ow
  clear hdw
  obtain ⟨e1, f1, hp1⟩ := ow.d.slice
  obtain ⟨e2, f2, hp2⟩ := ow.p.slice
  subst hp1 hp2
  have ba : Below w3.heap.size w3 (w3.alloc (.cells #[.slice e1 dw.1.length f1, .slice e2 dw.2.length f2] 32)) := (Below.refl _ _).alloc (Nat.le_refl _) _
  have X8 : Hid (BoxF (w3.alloc (.cells #[.slice e1 dw.1.length f1, .slice e2 dw.2.length f2] 32)) w3.heap.size (.slice e1 dw.1.length f1) (.slice e2 dw.2.length f2)) := BoxF.new _ _ _ _
  have OW : Hid (OwnD (w3.alloc (.cells #[.slice e1 dw.1.length f1, .slice e2 dw.2.length f2] 32)) W1.heap.size w3.heap.size (.slice e1 dw.1.length f1) (.slice e2 dw.2.length f2) dw.1 dw.2 dvw) := ow.below ba
  have X5 : Hid (BoxF (w3.alloc (.cells #[.slice e1 dw.1.length f1, .slice e2 dw.2.length f2] 32)) w1.heap.size (.slice a1 d.1.length c1) (.slice a2 d.2.length c2)) := (X1.out.below bw).below ba
  have B3 : Hid (Below w.heap.size w (w3.alloc (.cells #[.slice e1 dw.1.length f1, .slice e2 dw.2.length f2] 32))) := (B1.out.trans (bw.mono B1.out.size)).trans (ba.mono (by have := B1.out.size; have := bw.size; omega))
  have hw3 := bw.size
  clear ba ow bw X1 R1 R2 RR B1
  go_wp2_with fail
  generalize w3.alloc (.cells #[.slice e1 dw.1.length f1, .slice e2 dw.2.length f2] 32) = w4 at *
  have hw4 := X8.out.1.1
  have hne58 : w3.heap.size ≠ w1.heap.size := by omega
  generalize w3.heap.size = b8 at *
  generalize w1.heap.size = b5 at *
  have hwb : w.heap.size ≤ b5 := hwb1
  refine (HDR.out _ _ (HR.out.below B3.out)).mono ?_
  rintro e w5 ⟨a3, c3, a4, c4, ay, cy, rfl, ⟨s1, s2, sx⟩, hst, b5'⟩
  have hst2 := hst b5 (.slice a3 d.1.length c3) (.slice a4 d.2.length c4) (by omega)
  have L6 : Hid (LS w b5 (.slice a3 d.1.length c3) (.slice a4 d.2.length c4) d (.slice ay X.length cy) X b8 (.slice e1 dw.1.length f1) (.slice e2 dw.2.length f2) dw ((w5.setCell ⟨b5, 0, none⟩ (.slice a3 d.1.length c3)).setCell ⟨b5, 1, none⟩ (.slice a4 d.2.length c4))) := by
    have hD := (OW.out.below b5').below2 (b := b5) (x := .slice a3 d.1.length c3) (y := .slice a4 d.2.length c4) (by omega)
    refine ⟨⟨(X5.out.below b5').set2 _ _, hst2.1, hst2.2.1⟩, hst2.2.2, ⟨(X8.out.below b5').off2 hne58 _ _, hD.d.rd, hD.p.rd⟩, ?_⟩
    have hbw := B3.out.trans (b5'.mono B3.out.size)
    exact (hbw.setCell (p := ⟨b5, 0, none⟩) hwb _).setCell (p := ⟨b5, 1, none⟩) hwb _
  obtain ⟨⟨zb, cb0, cb1⟩, fb0, fb1⟩ := X5.out.below b5'
  clear s1 s2 sx hst hst2 b5' X5 X8 OW B3
  go_wp2_with fail
  clear zb cb0 cb1 fb0 fb1
  generalize (w5.setCell ⟨b5, 0, none⟩ (.slice a3 d.1.length c3)).setCell ⟨b5, 1, none⟩ (.slice a4 d.2.length c4) = w6 at *
  refine (specWrite_any w6 (.slice a3 d.1.length c3) (.slice a4 d.2.length c4) (.slice ay X.length cy) d.1 X d.2 b L6.out.d5.r1 L6.out.d5.r2 L6.out.rv (by omega) (by omega) HQ3.out).mono ?_
  rintro e w7 ⟨t1, t2, dvs, rfl, os, bs⟩
  obtain ⟨g1, h1, ht1⟩ := os.d.slice
  obtain ⟨g2, h2, ht2⟩ := os.p.slice
  subst ht1 ht2
  have L7 : Hid (LS w b5 (.slice a3 d.1.length c3) (.slice a4 d.2.length c4) d (.slice ay X.length cy) X b8 (.slice e1 dw.1.length f1) (.slice e2 dw.2.length f2) dw w7) := L6.out.later bs
  clear os bs L6 HDR HR
  by_cases hok : wrOk d.1.length d.2 b X.length = true
  rotate_left
  · have hok' : wrOk d.1.length d.2 b X.length = false := by simpa using hok
    have hw1 : wrDur d.1 d.2 b X = [] := by unfold wrDur; rw [hok']; rfl
    have hw2 : wrPend d.1 d.2 b X = [] := by unfold wrPend; rw [hok']; rfl
    have hdw := HDW.out
    rw [hw1, hw2] at hdw
    subst hdw
    rw [hw1]
    have hfd := field_disk (.slice g1 0 h1) (.slice g2 (wrPend d.1 d.2 b X).length h2) w7
    obtain ⟨⟨zb, cb0, cb1⟩, -⟩ := L7.out.d8.x
    clear hok hok' hw1 hw2
    go_wp2_with fail
    clear zb cb0 cb1 hfd
    refine (implRead_any w7 (.slice e1 0 f1) (.slice e2 0 f2) [] [] b L7.out.d8.r1 L7.out.d8.r2 (by simp) (by simp) (fun i => by simp [pD])).mono ?_
    rintro e w8 ⟨vr, rfl, orr, br⟩
    rw [rdA_nil] at orr
    obtain ⟨ar, cr, hvr⟩ := orr.slice
    subst hvr
    have B8 : Hid (Below w.heap.size w w8) := L7.out.b.trans (br.mono L7.out.b.size)
    clear orr br
    go_wp2
    go_ret
    exact ⟨rfl, B8.out⟩
  have hw1 : wrDur d.1 d.2 b X = d.1 := by unfold wrDur; rw [hok]; rfl
  have hw2 : wrPend d.1 d.2 b X = d.2 ++ [(b, X)] := by unfold wrPend; rw [hok]; rfl
  have HOK : Hid (wrOk d.1.length d.2 b X.length = true) := hok
  have hlen : 64 ≤ d.1.length := (vld_len (wrOk_parts hok).1).2
  rw [hw1]
  have hfd := field_disk (.slice g1 d.1.length h1) (.slice g2 (wrPend d.1 d.2 b X).length h2) w7
  have HDW2 : Hid (dw = (d.1, d.2 ++ [(b, X)])) := by show _ = _; rw [HDW.out, hw1, hw2]
  have hdl1 : dw.1.length ≤ 19264 := by rw [HDW2.out]; exact hq1
  have hdl2 : dw.2.length ≤ 2002 := by rw [HDW2.out, List.length_append]; simp; omega
  have HDL3 : Hid (∀ i, (pD dw.2 i).length ≤ 1048576) := by
    intro i
    rw [HDW2.out]
    by_cases hi : i < d.2.length
    · rw [pD_app _ _ _ hi]; exact HQ3.out i
    · by_cases he : i = d.2.length
      · rw [he, pD_last]; simp only; omega
      · unfold pD
        simp only [List.getD]
        rw [List.getElem?_eq_none (by simp; omega)]
        simp
  clear hw1 hw2 hok HDW
  have hne0 : ((d.1.length : Int) == 0) = false := beq_eq_false_iff_ne.2 (by omega)
  obtain ⟨⟨zb, cb0, cb1⟩, -⟩ := L7.out.d8.x
  go_wp2_with fail
  clear zb cb0 cb1 hne0 hfd
  refine (implSync_any w7 (.slice e1 dw.1.length f1) (.slice e2 dw.2.length f2) dw.1 dw.2 L7.out.d8.r1 L7.out.d8.r2 (by omega) (by omega) HDL3.out).mono ?_
  rintro e w8 ⟨uy, rfl, oy, by8⟩
  have L8 : Hid (LS w b5 (.slice a3 d.1.length c3) (.slice a4 d.2.length c4) d (.slice ay X.length cy) X b8 (.slice e1 dw.1.length f1) (.slice e2 dw.2.length f2) dw w8) := L7.out.later by8
  obtain ⟨ay8, cy8, huy⟩ := oy.slice
  subst huy
  have hsl := syD_len dw.1 dw.2
  have OY : Hid (Rd .u8 w8 (.slice ay8 (syD dw.1 dw.2).length cy8) (syD dw.1 dw.2)) := oy.rd
  clear oy by8 L7
  have hch := choices_any w8 (.slice ua ys.length cu) ys 0 (HY.out.below L8.out.b) HBY.out hyl (by omega)
  rw [show ((0 : Nat) : Int) = 0 from rfl] at hch
  have HCH : Hid (Calls Try.prog 20 #[.slice ua ys.length cu, .int .i64 0] w8 fun e w' => ∃ u cs, e = .returned u ∧ Own .i64 2 w' w8.heap.size u cs ∧ cs.length = 6 ∧ Below w8.heap.size w8 w') := hch
  clear hch
  go_wp2_with fail
  refine HCH.out.mono ?_
  clear HCH
  rintro e w9 ⟨uc, cs, rfl, oc, hcs, bc⟩
  have L9 : Hid (LS w b5 (.slice a3 d.1.length c3) (.slice a4 d.2.length c4) d (.slice ay X.length cy) X b8 (.slice e1 dw.1.length f1) (.slice e2 dw.2.length f2) dw w9) := L8.out.later bc
  have OY9 : Hid (Rd .u8 w9 (.slice ay8 (syD dw.1 dw.2).length cy8) (syD dw.1 dw.2)) := OY.out.below bc
  have OC : Hid (Rd .i64 w9 uc cs) := oc.rd
  have HCS : Hid (cs.length = 6) := hcs
  obtain ⟨ac, cc, huc⟩ := oc.slice
  subst huc
  clear oc bc hcs L8 OY
  go_wp2_with fail
  refine (implCrash_any w9 (.slice ay8 (syD dw.1 dw.2).length cy8) (.slice none 0 0) (.slice ac cs.length cc) (syD dw.1 dw.2) [] cs OY9.out (rdW_nil _) OC.out (by omega) (by simp) (fun i => by simp [pD])).mono ?_
  rintro e w10 ⟨uz, rfl, oz, bz⟩
  obtain ⟨az, cz, huz⟩ := oz.slice
  subst huz
  have L10 : Hid (LS w b5 (.slice a3 d.1.length c3) (.slice a4 d.2.length c4) d (.slice ay X.length cy) X b8 (.slice e1 dw.1.length f1) (.slice e2 dw.2.length f2) dw w10) := L9.out.later bz
  obtain ⟨ZL, hZL⟩ : ∃ ZL, ZL = crD (syD dw.1 dw.2) [] cs := ⟨_, rfl⟩
  have hZl : ZL.length ≤ 19264 := by rw [hZL]; exact Nat.le_trans (crD_len _ _ _) (by omega)
  have HZR : Hid (rdA ZL [] b = X) := by
    show _ = _
    rw [hZL, HDW2.out]
    exact rd_synced HOK.out (by rw [HCS.out]; omega)
  rw [← hZL] at oz
  rw [← hZL]
  have OZ : Hid (Own .u8 5 w10 w9.heap.size (.slice az ZL.length cz) ZL) := oz
  clear hZL oz bz L9 OY9 OC HCS hsl
  have ba : Below w10.heap.size w10 (w10.alloc (.cells #[.slice az ZL.length cz, .slice none 0 0] 32)) := (Below.refl _ _).alloc (Nat.le_refl _) _
  have A11 : Hid (LS w b5 (.slice a3 d.1.length c3) (.slice a4 d.2.length c4) d (.slice ay X.length cy) X b8 (.slice e1 dw.1.length f1) (.slice e2 dw.2.length f2) dw (w10.alloc (.cells #[.slice az ZL.length cz, .slice none 0 0] 32)) ∧ DB (w10.alloc (.cells #[.slice az ZL.length cz, .slice none 0 0] 32)) w10.heap.size (.slice az ZL.length cz) (.slice none 0 0) (ZL, [])) := ⟨L10.out.later ba, BoxF.new _ _ _ _, (OZ.out.below ba).rd, rdW_nil _⟩
  have HRW : Hid (rdA dw.1 dw.2 b = X) := by show _ = _; rw [HDW2.out]; exact rd_written HOK.out
  clear ba L10 OZ
  go_wp2_with fail
  generalize w10.alloc (.cells #[.slice az ZL.length cz, .slice none 0 0] 32) = w11 at *
  generalize w10.heap.size = b9 at *
  refine wp_region_held_drew (S := fun W => LS w b5 (.slice a3 d.1.length c3) (.slice a4 d.2.length c4) d (.slice ay X.length cy) X b8 (.slice e1 dw.1.length f1) (.slice e2 dw.2.length f2) dw W ∧ DB W b9 (.slice az ZL.length cz) (.slice none 0 0) (ZL, [])) (by kernel_rfl) (⟨A11.out.1.later (below_drewN' w11 1), A11.out.2.below (below_drewN' w11 1)⟩) (fun hHeld => ?_)
  clear A11
  generalize w11.drew = E0 at *
  refine wpAnyH_take (i := 0) (oi := { dst := some 70, op := _, type := _, pos := _, after := _, guard := _ }) (v := (.agg #[.slice az ZL.length cz, .slice none 0 0])) rfl (by kernel_rfl) (by kernel_rfl) (by kernel_rfl) (fun _ _ _ h => h) (Or.inl ⟨by rfl, ?hy6⟩) (by assumption) ?rest6
  case hy6 =>
    intro w9 hS9
    obtain ⟨⟨zb, cb0, cb1⟩, -⟩ := hS9.2.x
    go_simp
  try simp only [Act.put, List.setIfInBounds_toArray, List.set_cons_zero, List.set_cons_succ]
  refine wpAnyH_take (i := 1) (oi := { dst := some 71, op := _, type := _, pos := _, after := _, guard := _ }) (v := (.int .i64 b)) rfl (by kernel_rfl) (by kernel_rfl) (by kernel_rfl) (fun _ _ _ h => h) (Or.inl ⟨by rfl, ?hy7⟩) (by assumption) ?rest7
  case hy7 =>
    intro w9 hS9
    go_simp
  try simp only [Act.put, List.setIfInBounds_toArray, List.set_cons_zero, List.set_cons_succ]
  refine wpAnyH_take (i := 4) (oi := { dst := some 74, op := _, type := _, pos := _, after := _, guard := _ }) (v := (.slice ay X.length cy)) rfl (by kernel_rfl) (by kernel_rfl) (by kernel_rfl) (fun _ _ _ h => h) (Or.inl ⟨by rfl, ?hy8⟩) (by assumption) ?rest8
  case hy8 =>
    intro w9 hS9
    go_simp
  try simp only [Act.put, List.setIfInBounds_toArray, List.set_cons_zero, List.set_cons_succ]
  refine wpAnyH_take (i := 5) (oi := { dst := some 75, op := _, type := _, pos := _, after := _, guard := _ }) (v := (.string (strOfNums X))) rfl (by kernel_rfl) (by kernel_rfl) (by kernel_rfl) (fun _ _ _ h => h) (Or.inl ⟨by rfl, ?hy9⟩) (by assumption) ?rest9
  case hy9 =>
    intro w9 hS9
    have hc := conv_any hS9.1.rv
    go_simp
  try simp only [Act.put, List.setIfInBounds_toArray, List.set_cons_zero, List.set_cons_succ]
  refine wpAnyH_ready (rs := [2]) (by kernel_rfl) (by simp) ?_
  refine AllReadyH.cons (o := { dst := some 72, op := _, type := _, pos := _, after := _, guard := _ }) rfl (fun K hK => ?_) AllReadyH.nil
  go_simp
  refine (implRead_any _ (.slice az ZL.length cz) (.slice none 0 0) ZL [] b hHeld.2.r1 hHeld.2.r2 (by omega) (by simp) (fun i => by simp [pD])).mono ?_
  rintro e E1 ⟨vra, rfl, ora, bA⟩
  rw [HZR.out] at ora
  obtain ⟨ara, cra, hvra⟩ := ora.slice
  subst hvra
  have A2 : _ ∧ _ := ⟨hHeld.1.later bA, hHeld.2.below bA⟩
  clear bA
  refine hK.out _ _ (A2) (fun hx9 => ?_)
  clear hK K hHeld hx9
  have hHeld := A2
  try simp only [Act.put, List.setIfInBounds_toArray, List.set_cons_zero, List.set_cons_succ]
  refine wpAnyH_ready (rs := [3]) (by kernel_rfl) (by simp) ?_
  refine (AllReadyH.cons (o := { dst := some 73, op := _, type := _, pos := _, after := _, guard := _ }) rfl (fun K hK => ?_) AllReadyH.nil)
  have hc := conv_any ora.rd
  go_simp
  refine hK.out _ _ (A2) (fun hx9 => ?_)
  clear hK K hx9
  try simp only [Act.put, List.setIfInBounds_toArray, List.set_cons_zero, List.set_cons_succ]
  refine wpAnyH_take (i := 6) (oi := { dst := some 76, op := _, type := _, pos := _, after := _, guard := _ }) (v := (.bool false)) rfl (by kernel_rfl) (by kernel_rfl) (by kernel_rfl) (fun _ _ _ h => h) (Or.inl ⟨by rfl, ?hy10⟩) (by assumption) ?rest10
  case hy10 =>
    intro w9 hS9
    go_simp
  try simp only [Act.put, List.setIfInBounds_toArray, List.set_cons_zero, List.set_cons_succ]
  refine wpAnyH_take (i := 7) (oi := { dst := some 77, op := _, type := _, pos := _, after := _, guard := _ }) (v := (.bool false)) rfl (by kernel_rfl) (by kernel_rfl) (by kernel_rfl) (fun _ _ _ h => h) (Or.inl ⟨by rfl, ?hy11⟩) (by assumption) ?rest11
  case hy11 =>
    intro w9 hS9
    go_simp
  try simp only [Act.put, List.setIfInBounds_toArray, List.set_cons_zero, List.set_cons_succ]
  refine wpAnyH_take (i := 8) (oi := { dst := some 78, op := _, type := _, pos := _, after := _, guard := _ }) (v := (.agg #[.slice e1 dw.1.length f1, .slice e2 dw.2.length f2])) rfl (by kernel_rfl) (by kernel_rfl) (by kernel_rfl) (fun _ _ _ h => h) (Or.inl ⟨by rfl, ?hy12⟩) (by assumption) ?rest12
  case hy12 =>
    intro w9 hS9
    obtain ⟨⟨zb, cb0, cb1⟩, -⟩ := hS9.1.d8.x
    go_simp
  try simp only [Act.put, List.setIfInBounds_toArray, List.set_cons_zero, List.set_cons_succ]
  refine wpAnyH_take (i := 9) (oi := { dst := some 79, op := _, type := _, pos := _, after := _, guard := _ }) (v := (.int .i64 b)) rfl (by kernel_rfl) (by kernel_rfl) (by kernel_rfl) (fun _ _ _ h => h) (Or.inl ⟨by rfl, ?hy13⟩) (by assumption) ?rest13
  case hy13 =>
    intro w9 hS9
    go_simp
  try simp only [Act.put, List.setIfInBounds_toArray, List.set_cons_zero, List.set_cons_succ]
  refine wpAnyH_take (i := 12) (oi := { dst := some 82, op := _, type := _, pos := _, after := _, guard := _ }) (v := (.slice ay X.length cy)) rfl (by kernel_rfl) (by kernel_rfl) (by kernel_rfl) (fun _ _ _ h => h) (Or.inl ⟨by rfl, ?hy14⟩) (by assumption) ?rest14
  case hy14 =>
    intro w9 hS9
    go_simp
  try simp only [Act.put, List.setIfInBounds_toArray, List.set_cons_zero, List.set_cons_succ]
  refine wpAnyH_take (i := 13) (oi := { dst := some 83, op := _, type := _, pos := _, after := _, guard := _ }) (v := (.string (strOfNums X))) rfl (by kernel_rfl) (by kernel_rfl) (by kernel_rfl) (fun _ _ _ h => h) (Or.inl ⟨by rfl, ?hy15⟩) (by assumption) ?rest15
  case hy15 =>
    intro w9 hS9
    have hc := conv_any hS9.1.rv
    go_simp
  try simp only [Act.put, List.setIfInBounds_toArray, List.set_cons_zero, List.set_cons_succ]
  refine wpAnyH_ready (rs := [10]) (by kernel_rfl) (by simp) ?_
  refine AllReadyH.cons (o := { dst := some 80, op := _, type := _, pos := _, after := _, guard := _ }) rfl (fun K hK => ?_) AllReadyH.nil
  go_simp
  refine (implRead_any _ (.slice e1 dw.1.length f1) (.slice e2 dw.2.length f2) dw.1 dw.2 b hHeld.1.d8.r1 hHeld.1.d8.r2 (by omega) (by omega) HDL3.out).mono ?_
  rintro e E2 ⟨vrb, rfl, orb, bA⟩
  rw [HRW.out] at orb
  obtain ⟨arb, crb, hvrb⟩ := orb.slice
  subst hvrb
  have A3 : _ ∧ _ := ⟨hHeld.1.later bA, hHeld.2.below bA⟩
  clear bA
  refine hK.out _ _ (A3) (fun hx9 => ?_)
  clear hK K hHeld hx9
  have hHeld := A3
  try simp only [Act.put, List.setIfInBounds_toArray, List.set_cons_zero, List.set_cons_succ]
  refine wpAnyH_ready (rs := [11]) (by kernel_rfl) (by simp) ?_
  refine (AllReadyH.cons (o := { dst := some 81, op := _, type := _, pos := _, after := _, guard := _ }) rfl (fun K hK => ?_) AllReadyH.nil)
  have hc := conv_any orb.rd
  go_simp
  refine hK.out _ _ (A3) (fun hx9 => ?_)
  clear hK K hx9
  try simp only [Act.put, List.setIfInBounds_toArray, List.set_cons_zero, List.set_cons_succ]
  refine wpAnyH_take (i := 14) (oi := { dst := some 84, op := _, type := _, pos := _, after := _, guard := _ }) (v := (.bool false)) rfl (by kernel_rfl) (by kernel_rfl) (by kernel_rfl) (fun _ _ _ h => h) (Or.inl ⟨by rfl, ?hy16⟩) (by assumption) ?rest16
  case hy16 =>
    intro w9 hS9
    go_simp
  try simp only [Act.put, List.setIfInBounds_toArray, List.set_cons_zero, List.set_cons_succ]
  refine wpAnyH_take (i := 15) (oi := { dst := some 85, op := _, type := _, pos := _, after := _, guard := _ }) (v := (.bool false)) rfl (by kernel_rfl) (by kernel_rfl) (by kernel_rfl) (fun _ _ _ h => h) (Or.inl ⟨by rfl, ?hy17⟩) (by assumption) ?rest17
  case hy17 =>
    intro w9 hS9
    go_simp
  try simp only [Act.put, List.setIfInBounds_toArray, List.set_cons_zero, List.set_cons_succ]
  refine wpAnyH_done (by kernel_rfl) ?_ _
  clear hHeld
  have L12 : Hid (LS w b5 (.slice a3 d.1.length c3) (.slice a4 d.2.length c4) d (.slice ay X.length cy) X b8 (.slice e1 dw.1.length f1) (.slice e2 dw.2.length f2) dw E2) := A3.1
  clear A2 A3 ora orb HZR HRW
  go_wp2_with fail
  have HFACT : Hid (∀ cs : List Int, cs.length = 6 → ∀ DL, DL = crD dw.1 dw.2 cs → (DL.length = d.1.length ∧ ∀ o : Nat, o < d.1.length / 64 → b ≠ (o : Int) → (∀ i, i < d.2.length → pB d.2 i ≠ (o : Int)) → rdA DL [] (o : Int) = rdA d.1 d.2 (o : Int))) := by
    intro cs hcs DL hDL
    rw [hDL, HDW2.out]
    exact ⟨(crD_all (vld_snoc HOK.out) (by rw [hcs]; omega)).2, fun o ho hx hp => rd_calm HOK.out (by rw [hcs]; omega) o ho hx hp⟩
  go_cut [10] from 86 to 89 (fun v10 wx => ∃ (b10 : Nat) (av : Option Addr) (cv : Nat) (DL : List Int), v10 = .pointer (some ⟨b10, 0, none⟩) ∧ Hid (LS w b5 (.slice a3 d.1.length c3) (.slice a4 d.2.length c4) d (.slice ay X.length cy) X b8 (.slice e1 dw.1.length f1) (.slice e2 dw.2.length f2) dw wx) ∧ Hid (DB wx b10 (.slice av DL.length cv) (.slice none 0 0) (DL, [])) ∧ Hid (DL.length = d.1.length ∧ ∀ o : Nat, o < d.1.length / 64 → b ≠ (o : Int) → (∀ i, i < d.2.length → pB d.2 i ≠ (o : Int)) → rdA DL [] (o : Int) = rdA d.1 d.2 (o : Int)))
  case first =>
    refine wp_region_held_drew (S := fun W => LS w b5 (.slice a3 d.1.length c3) (.slice a4 d.2.length c4) d (.slice ay X.length cy) X b8 (.slice e1 dw.1.length f1) (.slice e2 dw.2.length f2) dw W) (by kernel_rfl) (L12.out.later (below_drewN' E2 1)) (fun hHeld => ?_)
    have bC : Below E2.heap.size E2 E2.drew := below_drewN' E2 1
    generalize E2.drew = F0 at *
    refine wpAnyH_take (i := 0) (oi := { dst := some 86, op := _, type := _, pos := _, after := _, guard := _ }) (v := (.agg #[.slice e1 dw.1.length f1, .slice e2 dw.2.length f2])) rfl (by kernel_rfl) (by kernel_rfl) (by kernel_rfl) (fun _ _ _ h => h) (Or.inl ⟨by rfl, ?hy18⟩) (by assumption) ?rest18
    case hy18 =>
      intro w9 hS9
      obtain ⟨⟨zb, cb0, cb1⟩, -⟩ := hS9.d8.x
      go_simp
    try simp only [Act.put, List.setIfInBounds_toArray, List.set_cons_zero, List.set_cons_succ]
    refine wpAnyH_take (i := 1) (oi := { dst := some 87, op := _, type := _, pos := _, after := _, guard := _ }) (v := (.slice ua ys.length cu)) rfl (by kernel_rfl) (by kernel_rfl) (by kernel_rfl) (fun _ _ _ h => h) (Or.inl ⟨by rfl, ?hy19⟩) (by assumption) ?rest19
    case hy19 =>
      intro w9 hS9
      go_simp
    try simp only [Act.put, List.setIfInBounds_toArray, List.set_cons_zero, List.set_cons_succ]
    refine wpAnyH_ready (rs := [2, 4]) (by kernel_rfl) (by simp) ?_
    refine (AllReadyH.cons (o := { dst := some 88, op := _, type := _, pos := _, after := _, guard := _ }) rfl (fun K hK => ?_) (AllReadyH.cons (o := { dst := some 10, op := _, type := _, pos := _, after := _, guard := _ }) rfl (fun K hK => ?_) AllReadyH.nil))
    · go_simp
      have hch := choices_any F0 (.slice ua ys.length cu) ys 3 (HY.out.below (L12.out.b.trans (bC.mono L12.out.b.size))) HBY.out hyl (by omega)
      rw [show ((3 : Nat) : Int) = 3 from rfl] at hch
      refine hch.mono ?_
      clear hch
      rintro e F1 ⟨uc, cs, rfl, oc', hcs, bA⟩
      have HCS : Hid (cs.length = 6) := hcs
      clear hcs
      obtain ⟨ac, cc, huc⟩ := oc'.slice
      subst huc
      have oc := oc'.rd
      clear oc'
      replace bC : Below E2.heap.size E2 F1 := bC.trans (bA.mono bC.size)
      clear bA
      refine hK.out _ _ (L12.out.later bC) (fun hx9 => ?_)
      clear hK K hx9 hHeld
      have hHeld := L12.out.later bC
      try simp only [Act.put, List.setIfInBounds_toArray, List.set_cons_zero, List.set_cons_succ]
      refine wpAnyH_ready (rs := [3, 4]) (by kernel_rfl) (by simp) ?_
      refine (AllReadyH.cons (o := { dst := some 89, op := _, type := _, pos := _, after := _, guard := _ }) rfl (fun K hK => ?_) (AllReadyH.cons (o := { dst := some 10, op := _, type := _, pos := _, after := _, guard := _ }) rfl (fun K hK => ?_) AllReadyH.nil))
      · go_simp
        refine (implCrash_any F1 (.slice e1 dw.1.length f1) (.slice e2 dw.2.length f2) (.slice ac cs.length cc) dw.1 dw.2 cs (L12.out.later bC).d8.r1 (L12.out.later bC).d8.r2 oc (by omega) (by omega) HDL3.out).mono ?_
        rintro e F2 ⟨vd, rfl, od, bA⟩
        obtain ⟨DL, hDL⟩ : ∃ DL, DL = crD dw.1 dw.2 cs := ⟨_, rfl⟩
        have HDL : Hid (DL.length = d.1.length ∧ ∀ o : Nat, o < d.1.length / 64 → b ≠ (o : Int) → (∀ i, i < d.2.length → pB d.2 i ≠ (o : Int)) → rdA DL [] (o : Int) = rdA d.1 d.2 (o : Int)) := HFACT.out cs HCS.out DL hDL
        rw [← hDL] at od
        obtain ⟨av, cv, hvd⟩ := od.slice
        subst hvd
        replace od : Own .u8 5 F2 E2.heap.size (.slice av DL.length cv) DL := od.mono bC.size
        clear hDL oc HCS
        replace bC : Below E2.heap.size E2 F2 := bC.trans (bA.mono bC.size)
        clear bA
        refine hK.out _ _ (L12.out.later bC) (fun hx9 => ?_)
        clear hK K hx9 hHeld
        have hHeld := L12.out.later bC
        try simp only [Act.put, List.setIfInBounds_toArray, List.set_cons_zero, List.set_cons_succ]
        refine wpAnyH_ready (rs := [4]) (by kernel_rfl) (by simp) ?_
        refine (AllReadyH.cons (o := { dst := some 10, op := _, type := _, pos := _, after := _, guard := _ }) rfl (fun K hK => ?_) AllReadyH.nil)
        go_simp
        have bA : Below F2.heap.size F2 (F2.alloc (.cells #[.slice none 0 0, .slice none 0 0] 32)) := (Below.refl _ _).alloc (Nat.le_refl _) _
        obtain ⟨B, hBB⟩ : ∃ B, B = F2.heap.size := ⟨_, rfl⟩
        have hB : E2.heap.size ≤ B := by rw [hBB]; exact bC.size
        have xB : BoxF (F2.alloc (.cells #[.slice none 0 0, .slice none 0 0] 32)) B (.slice none 0 0) (.slice none 0 0) := by rw [hBB]; exact BoxF.new _ _ _ _
        have hne : Value.ownBlock (.slice av DL.length cv) ≠ some B := fun e => by have := (od.lt B e).2; omega
        rw [← hBB]
        generalize F2.alloc (.cells #[.slice none 0 0, .slice none 0 0] 32) = F3 at *
        replace bC : Below E2.heap.size E2 F3 := bC.trans (bA.mono bC.size)
        replace od : Own .u8 5 F3 E2.heap.size (.slice av DL.length cv) DL := od.below bA
        clear bA hBB
        refine hK.out _ _ (L12.out.later bC) (fun hx9 => ?_)
        clear hK K hx9 hHeld
        have hHeld := L12.out.later bC
        try simp only [Act.put, List.setIfInBounds_toArray, List.set_cons_zero, List.set_cons_succ]
        refine wpAnyH_ready (rs := [5]) (by kernel_rfl) (by simp) ?_
        refine (AllReadyH.cons (o := { dst := none, op := _, type := _, pos := _, after := _, guard := _ }) rfl (fun K hK => ?_) AllReadyH.nil)
        obtain ⟨⟨zb, cb0, cb1⟩, fb0, fb1⟩ := id xB
        go_simp
        clear zb cb0 cb1 fb0 fb1
        have xC := xB.set2 (.slice av DL.length cv) (.slice none 0 0)
        have hBl : E2.heap.size ≤ B := hB
        have oR : Rd .u8 ((F3.setCell ⟨B, 0, none⟩ (.slice av DL.length cv)).setCell ⟨B, 1, none⟩ (.slice none 0 0)) (.slice av DL.length cv) DL := ((od.setAt (j := 0) (u := .slice av DL.length cv) (.inr hne)).setAt (j := 1) (u := .slice none 0 0) (.inr hne)).rd
        replace bC : Below E2.heap.size E2 ((F3.setCell ⟨B, 0, none⟩ (.slice av DL.length cv)).setCell ⟨B, 1, none⟩ (.slice none 0 0)) := (bC.setCell (p := ⟨B, 0, none⟩) hBl _).setCell (p := ⟨B, 1, none⟩) hBl _
        refine hK.out _ _ (L12.out.later bC) (fun hx9 => ?_)
        clear hK K hx9 hHeld
        try simp only [Act.put, List.setIfInBounds_toArray, List.set_cons_zero, List.set_cons_succ]
        refine wpAnyH_done (by kernel_rfl) ?_ _
        go_wp2_with fail
        go_meet
        exact ⟨_, _, _, DL, rfl, L12.out.later bC, ⟨xC, oR, rdW_nil _⟩, HDL⟩
      · go_simp
        have bA : Below F1.heap.size F1 (F1.alloc (.cells #[.slice none 0 0, .slice none 0 0] 32)) := (Below.refl _ _).alloc (Nat.le_refl _) _
        obtain ⟨B, hBB⟩ : ∃ B, B = F1.heap.size := ⟨_, rfl⟩
        have hB : E2.heap.size ≤ B := by rw [hBB]; exact bC.size
        have xB : BoxF (F1.alloc (.cells #[.slice none 0 0, .slice none 0 0] 32)) B (.slice none 0 0) (.slice none 0 0) := by rw [hBB]; exact BoxF.new _ _ _ _
        rw [← hBB]
        generalize F1.alloc (.cells #[.slice none 0 0, .slice none 0 0] 32) = F4 at *
        replace bC : Below E2.heap.size E2 F4 := bC.trans (bA.mono bC.size)
        replace oc : Rd .i64 F4 (.slice ac cs.length cc) cs := oc.below bA
        clear bA hBB
        refine hK.out _ _ (L12.out.later bC) (fun hx9 => ?_)
        clear hK K hx9 hHeld
        have hHeld := L12.out.later bC
        try simp only [Act.put, List.setIfInBounds_toArray, List.set_cons_zero, List.set_cons_succ]
        refine wpAnyH_ready (rs := [3]) (by kernel_rfl) (by simp) ?_
        refine (AllReadyH.cons (o := { dst := some 89, op := _, type := _, pos := _, after := _, guard := _ }) rfl (fun K hK => ?_) AllReadyH.nil)
        go_simp
        refine (implCrash_any F4 (.slice e1 dw.1.length f1) (.slice e2 dw.2.length f2) (.slice ac cs.length cc) dw.1 dw.2 cs (L12.out.later bC).d8.r1 (L12.out.later bC).d8.r2 oc (by omega) (by omega) HDL3.out).mono ?_
        rintro e F5 ⟨vd, rfl, od, bA⟩
        obtain ⟨DL, hDL⟩ : ∃ DL, DL = crD dw.1 dw.2 cs := ⟨_, rfl⟩
        have HDL : Hid (DL.length = d.1.length ∧ ∀ o : Nat, o < d.1.length / 64 → b ≠ (o : Int) → (∀ i, i < d.2.length → pB d.2 i ≠ (o : Int)) → rdA DL [] (o : Int) = rdA d.1 d.2 (o : Int)) := HFACT.out cs HCS.out DL hDL
        rw [← hDL] at od
        obtain ⟨av, cv, hvd⟩ := od.slice
        subst hvd
        have hne : Value.ownBlock (.slice av DL.length cv) ≠ some B := fun e => by have := (od.lt B e).1; have := xB.1.1; omega
        replace od : Own .u8 5 F5 E2.heap.size (.slice av DL.length cv) DL := od.mono bC.size
        clear hDL oc HCS
        replace bC : Below E2.heap.size E2 F5 := bC.trans (bA.mono bC.size)
        replace xB : BoxF F5 B (.slice none 0 0) (.slice none 0 0) := xB.below bA
        clear bA
        refine hK.out _ _ (L12.out.later bC) (fun hx9 => ?_)
        clear hK K hx9 hHeld
        have hHeld := L12.out.later bC
        try simp only [Act.put, List.setIfInBounds_toArray, List.set_cons_zero, List.set_cons_succ]
        refine wpAnyH_ready (rs := [5]) (by kernel_rfl) (by simp) ?_
        refine (AllReadyH.cons (o := { dst := none, op := _, type := _, pos := _, after := _, guard := _ }) rfl (fun K hK => ?_) AllReadyH.nil)
        obtain ⟨⟨zb, cb0, cb1⟩, fb0, fb1⟩ := id xB
        go_simp
        clear zb cb0 cb1 fb0 fb1
        have xC := xB.set2 (.slice av DL.length cv) (.slice none 0 0)
        have hBl : E2.heap.size ≤ B := hB
        have oR : Rd .u8 ((F5.setCell ⟨B, 0, none⟩ (.slice av DL.length cv)).setCell ⟨B, 1, none⟩ (.slice none 0 0)) (.slice av DL.length cv) DL := ((od.setAt (j := 0) (u := .slice av DL.length cv) (.inr hne)).setAt (j := 1) (u := .slice none 0 0) (.inr hne)).rd
        replace bC : Below E2.heap.size E2 ((F5.setCell ⟨B, 0, none⟩ (.slice av DL.length cv)).setCell ⟨B, 1, none⟩ (.slice none 0 0)) := (bC.setCell (p := ⟨B, 0, none⟩) hBl _).setCell (p := ⟨B, 1, none⟩) hBl _
        refine hK.out _ _ (L12.out.later bC) (fun hx9 => ?_)
        clear hK K hx9 hHeld
        try simp only [Act.put, List.setIfInBounds_toArray, List.set_cons_zero, List.set_cons_succ]
        refine wpAnyH_done (by kernel_rfl) ?_ _
        go_wp2_with fail
        go_meet
        exact ⟨_, _, _, DL, rfl, L12.out.later bC, ⟨xC, oR, rdW_nil _⟩, HDL⟩
    · go_simp
      have bA : Below F0.heap.size F0 (F0.alloc (.cells #[.slice none 0 0, .slice none 0 0] 32)) := (Below.refl _ _).alloc (Nat.le_refl _) _
      obtain ⟨B, hBB⟩ : ∃ B, B = F0.heap.size := ⟨_, rfl⟩
      have hB : E2.heap.size ≤ B := by rw [hBB]; exact bC.size
      have xB : BoxF (F0.alloc (.cells #[.slice none 0 0, .slice none 0 0] 32)) B (.slice none 0 0) (.slice none 0 0) := by rw [hBB]; exact BoxF.new _ _ _ _
      rw [← hBB]
      generalize F0.alloc (.cells #[.slice none 0 0, .slice none 0 0] 32) = F6 at *
      replace bC : Below E2.heap.size E2 F6 := bC.trans (bA.mono bC.size)
      clear bA hBB
      refine hK.out _ _ (L12.out.later bC) (fun hx9 => ?_)
      clear hK K hx9 hHeld
      have hHeld := L12.out.later bC
      try simp only [Act.put, List.setIfInBounds_toArray, List.set_cons_zero, List.set_cons_succ]
      refine wpAnyH_ready (rs := [2]) (by kernel_rfl) (by simp) ?_
      refine (AllReadyH.cons (o := { dst := some 88, op := _, type := _, pos := _, after := _, guard := _ }) rfl (fun K hK => ?_) AllReadyH.nil)
      go_simp
      have hch := choices_any F6 (.slice ua ys.length cu) ys 3 (HY.out.below (L12.out.b.trans (bC.mono L12.out.b.size))) HBY.out hyl (by omega)
      rw [show ((3 : Nat) : Int) = 3 from rfl] at hch
      refine hch.mono ?_
      clear hch
      rintro e F7 ⟨uc, cs, rfl, oc', hcs, bA⟩
      have HCS : Hid (cs.length = 6) := hcs
      clear hcs
      obtain ⟨ac, cc, huc⟩ := oc'.slice
      subst huc
      have oc := oc'.rd
      clear oc'
      replace bC : Below E2.heap.size E2 F7 := bC.trans (bA.mono bC.size)
      replace xB : BoxF F7 B (.slice none 0 0) (.slice none 0 0) := xB.below bA
      clear bA
      refine hK.out _ _ (L12.out.later bC) (fun hx9 => ?_)
      clear hK K hx9 hHeld
      have hHeld := L12.out.later bC
      try simp only [Act.put, List.setIfInBounds_toArray, List.set_cons_zero, List.set_cons_succ]
      refine wpAnyH_ready (rs := [3]) (by kernel_rfl) (by simp) ?_
      refine (AllReadyH.cons (o := { dst := some 89, op := _, type := _, pos := _, after := _, guard := _ }) rfl (fun K hK => ?_) AllReadyH.nil)
      go_simp
      refine (implCrash_any F7 (.slice e1 dw.1.length f1) (.slice e2 dw.2.length f2) (.slice ac cs.length cc) dw.1 dw.2 cs (L12.out.later bC).d8.r1 (L12.out.later bC).d8.r2 oc (by omega) (by omega) HDL3.out).mono ?_
      rintro e F8 ⟨vd, rfl, od, bA⟩
      obtain ⟨DL, hDL⟩ : ∃ DL, DL = crD dw.1 dw.2 cs := ⟨_, rfl⟩
      have HDL : Hid (DL.length = d.1.length ∧ ∀ o : Nat, o < d.1.length / 64 → b ≠ (o : Int) → (∀ i, i < d.2.length → pB d.2 i ≠ (o : Int)) → rdA DL [] (o : Int) = rdA d.1 d.2 (o : Int)) := HFACT.out cs HCS.out DL hDL
      rw [← hDL] at od
      obtain ⟨av, cv, hvd⟩ := od.slice
      subst hvd
      have hne : Value.ownBlock (.slice av DL.length cv) ≠ some B := fun e => by have := (od.lt B e).1; have := xB.1.1; omega
      replace od : Own .u8 5 F8 E2.heap.size (.slice av DL.length cv) DL := od.mono bC.size
      clear hDL oc HCS
      replace bC : Below E2.heap.size E2 F8 := bC.trans (bA.mono bC.size)
      replace xB : BoxF F8 B (.slice none 0 0) (.slice none 0 0) := xB.below bA
      clear bA
      refine hK.out _ _ (L12.out.later bC) (fun hx9 => ?_)
      clear hK K hx9 hHeld
      have hHeld := L12.out.later bC
      try simp only [Act.put, List.setIfInBounds_toArray, List.set_cons_zero, List.set_cons_succ]
      refine wpAnyH_ready (rs := [5]) (by kernel_rfl) (by simp) ?_
      refine (AllReadyH.cons (o := { dst := none, op := _, type := _, pos := _, after := _, guard := _ }) rfl (fun K hK => ?_) AllReadyH.nil)
      obtain ⟨⟨zb, cb0, cb1⟩, fb0, fb1⟩ := id xB
      go_simp
      clear zb cb0 cb1 fb0 fb1
      have xC := xB.set2 (.slice av DL.length cv) (.slice none 0 0)
      have hBl : E2.heap.size ≤ B := hB
      have oR : Rd .u8 ((F8.setCell ⟨B, 0, none⟩ (.slice av DL.length cv)).setCell ⟨B, 1, none⟩ (.slice none 0 0)) (.slice av DL.length cv) DL := ((od.setAt (j := 0) (u := .slice av DL.length cv) (.inr hne)).setAt (j := 1) (u := .slice none 0 0) (.inr hne)).rd
      replace bC : Below E2.heap.size E2 ((F8.setCell ⟨B, 0, none⟩ (.slice av DL.length cv)).setCell ⟨B, 1, none⟩ (.slice none 0 0)) := (bC.setCell (p := ⟨B, 0, none⟩) hBl _).setCell (p := ⟨B, 1, none⟩) hBl _
      refine hK.out _ _ (L12.out.later bC) (fun hx9 => ?_)
      clear hK K hx9 hHeld
      try simp only [Act.put, List.setIfInBounds_toArray, List.set_cons_zero, List.set_cons_succ]
      refine wpAnyH_done (by kernel_rfl) ?_ _
      go_wp2_with fail
      go_meet
      exact ⟨_, _, _, DL, rfl, L12.out.later bC, ⟨xC, oR, rdW_nil _⟩, HDL⟩
  case rest =>
    obtain ⟨b10, av, cv, DL, rfl, L13, X13, HDL⟩ := hcut
    clear L12 HFACT HDL3 HDW2 HOK
    obtain ⟨⟨zb, cb0, cb1⟩, -⟩ := L13.out.d5.x
    go_wp2_with fail
    clear zb cb0 cb1
    have hN : Hid ((d.1.length : Int) / 64 = ((d.1.length / 64 : Nat) : Int)) := by show _ = _; omega
    rw [hN.out]
    have hNN : d.1.length / 64 ≤ 19264 := by omega
    have HNN : Hid (∀ o : Nat, o < d.1.length / 64 → o < d.1.length / 64) := fun o h => h
    generalize hNe : d.1.length / 64 = N at *
    have HNE : Hid (d.1.length / 64 = N) := hNe
    clear hNe hN HNN
    go_wp2
    go_loopw [12] (fun vo wr => ∃ o : Nat, o ≤ N ∧ vo = .int .i64 (o : Int) ∧ Hid (LS w b5 (.slice a3 d.1.length c3) (.slice a4 d.2.length c4) d (.slice ay X.length cy) X b8 (.slice e1 dw.1.length f1) (.slice e2 dw.2.length f2) dw wr) ∧ Hid (DB wr b10 (.slice av DL.length cv) (.slice none 0 0) (DL, []))) (fun o _ => N - (intOf o).toNat)
    case atStart => exact ⟨0, Nat.zero_le _, rfl, L13, X13⟩
    case round =>
      clear L13 X13
      obtain ⟨o, ho, rfl, L, XD⟩ := hrel
      by_cases hlt : o < N
      · have hltI : (o : Int) < (N : Int) := by omega
        go_wp2
        go_loopw [13, 14] (fun vc vi w2 => ∃ i : Nat, i ≤ d.2.length ∧ vi = .int .i64 (i : Int) ∧ vc = .bool (calmU d.2 b o i) ∧ Hid (LS w b5 (.slice a3 d.1.length c3) (.slice a4 d.2.length c4) d (.slice ay X.length cy) X b8 (.slice e1 dw.1.length f1) (.slice e2 dw.2.length f2) dw w2) ∧ Hid (DB w2 b10 (.slice av DL.length cv) (.slice none 0 0) (DL, []))) (fun _ i _ => d.2.length - (intOf i).toNat)
        case atStart => exact ⟨0, Nat.zero_le _, rfl, congrArg Value.bool (by unfold calmU; by_cases e : (o : Int) = b <;> simp [e]), L, XD⟩
        case round =>
          clear L XD
          obtain ⟨i, hi, rfl, rfl, L, XD⟩ := hrel
          by_cases hil : i < d.2.length
          · have hilI : (i : Int) < (d.2.length : Int) := by omega
            obtain ⟨⟨zb, cb0, cb1⟩, -⟩ := L.out.d5.x
            obtain ⟨bb, oo, ha4, ci⟩ : ∃ bb oo, a4 = some ⟨bb, oo, none⟩ ∧ wr.cell? ⟨bb, oo + i * 2, none⟩ = some (.int .i64 (pB d.2 i)) := by
              obtain ⟨ao, cap, e, -, -, h3⟩ := L.out.d5.r2
              simp only [Value.slice.injEq] at e
              obtain ⟨rfl, -, -⟩ := e
              rcases h3 with h3 | ⟨bb, oo, rfl, hbb, hcc⟩
              · rw [h3] at hil; simp at hil
              · exact ⟨bb, oo, rfl, (hcc i hil).1⟩
            subst ha4
            have HCS := calmU_succ d.2 b o i
            by_cases hpo : pB d.2 i = (o : Int)
            · have hpb : (pB d.2 i == (o : Int)) = true := by simp [hpo]
              have HF : Hid (calmU d.2 b o (i + 1) = false) := by show _ = _; rw [HCS]; simp [hpo]
              clear HCS
              generalize pB d.2 i = PB at *
              clear hpo
              go_wp2
              exact ⟨⟨i + 1, by omega, by go_num, by rw [HF.out], L, XD⟩, by simp [intOf]; omega⟩
            · have hpb : (pB d.2 i == (o : Int)) = false := by simp [hpo]
              have HF : Hid (calmU d.2 b o (i + 1) = calmU d.2 b o i) := by show _ = _; rw [HCS]; simp [hpo]
              clear HCS
              generalize pB d.2 i = PB at *
              clear hpo
              go_wp2
              exact ⟨⟨i + 1, by omega, by go_num, by rw [HF.out], L, XD⟩, by simp [intOf]; omega⟩
          · have hin : i = d.2.length := by omega
            have hilI : ¬ (i : Int) < (d.2.length : Int) := by omega
            obtain ⟨⟨zb, cb0, cb1⟩, -⟩ := L.out.d5.x
            have HEQ : Hid (calmU d.2 b o i = true → rdA DL [] (o : Int) = rdA d.1 d.2 (o : Int)) := by
              intro hc
              rw [hin] at hc
              obtain ⟨hc1, hc2⟩ := calmU_yes hc
              exact HDL.out.2 o (by have := HNE.out; omega) hc1 hc2
            have HDLL : Hid (DL.length = d.1.length) := HDL.out.1
            generalize calmU d.2 b o i = cal at *
            clear hin
            go_wp2_with fail
            clear zb cb0 cb1
            cases cal with
            | true =>
              have heq := HEQ.out rfl
              clear HEQ
              refine wp_region_held_drew (S := fun W => LS w b5 (.slice a3 d.1.length c3) (.slice a4 d.2.length c4) d (.slice ay X.length cy) X b8 (.slice e1 dw.1.length f1) (.slice e2 dw.2.length f2) dw W ∧ DB W b10 (.slice av DL.length cv) (.slice none 0 0) (DL, [])) (by kernel_rfl) (⟨L.out.later (below_drewN' wr 1), XD.out.below (below_drewN' wr 1)⟩) (fun hHeld => ?_)
              clear L XD
              generalize wr.drew = G0 at *
              refine wpAnyH_take (i := 0) (oi := { dst := some 117, op := _, type := _, pos := _, after := _, guard := _ }) (v := (.bool true)) rfl (by kernel_rfl) (by kernel_rfl) (by kernel_rfl) (fun _ _ _ h => h) (Or.inl ⟨by rfl, ?hy20⟩) (by assumption) ?rest20
              case hy20 =>
                intro w9 hS9
                go_simp
              try simp only [Act.put, List.setIfInBounds_toArray, List.set_cons_zero, List.set_cons_succ]
              refine wpAnyH_take (i := 1) (oi := { dst := some 118, op := _, type := _, pos := _, after := _, guard := _ }) (v := (.bool true)) rfl (by kernel_rfl) (by kernel_rfl) (by kernel_rfl) (fun _ _ _ h => h) (Or.inl ⟨by rfl, ?hy21⟩) (by assumption) ?rest21
              case hy21 =>
                intro w9 hS9
                go_simp
              try simp only [Act.put, List.setIfInBounds_toArray, List.set_cons_zero, List.set_cons_succ]
              refine wpAnyH_take (i := 2) (oi := { dst := some 119, op := _, type := _, pos := _, after := _, guard := _ }) (v := (.agg #[.slice av DL.length cv, .slice none 0 0])) rfl (by kernel_rfl) (by kernel_rfl) (by kernel_rfl) (fun _ _ _ h => h) (Or.inl ⟨by rfl, ?hy22⟩) (by assumption) ?rest22
              case hy22 =>
                intro w9 hS9
                obtain ⟨⟨zb, cb0, cb1⟩, -⟩ := hS9.2.x
                go_simp
              try simp only [Act.put, List.setIfInBounds_toArray, List.set_cons_zero, List.set_cons_succ]
              refine wpAnyH_take (i := 3) (oi := { dst := some 120, op := _, type := _, pos := _, after := _, guard := _ }) (v := (.int .i64 (o : Int))) rfl (by kernel_rfl) (by kernel_rfl) (by kernel_rfl) (fun _ _ _ h => h) (Or.inl ⟨by rfl, ?hy23⟩) (by assumption) ?rest23
              case hy23 =>
                intro w9 hS9
                go_simp
              try simp only [Act.put, List.setIfInBounds_toArray, List.set_cons_zero, List.set_cons_succ]
              refine wpAnyH_take (i := 6) (oi := { dst := some 123, op := _, type := _, pos := _, after := _, guard := _ }) (v := (.agg #[.slice a3 d.1.length c3, .slice a4 d.2.length c4])) rfl (by kernel_rfl) (by kernel_rfl) (by kernel_rfl) (fun _ _ _ h => h) (Or.inl ⟨by rfl, ?hy24⟩) (by assumption) ?rest24
              case hy24 =>
                intro w9 hS9
                obtain ⟨⟨zb, cb0, cb1⟩, -⟩ := hS9.1.d5.x
                go_simp
              try simp only [Act.put, List.setIfInBounds_toArray, List.set_cons_zero, List.set_cons_succ]
              refine wpAnyH_take (i := 7) (oi := { dst := some 124, op := _, type := _, pos := _, after := _, guard := _ }) (v := (.int .i64 (o : Int))) rfl (by kernel_rfl) (by kernel_rfl) (by kernel_rfl) (fun _ _ _ h => h) (Or.inl ⟨by rfl, ?hy25⟩) (by assumption) ?rest25
              case hy25 =>
                intro w9 hS9
                go_simp
              try simp only [Act.put, List.setIfInBounds_toArray, List.set_cons_zero, List.set_cons_succ]
              refine wpAnyH_ready (rs := [4]) (by kernel_rfl) (by simp) ?_
              refine AllReadyH.cons (o := { dst := some 121, op := _, type := _, pos := _, after := _, guard := _ }) rfl (fun K hK => ?_) AllReadyH.nil
              go_simp
              refine (implRead_any _ (.slice av DL.length cv) (.slice none 0 0) DL [] (o : Int) hHeld.2.r1 hHeld.2.r2 (by rw [HDLL.out]; omega) (by simp) (fun i => by simp [pD])).mono ?_
              rintro e G1 ⟨vra, rfl, ora, bA⟩
              rw [heq] at ora
              obtain ⟨ara, cra, hvra⟩ := ora.slice
              subst hvra
              have A2 : _ ∧ _ := ⟨hHeld.1.later bA, hHeld.2.below bA⟩
              clear bA
              refine hK.out _ _ (A2) (fun hx9 => ?_)
              clear hK K hHeld hx9
              have hHeld := A2
              try simp only [Act.put, List.setIfInBounds_toArray, List.set_cons_zero, List.set_cons_succ]
              refine wpAnyH_ready (rs := [5, 8]) (by kernel_rfl) (by simp) ?_
              refine (AllReadyH.cons (o := { dst := some 122, op := _, type := _, pos := _, after := _, guard := _ }) rfl (fun K hK => ?_) (AllReadyH.cons (o := { dst := some 125, op := _, type := _, pos := _, after := _, guard := _ }) rfl (fun K hK => ?_) AllReadyH.nil))
              · have hc := conv_any ora.rd
                go_simp
                clear hc
                refine hK.out _ _ (A2) (fun hx9 => ?_)
                clear hK K hx9 hHeld
                have hHeld := A2
                try simp only [Act.put, List.setIfInBounds_toArray, List.set_cons_zero, List.set_cons_succ]
                refine wpAnyH_ready (rs := [8]) (by kernel_rfl) (by simp) ?_
                refine (AllReadyH.cons (o := { dst := some 125, op := _, type := _, pos := _, after := _, guard := _ }) rfl (fun K hK => ?_) AllReadyH.nil)
                go_simp
                refine (specRead_any _ (.slice a3 d.1.length c3) (.slice a4 d.2.length c4) d.1 d.2 (o : Int) A2.1.d5.r1 A2.1.d5.r2 (by omega) (by omega) HQ3.out).mono ?_
                rintro e G2 ⟨vrb, rfl, orb, bA⟩
                replace ora := ora.below bA
                obtain ⟨arb, crb, hvrb⟩ := orb.slice
                subst hvrb
                have A3 : _ ∧ _ := ⟨A2.1.later bA, A2.2.below bA⟩
                clear bA
                refine hK.out _ _ (A3) (fun hx9 => ?_)
                clear hK K hx9 hHeld
                have hHeld := A3
                try simp only [Act.put, List.setIfInBounds_toArray, List.set_cons_zero, List.set_cons_succ]
                refine wpAnyH_ready (rs := [9]) (by kernel_rfl) (by simp) ?_
                refine (AllReadyH.cons (o := { dst := some 126, op := _, type := _, pos := _, after := _, guard := _ }) rfl (fun K hK => ?_) AllReadyH.nil)
                have hc := conv_any orb.rd
                go_simp
                clear hc
                refine hK.out _ _ (A3) (fun hx9 => ?_)
                clear hK K hx9 hHeld
                have hHeld := A3
                try simp only [Act.put, List.setIfInBounds_toArray, List.set_cons_zero, List.set_cons_succ]
                refine wpAnyH_take (i := 10) (oi := { dst := some 127, op := _, type := _, pos := _, after := _, guard := _ }) (v := (.bool false)) rfl (by kernel_rfl) (by kernel_rfl) (by kernel_rfl) (fun _ _ _ h => h) (Or.inl ⟨by rfl, ?hy26⟩) (by assumption) ?rest26
                case hy26 =>
                  intro w9 hS9
                  go_simp
                try simp only [Act.put, List.setIfInBounds_toArray, List.set_cons_zero, List.set_cons_succ]
                refine wpAnyH_take (i := 11) (oi := { dst := some 128, op := _, type := _, pos := _, after := _, guard := _ }) (v := (.bool false)) rfl (by kernel_rfl) (by kernel_rfl) (by kernel_rfl) (fun _ _ _ h => h) (Or.inl ⟨by rfl, ?hy27⟩) (by assumption) ?rest27
                case hy27 =>
                  intro w9 hS9
                  go_simp
                try simp only [Act.put, List.setIfInBounds_toArray, List.set_cons_zero, List.set_cons_succ]
                refine wpAnyH_done (by kernel_rfl) ?_ _
                clear hHeld
                have L2 : Hid (LS w b5 (.slice a3 d.1.length c3) (.slice a4 d.2.length c4) d (.slice ay X.length cy) X b8 (.slice e1 dw.1.length f1) (.slice e2 dw.2.length f2) dw G2) := A3.1
                have XD2 : Hid (DB G2 b10 (.slice av DL.length cv) (.slice none 0 0) (DL, [])) := A3.2
                clear ora orb heq
                go_wp2
                exact ⟨⟨o + 1, by omega, by go_num, L2, XD2⟩, by simp [intOf]; omega⟩
              · go_simp
                refine (specRead_any _ (.slice a3 d.1.length c3) (.slice a4 d.2.length c4) d.1 d.2 (o : Int) A2.1.d5.r1 A2.1.d5.r2 (by omega) (by omega) HQ3.out).mono ?_
                rintro e G3 ⟨vrb, rfl, orb, bA⟩
                replace ora := ora.below bA
                obtain ⟨arb, crb, hvrb⟩ := orb.slice
                subst hvrb
                have A4 : _ ∧ _ := ⟨A2.1.later bA, A2.2.below bA⟩
                clear bA
                refine hK.out _ _ (A4) (fun hx9 => ?_)
                clear hK K hx9 hHeld
                have hHeld := A4
                try simp only [Act.put, List.setIfInBounds_toArray, List.set_cons_zero, List.set_cons_succ]
                refine wpAnyH_ready (rs := [5, 9]) (by kernel_rfl) (by simp) ?_
                refine (AllReadyH.cons (o := { dst := some 122, op := _, type := _, pos := _, after := _, guard := _ }) rfl (fun K hK => ?_) (AllReadyH.cons (o := { dst := some 126, op := _, type := _, pos := _, after := _, guard := _ }) rfl (fun K hK => ?_) AllReadyH.nil))
                · have hc := conv_any ora.rd
                  go_simp
                  clear hc
                  refine hK.out _ _ (A4) (fun hx9 => ?_)
                  clear hK K hx9 hHeld
                  have hHeld := A4
                  try simp only [Act.put, List.setIfInBounds_toArray, List.set_cons_zero, List.set_cons_succ]
                  refine wpAnyH_ready (rs := [9]) (by kernel_rfl) (by simp) ?_
                  refine (AllReadyH.cons (o := { dst := some 126, op := _, type := _, pos := _, after := _, guard := _ }) rfl (fun K hK => ?_) AllReadyH.nil)
                  have hc := conv_any orb.rd
                  go_simp
                  clear hc
                  refine hK.out _ _ (A4) (fun hx9 => ?_)
                  clear hK K hx9 hHeld
                  have hHeld := A4
                  try simp only [Act.put, List.setIfInBounds_toArray, List.set_cons_zero, List.set_cons_succ]
                  refine wpAnyH_take (i := 10) (oi := { dst := some 127, op := _, type := _, pos := _, after := _, guard := _ }) (v := (.bool false)) rfl (by kernel_rfl) (by kernel_rfl) (by kernel_rfl) (fun _ _ _ h => h) (Or.inl ⟨by rfl, ?hy28⟩) (by assumption) ?rest28
                  case hy28 =>
                    intro w9 hS9
                    go_simp
                  try simp only [Act.put, List.setIfInBounds_toArray, List.set_cons_zero, List.set_cons_succ]
                  refine wpAnyH_take (i := 11) (oi := { dst := some 128, op := _, type := _, pos := _, after := _, guard := _ }) (v := (.bool false)) rfl (by kernel_rfl) (by kernel_rfl) (by kernel_rfl) (fun _ _ _ h => h) (Or.inl ⟨by rfl, ?hy29⟩) (by assumption) ?rest29
                  case hy29 =>
                    intro w9 hS9
                    go_simp
                  try simp only [Act.put, List.setIfInBounds_toArray, List.set_cons_zero, List.set_cons_succ]
                  refine wpAnyH_done (by kernel_rfl) ?_ _
                  clear hHeld
                  have L2 : Hid (LS w b5 (.slice a3 d.1.length c3) (.slice a4 d.2.length c4) d (.slice ay X.length cy) X b8 (.slice e1 dw.1.length f1) (.slice e2 dw.2.length f2) dw G3) := A4.1
                  have XD2 : Hid (DB G3 b10 (.slice av DL.length cv) (.slice none 0 0) (DL, [])) := A4.2
                  clear ora orb heq
                  go_wp2
                  exact ⟨⟨o + 1, by omega, by go_num, L2, XD2⟩, by simp [intOf]; omega⟩
                · have hc := conv_any orb.rd
                  go_simp
                  clear hc
                  refine hK.out _ _ (A4) (fun hx9 => ?_)
                  clear hK K hx9 hHeld
                  have hHeld := A4
                  try simp only [Act.put, List.setIfInBounds_toArray, List.set_cons_zero, List.set_cons_succ]
                  refine wpAnyH_ready (rs := [5]) (by kernel_rfl) (by simp) ?_
                  refine (AllReadyH.cons (o := { dst := some 122, op := _, type := _, pos := _, after := _, guard := _ }) rfl (fun K hK => ?_) AllReadyH.nil)
                  have hc := conv_any ora.rd
                  go_simp
                  clear hc
                  refine hK.out _ _ (A4) (fun hx9 => ?_)
                  clear hK K hx9 hHeld
                  have hHeld := A4
                  try simp only [Act.put, List.setIfInBounds_toArray, List.set_cons_zero, List.set_cons_succ]
                  refine wpAnyH_take (i := 10) (oi := { dst := some 127, op := _, type := _, pos := _, after := _, guard := _ }) (v := (.bool false)) rfl (by kernel_rfl) (by kernel_rfl) (by kernel_rfl) (fun _ _ _ h => h) (Or.inl ⟨by rfl, ?hy30⟩) (by assumption) ?rest30
                  case hy30 =>
                    intro w9 hS9
                    go_simp
                  try simp only [Act.put, List.setIfInBounds_toArray, List.set_cons_zero, List.set_cons_succ]
                  refine wpAnyH_take (i := 11) (oi := { dst := some 128, op := _, type := _, pos := _, after := _, guard := _ }) (v := (.bool false)) rfl (by kernel_rfl) (by kernel_rfl) (by kernel_rfl) (fun _ _ _ h => h) (Or.inl ⟨by rfl, ?hy31⟩) (by assumption) ?rest31
                  case hy31 =>
                    intro w9 hS9
                    go_simp
                  try simp only [Act.put, List.setIfInBounds_toArray, List.set_cons_zero, List.set_cons_succ]
                  refine wpAnyH_done (by kernel_rfl) ?_ _
                  clear hHeld
                  have L2 : Hid (LS w b5 (.slice a3 d.1.length c3) (.slice a4 d.2.length c4) d (.slice ay X.length cy) X b8 (.slice e1 dw.1.length f1) (.slice e2 dw.2.length f2) dw G3) := A4.1
                  have XD2 : Hid (DB G3 b10 (.slice av DL.length cv) (.slice none 0 0) (DL, [])) := A4.2
                  clear ora orb heq
                  go_wp2
                  exact ⟨⟨o + 1, by omega, by go_num, L2, XD2⟩, by simp [intOf]; omega⟩
            | false =>
              clear HEQ
              refine wp_region_held_drew (S := fun W => LS w b5 (.slice a3 d.1.length c3) (.slice a4 d.2.length c4) d (.slice ay X.length cy) X b8 (.slice e1 dw.1.length f1) (.slice e2 dw.2.length f2) dw W ∧ DB W b10 (.slice av DL.length cv) (.slice none 0 0) (DL, [])) (by kernel_rfl) (⟨L.out.later (below_drewN' wr 1), XD.out.below (below_drewN' wr 1)⟩) (fun hHeld => ?_)
              clear L XD
              generalize wr.drew = G0 at *
              refine wpAnyH_take (i := 0) (oi := { dst := some 117, op := _, type := _, pos := _, after := _, guard := _ }) (v := (.bool false)) rfl (by kernel_rfl) (by kernel_rfl) (by kernel_rfl) (fun _ _ _ h => h) (Or.inl ⟨by rfl, ?hy32⟩) (by assumption) ?rest32
              case hy32 =>
                intro w9 hS9
                go_simp
              try simp only [Act.put, List.setIfInBounds_toArray, List.set_cons_zero, List.set_cons_succ]
              refine wpAnyH_take (i := 1) (oi := { dst := some 118, op := _, type := _, pos := _, after := _, guard := _ }) (v := (.bool false)) rfl (by kernel_rfl) (by kernel_rfl) (by kernel_rfl) (fun _ _ _ h => h) (Or.inl ⟨by rfl, ?hy33⟩) (by assumption) ?rest33
              case hy33 =>
                intro w9 hS9
                go_simp
              try simp only [Act.put, List.setIfInBounds_toArray, List.set_cons_zero, List.set_cons_succ]
              refine wpAnyH_take (i := 2) (oi := { dst := some 119, op := _, type := _, pos := _, after := _, guard := _ }) (v := undef) rfl (by kernel_rfl) (by kernel_rfl) (by kernel_rfl) (fun _ _ _ h => h) (Or.inr ⟨by rfl, rfl⟩) (by assumption) ?_
              try simp only [Act.put, List.setIfInBounds_toArray, List.set_cons_zero, List.set_cons_succ]
              refine wpAnyH_take (i := 3) (oi := { dst := some 120, op := _, type := _, pos := _, after := _, guard := _ }) (v := undef) rfl (by kernel_rfl) (by kernel_rfl) (by kernel_rfl) (fun _ _ _ h => h) (Or.inr ⟨by rfl, rfl⟩) (by assumption) ?_
              try simp only [Act.put, List.setIfInBounds_toArray, List.set_cons_zero, List.set_cons_succ]
              refine wpAnyH_take (i := 4) (oi := { dst := some 121, op := _, type := _, pos := _, after := _, guard := _ }) (v := undef) rfl (by kernel_rfl) (by kernel_rfl) (by kernel_rfl) (fun _ _ _ h => h) (Or.inr ⟨by rfl, rfl⟩) (by assumption) ?_
              try simp only [Act.put, List.setIfInBounds_toArray, List.set_cons_zero, List.set_cons_succ]
              refine wpAnyH_take (i := 5) (oi := { dst := some 122, op := _, type := _, pos := _, after := _, guard := _ }) (v := undef) rfl (by kernel_rfl) (by kernel_rfl) (by kernel_rfl) (fun _ _ _ h => h) (Or.inr ⟨by rfl, rfl⟩) (by assumption) ?_
              try simp only [Act.put, List.setIfInBounds_toArray, List.set_cons_zero, List.set_cons_succ]
              refine wpAnyH_take (i := 6) (oi := { dst := some 123, op := _, type := _, pos := _, after := _, guard := _ }) (v := undef) rfl (by kernel_rfl) (by kernel_rfl) (by kernel_rfl) (fun _ _ _ h => h) (Or.inr ⟨by rfl, rfl⟩) (by assumption) ?_
              try simp only [Act.put, List.setIfInBounds_toArray, List.set_cons_zero, List.set_cons_succ]
              refine wpAnyH_take (i := 7) (oi := { dst := some 124, op := _, type := _, pos := _, after := _, guard := _ }) (v := undef) rfl (by kernel_rfl) (by kernel_rfl) (by kernel_rfl) (fun _ _ _ h => h) (Or.inr ⟨by rfl, rfl⟩) (by assumption) ?_
              try simp only [Act.put, List.setIfInBounds_toArray, List.set_cons_zero, List.set_cons_succ]
              refine wpAnyH_take (i := 8) (oi := { dst := some 125, op := _, type := _, pos := _, after := _, guard := _ }) (v := undef) rfl (by kernel_rfl) (by kernel_rfl) (by kernel_rfl) (fun _ _ _ h => h) (Or.inr ⟨by rfl, rfl⟩) (by assumption) ?_
              try simp only [Act.put, List.setIfInBounds_toArray, List.set_cons_zero, List.set_cons_succ]
              refine wpAnyH_take (i := 9) (oi := { dst := some 126, op := _, type := _, pos := _, after := _, guard := _ }) (v := undef) rfl (by kernel_rfl) (by kernel_rfl) (by kernel_rfl) (fun _ _ _ h => h) (Or.inr ⟨by rfl, rfl⟩) (by assumption) ?_
              try simp only [Act.put, List.setIfInBounds_toArray, List.set_cons_zero, List.set_cons_succ]
              refine wpAnyH_take (i := 10) (oi := { dst := some 127, op := _, type := _, pos := _, after := _, guard := _ }) (v := undef) rfl (by kernel_rfl) (by kernel_rfl) (by kernel_rfl) (fun _ _ _ h => h) (Or.inr ⟨by rfl, rfl⟩) (by assumption) ?_
              try simp only [Act.put, List.setIfInBounds_toArray, List.set_cons_zero, List.set_cons_succ]
              refine wpAnyH_take (i := 11) (oi := { dst := some 128, op := _, type := _, pos := _, after := _, guard := _ }) (v := (.bool false)) rfl (by kernel_rfl) (by kernel_rfl) (by kernel_rfl) (fun _ _ _ h => h) (Or.inl ⟨by rfl, ?hy34⟩) (by assumption) ?rest34
              case hy34 =>
                intro w9 hS9
                go_simp
              try simp only [Act.put, List.setIfInBounds_toArray, List.set_cons_zero, List.set_cons_succ]
              refine wpAnyH_done (by kernel_rfl) ?_ _
              have L2 : Hid (LS w b5 (.slice a3 d.1.length c3) (.slice a4 d.2.length c4) d (.slice ay X.length cy) X b8 (.slice e1 dw.1.length f1) (.slice e2 dw.2.length f2) dw G0) := hHeld.1
              have XD2 : Hid (DB G0 b10 (.slice av DL.length cv) (.slice none 0 0) (DL, [])) := hHeld.2
              clear hHeld
              go_wp2
              exact ⟨⟨o + 1, by omega, by go_num, L2, XD2⟩, by simp [intOf]; omega⟩
      · have hon : o = N := by omega
        have hltI : ¬ (o : Int) < (N : Int) := by omega
        have hdl := HDL.out.1
        have BL : Hid (Below w.heap.size w wr) := L.out.b
        obtain ⟨⟨zb, cb0, cb1⟩, -⟩ := L.out.d5.x
        obtain ⟨⟨xb, xb0, xb1⟩, -⟩ := XD.out.x
        rw [hdl] at xb0
        clear hdl
        go_wp2
        go_ret
        exact ⟨rfl, BL.out⟩

end Go.Proofs.Ytmgolinleiahpaa

namespace Go.Proofs.Ytmgolinleiahpaa
open Go.ChangeShapes Go.WideShapes Go.ChangeAt Go.RowKit

theorem knob : ownKnob Try.prog.godebug = none := by kernel_rfl
theorem laidOut : laidOutB Try.prog = true := by kernel_rfl

theorem addr_add_none (b o i : Nat) : (⟨b, o, none⟩ : Addr).add i = ⟨b, o + i, none⟩ := Addr.add_lit ..

theorem rd_of {k : IntKind} {w : World} {x : Addr} {len cap : Nat} {zs : List Int} (hl : len ≤ cap) (hm : cap ≤ maxLen) (hz : zs.length = cap)
    (hcell : ∀ i, i < zs.length → w.cell? (x.add i) = some (.int k (zs.getD i 0))) : Rd k w (.slice (some x) len cap) (zs.take len) := by
  have hlen : (zs.take len).length = len := by simp; omega
  refine ⟨some x, cap, by rw [hlen], by rw [hlen]; exact hl, hm, ?_⟩
  by_cases h0 : len = 0
  · subst h0; exact .inl rfl
  · right
    obtain ⟨b, off, spot⟩ := x
    have hc := hcell 0 (by omega)
    have hspot : spot = none := by simpa [Addr.add] using World.cell?_spot hc
    subst hspot
    refine ⟨b, off, rfl, ?_, fun i hi => ?_⟩
    · have := World.block_lt_of_cell? w _ hc
      simpa [Addr.add] using this
    · rw [hlen] at hi
      have := hcell i (by omega)
      rw [addr_add_none] at this
      rw [this]
      simp [List.getD, List.getElem?_take_of_lt hi]

theorem byt_of {zs : List Int} {len : Nat} (h : ∀ n ∈ zs, (Lit.int .u8 n).wf = true) : Byt (zs.take len) := by
  intro x hx
  have := h x (List.mem_of_mem_take hx)
  have b := bounds_u8 this
  omega

/-- A []byte that came in. -/
theorem open_bytes {H : Type} {enc : TypeId × Value → H} {W : World} {a0 : Option Addr} {len0 cap0 : Nat} {d0 : DataW H} {p0 : List MemPlace} {base : Nat} {b : Bool}
    (h0 : DataW.Trod enc Try.prog W base (fun _ => true) b 29 (.slice a0 len0 cap0) d0 p0) : ∃ xs, Rd .u8 W (.slice a0 len0 cap0) xs ∧ Byt xs := by
  obtain ⟨fuel, hf⟩ := h0
  rcases open_ints Try.underlying29 Try.underlying5 (by kernel_rfl) hf with ⟨hcs, _⟩ | ⟨x, l, c, zs, hcs, _, hl, hm, hz, _, hcell, hwz⟩
  · simp [Value.cells] at hcs
    obtain ⟨rfl, rfl, rfl⟩ := hcs
    exact ⟨[], ⟨none, 0, rfl, Nat.le_refl _, Nat.zero_le _, .inl rfl⟩, fun x hx => by cases hx⟩
  · simp [Value.cells] at hcs
    obtain ⟨rfl, rfl, rfl⟩ := hcs
    exact ⟨zs.take len0, rd_of hl hm (by simpa using hz) hcell, byt_of hwz⟩

end Go.Proofs.Ytmgolinleiahpaa

