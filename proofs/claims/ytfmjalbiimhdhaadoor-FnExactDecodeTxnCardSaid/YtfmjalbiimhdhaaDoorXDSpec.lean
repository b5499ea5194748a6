import Derived.Test.YtfmjalbiimhdhaaDoorXDTxn
import Derived.Test.YtfmjalbiimhdhaaDoorDReadN
namespace Go.Proofs.YtfmjalbiimhdhaaDoor
open Go.RowKit

/-- The way of spec.DecodeTxn. -/
def SX (w : World) (ys : List Int) (W : World) (v : Value) (es : List Ef) (p c : Nat) : Prop :=
  ParE (cntX ys) (ys.drop 6) es (ys.drop p) c ∧ SzE es ∧ Below w.heap.size w W ∧ Zx W w.heap.size ∧ B2 W (w.heap.size + 1) (zX ys) v ∧ OwnE 79 W (w.heap.size + 2) v es
theorem SX.later {w W W' : World} {ys : List Int} {v : Value} {es : List Ef} {p c : Nat} (h : SX w ys W v es p c) (hb : Below W.heap.size W W') : SX w ys W' v es p c := by
  obtain ⟨t1, t2, t3, t4, t5, t6⟩ := h
  exact ⟨t1, t2, t3.trans (hb.mono t3.size), t4.turn (grown_of hb none) (by simp), t5.turn (grown_of hb none) (by simp), t6.below hb⟩
theorem SX.push {w W W3 : World} {ys : List Int} {v v3 : Value} {es : List Ef} {p q c : Nat} {n : Ef} (h : SX w ys W v es p (c + 1)) (hb : Byt ys) (hr : rdE (ys.drop p) = some (n, ys.drop q)) (hg : W.grownBy W3 v.ownBlock) (ho : W3.ownsRow (w.heap.size + 2) 79 8 v3 (es.length + 1) (erow es ++ efL n)) :
    SX w ys (W3.setCell ⟨w.heap.size + 1, 1, none⟩ v3) v3 (es ++ [n]) q c := by
  obtain ⟨t1, t2, t3, t4, t5, t6⟩ := h
  have hne : ∀ k, k < w.heap.size + 2 → some k ≠ v.ownBlock := fun k hk e => by have := (World.ownsRow.lt t6 k e.symm).1; omega
  have hlo : ∀ g, v.ownBlock = some g → w.heap.size ≤ g := fun g e => by have := (World.ownsRow.lt t6 g e).1; omega
  have b6 := t5.turn hg (hne _ (by omega))
  have hby := byt_drop hb p
  have hsz := rdE_byt hr hby
  refine ⟨t1.step hby hr, t2.snoc hsz.2.2.1 hsz.2.2.2, (t3.grown hg t3.size hlo).setCell (p := ⟨w.heap.size + 1, 1, none⟩) (Nat.le_succ _) _, (t4.turn hg (hne _ (by omega))).set (by omega) _ _, ⟨by simpa using b6.1, (World.cell?_setCell_other _ _ _ _ (by intro e; injection e with _ e; omega)).trans b6.2.1, World.cell?_setCell_same _ _ _ b6.2.2.1, fun j => by rw [World.frozen?_setCell]; exact b6.2.2.2 j⟩, ?_⟩
  have : OwnE 79 W3 (w.heap.size + 2) v3 (es ++ [n]) := by unfold OwnE; rw [erow_one, List.length_append]; exact ho
  exact OwnE.setBelow this (by show w.heap.size + 1 < w.heap.size + 2; omega) _
/-- A local effect that may be written. -/
structure EW (W : World) (B : Nat) (e : Ef) : Prop where
  lt : B < W.heap.size
  c0 : W.cell? ⟨B, 0, none⟩ = some (.bool e.del)
  c1 : W.cell? ⟨B, 1, none⟩ = some (.string e.nd.path)
  c2 : W.cell? ⟨B, 2, none⟩ = some (.string e.nd.data)
  c3 : W.cell? ⟨B, 3, none⟩ = some (.int .i64 e.nd.ver)
  c4 : W.cell? ⟨B, 4, none⟩ = some (.int .i64 e.nd.cver)
  c5 : W.cell? ⟨B, 5, none⟩ = some (.int .i64 e.nd.cz)
  c6 : W.cell? ⟨B, 6, none⟩ = some (.int .i64 e.nd.mz)
  c7 : W.cell? ⟨B, 7, none⟩ = some (.int .i64 e.nd.pz)
  fz : ∀ j, W.frozen? ⟨B, j, none⟩ = false
theorem EW.new (w : World) (e : Ef) (t : TypeId) : EW (w.alloc (.cells #[.bool e.del, .string e.nd.path, .string e.nd.data, .int .i64 e.nd.ver, .int .i64 e.nd.cver, .int .i64 e.nd.cz, .int .i64 e.nd.mz, .int .i64 e.nd.pz] t)) w.heap.size e :=
  ⟨by simp, by simp, by simp, by simp, by simp, by simp, by simp, by simp, by simp, fun j => (by go_simp)⟩
theorem EW.later {W W' : World} {B : Nat} {e : Ef} (h : EW W B e) (hb : Below W.heap.size W W') : EW W' B e :=
  ⟨Nat.lt_of_lt_of_le h.lt hb.size, (hb.cell (p := ⟨B, _, none⟩) h.lt).trans h.c0, (hb.cell (p := ⟨B, _, none⟩) h.lt).trans h.c1, (hb.cell (p := ⟨B, _, none⟩) h.lt).trans h.c2, (hb.cell (p := ⟨B, _, none⟩) h.lt).trans h.c3, (hb.cell (p := ⟨B, _, none⟩) h.lt).trans h.c4, (hb.cell (p := ⟨B, _, none⟩) h.lt).trans h.c5, (hb.cell (p := ⟨B, _, none⟩) h.lt).trans h.c6, (hb.cell (p := ⟨B, _, none⟩) h.lt).trans h.c7, fun j => (hb.frozen (p := ⟨B, j, none⟩) h.lt).trans (h.fz j)⟩

theorem setB_same {W : World} {B i : Nat} {u x : Value} (h : W.cell? ⟨B, i, none⟩ = some x) : (W.setCell ⟨B, i, none⟩ u).cell? ⟨B, i, none⟩ = some u := World.cell?_setCell_same _ _ _ h
theorem setB_other {W : World} {B i j : Nat} {u x : Value} (h : W.cell? ⟨B, j, none⟩ = some x) (hij : i ≠ j) : (W.setCell ⟨B, i, none⟩ u).cell? ⟨B, j, none⟩ = some x := (World.cell?_setCell_other _ _ _ _ (by intro e; injection e with _ e; omega)).trans h
theorem EW.putN {W : World} {B : Nat} {e : Ef} (h : EW W B e) (n : Nd) : EW (((((((W.setCell ⟨B, 1, none⟩ (.string n.path)).setCell ⟨B, 2, none⟩ (.string n.data)).setCell ⟨B, 3, none⟩ (.int .i64 n.ver)).setCell ⟨B, 4, none⟩ (.int .i64 n.cver)).setCell ⟨B, 5, none⟩ (.int .i64 n.cz)).setCell ⟨B, 6, none⟩ (.int .i64 n.mz)).setCell ⟨B, 7, none⟩ (.int .i64 n.pz)) B ⟨e.del, n⟩ := by
  refine ⟨by simpa using h.lt, ?_, ?_, ?_, ?_, ?_, ?_, ?_, ?_, fun j => by simp only [World.frozen?_setCell]; exact h.fz j⟩
  · exact (setB_other (setB_other (setB_other (setB_other (setB_other (setB_other (setB_other h.c0 (by omega)) (by omega)) (by omega)) (by omega)) (by omega)) (by omega)) (by omega))
  · exact (setB_other (setB_other (setB_other (setB_other (setB_other (setB_other (setB_same h.c1) (by omega)) (by omega)) (by omega)) (by omega)) (by omega)) (by omega))
  · exact (setB_other (setB_other (setB_other (setB_other (setB_other (setB_same (setB_other h.c2 (by omega))) (by omega)) (by omega)) (by omega)) (by omega)) (by omega))
  · exact (setB_other (setB_other (setB_other (setB_other (setB_same (setB_other (setB_other h.c3 (by omega)) (by omega))) (by omega)) (by omega)) (by omega)) (by omega))
  · exact (setB_other (setB_other (setB_other (setB_same (setB_other (setB_other (setB_other h.c4 (by omega)) (by omega)) (by omega))) (by omega)) (by omega)) (by omega))
  · exact (setB_other (setB_other (setB_same (setB_other (setB_other (setB_other (setB_other h.c5 (by omega)) (by omega)) (by omega)) (by omega))) (by omega)) (by omega))
  · exact (setB_other (setB_same (setB_other (setB_other (setB_other (setB_other (setB_other h.c6 (by omega)) (by omega)) (by omega)) (by omega)) (by omega))) (by omega))
  · exact (setB_same (setB_other (setB_other (setB_other (setB_other (setB_other (setB_other h.c7 (by omega)) (by omega)) (by omega)) (by omega)) (by omega)) (by omega)))
theorem EW.putD {W : World} {B : Nat} {e : Ef} (h : EW W B e) (s : ByteArray) : EW ((((((((W.setCell ⟨B, 0, none⟩ (.bool true)).setCell ⟨B, 1, none⟩ (.string s)).setCell ⟨B, 2, none⟩ (.string ⟨#[]⟩)).setCell ⟨B, 3, none⟩ (.int .i64 0)).setCell ⟨B, 4, none⟩ (.int .i64 0)).setCell ⟨B, 5, none⟩ (.int .i64 0)).setCell ⟨B, 6, none⟩ (.int .i64 0)).setCell ⟨B, 7, none⟩ (.int .i64 0)) B ⟨true, ndP s⟩ := by
  refine ⟨by simpa using h.lt, ?_, ?_, ?_, ?_, ?_, ?_, ?_, ?_, fun j => by simp only [World.frozen?_setCell]; exact h.fz j⟩
  · exact (setB_other (setB_other (setB_other (setB_other (setB_other (setB_other (setB_other (setB_same h.c0) (by omega)) (by omega)) (by omega)) (by omega)) (by omega)) (by omega)) (by omega))
  · exact (setB_other (setB_other (setB_other (setB_other (setB_other (setB_other (setB_same (setB_other h.c1 (by omega))) (by omega)) (by omega)) (by omega)) (by omega)) (by omega)) (by omega))
  · exact (setB_other (setB_other (setB_other (setB_other (setB_other (setB_same (setB_other (setB_other h.c2 (by omega)) (by omega))) (by omega)) (by omega)) (by omega)) (by omega)) (by omega))
  · exact (setB_other (setB_other (setB_other (setB_other (setB_same (setB_other (setB_other (setB_other h.c3 (by omega)) (by omega)) (by omega))) (by omega)) (by omega)) (by omega)) (by omega))
  · exact (setB_other (setB_other (setB_other (setB_same (setB_other (setB_other (setB_other (setB_other h.c4 (by omega)) (by omega)) (by omega)) (by omega))) (by omega)) (by omega)) (by omega))
  · exact (setB_other (setB_other (setB_same (setB_other (setB_other (setB_other (setB_other (setB_other h.c5 (by omega)) (by omega)) (by omega)) (by omega)) (by omega))) (by omega)) (by omega))
  · exact (setB_other (setB_same (setB_other (setB_other (setB_other (setB_other (setB_other (setB_other h.c6 (by omega)) (by omega)) (by omega)) (by omega)) (by omega)) (by omega))) (by omega))
  · exact (setB_same (setB_other (setB_other (setB_other (setB_other (setB_other (setB_other (setB_other h.c7 (by omega)) (by omega)) (by omega)) (by omega)) (by omega)) (by omega)) (by omega)))

theorem zx3 {W : World} {k : Nat} (h : Zx W k) (ob : Obj) : ((((W.setCell ⟨k, 0, none⟩ (.bool false)).setCell ⟨k, 1, none⟩ (.int .i64 0)).setCell ⟨k, 2, none⟩ (.slice none 0 0)).alloc ob).cell? ⟨k, 0, none⟩ = some (.bool false) ∧ ((((W.setCell ⟨k, 0, none⟩ (.bool false)).setCell ⟨k, 1, none⟩ (.int .i64 0)).setCell ⟨k, 2, none⟩ (.slice none 0 0)).alloc ob).cell? ⟨k, 1, none⟩ = some (.int .i64 0) ∧ ((((W.setCell ⟨k, 0, none⟩ (.bool false)).setCell ⟨k, 1, none⟩ (.int .i64 0)).setCell ⟨k, 2, none⟩ (.slice none 0 0)).alloc ob).cell? ⟨k, 2, none⟩ = some (.slice none 0 0) := by
  have E : ∀ j : Nat, ((((W.setCell ⟨k, 0, none⟩ (.bool false)).setCell ⟨k, 1, none⟩ (.int .i64 0)).setCell ⟨k, 2, none⟩ (.slice none 0 0)).alloc ob).cell? ⟨k, j, none⟩ = (((W.setCell ⟨k, 0, none⟩ (.bool false)).setCell ⟨k, 1, none⟩ (.int .i64 0)).setCell ⟨k, 2, none⟩ (.slice none 0 0)).cell? ⟨k, j, none⟩ := fun j => ((Below.refl _ _).alloc (Nat.le_refl _) ob).cell (p := ⟨k, j, none⟩) (by simpa using h.1)
  refine ⟨(E 0).trans ?_, (E 1).trans ?_, (E 2).trans ?_⟩
  · exact setB_other (setB_other (setB_same h.2.1) (by omega)) (by omega)
  · exact setB_other (setB_same (setB_other h.2.2.1 (by omega))) (by omega)
  · exact setB_same (setB_other (setB_other h.2.2.2.1 (by omega)) (by omega))

set_option maxHeartbeats 4000000 in
set_option maxRecDepth 100000 in
theorem specDecX_any (w : World) (v : Value) (ys : List Int) (h : Rd .u8 w v ys) (hby : Byt ys) (hl : ys.length ≤ 1048576) :
    Calls Tryd.prog 21 #[v] w fun e w' => DxPost w ys e w' := by
  obtain ⟨i0, hi, hz0, hz1, hz2⟩ := info_parts Tryd.infoE
  obtain ⟨ao, cap, rfl, hcc, hcm⟩ := h.len
  have HR : Hid (Rd .u8 w (.slice ao ys.length cap) ys) := h
  have HBY : Hid (Byt ys) := hby
  have B0 : Hid (Below w.heap.size w (w.alloc (.cells #[.bool false, .int .i64 0, .slice none 0 0] 46))) := (Below.refl _ _).alloc (Nat.le_refl _) _
  have Z0 : Hid (Zx (w.alloc (.cells #[.bool false, .int .i64 0, .slice none 0 0] 46)) w.heap.size) := ⟨by simp, (by go_simp), (by go_simp), (by go_simp), fun j => (by go_simp)⟩
  clear h hby
  go_enter Tryd.func21, Tryd.ntmps21
  by_cases h6 : ys.length < 6
  · have h6I : (ys.length : Int) < 6 := by omega
    have HF : Hid (DxPost w ys (.returned (.agg #[.bool false, .int .i64 0, .slice none 0 0])) (w.alloc (.cells #[.bool false, .int .i64 0, .slice none 0 0] 46))) := ⟨B0.out, .inl ⟨decX_short h6, rfl⟩⟩
    go_wp2
    refine bodyPost_ret (v := .agg #[.bool false, .int .i64 0, .slice none 0 0]) (by simp [results, Tryd.results21, go_sem]) rfl HF.out
  have h6I : ¬ (ys.length : Int) < 6 := by omega
  obtain ⟨b, o, hao, hb, hc⟩ : ∃ b o, ao = some ⟨b, o, none⟩ ∧ b < w.heap.size ∧ ∀ i, i < ys.length → w.cell? ⟨b, o + i, none⟩ = some (.int .u8 (ys.getD i 0)) := by
    obtain ⟨ao', cap', e', -, -, h3⟩ := HR.out
    simp only [Value.slice.injEq] at e'
    obtain ⟨rfl, -, -⟩ := e'
    rcases h3 with h3 | ⟨b, o, rfl, hb, hc⟩
    · rw [h3] at h6; simp at h6
    · exact ⟨b, o, rfl, hb, hc⟩
  subst hao
  have HC : Hid (∀ i, i < ys.length → w.cell? ⟨b, o + i, none⟩ = some (.int .u8 (ys.getD i 0))) := hc
  clear hc
  have hc4 : 4 ≤ cap := by omega
  go_wp2_with fail
  have hs0 : (w.alloc (.cells #[.bool false, .int .i64 0, .slice none 0 0] 46)).heap.size = w.heap.size + 1 := by simp
  generalize w.alloc (.cells #[.bool false, .int .i64 0, .slice none 0 0] 46) = W0 at *
  have HN1 : Hid (∀ i, i < 4 → W0.cell? ⟨b, o + i, none⟩ = some (.int .u8 ((ys.take 4).getD i 0))) := by
    intro i hi
    rw [B0.out.cell (p := ⟨b, o + i, none⟩) hb, HC.out i (by omega)]
    simp [List.getD, List.getElem?_take_of_lt hi]
  refine (specNum_any W0 b o 4 _ (ys.take 4) ?n1 ?n2 HN1.out ?n4 (by omega)).mono ?_
  case n1 => rw [List.length_take]; omega
  case n2 => exact fun x hx => HBY.out x (List.mem_of_mem_take hx)
  case n4 => exact num_small (fun x hx => HBY.out x (List.mem_of_mem_take hx)) (by rw [List.length_take]; omega)
  rintro e w1 ⟨rfl, q1, hw1⟩
  have D1 : Hid (Below W0.heap.size W0 w1) := by rw [hw1]; exact below_drewN' W0 q1
  have hs1 : w1.heap.size = W0.heap.size := by rw [hw1]; rfl
  clear hw1 HN1
  rw [show numB (ys.take 4) = zX ys from rfl]
  have Z1 : Hid (Zx w1 w.heap.size) := Z0.out.turn (grown_of D1.out none) (by simp)
  have B1' : Hid (Below w.heap.size w w1) := B0.out.trans (D1.out.mono B0.out.size)
  clear D1 Z0
  go_wp2_with fail
  have ba : Below w1.heap.size w1 (w1.alloc (.cells #[.int .i64 (zX ys : Int), .slice none 0 0] 40)) := (Below.refl _ _).alloc (Nat.le_refl _) _
  have X2 : Hid (B2 (w1.alloc (.cells #[.int .i64 (zX ys : Int), .slice none 0 0] 40)) (w.heap.size + 1) (zX ys) (.slice none 0 0)) := by
    rw [← hs0, ← hs1]
    exact ⟨by simp, (by go_simp), (by go_simp), fun j => (by go_simp)⟩
  have Z2 : Hid (Zx (w1.alloc (.cells #[.int .i64 (zX ys : Int), .slice none 0 0] 40)) w.heap.size) := Z1.out.turn (grown_of ba none) (by simp)
  have B2' : Hid (Below w.heap.size w (w1.alloc (.cells #[.int .i64 (zX ys : Int), .slice none 0 0] 40))) := B1'.out.trans (ba.mono B1'.out.size)
  clear ba Z1 B1' hs0 hs1
  generalize w1.alloc (.cells #[.int .i64 (zX ys : Int), .slice none 0 0] 40) = w2 at *
  have HN2 : Hid (∀ i, i < 2 → w2.cell? ⟨b, o + 4 + i, none⟩ = some (.int .u8 (((ys.drop 4).take 2).getD i 0))) := by
    intro i hi
    rw [B2'.out.cell (p := ⟨b, o + 4 + i, none⟩) hb, Nat.add_assoc, HC.out (4 + i) (by omega)]
    simp [List.getD, List.getElem?_take_of_lt hi]
  refine (specNum_any w2 b (o + 4) 2 _ ((ys.drop 4).take 2) ?m1 ?m2 HN2.out ?m4 (by omega)).mono ?_
  case m1 => rw [List.length_take, List.length_drop]; omega
  case m2 => exact fun x hx => HBY.out x (List.mem_of_mem_drop (List.mem_of_mem_take hx))
  case m4 => exact num_small (fun x hx => HBY.out x (List.mem_of_mem_drop (List.mem_of_mem_take hx))) (by rw [List.length_take]; omega)
  rintro e w3 ⟨rfl, q3, hw3⟩
  have D3 : Below w2.heap.size w2 w3 := by rw [hw3]; exact below_drewN' w2 q3
  have S3 : Hid (SX w ys w3 (.slice none 0 0) [] 6 (cntX ys - 0)) := ⟨ParE.start _ _, (fun n hn => by cases hn), B2'.out.trans (D3.mono B2'.out.size), Z2.out.turn (grown_of D3 none) (by simp), X2.out.turn (grown_of D3 none) (by simp), World.ownsRow_nil _ _ _ _⟩
  have hC := (wrap2 (byt_drop HBY.out 4)).2
  rw [show numB ((ys.drop 4).take 2) = cntX ys from rfl] at *
  clear hw3 D3 HN2 X2 Z2 B2'
  generalize hCC : cntX ys = C at *
  have HCC : Hid (cntX ys = C) := hCC
  clear hCC
  go_wp2
  go_loopw [5, 6] (fun va vi wr => ∃ (i p : Nat) (v : Value) (es : List Ef), i ≤ C ∧ p ≤ ys.length ∧ va = .int .i64 p ∧ vi = .int .i64 i ∧ Hid (SX w ys wr v es p (C - i))) (fun _ i _ => C - (intOf i).toNat)
  case atStart => exact ⟨0, 6, _, _, Nat.zero_le _, by omega, rfl, rfl, S3⟩
  case round =>
    clear S3
    obtain ⟨i, p, v, es, hiC, hp, rfl, rfl, D⟩ := hrel
    obtain ⟨va, vc, hva⟩ := D.out.2.2.2.2.2.slice
    subst hva
    have hns : es.length ≤ 1048576 := by have := D.out.1.2; simp only [List.length_drop] at this; omega
    by_cases hlt : i < C
    · have hltI : (i : Int) < (C : Int) := by omega
      obtain ⟨c, hc⟩ : ∃ c, C - i = c + 1 := ⟨C - i - 1, by omega⟩
      rw [hc] at D
      have HC2 : Hid (C - (i + 1) = c) := by show _ = _; omega
      clear hc
      have HNO : Hid (rdE (ys.drop p) = none → decX ys = none) := fun hr => decX_bad (by rw [HCC.out]; exact (HCC.out ▸ D.out.1).bad hr)
      by_cases hpN : p < ys.length
      rotate_left
      · have hpI : (ys.length : Int) ≤ (p : Int) := by omega
        have HDX : Hid (decX ys = none) := HNO.out (by rw [List.drop_eq_nil_of_le (by omega)]; rfl)
        obtain ⟨-, z0, z1, z2, zf⟩ := D.out.2.2.2.1
        have f0 := zf 0
        have f1 := zf 1
        have f2 := zf 2
        have HF : Hid (DxPost w ys (.returned (.agg #[.bool false, .int .i64 0, .slice none 0 0])) (((wr.setCell ⟨w.heap.size, 0, none⟩ (.bool false)).setCell ⟨w.heap.size, 1, none⟩ (.int .i64 0)).setCell ⟨w.heap.size, 2, none⟩ (.slice none 0 0))) := ⟨((D.out.2.2.1.setCell (p := ⟨w.heap.size, 0, none⟩) (Nat.le_refl _) _).setCell (p := ⟨w.heap.size, 1, none⟩) (Nat.le_refl _) _).setCell (p := ⟨w.heap.size, 2, none⟩) (Nat.le_refl _) _, .inl ⟨HDX.out, rfl⟩⟩
        clear zf
        go_wp2
        refine bodyPost_ret (v := .agg #[.bool false, .int .i64 0, .slice none 0 0]) (by simp [results, Tryd.results21, go_sem, z0, z1, z2]) rfl HF.out
      have hpI : (p : Int) < (ys.length : Int) := by omega
      obtain ⟨y, hy, hye⟩ := byt_at HBY.out p
      have HD : Hid (ys.drop p = (y : Int) :: ys.drop (p + 1)) := by
        show _ = _
        rw [List.drop_eq_getElem_cons hpN]
        simp only [List.getD, List.getElem?_eq_getElem hpN, Option.getD_some] at hye
        rw [hye]
      have HCP : Hid (∀ W, Below w.heap.size w W → W.cell? ⟨b, o + p, none⟩ = some (.int .u8 (y : Int))) := fun W hW => by rw [hW.cell (p := ⟨b, o + p, none⟩) hb, HC.out p hpN, hye]
      clear hye
      have D2 : Hid (SX w ys (wr.alloc (.cells #[.bool false, .string ⟨#[]⟩, .string ⟨#[]⟩, .int .i64 0, .int .i64 0, .int .i64 0, .int .i64 0, .int .i64 0] 79)) (.slice va es.length vc) es p (c + 1)) := D.out.later ((Below.refl _ _).alloc (Nat.le_refl _) _)
      have E2 : Hid (EW (wr.alloc (.cells #[.bool false, .string ⟨#[]⟩, .string ⟨#[]⟩, .int .i64 0, .int .i64 0, .int .i64 0, .int .i64 0, .int .i64 0] 79)) wr.heap.size ef0) := EW.new wr ef0 _
      have cp := HCP.out _ D2.out.2.2.1
      have BA : Hid (Below wr.heap.size wr (wr.alloc (.cells #[.bool false, .string ⟨#[]⟩, .string ⟨#[]⟩, .int .i64 0, .int .i64 0, .int .i64 0, .int .i64 0, .int .i64 0] 79))) := (Below.refl _ _).alloc (Nat.le_refl _) _
      by_cases h1 : y = 1
      · subst h1
        go_wp2_with fail
        rename_i K3 a3 hx K2 a2 K1 a1 K0 a0
        have HK2 : Hid _ := a2
        clear a2 cp
        generalize wr.alloc (.cells #[.bool false, .string ⟨#[]⟩, .string ⟨#[]⟩, .int .i64 0, .int .i64 0, .int .i64 0, .int .i64 0, .int .i64 0] 79) = wA at *
        have hm := rN_any wA _ ys (p + 1) (HR.out.below D2.out.2.2.1) HBY.out hl
        rw [show ((p + 1 : Nat) : Int) = (p : Int) + 1 by omega] at hm
        refine hm.mono ?_
        clear hm
        rintro e w1 ⟨b1, hpp⟩
        have E3 : Hid (EW w1 wr.heap.size ef0) := E2.out.later b1
        have BW : Hid (Below wr.heap.size wr w1) := BA.out.trans (b1.mono BA.out.size)
        have sw := BW.out.size
        clear b1 E2 D2 BA
        have key : ∀ n : Nd, Hid (EW ((((((((w1.setCell ⟨wr.heap.size, 1, none⟩ (.string n.path)).setCell ⟨wr.heap.size, 2, none⟩ (.string n.data)).setCell ⟨wr.heap.size, 3, none⟩ (.int .i64 n.ver)).setCell ⟨wr.heap.size, 4, none⟩ (.int .i64 n.cver)).setCell ⟨wr.heap.size, 5, none⟩ (.int .i64 n.cz)).setCell ⟨wr.heap.size, 6, none⟩ (.int .i64 n.mz)).setCell ⟨wr.heap.size, 7, none⟩ (.int .i64 n.pz)).alloc (.cells #[.string n.path, .string n.data, .int .i64 n.ver, .int .i64 n.cver, .int .i64 n.cz, .int .i64 n.mz, .int .i64 n.pz] 74)) wr.heap.size ⟨false, n⟩) ∧ Hid (SX w ys ((((((((w1.setCell ⟨wr.heap.size, 1, none⟩ (.string n.path)).setCell ⟨wr.heap.size, 2, none⟩ (.string n.data)).setCell ⟨wr.heap.size, 3, none⟩ (.int .i64 n.ver)).setCell ⟨wr.heap.size, 4, none⟩ (.int .i64 n.cver)).setCell ⟨wr.heap.size, 5, none⟩ (.int .i64 n.cz)).setCell ⟨wr.heap.size, 6, none⟩ (.int .i64 n.mz)).setCell ⟨wr.heap.size, 7, none⟩ (.int .i64 n.pz)).alloc (.cells #[.string n.path, .string n.data, .int .i64 n.ver, .int .i64 n.cver, .int .i64 n.cz, .int .i64 n.mz, .int .i64 n.pz] 74)) (.slice va es.length vc) es p (c + 1)) := by
          intro n
          refine ⟨(E3.out.putN n).later ((Below.refl _ _).alloc (Nat.le_refl _) _), D.out.later (Below.alloc ?_ (by simp; omega) _)⟩
          exact (((((((BW.out.setCell (p := ⟨wr.heap.size, 1, none⟩) (Nat.le_refl _) _).setCell (p := ⟨wr.heap.size, 2, none⟩) (Nat.le_refl _) _).setCell (p := ⟨wr.heap.size, 3, none⟩) (Nat.le_refl _) _).setCell (p := ⟨wr.heap.size, 4, none⟩) (Nat.le_refl _) _).setCell (p := ⟨wr.heap.size, 5, none⟩) (Nat.le_refl _) _).setCell (p := ⟨wr.heap.size, 6, none⟩) (Nat.le_refl _) _).setCell (p := ⟨wr.heap.size, 7, none⟩) (Nat.le_refl _) _)
        have HKEY : Hid (∀ n : Nd, Hid (EW ((((((((w1.setCell ⟨wr.heap.size, 1, none⟩ (.string n.path)).setCell ⟨wr.heap.size, 2, none⟩ (.string n.data)).setCell ⟨wr.heap.size, 3, none⟩ (.int .i64 n.ver)).setCell ⟨wr.heap.size, 4, none⟩ (.int .i64 n.cver)).setCell ⟨wr.heap.size, 5, none⟩ (.int .i64 n.cz)).setCell ⟨wr.heap.size, 6, none⟩ (.int .i64 n.mz)).setCell ⟨wr.heap.size, 7, none⟩ (.int .i64 n.pz)).alloc (.cells #[.string n.path, .string n.data, .int .i64 n.ver, .int .i64 n.cver, .int .i64 n.cz, .int .i64 n.mz, .int .i64 n.pz] 74)) wr.heap.size ⟨false, n⟩) ∧ Hid (SX w ys ((((((((w1.setCell ⟨wr.heap.size, 1, none⟩ (.string n.path)).setCell ⟨wr.heap.size, 2, none⟩ (.string n.data)).setCell ⟨wr.heap.size, 3, none⟩ (.int .i64 n.ver)).setCell ⟨wr.heap.size, 4, none⟩ (.int .i64 n.cver)).setCell ⟨wr.heap.size, 5, none⟩ (.int .i64 n.cz)).setCell ⟨wr.heap.size, 6, none⟩ (.int .i64 n.mz)).setCell ⟨wr.heap.size, 7, none⟩ (.int .i64 n.pz)).alloc (.cells #[.string n.path, .string n.data, .int .i64 n.ver, .int .i64 n.cver, .int .i64 n.cz, .int .i64 n.mz, .int .i64 n.pz] 74)) (.slice va es.length vc) es p (c + 1))) := key
        clear key
        obtain ⟨el, e0, e1, e2, e3, e4, e5, e6, e7, ef⟩ := E3.out
        rcases hpp with ⟨hr, rfl⟩ | ⟨n, q, hr, hpq, hq, rfl⟩
        · have HDX : Hid (decX ys = none) := HNO.out (by rw [HD.out]; simp [rdE, hr])
          obtain ⟨E5, D5⟩ := HKEY.out nd0
          clear hr HKEY
          unfold ndV
          go_wp2
          refine HK2.out _ _ ?_
          clear el e0 e1 e2 e3 e4 e5 e6 e7 ef HK2 BW sw E3
          generalize (((((((w1.setCell ⟨wr.heap.size, 1, none⟩ (.string nd0.path)).setCell ⟨wr.heap.size, 2, none⟩ (.string nd0.data)).setCell ⟨wr.heap.size, 3, none⟩ (.int .i64 nd0.ver)).setCell ⟨wr.heap.size, 4, none⟩ (.int .i64 nd0.cver)).setCell ⟨wr.heap.size, 5, none⟩ (.int .i64 nd0.cz)).setCell ⟨wr.heap.size, 6, none⟩ (.int .i64 nd0.mz)).setCell ⟨wr.heap.size, 7, none⟩ (.int .i64 nd0.pz)).alloc (.cells #[.string nd0.path, .string nd0.data, .int .i64 nd0.ver, .int .i64 nd0.cver, .int .i64 nd0.cz, .int .i64 nd0.mz, .int .i64 nd0.pz] 74) = w5 at *
          have cp := HCP.out w5 D5.out.2.2.1
          obtain ⟨-, z0, z1, z2, zf⟩ := D5.out.2.2.2.1
          have f0 := zf 0
          have f1 := zf 1
          have f2 := zf 2
          have HF : Hid (DxPost w ys (.returned (.agg #[.bool false, .int .i64 0, .slice none 0 0])) (((w5.setCell ⟨w.heap.size, 0, none⟩ (.bool false)).setCell ⟨w.heap.size, 1, none⟩ (.int .i64 0)).setCell ⟨w.heap.size, 2, none⟩ (.slice none 0 0))) := ⟨((D5.out.2.2.1.setCell (p := ⟨w.heap.size, 0, none⟩) (Nat.le_refl _) _).setCell (p := ⟨w.heap.size, 1, none⟩) (Nat.le_refl _) _).setCell (p := ⟨w.heap.size, 2, none⟩) (Nat.le_refl _) _, .inl ⟨HDX.out, rfl⟩⟩
          clear zf
          go_wp2
          refine bodyPost_ret (v := .agg #[.bool false, .int .i64 0, .slice none 0 0]) (by simp [results, Tryd.results21, go_sem, z0, z1, z2]) rfl HF.out
        · have HRD : Hid (rdE (ys.drop p) = some (⟨false, n⟩, ys.drop q)) := by show _ = _; rw [HD.out]; simp [rdE, hr]
          obtain ⟨E5, D5⟩ := HKEY.out n
          clear hr HKEY
          unfold ndV
          go_wp2
          refine HK2.out _ _ ?_
          clear el e0 e1 e2 e3 e4 e5 e6 e7 ef HK2 BW sw E3
          generalize (((((((w1.setCell ⟨wr.heap.size, 1, none⟩ (.string n.path)).setCell ⟨wr.heap.size, 2, none⟩ (.string n.data)).setCell ⟨wr.heap.size, 3, none⟩ (.int .i64 n.ver)).setCell ⟨wr.heap.size, 4, none⟩ (.int .i64 n.cver)).setCell ⟨wr.heap.size, 5, none⟩ (.int .i64 n.cz)).setCell ⟨wr.heap.size, 6, none⟩ (.int .i64 n.mz)).setCell ⟨wr.heap.size, 7, none⟩ (.int .i64 n.pz)).alloc (.cells #[.string n.path, .string n.data, .int .i64 n.ver, .int .i64 n.cver, .int .i64 n.cz, .int .i64 n.mz, .int .i64 n.pz] 74) = w5 at *
          have cp := HCP.out w5 D5.out.2.2.1
          obtain ⟨n8, hn8⟩ : ∃ n8 : Ef, n8 = ⟨false, n⟩ := ⟨_, rfl⟩
          rw [← hn8] at E5 HRD
          clear hn8
          have D6 : Hid (SX w ys (w5.alloc (.cells #[.bool n8.del, .string n8.nd.path, .string n8.nd.data, .int .i64 n8.nd.ver, .int .i64 n8.nd.cver, .int .i64 n8.nd.cz, .int .i64 n8.nd.mz, .int .i64 n8.nd.pz] 79)) (.slice va es.length vc) es p (c + 1)) := D5.out.later ((Below.refl _ _).alloc (Nat.le_refl _) _)
          have N6 : Hid (∀ j u, (efL n8)[j]? = some u → (w5.alloc (.cells #[.bool n8.del, .string n8.nd.path, .string n8.nd.data, .int .i64 n8.nd.ver, .int .i64 n8.nd.cver, .int .i64 n8.nd.cz, .int .i64 n8.nd.mz, .int .i64 n8.nd.pz] 79)).cell? ((⟨w5.heap.size, 0, none⟩ : Addr).add j) = some u) := efL_cells _ _ _
          obtain ⟨el, e0, e1, e2, e3, e4, e5, e6, e7, -⟩ := E5.out
          obtain ⟨-, b0, b1, bf⟩ := D5.out.2.2.2.2.1
          have hqI : ¬ (q : Int) < 0 := by omega
          have s6 := D6.out.2.2.1.size
          have s52 := D5.out.2.2.2.2.1.1
          go_wp2_with (at_builtin; go_must (refine wpList_append_own _ rfl _ _ 38 rfl (w.heap.size + 2) 79 i0 (.agg #[.bool false, .string ByteArray.empty, .string ByteArray.empty, .int .i64 0, .int .i64 0, .int .i64 0, .int .i64 0, .int .i64 0]) 8 80 Tryd.underlying38 hi hz0 hz1 hz2 rfl (by decide) _ _ _ rfl D6.out.2.2.2.2.2 ⟨w5.heap.size, 0, none⟩ 1 1 (efL n8) rfl rfl N6.out (efL_one n8) ?_ ?_ ?_ ?_))
          · unfold maxLen; omega
          · omega
          · first | omega | (simp; omega)
          intro v7 w7 ho7 hg7 _
          have D7 : Hid (SX w ys (w7.setCell ⟨w.heap.size + 1, 1, none⟩ v7) v7 (es ++ [n8]) q c) := D6.out.push HBY.out HRD.out hg7 ho7
          obtain ⟨a7, q7, hv7⟩ := D7.out.2.2.2.2.2.slice
          rw [show (es ++ [n8]).length = es.length + 1 by simp] at hv7
          subst hv7
          obtain ⟨-, -, c7, ff⟩ := D6.out.2.2.2.2.1.turn hg7 (fun e => by have := (World.ownsRow.lt D6.out.2.2.2.2.2 _ e.symm).1; omega)
          have f7 := ff 1
          clear ho7 hg7 ff e0 e1 e2 e3 e4 e5 e6 e7 b0 b1 bf D5 D6 E5 N6 HRD el
          go_wp2
          exact ⟨⟨i + 1, q, _, _, by omega, hq, rfl, by go_num, (by rw [HC2.out]; exact D7)⟩, by simp [intOf]; omega⟩
      · have h1b : ((y : Int) == 1) = false := beq_eq_false_iff_ne.2 (by omega)
        by_cases h2 : y = 2
        · subst h2
          go_wp2_with fail
          rename_i K3 a3 hx K2 a2 K1 a1 K0 a0
          have HK2 : Hid _ := a2
          clear a2 cp
          generalize wr.alloc (.cells #[.bool false, .string ⟨#[]⟩, .string ⟨#[]⟩, .int .i64 0, .int .i64 0, .int .i64 0, .int .i64 0, .int .i64 0] 79) = wA at *
          have hm := rT_any wA _ ys (p + 1) (HR.out.below D2.out.2.2.1) HBY.out hl
          rw [show ((p + 1 : Nat) : Int) = (p : Int) + 1 by omega] at hm
          refine hm.mono ?_
          clear hm
          rintro e w1 ⟨hpp, hw1⟩
          obtain rfl : wA = w1 := hw1.symm
          obtain ⟨el, e0, e1, e2, e3, e4, e5, e6, e7, ef⟩ := E2.out
          rcases hpp with ⟨hr, rfl⟩ | ⟨s, q, hr, hpq, hq, rfl⟩
          · have HDX : Hid (decX ys = none) := HNO.out (by rw [HD.out]; simp [rdE, hr])
            have D5 : Hid (SX w ys ((((((((wA.setCell ⟨wr.heap.size, 0, none⟩ (.bool true)).setCell ⟨wr.heap.size, 1, none⟩ (.string ⟨#[]⟩)).setCell ⟨wr.heap.size, 2, none⟩ (.string ⟨#[]⟩)).setCell ⟨wr.heap.size, 3, none⟩ (.int .i64 0)).setCell ⟨wr.heap.size, 4, none⟩ (.int .i64 0)).setCell ⟨wr.heap.size, 5, none⟩ (.int .i64 0)).setCell ⟨wr.heap.size, 6, none⟩ (.int .i64 0)).setCell ⟨wr.heap.size, 7, none⟩ (.int .i64 0)) (.slice va es.length vc) es p (c + 1)) := D.out.later ((((((((BA.out.setCell (p := ⟨wr.heap.size, 0, none⟩) (Nat.le_refl _) _).setCell (p := ⟨wr.heap.size, 1, none⟩) (Nat.le_refl _) _).setCell (p := ⟨wr.heap.size, 2, none⟩) (Nat.le_refl _) _).setCell (p := ⟨wr.heap.size, 3, none⟩) (Nat.le_refl _) _).setCell (p := ⟨wr.heap.size, 4, none⟩) (Nat.le_refl _) _).setCell (p := ⟨wr.heap.size, 5, none⟩) (Nat.le_refl _) _).setCell (p := ⟨wr.heap.size, 6, none⟩) (Nat.le_refl _) _).setCell (p := ⟨wr.heap.size, 7, none⟩) (Nat.le_refl _) _)
            clear hr
            go_wp2
            refine HK2.out _ _ ?_
            clear el e0 e1 e2 e3 e4 e5 e6 e7 ef HK2 E2 BA D2
            generalize ((((((((wA.setCell ⟨wr.heap.size, 0, none⟩ (.bool true)).setCell ⟨wr.heap.size, 1, none⟩ (.string ⟨#[]⟩)).setCell ⟨wr.heap.size, 2, none⟩ (.string ⟨#[]⟩)).setCell ⟨wr.heap.size, 3, none⟩ (.int .i64 0)).setCell ⟨wr.heap.size, 4, none⟩ (.int .i64 0)).setCell ⟨wr.heap.size, 5, none⟩ (.int .i64 0)).setCell ⟨wr.heap.size, 6, none⟩ (.int .i64 0)).setCell ⟨wr.heap.size, 7, none⟩ (.int .i64 0)) = w5 at *
            obtain ⟨-, z0, z1, z2, zf⟩ := D5.out.2.2.2.1
            have f0 := zf 0
            have f1 := zf 1
            have f2 := zf 2
            have HF : Hid (DxPost w ys (.returned (.agg #[.bool false, .int .i64 0, .slice none 0 0])) (((w5.setCell ⟨w.heap.size, 0, none⟩ (.bool false)).setCell ⟨w.heap.size, 1, none⟩ (.int .i64 0)).setCell ⟨w.heap.size, 2, none⟩ (.slice none 0 0))) := ⟨((D5.out.2.2.1.setCell (p := ⟨w.heap.size, 0, none⟩) (Nat.le_refl _) _).setCell (p := ⟨w.heap.size, 1, none⟩) (Nat.le_refl _) _).setCell (p := ⟨w.heap.size, 2, none⟩) (Nat.le_refl _) _, .inl ⟨HDX.out, rfl⟩⟩
            clear zf
            go_wp2
            refine bodyPost_ret (v := .agg #[.bool false, .int .i64 0, .slice none 0 0]) (by simp [results, Tryd.results21, go_sem, z0, z1, z2]) rfl HF.out

          · have HRD : Hid (rdE (ys.drop p) = some (⟨true, ndP s⟩, ys.drop q)) := by show _ = _; rw [HD.out]; simp [rdE, hr]
            have D5 : Hid (SX w ys ((((((((wA.setCell ⟨wr.heap.size, 0, none⟩ (.bool true)).setCell ⟨wr.heap.size, 1, none⟩ (.string s)).setCell ⟨wr.heap.size, 2, none⟩ (.string ⟨#[]⟩)).setCell ⟨wr.heap.size, 3, none⟩ (.int .i64 0)).setCell ⟨wr.heap.size, 4, none⟩ (.int .i64 0)).setCell ⟨wr.heap.size, 5, none⟩ (.int .i64 0)).setCell ⟨wr.heap.size, 6, none⟩ (.int .i64 0)).setCell ⟨wr.heap.size, 7, none⟩ (.int .i64 0)) (.slice va es.length vc) es p (c + 1)) := D.out.later ((((((((BA.out.setCell (p := ⟨wr.heap.size, 0, none⟩) (Nat.le_refl _) _).setCell (p := ⟨wr.heap.size, 1, none⟩) (Nat.le_refl _) _).setCell (p := ⟨wr.heap.size, 2, none⟩) (Nat.le_refl _) _).setCell (p := ⟨wr.heap.size, 3, none⟩) (Nat.le_refl _) _).setCell (p := ⟨wr.heap.size, 4, none⟩) (Nat.le_refl _) _).setCell (p := ⟨wr.heap.size, 5, none⟩) (Nat.le_refl _) _).setCell (p := ⟨wr.heap.size, 6, none⟩) (Nat.le_refl _) _).setCell (p := ⟨wr.heap.size, 7, none⟩) (Nat.le_refl _) _)
            have E5 : Hid (EW ((((((((wA.setCell ⟨wr.heap.size, 0, none⟩ (.bool true)).setCell ⟨wr.heap.size, 1, none⟩ (.string s)).setCell ⟨wr.heap.size, 2, none⟩ (.string ⟨#[]⟩)).setCell ⟨wr.heap.size, 3, none⟩ (.int .i64 0)).setCell ⟨wr.heap.size, 4, none⟩ (.int .i64 0)).setCell ⟨wr.heap.size, 5, none⟩ (.int .i64 0)).setCell ⟨wr.heap.size, 6, none⟩ (.int .i64 0)).setCell ⟨wr.heap.size, 7, none⟩ (.int .i64 0)) wr.heap.size ⟨true, ndP s⟩) := E2.out.putD s
            clear hr
            go_wp2
            refine HK2.out _ _ ?_
            clear el e0 e1 e2 e3 e4 e5 e6 e7 ef HK2 E2 BA D2
            generalize ((((((((wA.setCell ⟨wr.heap.size, 0, none⟩ (.bool true)).setCell ⟨wr.heap.size, 1, none⟩ (.string s)).setCell ⟨wr.heap.size, 2, none⟩ (.string ⟨#[]⟩)).setCell ⟨wr.heap.size, 3, none⟩ (.int .i64 0)).setCell ⟨wr.heap.size, 4, none⟩ (.int .i64 0)).setCell ⟨wr.heap.size, 5, none⟩ (.int .i64 0)).setCell ⟨wr.heap.size, 6, none⟩ (.int .i64 0)).setCell ⟨wr.heap.size, 7, none⟩ (.int .i64 0)) = w5 at *
            obtain ⟨n8, hn8⟩ : ∃ n8 : Ef, n8 = ⟨true, ndP s⟩ := ⟨_, rfl⟩
            rw [← hn8] at E5 HRD
            clear hn8
            have D6 : Hid (SX w ys (w5.alloc (.cells #[.bool n8.del, .string n8.nd.path, .string n8.nd.data, .int .i64 n8.nd.ver, .int .i64 n8.nd.cver, .int .i64 n8.nd.cz, .int .i64 n8.nd.mz, .int .i64 n8.nd.pz] 79)) (.slice va es.length vc) es p (c + 1)) := D5.out.later ((Below.refl _ _).alloc (Nat.le_refl _) _)
            have N6 : Hid (∀ j u, (efL n8)[j]? = some u → (w5.alloc (.cells #[.bool n8.del, .string n8.nd.path, .string n8.nd.data, .int .i64 n8.nd.ver, .int .i64 n8.nd.cver, .int .i64 n8.nd.cz, .int .i64 n8.nd.mz, .int .i64 n8.nd.pz] 79)).cell? ((⟨w5.heap.size, 0, none⟩ : Addr).add j) = some u) := efL_cells _ _ _
            obtain ⟨el, e0, e1, e2, e3, e4, e5, e6, e7, -⟩ := E5.out
            obtain ⟨-, b0, b1, bf⟩ := D5.out.2.2.2.2.1
            have hqI : ¬ (q : Int) < 0 := by omega
            have s6 := D6.out.2.2.1.size
            have s52 := D5.out.2.2.2.2.1.1
            go_wp2_with (at_builtin; go_must (refine wpList_append_own _ rfl _ _ 38 rfl (w.heap.size + 2) 79 i0 (.agg #[.bool false, .string ByteArray.empty, .string ByteArray.empty, .int .i64 0, .int .i64 0, .int .i64 0, .int .i64 0, .int .i64 0]) 8 80 Tryd.underlying38 hi hz0 hz1 hz2 rfl (by decide) _ _ _ rfl D6.out.2.2.2.2.2 ⟨w5.heap.size, 0, none⟩ 1 1 (efL n8) rfl rfl N6.out (efL_one n8) ?_ ?_ ?_ ?_))
            · unfold maxLen; omega
            · omega
            · first | omega | (simp; omega)
            intro v7 w7 ho7 hg7 _
            have D7 : Hid (SX w ys (w7.setCell ⟨w.heap.size + 1, 1, none⟩ v7) v7 (es ++ [n8]) q c) := D6.out.push HBY.out HRD.out hg7 ho7
            obtain ⟨a7, q7, hv7⟩ := D7.out.2.2.2.2.2.slice
            rw [show (es ++ [n8]).length = es.length + 1 by simp] at hv7
            subst hv7
            obtain ⟨-, -, c7, ff⟩ := D6.out.2.2.2.2.1.turn hg7 (fun e => by have := (World.ownsRow.lt D6.out.2.2.2.2.2 _ e.symm).1; omega)
            have f7 := ff 1
            clear ho7 hg7 ff e0 e1 e2 e3 e4 e5 e6 e7 b0 b1 bf D5 D6 E5 N6 HRD el
            go_wp2
            exact ⟨⟨i + 1, q, _, _, by omega, hq, rfl, by go_num, (by rw [HC2.out]; exact D7)⟩, by simp [intOf]; omega⟩
        · have h2b : ((y : Int) == 2) = false := beq_eq_false_iff_ne.2 (by omega)
          have HDX : Hid (decX ys = none) := HNO.out (by rw [HD.out]; simp only [rdE]; rw [if_neg (by omega), if_neg (by omega)])
          obtain ⟨zl, z0, z1, z2, zf⟩ := D.out.2.2.2.1
          have f0 := zf 0
          have f1 := zf 1
          have f2 := zf 2
          have HE : Hid (∀ ob : Obj, _) := fun ob => zx3 D.out.2.2.2.1 ob
          clear zf
          go_wp2
          exact bodyPost_ret (v := .agg #[.bool false, .int .i64 0, .slice none 0 0]) (by simp [results, Tryd.results21, go_sem, (HE.out _).1, (HE.out _).2.1, (HE.out _).2.2]) rfl ⟨(((D.out.2.2.1.setCell (p := ⟨w.heap.size, 0, none⟩) (Nat.le_refl _) _).setCell (p := ⟨w.heap.size, 1, none⟩) (Nat.le_refl _) _).setCell (p := ⟨w.heap.size, 2, none⟩) (Nat.le_refl _) _).alloc (by have := D.out.2.2.1.size; simpa using this) _, .inl ⟨HDX.out, rfl⟩⟩
    · have hic : i = C := by omega
      subst hic
      rw [Nat.sub_self] at D
      have HPD : Hid (pEs i (ys.drop 6) = some (es, ys.drop p)) := (HCC.out ▸ D.out.1).done
      have hrE : ys.drop p = [] ↔ p = ys.length := by
        constructor
        · intro e
          have := congrArg List.length e
          rw [List.length_drop] at this
          simp at this
          omega
        · intro e; exact List.drop_eq_nil_of_le (by omega)
      by_cases hr : p = ys.length
      rotate_left
      · have HDX : Hid (decX ys = none) := by
          show _ = _
          unfold decX
          rw [if_neg (by omega), HCC.out, HPD.out]
          simp only
          rw [if_neg (fun h => hr (hrE.1 h.1))]
        obtain ⟨-, z0, z1, z2, zf⟩ := D.out.2.2.2.1
        have f0 := zf 0
        have f1 := zf 1
        have f2 := zf 2
        have HF : Hid (DxPost w ys (.returned (.agg #[.bool false, .int .i64 0, .slice none 0 0])) (((wr.setCell ⟨w.heap.size, 0, none⟩ (.bool false)).setCell ⟨w.heap.size, 1, none⟩ (.int .i64 0)).setCell ⟨w.heap.size, 2, none⟩ (.slice none 0 0))) := ⟨((D.out.2.2.1.setCell (p := ⟨w.heap.size, 0, none⟩) (Nat.le_refl _) _).setCell (p := ⟨w.heap.size, 1, none⟩) (Nat.le_refl _) _).setCell (p := ⟨w.heap.size, 2, none⟩) (Nat.le_refl _) _, .inl ⟨HDX.out, rfl⟩⟩
        have hpb : ((p : Int) != (ys.length : Int)) = true := by rw [bne_iff_ne]; omega
        clear zf hrE
        go_wp2
        refine bodyPost_ret (v := .agg #[.bool false, .int .i64 0, .slice none 0 0]) (by simp [results, Tryd.results21, go_sem, z0, z1, z2]) rfl HF.out
      · have HRE : Hid (ys.drop p = []) := hrE.2 hr
        have hpb : ((p : Int) != (ys.length : Int)) = false := by rw [hr]; simp
        have HSZ : Hid (SzE es) := D.out.2.1
        have HON : Hid (OwnE 79 wr (w.heap.size + 2) (.slice va es.length vc) es) := D.out.2.2.2.2.2
        obtain ⟨-, b0, b1, -⟩ := D.out.2.2.2.2.1
        clear hrE hr
        go_wp2_with fail
        refine (specTxn_any _ _ _ es HON.out.rd HSZ.out.at).mono ?_
        rintro e w2 ⟨rfl, b2⟩
        have D2 : Hid (SX w ys w2 (.slice va es.length vc) es p 0) := D.out.later b2
        obtain ⟨-, -, -, ⟨-, z0, z1, z2, zf⟩, ⟨-, d0, d1, -⟩, t7⟩ := D2.out
        have f0 := zf 0
        have f1 := zf 1
        have f2 := zf 2
        have HON2 : Hid (OwnE 79 w2 (w.heap.size + 2) (.slice va es.length vc) es) := t7
        clear zf b2 t7 HON b0 b1
        by_cases hok : okTxn (zX ys : Int) es = true
        · have HDX : Hid (decX ys = some ((zX ys : Int), es)) := by
            show _ = _
            unfold decX
            rw [if_neg (by omega), HCC.out, HPD.out]
            simp only
            rw [if_pos ⟨HRE.out, hok⟩]
          rw [hok]
          clear hok
          go_wp2
          refine bodyPost_ret (v := .agg #[.bool true, .int .i64 (zX ys : Int), .slice va es.length vc]) (by simp [results, Tryd.results21, go_sem, z0, z1, z2]) rfl ⟨((D2.out.2.2.1.setCell (p := ⟨w.heap.size, 0, none⟩) (Nat.le_refl _) _).setCell (p := ⟨w.heap.size, 1, none⟩) (Nat.le_refl _) _).setCell (p := ⟨w.heap.size, 2, none⟩) (Nat.le_refl _) _, .inr ⟨_, es, _, HDX.out, rfl, ?_⟩⟩
          exact OwnE.mono (OwnE.setBelow (OwnE.setBelow (OwnE.setBelow HON2.out (by show w.heap.size < w.heap.size + 2; omega) _) (by show w.heap.size < w.heap.size + 2; omega) _) (by show w.heap.size < w.heap.size + 2; omega) _) (by omega)
        · have hok' : okTxn (zX ys : Int) es = false := by simpa using hok
          have HDX : Hid (decX ys = none) := by
            show _ = _
            unfold decX
            rw [if_neg (by omega), HCC.out, HPD.out]
            simp only
            rw [if_neg (fun h => hok h.2)]
          rw [hok']
          clear hok hok'
          go_wp2
          refine bodyPost_ret (v := .agg #[.bool false, .int .i64 0, .slice none 0 0]) (by simp [results, Tryd.results21, go_sem, z0, z1, z2]) rfl ⟨((D2.out.2.2.1.setCell (p := ⟨w.heap.size, 0, none⟩) (Nat.le_refl _) _).setCell (p := ⟨w.heap.size, 1, none⟩) (Nat.le_refl _) _).setCell (p := ⟨w.heap.size, 2, none⟩) (Nat.le_refl _) _, .inl ⟨HDX.out, rfl⟩⟩

end Go.Proofs.YtfmjalbiimhdhaaDoor
