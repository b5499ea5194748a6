import Derived.Test.YtejhcebodlcloaaGreatDoorJ18
import Derived.Test.YtejhcebodlcloaaGreatDoorJ21
import Derived.Deep.AppendLies
namespace Go.Proofs.YtejhcebodlcloaaGreatDoor
open Go.RowKit Go.Shelf

def op0 : Op5 := ⟨0, ByteArray.empty, ByteArray.empty, 0, false⟩
def oAt (os : List Op5) (i : Nat) : Op5 := os.getD i op0
theorem oAt_get {os : List Op5} {i : Nat} (h : i < os.length) : oAt os i = os[i] := by unfold oAt; simp [List.getD, h]
/-- The cells of an operation. -/
def CellsO (w : World) (b off : Nat) (o : Op5) : Prop :=
  w.cell? ⟨b, off, none⟩ = some (.int .i64 o.kind) ∧ w.cell? ⟨b, off + 1, none⟩ = some (.string o.path) ∧ w.cell? ⟨b, off + 2, none⟩ = some (.string o.data) ∧ w.cell? ⟨b, off + 3, none⟩ = some (.int .i64 o.ver) ∧ w.cell? ⟨b, off + 4, none⟩ = some (.bool o.seq)
theorem CellsO.below {w w' : World} {b off B : Nat} {o : Op5} (h : CellsO w b off o) (hb : Below B w w') (hlt : b < B) : CellsO w' b off o :=
  ⟨(hb.cell (p := ⟨b, off, none⟩) hlt).trans h.1, (hb.cell (p := ⟨b, off + 1, none⟩) hlt).trans h.2.1, (hb.cell (p := ⟨b, off + 2, none⟩) hlt).trans h.2.2.1, (hb.cell (p := ⟨b, off + 3, none⟩) hlt).trans h.2.2.2.1, (hb.cell (p := ⟨b, off + 4, none⟩) hlt).trans h.2.2.2.2⟩
/-- A slice of operations. -/
def RdO (w : World) (v : Value) (os : List Op5) : Prop :=
  ∃ ao cap, v = .slice ao os.length cap ∧ os.length ≤ cap ∧ cap ≤ maxLen ∧
    (os = [] ∨ ∃ b off, ao = some ⟨b, off, none⟩ ∧ b < w.heap.size ∧ ∀ i, i < os.length → CellsO w b (off + i * 5) (oAt os i))
theorem RdO.len {w : World} {v : Value} {os : List Op5} (h : RdO w v os) : ∃ ao cap, v = .slice ao os.length cap ∧ os.length ≤ cap ∧ cap ≤ maxLen := by
  obtain ⟨ao, cap, h0, h1, h2, _⟩ := h
  exact ⟨ao, cap, h0, h1, h2⟩
theorem RdO.below {w w' : World} {v : Value} {os : List Op5} (h : RdO w v os) (hb : Below w.heap.size w w') : RdO w' v os := by
  obtain ⟨ao, cap, rfl, h1, h2, h3⟩ := h
  refine ⟨ao, cap, rfl, h1, h2, ?_⟩
  rcases h3 with h3 | ⟨b, off, rfl, hlt, hc⟩
  · exact .inl h3
  · exact .inr ⟨b, off, rfl, Nat.lt_of_lt_of_le hlt hb.size, fun i hi => (hc i hi).below hb hlt⟩

/-- The operations of a request, one behind another: code, index, nodes, names. -/
def runO (z : Int) : List Op5 → List Nd → Nat → List ByteArray → Int × Nat × List Nd × List ByteArray
  | [], ns, i, nm => (0, i, ns, nm)
  | o :: os, ns, i, nm => if (doO ns o z).1 ≠ 0 then ((doO ns o z).1, i, ns, nm) else runO z os (doO ns o z).2.1 (i + 1) (nm ++ [(doO ns o z).2.2])
theorem runO_bad {z : Int} {os : List Op5} {ns : List Nd} {i : Nat} {nm : List ByteArray} {j : Nat} (hj : j < os.length) (h : (doO ns (oAt os j) z).1 ≠ 0) : runO z (os.drop j) ns i nm = ((doO ns (oAt os j) z).1, i, ns, nm) := by
  rw [List.drop_eq_getElem_cons hj, ← oAt_get hj]
  unfold runO
  rw [if_pos h]
theorem runO_good {z : Int} {os : List Op5} {ns : List Nd} {i : Nat} {nm : List ByteArray} {j : Nat} (hj : j < os.length) (h : (doO ns (oAt os j) z).1 = 0) : runO z (os.drop j) ns i nm = runO z (os.drop (j + 1)) (doO ns (oAt os j) z).2.1 (i + 1) (nm ++ [(doO ns (oAt os j) z).2.2]) := by
  rw [List.drop_eq_getElem_cons hj, ← oAt_get hj]
  conv => lhs; unfold runO
  rw [if_neg (by simpa using h)]
def okPrep (ns : List Nd) (os : List Op5) (z : Int) : Bool := okTree ns && (decide (1 ≤ os.length) && (decide (os.length ≤ 64) && (decide (1 ≤ z) && decide (z ≤ 2147483647))))
/-- What Prepare answers to what it can judge. -/
def PrOk (w : World) (ns : List Nd) (z : Int) (res : Int × Nat × List Nd × List ByteArray) (e : Ending) (w' : World) : Prop :=
  Below w.heap.size w w' ∧
    ((res.1 ≠ 0 ∧ e = .returned (.agg #[.int .i64 res.1, .int .i64 (res.2.1 : Int), .slice none 0 0, .int .i64 0, .slice none 0 0])) ∨
     (res.1 = 0 ∧ ∃ vn ve, e = .returned (.agg #[.int .i64 0, .int .i64 0, vn, .int .i64 z, ve]) ∧ w'.ownsRow w.heap.size 9 1 vn res.2.2.2.length (res.2.2.2.map Value.string) ∧ OwnE 100 w' w.heap.size ve (dif ns res.2.2.1)))

/-- The boxes of Prepare: the tree, the request, the answer. -/
def PrB (w : World) (v vo : Value) (W : World) : Prop :=
  Below w.heap.size w W ∧ w.heap.size + 3 ≤ W.heap.size ∧ W.cell? ⟨w.heap.size, 0, none⟩ = some v ∧ W.cell? ⟨w.heap.size + 1, 0, none⟩ = some vo ∧
  (W.cell? ⟨w.heap.size + 2, 0, none⟩ = some (.int .i64 0) ∧ W.cell? ⟨w.heap.size + 2, 1, none⟩ = some (.int .i64 0) ∧ W.cell? ⟨w.heap.size + 2, 2, none⟩ = some (.slice none 0 0) ∧ W.cell? ⟨w.heap.size + 2, 3, none⟩ = some (.int .i64 0) ∧ W.cell? ⟨w.heap.size + 2, 4, none⟩ = some (.slice none 0 0)) ∧ ∀ j, W.frozen? ⟨w.heap.size + 2, j, none⟩ = false
theorem PrB.belowB {w : World} {v vo : Value} {W W' : World} {B : Nat} (h : PrB w v vo W) (hb : Below B W W') (hB : w.heap.size + 3 ≤ B) : PrB w v vo W' := by
  obtain ⟨h1, h2, h3, h4, ⟨c0, c1, c2, c3, c4⟩, h6⟩ := h
  have q : w.heap.size + 2 < B := by omega
  exact ⟨h1.trans (hb.mono (by omega)), Nat.le_trans h2 hb.size, (hb.cell (p := ⟨w.heap.size, 0, none⟩) (by show w.heap.size < _; omega)).trans h3, (hb.cell (p := ⟨w.heap.size + 1, 0, none⟩) (by show w.heap.size + 1 < _; omega)).trans h4,
    ⟨(hb.cell (p := ⟨w.heap.size + 2, 0, none⟩) q).trans c0, (hb.cell (p := ⟨w.heap.size + 2, 1, none⟩) q).trans c1, (hb.cell (p := ⟨w.heap.size + 2, 2, none⟩) q).trans c2, (hb.cell (p := ⟨w.heap.size + 2, 3, none⟩) q).trans c3, (hb.cell (p := ⟨w.heap.size + 2, 4, none⟩) q).trans c4⟩, fun j => (hb.frozen (p := ⟨w.heap.size + 2, j, none⟩) q).trans (h6 j)⟩
theorem PrB.below {w : World} {v vo : Value} {W W' : World} (h : PrB w v vo W) (hb : Below W.heap.size W W') : PrB w v vo W' := h.belowB hb h.2.1
theorem PrB.new (w : World) (v vo : Value) (t1 t2 t3 : TypeId) : PrB w v vo (((w.alloc (.cells #[v] t1)).alloc (.cells #[vo] t2)).alloc (.cells #[.int .i64 0, .int .i64 0, .slice none 0 0, .int .i64 0, .slice none 0 0] t3)) := by
  refine ⟨(((Below.refl _ _).alloc (Nat.le_refl _) _).alloc (by simp) _).alloc (by simp; omega) _, by simp, by go_simp, by go_simp, ?_, fun j => by go_simp⟩
  have e : ((w.alloc (.cells #[v] t1)).alloc (.cells #[vo] t2)).heap.size = w.heap.size + 2 := by simp
  have h1 : (((w.alloc (.cells #[v] t1)).alloc (.cells #[vo] t2)).alloc (.cells #[.int .i64 0, .int .i64 0, .slice none 0 0, .int .i64 0, .slice none 0 0] t3)).heap[w.heap.size + 2]? = some (.cells #[.int .i64 0, .int .i64 0, .slice none 0 0, .int .i64 0, .slice none 0 0] t3) := by
    rw [← e]; exact heap_alloc_new _ _
  exact ⟨(cell_of h1 _).trans rfl, (cell_of h1 _).trans rfl, (cell_of h1 _).trans rfl, (cell_of h1 _).trans rfl, (cell_of h1 _).trans rfl⟩

set_option maxHeartbeats 4000000 in
set_option maxRecDepth 100000 in
theorem specPrep_bad (w : World) (v vo : Value) (ns : List Nd) (os : List Op5) (z : Int) (h : RdN w v ns) (ho : RdO w vo os) (hn : ns.length ≤ 1048576) (hsz : ∀ i, (nAt ns i).path.size ≤ 1048576 ∧ (nAt ns i).data.size ≤ 1048576) (hb : okPrep ns os z = false) :
    Calls Tryz.prog 6 #[.agg #[v], .agg #[vo], .int .i64 z] w fun e w' => e = .returned (.agg #[.int .i64 9, .int .i64 0, .slice none 0 0, .int .i64 0, .slice none 0 0]) ∧ Below w.heap.size w w' := by
  obtain ⟨ao, ca, rfl, _, _⟩ := h.len
  obtain ⟨bo, cb, rfl, _, _⟩ := ho.len
  have HR : Hid (RdN w (.slice ao ns.length ca) ns) := h
  have HSZ : Hid (∀ i, (nAt ns i).path.size ≤ 1048576 ∧ (nAt ns i).data.size ≤ 1048576) := hsz
  have X0 : Hid (PrB w (.slice ao ns.length ca) (.slice bo os.length cb) (((w.alloc (.cells #[.slice ao ns.length ca] 39)).alloc (.cells #[.slice bo os.length cb] 43)).alloc (.cells #[.int .i64 0, .int .i64 0, .slice none 0 0, .int .i64 0, .slice none 0 0] 35))) := PrB.new _ _ _ _ _ _
  have HBAD : Hid (okPrep ns os z = false) := hb
  clear h ho hsz hb
  go_enter Tryz.func6, Tryz.ntmps6
  go_wp2_with fail
  generalize ((w.alloc (.cells #[.slice ao ns.length ca] 39)).alloc (.cells #[.slice bo os.length cb] 43)).alloc (.cells #[.int .i64 0, .int .i64 0, .slice none 0 0, .int .i64 0, .slice none 0 0] 35) = w0 at *
  obtain ⟨-, -, a0, -⟩ := X0.out
  go_wp2_with fail
  clear a0
  refine (specTree_any _ _ ns (HR.out.below X0.out.1) hn HSZ.out).mono ?_
  rintro e w1 ⟨rfl, b1⟩
  have X1 : Hid (PrB w (.slice ao ns.length ca) (.slice bo os.length cb) w1) := X0.out.below b1
  clear b1 X0
  obtain ⟨-, zz, -, a1, ⟨d0, d1, d2, d3, d4⟩, df⟩ := X1.out
  have f0 := df 0
  have f1 := df 1
  have f2 := df 2
  have f3 := df 3
  have f4 := df 4
  clear df
  have FIN : Hid (∀ W', Below w.heap.size w1 W' → Below w.heap.size w W') := fun W' hW => X1.out.1.trans hW
  have hB := HBAD.out
  unfold okPrep at hB
  clear HBAD X1
  cases ht : okTree ns with
  | false =>
    go_wp2
    refine bodyPost_ret (v := .agg #[.int .i64 9, .int .i64 0, .slice none 0 0, .int .i64 0, .slice none 0 0]) (by simp [results, Tryz.results6, go_sem, d0, d1, d2, d3, d4]) rfl ⟨rfl, FIN.out _ ?_⟩
    repeat (first | exact Below.refl _ _ | refine Below.setCell ?_ (by simp; try omega) _)
  | true =>
    rw [ht, Bool.true_and] at hB
    clear ht
    by_cases h1 : 1 ≤ os.length
    · rw [decide_eq_true h1, Bool.true_and] at hB
      have h1I : ¬ (os.length : Int) < 1 := by omega
      have h1d : decide ((os.length : Int) < 1) = false := by simpa using h1I
      by_cases h2 : os.length ≤ 64
      · rw [decide_eq_true h2, Bool.true_and] at hB
        have h2I : ¬ (64 : Int) < (os.length : Int) := by omega
        have h2d : decide ((64 : Int) < (os.length : Int)) = false := by simpa using h2I
        by_cases h3 : 1 ≤ z
        · rw [decide_eq_true h3, Bool.true_and] at hB
          have h4 : ¬ z ≤ 2147483647 := by simpa using hB
          have h3I : ¬ z < 1 := by omega
          have h3d : decide (z < 1) = false := by simpa using h3I
          have h4I : (2147483647 : Int) < z := by omega
          have h4d : decide ((2147483647 : Int) < z) = true := by simpa using h4I
          clear hB
          go_wp2
          refine bodyPost_ret (v := .agg #[.int .i64 9, .int .i64 0, .slice none 0 0, .int .i64 0, .slice none 0 0]) (by simp [results, Tryz.results6, go_sem, d0, d1, d2, d3, d4]) rfl ⟨rfl, FIN.out _ ?_⟩
          repeat (first | exact Below.refl _ _ | refine Below.setCell ?_ (by simp; try omega) _)
        · have h3I : z < 1 := by omega
          have h3d : decide (z < 1) = true := by simpa using h3I
          clear hB
          go_wp2
          refine bodyPost_ret (v := .agg #[.int .i64 9, .int .i64 0, .slice none 0 0, .int .i64 0, .slice none 0 0]) (by simp [results, Tryz.results6, go_sem, d0, d1, d2, d3, d4]) rfl ⟨rfl, FIN.out _ ?_⟩
          repeat (first | exact Below.refl _ _ | refine Below.setCell ?_ (by simp; try omega) _)
      · have h2I : (64 : Int) < (os.length : Int) := by omega
        have h2d : decide ((64 : Int) < (os.length : Int)) = true := by simpa using h2I
        clear hB
        go_wp2
        refine bodyPost_ret (v := .agg #[.int .i64 9, .int .i64 0, .slice none 0 0, .int .i64 0, .slice none 0 0]) (by simp [results, Tryz.results6, go_sem, d0, d1, d2, d3, d4]) rfl ⟨rfl, FIN.out _ ?_⟩
        repeat (first | exact Below.refl _ _ | refine Below.setCell ?_ (by simp; try omega) _)
    · have h1I : (os.length : Int) < 1 := by omega
      have h1d : decide ((os.length : Int) < 1) = true := by simpa using h1I
      clear hB
      go_wp2
      refine bodyPost_ret (v := .agg #[.int .i64 9, .int .i64 0, .slice none 0 0, .int .i64 0, .slice none 0 0]) (by simp [results, Tryz.results6, go_sem, d0, d1, d2, d3, d4]) rfl ⟨rfl, FIN.out _ ?_⟩
      repeat (first | exact Below.refl _ _ | refine Below.setCell ?_ (by simp; try omega) _)


theorem rowP_below {w w' : World} {lo n m : Nat} {e : TypeId} {v : Value} {us : List Value} (h : w.ownsRow lo e m v n us) (hb : Below w.heap.size w w') : w'.ownsRow lo e m v n us := by
  refine ⟨h.1, ?_⟩
  rcases h.2 with hn | ⟨g, cap, cur, rfl, hbg, hgg, rest⟩
  · exact .inl hn
  · exact .inr ⟨g, cap, cur, rfl, hbg, by rw [hb.block g (Array.getElem?_eq_some_iff.1 hgg).1]; exact hgg, rest⟩
/-- Two values that lie in different blocks. -/
def NotAt (u v : Value) : Prop := ∀ b o n c, u = .slice (some ⟨b, o, none⟩) n c → v.ownBlock ≠ some b
theorem RdN.grown {w w' : World} {v u : Value} {ns : List Nd} (h : RdN w v ns) (hg : w.grownBy w' u.ownBlock) (hne : ns = [] ∨ NotAt v u) : RdN w' v ns := by
  obtain ⟨ao, cap, rfl, h1, h2, h3⟩ := h
  refine ⟨ao, cap, rfl, h1, h2, ?_⟩
  rcases h3 with h3 | ⟨b, off, rfl, hlt, hc⟩
  · exact .inl h3
  · rcases hne with hne | hne
    · exact .inl hne
    refine .inr ⟨b, off, rfl, Nat.lt_of_lt_of_le hlt hg.size, fun i hi => ?_⟩
    have hb := hg.block b hlt (fun e => hne b off _ _ rfl e.symm)
    have q : ∀ j, w'.cell? ⟨b, j, none⟩ = w.cell? ⟨b, j, none⟩ := fun j => World.cell?_of_block (a := ⟨b, j, none⟩) hb
    obtain ⟨c0, c1, c2, c3, c4, c5, c6⟩ := hc i hi
    exact ⟨(q _).trans c0, (q _).trans c1, (q _).trans c2, (q _).trans c3, (q _).trans c4, (q _).trans c5, (q _).trans c6⟩
theorem rowP_mono {w : World} {lo lo' n m : Nat} {e : TypeId} {v : Value} {us : List Value} (h : w.ownsRow lo e m v n us) (hl : lo' ≤ lo) : w.ownsRow lo' e m v n us := by
  refine ⟨h.1, ?_⟩
  rcases h.2 with hn | ⟨g, cap, cur, rfl, hbg, rest⟩
  · exact .inl hn
  · exact .inr ⟨g, cap, cur, rfl, by omega, rest⟩

theorem Tryz.infoStr9 : (Tryz.prog.info? 9).map (fun i => (i.zero, i.size, i.bytes)) = some (some (.string ByteArray.empty), 1, 16) := by kernel_rfl

set_option maxHeartbeats 4000000 in
set_option maxRecDepth 100000 in
theorem specPrep_ok (w : World) (v vo : Value) (ns : List Nd) (os : List Op5) (z : Int) (h : RdN w v ns) (ho : RdO w vo os) (hos : ∀ i, i < os.length → (oAt os i).path.size ≤ 1048576 ∧ (oAt os i).data.size ≤ 1048576) (hb : okPrep ns os z = true) :
    Calls Tryz.prog 6 #[.agg #[v], .agg #[vo], .int .i64 z] w fun e w' => PrOk w ns z (runO z os ns 0 []) e w' := by
  obtain ⟨i0, hi, hz0, hz1, hz2⟩ := info_parts Tryz.infoStr9
  unfold okPrep at hb
  simp only [Bool.and_eq_true, decide_eq_true_eq] at hb
  obtain ⟨hok, h1, h2, h3, h4⟩ := hb
  have HSND : Hid (Snd ns) := okTree_snd.1 hok
  have HOK : Hid (okTree ns = true) := hok
  have hn : ns.length ≤ 1000 := HSND.out.2.2
  obtain ⟨ao, ca, rfl, _, _⟩ := h.len
  obtain ⟨bo, cb, rfl, _, _⟩ := ho.len
  have HR : Hid (RdN w (.slice ao ns.length ca) ns) := h
  have HOR : Hid (RdO w (.slice bo os.length cb) os) := ho
  have HOS : Hid (∀ i, i < os.length → (oAt os i).path.size ≤ 1048576 ∧ (oAt os i).data.size ≤ 1048576) := hos
  have HSZ : Hid (∀ i, (nAt ns i).path.size ≤ 1048576 ∧ (nAt ns i).data.size ≤ 1048576) := by
    intro i
    by_cases hi : i < ns.length
    · have := okNd_all (HSND.out.2.1 _ (List.getElem_mem hi))
      rw [nAt_get hi]; omega
    · have : nAt ns i = nd0 := by unfold nAt; simp [List.getD, List.getElem?_eq_none (show ns.length ≤ i by omega)]
      rw [this]; simp [nd0]
  obtain ⟨res, hres⟩ : ∃ res, res = runO z os ns 0 [] := ⟨_, rfl⟩
  have HRES : Hid (runO z (os.drop 0) ns 0 [] = res) := hres.symm
  rw [← hres]
  have X0 : Hid (PrB w (.slice ao ns.length ca) (.slice bo os.length cb) (((w.alloc (.cells #[.slice ao ns.length ca] 39)).alloc (.cells #[.slice bo os.length cb] 43)).alloc (.cells #[.int .i64 0, .int .i64 0, .slice none 0 0, .int .i64 0, .slice none 0 0] 35))) := PrB.new _ _ _ _ _ _
  obtain ⟨bb, bof, rfl, hbb, HC⟩ : ∃ b off, bo = some ⟨b, off, none⟩ ∧ b < w.heap.size ∧ Hid (∀ i, i < os.length → CellsO w b (off + i * 5) (oAt os i)) := by
    obtain ⟨ao', cap', e', -, -, h3⟩ := ho
    simp only [Value.slice.injEq] at e'
    obtain ⟨rfl, -, -⟩ := e'
    rcases h3 with h3 | ⟨b, o, rfl, hb, hc⟩
    · rw [h3] at h1; simp at h1
    · exact ⟨b, o, rfl, hb, hc⟩
  have h1I : ¬ (os.length : Int) < 1 := by omega
  have h1d : decide ((os.length : Int) < 1) = false := by simpa using h1I
  have h2I : ¬ (64 : Int) < (os.length : Int) := by omega
  have h2d : decide ((64 : Int) < (os.length : Int)) = false := by simpa using h2I
  have h3I : ¬ z < 1 := by omega
  have h3d : decide (z < 1) = false := by simpa using h3I
  have h4I : ¬ (2147483647 : Int) < z := by omega
  have h4d : decide ((2147483647 : Int) < z) = false := by simpa using h4I
  have HZ : Hid (okS z = true) := by show _ = _; unfold okS; simp; omega
  clear h ho hos hok hres
  go_enter Tryz.func6, Tryz.ntmps6
  go_wp2_with fail
  generalize ((w.alloc (.cells #[.slice ao ns.length ca] 39)).alloc (.cells #[.slice (some ⟨bb, bof, none⟩) os.length cb] 43)).alloc (.cells #[.int .i64 0, .int .i64 0, .slice none 0 0, .int .i64 0, .slice none 0 0] 35) = w0 at *
  obtain ⟨-, -, a0, -⟩ := X0.out
  go_wp2_with fail
  clear a0
  refine (specTree_any _ _ ns (HR.out.below X0.out.1) (by omega) HSZ.out).mono ?_
  rintro e w1 ⟨rfl, b1⟩
  rw [HOK.out]
  have X1 : Hid (PrB w (.slice ao ns.length ca) (.slice (some ⟨bb, bof, none⟩) os.length cb) w1) := X0.out.below b1
  clear b1 X0 HOK
  have zz : w.heap.size + 3 ≤ w1.heap.size := X1.out.2.1
  obtain ⟨-, -, a0, a1, -⟩ := X1.out
  go_wp2
  clear a0 a1
  have BL : Hid (Below w1.heap.size w1 (w1.alloc (.cells #[] 9))) := (Below.refl _ _).alloc (Nat.le_refl _) _
  have NA0 : Hid (ns = [] ∨ NotAt (.slice ao ns.length ca) (.slice (some ⟨w1.heap.size, 0, none⟩) 0 0)) := by
    obtain ⟨ao', cap', e', -, -, h3⟩ := HR.out
    simp only [Value.slice.injEq] at e'
    obtain ⟨rfl, -, -⟩ := e'
    rcases h3 with h3 | ⟨b', o', h4, hb, -⟩
    · exact .inl h3
    · refine .inr (fun b o n c e => ?_)
      simp only [Value.slice.injEq] at e
      rw [h4] at e
      simp at e
      simp [Value.ownBlock]
      omega
  go_loopw [7, 8, 9] (fun vk vn i wr => ∃ (j : Nat) (uk un : Value) (nk : List Nd) (nm : List ByteArray), j ≤ os.length ∧ uk = vk ∧ un = vn ∧ i = .int .i64 j ∧ Hid (RdN wr uk nk) ∧ Hid (Snd nk) ∧ Hid (nm.length = j) ∧ Hid (wr.ownsRow w1.heap.size 9 1 un j (nm.map Value.string)) ∧ Hid (runO z (os.drop j) nk j nm = res) ∧ Hid (Below w1.heap.size w1 wr) ∧ Hid (nk = [] ∨ NotAt uk un)) (fun _ _ i _ => os.length - (intOf i).toNat)
  case atStart => exact ⟨0, _, _, ns, [], Nat.zero_le _, rfl, rfl, rfl, HR.out.below (X1.out.1.trans (BL.out.mono (by omega))), HSND, (show _ = _ from rfl), World.ownsRow_lit w1 #[] 0 (Nat.le_refl _) (Nat.zero_le _) rfl, HRES, BL, NA0⟩
  case round =>
    clear BL HRES
    obtain ⟨j, uk, un, nk, nm, hj, rfl, rfl, rfl, RK, SK, NL, ON, HRS, BK, NA⟩ := hrel
    clear NA0
    have XK : Hid (PrB w (.slice ao ns.length ca) (.slice (some ⟨bb, bof, none⟩) os.length cb) wr) := X1.out.belowB BK.out zz
    obtain ⟨ka, kc, rfl, _, _⟩ := RK.out.len
    obtain ⟨-, zk, a0, a1, -⟩ := XK.out
    by_cases hlt : j < os.length
    · have hltI : (j : Int) < (os.length : Int) := by omega
      obtain ⟨q0, q1, q2, q3, q4⟩ := (HC.out j hlt).below (XK.out.1) hbb
      obtain ⟨hp, hd⟩ := HOS.out j hlt
      have HGO : Hid ((doO nk (oAt os j) z).1 ≠ 0 → ((doO nk (oAt os j) z).1, j, nk, nm) = res) := fun hne => (runO_bad hlt hne).symm.trans HRS.out
      have HGN : Hid ((doO nk (oAt os j) z).1 = 0 → runO z (os.drop (j + 1)) (doO nk (oAt os j) z).2.1 (j + 1) (nm ++ [(doO nk (oAt os j) z).2.2]) = res) := fun he => (runO_good hlt he).symm.trans HRS.out
      have SN : Hid (Snd (doO nk (oAt os j) z).2.1) := doO_snd SK.out _ HZ.out
      have CD := l3Do_any wr _ nk (oAt os j) z RK.out SK.out.2.2 (fun i hi => by rw [nAt_get hi]; exact SK.out.2.1 _ (List.getElem_mem hi)) hp hd
      unfold DoPost at CD
      have HNA : Hid (∀ (a : Option Addr) (c : Nat) (l : List Nd), Fresh wr (.slice ka nk.length kc) (.slice a l.length c) → l = [] ∨ NotAt (.slice a l.length c) un) := by
        intro a c l hf
        rcases hf with h9 | ⟨n, c, h9⟩ | ⟨g, n, c, h9, hg⟩
        · rw [h9]
          rcases NA.out with h8 | h8
          · left
            simp only [Value.slice.injEq] at h9
            exact List.eq_nil_of_length_eq_zero (by rw [h9.2.1, h8]; rfl)
          · exact .inr h8
        · rw [h9]
          exact .inr (fun b o n c e => by simp at e)
        · rw [h9]
          refine .inr (fun b o n c e => ?_)
          simp at e
          intro e2
          have := (ON.out.lt b e2).2
          omega
      clear RK SK HRS
      generalize oAt os j = oj at *
      go_wp2_with fail
      refine CD.mono ?_
      rintro e w2 ⟨v2, rfl, r2, f2, b2⟩
      clear CD q0 q1 q2 q3 q4 a0 a1
      have X2 : Hid (PrB w (.slice ao ns.length ca) (.slice (some ⟨bb, bof, none⟩) os.length cb) w2) := XK.out.below b2
      have B2 : Hid (Below w1.heap.size w1 w2) := BK.out.trans (b2.mono BK.out.size)
      have O2 : Hid (w2.ownsRow w1.heap.size 9 1 un j (nm.map Value.string)) := rowP_below ON.out b2
      generalize doO nk oj z = dd at *
      obtain ⟨a2, c2, rfl, _, _⟩ := r2.len
      have R2 : Hid (RdN w2 (.slice a2 dd.2.1.length c2) dd.2.1) := r2
      have N2 : Hid (dd.2.1 = [] ∨ NotAt (.slice a2 dd.2.1.length c2) un) := HNA.out _ _ _ f2
      have s2 := b2.size
      clear r2 b2 f2 XK BK HNA
      by_cases hc : dd.1 = 0
      · have HN2 : Hid (runO z (os.drop (j + 1)) dd.2.1 (j + 1) (nm ++ [dd.2.2]) = res) := HGN.out hc
        rw [hc]
        clear HGO HGN ON
        obtain ⟨-, z2, -⟩ := X2.out
        go_wp2_with (at_builtin; go_must (refine wpList_append_lies _ rfl _ _ 30 rfl w1.heap.size 9 i0 (.string ByteArray.empty) 1 16 Tryz.underlying30 hi hz0 hz1 hz2 rfl (by decide) _ _ _ rfl (O2.out.alloc _) ⟨w2.heap.size, 0, none⟩ 1 1 [.string dd.2.2] rfl rfl (cell_one_new _ _ _) (by intro u hu; simp at hu; subst hu; rfl) (by decide) ?c3 ?c4 ?c5 (w2.heap.size + 1) (by simp) ?_))
        case c3 => unfold maxLen; omega
        case c4 => omega
        case c5 => have := B2.out.size; simp; omega
        intro g3 cap3 w3 ho3 hg3 hat _
        have bg : Below w1.heap.size w2 w3 := ((Below.refl _ w2).alloc B2.out.size _).grown hg3 (by have := B2.out.size; simp; omega) (fun q hq => (O2.out.lt q hq).1)
        have hgb : w2.grownBy w3 un.ownBlock := World.grownBy.trans (World.grownBy_alloc w2 _ _) hg3
        have R3 : Hid (RdN w3 (.slice a2 dd.2.1.length c2) dd.2.1) := R2.out.grown hgb N2.out
        have N3 : Hid (dd.2.1 = [] ∨ NotAt (.slice a2 dd.2.1.length c2) (.slice (some ⟨g3, 0, none⟩) (j + 1) cap3)) := by
          by_cases he : dd.2.1 = []
          · exact .inl he
          refine .inr (fun b o n c e => ?_)
          rcases hat with h9 | h9
          · rcases N2.out with h8 | h8
            · exact absurd h8 he
            · have := h8 b o n c e
              rw [h9] at this
              exact this
          · obtain ⟨ao', cap', e', -, -, h3⟩ := R2.out
            simp only [Value.slice.injEq] at e e'
            obtain ⟨rfl, -, -⟩ := e'
            rcases h3 with h3 | ⟨b', o', h4, hb, -⟩
            · exact absurd h3 he
            · rw [h4] at e
              simp at e
              simp [Value.ownBlock]
              omega
        have B3 : Hid (Below w1.heap.size w1 w3) := B2.out.trans bg
        have NL3 : Hid ((nm ++ [dd.2.2]).length = j + 1) := by show _ = _; rw [List.length_append, NL.out]; rfl
        have O3 : Hid (w3.ownsRow w1.heap.size 9 1 (.slice (some ⟨g3, 0, none⟩) (j + 1) cap3) (j + 1) ((nm ++ [dd.2.2]).map Value.string)) := by
          show World.ownsRow _ _ _ _ _ _ _; rw [List.map_append]; exact ho3
        clear ho3 hg3 hat bg hgb R2 N2 O2 B2 X2
        go_wp2
        go_roundw
        case rel => exact ⟨j + 1, _, _, dd.2.1, nm ++ [dd.2.2], by omega, rfl, rfl, by go_num, R3, SN, NL3, O3, HN2, B3, N3⟩
        case measure => simp [intOf]; omega
      · have HN2 : Hid ((dd.1, j, nk, nm) = res) := HGO.out hc
        have hcb : (dd.1 == 0) = false := by simpa using hc
        clear HGO HGN ON O2 N2 R2
        obtain ⟨-, z2, -, -, ⟨d0, d1, d2, d3, d4⟩, df⟩ := X2.out
        have f0 := df 0
        have f1 := df 1
        have f2 := df 2
        have f3 := df 3
        have f4 := df 4
        clear df
        have FB : Hid (∀ W', Below w.heap.size w2 W' → Below w.heap.size w W') := fun W' hW => X2.out.1.trans hW
        generalize dd.1 = d9 at *
        clear X2 B2
        go_wp2
        refine bodyPost_ret (v := .agg #[.int .i64 d9, .int .i64 (j : Int), .slice none 0 0, .int .i64 0, .slice none 0 0]) (by simp [results, Tryz.results6, go_sem, d0, d1, d2, d3, d4]) rfl ?_
        rw [← HN2.out]
        refine ⟨FB.out _ ?_, .inl ⟨hc, rfl⟩⟩
        repeat (first | exact Below.refl _ _ | refine Below.setCell ?_ (by simp; try omega) _)
    · have hjn : j = os.length := by omega
      have HN2 : Hid ((0, j, nk, nm) = res) := by
        have := HRS.out
        rw [List.drop_of_length_le (by omega)] at this
        exact this
      subst hjn
      go_wp2_with fail
      clear a0 a1
      refine (l3Diff_any wr _ _ ns nk (HR.out.below XK.out.1) RK.out hn SK.out.2.2).mono ?_
      rintro e w2 ⟨v2, rfl, o2, b2⟩
      have X2 : Hid (PrB w (.slice ao ns.length ca) (.slice (some ⟨bb, bof, none⟩) os.length cb) w2) := XK.out.below b2
      have O2 : Hid (w2.ownsRow w1.heap.size 9 1 un os.length (nm.map Value.string)) := rowP_below ON.out b2
      obtain ⟨ea, ec, rfl, _, _⟩ := (OwnE.rd o2).len
      have E2 : Hid (OwnE 100 w2 wr.heap.size (.slice ea (dif ns nk).length ec) (dif ns nk)) := o2
      clear o2 b2 XK ON RK SK HRS
      obtain ⟨-, z2, -, -, ⟨d0, d1, d2, d3, d4⟩, df⟩ := X2.out
      have f0 := df 0
      have f1 := df 1
      have f2 := df 2
      have f3 := df 3
      have f4 := df 4
      clear df
      have FB : Hid (∀ W', Below w.heap.size w2 W' → Below w.heap.size w W') := fun W' hW => X2.out.1.trans hW
      have hzr : w1.heap.size ≤ wr.heap.size := BK.out.size
      have hun : ∃ ua uc, un = .slice ua os.length uc := by
        rcases O2.out.2 with ⟨rfl, h0⟩ | ⟨g, cap, cur, rfl, -⟩
        · exact ⟨_, _, by rw [h0]⟩
        · exact ⟨_, _, rfl⟩
      obtain ⟨ua, uc, rfl⟩ := hun
      have HDL : Hid ((dif ns nk).length = (dif ns nk).length) := rfl
      clear X2 BK NA HC HOS
      go_wp2
      refine bodyPost_ret (v := .agg #[.int .i64 0, .int .i64 0, .slice ua os.length uc, .int .i64 z, .slice ea (dif ns nk).length ec]) (by simp [results, Tryz.results6, go_sem, d0, d1, d2, d3, d4]) rfl ?_
      rw [← HN2.out]
      refine ⟨FB.out _ ?_, .inr ⟨rfl, _, _, rfl, ?_, ?_⟩⟩
      · repeat (first | exact Below.refl _ _ | refine Below.setCell ?_ (by simp; try omega) _)
      · refine rowP_mono (lo := w1.heap.size) ?_ (by omega)
        show World.ownsRow _ _ _ _ _ nm.length (nm.map Value.string)
        rw [NL.out]
        iterate 5 refine ownsRow_setCell_below ?_ (by simp; omega) _
        exact O2.out
      · unfold OwnE
        refine rowP_mono (lo := wr.heap.size) ?_ (by omega)
        iterate 5 refine ownsRow_setCell_below ?_ (by simp; omega) _
        exact E2.out

end Go.Proofs.YtejhcebodlcloaaGreatDoor


