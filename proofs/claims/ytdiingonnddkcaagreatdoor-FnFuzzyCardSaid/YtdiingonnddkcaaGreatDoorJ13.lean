import Derived.Test.YtdiingonnddkcaaGreatDoorJ11
import Derived.Test.YtdiingonnddkcaaGreatDoorJ07
import Derived.Lib.AppendZeros
import Derived.Deep.AppendLies
import Derived.Lib.Overlaps
import Derived.Test.YtdiingonnddkcaaGreatDoorJ12
import Derived.Test.YtdiingonnddkcaaGreatDoorJ02
import Derived.Test.YtdiingonnddkcaaGreatDoorJ08
import Derived.Test.YtdiingonnddkcaaGreatDoorJ10
namespace Go.Proofs.YtdiingonnddkcaaGreatDoor
open Go.RowKit Go.Shelf

/-- What slices.Insert leaves behind. -/
def InsP (w : World) (lo g : Nat) (R : List Nd) (e : Ending) (w' : World) : Prop :=
  ∃ g' c', e = .returned (.slice (some ⟨g', 0, none⟩) R.length c') ∧ OwnN 42 w' lo (.slice (some ⟨g', 0, none⟩) R.length c') R ∧ ∀ b, Tw w b (some g) w' (some g')

set_option linter.unusedSimpArgs false in
set_option maxHeartbeats 2000000 in
set_option maxRecDepth 100000 in
theorem insert_end (w : World) (lo g c b : Nat) (ns : List Nd) (m : Nd) (h : OwnN 42 w lo (.slice (some ⟨g, 0, none⟩) ns.length c) ns) (h0 : 0 < ns.length) (hn : ns.length < 1000) (hb : w.heap[b]? = some (.cells (ndL m).toArray 42 (0, 0))) (hlo : lo ≤ w.heap.size) :
    Calls Tryz.prog 108 #[.slice (some ⟨g, 0, none⟩) ns.length c, .int .i64 (ns.length : Int), .slice (some ⟨b, 0, none⟩) 1 1] w (InsP w lo g (ns ++ [m])) := by
  obtain ⟨i0, hi, hz0, hz1, hz2⟩ := info_parts Tryz.infoN
  obtain ⟨-, hnc, hcm, -⟩ := h.row9
  have HO := hd9 h
  have HB := hd9 hb
  clear h hb
  have h01 : (0 : Int) ≤ (ns.length : Int) := by omega
  have HCB : Hid (∀ j u, (ndL m)[j]? = some u → w.cell? ((⟨b, 0, none⟩ : Addr).add j) = some u) := fun j u hu => by
    rw [Addr.add_lit, cell_of_row w b _ _ _ (0, 0) HB.out, List.getElem?_toArray, Nat.zero_add]
    exact hu
  rcases Nat.lt_or_ge ns.length c with hcn | hcn
  all_goals
    go_enter Tryz.func108, Tryz.ntmps108
    go_wp2_with (at_builtin; go_must (refine wpList_append_lies _ rfl _ _ 23 rfl lo 42 i0 _ 7 72 Tryz.underlying23 hi hz0 hz1 hz2 rfl (by decide) _ _ _ rfl HO.out ⟨b, 0, none⟩ 1 1 (ndL m) rfl rfl HCB.out (ndL_one7 m) (by omega) (by unfold maxLen; omega) (by omega) hlo w.heap.size rfl ?_))
    intro g3 cap3 w3 ho3 hg3 hat _
    have T3 : Hid (∀ q, Tw w q (some g) w3 (some g3)) := fun q => ⟨hg3.os, hg3.tape, hg3.output, hg3.size, fun k hk _ ho => hg3.block k hk (fun e => ho e.symm), by
      rcases hat with e | e
      · exact .inl e.symm
      · exact .inr (.inr ⟨_, rfl, by omega⟩)⟩
    have O3 : Hid (OwnN 42 w3 lo (.slice (some ⟨g3, 0, none⟩) (ns ++ [m]).length cap3) (ns ++ [m])) := by
      show World.ownsRow _ _ _ _ _ _ _
      rw [nrow_append, List.length_append]
      simpa [nrow] using ho3
    have HL : Hid ((ns ++ [m]).length = ns.length + 1) := by show _ = _; simp
    clear ho3 hg3 hat
    go_wp2
    refine bodyPost_ret (v := .slice (some ⟨g3, 0, none⟩) (ns.length + 1) cap3) (by simp [results, Tryz.results108, go_sem]) rfl ⟨g3, cap3, by rw [HL.out], O3.out, T3.out⟩

set_option linter.unusedSimpArgs false in
set_option maxHeartbeats 2000000 in
set_option maxRecDepth 100000 in
theorem insert_grow (w : World) (lo g c b : Nat) (ns : List Nd) (I : Nat) (m : Nd) (h : OwnN 42 w lo (.slice (some ⟨g, 0, none⟩) ns.length c) ns) (hI : I < ns.length) (hn : ns.length < 1000) (hc : c < ns.length + 1) (hb : w.heap[b]? = some (.cells (ndL m).toArray 42 (0, 0))) (hlo : lo ≤ w.heap.size) :
    Calls Tryz.prog 108 #[.slice (some ⟨g, 0, none⟩) ns.length c, .int .i64 (I : Int), .slice (some ⟨b, 0, none⟩) 1 1] w (InsP w lo g (ns.take I ++ m :: ns.drop I)) := by
  obtain ⟨i0, hi, hz0, hz1, hz2⟩ := info_parts Tryz.infoN
  obtain ⟨-, hnc, hcm, X, hg, hX⟩ := h.row9
  have hI0 : (0 : Int) ≤ (I : Int) := by omega
  have hI2 : (I : Int) ≤ (ns.length : Int) := by omega
  have hI3 : ¬ (I : Int) = (ns.length : Int) := by omega
  have hI4 : (c : Int) < (ns.length : Int) + 1 := by omega
  have hIc : I ≤ c := by omega
  have hIc2 : ¬ c = I := by omega
  have HG := hd9 hg
  have HX := hd9 hX
  have HB := hd9 hb
  clear h hg hX hb
  go_enter Tryz.func108, Tryz.ntmps108
  have HCB : Hid (∀ j u, (ndL m)[j]? = some u → w.cell? ((⟨b, 0, none⟩ : Addr).add j) = some u) := fun j u hu => by
    rw [Addr.add_lit, cell_of_row w b _ _ _ (0, 0) HB.out, List.getElem?_toArray, Nat.zero_add]
    exact hu
  have HNS : Hid (nrow ns = nrow (ns.take I) ++ nrow (ns.drop I)) := by show _ = _; rw [← nrow_append, List.take_append_drop]
  have HLA : Hid ((nrow (ns.take I)).length = I * 7) := by show _ = _; rw [nrow_length, List.length_take]; omega
  have HLB : Hid ((nrow (ns.drop I)).length = (ns.length - I) * 7) := by show _ = _; rw [nrow_length, List.length_drop]
  have hr := run_append_zeros7 (P := Tryz.prog) (w := w) 23 3 23 42 i0 _ .i64 .i64 Tryz.underlying23 Tryz.underlying3 hi hz0 g I c (ns.length + 1 - I) (nrow (ns.take I)) (by rw [hz1]; exact HLA.out) ?h1 (by omega) (by omega) (by omega) (by omega) (by omega)
  case h1 =>
    intro j u hu
    rw [Addr.add_lit, cell_of_row w g _ _ _ (0, 0) HG.out, List.getElem?_toArray, HNS.out, List.append_assoc, Nat.zero_add, List.getElem?_append_left (List.getElem?_eq_some_iff.1 hu).1]
    exact hu
  rw [show I + (ns.length + 1 - I) = ns.length + 1 by omega, show ((ns.length + 1 - I : Nat) : Int) = ((ns.length : Int) + 1 - (I : Int)) by omega] at hr
  have hge := grownCap_ge w (ns.length + 1) c 42
  have hgm := grownCap_le_maxLen w (ns.length + 1) c 42 (by unfold maxLen; omega)
  generalize grownCap w (ns.length + 1) c 42 = cap2 at *
  obtain ⟨Z, hZ⟩ : ∃ Z : List Value, Z = (Builtin.zeroCells (Value.agg #[.string ByteArray.empty, .string ByteArray.empty, .int .i64 0, .int .i64 0, .int .i64 0, .int .i64 0, .int .i64 0]).cells (ns.length + 1 - I)).toList ++ (Builtin.zeroCells (Value.agg #[.string ByteArray.empty, .string ByteArray.empty, .int .i64 0, .int .i64 0, .int .i64 0, .int .i64 0, .int .i64 0]).cells (cap2 - (ns.length + 1))).toList := ⟨_, rfl⟩
  have hZl : Hid (Z.length = (cap2 - I) * 7) := by
    show _ = _
    rw [hZ]
    simp only [List.length_append, Array.length_toList, size_zeroCells]
    show (ns.length + 1 - I) * 7 + (cap2 - (ns.length + 1)) * 7 = _
    omega
  obtain ⟨w2, hw2⟩ : ∃ w2, w2 = w.drew.alloc (.cells ((nrow (ns.take I)).toArray ++ Builtin.zeroCells (Value.agg #[.string ByteArray.empty, .string ByteArray.empty, .int .i64 0, .int .i64 0, .int .i64 0, .int .i64 0, .int .i64 0]).cells (ns.length + 1 - I) ++ Builtin.zeroCells (Value.agg #[.string ByteArray.empty, .string ByteArray.empty, .int .i64 0, .int .i64 0, .int .i64 0, .int .i64 0, .int .i64 0]).cells (cap2 - (ns.length + 1))) 42) := ⟨_, rfl⟩
  rw [← hw2] at hr
  have HG2 : Hid (w2.heap[w.heap.size]? = some (.cells (nrow (ns.take I) ++ Z).toArray 42 (0, 0))) := by
    show _ = _
    rw [hw2, hZ]
    refine (heap_alloc_new w.drew _).trans ?_
    congr 2
    apply Array.ext'
    simp
  have B2 : Hid (Below w.heap.size w w2) := by rw [hw2]; exact (below_drewN' w 1).alloc (Nat.le_refl _) _
  clear hw2 hZ
  have hcI : ¬ cap2 = I := by omega
  have hmin : Nat.min 1 (ns.length + 1 - I) = 1 := Nat.min_eq_left (by omega)
  have hbl : b < w.heap.size := (Array.getElem?_eq_some_iff.1 HB.out).1
  have hgl : g < w.heap.size := (Array.getElem?_eq_some_iff.1 HG.out).1
  have hr2 := run_copy7 (P := Tryz.prog) (w := w2) 23 23 3 42 i0 w.heap.size (I * 7) (ns.length + 1 - I) (cap2 - I) ⟨b, 0, none⟩ 1 1 _ 42 (ndL m) Tryz.underlying23 hi HG2.out (by rw [hmin, hz1]; rfl) (fun j u hu => by rw [B2.out.cell (p := (⟨b, 0, none⟩ : Addr).add j) (by rw [Addr.add_lit]; exact hbl)]; exact HCB.out j u hu) (by
    rw [List.size_toArray, List.length_append, HLA.out, hZl.out, show (ndL m).length = 7 from rfl]; omega) (ndL_one7 m)
  rw [hmin] at hr2
  obtain ⟨R, hR⟩ : ∃ R : List Value, R = (nrow (ns.take I) ++ Z).drop (I * 7 + (ndL m).length) := ⟨_, rfl⟩
  have HRl : Hid (R.length = (cap2 - (I + 1)) * 7) := by
    show _ = _
    rw [hR, List.length_drop, List.length_append, HLA.out, hZl.out, show (ndL m).length = 7 from rfl]; omega
  have hcur : (List.take (I * 7) (nrow (List.take I ns) ++ Z).toArray.toList ++ ndL m ++ List.drop (I * 7 + (ndL m).length) (nrow (List.take I ns) ++ Z).toArray.toList) = nrow (ns.take I) ++ ndL m ++ R := by
    rw [hR]
    congr 2
    show List.take (I * 7) (nrow (ns.take I) ++ Z) = _
    rw [← HLA.out, List.take_left]
  rw [hcur] at hr2
  have HG3 := hd9 (setRow_heap w2 w.heap.size _ (nrow (ns.take I) ++ ndL m ++ R).toArray 42 (0, 0) HG2.out)
  have B3 : Hid (Below w.heap.size w (w2.setRow w.heap.size (nrow (ns.take I) ++ ndL m ++ R).toArray)) := below_setRow9 B2.out (Nat.le_refl _) _
  clear hcur hR
  generalize w2.setRow w.heap.size _ = w3 at *
  go_wp2_with (first | (at_builtin; go_must (refine Lib.wpList_append_run _ rfl _ _ _ _ rfl _ _ rfl rfl _ _ hr ?_)) | (at_builtin; go_must (refine wpList_copyR rfl _ _ _ _ rfl _ _ rfl rfl _ _ hr2 ?_)))
  have hcI1 : ¬ cap2 = I + 1 := by omega
  have hA1 : (0 : Int) ≤ (I : Int) + 1 := by omega
  have hA2 : (I : Int) + 1 ≤ (ns.length : Int) + 1 := by omega
  have D3 : Hid (Below w.heap.size w w3.drew) := B3.out.trans ((below_drewN' w3 1).mono B3.out.size)
  have HG4 : Hid (w3.drew.heap[w.heap.size]? = some (.cells (nrow (ns.take I) ++ ndL m ++ R).toArray 42 (0, 0))) := HG3.out
  clear hr hr2
  refine wp_region_held_drew (S := fun W => True) (by kernel_rfl) trivial (fun hHeld => ?_)
  generalize w3.drew = w4 at *
  have hw9 : IntKind.i64.wrap ((I : Int) + 1) = (I : Int) + 1 := by rw [IntKind.wrap_i64]; omega
  iterate 3 (refine tkI9 ?_ (by kernel_rfl) (fun _ => id) hHeld ?_ ?_; rotate_left; · intro w9 hS9; clear hS9; go_simp; try with_reducible rfl)
  refine tkI9 (.int .i64 ((I : Int) + 1)) (by kernel_rfl) (fun _ => id) hHeld ?_ ?_
  · intro w9 hS9; clear hS9; go_simp; try rw [hw9]
  refine tkI9 (.slice (some ⟨w.heap.size, (I + 1) * 7, none⟩) (ns.length - I) (cap2 - (I + 1))) (by kernel_rfl) (fun _ => id) hHeld ?_ ?_
  · intro w9 hS9; clear hS9; go_simp
  iterate 3 (refine tkI9 ?_ (by kernel_rfl) (fun _ => id) hHeld ?_ ?_; rotate_left; · intro w9 hS9; clear hS9; go_simp; try with_reducible rfl)
  refine rdA9 8 rfl (by kernel_rfl) (fun K hK => ?_)
  rw [if_pos (by kernel_rfl)]
  have hmin2 : Nat.min (ns.length - I) (ns.length - I) = ns.length - I := Nat.min_self _
  have hr3 := run_copy7 (P := Tryz.prog) (w := w4) 23 23 3 42 i0 w.heap.size ((I + 1) * 7) (ns.length - I) (cap2 - (I + 1)) ⟨g, I * 7, none⟩ (ns.length - I) (c - I) _ 42 (nrow (ns.drop I)) Tryz.underlying23 hi HG4.out (by rw [hmin2, hz1]; exact HLB.out) (fun j u hu => by
    rw [D3.out.cell (p := (⟨g, I * 7, none⟩ : Addr).add j) (by rw [Addr.add_lit]; exact hgl), Addr.add_lit, cell_of_row w g _ _ _ (0, 0) HG.out, List.getElem?_toArray, HNS.out, List.append_assoc, List.getElem?_append_right (by rw [HLA.out]; omega), HLA.out, show I * 7 + j - I * 7 = j by omega, List.getElem?_append_left (List.getElem?_eq_some_iff.1 hu).1]
    exact hu) (by
    rw [HLB.out, List.size_toArray, List.length_append, List.length_append, HLA.out, HRl.out, show (ndL m).length = 7 from rfl]; omega) (nrow_one7 _)
  rw [hmin2] at hr3
  refine wp_copyR (.tmp 50) (.tmp 53) _ _ (by kernel_rfl) _ _ (by kernel_rfl) (by kernel_rfl) _ _ hr3 ?_
  refine hK.out _ _ trivial (fun hHeld => ?_)
  clear hK K hr3
  have HLC : Hid ((nrow (ns.take I) ++ ndL m).length = (I + 1) * 7) := by show _ = _; rw [List.length_append, HLA.out, show (ndL m).length = 7 from rfl]; omega
  have HFN : Hid (∀ Y : List Value, List.take ((I + 1) * 7) (nrow (ns.take I) ++ ndL m ++ R).toArray.toList ++ nrow (ns.drop I) ++ Y = nrow (ns.take I ++ m :: ns.drop I) ++ Y) := fun Y => by
    show List.take ((I + 1) * 7) (nrow (ns.take I) ++ ndL m ++ R) ++ nrow (ns.drop I) ++ Y = _
    rw [← HLC.out, List.take_left, nrow_append, nrow_cons]
    simp only [List.append_assoc]
  have HG5 := hd9 (setRow_heap w4 w.heap.size _ (List.take ((I + 1) * 7) (nrow (ns.take I) ++ ndL m ++ R).toArray.toList ++ nrow (ns.drop I) ++ List.drop ((I + 1) * 7 + (nrow (ns.drop I)).length) (nrow (ns.take I) ++ ndL m ++ R).toArray.toList).toArray 42 (0, 0) HG4.out)
  have B5 : Hid (Below w.heap.size w (w4.setRow w.heap.size (List.take ((I + 1) * 7) (nrow (ns.take I) ++ ndL m ++ R).toArray.toList ++ nrow (ns.drop I) ++ List.drop ((I + 1) * 7 + (nrow (ns.drop I)).length) (nrow (ns.take I) ++ ndL m ++ R).toArray.toList).toArray)) := below_setRow9 D3.out (Nat.le_refl _) _
  generalize w4.setRow w.heap.size _ = w5 at *
  rw [HFN.out] at HG5
  refine wpAnyH_done (by kernel_rfl) ?_ _
  simp only [Act.put, sT9, sZ9, sS9]
  clear hHeld HFN
  have HRL : Hid ((ns.take I ++ m :: ns.drop I).length = ns.length + 1) := by show _ = _; simp only [List.length_append, List.length_take, List.length_cons, List.length_drop]; omega
  go_wp2
  refine bodyPost_ret (v := .slice (some ⟨w.heap.size, 0, none⟩) (ns.length + 1) cap2) (by simp [results, Tryz.results108, go_sem]) rfl ⟨w.heap.size, cap2, by rw [HRL.out], ?_, fun q => ⟨B5.out.os, B5.out.tape, B5.out.output, B5.out.size, fun k hk _ _ => B5.out.block k hk, .inr (.inr ⟨_, rfl, Nat.le_refl _⟩)⟩⟩
  refine OwnN.of9 hlo (by rw [HRL.out]; exact hge) hgm HG5.out ?_
  rw [List.length_append, nrow_length, HRL.out, List.length_drop, HLB.out]
  show (ns.length + 1) * 7 + ((nrow (ns.take I) ++ ndL m ++ R).length - _) = _
  rw [List.length_append, HLC.out, HRl.out]
  omega


set_option linter.unusedSimpArgs false in
set_option maxHeartbeats 2000000 in
set_option maxRecDepth 100000 in
theorem insert_room (w : World) (lo g c b : Nat) (ns : List Nd) (I : Nat) (m : Nd) (h : OwnN 42 w lo (.slice (some ⟨g, 0, none⟩) ns.length c) ns) (hI : I < ns.length) (hn : ns.length < 1000) (hc : ns.length + 1 ≤ c) (hbg : b ≠ g) (hb : w.heap[b]? = some (.cells (ndL m).toArray 42 (0, 0))) :
    Calls Tryz.prog 108 #[.slice (some ⟨g, 0, none⟩) ns.length c, .int .i64 (I : Int), .slice (some ⟨b, 0, none⟩) 1 1] w (InsP w lo g (ns.take I ++ m :: ns.drop I)) := by
  obtain ⟨i0, hi, hz0, hz1, hz2⟩ := info_parts Tryz.infoN
  obtain ⟨hlg, hnc, hcm, X, hg, hX⟩ := h.row9
  have hI0 : (0 : Int) ≤ (I : Int) := by omega
  have hI2 : (I : Int) ≤ (ns.length : Int) := by omega
  have hI3 : ¬ (I : Int) = (ns.length : Int) := by omega
  have hI4 : ¬ (c : Int) < (ns.length : Int) + 1 := by omega
  have hI5 : (ns.length : Int) + 1 ≤ (c : Int) := by omega
  have hI6 : (0 : Int) ≤ (ns.length : Int) + 1 := by omega
  have hIc : I ≤ c := by omega
  have hIc2 : ¬ c = I := by omega
  have hIc3 : ¬ c = I + 1 := by omega
  have hA1 : (0 : Int) ≤ (I : Int) + 1 := by omega
  have hA2 : (I : Int) + 1 ≤ (ns.length : Int) + 1 := by omega
  have hA3 : ¬ (ns.length : Int) + 1 < (I : Int) := by omega
  have HG := hd9 hg
  have HX := hd9 hX
  have HB := hd9 hb
  clear h hg hX hb
  have HCB : Hid (∀ j u, (ndL m)[j]? = some u → w.cell? ((⟨b, 0, none⟩ : Addr).add j) = some u) := fun j u hu => by
    rw [Addr.add_lit, cell_of_row w b _ _ _ (0, 0) HB.out, List.getElem?_toArray, Nat.zero_add]
    exact hu
  have HNS : Hid (nrow ns = nrow (ns.take I) ++ nrow (ns.drop I)) := by show _ = _; rw [← nrow_append, List.take_append_drop]
  have HLA : Hid ((nrow (ns.take I)).length = I * 7) := by show _ = _; rw [nrow_length, List.length_take]; omega
  have HLB : Hid ((nrow (ns.drop I)).length = (ns.length - I) * 7) := by show _ = _; rw [nrow_length, List.length_drop]
  have hsz7 : ∀ w, (Go.sizeOf 42).run Tryz.prog w = .ok 7 w := fun w => by simp [Go.sizeOf, typeInfo, hi, hz1]
  have hov : ∀ lb cb, (callFunc 121 #[.slice (some ⟨b, 0, none⟩) 1 1, .slice (some ⟨g, (I + 1) * 7, none⟩) lb cb]).run Tryz.prog w = .ok (.value (.bool false)) w := fun lb cb => by
    rw [run_callFunc_extern Tryz.func121 (by kernel_rfl) (by kernel_rfl) (by kernel_rfl) (e := Extern.SlicesOverlaps.overlaps #[23, 23] #[4]) (by kernel_rfl),
      Lib.run_overlaps_apart w 23 4 42 Tryz.underlying23 7 hsz7 ⟨b, 0, none⟩ ⟨g, (I + 1) * 7, none⟩ 1 1 lb cb hbg 42 42 7 (c * 7) (by simp [World.shape?, HB.out]; rfl) (by have := HX.out; simp [World.shape?, HG.out]; simpa using this) (by omega) (frozen_of_row w b _ _ _ HB.out) (frozen_of_row w b _ _ _ HB.out)]
    rfl
  go_enter Tryz.func108, Tryz.ntmps108
  go_wp2_with fail
  clear hov
  have D1 : Hid (Below w.heap.size w w.drew) := below_drewN' w 1
  have hgl : g < w.heap.size := (Array.getElem?_eq_some_iff.1 HG.out).1
  have hbl : b < w.heap.size := (Array.getElem?_eq_some_iff.1 HB.out).1
  have HG1 : Hid (w.drew.heap[g]? = some (.cells (nrow ns ++ X).toArray 42 (0, 0))) := HG.out
  refine wp_region_held_drew (S := fun W => True) (by kernel_rfl) trivial (fun hHeld => ?_)
  generalize w.drew = w1 at *
  have hw9 : IntKind.i64.wrap ((I : Int) + 1) = (I : Int) + 1 := by rw [IntKind.wrap_i64]; omega
  iterate 3 (refine tkI9 ?_ (by kernel_rfl) (fun _ => id) hHeld ?_ ?_; rotate_left; · intro w9 hS9; clear hS9; go_simp; try with_reducible rfl)
  refine tkI9 (.int .i64 ((I : Int) + 1)) (by kernel_rfl) (fun _ => id) hHeld ?_ ?_
  · intro w9 hS9; clear hS9; go_simp; try rw [hw9]
  refine tkI9 (.slice (some ⟨g, (I + 1) * 7, none⟩) (ns.length - I) (c - (I + 1))) (by kernel_rfl) (fun _ => id) hHeld ?_ ?_
  · intro w9 hS9; clear hS9; go_simp
  iterate 2 (refine tkI9 ?_ (by kernel_rfl) (fun _ => id) hHeld ?_ ?_; rotate_left; · intro w9 hS9; clear hS9; go_simp; try with_reducible rfl)
  refine tkI9 (.slice (some ⟨g, I * 7, none⟩) (ns.length + 1 - I) (c - I)) (by kernel_rfl) (fun _ => id) hHeld ?_ ?_
  · intro w9 hS9; clear hS9; go_simp
  refine rdA9 8 rfl (by kernel_rfl) (fun K hK => ?_)
  rw [if_pos (by kernel_rfl)]
  have hmin2 : Nat.min (ns.length + 1 - I) (ns.length - I) = ns.length - I := Nat.min_eq_right (by omega)
  obtain ⟨R, hR⟩ : ∃ R : List Value, R = (nrow ns ++ X).drop ((ns.length + 1) * 7) := ⟨_, rfl⟩
  have HRl : Hid (R.length = (c - (ns.length + 1)) * 7) := by
    show _ = _
    have := HX.out
    rw [hR, List.length_drop]
    omega
  have hr1 := run_copy7 (P := Tryz.prog) (w := w1) 23 23 3 42 i0 g ((I + 1) * 7) (ns.length - I) (c - (I + 1)) ⟨g, I * 7, none⟩ (ns.length + 1 - I) (c - I) _ 42 (nrow (ns.drop I)) Tryz.underlying23 hi HG1.out (by rw [hmin2, hz1]; exact HLB.out) (fun j u hu => by
    rw [Addr.add_lit, cell_of_row w1 g _ _ _ (0, 0) HG1.out, List.getElem?_toArray, HNS.out, List.append_assoc, List.getElem?_append_right (by rw [HLA.out]; omega), HLA.out, show I * 7 + j - I * 7 = j by omega, List.getElem?_append_left (List.getElem?_eq_some_iff.1 hu).1]
    exact hu) (by
    have := HX.out
    rw [HLB.out, List.size_toArray]; omega) (nrow_one7 _)
  rw [hmin2] at hr1
  obtain ⟨Q7, hQ7⟩ : ∃ Q7 : List Value, (nrow ns ++ X).take ((I + 1) * 7) = nrow (ns.take I) ++ Q7 ∧ Q7.length = 7 := by
    refine ⟨((nrow ns ++ X).take ((I + 1) * 7)).drop (I * 7), ?_, ?_⟩
    · have e : nrow (ns.take I) = ((nrow ns ++ X).take ((I + 1) * 7)).take (I * 7) := by
        rw [List.take_take, Nat.min_eq_left (by omega), HNS.out, List.append_assoc, ← HLA.out, List.take_left]
      conv => rhs; rw [e]
      exact (List.take_append_drop _ _).symm
    · have := HX.out
      rw [List.length_drop, List.length_take]
      omega
  have hcur : List.take ((I + 1) * 7) (nrow ns ++ X).toArray.toList ++ nrow (List.drop I ns) ++ List.drop ((I + 1) * 7 + (nrow (List.drop I ns)).length) (nrow ns ++ X).toArray.toList = nrow (ns.take I) ++ Q7 ++ nrow (ns.drop I) ++ R := by
    rw [hR, HLB.out, show (I + 1) * 7 + (ns.length - I) * 7 = (ns.length + 1) * 7 by omega]
    show List.take ((I + 1) * 7) (nrow ns ++ X) ++ _ ++ _ = _
    rw [hQ7.1]
  rw [hcur] at hr1
  refine wp_copyR (.tmp 73) (.tmp 76) _ _ (by kernel_rfl) _ _ (by kernel_rfl) (by kernel_rfl) _ _ hr1 ?_
  refine hK.out _ _ trivial (fun hHeld => ?_)
  clear hK K hr1 hcur hR
  have HQ := hd9 hQ7.2
  clear hQ7
  have HG2 := hd9 (setRow_heap w1 g _ (nrow (ns.take I) ++ Q7 ++ nrow (ns.drop I) ++ R).toArray 42 (0, 0) HG1.out)
  have T2 : Hid (∀ q, Tw w q (some g) (w1.setRow g (nrow (ns.take I) ++ Q7 ++ nrow (ns.drop I) ++ R).toArray) (some g)) := fun q => (Tw.ofBelow D1.out q (some g)).row
  generalize w1.setRow g _ = w2 at *
  refine wpAnyH_done (by kernel_rfl) ?_ _
  simp only [Act.put, sT9, sZ9, sS9]
  clear hHeld
  have hmin : Nat.min 1 (ns.length + 1 - I) = 1 := Nat.min_eq_left (by omega)
  have hr2 := run_copy7 (P := Tryz.prog) (w := w2) 23 23 3 42 i0 g (I * 7) (ns.length + 1 - I) (c - I) ⟨b, 0, none⟩ 1 1 _ 42 (ndL m) Tryz.underlying23 hi HG2.out (by rw [hmin, hz1]; rfl) (fun j u hu => by
    refine (World.cell?_of_block (w := w) (a := (⟨b, 0, none⟩ : Addr).add j) ?_).trans (HCB.out j u hu)
    rw [Addr.add_lit]
    exact (T2.out g).block b hbl hbg (fun e => hbg (Option.some.inj e).symm)) (by
    rw [List.size_toArray, List.length_append, List.length_append, List.length_append, HLA.out, HQ.out, HLB.out, HRl.out, show (ndL m).length = 7 from rfl]; omega) (ndL_one7 m)
  rw [hmin] at hr2
  have hcur : List.take (I * 7) (nrow (ns.take I) ++ Q7 ++ nrow (ns.drop I) ++ R).toArray.toList ++ ndL m ++ List.drop (I * 7 + (ndL m).length) (nrow (ns.take I) ++ Q7 ++ nrow (ns.drop I) ++ R).toArray.toList = nrow (ns.take I ++ m :: ns.drop I) ++ R := by
    show List.take (I * 7) (nrow (ns.take I) ++ Q7 ++ nrow (ns.drop I) ++ R) ++ ndL m ++ List.drop (I * 7 + 7) (nrow (ns.take I) ++ Q7 ++ nrow (ns.drop I) ++ R) = _
    have hD : List.drop (I * 7 + 7) (nrow (ns.take I) ++ Q7) = [] := List.drop_of_length_le (by rw [List.length_append, HLA.out, HQ.out]; omega)
    have hT : List.take (I * 7) (nrow (ns.take I) ++ (Q7 ++ (nrow (ns.drop I) ++ R))) = nrow (ns.take I) := by rw [← HLA.out, List.take_left]
    rw [nrow_append, nrow_cons, List.append_assoc (nrow (ns.take I) ++ Q7), List.drop_append_of_le_length (by rw [List.length_append, HLA.out, HQ.out]; omega), hD, List.append_assoc (nrow (ns.take I)), hT]
    simp only [List.append_assoc, List.nil_append]
  rw [hcur] at hr2
  have HG3 := hd9 (setRow_heap w2 g _ (nrow (ns.take I ++ m :: ns.drop I) ++ R).toArray 42 (0, 0) HG2.out)
  have T3 : Hid (∀ q, Tw w q (some g) (w2.setRow g (nrow (ns.take I ++ m :: ns.drop I) ++ R).toArray) (some g)) := fun q => (T2.out q).row
  clear hcur
  generalize w2.setRow g _ = w3 at *
  have HRL : Hid ((ns.take I ++ m :: ns.drop I).length = ns.length + 1) := by show _ = _; simp only [List.length_append, List.length_take, List.length_cons, List.length_drop]; omega
  go_wp2_with (at_builtin; go_must (refine wpList_copyR rfl _ _ _ _ rfl _ _ rfl rfl _ _ hr2 ?_))
  refine bodyPost_ret (v := .slice (some ⟨g, 0, none⟩) (ns.length + 1) c) (by simp [results, Tryz.results108, go_sem]) rfl ⟨g, c, by rw [HRL.out], ?_, T3.out⟩
  refine OwnN.of9 hlg (by rw [HRL.out]; exact hc) hcm HG3.out ?_
  rw [List.length_append, nrow_length, HRL.out, HRl.out]
  omega

theorem insert_any (w : World) (lo g c b : Nat) (ns : List Nd) (I : Nat) (m : Nd) (h : OwnN 42 w lo (.slice (some ⟨g, 0, none⟩) ns.length c) ns) (h0 : 0 < ns.length) (hI : I ≤ ns.length) (hn : ns.length < 1000) (hbg : b ≠ g) (hb : w.heap[b]? = some (.cells (ndL m).toArray 42 (0, 0))) (hlo : lo ≤ w.heap.size) :
    Calls Tryz.prog 108 #[.slice (some ⟨g, 0, none⟩) ns.length c, .int .i64 (I : Int), .slice (some ⟨b, 0, none⟩) 1 1] w (InsP w lo g (ns.take I ++ m :: ns.drop I)) := by
  by_cases hE : I = ns.length
  · subst hE
    rw [List.take_length, List.drop_length]
    exact insert_end w lo g c b ns m h h0 hn hb hlo
  · rcases Nat.lt_or_ge c (ns.length + 1) with hc | hc
    · exact insert_grow w lo g c b ns I m h (by omega) hn hc hb hlo
    · exact insert_room w lo g c b ns I m h (by omega) hn hc hbg hb


theorem last_slash {H L H' L' : List UInt8} (h : H ++ 47 :: L = H' ++ 47 :: L') (h1 : (47 : UInt8) ∉ L) (h2 : (47 : UInt8) ∉ L') : H = H' := by
  rcases List.append_eq_append_iff.1 h with ⟨zs, e1, e2⟩ | ⟨zs, e1, e2⟩
  · cases zs with
    | nil => simpa using e1.symm
    | cons x zs =>
      simp only [List.cons_append, List.cons.injEq] at e2
      exact absurd (by rw [e2.2]; simp) h1
  · cases zs with
    | nil => simpa using e1
    | cons x zs =>
      simp only [List.cons_append, List.cons.injEq] at e2
      exact absurd (by rw [e2.2]; simp) h2
theorem six_no : ∀ f v d, (47 : UInt8) ∉ six f v d
  | 0, _, _ => by simp [six]
  | f + 1, v, d => by
    unfold six
    split
    · simp
    · intro h
      rcases List.mem_append.1 h with h | h
      · exact six_no f _ _ h
      · simp only [List.mem_singleton] at h
        have h9 := congrArg UInt8.toNat h
        have h8 : (47 : UInt8).toNat = 47 := rfl
        rw [h8, UInt8.toNat_ofNat'] at h9
        have : v % 10 < 10 := Nat.mod_lt _ (by omega)
        omega
/-- The suffix does not turn the parent. -/
theorem par_name {ns : List Nd} {o : Op5} (h : okPath o.path = true) (h' : okPath (nameO ns o) = true) : parB (nameO ns o) = parB o.path := by
  unfold nameO at *
  split
  · rename_i hs
    rw [if_pos hs] at h'
    obtain ⟨a1, a0⟩ := okPath_head h
    obtain ⟨b1, b0⟩ := okPath_head h'
    have ea := path_split a1 a0
    have eb := path_split b1 b0
    have hno := six_no 12 (nAt ns (ns.findIdx (isP (parB o.path)))).cver.toNat 6
    generalize six 12 (nAt ns (ns.findIdx (isP (parB o.path)))).cver.toNat 6 = d6 at *
    have e : headL ⟨(o.path.data.toList ++ d6).toArray⟩ = headL o.path := by
      refine last_slash (L := lastL ⟨(o.path.data.toList ++ d6).toArray⟩) (L' := lastL o.path ++ d6) ?_ (last_no _) ?_
      · rw [← eb]
        show o.path.data.toList ++ d6 = _
        rw [ea]
        simp
      · intro hm
        rcases List.mem_append.1 hm with hm | hm
        · exact last_no _ hm
        · exact hno hm
    unfold parB parL
    rw [e]
  · rfl
theorem wi_ins {ns : List Nd} (h : Asc ns) {n : Nd} (hl : ¬ ns.findIdx (isP n.path) < ns.length) : wiN ns n = ns.take (plc ns n.path) ++ n :: ns.drop (plc ns n.path) := by
  rw [wi_form n h]
  have : fnd ns n.path (plc ns n.path) = false := by
    cases hf : fnd ns n.path (plc ns n.path) with
    | false => rfl
    | true => exact absurd (by rw [(idx_plc hf).1]; exact (idx_plc hf).2) hl
  unfold skp
  rw [this]
  simp

set_option linter.unusedSimpArgs false in
set_option maxHeartbeats 2000000 in
set_option maxRecDepth 100000 in
theorem create_judge (w : World) (D lo : Nat) (z : Int) (v : Value) (ns : List Nd) (o : Op5) (h : Df w D lo z v ns) (hw : wfO o = true) (hk : o.kind = 1) (hz : okS z = true) (hlo : lo ≤ w.heap.size)
    (hsf : ∀ W, Below w.heap.size w W → ∀ n : Int, 0 ≤ n → n ≤ 2147483647 → Calls Tryz.prog 107 #[.int .i64 n] W fun e w' => e = .returned (.string ⟨(six 12 n.toNat 6).toArray⟩) ∧ Below W.heap.size W w') :
    Calls Tryz.prog 92 #[.pointer (some ⟨D, 0, none⟩), .agg #[.int .i64 o.kind, .string o.path, .string o.data, .int .i64 o.ver, .bool o.seq]] w (JP w D lo z v (doO ns o z)) := by
  have hlt := h.s.lt
  have HLT : Hid (∀ q, v.ownBlock = some q → lo ≤ q ∧ q < w.heap.size) := World.ownsRow.lt h.o
  have HPT := hd9 (wfO_path hw)
  have HZ := hd9 hz
  have HSF := hd9 hsf
  have HDO : Hid (doO ns o z = if ¬ ns.findIdx (isP (parB o.path)) < ns.length then (2, ns, ⟨#[]⟩)
    else if !okPath (nameO ns o) then (1, ns, ⟨#[]⟩)
    else if ns.findIdx (isP (nameO ns o)) < ns.length then (3, ns, ⟨#[]⟩)
    else if ns.length = 1000 then (6, ns, ⟨#[]⟩)
    else (0, toN (wiN ns ⟨nameO ns o, o.data, 0, 0, z, z, z⟩) (parB o.path) z, nameO ns o)) := by
    show _ = _
    unfold doO
    rw [hw, if_neg (show ¬ (!true) = true by decide), if_pos hk]
  obtain ⟨FD, hFD⟩ : ∃ b, b = decide (ns.findIdx (isP (parB o.path)) < ns.length) := ⟨_, rfl⟩
  have HP : Hid (∀ W, Calls Tryz.prog 75 #[.string o.path] W fun e w' => e = .returned (.string (parB o.path)) ∧ w' = W) := fun W => parentPath_any W _ HPT.out.1
  have HF : Hid (∀ W, Below w.heap.size w W → Calls Tryz.prog 35 #[v, .string (parB o.path)] W fun e w' => e = .returned (.tuple #[.int .i64 (plc ns (parB o.path) : Int), .bool FD]) ∧ Below W.heap.size W w') := fun W hW => by
    rw [hFD]; exact find9 W v ns _ (h.o.below hW).rd h.n
  have HFD := hd9 hFD
  have B0 : Hid (Below w.heap.size w (w.alloc (.cells #[.int .i64 o.kind, .string o.path, .string o.data, .int .i64 o.ver, .bool o.seq] 40))) := (Below.refl _ _).alloc (Nat.le_refl _) _
  have XO : Hid (St (w.alloc (.cells #[.int .i64 o.kind, .string o.path, .string o.data, .int .i64 o.ver, .bool o.seq] 40)) w.heap.size [.int .i64 o.kind, .string o.path, .string o.data, .int .i64 o.ver, .bool o.seq]) := St.new _ _ _
  have XD := hd9 (h.below B0.out)
  have HDF : Hid (∀ W, Below w.heap.size w W → Df W D lo z v ns) := fun W hW => h.below hW
  clear h hw hk hz hsf hFD
  go_enter Tryz.func92, Tryz.ntmps92
  go_wp2_with fail
  generalize w.alloc _ = w0 at *
  have B1 : Hid (Below w.heap.size w w0.drew) := B0.out.trans ((below_drewN' w0 1).mono B0.out.size)
  have X1 : Hid (St w0.drew w.heap.size [.int .i64 o.kind, .string o.path, .string o.data, .int .i64 o.ver, .bool o.seq]) := XO.out.below (below_drewN' w0 1)
  have D1 : Hid (Df w0.drew D lo z v ns) := XD.out.below (below_drewN' w0 1)
  clear B0 XO XD
  refine wp_region_held_drew (S := fun W => W.cell? ⟨D, 0, none⟩ = some v ∧ W.cell? ⟨w.heap.size, 1, none⟩ = some (.string o.path)) (by kernel_rfl) ⟨D1.out.s.cl 0 _ rfl, X1.out.cl 1 _ rfl⟩ (fun hHeld => ?_)
  generalize w0.drew = w1 at *
  iterate 6 (refine tkI9 ?_ (by kernel_rfl) (fun _ => id) hHeld ?_ ?_; rotate_left; · intro w9 hS9; obtain ⟨k0, k1⟩ := hS9; go_simp; try with_reducible rfl)
  refine rdA9 6 rfl (by kernel_rfl) (fun K hK => ?_)
  go_simp
  refine (HP.out _).mono ?_
  rintro e w2 ⟨rfl, rfl⟩
  clear hHeld
  refine hK.out _ _ ⟨D1.out.s.cl 0 _ rfl, X1.out.cl 1 _ rfl⟩ (fun hHeld => ?_)
  clear hK K
  refine rdA9 7 rfl (by kernel_rfl) (fun K hK => ?_)
  go_simp
  refine (HF.out _ B1.out).mono ?_
  rintro e w2 ⟨rfl, b2⟩
  have B2 := hd9 (B1.out.trans (b2.mono B1.out.size))
  have D2 := hd9 (D1.out.below b2)
  have X2 := hd9 (X1.out.below b2)
  clear hHeld b2
  refine hK.out _ _ ⟨D2.out.s.cl 0 _ rfl, X2.out.cl 1 _ rfl⟩ (fun hHeld => ?_)
  clear hK K B1 D1 X1 HF HP
  iterate 5 (refine tkI9 ?_ (by kernel_rfl) (fun _ => id) hHeld ?_ ?_; rotate_left; · intro w9 hS9; clear hS9; go_simp; try with_reducible rfl)
  refine wpAnyH_done (by kernel_rfl) ?_ _
  simp only [Act.put, sT9, sZ9, sS9]
  clear hHeld
  cases FD with
  | false =>
    have hf : ¬ ns.findIdx (isP (parB o.path)) < ns.length := of_decide_eq_false HFD.out.symm
    have HE := hd9 (HDO.out.trans (if_pos hf))
    clear hf HFD HDO
    go_wp2_with fail
    rw [HE.out]
    exact bodyPost_ret (v := .tuple #[.string ByteArray.empty, flt 2]) (by simp [results, Tryz.results92, go_sem, flt]; try rfl) rfl ⟨_, rfl, D2.out, Tw.ofBelow B2.out _ _⟩
  | true =>
    have hf : ns.findIdx (isP (parB o.path)) < ns.length := of_decide_eq_true HFD.out.symm
    have HD2 := hd9 (HDO.out.trans (if_neg (fun h => h hf)))
    have hpl := (idx_some D2.out.n.1 hf).2
    rw [hpl]
    clear hpl HFD HDO
    obtain ⟨I, hI⟩ : ∃ I, I = ns.findIdx (isP (parB o.path)) := ⟨_, rfl⟩
    rw [← hI] at hf ⊢
    have HI := hd9 hI
    clear hI
    have hL : (I : Int) < (ns.length : Int) := by omega
    have hg0 : (0 : Int) ≤ (I : Int) := by omega
    obtain ⟨g, gc, hv, hlg, hgl, hce⟩ := D2.out.o.at hf
    subst hv
    have c0 := D2.out.s.cl 0 _ rfl
    have x1 := X2.out.cl 1 _ rfl
    have x4 := X2.out.cl 4 _ rfl
    have k3 := (hce I hf).all.2.2.2.1
    have hcv : 0 ≤ (nAt ns I).cver ∧ (nAt ns I).cver ≤ 2147483647 := by
      have := D2.out.n.2.1 (nAt ns I) (by rw [nAt_get hf]; exact List.getElem_mem hf)
      have := okNd_all this
      omega
    have HSU := hd9 (HSF.out w2 B2.out _ hcv.1 hcv.2)
    have HNM : Hid (nameO ns o = if o.seq then ⟨(o.path.data.toList ++ six 12 (nAt ns I).cver.toNat 6).toArray⟩ else o.path) := by show _ = _; rw [HI.out]; rfl
    clear hce hcv HSF
    have HT6 : Hid (∃ t6 : ByteArray, t6 = ⟨(six 12 (nAt ns I).cver.toNat 6).toArray⟩ ∧ t6.size ≤ 12 ∧ (o.seq = true → o.path ++ t6 = nameO ns o)) := by
      refine ⟨_, rfl, ?_, fun hs => ?_⟩
      · have := six_len 12 (nAt ns I).cver.toNat 6
        show (six 12 (nAt ns I).cver.toNat 6).toArray.size ≤ 12
        rw [List.size_toArray]
        exact this
      · rw [HNM.out, if_pos hs]
        apply ByteArray.ext
        rw [ByteArray.data_append]
        apply Array.ext'
        simp
    obtain ⟨t6, ht6, ht7, ht8⟩ := HT6.out
    have hps := (okPath_size HPT.out.1)
    have HPR : Hid (okPath (nameO ns o) = true → parB (nameO ns o) = parB o.path) := fun h9 => par_name HPT.out.1 h9
    rw [← ht6] at HSU
    have HN0 : Hid (o.seq = false → o.path = nameO ns o) := fun hs => by rw [HNM.out, hs]; rfl
    clear ht6 HT6 HNM
    have HNX : Hid ((o.seq = true → o.path ++ t6 = nameO ns o) ∧ (o.seq = false → o.path = nameO ns o)) := ⟨ht8, HN0.out⟩
    clear ht8 HN0
    have hcc : o.path.size + t6.size ≤ 9223372036854775807 := by omega
    have HFN : Hid (∀ W, Below w.heap.size w W → Calls Tryz.prog 35 #[.slice (some ⟨g, 0, none⟩) ns.length gc, .string (nameO ns o)] W fun e w' => e = .returned (.tuple #[.int .i64 (plc ns (nameO ns o) : Int), .bool (decide (ns.findIdx (isP (nameO ns o)) < ns.length))]) ∧ Below W.heap.size W w') := fun W hW => find9 W _ ns _ ((HDF.out W hW).o.rd) D2.out.n
    rcases Bool.eq_false_or_eq_true o.seq with hsq | hsq
    have hNX := HNX.out.1 hsq
    rw [hsq] at x4
    go_wp2_with (go_at_call 107; refine HSU.out.mono ?_; rintro e w3 ⟨rfl, b3⟩)
    have B3 := hd9 (B2.out.trans (b3.mono B2.out.size))
    have X3 := hd9 (X2.out.below b3)
    have D3 := hd9 (D2.out.below b3)
    clear hNX HNX b3 B2 X2 D2 HSU c0 x1 x4 k3 hsq
    generalize nameO ns o = N at *
    rotate_left
    have hNX := hd9 (HNX.out.2 hsq)
    rw [hsq] at x4
    go_wp2_with fail
    rw [hNX.out]
    have B3 := B2
    have X3 := X2
    have D3 := D2
    clear hNX HNX B2 X2 D2 HSU c0 x1 x4 k3 hsq
    generalize nameO ns o = N at *
    all_goals
      refine (implPath_any _ N).mono ?_
      rintro e w4 ⟨rfl, b4⟩
      have B4 := hd9 (B3.out.trans (b4.mono B3.out.size))
      have X4 := hd9 (X3.out.below b4)
      have D4 := hd9 (D3.out.below b4)
      clear b4 B3 X3 D3
      cases hok : okPath N with
      | false =>
        have HE := hd9 (HD2.out.trans (if_pos (by rw [hok]; rfl)))
        clear hok HD2
        go_wp2_with fail
        rw [HE.out]
        exact bodyPost_ret (v := .tuple #[.string ByteArray.empty, flt 1]) (by simp [results, Tryz.results92, go_sem, flt]; try rfl) rfl ⟨_, rfl, D4.out, Tw.ofBelow B4.out _ _⟩
      | true =>
        have HD3 := hd9 (HD2.out.trans (if_neg (by rw [hok]; decide)))
        have HPR2 := hd9 (HPR.out hok)
        have HOK := hd9 hok
        clear hok HD2 HPR
        have c0 := D4.out.s.cl 0 _ rfl
        go_wp2_with fail
        refine (HFN.out _ B4.out).mono ?_
        rintro e w5 ⟨rfl, b5⟩
        have B5 := hd9 (B4.out.trans (b5.mono B4.out.size))
        have X5 := hd9 (X4.out.below b5)
        have D5 := hd9 (D4.out.below b5)
        clear b5 B4 X4 D4 c0 HFN
        by_cases hfn : ns.findIdx (isP N) < ns.length
        · rw [decide_eq_true hfn]
          have HE := hd9 (HD3.out.trans (if_pos hfn))
          clear HD3 hfn
          go_wp2_with fail
          rw [HE.out]
          exact bodyPost_ret (v := .tuple #[.string ByteArray.empty, flt 3]) (by simp [results, Tryz.results92, go_sem, flt]; try rfl) rfl ⟨_, rfl, D5.out, Tw.ofBelow B5.out _ _⟩
        · rw [decide_eq_false hfn]
          have HD4 := hd9 (HD3.out.trans (if_neg hfn))
          have HNF := hd9 hfn
          clear HD3 hfn
          have c0 := D5.out.s.cl 0 _ rfl
          by_cases hfl : ns.length = 1000
          · have HE := hd9 (HD4.out.trans (if_pos hfl))
            clear HD4
            have hge : (1000 : Int) ≤ (ns.length : Int) := by omega
            go_wp2_with fail
            rw [HE.out]
            exact bodyPost_ret (v := .tuple #[.string ByteArray.empty, flt 6]) (by simp [results, Tryz.results92, go_sem, flt]; try rfl) rfl ⟨_, rfl, D5.out, Tw.ofBelow B5.out _ _⟩
          · have HE := hd9 (HD4.out.trans (if_neg hfl))
            clear HD4
            have hn9 := D5.out.n.2.2
            have hge : ¬ (1000 : Int) ≤ (ns.length : Int) := by omega
            go_wp2_with fail
            clear c0
            have D6 : Hid (Df w5.drew D lo z (.slice (some ⟨g, 0, none⟩) ns.length gc) ns) := D5.out.below (below_drewN' w5 1)
            have X6 : Hid (St w5.drew w.heap.size [.int .i64 o.kind, .string o.path, .string o.data, .int .i64 o.ver, .bool o.seq]) := X5.out.below (below_drewN' w5 1)
            have B6 : Hid (Below w.heap.size w w5.drew) := B5.out.trans ((below_drewN' w5 1).mono B5.out.size)
            clear D5 X5 B5
            have c6 := D6.out.s.cl 0 _ rfl
            have B7 : Hid (Below w5.drew.heap.size w5.drew (w5.drew.alloc (.cells #[.string N, .string o.data, .int .i64 0, .int .i64 0, .int .i64 z, .int .i64 z, .int .i64 z] 42))) := (Below.refl _ _).alloc (Nat.le_refl _) _
            have HB7 : Hid ((w5.drew.alloc (.cells #[.string N, .string o.data, .int .i64 0, .int .i64 0, .int .i64 z, .int .i64 z, .int .i64 z] 42)).heap[w5.drew.heap.size]? = some (.cells (ndL ⟨N, o.data, 0, 0, z, z, z⟩).toArray 42 (0, 0))) := heap_alloc_new _ _
            have c7 := (D6.out.below B7.out).s.cl 0 _ rfl
            refine wp_region_held_drew (S := fun W => W.cell? ⟨D, 1, none⟩ = some (.int .i64 z) ∧ W.cell? ⟨w.heap.size, 2, none⟩ = some (.string o.data)) (by kernel_rfl) ⟨D6.out.s.cl 1 _ rfl, X6.out.cl 2 _ rfl⟩ (fun hHeld => ?_)
            generalize w5.drew = w6 at *
            iterate 4 (refine tkI9 ?_ (by kernel_rfl) (fun _ => id) hHeld ?_ ?_; rotate_left; · intro w9 hS9; obtain ⟨k1, k2⟩ := hS9; go_simp; try with_reducible rfl)
            refine tkE9 5 ?_ rfl (by kernel_rfl) (fun _ => id) hHeld ?_ ?_; rotate_left; · intro w9 hS9; obtain ⟨k1, k2⟩ := hS9; go_simp; try with_reducible rfl
            refine tkE9 6 ?_ rfl (by kernel_rfl) (fun _ => id) hHeld ?_ ?_; rotate_left; · intro w9 hS9; obtain ⟨k1, k2⟩ := hS9; go_simp; try with_reducible rfl
            refine tkE9 7 ?_ rfl (by kernel_rfl) (fun _ => id) hHeld ?_ ?_; rotate_left; · intro w9 hS9; obtain ⟨k1, k2⟩ := hS9; go_simp; try with_reducible rfl
            refine tkE9 8 ?_ rfl (by kernel_rfl) (fun _ => id) hHeld ?_ ?_; rotate_left; · intro w9 hS9; obtain ⟨k1, k2⟩ := hS9; go_simp; try with_reducible rfl
            refine tkE9 9 ?_ rfl (by kernel_rfl) (fun _ => id) hHeld ?_ ?_; rotate_left; · intro w9 hS9; obtain ⟨k1, k2⟩ := hS9; go_simp; try with_reducible rfl
            refine tkE9 10 ?_ rfl (by kernel_rfl) (fun _ => id) hHeld ?_ ?_; rotate_left; · intro w9 hS9; obtain ⟨k1, k2⟩ := hS9; go_simp; try with_reducible rfl
            refine tkE9 11 ?_ rfl (by kernel_rfl) (fun _ => id) hHeld ?_ ?_; rotate_left; · intro w9 hS9; obtain ⟨k1, k2⟩ := hS9; go_simp; try with_reducible rfl
            refine tkE9 12 ?_ rfl (by kernel_rfl) (fun _ => id) hHeld ?_ ?_; rotate_left; · intro w9 hS9; obtain ⟨k1, k2⟩ := hS9; go_simp; try with_reducible rfl
            refine tkE9 13 ?_ rfl (by kernel_rfl) (fun _ => id) hHeld ?_ ?_; rotate_left; · intro w9 hS9; obtain ⟨k1, k2⟩ := hS9; go_simp; try with_reducible rfl
            refine tkE9 14 ?_ rfl (by kernel_rfl) (fun _ => id) hHeld ?_ ?_; rotate_left; · intro w9 hS9; obtain ⟨k1, k2⟩ := hS9; go_simp; try with_reducible rfl
            refine tkE9 15 ?_ rfl (by kernel_rfl) (fun _ => id) hHeld ?_ ?_; rotate_left; · intro w9 hS9; obtain ⟨k1, k2⟩ := hS9; go_simp; try with_reducible rfl
            refine tkE9 16 ?_ rfl (by kernel_rfl) (fun _ => id) hHeld ?_ ?_; rotate_left; · intro w9 hS9; obtain ⟨k1, k2⟩ := hS9; go_simp; try with_reducible rfl
            refine tkE9 17 ?_ rfl (by kernel_rfl) (fun _ => id) hHeld ?_ ?_; rotate_left; · intro w9 hS9; obtain ⟨k1, k2⟩ := hS9; go_simp; try with_reducible rfl
            refine tkE9 18 ?_ rfl (by kernel_rfl) (fun _ => id) hHeld ?_ ?_; rotate_left; · intro w9 hS9; obtain ⟨k1, k2⟩ := hS9; go_simp; try with_reducible rfl
            refine tkE9 19 ?_ rfl (by kernel_rfl) (fun _ => id) hHeld ?_ ?_; rotate_left; · intro w9 hS9; obtain ⟨k1, k2⟩ := hS9; go_simp; try with_reducible rfl
            refine tkE9 20 ?_ rfl (by kernel_rfl) (fun _ => id) hHeld ?_ ?_; rotate_left; · intro w9 hS9; obtain ⟨k1, k2⟩ := hS9; go_simp; try with_reducible rfl
            refine tkE9 21 ?_ rfl (by kernel_rfl) (fun _ => id) hHeld ?_ ?_; rotate_left; · intro w9 hS9; obtain ⟨k1, k2⟩ := hS9; go_simp; try with_reducible rfl
            have S7 := And.intro ((D6.out.below B7.out).s.cl 1 _ rfl) ((X6.out.below B7.out).cl 2 _ rfl)
            have hgw : g < w.heap.size := (HLT.out g rfl).2
            have hgD : g ≠ D := fun e => D6.out.ne (by rw [e]; rfl)
            have B7w := hd9 (B6.out.trans (B7.out.mono B6.out.size))
            have D7 := hd9 (D6.out.below B7.out)
            have X7 := hd9 (X6.out.below B7.out)
            have HSN : Hid (Snd (ns.take (plc ns N) ++ ⟨N, o.data, 0, 0, z, z, z⟩ :: ns.drop (plc ns N))) := by
              have e9 := wi_ins (n := ⟨N, o.data, 0, 0, z, z, z⟩) D6.out.n.1 HNF.out
              show Snd _
              rw [← e9]
              refine D6.out.n.wi ?_ (.inl (by omega))
              unfold okNd
              rw [HOK.out, decide_eq_true HPT.out.2, HZ.out]
              rfl
            have HE2 : Hid (doO ns o z = (0, toN (ns.take (plc ns N) ++ ⟨N, o.data, 0, 0, z, z, z⟩ :: ns.drop (plc ns N)) (parB N) z, N)) := by
              show _ = _
              rw [HE.out, HPR2.out]
              have e9 := wi_ins (n := ⟨N, o.data, 0, 0, z, z, z⟩) D6.out.n.1 HNF.out
              rw [e9]
            have HIN := hd9 (insert_any _ lo g gc w6.heap.size ns (plc ns N) ⟨N, o.data, 0, 0, z, z, z⟩ D7.out.o (by omega) (plc_le ns N) (by omega) (by have := B6.out.size; omega) HB7.out (Nat.le_trans hlo B7w.out.size))
            generalize ns.take (plc ns N) ++ (⟨N, o.data, 0, 0, z, z, z⟩ : Nd) :: ns.drop (plc ns N) = R at *
            refine rdB9 4 22 rfl rfl (by kernel_rfl) (fun K hK => ?_) (fun K hK => ?_)
            go_simp
            refine hK.out _ _ hHeld (fun hHeld => ?_)
            clear hK K
            refine rdA9 22 rfl (by kernel_rfl) (fun K hK => ?_)
            go_simp
            refine hK.out _ _ S7 (fun hHeld => ?_)
            clear hK K
            rotate_left
            go_simp
            refine hK.out _ _ S7 (fun hHeld => ?_)
            clear hK K
            refine rdA9 4 rfl (by kernel_rfl) (fun K hK => ?_)
            go_simp
            refine hK.out _ _ S7 (fun hHeld => ?_)
            clear hK K
            all_goals
              clear c6 c7 S7
              generalize w6.alloc _ = w7 at *
              refine rdA9 23 rfl (by kernel_rfl) (fun K hK => ?_)
              go_simp
              refine HIN.out.mono ?_
              rintro e w8 ⟨g8, gc8, rfl, o8, t8⟩
              have S8 := hd9 ((t8 g).st D7.out.s hgD.symm (fun e => hgD (Option.some.inj e)))
              have X8 := hd9 ((t8 g).st X7.out (by omega) (fun e => by have : g = w.heap.size := Option.some.inj e; omega))
              have O8 := hd9 o8
              have hg8 : g8 ≠ D := by
                rcases (t8 g).own with e | e | ⟨q, e, hq⟩
                · rw [Option.some.inj e]; exact hgD
                · cases e
                · rw [Option.some.inj e]; have := B7w.out.size; omega
              have T8 := hd9 ((Tw.ofBelow B7w.out D (some g)).trans (t8 D))
              clear o8 t8 hHeld
              refine hK.out _ _ ⟨S8.out.cl 1 _ rfl, X8.out.cl 2 _ rfl⟩ (fun hHeld => ?_)
              clear hK K
              iterate 2 (refine tkI9 ?_ (by kernel_rfl) (fun _ => id) hHeld ?_ ?_; rotate_left; · intro w9 hS9; clear hS9; go_simp; try with_reducible rfl)
              have c8 := S8.out.cl 0 _ rfl
              have f8 := S8.out.fz 0
              refine rdA9 26 rfl (by kernel_rfl) (fun K hK => ?_)
              go_simp
              have S9 := hd9 (S8.out.set 0 (.slice (some ⟨g8, 0, none⟩) R.length gc8))
              have X9 := hd9 (X8.out.other (c := D) (j := 0) (x := .slice (some ⟨g8, 0, none⟩) R.length gc8) (by omega))
              have O9 := hd9 (O8.out.setO (b := D) (j := 0) (fun e => hg8 (Option.some.inj e)) (.slice (some ⟨g8, 0, none⟩) R.length gc8))
              have T9 := hd9 (T8.out.set (j := 0) (x := .slice (some ⟨g8, 0, none⟩) R.length gc8))
              refine hK.out _ _ ⟨S9.out.cl 1 _ rfl, X9.out.cl 2 _ rfl⟩ (fun hHeld => ?_)
              clear hK K c8 f8
              generalize w8.setCell _ _ = w9 at *
              refine wpAnyH_done (by kernel_rfl) ?_ _
              try simp only [Act.put, sT9, sZ9, sS9]
              clear hHeld
              have HCN := hd9 (count_any w9 D lo z _ _ N ⟨S9.out, O9.out, fun e => hg8 (Option.some.inj e), HSN.out⟩ HOK.out HZ.out)
              go_wp2_with (go_at_call 109; refine HCN.out.mono ?_)
              rintro e w10 ⟨rfl, d10, t10⟩
              have D10 := hd9 d10
              have T10 := hd9 (T9.out.trans t10)
              clear d10 t10 HCN
              go_wp2_with fail
              rw [HE2.out]
              exact bodyPost_ret (v := .tuple #[.string N, .nilIface]) (by simp [results, Tryz.results92, go_sem]) rfl ⟨_, rfl, D10.out, T10.out⟩


set_option maxHeartbeats 2000000 in
set_option maxRecDepth 100000 in
theorem iwell_any (w : World) (o : Op5) (hd : o.data.size ≤ 1048576) :
    Calls Tryz.prog 59 #[.agg #[.int .i64 o.kind, .string o.path, .string o.data, .int .i64 o.ver, .bool o.seq]] w fun e w' => e = .returned (.bool (wfO o)) ∧ Below w.heap.size w w' := by
  obtain ⟨kind, path, data, ver, seq⟩ := o
  simp only at *
  have B0 : Hid (Below w.heap.size w (w.alloc (.cells #[.int .i64 kind, .string path, .string data, .int .i64 ver, .bool seq] 40))) := (Below.refl _ _).alloc (Nat.le_refl _) _
  by_cases h1 : kind < 1
  · have HW : Hid (wfO ⟨kind, path, data, ver, seq⟩ = false) := by show _ = _; unfold wfO; simp only [Bool.and_eq_false_iff, decide_eq_false_iff_not]; omega
    go_enter Tryz.func59, Tryz.ntmps59
    go_wp2_with fail
    go_ret
    exact ⟨by rw [HW.out]; rfl, B0.out⟩
  by_cases h4 : 5 ≤ kind
  · have HW : Hid (wfO ⟨kind, path, data, ver, seq⟩ = false) := by show _ = _; unfold wfO; simp only [Bool.and_eq_false_iff, decide_eq_false_iff_not]; omega
    go_enter Tryz.func59, Tryz.ntmps59
    go_wp2_with fail
    go_ret
    exact ⟨by rw [HW.out]; rfl, B0.out⟩
  have C0 : Hid (∀ W, Below (w.alloc (.cells #[.int .i64 kind, .string path, .string data, .int .i64 ver, .bool seq] 40)).heap.size (w.alloc (.cells #[.int .i64 kind, .string path, .string data, .int .i64 ver, .bool seq] 40)) W → W.cell? ⟨w.heap.size, 0, none⟩ = some (.int .i64 kind) ∧ W.cell? ⟨w.heap.size, 1, none⟩ = some (.string path) ∧ W.cell? ⟨w.heap.size, 2, none⟩ = some (.string data) ∧ W.cell? ⟨w.heap.size, 3, none⟩ = some (.int .i64 ver) ∧ W.cell? ⟨w.heap.size, 4, none⟩ = some (.bool seq)) := by
    intro W hW
    have hl : w.heap.size < (w.alloc (.cells #[.int .i64 kind, .string path, .string data, .int .i64 ver, .bool seq] 40)).heap.size := by simp
    refine ⟨(hW.cell (p := ⟨w.heap.size, 0, none⟩) hl).trans (by go_simp), (hW.cell (p := ⟨w.heap.size, 1, none⟩) hl).trans (by go_simp), (hW.cell (p := ⟨w.heap.size, 2, none⟩) hl).trans (by go_simp), (hW.cell (p := ⟨w.heap.size, 3, none⟩) hl).trans (by go_simp), (hW.cell (p := ⟨w.heap.size, 4, none⟩) hl).trans (by go_simp)⟩
  go_enter Tryz.func59, Tryz.ntmps59
  go_wp2_with fail
  refine (implPath_any _ path).mono ?_
  rintro e w1 ⟨rfl, b1⟩
  obtain ⟨c0, c1, c2, c3, c4⟩ := C0.out w1 b1
  have B1 : Hid (Below w.heap.size w w1) := B0.out.trans (b1.mono (by simp))
  clear b1 C0 B0
  cases hpk : okPath path with
  | false =>
    have HW : Hid (wfO ⟨kind, path, data, ver, seq⟩ = false) := by show _ = _; unfold wfO; simp [hpk]
    go_wp2_with fail
    go_ret
    exact ⟨by rw [HW.out]; rfl, B1.out⟩
  | true =>
    have HPK : Hid (okPath path = true) := hpk
    clear hpk
    by_cases hds : 64 < data.size
    · have HW : Hid (wfO ⟨kind, path, data, ver, seq⟩ = false) := by show _ = _; unfold wfO; simp; omega
      have hdI : (64 : Int) < (data.size : Int) := by omega
      go_wp2_with fail
      go_ret
      exact ⟨by rw [HW.out]; rfl, B1.out⟩
    have hdI : ¬ (64 : Int) < (data.size : Int) := by omega
    have hk : kind = 1 ∨ kind = 2 ∨ kind = 3 ∨ kind = 4 := by omega
    clear h1 h4
    have hds' : data.size ≤ 64 := by omega
    have HDE : Hid ((data.toList == []) = decide (data.size = 0)) := by
      show _ = _
      have e : data.size = data.data.toList.length := by rw [Array.length_toList]; rfl
      rw [ByteArray.toList_eq, e]
      cases data.data.toList <;> simp
    by_cases hv1 : ver = -1
    · subst hv1
      rcases hk with rfl | rfl | rfl | rfl
      all_goals
        cases hps : (path.toList == [47]) <;> cases hdd : (data.toList == []) <;> cases seq <;> go_wp2_with fail
      all_goals
        go_ret
        refine ⟨ret_b ?_, B1.out⟩
        have hpk := HPK.out
        have hde := HDE.out
        rw [hdd] at hde
        unfold wfO
        simp only [hpk, hps]
        simp_all <;> (intros; omega)
    · have HST : Hid (∀ W, Calls Tryz.prog 83 #[.int .i64 ver] W fun e w' => e = .returned (.bool (okS ver)) ∧ w' = W) := fun W => istat_any W ver
      have HOS : Hid (okS ver = (decide (-1 ≤ ver) && decide (ver ≤ 2147483647))) := by
        show _ = _
        unfold okS
        congr 1
        simp only [decide_eq_decide]
        omega
      rcases hk with rfl | rfl | rfl | rfl
      all_goals
        cases hps : (path.toList == [47]) <;> cases hdd : (data.toList == []) <;> cases seq <;> go_wp2_with (go_at_call 83; refine (HST.out _).mono ?_; rintro e w' ⟨rfl, rfl⟩)
      all_goals
        go_ret
        refine ⟨ret_b ?_, B1.out⟩
        have hpk := HPK.out
        have hde := HDE.out
        rw [hdd] at hde
        have hos := HOS.out
        unfold wfO
        simp only [hpk, hps, hos]
        have hvf : (ver == -1) = false := by simp [hv1]
        clear hv1 HST HOS hos
        try rw [hvf]
        generalize decide (-1 ≤ ver) = p1 at *
        generalize decide (ver ≤ 2147483647) = p2 at *
        first
          | (simp_all; done)
          | (cases p1 <;> cases p2 <;> simp_all; done)
          | (by_cases hv0 : ver = 0 <;> simp_all; done)
          | (cases p1 <;> cases p2 <;> by_cases hv0 : ver = 0 <;> simp_all <;> omega)

end Go.Proofs.YtdiingonnddkcaaGreatDoor


