import Derived.Test.YtejhcebodlcloaaGreatDoorJ15
import Derived.Test.YtejhcebodlcloaaGreatDoorJ16
import Derived.Test.YtejhcebodlcloaaGreatDoorJ18
import Derived.Test.YtejhcebodlcloaaGreatDoorJ11
import Derived.Lib.AppendZeros
import Derived.Deep.AppendLies
import Derived.Lib.Overlaps
namespace Go.Proofs.YtejhcebodlcloaaGreatDoor
open Go.RowKit Go.Shelf

/-- The one that is deleted, by its place. -/
theorem wo_erase {ns : List Nd} (h : Asc ns) {p : ByteArray} (hl : ns.findIdx (isP p) < ns.length) : woN ns p = ns.eraseIdx (ns.findIdx (isP p)) := by
  obtain ⟨h1, h2⟩ := idx_some h hl
  have e := wo_all [] ns p (fun a ha => by simp at ha) h
  rw [List.nil_append, List.nil_append] at e
  rw [e, List.eraseIdx_eq_take_drop_succ, h2]
  unfold skp
  rw [h1, if_pos rfl]
theorem ch_any (ns : List Nd) (p : ByteArray) : (0 < (chN ns p).length) ↔ ns.any (fun m => chB m.path p) = true := by
  unfold chN
  rw [List.length_pos_iff_exists_mem, List.any_eq_true]
  constructor
  · rintro ⟨a, ha⟩
    obtain ⟨h1, h2⟩ := List.mem_filter.1 ha
    exact ⟨a, h1, h2⟩
  · rintro ⟨a, h1, h2⟩
    exact ⟨a, List.mem_filter.2 ⟨h1, h2⟩⟩
theorem rem_good {ns : List Nd} {o : Op5} {z : Int} (hw : wfO o = true) (hk : o.kind = 2) {I : Nat} (hs : Asc ns) (hv : wanV ns o = #[.int .i64 (I : Int), .nilIface]) : I < ns.length ∧ (ns.any (fun m => chB m.path o.path) = true → doO ns o z = (5, ns, ⟨#[]⟩)) ∧ (ns.any (fun m => chB m.path o.path) = false → woN ns o.path = ns.eraseIdx I ∧ doO ns o z = (0, toN (ns.eraseIdx I) (parB o.path) z, o.path)) := by
  unfold wanV at hv
  unfold doO
  rw [hw, if_neg (by simp), if_neg (by omega)]
  split at hv
  · simp [flt] at hv
  · rename_i h1
    rw [if_neg h1]
    split at hv
    · simp [flt] at hv
    · rename_i h2
      rw [if_neg h2, if_pos hk]
      have hI : ns.findIdx (isP o.path) = I := by simp at hv; omega
      have hl : ns.findIdx (isP o.path) < ns.length := by omega
      refine ⟨by omega, fun ha => ?_, fun ha => ?_⟩
      · rw [if_pos ((ch_any ns o.path).2 ha)]
      · have e := wo_erase hs hl
        rw [hI] at e
        rw [if_neg (fun h => by have := (ch_any ns o.path).1 h; rw [ha] at this; cases this), e]
        exact ⟨rfl, rfl⟩
theorem count_any (w : World) (D lo : Nat) (z : Int) (v : Value) (ns : List Nd) (s : ByteArray) (h : Df w D lo z v ns) (hs : okPath s = true) (hz : okS z = true) :
    Calls Tryz.prog 90 #[.pointer (some ⟨D, 0, none⟩), .string s] w (CntPost w D lo z v ns (parB s)) := by
  by_cases hl : ns.findIdx (isP (parB s)) < ns.length
  · exact count_some w D lo z v ns s h hs hz hl
  · refine (count_none w D lo z v ns s h hs hl).mono ?_
    rintro e w' ⟨rfl, b⟩
    refine ⟨rfl, ?_, Tw.ofBelow b _ _⟩
    rw [to_none hl]
    exact h.below b

set_option linter.unusedSimpArgs false in
set_option maxHeartbeats 2000000 in
set_option maxRecDepth 100000 in
theorem remove_judge (w : World) (D lo : Nat) (z : Int) (v : Value) (ns : List Nd) (o : Op5) (h : Df w D lo z v ns) (hw : wfO o = true) (hk : o.kind = 2) (hz : okS z = true) :
    Calls Tryz.prog 75 #[.pointer (some ⟨D, 0, none⟩), .agg #[.int .i64 o.kind, .string o.path, .string o.data, .int .i64 o.ver, .bool o.seq]] w (JP w D lo z v (doO ns o z)) := by
  have B0 : Hid (Below w.heap.size w (w.alloc (.cells #[.int .i64 o.kind, .string o.path, .string o.data, .int .i64 o.ver, .bool o.seq] 58))) := (Below.refl _ _).alloc (Nat.le_refl _) _
  have XO : Hid (St (w.alloc (.cells #[.int .i64 o.kind, .string o.path, .string o.data, .int .i64 o.ver, .bool o.seq] 58)) w.heap.size [.int .i64 o.kind, .string o.path, .string o.data, .int .i64 o.ver, .bool o.seq]) := St.new _ _ _
  have XD := hd9 (h.below B0.out)
  have hlt := h.s.lt
  have HLT : Hid (∀ q, v.ownBlock = some q → lo ≤ q ∧ q < w.heap.size) := World.ownsRow.lt h.o
  have HPT := hd9 (wfO_path hw).1
  have HZ := hd9 hz
  have HW : Hid (∀ W, Below w.heap.size w W → Calls Tryz.prog 91 #[.pointer (some ⟨D, 0, none⟩), .agg #[.int .i64 o.kind, .string o.path, .string o.data, .int .i64 o.ver, .bool o.seq]] W fun e w' => e = .returned (.tuple (wanV ns o)) ∧ Below W.heap.size W w') := fun W hW => wanted_any W D lo z v ns o (h.below hW)
  have HV : Hid ((∃ c : Int, c ≠ 0 ∧ wanV ns o = #[.int .i64 0, flt c]) ∨ ∃ I : Nat, wanV ns o = #[.int .i64 (I : Int), .nilIface]) := by
    unfold wanV
    split
    · exact .inl ⟨2, by omega, rfl⟩
    · split
      · exact .inl ⟨4, by omega, rfl⟩
      · exact .inr ⟨_, rfl⟩
  have HB : Hid (∀ c : Int, c ≠ 0 → wanV ns o = #[.int .i64 0, flt c] → doO ns o z = (c, ns, ⟨#[]⟩)) := fun c hc hv => set_bad hw (.inr hk) hc hv
  have HG : Hid (∀ I : Nat, wanV ns o = #[.int .i64 (I : Int), .nilIface] → I < ns.length ∧ (ns.any (fun m => chB m.path o.path) = true → doO ns o z = (5, ns, ⟨#[]⟩)) ∧ (ns.any (fun m => chB m.path o.path) = false → woN ns o.path = ns.eraseIdx I ∧ doO ns o z = (0, toN (ns.eraseIdx I) (parB o.path) z, o.path))) := fun I hv => rem_good hw hk h.n.1 hv
  clear h hw hk hz
  go_enter Tryz.func75, Tryz.ntmps75
  go_wp2_with fail
  generalize w.alloc _ = w0 at *
  refine (HW.out _ B0.out).mono ?_
  rintro e w1 ⟨rfl, b1⟩
  have B1 := hd9 (B0.out.trans (b1.mono B0.out.size))
  have X1 := hd9 (XO.out.below b1)
  have D1 := hd9 (XD.out.below b1)
  clear b1 B0 XO HW XD
  rcases HV.out with ⟨c, hc, e1⟩ | ⟨I, e1⟩
  · have HE := hd9 (HB.out c hc e1)
    rw [e1]
    clear e1 HV HB HG
    unfold flt
    go_wp2_with fail
    rw [HE.out]
    refine bodyPost_ret (v := .tuple #[.string ByteArray.empty, flt c]) (by simp [results, Tryz.results75, go_sem, flt]; try rfl) rfl ⟨v, ?_, D1.out, Tw.ofBelow B1.out _ _⟩
    unfold JV
    rw [if_neg hc]
  · obtain ⟨hl, e2⟩ := HG.out I e1
    have HE := hd9 e2
    rw [e1]
    clear e1 e2 HV HB HG
    have hL : (I : Int) < (ns.length : Int) := by omega
    have hg0 : (0 : Int) ≤ (I : Int) := by omega
    obtain ⟨g, gc, hv, hlo, hgl, hce⟩ := D1.out.o.at hl
    subst hv
    have c0 := D1.out.s.cl 0 _ rfl
    have HCF := hd9 (conF_row w1 g ns.length gc w.heap.size ns o.path rfl D1.out.n.2.2 hgl hce (fun m hm => okNd_path (D1.out.n.2.1 m hm)) X1.out.lt (X1.out.cl 1 _ rfl))
    clear hce
    go_wp2_with fail
    refine HCF.out.mono ?_
    rintro e w2 ⟨rfl, b2⟩
    have B2 := hd9 (B1.out.trans (b2.mono B1.out.size))
    have X2 := hd9 (X1.out.below b2)
    have D2 := hd9 (D1.out.below b2)
    clear b2 HCF B1 X1 D1 c0
    cases hAny : ns.any (fun m => chB m.path o.path) with
    | true =>
      have HE2 := hd9 (HE.out.1 hAny)
      clear hAny HE
      go_wp2_with fail
      rw [HE2.out]
      exact bodyPost_ret (v := .tuple #[.string ByteArray.empty, flt 5]) (by simp [results, Tryz.results75, go_sem, flt]; try rfl) rfl ⟨_, rfl, D2.out, Tw.ofBelow B2.out _ _⟩
    | false =>
      have HE2 := hd9 (HE.out.2 hAny)
      clear hAny HE
      have c0 := D2.out.s.cl 0 _ rfl
      have HDL := hd9 (delete_any w2 lo g gc ns I D2.out.o hl D2.out.n.2.2)
      have hgD : g ≠ D := fun e => D2.out.ne (by rw [e]; rfl)
      have hgw : g < w.heap.size := (HLT.out g rfl).2
      have hw1 : IntKind.i64.wrap ((I : Int) + 1) = (I : Int) + 1 := by have := D2.out.n.2.2; rw [IntKind.wrap_i64]; omega
      go_wp2_with fail
      refine HDL.out.mono ?_
      rintro e w3 ⟨rfl, o3, t3⟩
      have S3 := hd9 ((t3 g).st D2.out.s hgD.symm (fun e => hgD (Option.some.inj e)))
      have X3 := hd9 ((t3 g).st X2.out (by omega) (fun e => by have := Option.some.inj e; omega))
      have O3 := hd9 o3
      have T3 := hd9 ((Tw.ofBelow B2.out D (some g)).trans (t3 D))
      clear o3 t3 c0 HDL
      have c3 := S3.out.cl 0 _ rfl
      have f3 := S3.out.fz 0
      have x3 := X3.out.cl 1 _ rfl
      have hDb : ¬ w.heap.size = D := by omega
      have HCN : Hid (∀ W, W = w3.setCell ⟨D, 0, none⟩ (.slice (some ⟨g, 0, none⟩) (ns.eraseIdx I).length gc) → Calls Tryz.prog 90 #[.pointer (some ⟨D, 0, none⟩), .string o.path] W (CntPost W D lo z (.slice (some ⟨g, 0, none⟩) (ns.eraseIdx I).length gc) (ns.eraseIdx I) (parB o.path))) := by
        intro W hW
        subst hW
        refine count_any _ D lo z _ _ o.path ⟨?_, O3.out.setO (fun e => hgD (Option.some.inj e)) _, fun e => hgD (Option.some.inj e), ?_⟩ HPT.out HZ.out
        · exact S3.out.set 0 _
        · rw [← HE2.out.1]; exact D2.out.n.wo o.path
      go_wp2_with (go_at_call 90; refine (HCN.out _ rfl).mono ?_)
      rintro e w5 ⟨rfl, d5, t5⟩
      have D5 := hd9 d5
      have T5 := hd9 ((T3.out.set (j := 0) (x := .slice (some ⟨g, 0, none⟩) (ns.eraseIdx I).length gc)).trans t5)
      have x5 := (t5.st (X3.out.other (c := D) (j := 0) (x := .slice (some ⟨g, 0, none⟩) (ns.eraseIdx I).length gc) hDb) hDb (fun e => by have : g = w.heap.size := Option.some.inj e; omega)).cl 1 _ rfl
      clear d5 t5 HCN
      go_wp2_with fail
      rw [HE2.out.2]
      exact bodyPost_ret (v := .tuple #[.string o.path, .nilIface]) (by simp [results, Tryz.results75, go_sem]) rfl ⟨_, rfl, D5.out, T5.out⟩


/-- What slices.Insert leaves behind. -/
def InsP (w : World) (lo g : Nat) (R : List Nd) (e : Ending) (w' : World) : Prop :=
  ∃ g' c', e = .returned (.slice (some ⟨g', 0, none⟩) R.length c') ∧ OwnN 70 w' lo (.slice (some ⟨g', 0, none⟩) R.length c') R ∧ ∀ b, Tw w b (some g) w' (some g')

set_option linter.unusedSimpArgs false in
set_option maxHeartbeats 2000000 in
set_option maxRecDepth 100000 in
theorem insert_end (w : World) (lo g c b : Nat) (ns : List Nd) (m : Nd) (h : OwnN 70 w lo (.slice (some ⟨g, 0, none⟩) ns.length c) ns) (h0 : 0 < ns.length) (hn : ns.length < 1000) (hb : w.heap[b]? = some (.cells (ndL m).toArray 70 (0, 0))) (hlo : lo ≤ w.heap.size) :
    Calls Tryz.prog 89 #[.slice (some ⟨g, 0, none⟩) ns.length c, .int .i64 (ns.length : Int), .slice (some ⟨b, 0, none⟩) 1 1] w (InsP w lo g (ns ++ [m])) := by
  obtain ⟨i0, hi, hz0, hz1, hz2⟩ := info_parts Tryz.infoN
  obtain ⟨-, hnc, hcm, -⟩ := h.row9
  have HO := hd9 h
  have HB := hd9 hb
  clear h hb
  have h01 : (0 : Int) ≤ (ns.length : Int) := by omega
  have HCB : Hid (∀ j u, (ndL m)[j]? = some u → w.cell? ((⟨b, 0, none⟩ : Addr).add j) = some u) := fun j u hu => by
    rw [Addr.add_lit, cell_of_row w b _ _ _ (0, 0) HB.out, List.getElem?_toArray, Nat.zero_add]
    exact hu
  rcases Nat.lt_or_ge ns.length c with hcn | hcn
  all_goals
    go_enter Tryz.func89, Tryz.ntmps89
    go_wp2_with (at_builtin; go_must (refine wpList_append_lies _ rfl _ _ 37 rfl lo 70 i0 _ 7 72 Tryz.underlying37 hi hz0 hz1 hz2 rfl (by decide) _ _ _ rfl HO.out ⟨b, 0, none⟩ 1 1 (ndL m) rfl rfl HCB.out (ndL_one7 m) (by omega) (by unfold maxLen; omega) (by omega) hlo w.heap.size rfl ?_))
    intro g3 cap3 w3 ho3 hg3 hat _
    have T3 : Hid (∀ q, Tw w q (some g) w3 (some g3)) := fun q => ⟨hg3.os, hg3.tape, hg3.output, hg3.size, fun k hk _ ho => hg3.block k hk (fun e => ho e.symm), by
      rcases hat with e | e
      · exact .inl e.symm
      · exact .inr (.inr ⟨_, rfl, by omega⟩)⟩
    have O3 : Hid (OwnN 70 w3 lo (.slice (some ⟨g3, 0, none⟩) (ns ++ [m]).length cap3) (ns ++ [m])) := by
      show World.ownsRow _ _ _ _ _ _ _
      rw [nrow_append, List.length_append]
      simpa [nrow] using ho3
    have HL : Hid ((ns ++ [m]).length = ns.length + 1) := by show _ = _; simp
    clear ho3 hg3 hat
    go_wp2
    refine bodyPost_ret (v := .slice (some ⟨g3, 0, none⟩) (ns.length + 1) cap3) (by simp [results, Tryz.results89, go_sem]) rfl ⟨g3, cap3, by rw [HL.out], O3.out, T3.out⟩

set_option linter.unusedSimpArgs false in
set_option maxHeartbeats 2000000 in
set_option maxRecDepth 100000 in
theorem insert_grow (w : World) (lo g c b : Nat) (ns : List Nd) (I : Nat) (m : Nd) (h : OwnN 70 w lo (.slice (some ⟨g, 0, none⟩) ns.length c) ns) (hI : I < ns.length) (hn : ns.length < 1000) (hc : c < ns.length + 1) (hb : w.heap[b]? = some (.cells (ndL m).toArray 70 (0, 0))) (hlo : lo ≤ w.heap.size) :
    Calls Tryz.prog 89 #[.slice (some ⟨g, 0, none⟩) ns.length c, .int .i64 (I : Int), .slice (some ⟨b, 0, none⟩) 1 1] w (InsP w lo g (ns.take I ++ m :: ns.drop I)) := by
  obtain ⟨i0, hi, hz0, hz1, hz2⟩ := info_parts Tryz.infoN
  obtain ⟨-, hnc, hcm, X, hg, hX⟩ := h.row9
  have hI0 : (0 : Int) ≤ (I : Int) := by omega
  have hI2 : (I : Int) ≤ (ns.length : Int) := by omega
  have hI3 : ¬ (I : Int) = (ns.length : Int) := by omega
  have hI4 : (c : Int) < (ns.length : Int) + 1 := by omega
  have hIc : I ≤ c := by omega
  have hIc2 : ¬ c = I := by omega
  have HG := hd9 hg
  have HX := hd9 hX
  have HB := hd9 hb
  clear h hg hX hb
  go_enter Tryz.func89, Tryz.ntmps89
  have HCB : Hid (∀ j u, (ndL m)[j]? = some u → w.cell? ((⟨b, 0, none⟩ : Addr).add j) = some u) := fun j u hu => by
    rw [Addr.add_lit, cell_of_row w b _ _ _ (0, 0) HB.out, List.getElem?_toArray, Nat.zero_add]
    exact hu
  have HNS : Hid (nrow ns = nrow (ns.take I) ++ nrow (ns.drop I)) := by show _ = _; rw [← nrow_append, List.take_append_drop]
  have HLA : Hid ((nrow (ns.take I)).length = I * 7) := by show _ = _; rw [nrow_length, List.length_take]; omega
  have HLB : Hid ((nrow (ns.drop I)).length = (ns.length - I) * 7) := by show _ = _; rw [nrow_length, List.length_drop]
  have hr := run_append_zeros7 (P := Tryz.prog) (w := w) 37 3 37 70 i0 _ .i64 .i64 Tryz.underlying37 Tryz.underlying3 hi hz0 g I c (ns.length + 1 - I) (nrow (ns.take I)) (by rw [hz1]; exact HLA.out) ?h1 (by omega) (by omega) (by omega) (by omega) (by omega)
  case h1 =>
    intro j u hu
    rw [Addr.add_lit, cell_of_row w g _ _ _ (0, 0) HG.out, List.getElem?_toArray, HNS.out, List.append_assoc, Nat.zero_add, List.getElem?_append_left (List.getElem?_eq_some_iff.1 hu).1]
    exact hu
  rw [show I + (ns.length + 1 - I) = ns.length + 1 by omega, show ((ns.length + 1 - I : Nat) : Int) = ((ns.length : Int) + 1 - (I : Int)) by omega] at hr
  have hge := grownCap_ge w (ns.length + 1) c 70
  have hgm := grownCap_le_maxLen w (ns.length + 1) c 70 (by unfold maxLen; omega)
  generalize grownCap w (ns.length + 1) c 70 = cap2 at *
  obtain ⟨Z, hZ⟩ : ∃ Z : List Value, Z = (Builtin.zeroCells (Value.agg #[.string ByteArray.empty, .string ByteArray.empty, .int .i64 0, .int .i64 0, .int .i64 0, .int .i64 0, .int .i64 0]).cells (ns.length + 1 - I)).toList ++ (Builtin.zeroCells (Value.agg #[.string ByteArray.empty, .string ByteArray.empty, .int .i64 0, .int .i64 0, .int .i64 0, .int .i64 0, .int .i64 0]).cells (cap2 - (ns.length + 1))).toList := ⟨_, rfl⟩
  have hZl : Hid (Z.length = (cap2 - I) * 7) := by
    show _ = _
    rw [hZ]
    simp only [List.length_append, Array.length_toList, size_zeroCells]
    show (ns.length + 1 - I) * 7 + (cap2 - (ns.length + 1)) * 7 = _
    omega
  obtain ⟨w2, hw2⟩ : ∃ w2, w2 = w.drew.alloc (.cells ((nrow (ns.take I)).toArray ++ Builtin.zeroCells (Value.agg #[.string ByteArray.empty, .string ByteArray.empty, .int .i64 0, .int .i64 0, .int .i64 0, .int .i64 0, .int .i64 0]).cells (ns.length + 1 - I) ++ Builtin.zeroCells (Value.agg #[.string ByteArray.empty, .string ByteArray.empty, .int .i64 0, .int .i64 0, .int .i64 0, .int .i64 0, .int .i64 0]).cells (cap2 - (ns.length + 1))) 70) := ⟨_, rfl⟩
  rw [← hw2] at hr
  have HG2 : Hid (w2.heap[w.heap.size]? = some (.cells (nrow (ns.take I) ++ Z).toArray 70 (0, 0))) := by
    show _ = _
    rw [hw2, hZ]
    refine (heap_alloc_new w.drew _).trans ?_
    congr 2
    apply Array.ext'
    simp
  have B2 : Hid (Below w.heap.size w w2) := by rw [hw2]; exact (below_drewN' w 1).alloc (Nat.le_refl _) _
  clear hw2 hZ
  have hcI : ¬ cap2 = I := by omega
  have hmin : Nat.min 1 (ns.length + 1 - I) = 1 := Nat.min_eq_left (by omega)
  have hbl : b < w.heap.size := (Array.getElem?_eq_some_iff.1 HB.out).1
  have hgl : g < w.heap.size := (Array.getElem?_eq_some_iff.1 HG.out).1
  have hr2 := run_copy7 (P := Tryz.prog) (w := w2) 37 37 3 70 i0 w.heap.size (I * 7) (ns.length + 1 - I) (cap2 - I) ⟨b, 0, none⟩ 1 1 _ 70 (ndL m) Tryz.underlying37 hi HG2.out (by rw [hmin, hz1]; rfl) (fun j u hu => by rw [B2.out.cell (p := (⟨b, 0, none⟩ : Addr).add j) (by rw [Addr.add_lit]; exact hbl)]; exact HCB.out j u hu) (by
    rw [List.size_toArray, List.length_append, HLA.out, hZl.out, show (ndL m).length = 7 from rfl]; omega) (ndL_one7 m)
  rw [hmin] at hr2
  obtain ⟨R, hR⟩ : ∃ R : List Value, R = (nrow (ns.take I) ++ Z).drop (I * 7 + (ndL m).length) := ⟨_, rfl⟩
  have HRl : Hid (R.length = (cap2 - (I + 1)) * 7) := by
    show _ = _
    rw [hR, List.length_drop, List.length_append, HLA.out, hZl.out, show (ndL m).length = 7 from rfl]; omega
  have hcur : (List.take (I * 7) (nrow (List.take I ns) ++ Z).toArray.toList ++ ndL m ++ List.drop (I * 7 + (ndL m).length) (nrow (List.take I ns) ++ Z).toArray.toList) = nrow (ns.take I) ++ ndL m ++ R := by
    rw [hR]
    congr 2
    show List.take (I * 7) (nrow (ns.take I) ++ Z) = _
    rw [← HLA.out, List.take_left]
  rw [hcur] at hr2
  have HG3 := hd9 (setRow_heap w2 w.heap.size _ (nrow (ns.take I) ++ ndL m ++ R).toArray 70 (0, 0) HG2.out)
  have B3 : Hid (Below w.heap.size w (w2.setRow w.heap.size (nrow (ns.take I) ++ ndL m ++ R).toArray)) := below_setRow9 B2.out (Nat.le_refl _) _
  clear hcur hR
  generalize w2.setRow w.heap.size _ = w3 at *
  go_wp2_with (first | (at_builtin; go_must (refine Lib.wpList_append_run _ rfl _ _ _ _ rfl _ _ rfl rfl _ _ hr ?_)) | (at_builtin; go_must (refine wpList_copyR rfl _ _ _ _ rfl _ _ rfl rfl _ _ hr2 ?_)))
  have hcI1 : ¬ cap2 = I + 1 := by omega
  have hA1 : (0 : Int) ≤ (I : Int) + 1 := by omega
  have hA2 : (I : Int) + 1 ≤ (ns.length : Int) + 1 := by omega
  have D3 : Hid (Below w.heap.size w w3.drew) := B3.out.trans ((below_drewN' w3 1).mono B3.out.size)
  have HG4 : Hid (w3.drew.heap[w.heap.size]? = some (.cells (nrow (ns.take I) ++ ndL m ++ R).toArray 70 (0, 0))) := HG3.out
  clear hr hr2
  refine wp_region_held_drew (S := fun W => True) (by kernel_rfl) trivial (fun hHeld => ?_)
  generalize w3.drew = w4 at *
  have hw9 : IntKind.i64.wrap ((I : Int) + 1) = (I : Int) + 1 := by rw [IntKind.wrap_i64]; omega
  iterate 3 (refine tkI9 ?_ (by kernel_rfl) (fun _ => id) hHeld ?_ ?_; rotate_left; · intro w9 hS9; clear hS9; go_simp; try with_reducible rfl)
  refine tkI9 (.int .i64 ((I : Int) + 1)) (by kernel_rfl) (fun _ => id) hHeld ?_ ?_
  · intro w9 hS9; clear hS9; go_simp; try rw [hw9]
  refine tkI9 (.slice (some ⟨w.heap.size, (I + 1) * 7, none⟩) (ns.length - I) (cap2 - (I + 1))) (by kernel_rfl) (fun _ => id) hHeld ?_ ?_
  · intro w9 hS9; clear hS9; go_simp
  iterate 3 (refine tkI9 ?_ (by kernel_rfl) (fun _ => id) hHeld ?_ ?_; rotate_left; · intro w9 hS9; clear hS9; go_simp; try with_reducible rfl)
  refine rdA9 8 rfl (by kernel_rfl) (fun K hK => ?_)
  rw [if_pos (by kernel_rfl)]
  have hmin2 : Nat.min (ns.length - I) (ns.length - I) = ns.length - I := Nat.min_self _
  have hr3 := run_copy7 (P := Tryz.prog) (w := w4) 37 37 3 70 i0 w.heap.size ((I + 1) * 7) (ns.length - I) (cap2 - (I + 1)) ⟨g, I * 7, none⟩ (ns.length - I) (c - I) _ 70 (nrow (ns.drop I)) Tryz.underlying37 hi HG4.out (by rw [hmin2, hz1]; exact HLB.out) (fun j u hu => by
    rw [D3.out.cell (p := (⟨g, I * 7, none⟩ : Addr).add j) (by rw [Addr.add_lit]; exact hgl), Addr.add_lit, cell_of_row w g _ _ _ (0, 0) HG.out, List.getElem?_toArray, HNS.out, List.append_assoc, List.getElem?_append_right (by rw [HLA.out]; omega), HLA.out, show I * 7 + j - I * 7 = j by omega, List.getElem?_append_left (List.getElem?_eq_some_iff.1 hu).1]
    exact hu) (by
    rw [HLB.out, List.size_toArray, List.length_append, List.length_append, HLA.out, HRl.out, show (ndL m).length = 7 from rfl]; omega) (nrow_one7 _)
  rw [hmin2] at hr3
  refine wp_copyR (.tmp 50) (.tmp 53) _ _ (by kernel_rfl) _ _ (by kernel_rfl) (by kernel_rfl) _ _ hr3 ?_
  refine hK.out _ _ trivial (fun hHeld => ?_)
  clear hK K hr3
  have HLC : Hid ((nrow (ns.take I) ++ ndL m).length = (I + 1) * 7) := by show _ = _; rw [List.length_append, HLA.out, show (ndL m).length = 7 from rfl]; omega
  have HFN : Hid (∀ Y : List Value, List.take ((I + 1) * 7) (nrow (ns.take I) ++ ndL m ++ R).toArray.toList ++ nrow (ns.drop I) ++ Y = nrow (ns.take I ++ m :: ns.drop I) ++ Y) := fun Y => by
    show List.take ((I + 1) * 7) (nrow (ns.take I) ++ ndL m ++ R) ++ nrow (ns.drop I) ++ Y = _
    rw [← HLC.out, List.take_left, nrow_append, nrow_cons]
    simp only [List.append_assoc]
  have HG5 := hd9 (setRow_heap w4 w.heap.size _ (List.take ((I + 1) * 7) (nrow (ns.take I) ++ ndL m ++ R).toArray.toList ++ nrow (ns.drop I) ++ List.drop ((I + 1) * 7 + (nrow (ns.drop I)).length) (nrow (ns.take I) ++ ndL m ++ R).toArray.toList).toArray 70 (0, 0) HG4.out)
  have B5 : Hid (Below w.heap.size w (w4.setRow w.heap.size (List.take ((I + 1) * 7) (nrow (ns.take I) ++ ndL m ++ R).toArray.toList ++ nrow (ns.drop I) ++ List.drop ((I + 1) * 7 + (nrow (ns.drop I)).length) (nrow (ns.take I) ++ ndL m ++ R).toArray.toList).toArray)) := below_setRow9 D3.out (Nat.le_refl _) _
  generalize w4.setRow w.heap.size _ = w5 at *
  rw [HFN.out] at HG5
  refine wpAnyH_done (by kernel_rfl) ?_ _
  simp only [Act.put, sT9, sZ9, sS9]
  clear hHeld HFN
  have HRL : Hid ((ns.take I ++ m :: ns.drop I).length = ns.length + 1) := by show _ = _; simp only [List.length_append, List.length_take, List.length_cons, List.length_drop]; omega
  go_wp2
  refine bodyPost_ret (v := .slice (some ⟨w.heap.size, 0, none⟩) (ns.length + 1) cap2) (by simp [results, Tryz.results89, go_sem]) rfl ⟨w.heap.size, cap2, by rw [HRL.out], ?_, fun q => ⟨B5.out.os, B5.out.tape, B5.out.output, B5.out.size, fun k hk _ _ => B5.out.block k hk, .inr (.inr ⟨_, rfl, Nat.le_refl _⟩)⟩⟩
  refine OwnN.of9 hlo (by rw [HRL.out]; exact hge) hgm HG5.out ?_
  rw [List.length_append, nrow_length, HRL.out, List.length_drop, HLB.out]
  show (ns.length + 1) * 7 + ((nrow (ns.take I) ++ ndL m ++ R).length - _) = _
  rw [List.length_append, HLC.out, HRl.out]
  omega


set_option linter.unusedSimpArgs false in
set_option maxHeartbeats 2000000 in
set_option maxRecDepth 100000 in
theorem insert_room (w : World) (lo g c b : Nat) (ns : List Nd) (I : Nat) (m : Nd) (h : OwnN 70 w lo (.slice (some ⟨g, 0, none⟩) ns.length c) ns) (hI : I < ns.length) (hn : ns.length < 1000) (hc : ns.length + 1 ≤ c) (hbg : b ≠ g) (hb : w.heap[b]? = some (.cells (ndL m).toArray 70 (0, 0))) :
    Calls Tryz.prog 89 #[.slice (some ⟨g, 0, none⟩) ns.length c, .int .i64 (I : Int), .slice (some ⟨b, 0, none⟩) 1 1] w (InsP w lo g (ns.take I ++ m :: ns.drop I)) := by
  obtain ⟨i0, hi, hz0, hz1, hz2⟩ := info_parts Tryz.infoN
  obtain ⟨hlg, hnc, hcm, X, hg, hX⟩ := h.row9
  have hI0 : (0 : Int) ≤ (I : Int) := by omega
  have hI2 : (I : Int) ≤ (ns.length : Int) := by omega
  have hI3 : ¬ (I : Int) = (ns.length : Int) := by omega
  have hI4 : ¬ (c : Int) < (ns.length : Int) + 1 := by omega
  have hI5 : (ns.length : Int) + 1 ≤ (c : Int) := by omega
  have hI6 : (0 : Int) ≤ (ns.length : Int) + 1 := by omega
  have hIc : I ≤ c := by omega
  have hIc2 : ¬ c = I := by omega
  have hIc3 : ¬ c = I + 1 := by omega
  have hA1 : (0 : Int) ≤ (I : Int) + 1 := by omega
  have hA2 : (I : Int) + 1 ≤ (ns.length : Int) + 1 := by omega
  have hA3 : ¬ (ns.length : Int) + 1 < (I : Int) := by omega
  have HG := hd9 hg
  have HX := hd9 hX
  have HB := hd9 hb
  clear h hg hX hb
  have HCB : Hid (∀ j u, (ndL m)[j]? = some u → w.cell? ((⟨b, 0, none⟩ : Addr).add j) = some u) := fun j u hu => by
    rw [Addr.add_lit, cell_of_row w b _ _ _ (0, 0) HB.out, List.getElem?_toArray, Nat.zero_add]
    exact hu
  have HNS : Hid (nrow ns = nrow (ns.take I) ++ nrow (ns.drop I)) := by show _ = _; rw [← nrow_append, List.take_append_drop]
  have HLA : Hid ((nrow (ns.take I)).length = I * 7) := by show _ = _; rw [nrow_length, List.length_take]; omega
  have HLB : Hid ((nrow (ns.drop I)).length = (ns.length - I) * 7) := by show _ = _; rw [nrow_length, List.length_drop]
  have hsz7 : ∀ w, (Go.sizeOf 70).run Tryz.prog w = .ok 7 w := fun w => by simp [Go.sizeOf, typeInfo, hi, hz1]
  have hov : ∀ lb cb, (callFunc 105 #[.slice (some ⟨b, 0, none⟩) 1 1, .slice (some ⟨g, (I + 1) * 7, none⟩) lb cb]).run Tryz.prog w = .ok (.value (.bool false)) w := fun lb cb => by
    rw [run_callFunc_extern Tryz.func105 (by kernel_rfl) (by kernel_rfl) (by kernel_rfl) (e := Extern.SlicesOverlaps.overlaps #[37, 37] #[4]) (by kernel_rfl),
      Lib.run_overlaps_apart w 37 4 70 Tryz.underlying37 7 hsz7 ⟨b, 0, none⟩ ⟨g, (I + 1) * 7, none⟩ 1 1 lb cb hbg 70 70 7 (c * 7) (by simp [World.shape?, HB.out]; rfl) (by have := HX.out; simp [World.shape?, HG.out]; simpa using this) (by omega) (frozen_of_row w b _ _ _ HB.out) (frozen_of_row w b _ _ _ HB.out)]
    rfl
  go_enter Tryz.func89, Tryz.ntmps89
  go_wp2_with fail
  clear hov
  have D1 : Hid (Below w.heap.size w w.drew) := below_drewN' w 1
  have hgl : g < w.heap.size := (Array.getElem?_eq_some_iff.1 HG.out).1
  have hbl : b < w.heap.size := (Array.getElem?_eq_some_iff.1 HB.out).1
  have HG1 : Hid (w.drew.heap[g]? = some (.cells (nrow ns ++ X).toArray 70 (0, 0))) := HG.out
  refine wp_region_held_drew (S := fun W => True) (by kernel_rfl) trivial (fun hHeld => ?_)
  generalize w.drew = w1 at *
  have hw9 : IntKind.i64.wrap ((I : Int) + 1) = (I : Int) + 1 := by rw [IntKind.wrap_i64]; omega
  iterate 3 (refine tkI9 ?_ (by kernel_rfl) (fun _ => id) hHeld ?_ ?_; rotate_left; · intro w9 hS9; clear hS9; go_simp; try with_reducible rfl)
  refine tkI9 (.int .i64 ((I : Int) + 1)) (by kernel_rfl) (fun _ => id) hHeld ?_ ?_
  · intro w9 hS9; clear hS9; go_simp; try rw [hw9]
  refine tkI9 (.slice (some ⟨g, (I + 1) * 7, none⟩) (ns.length - I) (c - (I + 1))) (by kernel_rfl) (fun _ => id) hHeld ?_ ?_
  · intro w9 hS9; clear hS9; go_simp
  iterate 2 (refine tkI9 ?_ (by kernel_rfl) (fun _ => id) hHeld ?_ ?_; rotate_left; · intro w9 hS9; clear hS9; go_simp; try with_reducible rfl)
  refine tkI9 (.slice (some ⟨g, I * 7, none⟩) (ns.length + 1 - I) (c - I)) (by kernel_rfl) (fun _ => id) hHeld ?_ ?_
  · intro w9 hS9; clear hS9; go_simp
  refine rdA9 8 rfl (by kernel_rfl) (fun K hK => ?_)
  rw [if_pos (by kernel_rfl)]
  have hmin2 : Nat.min (ns.length + 1 - I) (ns.length - I) = ns.length - I := Nat.min_eq_right (by omega)
  obtain ⟨R, hR⟩ : ∃ R : List Value, R = (nrow ns ++ X).drop ((ns.length + 1) * 7) := ⟨_, rfl⟩
  have HRl : Hid (R.length = (c - (ns.length + 1)) * 7) := by
    show _ = _
    have := HX.out
    rw [hR, List.length_drop]
    omega
  have hr1 := run_copy7 (P := Tryz.prog) (w := w1) 37 37 3 70 i0 g ((I + 1) * 7) (ns.length - I) (c - (I + 1)) ⟨g, I * 7, none⟩ (ns.length + 1 - I) (c - I) _ 70 (nrow (ns.drop I)) Tryz.underlying37 hi HG1.out (by rw [hmin2, hz1]; exact HLB.out) (fun j u hu => by
    rw [Addr.add_lit, cell_of_row w1 g _ _ _ (0, 0) HG1.out, List.getElem?_toArray, HNS.out, List.append_assoc, List.getElem?_append_right (by rw [HLA.out]; omega), HLA.out, show I * 7 + j - I * 7 = j by omega, List.getElem?_append_left (List.getElem?_eq_some_iff.1 hu).1]
    exact hu) (by
    have := HX.out
    rw [HLB.out, List.size_toArray]; omega) (nrow_one7 _)
  rw [hmin2] at hr1
  obtain ⟨Q7, hQ7⟩ : ∃ Q7 : List Value, (nrow ns ++ X).take ((I + 1) * 7) = nrow (ns.take I) ++ Q7 ∧ Q7.length = 7 := by
    refine ⟨((nrow ns ++ X).take ((I + 1) * 7)).drop (I * 7), ?_, ?_⟩
    · have e : nrow (ns.take I) = ((nrow ns ++ X).take ((I + 1) * 7)).take (I * 7) := by
        rw [List.take_take, Nat.min_eq_left (by omega), HNS.out, List.append_assoc, ← HLA.out, List.take_left]
      conv => rhs; rw [e]
      exact (List.take_append_drop _ _).symm
    · have := HX.out
      rw [List.length_drop, List.length_take]
      omega
  have hcur : List.take ((I + 1) * 7) (nrow ns ++ X).toArray.toList ++ nrow (List.drop I ns) ++ List.drop ((I + 1) * 7 + (nrow (List.drop I ns)).length) (nrow ns ++ X).toArray.toList = nrow (ns.take I) ++ Q7 ++ nrow (ns.drop I) ++ R := by
    rw [hR, HLB.out, show (I + 1) * 7 + (ns.length - I) * 7 = (ns.length + 1) * 7 by omega]
    show List.take ((I + 1) * 7) (nrow ns ++ X) ++ _ ++ _ = _
    rw [hQ7.1]
  rw [hcur] at hr1
  refine wp_copyR (.tmp 73) (.tmp 76) _ _ (by kernel_rfl) _ _ (by kernel_rfl) (by kernel_rfl) _ _ hr1 ?_
  refine hK.out _ _ trivial (fun hHeld => ?_)
  clear hK K hr1 hcur hR
  have HQ := hd9 hQ7.2
  clear hQ7
  have HG2 := hd9 (setRow_heap w1 g _ (nrow (ns.take I) ++ Q7 ++ nrow (ns.drop I) ++ R).toArray 70 (0, 0) HG1.out)
  have T2 : Hid (∀ q, Tw w q (some g) (w1.setRow g (nrow (ns.take I) ++ Q7 ++ nrow (ns.drop I) ++ R).toArray) (some g)) := fun q => (Tw.ofBelow D1.out q (some g)).row
  generalize w1.setRow g _ = w2 at *
  refine wpAnyH_done (by kernel_rfl) ?_ _
  simp only [Act.put, sT9, sZ9, sS9]
  clear hHeld
  have hmin : Nat.min 1 (ns.length + 1 - I) = 1 := Nat.min_eq_left (by omega)
  have hr2 := run_copy7 (P := Tryz.prog) (w := w2) 37 37 3 70 i0 g (I * 7) (ns.length + 1 - I) (c - I) ⟨b, 0, none⟩ 1 1 _ 70 (ndL m) Tryz.underlying37 hi HG2.out (by rw [hmin, hz1]; rfl) (fun j u hu => by
    refine (World.cell?_of_block (w := w) (a := (⟨b, 0, none⟩ : Addr).add j) ?_).trans (HCB.out j u hu)
    rw [Addr.add_lit]
    exact (T2.out g).block b hbl hbg (fun e => hbg (Option.some.inj e).symm)) (by
    rw [List.size_toArray, List.length_append, List.length_append, List.length_append, HLA.out, HQ.out, HLB.out, HRl.out, show (ndL m).length = 7 from rfl]; omega) (ndL_one7 m)
  rw [hmin] at hr2
  have hcur : List.take (I * 7) (nrow (ns.take I) ++ Q7 ++ nrow (ns.drop I) ++ R).toArray.toList ++ ndL m ++ List.drop (I * 7 + (ndL m).length) (nrow (ns.take I) ++ Q7 ++ nrow (ns.drop I) ++ R).toArray.toList = nrow (ns.take I ++ m :: ns.drop I) ++ R := by
    show List.take (I * 7) (nrow (ns.take I) ++ Q7 ++ nrow (ns.drop I) ++ R) ++ ndL m ++ List.drop (I * 7 + 7) (nrow (ns.take I) ++ Q7 ++ nrow (ns.drop I) ++ R) = _
    have hD : List.drop (I * 7 + 7) (nrow (ns.take I) ++ Q7) = [] := List.drop_of_length_le (by rw [List.length_append, HLA.out, HQ.out]; omega)
    have hT : List.take (I * 7) (nrow (ns.take I) ++ (Q7 ++ (nrow (ns.drop I) ++ R))) = nrow (ns.take I) := by rw [← HLA.out, List.take_left]
    rw [nrow_append, nrow_cons, List.append_assoc (nrow (ns.take I) ++ Q7), List.drop_append_of_le_length (by rw [List.length_append, HLA.out, HQ.out]; omega), hD, List.append_assoc (nrow (ns.take I)), hT]
    simp only [List.append_assoc, List.nil_append]
  rw [hcur] at hr2
  have HG3 := hd9 (setRow_heap w2 g _ (nrow (ns.take I ++ m :: ns.drop I) ++ R).toArray 70 (0, 0) HG2.out)
  have T3 : Hid (∀ q, Tw w q (some g) (w2.setRow g (nrow (ns.take I ++ m :: ns.drop I) ++ R).toArray) (some g)) := fun q => (T2.out q).row
  clear hcur
  generalize w2.setRow g _ = w3 at *
  have HRL : Hid ((ns.take I ++ m :: ns.drop I).length = ns.length + 1) := by show _ = _; simp only [List.length_append, List.length_take, List.length_cons, List.length_drop]; omega
  go_wp2_with (at_builtin; go_must (refine wpList_copyR rfl _ _ _ _ rfl _ _ rfl rfl _ _ hr2 ?_))
  refine bodyPost_ret (v := .slice (some ⟨g, 0, none⟩) (ns.length + 1) c) (by simp [results, Tryz.results89, go_sem]) rfl ⟨g, c, by rw [HRL.out], ?_, T3.out⟩
  refine OwnN.of9 hlg (by rw [HRL.out]; exact hc) hcm HG3.out ?_
  rw [List.length_append, nrow_length, HRL.out, HRl.out]
  omega

theorem insert_any (w : World) (lo g c b : Nat) (ns : List Nd) (I : Nat) (m : Nd) (h : OwnN 70 w lo (.slice (some ⟨g, 0, none⟩) ns.length c) ns) (h0 : 0 < ns.length) (hI : I ≤ ns.length) (hn : ns.length < 1000) (hbg : b ≠ g) (hb : w.heap[b]? = some (.cells (ndL m).toArray 70 (0, 0))) (hlo : lo ≤ w.heap.size) :
    Calls Tryz.prog 89 #[.slice (some ⟨g, 0, none⟩) ns.length c, .int .i64 (I : Int), .slice (some ⟨b, 0, none⟩) 1 1] w (InsP w lo g (ns.take I ++ m :: ns.drop I)) := by
  by_cases hE : I = ns.length
  · subst hE
    rw [List.take_length, List.drop_length]
    exact insert_end w lo g c b ns m h h0 hn hb hlo
  · rcases Nat.lt_or_ge c (ns.length + 1) with hc | hc
    · exact insert_grow w lo g c b ns I m h (by omega) hn hc hb hlo
    · exact insert_room w lo g c b ns I m h (by omega) hn hc hbg hb

end Go.Proofs.YtejhcebodlcloaaGreatDoor


