import Derived.Test.YtdiingonnddkcaaGreatDoorJ25
import Derived.Deep.CutRange
import Derived.Test.YtdiingonnddkcaaGreatDoorJ18
namespace Go.Proofs.YtdiingonnddkcaaGreatDoor
open Go.RowKit Go.Shelf

/-- One operation in a slice of its own. -/
theorem rdO_oneR {w : World} {g : Nat} {o : Op5} {A : Array Value} {t : TypeId} (h : w.heap[g]? = some (.cells A t (0, 0))) (hA : A = #[.int .i64 o.kind, .string o.path, .string o.data, .int .i64 o.ver, .bool o.seq]) : RdO w (.slice (some ⟨g, 0, none⟩) 1 1) [o] := by
  subst hA
  refine ⟨some ⟨g, 0, none⟩, 1, rfl, Nat.le_refl _, by unfold maxLen; omega, .inr ⟨g, 0, rfl, (Array.getElem?_eq_some_iff.1 h).1, fun i hi => ?_⟩⟩
  have : i = 0 := by simpa using hi
  subst this
  exact ⟨(cell_of h _).trans rfl, (cell_of h _).trans rfl, (cell_of h _).trans rfl, (cell_of h _).trans rfl, (cell_of h _).trans rfl⟩

theorem ba_listR (p : ByteArray) : p.toList = p.data.toList := by
  cases p with
  | mk a =>
    cases a with
    | mk l =>
      have e : (⟨l.toArray⟩ : ByteArray).toList = l := by simp
      exact e
theorem rdN_cellsR {W : World} {b o c : Nat} {ns : List Nd} (h : RdN W (.slice (some ⟨b, o, none⟩) ns.length c) ns) {i : Nat} (hi : i < ns.length) : CellsN W b (o + i * 7) (nAt ns i) := by
  obtain ⟨ao, cap, e, -, -, h3⟩ := h
  simp only [Value.slice.injEq] at e
  obtain ⟨rfl, -, -⟩ := e
  rcases h3 with h3 | ⟨b', off', e', -, hc⟩
  · rw [h3] at hi; simp at hi
  · simp only [Option.some.injEq, Addr.mk.injEq, and_true] at e'
    obtain ⟨rfl, rfl⟩ := e'
    exact hc i hi

/-- Three operations in a slice of their own. -/
theorem rdO_three {w : World} {g : Nat} {o o' o'' : Op5} {A : Array Value} {t : TypeId} (h : w.heap[g]? = some (.cells A t (0, 0))) (hA : A = #[.int .i64 o.kind, .string o.path, .string o.data, .int .i64 o.ver, .bool o.seq, .int .i64 o'.kind, .string o'.path, .string o'.data, .int .i64 o'.ver, .bool o'.seq, .int .i64 o''.kind, .string o''.path, .string o''.data, .int .i64 o''.ver, .bool o''.seq]) : RdO w (.slice (some ⟨g, 0, none⟩) 3 3) [o, o', o''] := by
  subst hA
  refine ⟨some ⟨g, 0, none⟩, 3, rfl, Nat.le_refl _, by unfold maxLen; omega, .inr ⟨g, 0, rfl, (Array.getElem?_eq_some_iff.1 h).1, fun i hi => ?_⟩⟩
  have : i = 0 ∨ i = 1 ∨ i = 2 := by simp at hi; omega
  rcases this with rfl | rfl | rfl
  · exact ⟨(cell_of h _).trans rfl, (cell_of h _).trans rfl, (cell_of h _).trans rfl, (cell_of h _).trans rfl, (cell_of h _).trans rfl⟩
  · exact ⟨(cell_of h _).trans rfl, (cell_of h _).trans rfl, (cell_of h _).trans rfl, (cell_of h _).trans rfl, (cell_of h _).trans rfl⟩
  · exact ⟨(cell_of h _).trans rfl, (cell_of h _).trans rfl, (cell_of h _).trans rfl, (cell_of h _).trans rfl, (cell_of h _).trans rfl⟩

/-- A request in the box of the answer. -/
theorem reqPost {w X : World} {a : Act} {x : Value} {os : List Op5} {g k : Nat} {cur : Array Value} (hB : Below w.heap.size w X) (hY : Boxed X (w.heap.size + 1) 28 x) (hR : RdO X (.slice (some ⟨g, 0, none⟩) k k) os) (hg : X.heap[g]? = some (.cells cur 40 (0, 0))) (h1 : 1 ≤ os.length) (h3 : os.length ≤ 3) (hS : SzQ os) (ha : a.tmps[6]? = some (.pointer (some ⟨w.heap.size + 1, 0, none⟩)) := by rfl) (hd : a.defers = [] := by rfl) (hk : os.length = k := by rfl) :
    bodyPost Tryz.prog Tryz.f19 (fun e w' => ∃ u os, e = .returned (.agg #[u]) ∧ RdO w' u os ∧ (∃ g cur, u = .slice (some ⟨g, 0, none⟩) os.length os.length ∧ w'.heap[g]? = some (.cells cur 40 (0, 0))) ∧ 1 ≤ os.length ∧ os.length ≤ 3 ∧ SzQ os ∧ Below w.heap.size w w') .ret a (X.setCell ⟨w.heap.size + 1, 0, none⟩ (.slice (some ⟨g, 0, none⟩) k k)) := by
  have c0 : (X.setCell ⟨w.heap.size + 1, 0, none⟩ (.slice (some ⟨g, 0, none⟩) k k)).cell? ⟨w.heap.size + 1, 0, none⟩ = some (.slice (some ⟨g, 0, none⟩) k k) := World.cell?_setCell_same _ _ _ hY.cell
  have hne : g ≠ w.heap.size + 1 := fun e => by
    have h9 : X.heap[w.heap.size + 1]? = some (.cells #[x] 28) := hY
    rw [← e, hg] at h9
    injection h9 with h9
    injection h9 with _ h9
    cases h9
  refine bodyPost_ret (v := .agg #[.slice (some ⟨g, 0, none⟩) k k]) (by simp [results, Tryz.results19, go_sem, c0, ha]) hd ⟨_, _, rfl, rdO_box hR hY _, ⟨g, cur, by rw [hk], (Below.heap_setCell _ _ _ _ hne).trans hg⟩, h1, h3, hS, hB.setCell (by show _ ≤ _ + 1; omega) _⟩

set_option linter.unusedSimpArgs false in
set_option maxHeartbeats 8000000 in
set_option maxRecDepth 100000 in
theorem lwReq_any (w : World) (v : Value) (ns : List Nd) (hr : RdN w v ns) (hne : 0 < ns.length) (hnl : ns.length ≤ 2000) (hok : ∀ m ∈ ns, okNd m = true) (vm : Value) (ms : List Int) (hm : Rd .u8 w vm ms) (hbm : Byt ms) (hml : ms.length ≤ 1048576) (i : Nat) (hi : i < 90) :
    Calls Tryz.prog 19 #[.agg #[v], vm, .int .i64 (i : Int)] w fun e w' => ∃ u os, e = .returned (.agg #[u]) ∧ RdO w' u os ∧ (∃ g cur, u = .slice (some ⟨g, 0, none⟩) os.length os.length ∧ w'.heap[g]? = some (.cells cur 40 (0, 0))) ∧ 1 ≤ os.length ∧ os.length ≤ 3 ∧ SzQ os ∧ Below w.heap.size w w' := by
  obtain ⟨ma, mc, rfl, -⟩ := hm.len
  obtain ⟨tb, tf, cv, rfl⟩ : ∃ b o c, v = .slice (some ⟨b, o, none⟩) ns.length c := by
    obtain ⟨ao, cap, e, -, -, h3⟩ := hr
    rcases h3 with h3 | ⟨b', off', rfl, -, -⟩
    · rw [h3] at hne; simp at hne
    · exact ⟨_, _, _, e⟩
  have HOK := hd9 hok
  have HAT : Hid (∀ W, Below w.heap.size w W → ∀ j n : Nat, j ≤ 1000 → n ≤ 2000 → Calls Tryz.prog 10 #[.slice ma ms.length mc, .int .i64 (j : Int), .int .i64 (n : Int)] W fun e w' => ∃ r : Nat, e = .returned (.int .i64 (r : Int)) ∧ (1 ≤ n → r < n) ∧ Below W.heap.size W w') := fun W hW j n hj hn => lwAt_any W _ ms j n (hm.below hW) hbm (by omega) (by omega) hml
  have bA1 : Below w.heap.size w (w.alloc (.cells #[.slice (some ⟨tb, tf, none⟩) ns.length cv] 25)) := (Below.refl _ _).alloc (Nat.le_refl _) _
  have bA2 : Below (w.alloc (.cells #[.slice (some ⟨tb, tf, none⟩) ns.length cv] 25)).heap.size (w.alloc (.cells #[.slice (some ⟨tb, tf, none⟩) ns.length cv] 25)) ((w.alloc (.cells #[.slice (some ⟨tb, tf, none⟩) ns.length cv] 25)).alloc (.cells #[.slice none 0 0] 28)) := (Below.refl _ _).alloc (Nat.le_refl _) _
  have hs1 : (w.alloc (.cells #[.slice (some ⟨tb, tf, none⟩) ns.length cv] 25)).heap.size = w.heap.size + 1 := by simp
  have bA := bA1.trans (bA2.mono bA1.size)
  have X3 := hd9 (boxed_below bA2 (Boxed.new w 25 (.slice (some ⟨tb, tf, none⟩) ns.length cv)))
  have Y3' := Boxed.new (w.alloc (.cells #[.slice (some ⟨tb, tf, none⟩) ns.length cv] 25)) 28 (.slice none 0 0)
  rw [hs1] at Y3'
  have Y3 := hd9 Y3'
  have B3 := hd9 bA
  have RD3 := hd9 (hr.below bA)
  clear bA1 bA2 hs1 bA Y3' hr hm hbm hok
  go_enter Tryz.func19, Tryz.ntmps19
  go_upto_region 1 with fail
  generalize (w.alloc (.cells #[.slice (some ⟨tb, tf, none⟩) ns.length cv] 25)).alloc (.cells #[.slice none 0 0] 28) = w3 at *
  go_cut [7] from 11 to 20 (fun v7 wx => ∃ NB r : Nat, v7 = .pointer (some ⟨NB, 0, none⟩) ∧ r < ns.length ∧ Hid (St wx NB [.string (nAt ns r).path, .string (nAt ns r).data, .int .i64 (nAt ns r).ver, .int .i64 (nAt ns r).cver, .int .i64 (nAt ns r).cz, .int .i64 (nAt ns r).mz, .int .i64 (nAt ns r).pz]) ∧ Hid (Boxed wx (w.heap.size + 1) 28 (.slice none 0 0)) ∧ Hid (Below w.heap.size w wx))
  case first =>
    have bD : Below w3.heap.size w3 w3.drew := below_drewN' w3 1
    refine wp_region_held_drew (S := fun W => (Boxed W w.heap.size 25 (.slice (some ⟨tb, tf, none⟩) ns.length cv) ∧ RdN W (.slice (some ⟨tb, tf, none⟩) ns.length cv) ns) ∧ Boxed W (w.heap.size + 1) 28 (.slice none 0 0)) (by kernel_rfl) ⟨⟨boxed_below bD X3.out, RD3.out.below bD⟩, boxed_below bD Y3.out⟩ (fun hHeld => ?_)
    have B0 := hd9 (B3.out.trans (bD.mono B3.out.size))
    clear RD3 B3 X3 Y3 bD
    generalize w3.drew = m0 at *
    refine wpAnyH_take (i := 0) (oi := { dst := some 11, op := _, type := _, pos := _, after := _, guard := _ }) (v := (.pointer (some ⟨w.heap.size, 0, none⟩))) rfl (by kernel_rfl) (by kernel_rfl) (by kernel_rfl) (fun _ _ _ h => h) (Or.inl ⟨by rfl, fun w9 hS9 => by (clear hS9; go_simp; try with_reducible rfl)⟩) (by assumption) ?_
    try simp only [Act.put, List.setIfInBounds_toArray, List.set_cons_zero, List.set_cons_succ]
    refine wpAnyH_take (i := 1) (oi := { dst := some 12, op := _, type := _, pos := _, after := _, guard := _ }) (v := (.slice (some ⟨tb, tf, none⟩) ns.length cv)) rfl (by kernel_rfl) (by kernel_rfl) (by kernel_rfl) (fun _ _ _ h => h) (Or.inl ⟨by rfl, fun w9 hS9 => by (have h9 := Boxed.cell hS9.1.1; clear hS9; go_simp; try with_reducible rfl)⟩) (by assumption) ?_
    try simp only [Act.put, List.setIfInBounds_toArray, List.set_cons_zero, List.set_cons_succ]
    refine wpAnyH_take (i := 2) (oi := { dst := some 13, op := _, type := _, pos := _, after := _, guard := _ }) (v := (.slice ma ms.length mc)) rfl (by kernel_rfl) (by kernel_rfl) (by kernel_rfl) (fun _ _ _ h => h) (Or.inl ⟨by rfl, fun w9 hS9 => by (clear hS9; go_simp; try with_reducible rfl)⟩) (by assumption) ?_
    try simp only [Act.put, List.setIfInBounds_toArray, List.set_cons_zero, List.set_cons_succ]
    refine wpAnyH_take (i := 3) (oi := { dst := some 14, op := _, type := _, pos := _, after := _, guard := _ }) (v := (.int .i64 (i : Int))) rfl (by kernel_rfl) (by kernel_rfl) (by kernel_rfl) (fun _ _ _ h => h) (Or.inl ⟨by rfl, fun w9 hS9 => by (clear hS9; go_simp; try with_reducible rfl)⟩) (by assumption) ?_
    try simp only [Act.put, List.setIfInBounds_toArray, List.set_cons_zero, List.set_cons_succ]
    refine wpAnyH_take (i := 4) (oi := { dst := some 15, op := _, type := _, pos := _, after := _, guard := _ }) (v := (.pointer (some ⟨w.heap.size, 0, none⟩))) rfl (by kernel_rfl) (by kernel_rfl) (by kernel_rfl) (fun _ _ _ h => h) (Or.inl ⟨by rfl, fun w9 hS9 => by (clear hS9; go_simp; try with_reducible rfl)⟩) (by assumption) ?_
    try simp only [Act.put, List.setIfInBounds_toArray, List.set_cons_zero, List.set_cons_succ]
    refine wpAnyH_take (i := 5) (oi := { dst := some 16, op := _, type := _, pos := _, after := _, guard := _ }) (v := (.slice (some ⟨tb, tf, none⟩) ns.length cv)) rfl (by kernel_rfl) (by kernel_rfl) (by kernel_rfl) (fun _ _ _ h => h) (Or.inl ⟨by rfl, fun w9 hS9 => by (have h9 := Boxed.cell hS9.1.1; clear hS9; go_simp; try with_reducible rfl)⟩) (by assumption) ?_
    try simp only [Act.put, List.setIfInBounds_toArray, List.set_cons_zero, List.set_cons_succ]
    refine wpAnyH_take (i := 6) (oi := { dst := some 17, op := _, type := _, pos := _, after := _, guard := _ }) (v := (.int .i64 (ns.length : Int))) rfl (by kernel_rfl) (by kernel_rfl) (by kernel_rfl) (fun _ _ _ h => h) (Or.inl ⟨by rfl, fun w9 hS9 => by (clear hS9; go_simp; try with_reducible rfl)⟩) (by assumption) ?_
    try simp only [Act.put, List.setIfInBounds_toArray, List.set_cons_zero, List.set_cons_succ]
    refine wpAnyH_ready (rs := [7, 10]) (by kernel_rfl) (by simp) ?_
    refine (AllReadyH.cons (o := { dst := some 18, op := _, type := _, pos := _, after := _, guard := _ }) rfl (fun K hK => ?_) (AllReadyH.cons (o := { dst := some 7, op := _, type := _, pos := _, after := _, guard := _ }) rfl (fun K hK => ?_) AllReadyH.nil))
    · go_simp
      refine (HAT.out m0 B0.out i ns.length (by omega) (by omega)).mono ?_
      rintro e m1 ⟨r, rfl, hr, bN⟩
      replace hr := hr (by omega)
      have H9 := (And.intro (And.intro (boxed_below bN hHeld.1.1) (hHeld.1.2.below bN)) (boxed_below bN hHeld.2))
      replace B0 := hd9 (B0.out.trans (bN.mono B0.out.size))
      refine hK.out _ _ H9 (fun hx9 => ?_)
      clear hK K hHeld
      have hHeld := hx9
      clear hx9 H9 bN
      try simp only [Act.put, List.setIfInBounds_toArray, List.set_cons_zero, List.set_cons_succ]
      have hrI : (r : Int) < (ns.length : Int) := by omega
      refine wpAnyH_take (i := 8) (oi := { dst := some 19, op := _, type := _, pos := _, after := _, guard := _ }) (v := (.pointer (some ⟨tb, tf + r * 7, none⟩))) rfl (by kernel_rfl) (by kernel_rfl) (by kernel_rfl) (fun _ _ _ h => h) (Or.inl ⟨by rfl, fun w9 hS9 => by (clear hS9; go_simp; try with_reducible rfl)⟩) (by assumption) ?_
      try simp only [Act.put, List.setIfInBounds_toArray, List.set_cons_zero, List.set_cons_succ]
      refine wpAnyH_take (i := 9) (oi := { dst := some 20, op := _, type := _, pos := _, after := _, guard := _ }) (v := (.agg #[.string (nAt ns r).path, .string (nAt ns r).data, .int .i64 (nAt ns r).ver, .int .i64 (nAt ns r).cver, .int .i64 (nAt ns r).cz, .int .i64 (nAt ns r).mz, .int .i64 (nAt ns r).pz])) rfl (by kernel_rfl) (by kernel_rfl) (by kernel_rfl) (fun _ _ _ h => h) (Or.inl ⟨by rfl, fun w9 hS9 => by (obtain ⟨k0, k1, k2, k3, k4, k5, k6⟩ := rdN_cellsR hS9.1.2 hr; clear hS9; go_simp; try with_reducible rfl)⟩) (by assumption) ?_
      try simp only [Act.put, List.setIfInBounds_toArray, List.set_cons_zero, List.set_cons_succ]
      refine wpAnyH_ready (rs := [10]) (by kernel_rfl) (by simp) ?_
      refine (AllReadyH.cons (o := { dst := some 7, op := _, type := _, pos := _, after := _, guard := _ }) rfl (fun K hK => ?_) AllReadyH.nil)
      have bN : Below m1.heap.size m1 (m1.alloc (.cells #[.string ⟨#[]⟩, .string ⟨#[]⟩, .int .i64 0, .int .i64 0, .int .i64 0, .int .i64 0, .int .i64 0] 42)) := (Below.refl _ _).alloc (Nat.le_refl _) _
      have N0 := hd9 (St.new m1 #[.string ⟨#[]⟩, .string ⟨#[]⟩, .int .i64 0, .int .i64 0, .int .i64 0, .int .i64 0, .int .i64 0] 42)
      have hNB := hHeld.2.lt
      have hNT : ∀ b o n c, (Value.slice (some ⟨tb, tf, none⟩) ns.length cv) = .slice (some ⟨b, o, none⟩) n c → b < m1.heap.size := fun b o n c e => by
        obtain ⟨ao, cap, e2, -, -, h3⟩ := hHeld.1.2
        rcases h3 with h3 | ⟨b', off', e', hlt, -⟩
        · rw [h3] at hne; simp at hne
        · subst e'; rw [e2] at e; cases e; exact hlt
      have H9 := (And.intro (And.intro (boxed_below bN hHeld.1.1) (hHeld.1.2.below bN)) (boxed_below bN hHeld.2))
      replace B0 := hd9 (B0.out.trans (bN.mono B0.out.size))
      go_simp
      refine hK.out _ _ H9 (fun hx9 => ?_)
      clear hK K hHeld
      have hHeld := hx9
      clear hx9 H9 bN
      try simp only [Act.put, List.setIfInBounds_toArray, List.set_cons_zero, List.set_cons_succ]
      generalize m1.alloc (.cells #[.string ⟨#[]⟩, .string ⟨#[]⟩, .int .i64 0, .int .i64 0, .int .i64 0, .int .i64 0, .int .i64 0] 42) = m2 at *
      generalize m1.heap.size = NB at *
      refine wpAnyH_ready (rs := [11]) (by kernel_rfl) (by simp) ?_
      refine (AllReadyH.cons (o := { dst := none, op := _, type := _, pos := _, after := _, guard := _ }) rfl (fun K hK => ?_) AllReadyH.nil)
      have k0 := N0.out.cl 0 _ rfl
      have f0 := N0.out.fz 0
      have k1 := N0.out.cl 1 _ rfl
      have f1 := N0.out.fz 1
      have k2 := N0.out.cl 2 _ rfl
      have f2 := N0.out.fz 2
      have k3 := N0.out.cl 3 _ rfl
      have f3 := N0.out.fz 3
      have k4 := N0.out.cl 4 _ rfl
      have f4 := N0.out.fz 4
      have k5 := N0.out.cl 5 _ rfl
      have f5 := N0.out.fz 5
      have k6 := N0.out.cl 6 _ rfl
      have f6 := N0.out.fz 6
      go_simp
      have N1 : Hid (St ((((((((m2).setCell ⟨NB, 0, none⟩ (.string (nAt ns r).path)).setCell ⟨NB, 1, none⟩ (.string (nAt ns r).data)).setCell ⟨NB, 2, none⟩ (.int .i64 (nAt ns r).ver)).setCell ⟨NB, 3, none⟩ (.int .i64 (nAt ns r).cver)).setCell ⟨NB, 4, none⟩ (.int .i64 (nAt ns r).cz)).setCell ⟨NB, 5, none⟩ (.int .i64 (nAt ns r).mz)).setCell ⟨NB, 6, none⟩ (.int .i64 (nAt ns r).pz)) NB [.string (nAt ns r).path, .string (nAt ns r).data, .int .i64 (nAt ns r).ver, .int .i64 (nAt ns r).cver, .int .i64 (nAt ns r).cz, .int .i64 (nAt ns r).mz, .int .i64 (nAt ns r).pz]) := (((((((N0.out).set 0 (.string (nAt ns r).path)).set 1 (.string (nAt ns r).data)).set 2 (.int .i64 (nAt ns r).ver)).set 3 (.int .i64 (nAt ns r).cver)).set 4 (.int .i64 (nAt ns r).cz)).set 5 (.int .i64 (nAt ns r).mz)).set 6 (.int .i64 (nAt ns r).pz)
      have tN : Tch NB m2 ((((((((m2).setCell ⟨NB, 0, none⟩ (.string (nAt ns r).path)).setCell ⟨NB, 1, none⟩ (.string (nAt ns r).data)).setCell ⟨NB, 2, none⟩ (.int .i64 (nAt ns r).ver)).setCell ⟨NB, 3, none⟩ (.int .i64 (nAt ns r).cver)).setCell ⟨NB, 4, none⟩ (.int .i64 (nAt ns r).cz)).setCell ⟨NB, 5, none⟩ (.int .i64 (nAt ns r).mz)).setCell ⟨NB, 6, none⟩ (.int .i64 (nAt ns r).pz)) := (((((((tch_set9 m2 NB 0 _).trans (tch_set9 _ NB 1 _)).trans (tch_set9 _ NB 2 _)).trans (tch_set9 _ NB 3 _)).trans (tch_set9 _ NB 4 _)).trans (tch_set9 _ NB 5 _)).trans (tch_set9 _ NB 6 _))
      have X1 : Boxed ((((((((m2).setCell ⟨NB, 0, none⟩ (.string (nAt ns r).path)).setCell ⟨NB, 1, none⟩ (.string (nAt ns r).data)).setCell ⟨NB, 2, none⟩ (.int .i64 (nAt ns r).ver)).setCell ⟨NB, 3, none⟩ (.int .i64 (nAt ns r).cver)).setCell ⟨NB, 4, none⟩ (.int .i64 (nAt ns r).cz)).setCell ⟨NB, 5, none⟩ (.int .i64 (nAt ns r).mz)).setCell ⟨NB, 6, none⟩ (.int .i64 (nAt ns r).pz)) w.heap.size 25 (.slice (some ⟨tb, tf, none⟩) ns.length cv) := (tN.2 w.heap.size (by omega) (hHeld.1.1.lt)).trans hHeld.1.1
      have Y1 : Boxed ((((((((m2).setCell ⟨NB, 0, none⟩ (.string (nAt ns r).path)).setCell ⟨NB, 1, none⟩ (.string (nAt ns r).data)).setCell ⟨NB, 2, none⟩ (.int .i64 (nAt ns r).ver)).setCell ⟨NB, 3, none⟩ (.int .i64 (nAt ns r).cver)).setCell ⟨NB, 4, none⟩ (.int .i64 (nAt ns r).cz)).setCell ⟨NB, 5, none⟩ (.int .i64 (nAt ns r).mz)).setCell ⟨NB, 6, none⟩ (.int .i64 (nAt ns r).pz)) (w.heap.size + 1) 28 (.slice none 0 0) := (tN.2 (w.heap.size + 1) (by omega) (hHeld.2.lt)).trans hHeld.2
      have R1 : RdN ((((((((m2).setCell ⟨NB, 0, none⟩ (.string (nAt ns r).path)).setCell ⟨NB, 1, none⟩ (.string (nAt ns r).data)).setCell ⟨NB, 2, none⟩ (.int .i64 (nAt ns r).ver)).setCell ⟨NB, 3, none⟩ (.int .i64 (nAt ns r).cver)).setCell ⟨NB, 4, none⟩ (.int .i64 (nAt ns r).cz)).setCell ⟨NB, 5, none⟩ (.int .i64 (nAt ns r).mz)).setCell ⟨NB, 6, none⟩ (.int .i64 (nAt ns r).pz)) (.slice (some ⟨tb, tf, none⟩) ns.length cv) ns := hHeld.1.2.tchK (fun b o n c e => by have := hNT b o n c e; omega) tN
      have B1 : Hid (Below w.heap.size w ((((((((m2).setCell ⟨NB, 0, none⟩ (.string (nAt ns r).path)).setCell ⟨NB, 1, none⟩ (.string (nAt ns r).data)).setCell ⟨NB, 2, none⟩ (.int .i64 (nAt ns r).ver)).setCell ⟨NB, 3, none⟩ (.int .i64 (nAt ns r).cver)).setCell ⟨NB, 4, none⟩ (.int .i64 (nAt ns r).cz)).setCell ⟨NB, 5, none⟩ (.int .i64 (nAt ns r).mz)).setCell ⟨NB, 6, none⟩ (.int .i64 (nAt ns r).pz))) := B0.out.trans (tN.below (by omega) B0.out.size)
      refine hK.out _ _ ⟨⟨X1, R1⟩, Y1⟩ (fun hx9 => ?_)
      clear hK K hHeld hx9
      try simp only [Act.put, List.setIfInBounds_toArray, List.set_cons_zero, List.set_cons_succ]
      refine wpAnyH_done (by kernel_rfl) ?_ _
      go_wp2_with fail
      go_meet
      exact ⟨_, r, rfl, hr, N1, Y1, B1⟩
    · have bN : Below m0.heap.size m0 (m0.alloc (.cells #[.string ⟨#[]⟩, .string ⟨#[]⟩, .int .i64 0, .int .i64 0, .int .i64 0, .int .i64 0, .int .i64 0] 42)) := (Below.refl _ _).alloc (Nat.le_refl _) _
      have N0 := hd9 (St.new m0 #[.string ⟨#[]⟩, .string ⟨#[]⟩, .int .i64 0, .int .i64 0, .int .i64 0, .int .i64 0, .int .i64 0] 42)
      have hNB := hHeld.2.lt
      have hNT : ∀ b o n c, (Value.slice (some ⟨tb, tf, none⟩) ns.length cv) = .slice (some ⟨b, o, none⟩) n c → b < m0.heap.size := fun b o n c e => by
        obtain ⟨ao, cap, e2, -, -, h3⟩ := hHeld.1.2
        rcases h3 with h3 | ⟨b', off', e', hlt, -⟩
        · rw [h3] at hne; simp at hne
        · subst e'; rw [e2] at e; cases e; exact hlt
      have H9 := (And.intro (And.intro (boxed_below bN hHeld.1.1) (hHeld.1.2.below bN)) (boxed_below bN hHeld.2))
      replace B0 := hd9 (B0.out.trans (bN.mono B0.out.size))
      go_simp
      refine hK.out _ _ H9 (fun hx9 => ?_)
      clear hK K hHeld
      have hHeld := hx9
      clear hx9 H9 bN
      try simp only [Act.put, List.setIfInBounds_toArray, List.set_cons_zero, List.set_cons_succ]
      generalize m0.alloc (.cells #[.string ⟨#[]⟩, .string ⟨#[]⟩, .int .i64 0, .int .i64 0, .int .i64 0, .int .i64 0, .int .i64 0] 42) = m3 at *
      generalize m0.heap.size = NB at *
      refine wpAnyH_ready (rs := [7]) (by kernel_rfl) (by simp) ?_
      refine (AllReadyH.cons (o := { dst := some 18, op := _, type := _, pos := _, after := _, guard := _ }) rfl (fun K hK => ?_) AllReadyH.nil)
      go_simp
      refine (HAT.out m3 B0.out i ns.length (by omega) (by omega)).mono ?_
      rintro e m4 ⟨r, rfl, hr, bN⟩
      replace hr := hr (by omega)
      have H9 := (And.intro (And.intro (boxed_below bN hHeld.1.1) (hHeld.1.2.below bN)) (boxed_below bN hHeld.2))
      replace B0 := hd9 (B0.out.trans (bN.mono B0.out.size))
      replace N0 := hd9 (N0.out.below bN)
      refine hK.out _ _ H9 (fun hx9 => ?_)
      clear hK K hHeld
      have hHeld := hx9
      clear hx9 H9 bN
      try simp only [Act.put, List.setIfInBounds_toArray, List.set_cons_zero, List.set_cons_succ]
      have hrI : (r : Int) < (ns.length : Int) := by omega
      refine wpAnyH_take (i := 8) (oi := { dst := some 19, op := _, type := _, pos := _, after := _, guard := _ }) (v := (.pointer (some ⟨tb, tf + r * 7, none⟩))) rfl (by kernel_rfl) (by kernel_rfl) (by kernel_rfl) (fun _ _ _ h => h) (Or.inl ⟨by rfl, fun w9 hS9 => by (clear hS9; go_simp; try with_reducible rfl)⟩) (by assumption) ?_
      try simp only [Act.put, List.setIfInBounds_toArray, List.set_cons_zero, List.set_cons_succ]
      refine wpAnyH_take (i := 9) (oi := { dst := some 20, op := _, type := _, pos := _, after := _, guard := _ }) (v := (.agg #[.string (nAt ns r).path, .string (nAt ns r).data, .int .i64 (nAt ns r).ver, .int .i64 (nAt ns r).cver, .int .i64 (nAt ns r).cz, .int .i64 (nAt ns r).mz, .int .i64 (nAt ns r).pz])) rfl (by kernel_rfl) (by kernel_rfl) (by kernel_rfl) (fun _ _ _ h => h) (Or.inl ⟨by rfl, fun w9 hS9 => by (obtain ⟨k0, k1, k2, k3, k4, k5, k6⟩ := rdN_cellsR hS9.1.2 hr; clear hS9; go_simp; try with_reducible rfl)⟩) (by assumption) ?_
      try simp only [Act.put, List.setIfInBounds_toArray, List.set_cons_zero, List.set_cons_succ]
      refine wpAnyH_ready (rs := [11]) (by kernel_rfl) (by simp) ?_
      refine (AllReadyH.cons (o := { dst := none, op := _, type := _, pos := _, after := _, guard := _ }) rfl (fun K hK => ?_) AllReadyH.nil)
      have k0 := N0.out.cl 0 _ rfl
      have f0 := N0.out.fz 0
      have k1 := N0.out.cl 1 _ rfl
      have f1 := N0.out.fz 1
      have k2 := N0.out.cl 2 _ rfl
      have f2 := N0.out.fz 2
      have k3 := N0.out.cl 3 _ rfl
      have f3 := N0.out.fz 3
      have k4 := N0.out.cl 4 _ rfl
      have f4 := N0.out.fz 4
      have k5 := N0.out.cl 5 _ rfl
      have f5 := N0.out.fz 5
      have k6 := N0.out.cl 6 _ rfl
      have f6 := N0.out.fz 6
      go_simp
      have N1 : Hid (St ((((((((m4).setCell ⟨NB, 0, none⟩ (.string (nAt ns r).path)).setCell ⟨NB, 1, none⟩ (.string (nAt ns r).data)).setCell ⟨NB, 2, none⟩ (.int .i64 (nAt ns r).ver)).setCell ⟨NB, 3, none⟩ (.int .i64 (nAt ns r).cver)).setCell ⟨NB, 4, none⟩ (.int .i64 (nAt ns r).cz)).setCell ⟨NB, 5, none⟩ (.int .i64 (nAt ns r).mz)).setCell ⟨NB, 6, none⟩ (.int .i64 (nAt ns r).pz)) NB [.string (nAt ns r).path, .string (nAt ns r).data, .int .i64 (nAt ns r).ver, .int .i64 (nAt ns r).cver, .int .i64 (nAt ns r).cz, .int .i64 (nAt ns r).mz, .int .i64 (nAt ns r).pz]) := (((((((N0.out).set 0 (.string (nAt ns r).path)).set 1 (.string (nAt ns r).data)).set 2 (.int .i64 (nAt ns r).ver)).set 3 (.int .i64 (nAt ns r).cver)).set 4 (.int .i64 (nAt ns r).cz)).set 5 (.int .i64 (nAt ns r).mz)).set 6 (.int .i64 (nAt ns r).pz)
      have tN : Tch NB m4 ((((((((m4).setCell ⟨NB, 0, none⟩ (.string (nAt ns r).path)).setCell ⟨NB, 1, none⟩ (.string (nAt ns r).data)).setCell ⟨NB, 2, none⟩ (.int .i64 (nAt ns r).ver)).setCell ⟨NB, 3, none⟩ (.int .i64 (nAt ns r).cver)).setCell ⟨NB, 4, none⟩ (.int .i64 (nAt ns r).cz)).setCell ⟨NB, 5, none⟩ (.int .i64 (nAt ns r).mz)).setCell ⟨NB, 6, none⟩ (.int .i64 (nAt ns r).pz)) := (((((((tch_set9 m4 NB 0 _).trans (tch_set9 _ NB 1 _)).trans (tch_set9 _ NB 2 _)).trans (tch_set9 _ NB 3 _)).trans (tch_set9 _ NB 4 _)).trans (tch_set9 _ NB 5 _)).trans (tch_set9 _ NB 6 _))
      have X1 : Boxed ((((((((m4).setCell ⟨NB, 0, none⟩ (.string (nAt ns r).path)).setCell ⟨NB, 1, none⟩ (.string (nAt ns r).data)).setCell ⟨NB, 2, none⟩ (.int .i64 (nAt ns r).ver)).setCell ⟨NB, 3, none⟩ (.int .i64 (nAt ns r).cver)).setCell ⟨NB, 4, none⟩ (.int .i64 (nAt ns r).cz)).setCell ⟨NB, 5, none⟩ (.int .i64 (nAt ns r).mz)).setCell ⟨NB, 6, none⟩ (.int .i64 (nAt ns r).pz)) w.heap.size 25 (.slice (some ⟨tb, tf, none⟩) ns.length cv) := (tN.2 w.heap.size (by omega) (hHeld.1.1.lt)).trans hHeld.1.1
      have Y1 : Boxed ((((((((m4).setCell ⟨NB, 0, none⟩ (.string (nAt ns r).path)).setCell ⟨NB, 1, none⟩ (.string (nAt ns r).data)).setCell ⟨NB, 2, none⟩ (.int .i64 (nAt ns r).ver)).setCell ⟨NB, 3, none⟩ (.int .i64 (nAt ns r).cver)).setCell ⟨NB, 4, none⟩ (.int .i64 (nAt ns r).cz)).setCell ⟨NB, 5, none⟩ (.int .i64 (nAt ns r).mz)).setCell ⟨NB, 6, none⟩ (.int .i64 (nAt ns r).pz)) (w.heap.size + 1) 28 (.slice none 0 0) := (tN.2 (w.heap.size + 1) (by omega) (hHeld.2.lt)).trans hHeld.2
      have R1 : RdN ((((((((m4).setCell ⟨NB, 0, none⟩ (.string (nAt ns r).path)).setCell ⟨NB, 1, none⟩ (.string (nAt ns r).data)).setCell ⟨NB, 2, none⟩ (.int .i64 (nAt ns r).ver)).setCell ⟨NB, 3, none⟩ (.int .i64 (nAt ns r).cver)).setCell ⟨NB, 4, none⟩ (.int .i64 (nAt ns r).cz)).setCell ⟨NB, 5, none⟩ (.int .i64 (nAt ns r).mz)).setCell ⟨NB, 6, none⟩ (.int .i64 (nAt ns r).pz)) (.slice (some ⟨tb, tf, none⟩) ns.length cv) ns := hHeld.1.2.tchK (fun b o n c e => by have := hNT b o n c e; omega) tN
      have B1 : Hid (Below w.heap.size w ((((((((m4).setCell ⟨NB, 0, none⟩ (.string (nAt ns r).path)).setCell ⟨NB, 1, none⟩ (.string (nAt ns r).data)).setCell ⟨NB, 2, none⟩ (.int .i64 (nAt ns r).ver)).setCell ⟨NB, 3, none⟩ (.int .i64 (nAt ns r).cver)).setCell ⟨NB, 4, none⟩ (.int .i64 (nAt ns r).cz)).setCell ⟨NB, 5, none⟩ (.int .i64 (nAt ns r).mz)).setCell ⟨NB, 6, none⟩ (.int .i64 (nAt ns r).pz))) := B0.out.trans (tN.below (by omega) B0.out.size)
      refine hK.out _ _ ⟨⟨X1, R1⟩, Y1⟩ (fun hx9 => ?_)
      clear hK K hHeld hx9
      try simp only [Act.put, List.setIfInBounds_toArray, List.set_cons_zero, List.set_cons_succ]
      refine wpAnyH_done (by kernel_rfl) ?_ _
      go_wp2_with fail
      go_meet
      exact ⟨_, r, rfl, hr, N1, Y1, B1⟩
  case rest =>
  obtain ⟨NB, r, rfl, hr, N4, Y4, B4⟩ := hcut
  clear X3 Y3 RD3 B3
  have hnd := HOK.out _ (show nAt ns r ∈ ns by rw [nAt_get hr]; exact List.getElem_mem hr)
  generalize nAt ns r = n at *
  have hpz := (okNd_all hnd).1
  have hNB : NB ≠ w.heap.size + 1 := fun e => by
    have h9 := N4.out.cl 0 _ rfl
    rw [e, Y4.out.cell] at h9
    cases h9
  clear hnd HOK
  generalize hw4 : wc = w4 at *
  clear hw4
  have k0 := N4.out.cl 0 _ rfl
  go_upto_if 24 with fail
  go_cut [8] from 21 to 24 (fun v8 wx => v8 = .string (preB n.path) ∧ w4 = wx)
  case first =>
    cases hp : (n.path.toList == [47]) with
    | true =>
      have hpre : preB n.path = ⟨#[]⟩ := by unfold preB; rw [if_pos (by rw [← ba_listR]; exact eq_of_beq hp)]
      go_wp2_with fail
      go_meet
      exact ⟨by rw [hpre], rfl⟩
    | false =>
      have hpre : preB n.path = n.path := by unfold preB; rw [if_neg (by rw [← ba_listR]; intro e9; rw [e9] at hp; simp at hp)]
      go_wp2_with fail
      go_meet
      exact ⟨by rw [hpre], rfl⟩
  case rest =>
  obtain ⟨rfl, rfl⟩ := hcut
  have hpb : (preB n.path).size ≤ 102 := by
    unfold preB
    split
    · exact Nat.zero_le _
    · exact hpz
  have HK := HAT.out w4 B4.out (i + 1) 5 (by omega) (by omega)
  rw [show ((i + 1 : Nat) : Int) = (i : Int) + 1 by omega, show ((5 : Nat) : Int) = 5 from rfl] at HK
  have HK := hd9 HK
  go_wp2_with fail
  clear k0
  refine HK.out.mono ?_
  rintro e w5 ⟨kd, rfl, hkd, b5⟩
  replace hkd := hkd (by omega)
  have N5 := hd9 (N4.out.below b5)
  have Y5 := hd9 (boxed_below b5 Y4.out)
  have B5 := hd9 (B4.out.trans (b5.mono B4.out.size))
  clear b5 N4 Y4 B4 HK
  have H3 : Hid (Calls Tryz.prog 10 #[.slice ma ms.length mc, .int .i64 ((i : Int) + 2), .int .i64 3] w5 fun e w' => ∃ r : Nat, e = .returned (.int .i64 (r : Int)) ∧ (1 ≤ 3 → r < 3) ∧ Below w5.heap.size w5 w') := by
    have h9 := HAT.out w5 B5.out (i + 2) 3 (by omega) (by omega)
    rw [show ((i + 2 : Nat) : Int) = (i : Int) + 2 by omega, show ((3 : Nat) : Int) = 3 from rfl] at h9
    exact h9
  by_cases hk1 : kd < 2
  · have hkI : (kd : Int) < 2 := by omega
    go_wp2_with fail
    refine H3.out.mono ?_
    rintro e w6 ⟨q, rfl, hq, b6⟩
    replace hq := hq (by omega)
    have Y6 := hd9 (boxed_below b6 Y5.out)
    have B6 := hd9 (B5.out.trans (b6.mono B5.out.size))
    have hcv := conv_any (rd_one w6 (97 + q))
    rw [strOf_one, show ((97 + q : Nat) : Int) = 97 + (q : Int) by omega] at hcv
    have bN : ∀ X Y, Below w6.heap.size w6 ((w6.alloc X).alloc Y) := fun X Y => ((Below.refl _ _).alloc (Nat.le_refl _) _).alloc (by simp) _
    have y0 := fun X Y => (boxed_below (bN X Y) Y6.out).cell
    have y1 := fun X Y => (boxed_below (bN X Y) Y6.out).frozen
    clear HAT N5 Y5 B5 H3 b6
    go_wp2_with fail
    exact reqPost (B6.out.trans ((bN _ _).mono B6.out.size)) (boxed_below (bN _ _) Y6.out) (rdO_oneR (o := ⟨1, preB n.path ++ ⟨#[47]⟩ ++ ⟨#[97 + UInt8.ofNat q]⟩, ⟨#[110]⟩, 0, false⟩) (by rw [show w6.heap.size + 1 = (w6.alloc _).heap.size by simp]; exact heap_alloc_new _ _) rfl) (by rw [show w6.heap.size + 1 = (w6.alloc _).heap.size by simp]; exact heap_alloc_new _ _) (Nat.le_refl 1) (show (1 : Nat) ≤ 3 by decide) (szQ_of fun o ho => by
      obtain rfl := List.mem_singleton.1 ho
      exact ⟨by simp only [ByteArray.size_append]; have : (⟨#[47]⟩ : ByteArray).size = 1 := rfl; have : (⟨#[97 + UInt8.ofNat q]⟩ : ByteArray).size = 1 := rfl; omega, by show 1 ≤ _; decide⟩)
  by_cases hk2 : kd = 2
  · subst hk2
    have k0 := N5.out.cl 0 _ rfl
    have bN : ∀ X, Below w5.heap.size w5 (w5.alloc X) := fun X => (Below.refl _ _).alloc (Nat.le_refl _) _
    have y0 := fun X => (boxed_below (bN X) Y5.out).cell
    have y1 := fun X => (boxed_below (bN X) Y5.out).frozen
    clear HAT H3 hk1 hkd
    go_wp2_with fail
    exact reqPost (B5.out.trans ((bN _).mono B5.out.size)) (boxed_below (bN _) Y5.out) (rdO_oneR (o := ⟨2, n.path, ⟨#[]⟩, -1, false⟩) (heap_alloc_new _ _) rfl) (heap_alloc_new _ _) (Nat.le_refl 1) (show (1 : Nat) ≤ 3 by decide) (szQ_of fun o ho => by
      obtain rfl := List.mem_singleton.1 ho
      exact ⟨by show n.path.size ≤ _; omega, Nat.zero_le _⟩)
  by_cases hk3 : kd = 3
  · subst hk3
    have HD := hd9 (lwDec_any)
    clear HAT H3 hk1 hkd hk2
    go_upto_region 11 with fail
    have bD : Below w5.heap.size w5 w5.drew := below_drewN' w5 1
    refine wp_region_held_drew (S := fun W => (St W NB [.string n.path, .string n.data, .int .i64 n.ver, .int .i64 n.cver, .int .i64 n.cz, .int .i64 n.mz, .int .i64 n.pz] ∧ ∃ x, Boxed W (w.heap.size + 1) 28 x)) (by kernel_rfl) ⟨N5.out.below bD, _, boxed_below bD Y5.out⟩ (fun hHeld => ?_)
    have Y0 := hd9 (boxed_below bD Y5.out)
    have B0 := hd9 (B5.out.trans (bD.mono B5.out.size))
    clear N5 Y5 B5 bD
    generalize w5.drew = m0 at *
    refine wpAnyH_take (i := 0) (oi := { dst := some 54, op := _, type := _, pos := _, after := _, guard := _ }) (v := (.pointer (some ⟨NB, 0, none⟩))) rfl (by kernel_rfl) (by kernel_rfl) (by kernel_rfl) (fun _ _ _ h => h) (Or.inl ⟨by rfl, fun w9 hS9 => by (clear hS9; go_simp; try with_reducible rfl)⟩) (by assumption) ?_
    try simp only [Act.put, List.setIfInBounds_toArray, List.set_cons_zero, List.set_cons_succ]
    refine wpAnyH_take (i := 1) (oi := { dst := some 55, op := _, type := _, pos := _, after := _, guard := _ }) (v := (.string n.path)) rfl (by kernel_rfl) (by kernel_rfl) (by kernel_rfl) (fun _ _ _ h => h) (Or.inl ⟨by rfl, fun w9 hS9 => by (have h9 := hS9.1.cl 0 _ rfl; clear hS9; go_simp; try with_reducible rfl)⟩) (by assumption) ?_
    try simp only [Act.put, List.setIfInBounds_toArray, List.set_cons_zero, List.set_cons_succ]
    refine wpAnyH_take (i := 2) (oi := { dst := some 56, op := _, type := _, pos := _, after := _, guard := _ }) (v := (.int .i64 (i : Int))) rfl (by kernel_rfl) (by kernel_rfl) (by kernel_rfl) (fun _ _ _ h => h) (Or.inl ⟨by rfl, fun w9 hS9 => by (clear hS9; go_simp; try with_reducible rfl)⟩) (by assumption) ?_
    try simp only [Act.put, List.setIfInBounds_toArray, List.set_cons_zero, List.set_cons_succ]
    refine wpAnyH_ready (rs := [3]) (by kernel_rfl) (by simp) ?_
    refine (AllReadyH.cons (o := { dst := some 57, op := _, type := _, pos := _, after := _, guard := _ }) rfl (fun K hK => ?_) AllReadyH.nil)
    go_simp
    refine (HD.out m0 i (by omega)).mono ?_
    rintro e m1 ⟨s, rfl, hs, bN⟩
    replace Y0 := hd9 (boxed_below bN Y0.out)
    have H9 := And.intro (hHeld.1.below bN) (Exists.intro _ Y0.out)
    replace B0 := hd9 (B0.out.trans (bN.mono B0.out.size))
    refine hK.out _ _ H9 (fun hx9 => ?_)
    clear hK K hHeld
    have hHeld := hx9
    clear hx9 H9 bN
    try simp only [Act.put, List.setIfInBounds_toArray, List.set_cons_zero, List.set_cons_succ]
    refine wpAnyH_take (i := 4) (oi := { dst := some 58, op := _, type := _, pos := _, after := _, guard := _ }) (v := (.agg #[.int .i64 3, .string n.path, .string s, .int .i64 (-1), .bool false])) rfl (by kernel_rfl) (by kernel_rfl) (by kernel_rfl) (fun _ _ _ h => h) (Or.inl ⟨by rfl, fun w9 hS9 => by (clear hS9; go_simp; try with_reducible rfl)⟩) (by assumption) ?_
    try simp only [Act.put, List.setIfInBounds_toArray, List.set_cons_zero, List.set_cons_succ]
    refine wpAnyH_ready (rs := [5]) (by kernel_rfl) (by simp) ?_
    refine (AllReadyH.cons (o := { dst := some 59, op := _, type := _, pos := _, after := _, guard := _ }) rfl (fun K hK => ?_) AllReadyH.nil)
    have bN : Below m1.heap.size m1 (m1.alloc (.cells #[.int .i64 3, .string n.path, .string s, .int .i64 (-1), .bool false] 40)) := (Below.refl _ _).alloc (Nat.le_refl _) _
    have RQ := hd9 (rdO_oneR (o := ⟨3, n.path, s, -1, false⟩) (heap_alloc_new m1 (.cells #[.int .i64 3, .string n.path, .string s, .int .i64 (-1), .bool false] 40)) rfl)
    replace Y0 := hd9 (boxed_below bN Y0.out)
    have HG := hd9 (heap_alloc_new m1 (.cells #[.int .i64 3, .string n.path, .string s, .int .i64 (-1), .bool false] 40))
    have H9 := And.intro (hHeld.1.below bN) (Exists.intro _ Y0.out)
    replace B0 := hd9 (B0.out.trans (bN.mono B0.out.size))
    go_simp
    refine hK.out _ _ H9 (fun hx9 => ?_)
    clear hK K hHeld
    have hHeld := hx9
    clear hx9 H9 bN
    try simp only [Act.put, List.setIfInBounds_toArray, List.set_cons_zero, List.set_cons_succ]
    generalize m1.alloc (.cells #[.int .i64 3, .string n.path, .string s, .int .i64 (-1), .bool false] 40) = m2 at *
    generalize m1.heap.size = g at *
    refine wpAnyH_take (i := 6) (oi := { dst := some 60, op := _, type := _, pos := _, after := _, guard := _ }) (v := (.agg #[.slice (some ⟨g, 0, none⟩) 1 1])) rfl (by kernel_rfl) (by kernel_rfl) (by kernel_rfl) (fun _ _ _ h => h) (Or.inl ⟨by rfl, fun w9 hS9 => by (clear hS9; go_simp; try with_reducible rfl)⟩) (by assumption) ?_
    try simp only [Act.put, List.setIfInBounds_toArray, List.set_cons_zero, List.set_cons_succ]
    refine wpAnyH_ready (rs := [7]) (by kernel_rfl) (by simp) ?_
    refine (AllReadyH.cons (o := { dst := none, op := _, type := _, pos := _, after := _, guard := _ }) rfl (fun K hK => ?_) AllReadyH.nil)
    have y0 := Y0.out.cell
    have y1 := Y0.out.frozen
    go_simp
    refine hK.out _ _ ⟨hHeld.1.other hNB, _, Y0.out.set _⟩ (fun hx9 => ?_)
    clear hK K hHeld hx9
    try simp only [Act.put, List.setIfInBounds_toArray, List.set_cons_zero, List.set_cons_succ]
    refine wpAnyH_done (by kernel_rfl) ?_ _
    go_wp2_with fail
    exact reqPost B0.out Y0.out RQ.out HG.out (Nat.le_refl 1) (show (1 : Nat) ≤ 3 by decide) (szQ_of fun o ho => by
      obtain rfl := List.mem_singleton.1 ho
      exact ⟨by show n.path.size ≤ _; omega, by show s.size ≤ _; omega⟩)
  have hk4 : kd = 4 := by omega
  subst hk4
  clear HAT N5 hk1 hk2 hk3 hkd
  go_wp2_with fail
  refine H3.out.mono ?_
  rintro e w6 ⟨q, rfl, hq, b6⟩
  replace hq := hq (by omega)
  have Y6 := hd9 (boxed_below b6 Y5.out)
  have B6 := hd9 (B5.out.trans (b6.mono B5.out.size))
  have hcv := conv_any (rd_one w6 (97 + q))
  rw [strOf_one, show ((97 + q : Nat) : Int) = 97 + (q : Int) by omega] at hcv
  have bN : ∀ X Y, Below w6.heap.size w6 ((w6.alloc X).alloc Y) := fun X Y => ((Below.refl _ _).alloc (Nat.le_refl _) _).alloc (by simp) _
  have y0 := fun X Y => (boxed_below (bN X Y) Y6.out).cell
  have y1 := fun X Y => (boxed_below (bN X Y) Y6.out).frozen
  clear Y5 B5 H3 b6
  go_wp2_with fail
  generalize hpp : preB n.path ++ ⟨#[47]⟩ ++ ⟨#[97 + UInt8.ofNat q]⟩ = pp
  have hps : pp.size ≤ 104 := by
    rw [← hpp]
    simp only [ByteArray.size_append]
    have : (⟨#[47]⟩ : ByteArray).size = 1 := rfl
    have : (⟨#[97 + UInt8.ofNat q]⟩ : ByteArray).size = 1 := rfl
    omega
  exact reqPost (B6.out.trans ((bN _ _).mono B6.out.size)) (boxed_below (bN _ _) Y6.out) (rdO_three (o := ⟨1, pp, ⟨#[]⟩, 0, false⟩) (o' := ⟨1, pp ++ ⟨#[47, 107]⟩, ⟨#[]⟩, 0, false⟩) (o'' := ⟨3, pp, ⟨#[109]⟩, 0, false⟩) (by rw [show w6.heap.size + 1 = (w6.alloc _).heap.size by simp]; exact heap_alloc_new _ _) rfl) (by rw [show w6.heap.size + 1 = (w6.alloc _).heap.size by simp]; exact heap_alloc_new _ _) (show (1 : Nat) ≤ 3 by decide) (Nat.le_refl 3) (szQ_of fun o ho => by
    have e2 : (⟨#[47, 107]⟩ : ByteArray).size = 2 := rfl
    have e1 : (⟨#[109]⟩ : ByteArray).size = 1 := rfl
    have e0 : (⟨#[]⟩ : ByteArray).size = 0 := rfl
    simp only [List.mem_cons, List.not_mem_nil, or_false] at ho
    rcases ho with rfl | rfl | rfl
    · exact ⟨by show pp.size ≤ _; omega, Nat.zero_le _⟩
    · exact ⟨by show (pp ++ ⟨#[47, 107]⟩).size ≤ _; rw [ByteArray.size_append]; omega, Nat.zero_le _⟩
    · exact ⟨by show pp.size ≤ _; omega, by show (⟨#[109]⟩ : ByteArray).size ≤ _; omega⟩)


/-- A slice that lies below, or in a row of this type. -/
def Ty9 (lo : Nat) (t : TypeId) (W : World) (u : Value) : Prop := ∀ a n c, u = .slice (some a) n c → a.block < W.heap.size ∧ (a.block < lo ∨ ∃ cur, W.heap[a.block]? = some (.cells cur t (0, 0)))
theorem Ty9.below {lo : Nat} {t : TypeId} {W W' : World} {u : Value} (h : Ty9 lo t W u) (hb : Below W.heap.size W W') : Ty9 lo t W' u := fun a n c e => by
  obtain ⟨h1, h2⟩ := h a n c e
  refine ⟨Nat.lt_of_lt_of_le h1 hb.size, h2.imp id fun ⟨cur, hc⟩ => ⟨cur, (hb.block _ h1).trans hc⟩⟩
theorem own_ne {W : World} {lo lo' n n' k k' : Nat} {e e' : TypeId} {v v' : Value} {us us' : List Value} (h : W.ownsRow lo e k v n us) (h' : W.ownsRow lo' e' k' v' n' us') (hne : e ≠ e') : v.ownBlock = none ∨ v.ownBlock ≠ v'.ownBlock := by
  rcases h.2 with ⟨rfl, -⟩ | ⟨g, cap, cur, rfl, -, hg, -⟩
  · exact .inl rfl
  · refine .inr fun e9 => ?_
    rcases h'.2 with ⟨rfl, -⟩ | ⟨g', cap', cur', rfl, -, hg', -⟩
    · cases e9
    · simp only [Value.ownBlock, Option.some.injEq] at e9
      subst e9
      rw [hg] at hg'
      injection hg' with hg'
      injection hg' with _ h9
      exact hne h9
theorem ty_off {W : World} {lo n : Nat} {e t : TypeId} {u v : Value} {us : List Value} (h : Ty9 lo t W u) (ho : W.ownsRow lo e 1 v n us) (hne : e ≠ t) : ∀ a m c, u = .slice (some a) m c → some a.block ≠ v.ownBlock := fun a m c hu e9 => by
  rcases ho.2 with ⟨rfl, -⟩ | ⟨g, cap, cur, rfl, hlo, hg, -⟩
  · cases e9
  · simp only [Value.ownBlock, Option.some.injEq] at e9
    rcases (h a m c hu).2 with h1 | ⟨cur', h1⟩
    · omega
    · rw [e9, hg] at h1
      injection h1 with h1
      injection h1 with _ h9
      exact hne h9
theorem Ty9.grown {lo : Nat} {t : TypeId} {W W' : World} {u : Value} {row : Option Nat} (h : Ty9 lo t W u) (ho : ∀ a m c, u = .slice (some a) m c → some a.block ≠ row) (hg : W.grownBy W' row) : Ty9 lo t W' u := fun a n c e => by
  obtain ⟨h1, h2⟩ := h a n c e
  refine ⟨Nat.lt_of_lt_of_le h1 hg.size, h2.imp id fun ⟨cur, hc⟩ => ⟨cur, (hg.block _ h1 (ho a n c e)).trans hc⟩⟩
theorem rdN_grown {W W' : World} {u : Value} {ns : List Nd} {row : Option Nat} (h : RdN W u ns) (ho : ∀ a m c, u = .slice (some a) m c → some a.block ≠ row) (hg : W.grownBy W' row) : RdN W' u ns := by
  obtain ⟨ao, cap, rfl, h1, h2, h3⟩ := h
  refine ⟨ao, cap, rfl, h1, h2, ?_⟩
  rcases h3 with h3 | ⟨b, off, rfl, hlt, hc⟩
  · exact .inl h3
  · refine .inr ⟨b, off, rfl, Nat.lt_of_lt_of_le hlt hg.size, fun i hi => ?_⟩
    have q : ∀ j, W'.cell? ⟨b, j, none⟩ = W.cell? ⟨b, j, none⟩ := fun j => World.cell?_of_block (hg.block b hlt (ho _ _ _ rfl))
    obtain ⟨k0, k1, k2, k3, k4, k5, k6⟩ := hc i hi
    exact ⟨(q _).trans k0, (q _).trans k1, (q _).trans k2, (q _).trans k3, (q _).trans k4, (q _).trans k5, (q _).trans k6⟩
theorem rdO_grown {W W' : World} {u : Value} {os : List Op5} {row : Option Nat} (h : RdO W u os) (ho : ∀ a m c, u = .slice (some a) m c → some a.block ≠ row) (hg : W.grownBy W' row) : RdO W' u os := by
  obtain ⟨ao, cap, rfl, h1, h2, h3⟩ := h
  refine ⟨ao, cap, rfl, h1, h2, ?_⟩
  rcases h3 with h3 | ⟨b, off, rfl, hlt, hc⟩
  · exact .inl h3
  · refine .inr ⟨b, off, rfl, Nat.lt_of_lt_of_le hlt hg.size, fun i hi => ?_⟩
    have q : ∀ j, W'.cell? ⟨b, j, none⟩ = W.cell? ⟨b, j, none⟩ := fun j => World.cell?_of_block (hg.block b hlt (ho _ _ _ rfl))
    obtain ⟨k0, k1, k2, k3, k4⟩ := hc i hi
    exact ⟨(q _).trans k0, (q _).trans k1, (q _).trans k2, (q _).trans k3, (q _).trans k4⟩
/-- The rows of trees and of requests. -/
structure F1 (lo : Nat) (vt vr : Value) (ut ur : List Value) (Ts : List (List Nd)) (Rs : List (List Op5)) (W : World) : Prop where
  t : W.ownsRow lo 25 1 vt Ts.length ut
  r : W.ownsRow lo 28 1 vr Rs.length ur
  tr : ∀ i, i < Ts.length → RdN W (ut.getD i (.slice none 0 0)) (Ts.getD i []) ∧ Ty9 lo 42 W (ut.getD i (.slice none 0 0))
  rr : ∀ i, i < Rs.length → RdO W (ur.getD i (.slice none 0 0)) (Rs.getD i []) ∧ Ty9 lo 40 W (ur.getD i (.slice none 0 0)) ∧ SzQ (Rs.getD i [])
theorem ownB {lo n k : Nat} {e : TypeId} {v : Value} {us : List Value} {W W' : World} (h : W.ownsRow lo e k v n us) (hb : Below W.heap.size W W') : W'.ownsRow lo e k v n us := by
  refine ⟨h.1, h.2.imp id ?_⟩
  rintro ⟨g, cap, cur, e1, e2, hg, r⟩
  exact ⟨g, cap, cur, e1, e2, (hb.block _ (Array.getElem?_eq_some_iff.1 hg).1).trans hg, r⟩
theorem F1.below {lo : Nat} {vt vr : Value} {ut ur : List Value} {Ts : List (List Nd)} {Rs : List (List Op5)} {W W' : World} (h : F1 lo vt vr ut ur Ts Rs W) (hb : Below W.heap.size W W') : F1 lo vt vr ut ur Ts Rs W' :=
  ⟨ownB h.t hb, ownB h.r hb, fun i hi => ⟨(h.tr i hi).1.below hb, (h.tr i hi).2.below hb⟩, fun i hi => ⟨(h.rr i hi).1.below hb, (h.rr i hi).2.1.below hb, (h.rr i hi).2.2⟩⟩
theorem F1.addR {lo : Nat} {vt vr vr' u : Value} {ut ur : List Value} {Ts : List (List Nd)} {Rs : List (List Op5)} {os : List Op5} {W W' : World} (h : F1 lo vt vr ut ur Ts Rs W) (hu : RdO W u os) (hty : Ty9 lo 40 W u) (hz : SzQ os) (ho : W'.ownsRow lo 28 1 vr' (Rs.length + 1) (ur ++ [u])) (hg : W.grownBy W' vr.ownBlock) : F1 lo vt vr' ut (ur ++ [u]) Ts (Rs ++ [os]) W' := by
  have hl : ur.length = Rs.length := by simpa using h.r.1
  refine ⟨h.t.kept hg (own_ne h.t h.r (by decide)), by simpa using ho, fun i hi => ?_, fun i hi => ?_⟩
  · obtain ⟨h1, h2⟩ := h.tr i hi
    have := ty_off h2 h.r (by decide)
    exact ⟨rdN_grown h1 this hg, h2.grown this hg⟩
  · by_cases e : i < Rs.length
    · rw [getD_lf (by omega), getD_lf e]
      obtain ⟨h1, h2, h3⟩ := h.rr i e
      have := ty_off h2 h.r (by decide)
      exact ⟨rdO_grown h1 this hg, h2.grown this hg, h3⟩
    · have e2 : i = Rs.length := by simp at hi; omega
      rw [getD_ls (by omega), getD_ls e2]
      have := ty_off hty h.r (by decide)
      exact ⟨rdO_grown hu this hg, hty.grown this hg, hz⟩
theorem F1.addT {lo : Nat} {vt vt' vr u : Value} {ut ur : List Value} {Ts : List (List Nd)} {Rs : List (List Op5)} {ns : List Nd} {W W' : World} (h : F1 lo vt vr ut ur Ts Rs W) (hu : RdN W u ns) (hty : Ty9 lo 42 W u) (ho : W'.ownsRow lo 25 1 vt' (Ts.length + 1) (ut ++ [u])) (hg : W.grownBy W' vt.ownBlock) : F1 lo vt' vr (ut ++ [u]) ur (Ts ++ [ns]) Rs W' := by
  have hl : ut.length = Ts.length := by simpa using h.t.1
  refine ⟨by simpa using ho, h.r.kept hg (own_ne h.r h.t (by decide)), fun i hi => ?_, fun i hi => ?_⟩
  · by_cases e : i < Ts.length
    · rw [getD_lf (by omega), getD_lf e]
      obtain ⟨h1, h2⟩ := h.tr i e
      have := ty_off h2 h.t (by decide)
      exact ⟨rdN_grown h1 this hg, h2.grown this hg⟩
    · have e2 : i = Ts.length := by simp at hi; omega
      rw [getD_ls (by omega), getD_ls e2]
      have := ty_off hty h.t (by decide)
      exact ⟨rdN_grown hu this hg, hty.grown this hg⟩
  · obtain ⟨h1, h2, h3⟩ := h.rr i hi
    have := ty_off h2 h.t (by decide)
    exact ⟨rdO_grown h1 this hg, h2.grown this hg, h3⟩
theorem Ty9.own {lo lo' : Nat} {t : TypeId} {k n : Nat} {W : World} {u : Value} {us : List Value} (h : W.ownsRow lo' t k u n us) : Ty9 lo t W u := fun a m c e => by
  rcases h.2 with ⟨rfl, -⟩ | ⟨g, cap, cur, rfl, -, hg, -⟩
  · cases e
  · injection e with e
    injection e with e
    subst e
    exact ⟨(Array.getElem?_eq_some_iff.1 hg).1, .inr ⟨cur, hg⟩⟩
/-- Where the tree lies in the row. -/
theorem F1.cellT {lo : Nat} {vt vr : Value} {ut ur : List Value} {Ts : List (List Nd)} {Rs : List (List Op5)} {W : World} (h : F1 lo vt vr ut ur Ts Rs W) (h0 : 0 < Ts.length) : ∃ g cap, vt = .slice (some ⟨g, 0, none⟩) Ts.length cap ∧ lo ≤ g ∧ g < W.heap.size ∧ Ts.length ≤ cap ∧ cap ≤ maxLen ∧ ∀ i, i < Ts.length → W.cell? ⟨g, i, none⟩ = some (ut.getD i (.slice none 0 0)) := by
  rcases h.t.2 with ⟨-, h9⟩ | ⟨g, cap, cur, e, h1, h2, h3, h4, h5, h6⟩
  · omega
  · subst e
    refine ⟨g, cap, rfl, h1, (Array.getElem?_eq_some_iff.1 h2).1, h3, h4, fun i hi => ?_⟩
    have hl : ut.length = Ts.length := by simpa using h.t.1
    rw [h.t.cellAt i (by omega), List.getD, List.getElem?_eq_getElem (by omega)]
    rfl
theorem F1.cellR {lo : Nat} {vt vr : Value} {ut ur : List Value} {Ts : List (List Nd)} {Rs : List (List Op5)} {W : World} (h : F1 lo vt vr ut ur Ts Rs W) (h0 : 0 < Rs.length) : ∃ g cap, vr = .slice (some ⟨g, 0, none⟩) Rs.length cap ∧ lo ≤ g ∧ g < W.heap.size ∧ Rs.length ≤ cap ∧ cap ≤ maxLen ∧ ∀ i, i < Rs.length → W.cell? ⟨g, i, none⟩ = some (ur.getD i (.slice none 0 0)) := by
  rcases h.r.2 with ⟨-, h9⟩ | ⟨g, cap, cur, e, h1, h2, h3, h4, h5, h6⟩
  · omega
  · subst e
    refine ⟨g, cap, rfl, h1, (Array.getElem?_eq_some_iff.1 h2).1, h3, h4, fun i hi => ?_⟩
    have hl : ur.length = Rs.length := by simpa using h.r.1
    rw [h.r.cellAt i (by omega), List.getD, List.getElem?_eq_getElem (by omega)]
    rfl
/-- A box of a tree is written: the rows stay. -/
theorem F1.box {lo : Nat} {vt vr : Value} {ut ur : List Value} {Ts : List (List Nd)} {Rs : List (List Op5)} {W : World} (h : F1 lo vt vr ut ur Ts Rs W) {B : Nat} (hB : ∀ g, vt.ownBlock = some g ∨ vr.ownBlock = some g → g ≠ B) {t : TypeId} {x : Value} (hb : Boxed W B t x) (h1 : t ≠ 42) (h2 : t ≠ 40) (hlo : lo ≤ B) (y : Value) : F1 lo vt vr ut ur Ts Rs (W.setCell ⟨B, 0, none⟩ y) := by
  have hg : W.grownBy (W.setCell ⟨B, 0, none⟩ y) (some B) := ⟨rfl, rfl, rfl, by simp, fun k _ hne => Below.heap_setCell _ _ _ _ (fun e => hne (by rw [e]))⟩
  have hb' : W.heap[B]? = some (.cells #[x] t) := hb
  have off : ∀ {t' : TypeId} {u : Value}, Ty9 lo t' W u → t ≠ t' → ∀ a m c, u = .slice (some a) m c → some a.block ≠ some B := fun hu hne a m c e e9 => by
    injection e9 with e9
    rcases (hu a m c e).2 with h9 | ⟨cur, h9⟩
    · omega
    · rw [e9, hb'] at h9
      injection h9 with h9
      injection h9 with _ h9
      exact hne h9
  refine ⟨h.t.kept hg ?_, h.r.kept hg ?_, fun i hi => ?_, fun i hi => ?_⟩
  · cases e : vt.ownBlock with
    | none => exact .inl rfl
    | some g => exact .inr fun e9 => hB g (.inl e) (by injection e9)
  · cases e : vr.ownBlock with
    | none => exact .inl rfl
    | some g => exact .inr fun e9 => hB g (.inr e) (by injection e9)
  · obtain ⟨q1, q2⟩ := h.tr i hi
    exact ⟨rdN_grown q1 (off q2 h1) hg, q2.grown (off q2 h1) hg⟩
  · obtain ⟨q1, q2, q3⟩ := h.rr i hi
    exact ⟨rdO_grown q1 (off q2 h2) hg, q2.grown (off q2 h2) hg, q3⟩


/-- The rows, and the mixed tree in its box. -/
structure F2 (w : World) (lo FX : Nat) (vt vr : Value) (ut ur : List Value) (Ts : List (List Nd)) (Rs : List (List Op5)) (vf : Value) (F : List Nd) (W : World) : Prop where
  f1 : F1 lo vt vr ut ur Ts Rs W
  box : Boxed W FX 25 vf
  own : OwnN 42 W FX vf F
  bel : Below w.heap.size w W
theorem F2.later {w : World} {lo FX : Nat} {vt vr : Value} {ut ur : List Value} {Ts : List (List Nd)} {Rs : List (List Op5)} {vf : Value} {F : List Nd} {W W' : World} (h : F2 w lo FX vt vr ut ur Ts Rs vf F W) (hb : Below W.heap.size W W') : F2 w lo FX vt vr ut ur Ts Rs vf F W' :=
  ⟨h.f1.below hb, boxed_below hb h.box, h.own.below hb, h.bel.trans (hb.mono h.bel.size)⟩
theorem F2.store {w : World} {lo FX : Nat} {vt vr : Value} {ut ur : List Value} {Ts : List (List Nd)} {Rs : List (List Op5)} {vf v' : Value} {F F' : List Nd} {W : World} (h : F2 w lo FX vt vr ut ur Ts Rs vf F W) (hlo : lo ≤ FX) (hw : w.heap.size ≤ lo) (hB : ∀ g, vt.ownBlock = some g ∨ vr.ownBlock = some g → g < FX) (ho : OwnN 42 W FX v' F') : F2 w lo FX vt vr ut ur Ts Rs v' F' (W.setCell ⟨FX, 0, none⟩ v') := by
  have hg : W.grownBy (W.setCell ⟨FX, 0, none⟩ v') (some FX) := ⟨rfl, rfl, rfl, by simp, fun k _ hne => Below.heap_setCell _ _ _ _ (fun e => hne (by rw [e]))⟩
  refine ⟨h.f1.box (fun g e => by have := hB g e; omega) h.box (by decide) (by decide) hlo _, h.box.set _, World.ownsRow.kept ho hg ?_, h.bel.setCell (by show _ ≤ FX; omega) _⟩
  rcases ho.2 with ⟨rfl, -⟩ | ⟨g, cap, cur, rfl, -, hgg, -⟩
  · exact .inl rfl
  · refine .inr fun e => ?_
    simp only [Value.ownBlock, Option.some.injEq] at e
    have hb : W.heap[FX]? = some (.cells #[vf] 25) := h.box
    rw [e, hb] at hgg
    injection hgg with hgg
    injection hgg with _ h9
    cases h9

theorem isP_iff (p : ByteArray) (n : Nd) : isP p n = true ↔ n.path = p := by
  unfold isP
  rw [beq_iff_eq, ba_listR, ba_listR]
  constructor
  · intro h
    cases hp : p with
    | mk a =>
      cases hq : n.path with
      | mk b =>
        rw [hp, hq] at h
        have : b = a := by
          have h9 : b.toList = a.toList := h
          exact Array.toList_inj.1 h9
        rw [this]
  · intro h; rw [h]
/-- What lwFind answers: no such node, or where it stands. -/
theorem fdV_split (ns : List Nd) (p : ByteArray) : (fdV ns p = -1 ∧ ∀ m ∈ ns, m.path ≠ p) ∨ ∃ j : Nat, j < ns.length ∧ fdV ns p = (j : Int) ∧ nAt ns j ∈ ns ∧ (nAt ns j).path = p := by
  unfold fdV
  by_cases h : ns.findIdx (isP p) < ns.length
  · rw [if_pos h]
    refine .inr ⟨_, h, rfl, ?_, ?_⟩
    · rw [nAt_get h]; exact List.getElem_mem h
    · rw [nAt_get h]
      exact (isP_iff p _).1 (List.findIdx_getElem (w := h))
  · rw [if_neg h]
    refine .inl ⟨rfl, fun m hm e => h ?_⟩
    exact List.findIdx_lt_length_of_exists ⟨m, hm, (isP_iff p m).2 e⟩

end Go.Proofs.YtdiingonnddkcaaGreatDoor


