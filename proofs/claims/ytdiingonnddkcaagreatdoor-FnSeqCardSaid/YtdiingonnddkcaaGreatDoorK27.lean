import Derived.Test.YtdiingonnddkcaaGreatDoorK21
import Derived.Test.YtdiingonnddkcaaGreatDoorK26
import Derived.Test.YtdiingonnddkcaaGreatDoorK17
import Derived.Test.YtdiingonnddkcaaGreatDoorK19
import Derived.Test.YtdiingonnddkcaaGreatDoorK07
namespace Go.Proofs.YtdiingonnddkcaaGreatDoor
open Go.RowKit Go.Shelf

/-- One operation in a slice of its own. -/
theorem rdO_one9 {w : World} {g : Nat} {o : Op5} {A : Array Value} {t : TypeId} (h : w.heap[g]? = some (.cells A t (0, 0))) (hA : A = #[.int .i64 o.kind, .string o.path, .string o.data, .int .i64 o.ver, .bool o.seq]) : RdO w (.slice (some ⟨g, 0, none⟩) 1 1) [o] := by
  subst hA
  refine ⟨some ⟨g, 0, none⟩, 1, rfl, Nat.le_refl _, by unfold maxLen; omega, .inr ⟨g, 0, rfl, (Array.getElem?_eq_some_iff.1 h).1, fun i hi => ?_⟩⟩
  have : i = 0 := by simpa using hi
  subst this
  exact ⟨(cell_of h _).trans rfl, (cell_of h _).trans rfl, (cell_of h _).trans rfl, (cell_of h _).trans rfl, (cell_of h _).trans rfl⟩

theorem ba_list (p : ByteArray) : p.toList = p.data.toList := by
  cases p with
  | mk a =>
    cases a with
    | mk l =>
      have e : (⟨l.toArray⟩ : ByteArray).toList = l := by simp
      exact e
theorem rdN_cells {W : World} {b o c : Nat} {ns : List Nd} (h : RdN W (.slice (some ⟨b, o, none⟩) ns.length c) ns) {i : Nat} (hi : i < ns.length) : CellsN W b (o + i * 7) (nAt ns i) := by
  obtain ⟨ao, cap, e, -, -, h3⟩ := h
  simp only [Value.slice.injEq] at e
  obtain ⟨rfl, -, -⟩ := e
  rcases h3 with h3 | ⟨b', off', e', -, hc⟩
  · rw [h3] at hi; simp at hi
  · simp only [Option.some.injEq, Addr.mk.injEq, and_true] at e'
    obtain ⟨rfl, rfl⟩ := e'
    exact hc i hi

/-- What the law holds when the first answer is there. -/
structure Lq1 (w : World) (TB QB PO NB : Nat) (vt vq : Value) (ns : List Nd) (o : Op5) (n : Nd) (c i zz : Int) (L : List (List UInt8)) (es : List Ef) (lo : Nat) (vn ve : Value) (W : World) : Prop where
  x : Boxed W TB 25 vt
  q : Boxed W QB 28 vq
  p : St W PO [.int .i64 c, .int .i64 i, vn, .int .i64 zz, ve]
  nb : St W NB [.string n.path, .string n.data, .int .i64 n.ver, .int .i64 n.cver, .int .i64 n.cz, .int .i64 n.mz, .int .i64 n.pz]
  rd : RdN W vt ns
  rq : RdO W vq [o]
  s : OwnS W lo vn L
  e : OwnE 59 W lo ve es
  bel : Below w.heap.size w W
theorem Lq1.later {w : World} {TB QB PO NB : Nat} {vt vq : Value} {ns : List Nd} {o : Op5} {n : Nd} {c i zz : Int} {L : List (List UInt8)} {es : List Ef} {lo : Nat} {vn ve : Value} {W W' : World} (h : Lq1 w TB QB PO NB vt vq ns o n c i zz L es lo vn ve W) (hb : Below W.heap.size W W') : Lq1 w TB QB PO NB vt vq ns o n c i zz L es lo vn ve W' :=
  ⟨boxed_below hb h.x, boxed_below hb h.q, h.p.below hb, h.nb.below hb, h.rd.below hb, h.rq.below hb, h.s.below hb, h.e.below hb, h.bel.trans (hb.mono h.bel.size)⟩

/-- .. and the second. -/
structure Lq2 (w : World) (TB QB PO NB : Nat) (vt vq : Value) (ns : List Nd) (o : Op5) (n : Nd) (c i zz : Int) (L : List (List UInt8)) (es : List Ef) (lo : Nat) (vn ve : Value) (AB : Nat) (va : Value) (B : List Nd) (la PT : Nat) (c2 i2 z2 : Int) (L2 : List (List UInt8)) (l2 : Nat) (vn2 ve2 : Value) (W : World) : Prop where
  d : Lq1 w TB QB PO NB vt vq ns o n c i zz L es lo vn ve W
  a : Boxed W AB 25 va
  ao : OwnN 42 W la va B
  p : St W PT [.int .i64 c2, .int .i64 i2, vn2, .int .i64 z2, ve2]
  s : OwnS W l2 vn2 L2
theorem Lq2.later {w : World} {TB QB PO NB : Nat} {vt vq : Value} {ns : List Nd} {o : Op5} {n : Nd} {c i zz : Int} {L : List (List UInt8)} {es : List Ef} {lo : Nat} {vn ve : Value} {AB : Nat} {va : Value} {B : List Nd} {la PT : Nat} {c2 i2 z2 : Int} {L2 : List (List UInt8)} {l2 : Nat} {vn2 ve2 : Value} {W W' : World} (h : Lq2 w TB QB PO NB vt vq ns o n c i zz L es lo vn ve AB va B la PT c2 i2 z2 L2 l2 vn2 ve2 W) (hb : Below W.heap.size W W') : Lq2 w TB QB PO NB vt vq ns o n c i zz L es lo vn ve AB va B la PT c2 i2 z2 L2 l2 vn2 ve2 W' := ⟨h.d.later hb, boxed_below hb h.a, h.ao.below hb, h.p.below hb, h.s.below hb⟩
theorem own_cell {W : World} {lo g k c : Nat} {L : List (List UInt8)} (h : W.ownsRow lo 9 1 (.slice (some ⟨g, 0, none⟩) k c) k (L.map sV)) {j : Nat} {l : List UInt8} (hl : L[j]? = some l) : W.cell? ⟨g, j, none⟩ = some (sV l) := by
  have hh : (L.map sV)[j]? = some (sV l) := by rw [List.getElem?_map, hl]; rfl
  have := World.ownsRow.cells h (g := g) rfl j _ hh
  rw [Addr.add_lit, Nat.zero_add] at this
  exact this
theorem own_some {W : World} {lo c : Nat} {a : Option Addr} {L : List (List UInt8)} (h : OwnS W lo (.slice a L.length c) L) (hl : 0 < L.length) : ∃ g, a = some ⟨g, 0, none⟩ := by
  rcases h.2 with ⟨e, h0⟩ | ⟨g, cap, cur, e, -⟩
  · omega
  · cases e; exact ⟨g, rfl⟩
theorem field_prep3 (x0 x1 x2 x3 x4 : Value) (W : World) : (Instr.field 37 (.agg #[x0, x1, x2, x3, x4]) 3).run Tryz.prog W = .ok (.agg #[x3, x4]) W := by kernel_rfl

theorem resC_sz (ns : List Nd) (p : ByteArray) : (resC ns p).length ≤ 1000 ∧ ∀ l ∈ resC ns p, l.length ≤ 102 := by
  unfold resC
  split
  · rename_i h
    simp only [Bool.and_eq_true] at h
    have hs := okTree_snd.1 h.1
    unfold chL
    rw [List.length_map]
    refine ⟨Nat.le_trans (chN_len ns p) hs.2.2, fun l hl => ?_⟩
    obtain ⟨m, hm, rfl⟩ := List.mem_map.1 hl
    have hmn : m ∈ ns := (List.mem_filter.1 hm).1
    have hp := okNd_path (hs.2.1 m hmn)
    obtain ⟨a1, a0⟩ := okPath_head hp
    have e := congrArg List.length (path_split a1 a0)
    have e2 : m.path.data.toList.length = m.path.size := by rw [Array.length_toList]; rfl
    have e3 := okPath_size hp
    rw [e2] at e
    simp only [List.length_append, List.length_cons] at e
    omega
  · exact ⟨Nat.zero_le _, fun l hl => by cases hl⟩
theorem sV_ba (s : ByteArray) : sV s.data.toList = .string s := by unfold sV; simp

set_option linter.unusedSimpArgs false in
set_option maxHeartbeats 20000000 in
set_option maxRecDepth 100000 in
theorem lawSeq_walk (w : World) (v : Value) (cs : List Int) (h : Rd .u8 w v cs) (hby : Byt cs) (vm : Value) (ms : List Int) (hm : Rd .u8 w vm ms) (hbm : Byt ms)
    (hg : w.cell? ⟨0, 0, none⟩ = some (.iface 171 (.agg #[.pointer (some ⟨7, 77, none⟩)]))) (h0 : 0 < w.heap.size) (htab : Lib.TabIs Tryz.prog w "internal/strconv.uint64pow10" .u64 Lib.pow10Tab) :
    Calls Tryz.prog 3 #[v, vm] w fun e w' => e = .returned (.bool true) ∧ Below w.heap.size w w' := by
  obtain ⟨ca, cc, rfl, hl1, hl2⟩ := h.len
  obtain ⟨ma, mc, rfl, hl3, hl4⟩ := hm.len
  unfold maxLen at hl2 hl4
  by_cases hbig : 1048576 < cs.length
  · have hbI : (1048576 : Int) < (cs.length : Int) := by omega
    go_enter Tryz.func3, Tryz.ntmps3
    go_wp2
    go_ret
    exact ⟨rfl, Below.refl _ _⟩
  have hbI : ¬ (1048576 : Int) < (cs.length : Int) := by omega
  by_cases hbig2 : 1048576 < ms.length
  · have hbJ : (1048576 : Int) < (ms.length : Int) := by omega
    go_enter Tryz.func3, Tryz.ntmps3
    go_wp2
    go_ret
    exact ⟨rfl, Below.refl _ _⟩
  have hbJ : ¬ (1048576 : Int) < (ms.length : Int) := by omega
  obtain ⟨hsz, hnl, -⟩ := prp_szs (srcOf cs) (Nat.min_le_left _ _)
  have HD : Hid (Calls Tryz.prog 6 #[.slice ca cs.length cc] w fun e w' => ∃ v u, e = .returned (.tuple #[.agg #[v], .agg #[u], .int .i64 (srcOf cs).prp.2.2]) ∧ RdN w' v (srcOf cs).prp.1 ∧ RdO w' u (srcOf cs).prp.2.1 ∧ Below w.heap.size w w' ∧ NilOk v) :=
    drawPrep_x w _ cs h hby (by omega)
  have HM := hd9 hm
  have HBM := hd9 hbm
  generalize (srcOf cs).prp = Q at *
  obtain ⟨ns, os, z0⟩ := Q
  replace hsz : ∀ i, (nAt ns i).path.size ≤ 1048576 ∧ (nAt ns i).data.size ≤ 1048576 := hsz
  replace hnl : ns.length ≤ 2000 := hnl
  have HZ := hd9 hsz
  have HSG : Hid (∀ (ms : List Nd) (o : Op5) (z : Int), (∀ i, (nAt ms i).path.size ≤ 1048576 ∧ (nAt ms i).data.size ≤ 1048576) → ms.length ≤ 2000 → (o.path.size ≤ 1048576 ∧ o.data.size ≤ 1048576) → ∀ W va vb, RdN W va ms → RdO W vb [o] → Calls Tryz.prog 9 #[.agg #[va], .agg #[vb], .int .i64 z] W fun e w' => PA W (prF ms [o] z) e w') :=
    fun ms o z q1 q2 q3 W va vb h1 h2 => specP_any W va vb ms [o] z h1 h2 (by omega) q1 (szQ_of (os := [o]) fun x hx => by rw [List.mem_singleton.1 hx]; exact q3)
  have HIG : Hid (∀ (ms : List Nd) (o : Op5) (z : Int), (∀ i, (nAt ms i).path.size ≤ 1048576 ∧ (nAt ms i).data.size ≤ 1048576) → (o.path.size ≤ 1048576 ∧ o.data.size ≤ 1048576) → ∀ W va vb, Below w.heap.size w W → RdN W va ms → RdO W vb [o] → Calls Tryz.prog 8 #[.agg #[va], .agg #[vb], .int .i64 z] W fun e w' => PA W (prF ms [o] z) e w') :=
    fun ms o z q1 q3 W va vb hb h1 h2 => implP_any W va vb ms [o] z h1 h2 q1 (szQ_of (os := [o]) fun x hx => by rw [List.mem_singleton.1 hx]; exact q3) ((hb.cell (p := ⟨0, 0, none⟩) h0).trans hg) (Nat.lt_of_lt_of_le h0 hb.size) (tab_below htab hb)
  clear hsz h hm hby hbm hg htab h0
  go_enter Tryz.func3, Tryz.ntmps3
  go_wp2_with fail
  refine HD.out.mono ?_
  rintro e w1 ⟨v1, u1, rfl, r1, q1, b1, n1⟩
  clear HD
  have NK := hd9 n1
  have hTB := b1.size
  obtain ⟨av, cv, hv, -⟩ := r1.len
  subst hv
  obtain ⟨au, cu, hu, -⟩ := q1.len
  subst hu
  have bA1 : Below w1.heap.size w1 (w1.alloc (.cells #[.slice av ns.length cv] 25)) := (Below.refl _ _).alloc (Nat.le_refl _) _
  have bA2 : Below (w1.alloc (.cells #[.slice av ns.length cv] 25)).heap.size (w1.alloc (.cells #[.slice av ns.length cv] 25)) ((w1.alloc (.cells #[.slice av ns.length cv] 25)).alloc (.cells #[.slice au os.length cu] 28)) := (Below.refl _ _).alloc (Nat.le_refl _) _
  have bA := bA1.trans (bA2.mono bA1.size)
  have X2 := hd9 (boxed_below bA2 (Boxed.new w1 25 (.slice av ns.length cv)))
  have B2 := hd9 (b1.trans (bA.mono b1.size))
  have RD2 := hd9 (r1.below bA)
  clear bA1 bA2 bA b1 r1 q1 n1
  go_wp2_with fail
  generalize (w1.alloc (.cells #[.slice av ns.length cv] 25)).alloc (.cells #[.slice au os.length cu] 28) = w2 at *
  generalize w1.heap.size = TB at *
  refine (specTree_any w2 _ ns RD2.out (by omega) HZ.out).mono ?_
  rintro e w3 ⟨rfl, b3⟩
  have X3 := hd9 (boxed_below b3 X2.out)
  have B3 := hd9 (B2.out.trans (b3.mono B2.out.size))
  have RD3 := hd9 (RD2.out.below b3)
  clear b3 X2 B2 RD2
  by_cases hok : okTree ns = true
  case neg =>
    have hokf : okTree ns = false := by simpa using hok
    rw [hokf]
    go_wp2_with fail
    have bD : Below w3.heap.size w3 w3.drew := below_drewN' w3 1
    refine wp_region_held_drew (S := fun W => Boxed W TB 25 (.slice av ns.length cv)) (by kernel_rfl) (boxed_below bD X3.out) (fun hHeld => ?_)
    have RD0 := hd9 (RD3.out.below bD)
    have B0 := hd9 (B3.out.trans (bD.mono B3.out.size))
    clear RD3 B3 X3 bD
    have HS5 := hd9 (HSG.out ns ⟨1, ⟨#[47, 115]⟩, ⟨#[]⟩, 0, true⟩ 7 HZ.out hnl (show (⟨#[47, 115]⟩ : ByteArray).size ≤ 1048576 ∧ (⟨#[]⟩ : ByteArray).size ≤ 1048576 from ⟨by show 2 ≤ _; omega, by show 0 ≤ _; omega⟩))
    have HI5 := hd9 (HIG.out ns ⟨1, ⟨#[47, 115]⟩, ⟨#[]⟩, 0, true⟩ 7 HZ.out (show (⟨#[47, 115]⟩ : ByteArray).size ≤ 1048576 ∧ (⟨#[]⟩ : ByteArray).size ≤ 1048576 from ⟨by show 2 ≤ _; omega, by show 0 ≤ _; omega⟩))
    generalize prF ns [⟨1, ⟨#[47, 115]⟩, ⟨#[]⟩, 0, true⟩] 7 = A5 at *
    obtain ⟨c5, i5, z5, L5, e5⟩ := A5
    clear HSG HIG
    generalize w3.drew = m0 at *
    refine wpAnyH_take (i := 0) (oi := { dst := some 40, op := _, type := _, pos := _, after := _, guard := _ }) (v := (.agg #[.slice av ns.length cv])) rfl (by kernel_rfl) (by kernel_rfl) (by kernel_rfl) (fun _ _ _ h => h) (Or.inl ⟨by rfl, fun w9 hS9 => by (have h9 := Boxed.cell hS9; clear hS9; go_simp; try with_reducible rfl)⟩) (by assumption) ?_
    try simp only [Act.put, List.setIfInBounds_toArray, List.set_cons_zero, List.set_cons_succ]
    refine wpAnyH_take (i := 1) (oi := { dst := some 41, op := _, type := _, pos := _, after := _, guard := _ }) (v := (.agg #[.int .i64 1, .string ⟨#[47, 115]⟩, .string ⟨#[]⟩, .int .i64 0, .bool true])) rfl (by kernel_rfl) (by kernel_rfl) (by kernel_rfl) (fun _ _ _ h => h) (Or.inl ⟨by rfl, fun w9 hS9 => by (clear hS9; go_simp; try with_reducible rfl)⟩) (by assumption) ?_
    try simp only [Act.put, List.setIfInBounds_toArray, List.set_cons_zero, List.set_cons_succ]
    refine wpAnyH_take (i := 6) (oi := { dst := some 46, op := _, type := _, pos := _, after := _, guard := _ }) (v := (.agg #[.slice av ns.length cv])) rfl (by kernel_rfl) (by kernel_rfl) (by kernel_rfl) (fun _ _ _ h => h) (Or.inl ⟨by rfl, fun w9 hS9 => by (have h9 := Boxed.cell hS9; clear hS9; go_simp; try with_reducible rfl)⟩) (by assumption) ?_
    try simp only [Act.put, List.setIfInBounds_toArray, List.set_cons_zero, List.set_cons_succ]
    refine wpAnyH_take (i := 7) (oi := { dst := some 47, op := _, type := _, pos := _, after := _, guard := _ }) (v := (.agg #[.int .i64 1, .string ⟨#[47, 115]⟩, .string ⟨#[]⟩, .int .i64 0, .bool true])) rfl (by kernel_rfl) (by kernel_rfl) (by kernel_rfl) (fun _ _ _ h => h) (Or.inl ⟨by rfl, fun w9 hS9 => by (clear hS9; go_simp; try with_reducible rfl)⟩) (by assumption) ?_
    try simp only [Act.put, List.setIfInBounds_toArray, List.set_cons_zero, List.set_cons_succ]
    refine wpAnyH_ready (rs := [2, 8]) (by kernel_rfl) (by simp) ?_
    refine (AllReadyH.cons (o := { dst := some 42, op := _, type := _, pos := _, after := _, guard := _ }) rfl (fun K hK => ?_) (AllReadyH.cons (o := { dst := some 48, op := _, type := _, pos := _, after := _, guard := _ }) rfl (fun K hK => ?_) AllReadyH.nil))
    · have bN : Below m0.heap.size m0 (m0.alloc (.cells #[.int .i64 1, .string ⟨#[47, 115]⟩, .string ⟨#[]⟩, .int .i64 0, .bool true] 40)) := (Below.refl _ _).alloc (Nat.le_refl _) _
      have RQ1 := hd9 (rdO_one9 (o := ⟨1, ⟨#[47, 115]⟩, ⟨#[]⟩, 0, true⟩) (heap_alloc_new m0 (.cells #[.int .i64 1, .string ⟨#[47, 115]⟩, .string ⟨#[]⟩, .int .i64 0, .bool true] 40)) rfl)
      have H9 := boxed_below bN hHeld
      replace RD0 := hd9 (RD0.out.below bN)
      replace B0 := hd9 (B0.out.trans (bN.mono B0.out.size))
      go_simp
      refine hK.out _ _ H9 (fun hx9 => ?_)
      clear hK K hHeld
      have hHeld := hx9
      clear hx9 H9 bN
      try simp only [Act.put, List.setIfInBounds_toArray, List.set_cons_zero, List.set_cons_succ]
      generalize m0.alloc (.cells #[.int .i64 1, .string ⟨#[47, 115]⟩, .string ⟨#[]⟩, .int .i64 0, .bool true] 40) = m1 at *
      generalize m0.heap.size = b1 at *
      refine wpAnyH_take (i := 3) (oi := { dst := some 43, op := _, type := _, pos := _, after := _, guard := _ }) (v := (.agg #[.slice (some ⟨b1, 0, none⟩) 1 1])) rfl (by kernel_rfl) (by kernel_rfl) (by kernel_rfl) (fun _ _ _ h => h) (Or.inl ⟨by rfl, fun w9 hS9 => by (clear hS9; go_simp; try with_reducible rfl)⟩) (by assumption) ?_
      try simp only [Act.put, List.setIfInBounds_toArray, List.set_cons_zero, List.set_cons_succ]
      refine wpAnyH_ready (rs := [4, 8]) (by kernel_rfl) (by simp) ?_
      refine (AllReadyH.cons (o := { dst := some 44, op := _, type := _, pos := _, after := _, guard := _ }) rfl (fun K hK => ?_) (AllReadyH.cons (o := { dst := some 48, op := _, type := _, pos := _, after := _, guard := _ }) rfl (fun K hK => ?_) AllReadyH.nil))
      · go_simp
        refine (HI5.out m1 _ _ B0.out RD0.out RQ1.out).mono ?_
        rintro e m2 ⟨vn4, ve4, rfl, on, oe, bN⟩
        obtain ⟨an4, kn4, hv⟩ := OwnS.slice on
        subst hv
        obtain ⟨ae4, ke4, hv⟩ := oe.slice
        subst hv
        have H9 := boxed_below bN hHeld
        replace RD0 := hd9 (RD0.out.below bN)
        replace B0 := hd9 (B0.out.trans (bN.mono B0.out.size))
        refine hK.out _ _ H9 (fun hx9 => ?_)
        clear hK K hHeld
        have hHeld := hx9
        clear hx9 H9 bN on oe
        try simp only [Act.put, List.setIfInBounds_toArray, List.set_cons_zero, List.set_cons_succ]
        refine wpAnyH_take (i := 5) (oi := { dst := some 45, op := _, type := _, pos := _, after := _, guard := _ }) (v := (.int .i64 c5)) rfl (by kernel_rfl) (by kernel_rfl) (by kernel_rfl) (fun _ _ _ h => h) (Or.inl ⟨by rfl, fun w9 hS9 => by (have hf9 := field_prep (.int .i64 c5) (.int .i64 i5) (.slice an4 L5.length kn4) (.int .i64 z5) (.slice ae4 e5.length ke4) w9; clear hS9; go_simp; try with_reducible rfl)⟩) (by assumption) ?_
        try simp only [Act.put, List.setIfInBounds_toArray, List.set_cons_zero, List.set_cons_succ]
        refine wpAnyH_ready (rs := [8]) (by kernel_rfl) (by simp) ?_
        refine (AllReadyH.cons (o := { dst := some 48, op := _, type := _, pos := _, after := _, guard := _ }) rfl (fun K hK => ?_) AllReadyH.nil)
        have bN : Below m2.heap.size m2 (m2.alloc (.cells #[.int .i64 1, .string ⟨#[47, 115]⟩, .string ⟨#[]⟩, .int .i64 0, .bool true] 40)) := (Below.refl _ _).alloc (Nat.le_refl _) _
        have RQ2 := hd9 (rdO_one9 (o := ⟨1, ⟨#[47, 115]⟩, ⟨#[]⟩, 0, true⟩) (heap_alloc_new m2 (.cells #[.int .i64 1, .string ⟨#[47, 115]⟩, .string ⟨#[]⟩, .int .i64 0, .bool true] 40)) rfl)
        have H9 := boxed_below bN hHeld
        replace RD0 := hd9 (RD0.out.below bN)
        replace B0 := hd9 (B0.out.trans (bN.mono B0.out.size))
        go_simp
        refine hK.out _ _ H9 (fun hx9 => ?_)
        clear hK K hHeld
        have hHeld := hx9
        clear hx9 H9 bN
        try simp only [Act.put, List.setIfInBounds_toArray, List.set_cons_zero, List.set_cons_succ]
        generalize m2.alloc (.cells #[.int .i64 1, .string ⟨#[47, 115]⟩, .string ⟨#[]⟩, .int .i64 0, .bool true] 40) = m3 at *
        generalize m2.heap.size = b2 at *
        refine wpAnyH_take (i := 9) (oi := { dst := some 49, op := _, type := _, pos := _, after := _, guard := _ }) (v := (.agg #[.slice (some ⟨b2, 0, none⟩) 1 1])) rfl (by kernel_rfl) (by kernel_rfl) (by kernel_rfl) (fun _ _ _ h => h) (Or.inl ⟨by rfl, fun w9 hS9 => by (clear hS9; go_simp; try with_reducible rfl)⟩) (by assumption) ?_
        try simp only [Act.put, List.setIfInBounds_toArray, List.set_cons_zero, List.set_cons_succ]
        refine wpAnyH_ready (rs := [10]) (by kernel_rfl) (by simp) ?_
        refine (AllReadyH.cons (o := { dst := some 50, op := _, type := _, pos := _, after := _, guard := _ }) rfl (fun K hK => ?_) AllReadyH.nil)
        go_simp
        refine (HS5.out m3 _ _ RD0.out RQ2.out).mono ?_
        rintro e m4 ⟨vn10, ve10, rfl, on, oe, bN⟩
        obtain ⟨an10, kn10, hv⟩ := OwnS.slice on
        subst hv
        obtain ⟨ae10, ke10, hv⟩ := oe.slice
        subst hv
        have H9 := boxed_below bN hHeld
        replace RD0 := hd9 (RD0.out.below bN)
        replace B0 := hd9 (B0.out.trans (bN.mono B0.out.size))
        refine hK.out _ _ H9 (fun hx9 => ?_)
        clear hK K hHeld
        have hHeld := hx9
        clear hx9 H9 bN on oe
        try simp only [Act.put, List.setIfInBounds_toArray, List.set_cons_zero, List.set_cons_succ]
        refine wpAnyH_take (i := 11) (oi := { dst := some 51, op := _, type := _, pos := _, after := _, guard := _ }) (v := (.int .i64 c5)) rfl (by kernel_rfl) (by kernel_rfl) (by kernel_rfl) (fun _ _ _ h => h) (Or.inl ⟨by rfl, fun w9 hS9 => by (have hf9 := field_prep (.int .i64 c5) (.int .i64 i5) (.slice an10 L5.length kn10) (.int .i64 z5) (.slice ae10 e5.length ke10) w9; clear hS9; go_simp; try with_reducible rfl)⟩) (by assumption) ?_
        try simp only [Act.put, List.setIfInBounds_toArray, List.set_cons_zero, List.set_cons_succ]
        refine wpAnyH_take (i := 12) (oi := { dst := some 52, op := _, type := _, pos := _, after := _, guard := _ }) (v := (.bool true)) rfl (by kernel_rfl) (by kernel_rfl) (by kernel_rfl) (fun _ _ _ h => h) (Or.inl ⟨by rfl, fun w9 hS9 => by (clear hS9; go_simp; try simp)⟩) (by assumption) ?_
        try simp only [Act.put, List.setIfInBounds_toArray, List.set_cons_zero, List.set_cons_succ]
        refine wpAnyH_take (i := 13) (oi := { dst := some 4, op := _, type := _, pos := _, after := _, guard := _ }) (v := (.bool true)) rfl (by kernel_rfl) (by kernel_rfl) (by kernel_rfl) (fun _ _ _ h => h) (Or.inl ⟨by rfl, fun w9 hS9 => by (clear hS9; go_simp; try with_reducible rfl)⟩) (by assumption) ?_
        try simp only [Act.put, List.setIfInBounds_toArray, List.set_cons_zero, List.set_cons_succ]
        refine wpAnyH_done (by kernel_rfl) ?_ _
        clear hHeld
        go_wp2
        go_ret
        exact ⟨rfl, B0.out⟩
      · have bN : Below m1.heap.size m1 (m1.alloc (.cells #[.int .i64 1, .string ⟨#[47, 115]⟩, .string ⟨#[]⟩, .int .i64 0, .bool true] 40)) := (Below.refl _ _).alloc (Nat.le_refl _) _
        have RQ2 := hd9 (rdO_one9 (o := ⟨1, ⟨#[47, 115]⟩, ⟨#[]⟩, 0, true⟩) (heap_alloc_new m1 (.cells #[.int .i64 1, .string ⟨#[47, 115]⟩, .string ⟨#[]⟩, .int .i64 0, .bool true] 40)) rfl)
        have H9 := boxed_below bN hHeld
        replace RD0 := hd9 (RD0.out.below bN)
        replace B0 := hd9 (B0.out.trans (bN.mono B0.out.size))
        replace RQ1 := hd9 (RQ1.out.below bN)
        go_simp
        refine hK.out _ _ H9 (fun hx9 => ?_)
        clear hK K hHeld
        have hHeld := hx9
        clear hx9 H9 bN
        try simp only [Act.put, List.setIfInBounds_toArray, List.set_cons_zero, List.set_cons_succ]
        generalize m1.alloc (.cells #[.int .i64 1, .string ⟨#[47, 115]⟩, .string ⟨#[]⟩, .int .i64 0, .bool true] 40) = m5 at *
        generalize m1.heap.size = b2 at *
        refine wpAnyH_take (i := 9) (oi := { dst := some 49, op := _, type := _, pos := _, after := _, guard := _ }) (v := (.agg #[.slice (some ⟨b2, 0, none⟩) 1 1])) rfl (by kernel_rfl) (by kernel_rfl) (by kernel_rfl) (fun _ _ _ h => h) (Or.inl ⟨by rfl, fun w9 hS9 => by (clear hS9; go_simp; try with_reducible rfl)⟩) (by assumption) ?_
        try simp only [Act.put, List.setIfInBounds_toArray, List.set_cons_zero, List.set_cons_succ]
        refine wpAnyH_ready (rs := [4]) (by kernel_rfl) (by simp) ?_
        refine (AllReadyH.cons (o := { dst := some 44, op := _, type := _, pos := _, after := _, guard := _ }) rfl (fun K hK => ?_) AllReadyH.nil)
        go_simp
        refine (HI5.out m5 _ _ B0.out RD0.out RQ1.out).mono ?_
        rintro e m6 ⟨vn4, ve4, rfl, on, oe, bN⟩
        obtain ⟨an4, kn4, hv⟩ := OwnS.slice on
        subst hv
        obtain ⟨ae4, ke4, hv⟩ := oe.slice
        subst hv
        have H9 := boxed_below bN hHeld
        replace RD0 := hd9 (RD0.out.below bN)
        replace B0 := hd9 (B0.out.trans (bN.mono B0.out.size))
        replace RQ2 := hd9 (RQ2.out.below bN)
        refine hK.out _ _ H9 (fun hx9 => ?_)
        clear hK K hHeld
        have hHeld := hx9
        clear hx9 H9 bN on oe
        try simp only [Act.put, List.setIfInBounds_toArray, List.set_cons_zero, List.set_cons_succ]
        refine wpAnyH_take (i := 5) (oi := { dst := some 45, op := _, type := _, pos := _, after := _, guard := _ }) (v := (.int .i64 c5)) rfl (by kernel_rfl) (by kernel_rfl) (by kernel_rfl) (fun _ _ _ h => h) (Or.inl ⟨by rfl, fun w9 hS9 => by (have hf9 := field_prep (.int .i64 c5) (.int .i64 i5) (.slice an4 L5.length kn4) (.int .i64 z5) (.slice ae4 e5.length ke4) w9; clear hS9; go_simp; try with_reducible rfl)⟩) (by assumption) ?_
        try simp only [Act.put, List.setIfInBounds_toArray, List.set_cons_zero, List.set_cons_succ]
        refine wpAnyH_ready (rs := [10]) (by kernel_rfl) (by simp) ?_
        refine (AllReadyH.cons (o := { dst := some 50, op := _, type := _, pos := _, after := _, guard := _ }) rfl (fun K hK => ?_) AllReadyH.nil)
        go_simp
        refine (HS5.out m6 _ _ RD0.out RQ2.out).mono ?_
        rintro e m7 ⟨vn10, ve10, rfl, on, oe, bN⟩
        obtain ⟨an10, kn10, hv⟩ := OwnS.slice on
        subst hv
        obtain ⟨ae10, ke10, hv⟩ := oe.slice
        subst hv
        have H9 := boxed_below bN hHeld
        replace RD0 := hd9 (RD0.out.below bN)
        replace B0 := hd9 (B0.out.trans (bN.mono B0.out.size))
        refine hK.out _ _ H9 (fun hx9 => ?_)
        clear hK K hHeld
        have hHeld := hx9
        clear hx9 H9 bN on oe
        try simp only [Act.put, List.setIfInBounds_toArray, List.set_cons_zero, List.set_cons_succ]
        refine wpAnyH_take (i := 11) (oi := { dst := some 51, op := _, type := _, pos := _, after := _, guard := _ }) (v := (.int .i64 c5)) rfl (by kernel_rfl) (by kernel_rfl) (by kernel_rfl) (fun _ _ _ h => h) (Or.inl ⟨by rfl, fun w9 hS9 => by (have hf9 := field_prep (.int .i64 c5) (.int .i64 i5) (.slice an10 L5.length kn10) (.int .i64 z5) (.slice ae10 e5.length ke10) w9; clear hS9; go_simp; try with_reducible rfl)⟩) (by assumption) ?_
        try simp only [Act.put, List.setIfInBounds_toArray, List.set_cons_zero, List.set_cons_succ]
        refine wpAnyH_take (i := 12) (oi := { dst := some 52, op := _, type := _, pos := _, after := _, guard := _ }) (v := (.bool true)) rfl (by kernel_rfl) (by kernel_rfl) (by kernel_rfl) (fun _ _ _ h => h) (Or.inl ⟨by rfl, fun w9 hS9 => by (clear hS9; go_simp; try simp)⟩) (by assumption) ?_
        try simp only [Act.put, List.setIfInBounds_toArray, List.set_cons_zero, List.set_cons_succ]
        refine wpAnyH_take (i := 13) (oi := { dst := some 4, op := _, type := _, pos := _, after := _, guard := _ }) (v := (.bool true)) rfl (by kernel_rfl) (by kernel_rfl) (by kernel_rfl) (fun _ _ _ h => h) (Or.inl ⟨by rfl, fun w9 hS9 => by (clear hS9; go_simp; try with_reducible rfl)⟩) (by assumption) ?_
        try simp only [Act.put, List.setIfInBounds_toArray, List.set_cons_zero, List.set_cons_succ]
        refine wpAnyH_done (by kernel_rfl) ?_ _
        clear hHeld
        go_wp2
        go_ret
        exact ⟨rfl, B0.out⟩
    · have bN : Below m0.heap.size m0 (m0.alloc (.cells #[.int .i64 1, .string ⟨#[47, 115]⟩, .string ⟨#[]⟩, .int .i64 0, .bool true] 40)) := (Below.refl _ _).alloc (Nat.le_refl _) _
      have RQ2 := hd9 (rdO_one9 (o := ⟨1, ⟨#[47, 115]⟩, ⟨#[]⟩, 0, true⟩) (heap_alloc_new m0 (.cells #[.int .i64 1, .string ⟨#[47, 115]⟩, .string ⟨#[]⟩, .int .i64 0, .bool true] 40)) rfl)
      have H9 := boxed_below bN hHeld
      replace RD0 := hd9 (RD0.out.below bN)
      replace B0 := hd9 (B0.out.trans (bN.mono B0.out.size))
      go_simp
      refine hK.out _ _ H9 (fun hx9 => ?_)
      clear hK K hHeld
      have hHeld := hx9
      clear hx9 H9 bN
      try simp only [Act.put, List.setIfInBounds_toArray, List.set_cons_zero, List.set_cons_succ]
      generalize m0.alloc (.cells #[.int .i64 1, .string ⟨#[47, 115]⟩, .string ⟨#[]⟩, .int .i64 0, .bool true] 40) = m8 at *
      generalize m0.heap.size = b2 at *
      refine wpAnyH_take (i := 9) (oi := { dst := some 49, op := _, type := _, pos := _, after := _, guard := _ }) (v := (.agg #[.slice (some ⟨b2, 0, none⟩) 1 1])) rfl (by kernel_rfl) (by kernel_rfl) (by kernel_rfl) (fun _ _ _ h => h) (Or.inl ⟨by rfl, fun w9 hS9 => by (clear hS9; go_simp; try with_reducible rfl)⟩) (by assumption) ?_
      try simp only [Act.put, List.setIfInBounds_toArray, List.set_cons_zero, List.set_cons_succ]
      refine wpAnyH_ready (rs := [2]) (by kernel_rfl) (by simp) ?_
      refine (AllReadyH.cons (o := { dst := some 42, op := _, type := _, pos := _, after := _, guard := _ }) rfl (fun K hK => ?_) AllReadyH.nil)
      have bN : Below m8.heap.size m8 (m8.alloc (.cells #[.int .i64 1, .string ⟨#[47, 115]⟩, .string ⟨#[]⟩, .int .i64 0, .bool true] 40)) := (Below.refl _ _).alloc (Nat.le_refl _) _
      have RQ1 := hd9 (rdO_one9 (o := ⟨1, ⟨#[47, 115]⟩, ⟨#[]⟩, 0, true⟩) (heap_alloc_new m8 (.cells #[.int .i64 1, .string ⟨#[47, 115]⟩, .string ⟨#[]⟩, .int .i64 0, .bool true] 40)) rfl)
      have H9 := boxed_below bN hHeld
      replace RD0 := hd9 (RD0.out.below bN)
      replace B0 := hd9 (B0.out.trans (bN.mono B0.out.size))
      replace RQ2 := hd9 (RQ2.out.below bN)
      go_simp
      refine hK.out _ _ H9 (fun hx9 => ?_)
      clear hK K hHeld
      have hHeld := hx9
      clear hx9 H9 bN
      try simp only [Act.put, List.setIfInBounds_toArray, List.set_cons_zero, List.set_cons_succ]
      generalize m8.alloc (.cells #[.int .i64 1, .string ⟨#[47, 115]⟩, .string ⟨#[]⟩, .int .i64 0, .bool true] 40) = m9 at *
      generalize m8.heap.size = b1 at *
      refine wpAnyH_take (i := 3) (oi := { dst := some 43, op := _, type := _, pos := _, after := _, guard := _ }) (v := (.agg #[.slice (some ⟨b1, 0, none⟩) 1 1])) rfl (by kernel_rfl) (by kernel_rfl) (by kernel_rfl) (fun _ _ _ h => h) (Or.inl ⟨by rfl, fun w9 hS9 => by (clear hS9; go_simp; try with_reducible rfl)⟩) (by assumption) ?_
      try simp only [Act.put, List.setIfInBounds_toArray, List.set_cons_zero, List.set_cons_succ]
      refine wpAnyH_ready (rs := [4]) (by kernel_rfl) (by simp) ?_
      refine (AllReadyH.cons (o := { dst := some 44, op := _, type := _, pos := _, after := _, guard := _ }) rfl (fun K hK => ?_) AllReadyH.nil)
      go_simp
      refine (HI5.out m9 _ _ B0.out RD0.out RQ1.out).mono ?_
      rintro e m10 ⟨vn4, ve4, rfl, on, oe, bN⟩
      obtain ⟨an4, kn4, hv⟩ := OwnS.slice on
      subst hv
      obtain ⟨ae4, ke4, hv⟩ := oe.slice
      subst hv
      have H9 := boxed_below bN hHeld
      replace RD0 := hd9 (RD0.out.below bN)
      replace B0 := hd9 (B0.out.trans (bN.mono B0.out.size))
      replace RQ2 := hd9 (RQ2.out.below bN)
      refine hK.out _ _ H9 (fun hx9 => ?_)
      clear hK K hHeld
      have hHeld := hx9
      clear hx9 H9 bN on oe
      try simp only [Act.put, List.setIfInBounds_toArray, List.set_cons_zero, List.set_cons_succ]
      refine wpAnyH_take (i := 5) (oi := { dst := some 45, op := _, type := _, pos := _, after := _, guard := _ }) (v := (.int .i64 c5)) rfl (by kernel_rfl) (by kernel_rfl) (by kernel_rfl) (fun _ _ _ h => h) (Or.inl ⟨by rfl, fun w9 hS9 => by (have hf9 := field_prep (.int .i64 c5) (.int .i64 i5) (.slice an4 L5.length kn4) (.int .i64 z5) (.slice ae4 e5.length ke4) w9; clear hS9; go_simp; try with_reducible rfl)⟩) (by assumption) ?_
      try simp only [Act.put, List.setIfInBounds_toArray, List.set_cons_zero, List.set_cons_succ]
      refine wpAnyH_ready (rs := [10]) (by kernel_rfl) (by simp) ?_
      refine (AllReadyH.cons (o := { dst := some 50, op := _, type := _, pos := _, after := _, guard := _ }) rfl (fun K hK => ?_) AllReadyH.nil)
      go_simp
      refine (HS5.out m10 _ _ RD0.out RQ2.out).mono ?_
      rintro e m11 ⟨vn10, ve10, rfl, on, oe, bN⟩
      obtain ⟨an10, kn10, hv⟩ := OwnS.slice on
      subst hv
      obtain ⟨ae10, ke10, hv⟩ := oe.slice
      subst hv
      have H9 := boxed_below bN hHeld
      replace RD0 := hd9 (RD0.out.below bN)
      replace B0 := hd9 (B0.out.trans (bN.mono B0.out.size))
      refine hK.out _ _ H9 (fun hx9 => ?_)
      clear hK K hHeld
      have hHeld := hx9
      clear hx9 H9 bN on oe
      try simp only [Act.put, List.setIfInBounds_toArray, List.set_cons_zero, List.set_cons_succ]
      refine wpAnyH_take (i := 11) (oi := { dst := some 51, op := _, type := _, pos := _, after := _, guard := _ }) (v := (.int .i64 c5)) rfl (by kernel_rfl) (by kernel_rfl) (by kernel_rfl) (fun _ _ _ h => h) (Or.inl ⟨by rfl, fun w9 hS9 => by (have hf9 := field_prep (.int .i64 c5) (.int .i64 i5) (.slice an10 L5.length kn10) (.int .i64 z5) (.slice ae10 e5.length ke10) w9; clear hS9; go_simp; try with_reducible rfl)⟩) (by assumption) ?_
      try simp only [Act.put, List.setIfInBounds_toArray, List.set_cons_zero, List.set_cons_succ]
      refine wpAnyH_take (i := 12) (oi := { dst := some 52, op := _, type := _, pos := _, after := _, guard := _ }) (v := (.bool true)) rfl (by kernel_rfl) (by kernel_rfl) (by kernel_rfl) (fun _ _ _ h => h) (Or.inl ⟨by rfl, fun w9 hS9 => by (clear hS9; go_simp; try simp)⟩) (by assumption) ?_
      try simp only [Act.put, List.setIfInBounds_toArray, List.set_cons_zero, List.set_cons_succ]
      refine wpAnyH_take (i := 13) (oi := { dst := some 4, op := _, type := _, pos := _, after := _, guard := _ }) (v := (.bool true)) rfl (by kernel_rfl) (by kernel_rfl) (by kernel_rfl) (fun _ _ _ h => h) (Or.inl ⟨by rfl, fun w9 hS9 => by (clear hS9; go_simp; try with_reducible rfl)⟩) (by assumption) ?_
      try simp only [Act.put, List.setIfInBounds_toArray, List.set_cons_zero, List.set_cons_succ]
      refine wpAnyH_done (by kernel_rfl) ?_ _
      clear hHeld
      go_wp2
      go_ret
      exact ⟨rfl, B0.out⟩
  rw [hok]
  have x3 := X3.out.cell
  by_cases hne : ns.length = 0
  · have hneI : (ns.length : Int) = 0 := by omega
    go_wp2_with fail
    clear x3 hneI hne
    have bD : Below w3.heap.size w3 w3.drew := below_drewN' w3 1
    refine wp_region_held_drew (S := fun W => Boxed W TB 25 (.slice av ns.length cv)) (by kernel_rfl) (boxed_below bD X3.out) (fun hHeld => ?_)
    have RD0 := hd9 (RD3.out.below bD)
    have B0 := hd9 (B3.out.trans (bD.mono B3.out.size))
    clear RD3 B3 X3 bD
    have HS5 := hd9 (HSG.out ns ⟨1, ⟨#[47, 115]⟩, ⟨#[]⟩, 0, true⟩ 7 HZ.out hnl (show (⟨#[47, 115]⟩ : ByteArray).size ≤ 1048576 ∧ (⟨#[]⟩ : ByteArray).size ≤ 1048576 from ⟨by show 2 ≤ _; omega, by show 0 ≤ _; omega⟩))
    have HI5 := hd9 (HIG.out ns ⟨1, ⟨#[47, 115]⟩, ⟨#[]⟩, 0, true⟩ 7 HZ.out (show (⟨#[47, 115]⟩ : ByteArray).size ≤ 1048576 ∧ (⟨#[]⟩ : ByteArray).size ≤ 1048576 from ⟨by show 2 ≤ _; omega, by show 0 ≤ _; omega⟩))
    generalize prF ns [⟨1, ⟨#[47, 115]⟩, ⟨#[]⟩, 0, true⟩] 7 = A5 at *
    obtain ⟨c5, i5, z5, L5, e5⟩ := A5
    clear HSG HIG
    generalize w3.drew = m0 at *
    refine wpAnyH_take (i := 0) (oi := { dst := some 40, op := _, type := _, pos := _, after := _, guard := _ }) (v := (.agg #[.slice av ns.length cv])) rfl (by kernel_rfl) (by kernel_rfl) (by kernel_rfl) (fun _ _ _ h => h) (Or.inl ⟨by rfl, fun w9 hS9 => by (have h9 := Boxed.cell hS9; clear hS9; go_simp; try with_reducible rfl)⟩) (by assumption) ?_
    try simp only [Act.put, List.setIfInBounds_toArray, List.set_cons_zero, List.set_cons_succ]
    refine wpAnyH_take (i := 1) (oi := { dst := some 41, op := _, type := _, pos := _, after := _, guard := _ }) (v := (.agg #[.int .i64 1, .string ⟨#[47, 115]⟩, .string ⟨#[]⟩, .int .i64 0, .bool true])) rfl (by kernel_rfl) (by kernel_rfl) (by kernel_rfl) (fun _ _ _ h => h) (Or.inl ⟨by rfl, fun w9 hS9 => by (clear hS9; go_simp; try with_reducible rfl)⟩) (by assumption) ?_
    try simp only [Act.put, List.setIfInBounds_toArray, List.set_cons_zero, List.set_cons_succ]
    refine wpAnyH_take (i := 6) (oi := { dst := some 46, op := _, type := _, pos := _, after := _, guard := _ }) (v := (.agg #[.slice av ns.length cv])) rfl (by kernel_rfl) (by kernel_rfl) (by kernel_rfl) (fun _ _ _ h => h) (Or.inl ⟨by rfl, fun w9 hS9 => by (have h9 := Boxed.cell hS9; clear hS9; go_simp; try with_reducible rfl)⟩) (by assumption) ?_
    try simp only [Act.put, List.setIfInBounds_toArray, List.set_cons_zero, List.set_cons_succ]
    refine wpAnyH_take (i := 7) (oi := { dst := some 47, op := _, type := _, pos := _, after := _, guard := _ }) (v := (.agg #[.int .i64 1, .string ⟨#[47, 115]⟩, .string ⟨#[]⟩, .int .i64 0, .bool true])) rfl (by kernel_rfl) (by kernel_rfl) (by kernel_rfl) (fun _ _ _ h => h) (Or.inl ⟨by rfl, fun w9 hS9 => by (clear hS9; go_simp; try with_reducible rfl)⟩) (by assumption) ?_
    try simp only [Act.put, List.setIfInBounds_toArray, List.set_cons_zero, List.set_cons_succ]
    refine wpAnyH_ready (rs := [2, 8]) (by kernel_rfl) (by simp) ?_
    refine (AllReadyH.cons (o := { dst := some 42, op := _, type := _, pos := _, after := _, guard := _ }) rfl (fun K hK => ?_) (AllReadyH.cons (o := { dst := some 48, op := _, type := _, pos := _, after := _, guard := _ }) rfl (fun K hK => ?_) AllReadyH.nil))
    · have bN : Below m0.heap.size m0 (m0.alloc (.cells #[.int .i64 1, .string ⟨#[47, 115]⟩, .string ⟨#[]⟩, .int .i64 0, .bool true] 40)) := (Below.refl _ _).alloc (Nat.le_refl _) _
      have RQ1 := hd9 (rdO_one9 (o := ⟨1, ⟨#[47, 115]⟩, ⟨#[]⟩, 0, true⟩) (heap_alloc_new m0 (.cells #[.int .i64 1, .string ⟨#[47, 115]⟩, .string ⟨#[]⟩, .int .i64 0, .bool true] 40)) rfl)
      have H9 := boxed_below bN hHeld
      replace RD0 := hd9 (RD0.out.below bN)
      replace B0 := hd9 (B0.out.trans (bN.mono B0.out.size))
      go_simp
      refine hK.out _ _ H9 (fun hx9 => ?_)
      clear hK K hHeld
      have hHeld := hx9
      clear hx9 H9 bN
      try simp only [Act.put, List.setIfInBounds_toArray, List.set_cons_zero, List.set_cons_succ]
      generalize m0.alloc (.cells #[.int .i64 1, .string ⟨#[47, 115]⟩, .string ⟨#[]⟩, .int .i64 0, .bool true] 40) = m1 at *
      generalize m0.heap.size = b1 at *
      refine wpAnyH_take (i := 3) (oi := { dst := some 43, op := _, type := _, pos := _, after := _, guard := _ }) (v := (.agg #[.slice (some ⟨b1, 0, none⟩) 1 1])) rfl (by kernel_rfl) (by kernel_rfl) (by kernel_rfl) (fun _ _ _ h => h) (Or.inl ⟨by rfl, fun w9 hS9 => by (clear hS9; go_simp; try with_reducible rfl)⟩) (by assumption) ?_
      try simp only [Act.put, List.setIfInBounds_toArray, List.set_cons_zero, List.set_cons_succ]
      refine wpAnyH_ready (rs := [4, 8]) (by kernel_rfl) (by simp) ?_
      refine (AllReadyH.cons (o := { dst := some 44, op := _, type := _, pos := _, after := _, guard := _ }) rfl (fun K hK => ?_) (AllReadyH.cons (o := { dst := some 48, op := _, type := _, pos := _, after := _, guard := _ }) rfl (fun K hK => ?_) AllReadyH.nil))
      · go_simp
        refine (HI5.out m1 _ _ B0.out RD0.out RQ1.out).mono ?_
        rintro e m2 ⟨vn4, ve4, rfl, on, oe, bN⟩
        obtain ⟨an4, kn4, hv⟩ := OwnS.slice on
        subst hv
        obtain ⟨ae4, ke4, hv⟩ := oe.slice
        subst hv
        have H9 := boxed_below bN hHeld
        replace RD0 := hd9 (RD0.out.below bN)
        replace B0 := hd9 (B0.out.trans (bN.mono B0.out.size))
        refine hK.out _ _ H9 (fun hx9 => ?_)
        clear hK K hHeld
        have hHeld := hx9
        clear hx9 H9 bN on oe
        try simp only [Act.put, List.setIfInBounds_toArray, List.set_cons_zero, List.set_cons_succ]
        refine wpAnyH_take (i := 5) (oi := { dst := some 45, op := _, type := _, pos := _, after := _, guard := _ }) (v := (.int .i64 c5)) rfl (by kernel_rfl) (by kernel_rfl) (by kernel_rfl) (fun _ _ _ h => h) (Or.inl ⟨by rfl, fun w9 hS9 => by (have hf9 := field_prep (.int .i64 c5) (.int .i64 i5) (.slice an4 L5.length kn4) (.int .i64 z5) (.slice ae4 e5.length ke4) w9; clear hS9; go_simp; try with_reducible rfl)⟩) (by assumption) ?_
        try simp only [Act.put, List.setIfInBounds_toArray, List.set_cons_zero, List.set_cons_succ]
        refine wpAnyH_ready (rs := [8]) (by kernel_rfl) (by simp) ?_
        refine (AllReadyH.cons (o := { dst := some 48, op := _, type := _, pos := _, after := _, guard := _ }) rfl (fun K hK => ?_) AllReadyH.nil)
        have bN : Below m2.heap.size m2 (m2.alloc (.cells #[.int .i64 1, .string ⟨#[47, 115]⟩, .string ⟨#[]⟩, .int .i64 0, .bool true] 40)) := (Below.refl _ _).alloc (Nat.le_refl _) _
        have RQ2 := hd9 (rdO_one9 (o := ⟨1, ⟨#[47, 115]⟩, ⟨#[]⟩, 0, true⟩) (heap_alloc_new m2 (.cells #[.int .i64 1, .string ⟨#[47, 115]⟩, .string ⟨#[]⟩, .int .i64 0, .bool true] 40)) rfl)
        have H9 := boxed_below bN hHeld
        replace RD0 := hd9 (RD0.out.below bN)
        replace B0 := hd9 (B0.out.trans (bN.mono B0.out.size))
        go_simp
        refine hK.out _ _ H9 (fun hx9 => ?_)
        clear hK K hHeld
        have hHeld := hx9
        clear hx9 H9 bN
        try simp only [Act.put, List.setIfInBounds_toArray, List.set_cons_zero, List.set_cons_succ]
        generalize m2.alloc (.cells #[.int .i64 1, .string ⟨#[47, 115]⟩, .string ⟨#[]⟩, .int .i64 0, .bool true] 40) = m3 at *
        generalize m2.heap.size = b2 at *
        refine wpAnyH_take (i := 9) (oi := { dst := some 49, op := _, type := _, pos := _, after := _, guard := _ }) (v := (.agg #[.slice (some ⟨b2, 0, none⟩) 1 1])) rfl (by kernel_rfl) (by kernel_rfl) (by kernel_rfl) (fun _ _ _ h => h) (Or.inl ⟨by rfl, fun w9 hS9 => by (clear hS9; go_simp; try with_reducible rfl)⟩) (by assumption) ?_
        try simp only [Act.put, List.setIfInBounds_toArray, List.set_cons_zero, List.set_cons_succ]
        refine wpAnyH_ready (rs := [10]) (by kernel_rfl) (by simp) ?_
        refine (AllReadyH.cons (o := { dst := some 50, op := _, type := _, pos := _, after := _, guard := _ }) rfl (fun K hK => ?_) AllReadyH.nil)
        go_simp
        refine (HS5.out m3 _ _ RD0.out RQ2.out).mono ?_
        rintro e m4 ⟨vn10, ve10, rfl, on, oe, bN⟩
        obtain ⟨an10, kn10, hv⟩ := OwnS.slice on
        subst hv
        obtain ⟨ae10, ke10, hv⟩ := oe.slice
        subst hv
        have H9 := boxed_below bN hHeld
        replace RD0 := hd9 (RD0.out.below bN)
        replace B0 := hd9 (B0.out.trans (bN.mono B0.out.size))
        refine hK.out _ _ H9 (fun hx9 => ?_)
        clear hK K hHeld
        have hHeld := hx9
        clear hx9 H9 bN on oe
        try simp only [Act.put, List.setIfInBounds_toArray, List.set_cons_zero, List.set_cons_succ]
        refine wpAnyH_take (i := 11) (oi := { dst := some 51, op := _, type := _, pos := _, after := _, guard := _ }) (v := (.int .i64 c5)) rfl (by kernel_rfl) (by kernel_rfl) (by kernel_rfl) (fun _ _ _ h => h) (Or.inl ⟨by rfl, fun w9 hS9 => by (have hf9 := field_prep (.int .i64 c5) (.int .i64 i5) (.slice an10 L5.length kn10) (.int .i64 z5) (.slice ae10 e5.length ke10) w9; clear hS9; go_simp; try with_reducible rfl)⟩) (by assumption) ?_
        try simp only [Act.put, List.setIfInBounds_toArray, List.set_cons_zero, List.set_cons_succ]
        refine wpAnyH_take (i := 12) (oi := { dst := some 52, op := _, type := _, pos := _, after := _, guard := _ }) (v := (.bool true)) rfl (by kernel_rfl) (by kernel_rfl) (by kernel_rfl) (fun _ _ _ h => h) (Or.inl ⟨by rfl, fun w9 hS9 => by (clear hS9; go_simp; try simp)⟩) (by assumption) ?_
        try simp only [Act.put, List.setIfInBounds_toArray, List.set_cons_zero, List.set_cons_succ]
        refine wpAnyH_take (i := 13) (oi := { dst := some 4, op := _, type := _, pos := _, after := _, guard := _ }) (v := (.bool true)) rfl (by kernel_rfl) (by kernel_rfl) (by kernel_rfl) (fun _ _ _ h => h) (Or.inl ⟨by rfl, fun w9 hS9 => by (clear hS9; go_simp; try with_reducible rfl)⟩) (by assumption) ?_
        try simp only [Act.put, List.setIfInBounds_toArray, List.set_cons_zero, List.set_cons_succ]
        refine wpAnyH_done (by kernel_rfl) ?_ _
        clear hHeld
        go_wp2
        go_ret
        exact ⟨rfl, B0.out⟩
      · have bN : Below m1.heap.size m1 (m1.alloc (.cells #[.int .i64 1, .string ⟨#[47, 115]⟩, .string ⟨#[]⟩, .int .i64 0, .bool true] 40)) := (Below.refl _ _).alloc (Nat.le_refl _) _
        have RQ2 := hd9 (rdO_one9 (o := ⟨1, ⟨#[47, 115]⟩, ⟨#[]⟩, 0, true⟩) (heap_alloc_new m1 (.cells #[.int .i64 1, .string ⟨#[47, 115]⟩, .string ⟨#[]⟩, .int .i64 0, .bool true] 40)) rfl)
        have H9 := boxed_below bN hHeld
        replace RD0 := hd9 (RD0.out.below bN)
        replace B0 := hd9 (B0.out.trans (bN.mono B0.out.size))
        replace RQ1 := hd9 (RQ1.out.below bN)
        go_simp
        refine hK.out _ _ H9 (fun hx9 => ?_)
        clear hK K hHeld
        have hHeld := hx9
        clear hx9 H9 bN
        try simp only [Act.put, List.setIfInBounds_toArray, List.set_cons_zero, List.set_cons_succ]
        generalize m1.alloc (.cells #[.int .i64 1, .string ⟨#[47, 115]⟩, .string ⟨#[]⟩, .int .i64 0, .bool true] 40) = m5 at *
        generalize m1.heap.size = b2 at *
        refine wpAnyH_take (i := 9) (oi := { dst := some 49, op := _, type := _, pos := _, after := _, guard := _ }) (v := (.agg #[.slice (some ⟨b2, 0, none⟩) 1 1])) rfl (by kernel_rfl) (by kernel_rfl) (by kernel_rfl) (fun _ _ _ h => h) (Or.inl ⟨by rfl, fun w9 hS9 => by (clear hS9; go_simp; try with_reducible rfl)⟩) (by assumption) ?_
        try simp only [Act.put, List.setIfInBounds_toArray, List.set_cons_zero, List.set_cons_succ]
        refine wpAnyH_ready (rs := [4]) (by kernel_rfl) (by simp) ?_
        refine (AllReadyH.cons (o := { dst := some 44, op := _, type := _, pos := _, after := _, guard := _ }) rfl (fun K hK => ?_) AllReadyH.nil)
        go_simp
        refine (HI5.out m5 _ _ B0.out RD0.out RQ1.out).mono ?_
        rintro e m6 ⟨vn4, ve4, rfl, on, oe, bN⟩
        obtain ⟨an4, kn4, hv⟩ := OwnS.slice on
        subst hv
        obtain ⟨ae4, ke4, hv⟩ := oe.slice
        subst hv
        have H9 := boxed_below bN hHeld
        replace RD0 := hd9 (RD0.out.below bN)
        replace B0 := hd9 (B0.out.trans (bN.mono B0.out.size))
        replace RQ2 := hd9 (RQ2.out.below bN)
        refine hK.out _ _ H9 (fun hx9 => ?_)
        clear hK K hHeld
        have hHeld := hx9
        clear hx9 H9 bN on oe
        try simp only [Act.put, List.setIfInBounds_toArray, List.set_cons_zero, List.set_cons_succ]
        refine wpAnyH_take (i := 5) (oi := { dst := some 45, op := _, type := _, pos := _, after := _, guard := _ }) (v := (.int .i64 c5)) rfl (by kernel_rfl) (by kernel_rfl) (by kernel_rfl) (fun _ _ _ h => h) (Or.inl ⟨by rfl, fun w9 hS9 => by (have hf9 := field_prep (.int .i64 c5) (.int .i64 i5) (.slice an4 L5.length kn4) (.int .i64 z5) (.slice ae4 e5.length ke4) w9; clear hS9; go_simp; try with_reducible rfl)⟩) (by assumption) ?_
        try simp only [Act.put, List.setIfInBounds_toArray, List.set_cons_zero, List.set_cons_succ]
        refine wpAnyH_ready (rs := [10]) (by kernel_rfl) (by simp) ?_
        refine (AllReadyH.cons (o := { dst := some 50, op := _, type := _, pos := _, after := _, guard := _ }) rfl (fun K hK => ?_) AllReadyH.nil)
        go_simp
        refine (HS5.out m6 _ _ RD0.out RQ2.out).mono ?_
        rintro e m7 ⟨vn10, ve10, rfl, on, oe, bN⟩
        obtain ⟨an10, kn10, hv⟩ := OwnS.slice on
        subst hv
        obtain ⟨ae10, ke10, hv⟩ := oe.slice
        subst hv
        have H9 := boxed_below bN hHeld
        replace RD0 := hd9 (RD0.out.below bN)
        replace B0 := hd9 (B0.out.trans (bN.mono B0.out.size))
        refine hK.out _ _ H9 (fun hx9 => ?_)
        clear hK K hHeld
        have hHeld := hx9
        clear hx9 H9 bN on oe
        try simp only [Act.put, List.setIfInBounds_toArray, List.set_cons_zero, List.set_cons_succ]
        refine wpAnyH_take (i := 11) (oi := { dst := some 51, op := _, type := _, pos := _, after := _, guard := _ }) (v := (.int .i64 c5)) rfl (by kernel_rfl) (by kernel_rfl) (by kernel_rfl) (fun _ _ _ h => h) (Or.inl ⟨by rfl, fun w9 hS9 => by (have hf9 := field_prep (.int .i64 c5) (.int .i64 i5) (.slice an10 L5.length kn10) (.int .i64 z5) (.slice ae10 e5.length ke10) w9; clear hS9; go_simp; try with_reducible rfl)⟩) (by assumption) ?_
        try simp only [Act.put, List.setIfInBounds_toArray, List.set_cons_zero, List.set_cons_succ]
        refine wpAnyH_take (i := 12) (oi := { dst := some 52, op := _, type := _, pos := _, after := _, guard := _ }) (v := (.bool true)) rfl (by kernel_rfl) (by kernel_rfl) (by kernel_rfl) (fun _ _ _ h => h) (Or.inl ⟨by rfl, fun w9 hS9 => by (clear hS9; go_simp; try simp)⟩) (by assumption) ?_
        try simp only [Act.put, List.setIfInBounds_toArray, List.set_cons_zero, List.set_cons_succ]
        refine wpAnyH_take (i := 13) (oi := { dst := some 4, op := _, type := _, pos := _, after := _, guard := _ }) (v := (.bool true)) rfl (by kernel_rfl) (by kernel_rfl) (by kernel_rfl) (fun _ _ _ h => h) (Or.inl ⟨by rfl, fun w9 hS9 => by (clear hS9; go_simp; try with_reducible rfl)⟩) (by assumption) ?_
        try simp only [Act.put, List.setIfInBounds_toArray, List.set_cons_zero, List.set_cons_succ]
        refine wpAnyH_done (by kernel_rfl) ?_ _
        clear hHeld
        go_wp2
        go_ret
        exact ⟨rfl, B0.out⟩
    · have bN : Below m0.heap.size m0 (m0.alloc (.cells #[.int .i64 1, .string ⟨#[47, 115]⟩, .string ⟨#[]⟩, .int .i64 0, .bool true] 40)) := (Below.refl _ _).alloc (Nat.le_refl _) _
      have RQ2 := hd9 (rdO_one9 (o := ⟨1, ⟨#[47, 115]⟩, ⟨#[]⟩, 0, true⟩) (heap_alloc_new m0 (.cells #[.int .i64 1, .string ⟨#[47, 115]⟩, .string ⟨#[]⟩, .int .i64 0, .bool true] 40)) rfl)
      have H9 := boxed_below bN hHeld
      replace RD0 := hd9 (RD0.out.below bN)
      replace B0 := hd9 (B0.out.trans (bN.mono B0.out.size))
      go_simp
      refine hK.out _ _ H9 (fun hx9 => ?_)
      clear hK K hHeld
      have hHeld := hx9
      clear hx9 H9 bN
      try simp only [Act.put, List.setIfInBounds_toArray, List.set_cons_zero, List.set_cons_succ]
      generalize m0.alloc (.cells #[.int .i64 1, .string ⟨#[47, 115]⟩, .string ⟨#[]⟩, .int .i64 0, .bool true] 40) = m8 at *
      generalize m0.heap.size = b2 at *
      refine wpAnyH_take (i := 9) (oi := { dst := some 49, op := _, type := _, pos := _, after := _, guard := _ }) (v := (.agg #[.slice (some ⟨b2, 0, none⟩) 1 1])) rfl (by kernel_rfl) (by kernel_rfl) (by kernel_rfl) (fun _ _ _ h => h) (Or.inl ⟨by rfl, fun w9 hS9 => by (clear hS9; go_simp; try with_reducible rfl)⟩) (by assumption) ?_
      try simp only [Act.put, List.setIfInBounds_toArray, List.set_cons_zero, List.set_cons_succ]
      refine wpAnyH_ready (rs := [2]) (by kernel_rfl) (by simp) ?_
      refine (AllReadyH.cons (o := { dst := some 42, op := _, type := _, pos := _, after := _, guard := _ }) rfl (fun K hK => ?_) AllReadyH.nil)
      have bN : Below m8.heap.size m8 (m8.alloc (.cells #[.int .i64 1, .string ⟨#[47, 115]⟩, .string ⟨#[]⟩, .int .i64 0, .bool true] 40)) := (Below.refl _ _).alloc (Nat.le_refl _) _
      have RQ1 := hd9 (rdO_one9 (o := ⟨1, ⟨#[47, 115]⟩, ⟨#[]⟩, 0, true⟩) (heap_alloc_new m8 (.cells #[.int .i64 1, .string ⟨#[47, 115]⟩, .string ⟨#[]⟩, .int .i64 0, .bool true] 40)) rfl)
      have H9 := boxed_below bN hHeld
      replace RD0 := hd9 (RD0.out.below bN)
      replace B0 := hd9 (B0.out.trans (bN.mono B0.out.size))
      replace RQ2 := hd9 (RQ2.out.below bN)
      go_simp
      refine hK.out _ _ H9 (fun hx9 => ?_)
      clear hK K hHeld
      have hHeld := hx9
      clear hx9 H9 bN
      try simp only [Act.put, List.setIfInBounds_toArray, List.set_cons_zero, List.set_cons_succ]
      generalize m8.alloc (.cells #[.int .i64 1, .string ⟨#[47, 115]⟩, .string ⟨#[]⟩, .int .i64 0, .bool true] 40) = m9 at *
      generalize m8.heap.size = b1 at *
      refine wpAnyH_take (i := 3) (oi := { dst := some 43, op := _, type := _, pos := _, after := _, guard := _ }) (v := (.agg #[.slice (some ⟨b1, 0, none⟩) 1 1])) rfl (by kernel_rfl) (by kernel_rfl) (by kernel_rfl) (fun _ _ _ h => h) (Or.inl ⟨by rfl, fun w9 hS9 => by (clear hS9; go_simp; try with_reducible rfl)⟩) (by assumption) ?_
      try simp only [Act.put, List.setIfInBounds_toArray, List.set_cons_zero, List.set_cons_succ]
      refine wpAnyH_ready (rs := [4]) (by kernel_rfl) (by simp) ?_
      refine (AllReadyH.cons (o := { dst := some 44, op := _, type := _, pos := _, after := _, guard := _ }) rfl (fun K hK => ?_) AllReadyH.nil)
      go_simp
      refine (HI5.out m9 _ _ B0.out RD0.out RQ1.out).mono ?_
      rintro e m10 ⟨vn4, ve4, rfl, on, oe, bN⟩
      obtain ⟨an4, kn4, hv⟩ := OwnS.slice on
      subst hv
      obtain ⟨ae4, ke4, hv⟩ := oe.slice
      subst hv
      have H9 := boxed_below bN hHeld
      replace RD0 := hd9 (RD0.out.below bN)
      replace B0 := hd9 (B0.out.trans (bN.mono B0.out.size))
      replace RQ2 := hd9 (RQ2.out.below bN)
      refine hK.out _ _ H9 (fun hx9 => ?_)
      clear hK K hHeld
      have hHeld := hx9
      clear hx9 H9 bN on oe
      try simp only [Act.put, List.setIfInBounds_toArray, List.set_cons_zero, List.set_cons_succ]
      refine wpAnyH_take (i := 5) (oi := { dst := some 45, op := _, type := _, pos := _, after := _, guard := _ }) (v := (.int .i64 c5)) rfl (by kernel_rfl) (by kernel_rfl) (by kernel_rfl) (fun _ _ _ h => h) (Or.inl ⟨by rfl, fun w9 hS9 => by (have hf9 := field_prep (.int .i64 c5) (.int .i64 i5) (.slice an4 L5.length kn4) (.int .i64 z5) (.slice ae4 e5.length ke4) w9; clear hS9; go_simp; try with_reducible rfl)⟩) (by assumption) ?_
      try simp only [Act.put, List.setIfInBounds_toArray, List.set_cons_zero, List.set_cons_succ]
      refine wpAnyH_ready (rs := [10]) (by kernel_rfl) (by simp) ?_
      refine (AllReadyH.cons (o := { dst := some 50, op := _, type := _, pos := _, after := _, guard := _ }) rfl (fun K hK => ?_) AllReadyH.nil)
      go_simp
      refine (HS5.out m10 _ _ RD0.out RQ2.out).mono ?_
      rintro e m11 ⟨vn10, ve10, rfl, on, oe, bN⟩
      obtain ⟨an10, kn10, hv⟩ := OwnS.slice on
      subst hv
      obtain ⟨ae10, ke10, hv⟩ := oe.slice
      subst hv
      have H9 := boxed_below bN hHeld
      replace RD0 := hd9 (RD0.out.below bN)
      replace B0 := hd9 (B0.out.trans (bN.mono B0.out.size))
      refine hK.out _ _ H9 (fun hx9 => ?_)
      clear hK K hHeld
      have hHeld := hx9
      clear hx9 H9 bN on oe
      try simp only [Act.put, List.setIfInBounds_toArray, List.set_cons_zero, List.set_cons_succ]
      refine wpAnyH_take (i := 11) (oi := { dst := some 51, op := _, type := _, pos := _, after := _, guard := _ }) (v := (.int .i64 c5)) rfl (by kernel_rfl) (by kernel_rfl) (by kernel_rfl) (fun _ _ _ h => h) (Or.inl ⟨by rfl, fun w9 hS9 => by (have hf9 := field_prep (.int .i64 c5) (.int .i64 i5) (.slice an10 L5.length kn10) (.int .i64 z5) (.slice ae10 e5.length ke10) w9; clear hS9; go_simp; try with_reducible rfl)⟩) (by assumption) ?_
      try simp only [Act.put, List.setIfInBounds_toArray, List.set_cons_zero, List.set_cons_succ]
      refine wpAnyH_take (i := 12) (oi := { dst := some 52, op := _, type := _, pos := _, after := _, guard := _ }) (v := (.bool true)) rfl (by kernel_rfl) (by kernel_rfl) (by kernel_rfl) (fun _ _ _ h => h) (Or.inl ⟨by rfl, fun w9 hS9 => by (clear hS9; go_simp; try simp)⟩) (by assumption) ?_
      try simp only [Act.put, List.setIfInBounds_toArray, List.set_cons_zero, List.set_cons_succ]
      refine wpAnyH_take (i := 13) (oi := { dst := some 4, op := _, type := _, pos := _, after := _, guard := _ }) (v := (.bool true)) rfl (by kernel_rfl) (by kernel_rfl) (by kernel_rfl) (fun _ _ _ h => h) (Or.inl ⟨by rfl, fun w9 hS9 => by (clear hS9; go_simp; try with_reducible rfl)⟩) (by assumption) ?_
      try simp only [Act.put, List.setIfInBounds_toArray, List.set_cons_zero, List.set_cons_succ]
      refine wpAnyH_done (by kernel_rfl) ?_ _
      clear hHeld
      go_wp2
      go_ret
      exact ⟨rfl, B0.out⟩
  have hneI : ¬ (ns.length : Int) = 0 := by omega
  have HSN := hd9 (okTree_snd.1 hok)
  obtain ⟨tb, tf, htb⟩ : ∃ b o, av = some ⟨b, o, none⟩ := by
    obtain ⟨ao, cap, e, -, -, h3⟩ := RD3.out
    simp only [Value.slice.injEq] at e
    obtain ⟨rfl, -, -⟩ := e
    rcases h3 with h3 | ⟨b', off', e', -, -⟩
    · rw [h3] at hne; simp at hne
    · exact ⟨_, _, e'⟩
  subst htb
  have HAT : Hid (∀ W, Below w.heap.size w W → Calls Tryz.prog 10 #[.slice ma ms.length mc, .int .i64 0, .int .i64 (ns.length : Int)] W fun e w' => ∃ r : Nat, e = .returned (.int .i64 (r : Int)) ∧ (1 ≤ ns.length → r < ns.length) ∧ Below W.heap.size W w') := fun W hW => lwAt_any W _ ms 0 ns.length (HM.out.below hW) HBM.out (by omega) (by omega) (by omega)
  go_upto_region 6 with fail
  clear x3
  go_cut [8] from 31 to 61 (fun v8 wx => ∃ NB r : Nat, v8 = .pointer (some ⟨NB, 0, none⟩) ∧ r < ns.length ∧ Hid (St wx NB [.string (nAt ns r).path, .string (nAt ns r).data, .int .i64 (nAt ns r).ver, .int .i64 (nAt ns r).cver, .int .i64 (nAt ns r).cz, .int .i64 (nAt ns r).mz, .int .i64 (nAt ns r).pz]) ∧ Hid (Boxed wx TB 25 (.slice (some ⟨tb, tf, none⟩) ns.length cv)) ∧ Hid (RdN wx (.slice (some ⟨tb, tf, none⟩) ns.length cv) ns) ∧ Hid (Below w.heap.size w wx))
  case first =>
    have bD : Below w3.heap.size w3 w3.drew := below_drewN' w3 1
    refine wp_region_held_drew (S := fun W => Boxed W TB 25 (.slice (some ⟨tb, tf, none⟩) ns.length cv) ∧ RdN W (.slice (some ⟨tb, tf, none⟩) ns.length cv) ns) (by kernel_rfl) ⟨boxed_below bD X3.out, RD3.out.below bD⟩ (fun hHeld => ?_)
    have B0 := hd9 (B3.out.trans (bD.mono B3.out.size))
    clear RD3 B3 X3 bD
    generalize w3.drew = m0 at *
    refine wpAnyH_take (i := 0) (oi := { dst := some 53, op := _, type := _, pos := _, after := _, guard := _ }) (v := (.pointer (some ⟨TB, 0, none⟩))) rfl (by kernel_rfl) (by kernel_rfl) (by kernel_rfl) (fun _ _ _ h => h) (Or.inl ⟨by rfl, fun w9 hS9 => by (clear hS9; go_simp; try with_reducible rfl)⟩) (by assumption) ?_
    try simp only [Act.put, List.setIfInBounds_toArray, List.set_cons_zero, List.set_cons_succ]
    refine wpAnyH_take (i := 1) (oi := { dst := some 54, op := _, type := _, pos := _, after := _, guard := _ }) (v := (.slice (some ⟨tb, tf, none⟩) ns.length cv)) rfl (by kernel_rfl) (by kernel_rfl) (by kernel_rfl) (fun _ _ _ h => h) (Or.inl ⟨by rfl, fun w9 hS9 => by (have h9 := Boxed.cell hS9.1; clear hS9; go_simp; try with_reducible rfl)⟩) (by assumption) ?_
    try simp only [Act.put, List.setIfInBounds_toArray, List.set_cons_zero, List.set_cons_succ]
    refine wpAnyH_take (i := 2) (oi := { dst := some 55, op := _, type := _, pos := _, after := _, guard := _ }) (v := (.slice ma ms.length mc)) rfl (by kernel_rfl) (by kernel_rfl) (by kernel_rfl) (fun _ _ _ h => h) (Or.inl ⟨by rfl, fun w9 hS9 => by (clear hS9; go_simp; try with_reducible rfl)⟩) (by assumption) ?_
    try simp only [Act.put, List.setIfInBounds_toArray, List.set_cons_zero, List.set_cons_succ]
    refine wpAnyH_take (i := 3) (oi := { dst := some 56, op := _, type := _, pos := _, after := _, guard := _ }) (v := (.pointer (some ⟨TB, 0, none⟩))) rfl (by kernel_rfl) (by kernel_rfl) (by kernel_rfl) (fun _ _ _ h => h) (Or.inl ⟨by rfl, fun w9 hS9 => by (clear hS9; go_simp; try with_reducible rfl)⟩) (by assumption) ?_
    try simp only [Act.put, List.setIfInBounds_toArray, List.set_cons_zero, List.set_cons_succ]
    refine wpAnyH_take (i := 4) (oi := { dst := some 57, op := _, type := _, pos := _, after := _, guard := _ }) (v := (.slice (some ⟨tb, tf, none⟩) ns.length cv)) rfl (by kernel_rfl) (by kernel_rfl) (by kernel_rfl) (fun _ _ _ h => h) (Or.inl ⟨by rfl, fun w9 hS9 => by (have h9 := Boxed.cell hS9.1; clear hS9; go_simp; try with_reducible rfl)⟩) (by assumption) ?_
    try simp only [Act.put, List.setIfInBounds_toArray, List.set_cons_zero, List.set_cons_succ]
    refine wpAnyH_take (i := 5) (oi := { dst := some 58, op := _, type := _, pos := _, after := _, guard := _ }) (v := (.int .i64 (ns.length : Int))) rfl (by kernel_rfl) (by kernel_rfl) (by kernel_rfl) (fun _ _ _ h => h) (Or.inl ⟨by rfl, fun w9 hS9 => by (clear hS9; go_simp; try with_reducible rfl)⟩) (by assumption) ?_
    try simp only [Act.put, List.setIfInBounds_toArray, List.set_cons_zero, List.set_cons_succ]
    refine wpAnyH_ready (rs := [6, 9]) (by kernel_rfl) (by simp) ?_
    refine (AllReadyH.cons (o := { dst := some 59, op := _, type := _, pos := _, after := _, guard := _ }) rfl (fun K hK => ?_) (AllReadyH.cons (o := { dst := some 8, op := _, type := _, pos := _, after := _, guard := _ }) rfl (fun K hK => ?_) AllReadyH.nil))
    · go_simp
      refine (HAT.out m0 B0.out).mono ?_
      rintro e m1 ⟨r, rfl, hr, bN⟩
      replace hr := hr (by omega)
      have H9 := And.intro (boxed_below bN hHeld.1) (hHeld.2.below bN)
      replace B0 := hd9 (B0.out.trans (bN.mono B0.out.size))
      refine hK.out _ _ H9 (fun hx9 => ?_)
      clear hK K hHeld
      have hHeld := hx9
      clear hx9 H9 bN
      try simp only [Act.put, List.setIfInBounds_toArray, List.set_cons_zero, List.set_cons_succ]
      have hrI : (r : Int) < (ns.length : Int) := by omega
      refine wpAnyH_take (i := 7) (oi := { dst := some 60, op := _, type := _, pos := _, after := _, guard := _ }) (v := (.pointer (some ⟨tb, tf + r * 7, none⟩))) rfl (by kernel_rfl) (by kernel_rfl) (by kernel_rfl) (fun _ _ _ h => h) (Or.inl ⟨by rfl, fun w9 hS9 => by (clear hS9; go_simp; try with_reducible rfl)⟩) (by assumption) ?_
      try simp only [Act.put, List.setIfInBounds_toArray, List.set_cons_zero, List.set_cons_succ]
      refine wpAnyH_take (i := 8) (oi := { dst := some 61, op := _, type := _, pos := _, after := _, guard := _ }) (v := (.agg #[.string (nAt ns r).path, .string (nAt ns r).data, .int .i64 (nAt ns r).ver, .int .i64 (nAt ns r).cver, .int .i64 (nAt ns r).cz, .int .i64 (nAt ns r).mz, .int .i64 (nAt ns r).pz])) rfl (by kernel_rfl) (by kernel_rfl) (by kernel_rfl) (fun _ _ _ h => h) (Or.inl ⟨by rfl, fun w9 hS9 => by (obtain ⟨k0, k1, k2, k3, k4, k5, k6⟩ := rdN_cells hS9.2 hr; clear hS9; go_simp; try with_reducible rfl)⟩) (by assumption) ?_
      try simp only [Act.put, List.setIfInBounds_toArray, List.set_cons_zero, List.set_cons_succ]
      refine wpAnyH_ready (rs := [9]) (by kernel_rfl) (by simp) ?_
      refine (AllReadyH.cons (o := { dst := some 8, op := _, type := _, pos := _, after := _, guard := _ }) rfl (fun K hK => ?_) AllReadyH.nil)
      have bN : Below m1.heap.size m1 (m1.alloc (.cells #[.string ⟨#[]⟩, .string ⟨#[]⟩, .int .i64 0, .int .i64 0, .int .i64 0, .int .i64 0, .int .i64 0] 42)) := (Below.refl _ _).alloc (Nat.le_refl _) _
      have N0 := hd9 (St.new m1 #[.string ⟨#[]⟩, .string ⟨#[]⟩, .int .i64 0, .int .i64 0, .int .i64 0, .int .i64 0, .int .i64 0] 42)
      have hNB := hHeld.1.lt
      have hNW := B0.out.size
      have hNT : ∀ b o n c, (Value.slice (some ⟨tb, tf, none⟩) ns.length cv) = .slice (some ⟨b, o, none⟩) n c → b < m1.heap.size := fun b o n c e => by
        obtain ⟨ao, cap, e2, -, -, h3⟩ := hHeld.2
        rcases h3 with h3 | ⟨b', off', e', hlt, -⟩
        · rw [h3] at hne; simp at hne
        · subst e'; rw [e2] at e; cases e; exact hlt
      have H9 := And.intro (boxed_below bN hHeld.1) (hHeld.2.below bN)
      replace B0 := hd9 (B0.out.trans (bN.mono B0.out.size))
      go_simp
      refine hK.out _ _ H9 (fun hx9 => ?_)
      clear hK K hHeld
      have hHeld := hx9
      clear hx9 H9 bN
      try simp only [Act.put, List.setIfInBounds_toArray, List.set_cons_zero, List.set_cons_succ]
      generalize m1.alloc (.cells #[.string ⟨#[]⟩, .string ⟨#[]⟩, .int .i64 0, .int .i64 0, .int .i64 0, .int .i64 0, .int .i64 0] 42) = m2 at *
      generalize m1.heap.size = NB at *
      refine wpAnyH_ready (rs := [10]) (by kernel_rfl) (by simp) ?_
      refine (AllReadyH.cons (o := { dst := none, op := _, type := _, pos := _, after := _, guard := _ }) rfl (fun K hK => ?_) AllReadyH.nil)
      have k0 := N0.out.cl 0 _ rfl
      have f0 := N0.out.fz 0
      have k1 := N0.out.cl 1 _ rfl
      have f1 := N0.out.fz 1
      have k2 := N0.out.cl 2 _ rfl
      have f2 := N0.out.fz 2
      have k3 := N0.out.cl 3 _ rfl
      have f3 := N0.out.fz 3
      have k4 := N0.out.cl 4 _ rfl
      have f4 := N0.out.fz 4
      have k5 := N0.out.cl 5 _ rfl
      have f5 := N0.out.fz 5
      have k6 := N0.out.cl 6 _ rfl
      have f6 := N0.out.fz 6
      go_simp
      have N1 : Hid (St ((((((((m2).setCell ⟨NB, 0, none⟩ (.string (nAt ns r).path)).setCell ⟨NB, 1, none⟩ (.string (nAt ns r).data)).setCell ⟨NB, 2, none⟩ (.int .i64 (nAt ns r).ver)).setCell ⟨NB, 3, none⟩ (.int .i64 (nAt ns r).cver)).setCell ⟨NB, 4, none⟩ (.int .i64 (nAt ns r).cz)).setCell ⟨NB, 5, none⟩ (.int .i64 (nAt ns r).mz)).setCell ⟨NB, 6, none⟩ (.int .i64 (nAt ns r).pz)) NB [.string (nAt ns r).path, .string (nAt ns r).data, .int .i64 (nAt ns r).ver, .int .i64 (nAt ns r).cver, .int .i64 (nAt ns r).cz, .int .i64 (nAt ns r).mz, .int .i64 (nAt ns r).pz]) := (((((((N0.out).set 0 (.string (nAt ns r).path)).set 1 (.string (nAt ns r).data)).set 2 (.int .i64 (nAt ns r).ver)).set 3 (.int .i64 (nAt ns r).cver)).set 4 (.int .i64 (nAt ns r).cz)).set 5 (.int .i64 (nAt ns r).mz)).set 6 (.int .i64 (nAt ns r).pz)
      have tN : Tch NB m2 ((((((((m2).setCell ⟨NB, 0, none⟩ (.string (nAt ns r).path)).setCell ⟨NB, 1, none⟩ (.string (nAt ns r).data)).setCell ⟨NB, 2, none⟩ (.int .i64 (nAt ns r).ver)).setCell ⟨NB, 3, none⟩ (.int .i64 (nAt ns r).cver)).setCell ⟨NB, 4, none⟩ (.int .i64 (nAt ns r).cz)).setCell ⟨NB, 5, none⟩ (.int .i64 (nAt ns r).mz)).setCell ⟨NB, 6, none⟩ (.int .i64 (nAt ns r).pz)) := (((((((tch_set9 m2 NB 0 _).trans (tch_set9 _ NB 1 _)).trans (tch_set9 _ NB 2 _)).trans (tch_set9 _ NB 3 _)).trans (tch_set9 _ NB 4 _)).trans (tch_set9 _ NB 5 _)).trans (tch_set9 _ NB 6 _))
      have X1 : Boxed ((((((((m2).setCell ⟨NB, 0, none⟩ (.string (nAt ns r).path)).setCell ⟨NB, 1, none⟩ (.string (nAt ns r).data)).setCell ⟨NB, 2, none⟩ (.int .i64 (nAt ns r).ver)).setCell ⟨NB, 3, none⟩ (.int .i64 (nAt ns r).cver)).setCell ⟨NB, 4, none⟩ (.int .i64 (nAt ns r).cz)).setCell ⟨NB, 5, none⟩ (.int .i64 (nAt ns r).mz)).setCell ⟨NB, 6, none⟩ (.int .i64 (nAt ns r).pz)) TB 25 (.slice (some ⟨tb, tf, none⟩) ns.length cv) := (tN.2 TB (by omega) (hHeld.1.lt)).trans hHeld.1
      have R1 : RdN ((((((((m2).setCell ⟨NB, 0, none⟩ (.string (nAt ns r).path)).setCell ⟨NB, 1, none⟩ (.string (nAt ns r).data)).setCell ⟨NB, 2, none⟩ (.int .i64 (nAt ns r).ver)).setCell ⟨NB, 3, none⟩ (.int .i64 (nAt ns r).cver)).setCell ⟨NB, 4, none⟩ (.int .i64 (nAt ns r).cz)).setCell ⟨NB, 5, none⟩ (.int .i64 (nAt ns r).mz)).setCell ⟨NB, 6, none⟩ (.int .i64 (nAt ns r).pz)) (.slice (some ⟨tb, tf, none⟩) ns.length cv) ns := hHeld.2.tchK (fun b o n c e => by have := hNT b o n c e; omega) tN
      have B1 : Hid (Below w.heap.size w ((((((((m2).setCell ⟨NB, 0, none⟩ (.string (nAt ns r).path)).setCell ⟨NB, 1, none⟩ (.string (nAt ns r).data)).setCell ⟨NB, 2, none⟩ (.int .i64 (nAt ns r).ver)).setCell ⟨NB, 3, none⟩ (.int .i64 (nAt ns r).cver)).setCell ⟨NB, 4, none⟩ (.int .i64 (nAt ns r).cz)).setCell ⟨NB, 5, none⟩ (.int .i64 (nAt ns r).mz)).setCell ⟨NB, 6, none⟩ (.int .i64 (nAt ns r).pz))) := B0.out.trans (tN.below (by omega) B0.out.size)
      refine hK.out _ _ ⟨X1, R1⟩ (fun hx9 => ?_)
      clear hK K hHeld hx9
      try simp only [Act.put, List.setIfInBounds_toArray, List.set_cons_zero, List.set_cons_succ]
      refine wpAnyH_done (by kernel_rfl) ?_ _
      go_wp2_with fail
      go_meet
      exact ⟨_, r, rfl, hr, N1, X1, R1, B1⟩
    · have bN : Below m0.heap.size m0 (m0.alloc (.cells #[.string ⟨#[]⟩, .string ⟨#[]⟩, .int .i64 0, .int .i64 0, .int .i64 0, .int .i64 0, .int .i64 0] 42)) := (Below.refl _ _).alloc (Nat.le_refl _) _
      have N0 := hd9 (St.new m0 #[.string ⟨#[]⟩, .string ⟨#[]⟩, .int .i64 0, .int .i64 0, .int .i64 0, .int .i64 0, .int .i64 0] 42)
      have hNB := hHeld.1.lt
      have hNW := B0.out.size
      have hNT : ∀ b o n c, (Value.slice (some ⟨tb, tf, none⟩) ns.length cv) = .slice (some ⟨b, o, none⟩) n c → b < m0.heap.size := fun b o n c e => by
        obtain ⟨ao, cap, e2, -, -, h3⟩ := hHeld.2
        rcases h3 with h3 | ⟨b', off', e', hlt, -⟩
        · rw [h3] at hne; simp at hne
        · subst e'; rw [e2] at e; cases e; exact hlt
      have H9 := And.intro (boxed_below bN hHeld.1) (hHeld.2.below bN)
      replace B0 := hd9 (B0.out.trans (bN.mono B0.out.size))
      go_simp
      refine hK.out _ _ H9 (fun hx9 => ?_)
      clear hK K hHeld
      have hHeld := hx9
      clear hx9 H9 bN
      try simp only [Act.put, List.setIfInBounds_toArray, List.set_cons_zero, List.set_cons_succ]
      generalize m0.alloc (.cells #[.string ⟨#[]⟩, .string ⟨#[]⟩, .int .i64 0, .int .i64 0, .int .i64 0, .int .i64 0, .int .i64 0] 42) = m3 at *
      generalize m0.heap.size = NB at *
      refine wpAnyH_ready (rs := [6]) (by kernel_rfl) (by simp) ?_
      refine (AllReadyH.cons (o := { dst := some 59, op := _, type := _, pos := _, after := _, guard := _ }) rfl (fun K hK => ?_) AllReadyH.nil)
      go_simp
      refine (HAT.out m3 B0.out).mono ?_
      rintro e m4 ⟨r, rfl, hr, bN⟩
      replace hr := hr (by omega)
      have H9 := And.intro (boxed_below bN hHeld.1) (hHeld.2.below bN)
      replace B0 := hd9 (B0.out.trans (bN.mono B0.out.size))
      replace N0 := hd9 (N0.out.below bN)
      refine hK.out _ _ H9 (fun hx9 => ?_)
      clear hK K hHeld
      have hHeld := hx9
      clear hx9 H9 bN
      try simp only [Act.put, List.setIfInBounds_toArray, List.set_cons_zero, List.set_cons_succ]
      have hrI : (r : Int) < (ns.length : Int) := by omega
      refine wpAnyH_take (i := 7) (oi := { dst := some 60, op := _, type := _, pos := _, after := _, guard := _ }) (v := (.pointer (some ⟨tb, tf + r * 7, none⟩))) rfl (by kernel_rfl) (by kernel_rfl) (by kernel_rfl) (fun _ _ _ h => h) (Or.inl ⟨by rfl, fun w9 hS9 => by (clear hS9; go_simp; try with_reducible rfl)⟩) (by assumption) ?_
      try simp only [Act.put, List.setIfInBounds_toArray, List.set_cons_zero, List.set_cons_succ]
      refine wpAnyH_take (i := 8) (oi := { dst := some 61, op := _, type := _, pos := _, after := _, guard := _ }) (v := (.agg #[.string (nAt ns r).path, .string (nAt ns r).data, .int .i64 (nAt ns r).ver, .int .i64 (nAt ns r).cver, .int .i64 (nAt ns r).cz, .int .i64 (nAt ns r).mz, .int .i64 (nAt ns r).pz])) rfl (by kernel_rfl) (by kernel_rfl) (by kernel_rfl) (fun _ _ _ h => h) (Or.inl ⟨by rfl, fun w9 hS9 => by (obtain ⟨k0, k1, k2, k3, k4, k5, k6⟩ := rdN_cells hS9.2 hr; clear hS9; go_simp; try with_reducible rfl)⟩) (by assumption) ?_
      try simp only [Act.put, List.setIfInBounds_toArray, List.set_cons_zero, List.set_cons_succ]
      refine wpAnyH_ready (rs := [10]) (by kernel_rfl) (by simp) ?_
      refine (AllReadyH.cons (o := { dst := none, op := _, type := _, pos := _, after := _, guard := _ }) rfl (fun K hK => ?_) AllReadyH.nil)
      have k0 := N0.out.cl 0 _ rfl
      have f0 := N0.out.fz 0
      have k1 := N0.out.cl 1 _ rfl
      have f1 := N0.out.fz 1
      have k2 := N0.out.cl 2 _ rfl
      have f2 := N0.out.fz 2
      have k3 := N0.out.cl 3 _ rfl
      have f3 := N0.out.fz 3
      have k4 := N0.out.cl 4 _ rfl
      have f4 := N0.out.fz 4
      have k5 := N0.out.cl 5 _ rfl
      have f5 := N0.out.fz 5
      have k6 := N0.out.cl 6 _ rfl
      have f6 := N0.out.fz 6
      go_simp
      have N1 : Hid (St ((((((((m4).setCell ⟨NB, 0, none⟩ (.string (nAt ns r).path)).setCell ⟨NB, 1, none⟩ (.string (nAt ns r).data)).setCell ⟨NB, 2, none⟩ (.int .i64 (nAt ns r).ver)).setCell ⟨NB, 3, none⟩ (.int .i64 (nAt ns r).cver)).setCell ⟨NB, 4, none⟩ (.int .i64 (nAt ns r).cz)).setCell ⟨NB, 5, none⟩ (.int .i64 (nAt ns r).mz)).setCell ⟨NB, 6, none⟩ (.int .i64 (nAt ns r).pz)) NB [.string (nAt ns r).path, .string (nAt ns r).data, .int .i64 (nAt ns r).ver, .int .i64 (nAt ns r).cver, .int .i64 (nAt ns r).cz, .int .i64 (nAt ns r).mz, .int .i64 (nAt ns r).pz]) := (((((((N0.out).set 0 (.string (nAt ns r).path)).set 1 (.string (nAt ns r).data)).set 2 (.int .i64 (nAt ns r).ver)).set 3 (.int .i64 (nAt ns r).cver)).set 4 (.int .i64 (nAt ns r).cz)).set 5 (.int .i64 (nAt ns r).mz)).set 6 (.int .i64 (nAt ns r).pz)
      have tN : Tch NB m4 ((((((((m4).setCell ⟨NB, 0, none⟩ (.string (nAt ns r).path)).setCell ⟨NB, 1, none⟩ (.string (nAt ns r).data)).setCell ⟨NB, 2, none⟩ (.int .i64 (nAt ns r).ver)).setCell ⟨NB, 3, none⟩ (.int .i64 (nAt ns r).cver)).setCell ⟨NB, 4, none⟩ (.int .i64 (nAt ns r).cz)).setCell ⟨NB, 5, none⟩ (.int .i64 (nAt ns r).mz)).setCell ⟨NB, 6, none⟩ (.int .i64 (nAt ns r).pz)) := (((((((tch_set9 m4 NB 0 _).trans (tch_set9 _ NB 1 _)).trans (tch_set9 _ NB 2 _)).trans (tch_set9 _ NB 3 _)).trans (tch_set9 _ NB 4 _)).trans (tch_set9 _ NB 5 _)).trans (tch_set9 _ NB 6 _))
      have X1 : Boxed ((((((((m4).setCell ⟨NB, 0, none⟩ (.string (nAt ns r).path)).setCell ⟨NB, 1, none⟩ (.string (nAt ns r).data)).setCell ⟨NB, 2, none⟩ (.int .i64 (nAt ns r).ver)).setCell ⟨NB, 3, none⟩ (.int .i64 (nAt ns r).cver)).setCell ⟨NB, 4, none⟩ (.int .i64 (nAt ns r).cz)).setCell ⟨NB, 5, none⟩ (.int .i64 (nAt ns r).mz)).setCell ⟨NB, 6, none⟩ (.int .i64 (nAt ns r).pz)) TB 25 (.slice (some ⟨tb, tf, none⟩) ns.length cv) := (tN.2 TB (by omega) (hHeld.1.lt)).trans hHeld.1
      have R1 : RdN ((((((((m4).setCell ⟨NB, 0, none⟩ (.string (nAt ns r).path)).setCell ⟨NB, 1, none⟩ (.string (nAt ns r).data)).setCell ⟨NB, 2, none⟩ (.int .i64 (nAt ns r).ver)).setCell ⟨NB, 3, none⟩ (.int .i64 (nAt ns r).cver)).setCell ⟨NB, 4, none⟩ (.int .i64 (nAt ns r).cz)).setCell ⟨NB, 5, none⟩ (.int .i64 (nAt ns r).mz)).setCell ⟨NB, 6, none⟩ (.int .i64 (nAt ns r).pz)) (.slice (some ⟨tb, tf, none⟩) ns.length cv) ns := hHeld.2.tchK (fun b o n c e => by have := hNT b o n c e; omega) tN
      have B1 : Hid (Below w.heap.size w ((((((((m4).setCell ⟨NB, 0, none⟩ (.string (nAt ns r).path)).setCell ⟨NB, 1, none⟩ (.string (nAt ns r).data)).setCell ⟨NB, 2, none⟩ (.int .i64 (nAt ns r).ver)).setCell ⟨NB, 3, none⟩ (.int .i64 (nAt ns r).cver)).setCell ⟨NB, 4, none⟩ (.int .i64 (nAt ns r).cz)).setCell ⟨NB, 5, none⟩ (.int .i64 (nAt ns r).mz)).setCell ⟨NB, 6, none⟩ (.int .i64 (nAt ns r).pz))) := B0.out.trans (tN.below (by omega) B0.out.size)
      refine hK.out _ _ ⟨X1, R1⟩ (fun hx9 => ?_)
      clear hK K hHeld hx9
      try simp only [Act.put, List.setIfInBounds_toArray, List.set_cons_zero, List.set_cons_succ]
      refine wpAnyH_done (by kernel_rfl) ?_ _
      go_wp2_with fail
      go_meet
      exact ⟨_, r, rfl, hr, N1, X1, R1, B1⟩
  case rest =>
  obtain ⟨NB, r, rfl, hr, N4, X4, RD4, B4⟩ := hcut
  clear X3 RD3 B3 HAT
  have hmem : nAt ns r ∈ ns := by rw [nAt_get hr]; exact List.getElem_mem hr
  have hnd := HSN.out.2.1 _ hmem
  generalize nAt ns r = n at *
  have HPN := hd9 (okNd_path hnd)
  have hcv := (okNd_all hnd).2.2.2.1
  have HME := hd9 hmem
  clear hnd hmem
  generalize hw4 : wc = w4 at *
  clear hw4
  have k0 := N4.out.cl 0 _ rfl
  go_upto_if 65 with fail
  go_cut [9] from 62 to 65 (fun v9 wx => v9 = .string (preB n.path) ∧ w4 = wx)
  case first =>
    cases hp : (n.path.toList == [47]) with
    | true =>
      have hpre : preB n.path = ⟨#[]⟩ := by unfold preB; rw [if_pos (by rw [← ba_list]; exact eq_of_beq hp)]
      go_wp2_with fail
      go_meet
      exact ⟨by rw [hpre], rfl⟩
    | false =>
      have hpre : preB n.path = n.path := by unfold preB; rw [if_neg (by rw [← ba_list]; intro e9; rw [e9] at hp; simp at hp)]
      go_wp2_with fail
      go_meet
      exact ⟨by rw [hpre], rfl⟩
  case rest =>
  obtain ⟨rfl, rfl⟩ := hcut
  clear k0
  have bA1 : Below w4.heap.size w4 (w4.alloc (.cells #[.int .i64 1, .string (preB n.path ++ ⟨#[47, 115]⟩), .string ⟨#[100]⟩, .int .i64 0, .bool true] 40)) := (Below.refl _ _).alloc (Nat.le_refl _) _
  have bA2 : Below (w4.alloc (.cells #[.int .i64 1, .string (preB n.path ++ ⟨#[47, 115]⟩), .string ⟨#[100]⟩, .int .i64 0, .bool true] 40)).heap.size (w4.alloc (.cells #[.int .i64 1, .string (preB n.path ++ ⟨#[47, 115]⟩), .string ⟨#[100]⟩, .int .i64 0, .bool true] 40)) ((w4.alloc (.cells #[.int .i64 1, .string (preB n.path ++ ⟨#[47, 115]⟩), .string ⟨#[100]⟩, .int .i64 0, .bool true] 40)).alloc (.cells #[.slice (some ⟨w4.heap.size, 0, none⟩) 1 1] 28)) := (Below.refl _ _).alloc (Nat.le_refl _) _
  have hs1 : (w4.alloc (.cells #[.int .i64 1, .string (preB n.path ++ ⟨#[47, 115]⟩), .string ⟨#[100]⟩, .int .i64 0, .bool true] 40)).heap.size = w4.heap.size + 1 := by simp
  have bA := bA1.trans (bA2.mono bA1.size)
  have RQ5 := hd9 ((rdO_one9 (o := seqO n.path) (heap_alloc_new w4 (.cells #[.int .i64 1, .string (preB n.path ++ ⟨#[47, 115]⟩), .string ⟨#[100]⟩, .int .i64 0, .bool true] 40)) rfl).below bA2)
  have Q5' := Boxed.new (w4.alloc (.cells #[.int .i64 1, .string (preB n.path ++ ⟨#[47, 115]⟩), .string ⟨#[100]⟩, .int .i64 0, .bool true] 40)) 28 (.slice (some ⟨w4.heap.size, 0, none⟩) 1 1)
  rw [hs1] at Q5'
  have Q5 := hd9 Q5'
  have X5 := hd9 (boxed_below bA X4.out)
  have RD5 := hd9 (RD4.out.below bA)
  have B5 := hd9 (B4.out.trans (bA.mono B4.out.size))
  have N5 := hd9 (N4.out.below bA)
  have x4 := X4.out.cell
  have x4l := X4.out.lt
  clear bA1 bA2 hs1 bA Q5' X4 RD4 B4 N4
  have hpb : (preB n.path).size ≤ 102 := by
    have h1 := okPath_size HPN.out
    unfold preB
    split
    · exact Nat.zero_le _
    · exact h1
  have HS1 := hd9 (HSG.out ns (seqO n.path) 2000 HZ.out hnl (seqO_sz HPN.out))
  have HI1 := hd9 (HIG.out ns (seqO n.path) 2000 HZ.out (seqO_sz HPN.out))
  have HF1 := hd9 (prF_seq HSN.out HME.out (show 1 ≤ (2000 : Int) ∧ (2000 : Int) ≤ 2147483647 by omega))
  generalize prF ns [seqO n.path] 2000 = A1 at *
  obtain ⟨c, i, zz, L, es⟩ := A1
  replace HF1 : Hid (c = 0 → ∃ B, SeqG ns n 2000 B ∧ PrGood ns 2000 ⟨c, i, zz, L, es⟩ B ∧ L = [(seqN n).data.toList]) := HF1
  go_wp2_with fail
  clear x4 x4l
  generalize (w4.alloc (.cells #[.int .i64 1, .string (preB n.path ++ ⟨#[47, 115]⟩), .string ⟨#[100]⟩, .int .i64 0, .bool true] 40)).alloc (.cells #[.slice (some ⟨w4.heap.size, 0, none⟩) 1 1] 28) = w5 at *
  generalize w4.heap.size = qb at *
  refine (HI1.out w5 _ _ B5.out RD5.out RQ5.out).mono ?_
  rintro e w6 ⟨v6, u6, rfl, on, oe, b6⟩
  obtain ⟨an, kn, hv6⟩ := OwnS.slice on
  subst hv6
  obtain ⟨ae, ke, hu6⟩ := oe.slice
  subst hu6
  have bP : Below w6.heap.size w6 (w6.alloc (.cells #[.int .i64 c, .int .i64 i, .slice an L.length kn, .int .i64 zz, .slice ae es.length ke] 37)) := (Below.refl _ _).alloc (Nat.le_refl _) _
  have b6' := b6.trans (bP.mono b6.size)
  have D7 : Hid (Lq1 w TB (qb + 1) w6.heap.size NB (.slice (some ⟨tb, tf, none⟩) ns.length cv) (.slice (some ⟨qb, 0, none⟩) 1 1) ns (seqO n.path) n c i zz L es w5.heap.size (.slice an L.length kn) (.slice ae es.length ke) (w6.alloc (.cells #[.int .i64 c, .int .i64 i, .slice an L.length kn, .int .i64 zz, .slice ae es.length ke] 37))) :=
    ⟨boxed_below b6' X5.out, boxed_below b6' Q5.out, St.new w6 #[.int .i64 c, .int .i64 i, .slice an L.length kn, .int .i64 zz, .slice ae es.length ke] 37, N5.out.below b6', RD5.out.below b6', RQ5.out.below b6', on.below bP, oe.below bP, B5.out.trans (b6'.mono B5.out.size)⟩
  clear bP b6 b6' on oe X5 Q5 N5 RD5 RQ5 B5
  go_wp2_with fail
  generalize w6.alloc (.cells #[.int .i64 c, .int .i64 i, .slice an L.length kn, .int .i64 zz, .slice ae es.length ke] 37) = w7 at *
  generalize w6.heap.size = PO at *
  generalize hqb : qb + 1 = QB at *
  clear hqb
  have bD : Below w7.heap.size w7 w7.drew := below_drewN' w7 1
  refine wp_region_held_drew (S := fun W => Lq1 w TB QB PO NB (.slice (some ⟨tb, tf, none⟩) ns.length cv) (.slice (some ⟨qb, 0, none⟩) 1 1) ns (seqO n.path) n c i zz L es w5.heap.size (.slice an L.length kn) (.slice ae es.length ke) W) (by kernel_rfl) (D7.out.later bD) (fun hHeld => ?_)
  clear bD D7
  generalize w7.drew = w8 at *
  refine wpAnyH_take (i := 0) (oi := { dst := some 74, op := _, type := _, pos := _, after := _, guard := _ }) (v := (.pointer (some ⟨PO, 0, none⟩))) rfl (by kernel_rfl) (by kernel_rfl) (by kernel_rfl) (fun _ _ _ h => h) (Or.inl ⟨by rfl, fun w9 hS9 => by (clear hS9; go_simp; try with_reducible rfl)⟩) (by assumption) ?_
  try simp only [Act.put, List.setIfInBounds_toArray, List.set_cons_zero, List.set_cons_succ]
  refine wpAnyH_take (i := 1) (oi := { dst := some 75, op := _, type := _, pos := _, after := _, guard := _ }) (v := (.int .i64 c)) rfl (by kernel_rfl) (by kernel_rfl) (by kernel_rfl) (fun _ _ _ h => h) (Or.inl ⟨by rfl, fun w9 hS9 => by (have h9 := hS9.p.cl 0 _ rfl; clear hS9; go_simp; try with_reducible rfl)⟩) (by assumption) ?_
  try simp only [Act.put, List.setIfInBounds_toArray, List.set_cons_zero, List.set_cons_succ]
  refine wpAnyH_take (i := 2) (oi := { dst := some 76, op := _, type := _, pos := _, after := _, guard := _ }) (v := (.agg #[.slice (some ⟨tb, tf, none⟩) ns.length cv])) rfl (by kernel_rfl) (by kernel_rfl) (by kernel_rfl) (fun _ _ _ h => h) (Or.inl ⟨by rfl, fun w9 hS9 => by (have h9 := hS9.x.cell; clear hS9; go_simp; try with_reducible rfl)⟩) (by assumption) ?_
  try simp only [Act.put, List.setIfInBounds_toArray, List.set_cons_zero, List.set_cons_succ]
  refine wpAnyH_take (i := 3) (oi := { dst := some 77, op := _, type := _, pos := _, after := _, guard := _ }) (v := (.agg #[.slice (some ⟨qb, 0, none⟩) 1 1])) rfl (by kernel_rfl) (by kernel_rfl) (by kernel_rfl) (fun _ _ _ h => h) (Or.inl ⟨by rfl, fun w9 hS9 => by (have h9 := hS9.q.cell; clear hS9; go_simp; try with_reducible rfl)⟩) (by assumption) ?_
  try simp only [Act.put, List.setIfInBounds_toArray, List.set_cons_zero, List.set_cons_succ]
  refine wpAnyH_ready (rs := [4]) (by kernel_rfl) (by simp) ?_
  refine (AllReadyH.cons (o := { dst := some 78, op := _, type := _, pos := _, after := _, guard := _ }) rfl (fun K hK => ?_) AllReadyH.nil)
  go_simp
  refine (HS1.out w8 _ _ hHeld.rd hHeld.rq).mono ?_
  rintro e w9 ⟨v9, u9, rfl, on, oe, b9⟩
  obtain ⟨an9, kn9, hv9⟩ := OwnS.slice on
  subst hv9
  obtain ⟨ae9, ke9, hu9⟩ := oe.slice
  subst hu9
  have H9 := hHeld.later b9
  refine hK.out _ _ H9 (fun hx9 => ?_)
  clear hK K hHeld
  have hHeld := hx9
  clear hx9 H9 b9 on oe
  try simp only [Act.put, List.setIfInBounds_toArray, List.set_cons_zero, List.set_cons_succ]
  refine wpAnyH_take (i := 5) (oi := { dst := some 79, op := _, type := _, pos := _, after := _, guard := _ }) (v := (.int .i64 c)) rfl (by kernel_rfl) (by kernel_rfl) (by kernel_rfl) (fun _ _ _ h => h) (Or.inl ⟨by rfl, fun w9 hS9 => by (have hf9 := field_prep (.int .i64 c) (.int .i64 i) (.slice an9 L.length kn9) (.int .i64 zz) (.slice ae9 es.length ke9) w9; clear hS9; go_simp; try with_reducible rfl)⟩) (by assumption) ?_
  try simp only [Act.put, List.setIfInBounds_toArray, List.set_cons_zero, List.set_cons_succ]
  refine wpAnyH_take (i := 6) (oi := { dst := some 80, op := _, type := _, pos := _, after := _, guard := _ }) (v := (.bool false)) rfl (by kernel_rfl) (by kernel_rfl) (by kernel_rfl) (fun _ _ _ h => h) (Or.inl ⟨by rfl, fun w9 hS9 => by (clear hS9; go_simp; try simp)⟩) (by assumption) ?_
  try simp only [Act.put, List.setIfInBounds_toArray, List.set_cons_zero, List.set_cons_succ]
  refine wpAnyH_done (by kernel_rfl) ?_ _
  have D9 : Hid (Lq1 w TB QB PO NB (.slice (some ⟨tb, tf, none⟩) ns.length cv) (.slice (some ⟨qb, 0, none⟩) 1 1) ns (seqO n.path) n c i zz L es w5.heap.size (.slice an L.length kn) (.slice ae es.length ke) w9) := hHeld
  clear hHeld
  have p0 := D9.out.p.cl 0 _ rfl
  have n3 := D9.out.nb.cl 3 _ rfl
  by_cases hc : c = 0
  case neg =>
    go_wp2
    go_ret
    exact ⟨rfl, D9.out.bel⟩
  subst hc
  by_cases hcv9 : 999999 ≤ n.cver
  · go_wp2
    go_ret
    exact ⟨rfl, D9.out.bel⟩
  obtain ⟨B, SG, PG, hL⟩ := HF1.out rfl
  obtain rfl : zz = 2000 := PG.zz
  have hL1 : L.length = 1 := by rw [hL]; rfl
  have HL := hd9 hL
  clear hL HF1
  obtain ⟨gn, hgn⟩ := own_some D9.out.s (by omega)
  subst hgn
  have HL1 := hd9 hL1
  clear hL1
  have HEZ := hd9 (okTxn_szs PG.ok)
  have HBZ := hd9 (snd_szs PG.b)
  have hBl := PG.b.2.2
  have HS2 := hd9 (HSG.out B (seqO n.path) 2001 HBZ.out (by omega) (seqO_sz HPN.out))
  have HI2 := hd9 (HIG.out B (seqO n.path) 2001 HBZ.out (seqO_sz HPN.out))
  have HF2 : Hid ((prF B [seqO n.path] 2001).c = 0 → ∃ B', SeqG B { n with cver := mor n.cver, pz := 2000 } 2001 B' ∧ PrGood B 2001 (prF B [seqO n.path] 2001) B' ∧ (prF B [seqO n.path] 2001).L = [(seqN { n with cver := mor n.cver, pz := 2000 }).data.toList]) := prF_seq (n := { n with cver := mor n.cver, pz := 2000 }) SG.s SG.par (show 1 ≤ (2001 : Int) ∧ (2001 : Int) ≤ 2147483647 by omega)
  have HCH := hd9 (SG.child HPN.out)
  have HNX : Hid (ltP (seqN n) (seqN { n with cver := mor n.cver, pz := 2000 }) = true) := seq_next rfl rfl hcv.1 (by omega)
  generalize (⟨n.path, n.data, n.ver, mor n.cver, n.cz, n.mz, 2000⟩ : Nd) = n2 at *
  generalize prF B [seqO n.path] 2001 = A2 at *
  obtain ⟨c2, i2, z2, L2, es2⟩ := A2
  have HF3 : Hid (c2 = 0 → L2 = [(seqN n2).data.toList]) := fun h9 => (HF2.out h9).elim fun _ h8 => h8.2.2
  clear HF2 HSG HIG
  have x9 := D9.out.x.cell
  have p3 := D9.out.p.cl 3 _ rfl
  have p4 := D9.out.p.cl 4 _ rfl
  go_wp2_with fail
  clear x9 p3 p4 p0 n3
  refine (implApply_any w9 _ ns 2000 _ es D9.out.rd NK.out D9.out.e.rd HZ.out HEZ.out).mono ?_
  rintro e w10 ⟨v10, rfl, o10, b10⟩
  rw [show resA ns 2000 es = B from PG.one] at o10
  obtain ⟨a10, k10, hv10⟩ := OwnN.slice9 o10
  subst hv10
  have bP : Below w10.heap.size w10 (w10.alloc (.cells #[.slice a10 B.length k10] 25)) := (Below.refl _ _).alloc (Nat.le_refl _) _
  have b10' := b10.trans (bP.mono b10.size)
  have D11 := hd9 (D9.out.later b10')
  have A11 := hd9 (Boxed.new w10 25 (.slice a10 B.length k10))
  have O11 := hd9 (o10.below bP)
  have q10 := (D9.out.later b10).q.cell
  have q10l := (D9.out.later b10).q.lt
  clear bP b10 b10' o10 D9
  go_wp2_with fail
  clear q10 q10l
  generalize w10.alloc (.cells #[.slice a10 B.length k10] 25) = w11 at *
  generalize w10.heap.size = AB at *
  refine (HI2.out w11 _ _ D11.out.bel O11.out.rd D11.out.rq).mono ?_
  rintro e w12 ⟨v12, u12, rfl, on, oe, b12⟩
  obtain ⟨an2, kn2, hv12⟩ := OwnS.slice on
  subst hv12
  obtain ⟨ae2, ke2, hu12⟩ := oe.slice
  subst hu12
  have bP : Below w12.heap.size w12 (w12.alloc (.cells #[.int .i64 c2, .int .i64 i2, .slice an2 L2.length kn2, .int .i64 z2, .slice ae2 es2.length ke2] 37)) := (Below.refl _ _).alloc (Nat.le_refl _) _
  have b12' := b12.trans (bP.mono b12.size)
  have D13 : Hid (Lq2 w TB QB PO NB (.slice (some ⟨tb, tf, none⟩) ns.length cv) (.slice (some ⟨qb, 0, none⟩) 1 1) ns (seqO n.path) n 0 i 2000 L es w5.heap.size (.slice (some ⟨gn, 0, none⟩) L.length kn) (.slice ae es.length ke) AB (.slice a10 B.length k10) B w9.heap.size w12.heap.size c2 i2 z2 L2 w11.heap.size (.slice an2 L2.length kn2) (.slice ae2 es2.length ke2) (w12.alloc (.cells #[.int .i64 c2, .int .i64 i2, .slice an2 L2.length kn2, .int .i64 z2, .slice ae2 es2.length ke2] 37))) := ⟨D11.out.later b12', boxed_below b12' A11.out, O11.out.below b12', St.new w12 #[.int .i64 c2, .int .i64 i2, .slice an2 L2.length kn2, .int .i64 z2, .slice ae2 es2.length ke2] 37, on.below bP⟩
  clear bP b12 b12' on oe D11 A11 O11
  go_wp2_with fail
  generalize w12.alloc (.cells #[.int .i64 c2, .int .i64 i2, .slice an2 L2.length kn2, .int .i64 z2, .slice ae2 es2.length ke2] 37) = w13 at *
  generalize w12.heap.size = PT at *
  have bD : Below w13.heap.size w13 w13.drew := below_drewN' w13 1
  refine wp_region_held_drew (S := fun W => Lq2 w TB QB PO NB (.slice (some ⟨tb, tf, none⟩) ns.length cv) (.slice (some ⟨qb, 0, none⟩) 1 1) ns (seqO n.path) n 0 i 2000 L es w5.heap.size (.slice (some ⟨gn, 0, none⟩) L.length kn) (.slice ae es.length ke) AB (.slice a10 B.length k10) B w9.heap.size PT c2 i2 z2 L2 w11.heap.size (.slice an2 L2.length kn2) (.slice ae2 es2.length ke2) W) (by kernel_rfl) (D13.out.later bD) (fun hHeld => ?_)
  clear bD D13
  generalize w13.drew = w14 at *
  refine wpAnyH_take (i := 0) (oi := { dst := some 96, op := _, type := _, pos := _, after := _, guard := _ }) (v := (.pointer (some ⟨PT, 0, none⟩))) rfl (by kernel_rfl) (by kernel_rfl) (by kernel_rfl) (fun _ _ _ h => h) (Or.inl ⟨by rfl, fun w9 hS9 => by (clear hS9; go_simp; try with_reducible rfl)⟩) (by assumption) ?_
  try simp only [Act.put, List.setIfInBounds_toArray, List.set_cons_zero, List.set_cons_succ]
  refine wpAnyH_take (i := 1) (oi := { dst := some 97, op := _, type := _, pos := _, after := _, guard := _ }) (v := (.int .i64 c2)) rfl (by kernel_rfl) (by kernel_rfl) (by kernel_rfl) (fun _ _ _ h => h) (Or.inl ⟨by rfl, fun w9 hS9 => by (have h9 := hS9.p.cl 0 _ rfl; clear hS9; go_simp; try with_reducible rfl)⟩) (by assumption) ?_
  try simp only [Act.put, List.setIfInBounds_toArray, List.set_cons_zero, List.set_cons_succ]
  refine wpAnyH_take (i := 2) (oi := { dst := some 98, op := _, type := _, pos := _, after := _, guard := _ }) (v := (.agg #[.slice (some ⟨tb, tf, none⟩) ns.length cv])) rfl (by kernel_rfl) (by kernel_rfl) (by kernel_rfl) (fun _ _ _ h => h) (Or.inl ⟨by rfl, fun w9 hS9 => by (have h9 := hS9.d.x.cell; clear hS9; go_simp; try with_reducible rfl)⟩) (by assumption) ?_
  try simp only [Act.put, List.setIfInBounds_toArray, List.set_cons_zero, List.set_cons_succ]
  refine wpAnyH_take (i := 3) (oi := { dst := some 99, op := _, type := _, pos := _, after := _, guard := _ }) (v := (.agg #[.slice (some ⟨tb, tf, none⟩) ns.length cv])) rfl (by kernel_rfl) (by kernel_rfl) (by kernel_rfl) (fun _ _ _ h => h) (Or.inl ⟨by rfl, fun w9 hS9 => by (have h9 := hS9.d.x.cell; clear hS9; go_simp; try with_reducible rfl)⟩) (by assumption) ?_
  try simp only [Act.put, List.setIfInBounds_toArray, List.set_cons_zero, List.set_cons_succ]
  refine wpAnyH_take (i := 4) (oi := { dst := some 100, op := _, type := _, pos := _, after := _, guard := _ }) (v := (.agg #[.slice (some ⟨qb, 0, none⟩) 1 1])) rfl (by kernel_rfl) (by kernel_rfl) (by kernel_rfl) (fun _ _ _ h => h) (Or.inl ⟨by rfl, fun w9 hS9 => by (have h9 := hS9.d.q.cell; clear hS9; go_simp; try with_reducible rfl)⟩) (by assumption) ?_
  try simp only [Act.put, List.setIfInBounds_toArray, List.set_cons_zero, List.set_cons_succ]
  refine wpAnyH_take (i := 8) (oi := { dst := some 104, op := _, type := _, pos := _, after := _, guard := _ }) (v := (.agg #[.slice (some ⟨qb, 0, none⟩) 1 1])) rfl (by kernel_rfl) (by kernel_rfl) (by kernel_rfl) (fun _ _ _ h => h) (Or.inl ⟨by rfl, fun w9 hS9 => by (have h9 := hS9.d.q.cell; clear hS9; go_simp; try with_reducible rfl)⟩) (by assumption) ?_
  try simp only [Act.put, List.setIfInBounds_toArray, List.set_cons_zero, List.set_cons_succ]
  refine wpAnyH_ready (rs := [5]) (by kernel_rfl) (by simp) ?_
  refine (AllReadyH.cons (o := { dst := some 101, op := _, type := _, pos := _, after := _, guard := _ }) rfl (fun K hK => ?_) AllReadyH.nil)
  go_simp
  refine (HS1.out w14 _ _ hHeld.d.rd hHeld.d.rq).mono ?_
  rintro e w15 ⟨v15, u15, rfl, on, oe, b15⟩
  obtain ⟨an5, kn5, hv15⟩ := OwnS.slice on
  subst hv15
  obtain ⟨ae5, ke5, hu15⟩ := oe.slice
  subst hu15
  have H9 := hHeld.later b15
  have E15 := hd9 oe.rd
  refine hK.out _ _ H9 (fun hx9 => ?_)
  clear hK K hHeld
  have hHeld := hx9
  clear hx9 H9 b15 on oe
  try simp only [Act.put, List.setIfInBounds_toArray, List.set_cons_zero, List.set_cons_succ]
  refine wpAnyH_take (i := 6) (oi := { dst := some 102, op := _, type := _, pos := _, after := _, guard := _ }) (v := (.agg #[.int .i64 2000, .slice ae5 es.length ke5])) rfl (by kernel_rfl) (by kernel_rfl) (by kernel_rfl) (fun _ _ _ h => h) (Or.inl ⟨by rfl, fun w9 hS9 => by (have hf9 := field_prep3 (.int .i64 0) (.int .i64 i) (.slice an5 L.length kn5) (.int .i64 2000) (.slice ae5 es.length ke5) w9; clear hS9; go_simp; try with_reducible rfl)⟩) (by assumption) ?_
  try simp only [Act.put, List.setIfInBounds_toArray, List.set_cons_zero, List.set_cons_succ]
  refine wpAnyH_ready (rs := [7]) (by kernel_rfl) (by simp) ?_
  refine (AllReadyH.cons (o := { dst := some 103, op := _, type := _, pos := _, after := _, guard := _ }) rfl (fun K hK => ?_) AllReadyH.nil)
  go_simp
  refine (specApply_any w15 _ ns 2000 _ es hHeld.d.rd E15.out (by omega) HZ.out HEZ.out).mono ?_
  rintro e w16 ⟨v16, rfl, o16, b16⟩
  rw [show resA ns 2000 es = B from PG.one] at o16
  obtain ⟨a16, k16, hv16⟩ := OwnN.slice9 o16
  subst hv16
  have H9 := hHeld.later b16
  have T16 := hd9 o16.rd
  refine hK.out _ _ H9 (fun hx9 => ?_)
  clear hK K hHeld
  have hHeld := hx9
  clear hx9 H9 b16 o16 E15
  try simp only [Act.put, List.setIfInBounds_toArray, List.set_cons_zero, List.set_cons_succ]
  refine wpAnyH_ready (rs := [9]) (by kernel_rfl) (by simp) ?_
  refine (AllReadyH.cons (o := { dst := some 105, op := _, type := _, pos := _, after := _, guard := _ }) rfl (fun K hK => ?_) AllReadyH.nil)
  go_simp
  refine (HS2.out w16 _ _ T16.out hHeld.d.rq).mono ?_
  rintro e w17 ⟨v17, u17, rfl, on, oe, b17⟩
  obtain ⟨an7, kn7, hv17⟩ := OwnS.slice on
  subst hv17
  obtain ⟨ae7, ke7, hu17⟩ := oe.slice
  subst hu17
  have H9 := hHeld.later b17
  refine hK.out _ _ H9 (fun hx9 => ?_)
  clear hK K hHeld
  have hHeld := hx9
  clear hx9 H9 b17 on oe T16
  try simp only [Act.put, List.setIfInBounds_toArray, List.set_cons_zero, List.set_cons_succ]
  refine wpAnyH_take (i := 10) (oi := { dst := some 106, op := _, type := _, pos := _, after := _, guard := _ }) (v := (.int .i64 c2)) rfl (by kernel_rfl) (by kernel_rfl) (by kernel_rfl) (fun _ _ _ h => h) (Or.inl ⟨by rfl, fun w9 hS9 => by (have hf9 := field_prep (.int .i64 c2) (.int .i64 i2) (.slice an7 L2.length kn7) (.int .i64 z2) (.slice ae7 es2.length ke7) w9; clear hS9; go_simp; try with_reducible rfl)⟩) (by assumption) ?_
  try simp only [Act.put, List.setIfInBounds_toArray, List.set_cons_zero, List.set_cons_succ]
  refine wpAnyH_take (i := 11) (oi := { dst := some 107, op := _, type := _, pos := _, after := _, guard := _ }) (v := (.bool false)) rfl (by kernel_rfl) (by kernel_rfl) (by kernel_rfl) (fun _ _ _ h => h) (Or.inl ⟨by rfl, fun w9 hS9 => by (clear hS9; go_simp; try simp)⟩) (by assumption) ?_
  try simp only [Act.put, List.setIfInBounds_toArray, List.set_cons_zero, List.set_cons_succ]
  refine wpAnyH_take (i := 12) (oi := { dst := some 108, op := _, type := _, pos := _, after := _, guard := _ }) (v := (.bool false)) rfl (by kernel_rfl) (by kernel_rfl) (by kernel_rfl) (fun _ _ _ h => h) (Or.inl ⟨by rfl, fun w9 hS9 => by (clear hS9; go_simp; try with_reducible rfl)⟩) (by assumption) ?_
  try simp only [Act.put, List.setIfInBounds_toArray, List.set_cons_zero, List.set_cons_succ]
  refine wpAnyH_take (i := 13) (oi := { dst := some 109, op := _, type := _, pos := _, after := _, guard := _ }) (v := (.pointer (some ⟨PO, 2, none⟩))) rfl (by kernel_rfl) (by kernel_rfl) (by kernel_rfl) (fun _ _ _ h => h) (Or.inl ⟨by rfl, fun w9 hS9 => by (clear hS9; go_simp; try with_reducible rfl)⟩) (by assumption) ?_
  try simp only [Act.put, List.setIfInBounds_toArray, List.set_cons_zero, List.set_cons_succ]
  refine wpAnyH_take (i := 14) (oi := { dst := some 110, op := _, type := _, pos := _, after := _, guard := _ }) (v := (.slice (some ⟨gn, 0, none⟩) L.length kn)) rfl (by kernel_rfl) (by kernel_rfl) (by kernel_rfl) (fun _ _ _ h => h) (Or.inl ⟨by rfl, fun w9 hS9 => by (have h9 := hS9.d.p.cl 2 _ rfl; clear hS9; go_simp; try with_reducible rfl)⟩) (by assumption) ?_
  try simp only [Act.put, List.setIfInBounds_toArray, List.set_cons_zero, List.set_cons_succ]
  refine wpAnyH_take (i := 15) (oi := { dst := some 111, op := _, type := _, pos := _, after := _, guard := _ }) (v := (.int .i64 (L.length : Int))) rfl (by kernel_rfl) (by kernel_rfl) (by kernel_rfl) (fun _ _ _ h => h) (Or.inl ⟨by rfl, fun w9 hS9 => by (clear hS9; go_simp; try with_reducible rfl)⟩) (by assumption) ?_
  try simp only [Act.put, List.setIfInBounds_toArray, List.set_cons_zero, List.set_cons_succ]
  refine wpAnyH_take (i := 16) (oi := { dst := some 112, op := _, type := _, pos := _, after := _, guard := _ }) (v := (.bool false)) rfl (by kernel_rfl) (by kernel_rfl) (by kernel_rfl) (fun _ _ _ h => h) (Or.inl ⟨by rfl, fun w9 hS9 => by (clear hS9; go_simp; try simp [HL1.out])⟩) (by assumption) ?_
  try simp only [Act.put, List.setIfInBounds_toArray, List.set_cons_zero, List.set_cons_succ]
  refine wpAnyH_take (i := 17) (oi := { dst := some 113, op := _, type := _, pos := _, after := _, guard := _ }) (v := (.bool false)) rfl (by kernel_rfl) (by kernel_rfl) (by kernel_rfl) (fun _ _ _ h => h) (Or.inl ⟨by rfl, fun w9 hS9 => by (clear hS9; go_simp; try with_reducible rfl)⟩) (by assumption) ?_
  try simp only [Act.put, List.setIfInBounds_toArray, List.set_cons_zero, List.set_cons_succ]
  refine wpAnyH_done (by kernel_rfl) ?_ _
  have D17 : Hid (Lq2 w TB QB PO NB (.slice (some ⟨tb, tf, none⟩) ns.length cv) (.slice (some ⟨qb, 0, none⟩) 1 1) ns (seqO n.path) n 0 i 2000 L es w5.heap.size (.slice (some ⟨gn, 0, none⟩) L.length kn) (.slice ae es.length ke) AB (.slice a10 B.length k10) B w9.heap.size PT c2 i2 z2 L2 w11.heap.size (.slice an2 L2.length kn2) (.slice ae2 es2.length ke2) w17) := hHeld
  clear hHeld
  have a17 := D17.out.a.cell
  have n17 := D17.out.d.nb.cl 0 _ rfl
  go_wp2_with fail
  clear a17 n17
  refine (implChildren_any w17 _ B n.path D17.out.ao.rd HBZ.out).mono ?_
  rintro e w18 ⟨v18, rfl, o18, b18⟩
  have D18 := hd9 (D17.out.later b18)
  obtain ⟨ac, kc, hv18⟩ := OwnS.slice o18
  subst hv18
  have R18 := hd9 o18
  clear o18 b18 D17
  obtain ⟨hRl, hRz⟩ := resC_sz B n.path
  generalize resC B n.path = R at *
  have HRZ := hd9 hRz
  clear hRz
  go_wp2
  go_loopw [15, 16] (fun vf vi wr => ∃ (j : Nat) (fd : Bool), j ≤ R.length ∧ vi = .int .i64 (j : Int) ∧ vf = .bool fd ∧ Hid (Lq2 w TB QB PO NB (.slice (some ⟨tb, tf, none⟩) ns.length cv) (.slice (some ⟨qb, 0, none⟩) 1 1) ns (seqO n.path) n 0 i 2000 L es w5.heap.size (.slice (some ⟨gn, 0, none⟩) L.length kn) (.slice ae es.length ke) AB (.slice a10 B.length k10) B w9.heap.size PT c2 i2 z2 L2 w11.heap.size (.slice an2 L2.length kn2) (.slice ae2 es2.length ke2) wr) ∧ Hid (OwnS wr w17.heap.size (.slice ac R.length kc) R) ∧ Hid (fd = true ∨ ∀ q l, q < j → R[q]? = some l → (preB n.path).data.toList ++ 47 :: l ≠ (seqN n).data.toList)) (fun _ i _ => R.length - (intOf i).toNat)
  case atStart => exact ⟨0, false, Nat.zero_le _, rfl, rfl, D18, R18, .inr fun q l hq => by omega⟩
  case round =>
    clear D18 R18
    obtain ⟨j, fd, hj, rfl, rfl, DR, RR, HF⟩ := hrel
    by_cases hlt : j < R.length
    · have hltI : (j : Int) < (R.length : Int) := by omega
      obtain ⟨gc, hgc⟩ := own_some RR.out (by omega)
      subst hgc
      obtain ⟨l, hl⟩ : ∃ l, R[j]? = some l := ⟨_, List.getElem?_eq_getElem hlt⟩
      have hlz : l.length ≤ 102 := HRZ.out l (List.mem_of_getElem? hl)
      have HLJ := hd9 hl
      have cj := own_cell RR.out hl
      have cn := own_cell DR.out.d.s (j := 0) (l := (seqN n).data.toList) (by rw [HL.out]; rfl)
      rw [sV_ba] at cn
      have p2 := DR.out.d.p.cl 2 _ rfl
      have hL0 : (0 : Int) < (L.length : Int) := by have := HL1.out; omega
      have hL0n : 0 < L.length := by have := HL1.out; omega
      unfold sV at cj
      have hbz : (⟨l.toArray⟩ : ByteArray).size ≤ 102 := by show l.toArray.size ≤ _; simp; exact hlz
      generalize hlb : (⟨l.toArray⟩ : ByteArray) = lb at *
      have HEQ : Hid ((preB n.path ++ ⟨#[47]⟩ ++ lb).toList = (preB n.path).data.toList ++ 47 :: l) := by
        show _ = _
        rw [ba_list, ByteArray.data_append, ByteArray.data_append, ← hlb]
        simp
      have DN : Hid (∀ q, Lq2 w TB QB PO NB (.slice (some ⟨tb, tf, none⟩) ns.length cv) (.slice (some ⟨qb, 0, none⟩) 1 1) ns (seqO n.path) n 0 i 2000 L es w5.heap.size (.slice (some ⟨gn, 0, none⟩) L.length kn) (.slice ae es.length ke) AB (.slice a10 B.length k10) B w9.heap.size PT c2 i2 z2 L2 w11.heap.size (.slice an2 L2.length kn2) (.slice ae2 es2.length ke2) (wr.drewN q)) := fun q => DR.out.later (below_drewN' wr q)
      have RN : Hid (∀ q, OwnS (wr.drewN q) w17.heap.size (.slice (some ⟨gc, 0, none⟩) R.length kc) R) := fun q => RR.out.below (below_drewN' wr q)
      clear DR RR hlb hl
      go_wp2_with fail
      go_quiet (fail)
      cases hq : ((preB n.path ++ ⟨#[47]⟩ ++ lb).toList == (seqN n).toList) with
      | true =>
        go_wp2
        go_roundw
        case rel => exact ⟨j + 1, true, by omega, by go_num, rfl, DN.out _, RN.out _, .inl rfl⟩
        case measure => simp [intOf]; omega
      | false =>
        go_wp2
        go_roundw
        case rel =>
          refine ⟨j + 1, fd, by omega, by go_num, rfl, DN.out _, RN.out _, HF.out.imp id fun h9 q l' hq' hl' => ?_⟩
          by_cases hqj : q < j
          · exact h9 q l' hqj hl'
          · obtain rfl : q = j := by omega
            rw [HLJ.out] at hl'
            obtain rfl := Option.some.inj hl'
            intro e9
            rw [HEQ.out, e9, ba_list] at hq
            simp at hq
        case measure => simp [intOf]; omega
    · have hfd : fd = true := by
        rcases HF.out with h9 | h9
        · exact h9
        · obtain ⟨l, hl, he⟩ := HCH.out
          obtain ⟨q, hq, rfl⟩ := List.getElem_of_mem hl
          exact absurd he (h9 q _ (by omega) (List.getElem?_eq_getElem hq))
      subst hfd
      have hltI : ¬ (j : Int) < (R.length : Int) := by omega
      have cn := own_cell DR.out.d.s (j := 0) (l := (seqN n).data.toList) (by rw [HL.out]; rfl)
      rw [sV_ba] at cn
      have p2 := DR.out.d.p.cl 2 _ rfl
      have t0 := DR.out.p.cl 0 _ rfl
      have t2 := DR.out.p.cl 2 _ rfl
      have hL0 : (0 : Int) < (L.length : Int) := by have := HL1.out; omega
      have hL0n : 0 < L.length := by have := HL1.out; omega
      have BN : Hid (∀ q, Below w.heap.size w (wr.drewN q)) := fun q => (DR.out.later (below_drewN' wr q)).d.bel
      by_cases hc2 : c2 = 0
      · subst hc2
        have hL2 : L2.length = 1 := by rw [HF3.out rfl]; rfl
        obtain ⟨g2, hg2⟩ := own_some DR.out.s (by omega)
        subst hg2
        have cm := own_cell DR.out.s (j := 0) (l := (seqN n2).data.toList) (by rw [HF3.out rfl]; rfl)
        rw [sV_ba] at cm
        have hL2I : ((L2.length : Int) == 1) = true := by rw [hL2]; rfl
        have hL2p : (0 : Int) < (L2.length : Int) := by omega
        have hL2n : 0 < L2.length := by omega
        have hnx1 := (ltP_yes HNX.out).1
        have hnx2 := (ltP_yes HNX.out).2
        clear hL2 DR RR
        go_wp2_with fail
        go_quiet (fail)
        go_wp2
        go_ret
        exact ⟨rfl, BN.out _⟩
      · have hc2b : (c2 != 0) = true := by simpa using hc2
        clear DR RR
        go_wp2_with fail
        go_quiet (fail)
        go_wp2
        go_ret
        exact ⟨rfl, BN.out _⟩

end Go.Proofs.YtdiingonnddkcaaGreatDoor


