import Derived.Test.YtdiingonnddkcaaGreatDoorJ19
import Derived.Test.YtdiingonnddkcaaGreatDoorJ08
namespace Go.Proofs.YtdiingonnddkcaaGreatDoor
open Go.RowKit

/-- The version that is asked for. -/
def Sr.vers (s : Sr) : Int × Sr := if (s.next 3).1 = 0 then ((((s.next 3).2.next 3).1 : Int), ((s.next 3).2.next 3).2) else (-1, (s.next 3).2)
/-- A drawn operation. -/
def Sr.op (s : Sr) (ns : List Nd) : Op5 × Sr :=
  if (s.next 12).1 < 5 then (⟨1, ((s.next 12).2.near ns).1, ((s.next 12).2.near ns).2.data.1, 0, (((s.next 12).2.near ns).2.data.2.next 4).1 == 0⟩, (((s.next 12).2.near ns).2.data.2.next 4).2)
  else if (s.next 12).1 < 7 then (⟨2, ((s.next 12).2.vers.2.near ns).1, ⟨#[]⟩, (s.next 12).2.vers.1, false⟩, ((s.next 12).2.vers.2.near ns).2)
  else if (s.next 12).1 < 10 then (⟨3, ((s.next 12).2.vers.2.near ns).1, ((s.next 12).2.vers.2.near ns).2.data.1, (s.next 12).2.vers.1, false⟩, ((s.next 12).2.vers.2.near ns).2.data.2)
  else (⟨4, ((s.next 12).2.vers.2.near ns).1, ⟨#[]⟩, (s.next 12).2.vers.1, false⟩, ((s.next 12).2.vers.2.near ns).2)

/-- What a drawing of an operation holds besides its source. -/
def NbO (W : World) (v : Value) (w : World) : Prop :=
  w.cell? ⟨W.heap.size, 0, none⟩ = some v ∧ w.cell? ⟨W.heap.size + 1, 0, none⟩ = some (.int .i64 0) ∧ w.cell? ⟨W.heap.size + 1, 1, none⟩ = some (.string ⟨#[]⟩) ∧ w.cell? ⟨W.heap.size + 1, 2, none⟩ = some (.string ⟨#[]⟩) ∧ w.cell? ⟨W.heap.size + 1, 3, none⟩ = some (.int .i64 0) ∧ w.cell? ⟨W.heap.size + 1, 4, none⟩ = some (.bool false) ∧ (∀ j, w.frozen? ⟨W.heap.size + 1, j, none⟩ = false) ∧ W.heap.size + 2 ≤ w.heap.size
theorem NbO.tch {W w w' : World} {v : Value} {k : Nat} (h : NbO W v w) (t : Tch k w w') (hk : k < W.heap.size) : NbO W v w' := by
  obtain ⟨h0, h1, h2, h3, h4, h5, hf, hs⟩ := h
  have a := t.2 W.heap.size (by omega) (by omega)
  have b := t.2 (W.heap.size + 1) (by omega) (by omega)
  exact ⟨(World.cell?_of_block (w := w) (a := ⟨W.heap.size, 0, none⟩) a).trans h0, (World.cell?_of_block (w := w) (a := ⟨W.heap.size + 1, 0, none⟩) b).trans h1, (World.cell?_of_block (w := w) (a := ⟨W.heap.size + 1, 1, none⟩) b).trans h2, (World.cell?_of_block (w := w) (a := ⟨W.heap.size + 1, 2, none⟩) b).trans h3, (World.cell?_of_block (w := w) (a := ⟨W.heap.size + 1, 3, none⟩) b).trans h4, (World.cell?_of_block (w := w) (a := ⟨W.heap.size + 1, 4, none⟩) b).trans h5, fun j => (World.frozen?_of_block (w := w) b).trans (hf j), Nat.le_trans hs t.size⟩
theorem NbO.new (W : World) (v : Value) (t1 t2 : TypeId) : NbO W v ((W.alloc (.cells #[v] t1)).alloc (.cells #[.int .i64 0, .string ⟨#[]⟩, .string ⟨#[]⟩, .int .i64 0, .bool false] t2)) := by
  have e : (W.alloc (.cells #[v] t1)).heap.size = W.heap.size + 1 := by simp
  have h1 : ((W.alloc (.cells #[v] t1)).alloc (.cells #[.int .i64 0, .string ⟨#[]⟩, .string ⟨#[]⟩, .int .i64 0, .bool false] t2)).heap[W.heap.size + 1]? = some (.cells #[.int .i64 0, .string ⟨#[]⟩, .string ⟨#[]⟩, .int .i64 0, .bool false] t2) := by
    rw [← e]; exact heap_alloc_new _ _
  refine ⟨by go_simp, (cell_of h1 _).trans rfl, (cell_of h1 _).trans rfl, (cell_of h1 _).trans rfl, (cell_of h1 _).trans rfl, (cell_of h1 _).trans rfl, fun j => by go_simp, by simp⟩

set_option maxHeartbeats 4000000 in
set_option maxRecDepth 100000 in
theorem op_k (W : World) (k B : Nat) (s : Sr) (v : Value) (ns : List Nd) (h : SRX W k B s) (ho : RdN W v ns) (hlo : OffK k v) (hn : ns.length ≤ 1000000) (hps : ∀ i, i < ns.length → (nAt ns i).path.size ≤ 1000) :
    Calls Tryz.prog 55 #[.pointer (some ⟨k, 0, none⟩), .agg #[v]] W fun e w' => e = .returned (.agg #[.int .i64 (s.op ns).1.kind, .string (s.op ns).1.path, .string (s.op ns).1.data, .int .i64 (s.op ns).1.ver, .bool (s.op ns).1.seq]) ∧ SRX w' k B (s.op ns).2 ∧ Tch k W w' := by
  have hk1 := h.kB
  have hk2 := h.lt
  have B0 : Hid (Below W.heap.size W ((W.alloc (.cells #[v] 25)).alloc (.cells #[.int .i64 0, .string ⟨#[]⟩, .string ⟨#[]⟩, .int .i64 0, .bool false] 40))) := ((Below.refl _ _).alloc (Nat.le_refl _) _).alloc (by simp) _
  have S0 : Hid (SRX ((W.alloc (.cells #[v] 25)).alloc (.cells #[.int .i64 0, .string ⟨#[]⟩, .string ⟨#[]⟩, .int .i64 0, .bool false] 40)) k B s) := h.keep (B0.out.mono hk2)
  have T0 : Hid (Tch k W ((W.alloc (.cells #[v] 25)).alloc (.cells #[.int .i64 0, .string ⟨#[]⟩, .string ⟨#[]⟩, .int .i64 0, .bool false] 40))) := Tch.of B0.out
  have X0 : Hid (NbO W v ((W.alloc (.cells #[v] 25)).alloc (.cells #[.int .i64 0, .string ⟨#[]⟩, .string ⟨#[]⟩, .int .i64 0, .bool false] 40))) := NbO.new _ _ _ _
  have HO : Hid (RdN W v ns) := ho
  obtain ⟨av, cv, rfl⟩ : ∃ a c, v = .slice a ns.length c := by
    obtain ⟨a, c, h0, _⟩ := ho.len
    exact ⟨a, c, h0⟩
  have HLO : Hid (OffK k (.slice av ns.length cv)) := hlo
  have HPS : Hid (∀ i, i < ns.length → (nAt ns i).path.size ≤ 1000) := hps
  -- a box's end: what is stored, what is left
  have HEND : Hid (∀ (w' : World) (o : Op5) (q : Sr), SRX w' k B q → Tch k W w' → SRX (((((w'.setCell ⟨W.heap.size + 1, 0, none⟩ (.int .i64 o.kind)).setCell ⟨W.heap.size + 1, 1, none⟩ (.string o.path)).setCell ⟨W.heap.size + 1, 2, none⟩ (.string o.data)).setCell ⟨W.heap.size + 1, 3, none⟩ (.int .i64 o.ver)).setCell ⟨W.heap.size + 1, 4, none⟩ (.bool o.seq)) k B q ∧ Tch k W (((((w'.setCell ⟨W.heap.size + 1, 0, none⟩ (.int .i64 o.kind)).setCell ⟨W.heap.size + 1, 1, none⟩ (.string o.path)).setCell ⟨W.heap.size + 1, 2, none⟩ (.string o.data)).setCell ⟨W.heap.size + 1, 3, none⟩ (.int .i64 o.ver)).setCell ⟨W.heap.size + 1, 4, none⟩ (.bool o.seq))) := by
    intro w' o q hs ht
    have bS : Below W.heap.size w' (((((w'.setCell ⟨W.heap.size + 1, 0, none⟩ (.int .i64 o.kind)).setCell ⟨W.heap.size + 1, 1, none⟩ (.string o.path)).setCell ⟨W.heap.size + 1, 2, none⟩ (.string o.data)).setCell ⟨W.heap.size + 1, 3, none⟩ (.int .i64 o.ver)).setCell ⟨W.heap.size + 1, 4, none⟩ (.bool o.seq)) := by
      repeat (first | exact Below.refl _ _ | refine Below.setCell ?_ (by simp) _)
    exact ⟨hs.keep (bS.mono hk2), ht.then bS⟩
  obtain ⟨res, hres⟩ : ∃ res, res = s.op ns := ⟨_, rfl⟩
  have HR : Hid (s.op ns = res) := hres.symm
  rw [← hres]
  have hkW : k < W.heap.size := by omega
  clear h hres ho hps hlo
  unfold Sr.op at HR
  go_enter Tryz.func55, Tryz.ntmps55
  go_wp2_with fail
  generalize (W.alloc (.cells #[.slice av ns.length cv] 25)).alloc (.cells #[.int .i64 0, .string ⟨#[]⟩, .string ⟨#[]⟩, .int .i64 0, .bool false] 40) = w0 at *
  refine (next_x _ k B 12 s S0.out (by omega)).mono ?_
  rintro e w1 ⟨rfl, s1, t1⟩
  have hn1 := s.next_lt 12 (by omega)
  generalize (s.next 12).2 = r1 at *
  generalize (s.next 12).1 = n1 at *
  have S1 : Hid (SRX w1 k B r1) := s1
  have T1 : Hid (Tch k W w1) := T0.out.trans t1
  have X1 : Hid (NbO W (.slice av ns.length cv) w1) := X0.out.tch t1 hkW
  clear s1 t1 S0 T0 X0 B0
  by_cases h5 : n1 < 5
  · rw [if_pos h5] at HR
    have h5I : (n1 : Int) < 5 := by omega
    have x0 := X1.out.1
    go_wp2_with fail
    clear x0
    refine (near_k _ k B r1 _ ns S1.out (HO.out.tchK HLO.out T1.out) HLO.out hn HPS.out).mono ?_
    rintro e w2 ⟨rfl, s2, t2⟩
    generalize r1.near ns = p at *
    have S2 : Hid (SRX w2 k B p.2) := s2
    have T2 : Hid (Tch k W w2) := T1.out.trans t2
    have X2 : Hid (NbO W (.slice av ns.length cv) w2) := X1.out.tch t2 hkW
    clear s2 t2 S1 T1 X1
    go_wp2_with fail
    refine (data_x _ k B p.2 S2.out).mono ?_
    rintro e w3 ⟨rfl, s3, t3⟩
    generalize p.2.data = d at *
    have S3 : Hid (SRX w3 k B d.2) := s3
    have T3 : Hid (Tch k W w3) := T2.out.trans t3
    have X3 : Hid (NbO W (.slice av ns.length cv) w3) := X2.out.tch t3 hkW
    clear s3 t3 S2 T2 X2
    go_wp2_with fail
    refine (next_x _ k B 4 d.2 S3.out (by omega)).mono ?_
    rintro e w4 ⟨rfl, s4, t4⟩
    have hn4 := d.2.next_lt 4 (by omega)
    have F := fun o => HEND.out w4 o _ s4 (T3.out.trans t4)
    generalize (d.2.next 4).2 = r4 at *
    generalize (d.2.next 4).1 = n4 at *
    have X4 : Hid (NbO W (.slice av ns.length cv) w4) := X3.out.tch t4 hkW
    have HF : Hid (∀ o : Op5, SRX (((((w4.setCell ⟨W.heap.size + 1, 0, none⟩ (.int .i64 o.kind)).setCell ⟨W.heap.size + 1, 1, none⟩ (.string o.path)).setCell ⟨W.heap.size + 1, 2, none⟩ (.string o.data)).setCell ⟨W.heap.size + 1, 3, none⟩ (.int .i64 o.ver)).setCell ⟨W.heap.size + 1, 4, none⟩ (.bool o.seq)) k B r4 ∧ Tch k W (((((w4.setCell ⟨W.heap.size + 1, 0, none⟩ (.int .i64 o.kind)).setCell ⟨W.heap.size + 1, 1, none⟩ (.string o.path)).setCell ⟨W.heap.size + 1, 2, none⟩ (.string o.data)).setCell ⟨W.heap.size + 1, 3, none⟩ (.int .i64 o.ver)).setCell ⟨W.heap.size + 1, 4, none⟩ (.bool o.seq))) := F
    clear F s4 t4 S3 T3 X3
    have e4 : ((n4 : Int) == 0) = (n4 == 0) := by
      rw [Bool.eq_iff_iff, beq_iff_eq, beq_iff_eq]; omega
    obtain ⟨-, d0, d1, d2, d3, d4, df, dz⟩ := X4.out
    have f0 := df 0
    have f1 := df 1
    have f2 := df 2
    have f3 := df 3
    have f4 := df 4
    clear df
    go_wp2
    rw [← HR.out]
    exact bodyPost_ret (v := .agg #[.int .i64 (1), .string p.1, .string d.1, .int .i64 (0), .bool (n4 == 0)]) (by simp [results, Tryz.results55, go_sem, d0, d1, d2, d3, d4]) rfl ⟨rfl, HF.out ⟨1, p.1, d.1, 0, n4 == 0⟩⟩
  · rw [if_neg h5] at HR
    have h5I : ¬ (n1 : Int) < 5 := by omega
    go_wp2_with fail
    refine (next_x _ k B 3 r1 S1.out (by omega)).mono ?_
    rintro e w2 ⟨rfl, s2, t2⟩
    have hn2 := r1.next_lt 3 (by omega)
    unfold Sr.vers at HR
    generalize (r1.next 3).2 = r2 at *
    generalize (r1.next 3).1 = n2 at *
    have S2 : Hid (SRX w2 k B r2) := s2
    have T2 : Hid (Tch k W w2) := T1.out.trans t2
    have X2 : Hid (NbO W (.slice av ns.length cv) w2) := X1.out.tch t2 hkW
    clear s2 t2 S1 T1 X1
    by_cases h0 : n2 = 0
    · subst h0
      simp only [if_true] at HR
      go_wp2_with fail
      refine (next_x _ k B 3 r2 S2.out (by omega)).mono ?_
      rintro e w3 ⟨rfl, s3, t3⟩
      have hn3 := r2.next_lt 3 (by omega)
      generalize (r2.next 3).2 = r3 at *
      generalize (r2.next 3).1 = n3 at *
      have S3 : Hid (SRX w3 k B r3) := s3
      have T3 : Hid (Tch k W w3) := T2.out.trans t3
      have X3 : Hid (NbO W (.slice av ns.length cv) w3) := X2.out.tch t3 hkW
      clear s3 t3 S2 T2 X2
      by_cases h7 : n1 < 7
      · rw [if_pos h7] at HR
        have h7I : (n1 : Int) < 7 := by omega
        have x0 := X3.out.1
        go_wp2_with fail
        clear x0
        refine (near_k _ k B r3 _ ns S3.out (HO.out.tchK HLO.out T3.out) HLO.out hn HPS.out).mono ?_
        rintro e w4 ⟨rfl, s4, t4⟩
        generalize r3.near ns = p at *
        have S4 : Hid (SRX w4 k B p.2) := s4
        have T4 : Hid (Tch k W w4) := T3.out.trans t4
        have X4 : Hid (NbO W (.slice av ns.length cv) w4) := X3.out.tch t4 hkW
        clear s4 t4 S3 T3 X3
        have HF : Hid (∀ o : Op5, SRX (((((w4.setCell ⟨W.heap.size + 1, 0, none⟩ (.int .i64 o.kind)).setCell ⟨W.heap.size + 1, 1, none⟩ (.string o.path)).setCell ⟨W.heap.size + 1, 2, none⟩ (.string o.data)).setCell ⟨W.heap.size + 1, 3, none⟩ (.int .i64 o.ver)).setCell ⟨W.heap.size + 1, 4, none⟩ (.bool o.seq)) k B p.2 ∧ Tch k W (((((w4.setCell ⟨W.heap.size + 1, 0, none⟩ (.int .i64 o.kind)).setCell ⟨W.heap.size + 1, 1, none⟩ (.string o.path)).setCell ⟨W.heap.size + 1, 2, none⟩ (.string o.data)).setCell ⟨W.heap.size + 1, 3, none⟩ (.int .i64 o.ver)).setCell ⟨W.heap.size + 1, 4, none⟩ (.bool o.seq))) := fun o => HEND.out w4 o _ S4.out T4.out
        obtain ⟨-, d0, d1, d2, d3, d4, df, dz⟩ := X4.out
        have f0 := df 0
        have f1 := df 1
        have f2 := df 2
        have f3 := df 3
        have f4 := df 4
        clear df
        clear S4 T4 X4 HEND
        go_wp2
        rw [← HR.out]
        exact bodyPost_ret (v := .agg #[.int .i64 (2), .string p.1, .string ⟨#[]⟩, .int .i64 ((n3 : Int)), .bool (false)]) (by simp [results, Tryz.results55, go_sem, d0, d1, d2, d3, d4]) rfl ⟨rfl, HF.out ⟨2, p.1, ⟨#[]⟩, (n3 : Int), false⟩⟩
      rw [if_neg h7] at HR
      have h7I : ¬ (n1 : Int) < 7 := by omega
      by_cases h10 : n1 < 10
      · rw [if_pos h10] at HR
        have h10I : (n1 : Int) < 10 := by omega
        have x0 := X3.out.1
        go_wp2_with fail
        clear x0
        refine (near_k _ k B r3 _ ns S3.out (HO.out.tchK HLO.out T3.out) HLO.out hn HPS.out).mono ?_
        rintro e w4 ⟨rfl, s4, t4⟩
        generalize r3.near ns = p at *
        have S4 : Hid (SRX w4 k B p.2) := s4
        have T4 : Hid (Tch k W w4) := T3.out.trans t4
        have X4 : Hid (NbO W (.slice av ns.length cv) w4) := X3.out.tch t4 hkW
        clear s4 t4 S3 T3 X3
        go_wp2_with fail
        refine (data_x _ k B p.2 S4.out).mono ?_
        rintro e w5 ⟨rfl, s5, t5⟩
        generalize p.2.data = d at *
        have S5 : Hid (SRX w5 k B d.2) := s5
        have T5 : Hid (Tch k W w5) := T4.out.trans t5
        have X5 : Hid (NbO W (.slice av ns.length cv) w5) := X4.out.tch t5 hkW
        clear s5 t5 S4 T4 X4
        have HF : Hid (∀ o : Op5, SRX (((((w5.setCell ⟨W.heap.size + 1, 0, none⟩ (.int .i64 o.kind)).setCell ⟨W.heap.size + 1, 1, none⟩ (.string o.path)).setCell ⟨W.heap.size + 1, 2, none⟩ (.string o.data)).setCell ⟨W.heap.size + 1, 3, none⟩ (.int .i64 o.ver)).setCell ⟨W.heap.size + 1, 4, none⟩ (.bool o.seq)) k B d.2 ∧ Tch k W (((((w5.setCell ⟨W.heap.size + 1, 0, none⟩ (.int .i64 o.kind)).setCell ⟨W.heap.size + 1, 1, none⟩ (.string o.path)).setCell ⟨W.heap.size + 1, 2, none⟩ (.string o.data)).setCell ⟨W.heap.size + 1, 3, none⟩ (.int .i64 o.ver)).setCell ⟨W.heap.size + 1, 4, none⟩ (.bool o.seq))) := fun o => HEND.out w5 o _ S5.out T5.out
        obtain ⟨-, d0, d1, d2, d3, d4, df, dz⟩ := X5.out
        have f0 := df 0
        have f1 := df 1
        have f2 := df 2
        have f3 := df 3
        have f4 := df 4
        clear df
        clear S5 T5 X5 HEND
        go_wp2
        rw [← HR.out]
        exact bodyPost_ret (v := .agg #[.int .i64 (3), .string p.1, .string d.1, .int .i64 ((n3 : Int)), .bool (false)]) (by simp [results, Tryz.results55, go_sem, d0, d1, d2, d3, d4]) rfl ⟨rfl, HF.out ⟨3, p.1, d.1, (n3 : Int), false⟩⟩
      rw [if_neg h10] at HR
      have h10I : ¬ (n1 : Int) < 10 := by omega
      have x0 := X3.out.1
      go_wp2_with fail
      clear x0
      refine (near_k _ k B r3 _ ns S3.out (HO.out.tchK HLO.out T3.out) HLO.out hn HPS.out).mono ?_
      rintro e w4 ⟨rfl, s4, t4⟩
      generalize r3.near ns = p at *
      have S4 : Hid (SRX w4 k B p.2) := s4
      have T4 : Hid (Tch k W w4) := T3.out.trans t4
      have X4 : Hid (NbO W (.slice av ns.length cv) w4) := X3.out.tch t4 hkW
      clear s4 t4 S3 T3 X3
      have HF : Hid (∀ o : Op5, SRX (((((w4.setCell ⟨W.heap.size + 1, 0, none⟩ (.int .i64 o.kind)).setCell ⟨W.heap.size + 1, 1, none⟩ (.string o.path)).setCell ⟨W.heap.size + 1, 2, none⟩ (.string o.data)).setCell ⟨W.heap.size + 1, 3, none⟩ (.int .i64 o.ver)).setCell ⟨W.heap.size + 1, 4, none⟩ (.bool o.seq)) k B p.2 ∧ Tch k W (((((w4.setCell ⟨W.heap.size + 1, 0, none⟩ (.int .i64 o.kind)).setCell ⟨W.heap.size + 1, 1, none⟩ (.string o.path)).setCell ⟨W.heap.size + 1, 2, none⟩ (.string o.data)).setCell ⟨W.heap.size + 1, 3, none⟩ (.int .i64 o.ver)).setCell ⟨W.heap.size + 1, 4, none⟩ (.bool o.seq))) := fun o => HEND.out w4 o _ S4.out T4.out
      obtain ⟨-, d0, d1, d2, d3, d4, df, dz⟩ := X4.out
      have f0 := df 0
      have f1 := df 1
      have f2 := df 2
      have f3 := df 3
      have f4 := df 4
      clear df
      clear S4 T4 X4 HEND
      go_wp2
      rw [← HR.out]
      exact bodyPost_ret (v := .agg #[.int .i64 (4), .string p.1, .string ⟨#[]⟩, .int .i64 ((n3 : Int)), .bool (false)]) (by simp [results, Tryz.results55, go_sem, d0, d1, d2, d3, d4]) rfl ⟨rfl, HF.out ⟨4, p.1, ⟨#[]⟩, (n3 : Int), false⟩⟩
    · rw [if_neg h0] at HR
      have h0b : ((n2 : Int) == 0) = false := beq_eq_false_iff_ne.2 (by omega)
      by_cases h7 : n1 < 7
      · rw [if_pos h7] at HR
        have h7I : (n1 : Int) < 7 := by omega
        have x0 := X2.out.1
        go_wp2_with fail
        clear x0
        refine (near_k _ k B r2 _ ns S2.out (HO.out.tchK HLO.out T2.out) HLO.out hn HPS.out).mono ?_
        rintro e w3 ⟨rfl, s3, t3⟩
        generalize r2.near ns = p at *
        have S3 : Hid (SRX w3 k B p.2) := s3
        have T3 : Hid (Tch k W w3) := T2.out.trans t3
        have X3 : Hid (NbO W (.slice av ns.length cv) w3) := X2.out.tch t3 hkW
        clear s3 t3 S2 T2 X2
        have HF : Hid (∀ o : Op5, SRX (((((w3.setCell ⟨W.heap.size + 1, 0, none⟩ (.int .i64 o.kind)).setCell ⟨W.heap.size + 1, 1, none⟩ (.string o.path)).setCell ⟨W.heap.size + 1, 2, none⟩ (.string o.data)).setCell ⟨W.heap.size + 1, 3, none⟩ (.int .i64 o.ver)).setCell ⟨W.heap.size + 1, 4, none⟩ (.bool o.seq)) k B p.2 ∧ Tch k W (((((w3.setCell ⟨W.heap.size + 1, 0, none⟩ (.int .i64 o.kind)).setCell ⟨W.heap.size + 1, 1, none⟩ (.string o.path)).setCell ⟨W.heap.size + 1, 2, none⟩ (.string o.data)).setCell ⟨W.heap.size + 1, 3, none⟩ (.int .i64 o.ver)).setCell ⟨W.heap.size + 1, 4, none⟩ (.bool o.seq))) := fun o => HEND.out w3 o _ S3.out T3.out
        obtain ⟨-, d0, d1, d2, d3, d4, df, dz⟩ := X3.out
        have f0 := df 0
        have f1 := df 1
        have f2 := df 2
        have f3 := df 3
        have f4 := df 4
        clear df
        clear S3 T3 X3 HEND
        go_wp2
        rw [← HR.out]
        exact bodyPost_ret (v := .agg #[.int .i64 (2), .string p.1, .string ⟨#[]⟩, .int .i64 (-1), .bool (false)]) (by simp [results, Tryz.results55, go_sem, d0, d1, d2, d3, d4]) rfl ⟨rfl, HF.out ⟨2, p.1, ⟨#[]⟩, -1, false⟩⟩
      rw [if_neg h7] at HR
      have h7I : ¬ (n1 : Int) < 7 := by omega
      by_cases h10 : n1 < 10
      · rw [if_pos h10] at HR
        have h10I : (n1 : Int) < 10 := by omega
        have x0 := X2.out.1
        go_wp2_with fail
        clear x0
        refine (near_k _ k B r2 _ ns S2.out (HO.out.tchK HLO.out T2.out) HLO.out hn HPS.out).mono ?_
        rintro e w3 ⟨rfl, s3, t3⟩
        generalize r2.near ns = p at *
        have S3 : Hid (SRX w3 k B p.2) := s3
        have T3 : Hid (Tch k W w3) := T2.out.trans t3
        have X3 : Hid (NbO W (.slice av ns.length cv) w3) := X2.out.tch t3 hkW
        clear s3 t3 S2 T2 X2
        go_wp2_with fail
        refine (data_x _ k B p.2 S3.out).mono ?_
        rintro e w4 ⟨rfl, s4, t4⟩
        generalize p.2.data = d at *
        have S4 : Hid (SRX w4 k B d.2) := s4
        have T4 : Hid (Tch k W w4) := T3.out.trans t4
        have X4 : Hid (NbO W (.slice av ns.length cv) w4) := X3.out.tch t4 hkW
        clear s4 t4 S3 T3 X3
        have HF : Hid (∀ o : Op5, SRX (((((w4.setCell ⟨W.heap.size + 1, 0, none⟩ (.int .i64 o.kind)).setCell ⟨W.heap.size + 1, 1, none⟩ (.string o.path)).setCell ⟨W.heap.size + 1, 2, none⟩ (.string o.data)).setCell ⟨W.heap.size + 1, 3, none⟩ (.int .i64 o.ver)).setCell ⟨W.heap.size + 1, 4, none⟩ (.bool o.seq)) k B d.2 ∧ Tch k W (((((w4.setCell ⟨W.heap.size + 1, 0, none⟩ (.int .i64 o.kind)).setCell ⟨W.heap.size + 1, 1, none⟩ (.string o.path)).setCell ⟨W.heap.size + 1, 2, none⟩ (.string o.data)).setCell ⟨W.heap.size + 1, 3, none⟩ (.int .i64 o.ver)).setCell ⟨W.heap.size + 1, 4, none⟩ (.bool o.seq))) := fun o => HEND.out w4 o _ S4.out T4.out
        obtain ⟨-, d0, d1, d2, d3, d4, df, dz⟩ := X4.out
        have f0 := df 0
        have f1 := df 1
        have f2 := df 2
        have f3 := df 3
        have f4 := df 4
        clear df
        clear S4 T4 X4 HEND
        go_wp2
        rw [← HR.out]
        exact bodyPost_ret (v := .agg #[.int .i64 (3), .string p.1, .string d.1, .int .i64 (-1), .bool (false)]) (by simp [results, Tryz.results55, go_sem, d0, d1, d2, d3, d4]) rfl ⟨rfl, HF.out ⟨3, p.1, d.1, -1, false⟩⟩
      rw [if_neg h10] at HR
      have h10I : ¬ (n1 : Int) < 10 := by omega
      have x0 := X2.out.1
      go_wp2_with fail
      clear x0
      refine (near_k _ k B r2 _ ns S2.out (HO.out.tchK HLO.out T2.out) HLO.out hn HPS.out).mono ?_
      rintro e w3 ⟨rfl, s3, t3⟩
      generalize r2.near ns = p at *
      have S3 : Hid (SRX w3 k B p.2) := s3
      have T3 : Hid (Tch k W w3) := T2.out.trans t3
      have X3 : Hid (NbO W (.slice av ns.length cv) w3) := X2.out.tch t3 hkW
      clear s3 t3 S2 T2 X2
      have HF : Hid (∀ o : Op5, SRX (((((w3.setCell ⟨W.heap.size + 1, 0, none⟩ (.int .i64 o.kind)).setCell ⟨W.heap.size + 1, 1, none⟩ (.string o.path)).setCell ⟨W.heap.size + 1, 2, none⟩ (.string o.data)).setCell ⟨W.heap.size + 1, 3, none⟩ (.int .i64 o.ver)).setCell ⟨W.heap.size + 1, 4, none⟩ (.bool o.seq)) k B p.2 ∧ Tch k W (((((w3.setCell ⟨W.heap.size + 1, 0, none⟩ (.int .i64 o.kind)).setCell ⟨W.heap.size + 1, 1, none⟩ (.string o.path)).setCell ⟨W.heap.size + 1, 2, none⟩ (.string o.data)).setCell ⟨W.heap.size + 1, 3, none⟩ (.int .i64 o.ver)).setCell ⟨W.heap.size + 1, 4, none⟩ (.bool o.seq))) := fun o => HEND.out w3 o _ S3.out T3.out
      obtain ⟨-, d0, d1, d2, d3, d4, df, dz⟩ := X3.out
      have f0 := df 0
      have f1 := df 1
      have f2 := df 2
      have f3 := df 3
      have f4 := df 4
      clear df
      clear S3 T3 X3 HEND
      go_wp2
      rw [← HR.out]
      exact bodyPost_ret (v := .agg #[.int .i64 (4), .string p.1, .string ⟨#[]⟩, .int .i64 (-1), .bool (false)]) (by simp [results, Tryz.results55, go_sem, d0, d1, d2, d3, d4]) rfl ⟨rfl, HF.out ⟨4, p.1, ⟨#[]⟩, -1, false⟩⟩

theorem op_x (W : World) (k B lo : Nat) (s : Sr) (v : Value) (ns : List Nd) (h : SRX W k B s) (ho : OwnN 42 W lo v ns) (hlo : k < lo) (hn : ns.length ≤ 1000000) (hps : ∀ i, i < ns.length → (nAt ns i).path.size ≤ 1000) :
    Calls Tryz.prog 55 #[.pointer (some ⟨k, 0, none⟩), .agg #[v]] W fun e w' => e = .returned (.agg #[.int .i64 (s.op ns).1.kind, .string (s.op ns).1.path, .string (s.op ns).1.data, .int .i64 (s.op ns).1.ver, .bool (s.op ns).1.seq]) ∧ SRX w' k B (s.op ns).2 ∧ Tch k W w' := op_k W k B s v ns h ho.rd (OwnN.offK ho hlo) hn hps

end Go.Proofs.YtdiingonnddkcaaGreatDoor


