import Derived.Test.YtdiingonnddkcaaGreatDoorK02
import Derived.Deep.RegionWith
namespace Go.Proofs.YtdiingonnddkcaaGreatDoor
open Go.RowKit

/-- A node. -/
structure Nd where
  path : ByteArray
  data : ByteArray
  ver : Int
  cver : Int
  cz : Int
  mz : Int
  pz : Int
def ndL (n : Nd) : List Value := [.string n.path, .string n.data, .int .i64 n.ver, .int .i64 n.cver, .int .i64 n.cz, .int .i64 n.mz, .int .i64 n.pz]
def nd0 : Nd := ⟨ByteArray.empty, ByteArray.empty, 0, 0, 0, 0, 0⟩
def nAt (ns : List Nd) (i : Nat) : Nd := ns.getD i nd0
theorem nAt_get {ns : List Nd} {i : Nat} (h : i < ns.length) : nAt ns i = ns[i] := by unfold nAt; simp [List.getD, h]

/-- The cells of a node. -/
structure CellsN (w : World) (b p : Nat) (n : Nd) : Prop where
  c0 : w.cell? ⟨b, p, none⟩ = some (.string n.path)
  c1 : w.cell? ⟨b, p + 1, none⟩ = some (.string n.data)
  c2 : w.cell? ⟨b, p + 2, none⟩ = some (.int .i64 n.ver)
  c3 : w.cell? ⟨b, p + 3, none⟩ = some (.int .i64 n.cver)
  c4 : w.cell? ⟨b, p + 4, none⟩ = some (.int .i64 n.cz)
  c5 : w.cell? ⟨b, p + 5, none⟩ = some (.int .i64 n.mz)
  c6 : w.cell? ⟨b, p + 6, none⟩ = some (.int .i64 n.pz)
theorem CellsN.below {w w' : World} {m b p : Nat} {n : Nd} (h : CellsN w b p n) (hb : Below m w w') (hl : b < m) : CellsN w' b p n :=
  ⟨(hb.cell (p := ⟨b, _, none⟩) hl).trans h.c0, (hb.cell (p := ⟨b, _, none⟩) hl).trans h.c1, (hb.cell (p := ⟨b, _, none⟩) hl).trans h.c2, (hb.cell (p := ⟨b, _, none⟩) hl).trans h.c3,
   (hb.cell (p := ⟨b, _, none⟩) hl).trans h.c4, (hb.cell (p := ⟨b, _, none⟩) hl).trans h.c5, (hb.cell (p := ⟨b, _, none⟩) hl).trans h.c6⟩

/-- A slice of nodes that reads as ns. -/
def RdN (w : World) (v : Value) (ns : List Nd) : Prop :=
  ∃ ao cap, v = .slice ao ns.length cap ∧ ns.length ≤ cap ∧ cap ≤ maxLen ∧
    (ns = [] ∨ ∃ b off, ao = some ⟨b, off, none⟩ ∧ b < w.heap.size ∧ ∀ i, i < ns.length → CellsN w b (off + i * 7) (nAt ns i))
theorem RdN.len {w : World} {v : Value} {ns : List Nd} (h : RdN w v ns) : ∃ ao cap, v = .slice ao ns.length cap ∧ ns.length ≤ cap ∧ cap ≤ maxLen := by
  obtain ⟨ao, cap, h0, h1, h2, _⟩ := h
  exact ⟨ao, cap, h0, h1, h2⟩
theorem RdN.below {w w' : World} {v : Value} {ns : List Nd} (h : RdN w v ns) (hb : Below w.heap.size w w') : RdN w' v ns := by
  obtain ⟨ao, cap, rfl, h1, h2, h3⟩ := h
  refine ⟨ao, cap, rfl, h1, h2, ?_⟩
  rcases h3 with h3 | ⟨b, off, rfl, hlt, hc⟩
  · exact .inl h3
  · exact .inr ⟨b, off, rfl, Nat.lt_of_lt_of_le hlt hb.size, fun i hi => (hc i hi).below hb hlt⟩

/-! ### rows of nodes -/
def nrow (ns : List Nd) : List Value := ns.flatMap ndL
theorem nrow_cons (n : Nd) (ns : List Nd) : nrow (n :: ns) = ndL n ++ nrow ns := by simp [nrow]
theorem nrow_append (ns ms : List Nd) : nrow (ns ++ ms) = nrow ns ++ nrow ms := by simp [nrow]
theorem nrow_length : ∀ ns : List Nd, (nrow ns).length = ns.length * 7
  | [] => rfl
  | n :: ns => by rw [nrow_cons, List.length_append, nrow_length ns, List.length_cons]; show 7 + _ = _; omega
theorem nrow_get : ∀ (ns : List Nd) (i j : Nat), i < ns.length → j < 7 → (nrow ns)[i * 7 + j]? = (ndL (nAt ns i))[j]?
  | [], i, j, h, _ => by simp at h
  | n :: ns, 0, j, _, hj => by
    rw [nrow_cons, Nat.zero_mul, Nat.zero_add, List.getElem?_append_left (by show j < 7; exact hj)]; rfl
  | n :: ns, i + 1, j, h, hj => by
    rw [nrow_cons, List.getElem?_append_right (by show 7 ≤ _; omega), show (i + 1) * 7 + j - (ndL n).length = i * 7 + j by show (i + 1) * 7 + j - 7 = _; omega, nrow_get ns i j (by simpa using h) hj]
    rfl
def set7 (L : List Value) (p : Nat) (n : Nd) : List Value :=
  ((((((L.set p (.string n.path)).set (p + 1) (.string n.data)).set (p + 2) (.int .i64 n.ver)).set (p + 3) (.int .i64 n.cver)).set (p + 4) (.int .i64 n.cz)).set (p + 5) (.int .i64 n.mz)).set (p + 6) (.int .i64 n.pz)
theorem set7_app (a L : List Value) (p : Nat) (n : Nd) (h : a.length = 7) : set7 (a ++ L) (7 + p) n = a ++ set7 L p n := by
  unfold set7
  have e : ∀ (M : List Value) (q : Nat) (v : Value), (a ++ M).set (7 + q) v = a ++ M.set q v := fun M q v => by
    rw [List.set_append_right _ _ (by omega)]; congr 2; omega
  rw [e, show 7 + p + 1 = 7 + (p + 1) by omega, e, show 7 + p + 2 = 7 + (p + 2) by omega, e, show 7 + p + 3 = 7 + (p + 3) by omega, e, show 7 + p + 4 = 7 + (p + 4) by omega, e, show 7 + p + 5 = 7 + (p + 5) by omega, e, show 7 + p + 6 = 7 + (p + 6) by omega, e]
theorem nrow_set : ∀ (ns : List Nd) (k : Nat) (n : Nd), k < ns.length → set7 (nrow ns) (k * 7) n = nrow (ns.set k n)
  | [], k, n, h => by simp at h
  | m :: ns, 0, n, _ => by
    rw [nrow_cons, List.set_cons_zero, nrow_cons]
    rfl
  | m :: ns, k + 1, n, h => by
    rw [nrow_cons, List.set_cons_succ, nrow_cons, show (k + 1) * 7 = 7 + k * 7 by omega, set7_app _ _ _ _ rfl, nrow_set ns k n (by simpa using h)]
/-- A slice of nodes of the call's own. -/
def OwnN (e : TypeId) (w : World) (lo : Nat) (v : Value) (ns : List Nd) : Prop := w.ownsRow lo e 7 v ns.length (nrow ns)
theorem OwnN.rd {e : TypeId} {w : World} {lo : Nat} {v : Value} {ns : List Nd} (h : OwnN e w lo v ns) : RdN w v ns := by
  rcases h.2 with ⟨rfl, h0⟩ | ⟨g, cap, cur, rfl, hb, hg, hn, hm, hs, ht⟩
  · have : ns = [] := List.eq_nil_of_length_eq_zero h0
    subst this
    exact ⟨none, 0, rfl, Nat.le_refl _, Nat.zero_le _, .inl rfl⟩
  · refine ⟨_, cap, rfl, hn, hm, .inr ⟨g, 0, rfl, (Array.getElem?_eq_some_iff.1 hg).1, fun i hi => ?_⟩⟩
    have c : ∀ j, j < 7 → w.cell? ⟨g, 0 + (i * 7 + j), none⟩ = (ndL (nAt ns i))[j]? := fun j hj => by
      have hh := nrow_get ns i j hi hj
      have h9 : (ndL (nAt ns i))[j]? = some ((ndL (nAt ns i)).getD j undef) := by
        match j, hj with
        | 0, _ => rfl
        | 1, _ => rfl
        | 2, _ => rfl
        | 3, _ => rfl
        | 4, _ => rfl
        | 5, _ => rfl
        | 6, _ => rfl
      rw [h9] at hh
      have := World.ownsRow.cells h (g := g) rfl (i * 7 + j) _ hh
      rw [Addr.add_lit] at this
      rw [this, h9]
    exact ⟨c 0 (by omega), c 1 (by omega), c 2 (by omega), c 3 (by omega), c 4 (by omega), c 5 (by omega), c 6 (by omega)⟩
theorem OwnN.below {e : TypeId} {w w' : World} {lo : Nat} {v : Value} {ns : List Nd} (h : OwnN e w lo v ns) (hb : Below w.heap.size w w') : OwnN e w' lo v ns := by
  refine ⟨h.1, ?_⟩
  rcases h.2 with hn | ⟨g, cap, cur, rfl, hbg, hgg, rest⟩
  · exact .inl hn
  · exact .inr ⟨g, cap, cur, rfl, hbg, by rw [hb.block g (Array.getElem?_eq_some_iff.1 hgg).1]; exact hgg, rest⟩
theorem OwnN.mono {e : TypeId} {w : World} {lo lo' : Nat} {v : Value} {ns : List Nd} (h : OwnN e w lo v ns) (hl : lo' ≤ lo) : OwnN e w lo' v ns := by
  refine ⟨h.1, ?_⟩
  rcases h.2 with hn | ⟨g, cap, cur, rfl, hbg, rest⟩
  · exact .inl hn
  · exact .inr ⟨g, cap, cur, rfl, Nat.le_trans hl hbg, rest⟩
theorem OwnN.slice {e : TypeId} {w : World} {lo : Nat} {v : Value} {ns : List Nd} (h : OwnN e w lo v ns) : ∃ a c, v = .slice a ns.length c := by
  obtain ⟨a, c, h0, _⟩ := h.rd.len
  exact ⟨a, c, h0⟩

@[reducible] def CN7 (W : World) (b p : Nat) (n : Nd) : Prop := W.cell? ⟨b, p, none⟩ = some (.string n.path) ∧ W.cell? ⟨b, p + 1, none⟩ = some (.string n.data) ∧ W.cell? ⟨b, p + 2, none⟩ = some (.int .i64 n.ver) ∧ W.cell? ⟨b, p + 3, none⟩ = some (.int .i64 n.cver) ∧ W.cell? ⟨b, p + 4, none⟩ = some (.int .i64 n.cz) ∧ W.cell? ⟨b, p + 5, none⟩ = some (.int .i64 n.mz) ∧ W.cell? ⟨b, p + 6, none⟩ = some (.int .i64 n.pz)
@[reducible] def CB7 (W : World) (b : Nat) (n : Nd) : Prop := W.cell? ⟨b, 0, none⟩ = some (.string n.path) ∧ W.cell? ⟨b, 1, none⟩ = some (.string n.data) ∧ W.cell? ⟨b, 2, none⟩ = some (.int .i64 n.ver) ∧ W.cell? ⟨b, 3, none⟩ = some (.int .i64 n.cver) ∧ W.cell? ⟨b, 4, none⟩ = some (.int .i64 n.cz) ∧ W.cell? ⟨b, 5, none⟩ = some (.int .i64 n.mz) ∧ W.cell? ⟨b, 6, none⟩ = some (.int .i64 n.pz)


theorem Tryz.infoN : (Tryz.prog.info? 42).map (fun i => (i.zero, i.size, i.bytes)) = some (some (.agg #[.string ByteArray.empty, .string ByteArray.empty, .int .i64 0, .int .i64 0, .int .i64 0, .int .i64 0, .int .i64 0]), 7, 72) := by kernel_rfl


theorem nstored {w : World} {lo g n cap : Nat} {e : TypeId} {ms : List Nd} (ho : w.ownsRow lo e 7 (.slice (some ⟨g, 0, none⟩) n cap) n (nrow ms)) (k : Nat) (hk : k < ms.length) (m : Nd) :
    (((((((w.setCell ⟨g, k * 7, none⟩ (.string m.path)).setCell ⟨g, k * 7 + 1, none⟩ (.string m.data)).setCell ⟨g, k * 7 + 2, none⟩ (.int .i64 m.ver)).setCell ⟨g, k * 7 + 3, none⟩ (.int .i64 m.cver)).setCell ⟨g, k * 7 + 4, none⟩ (.int .i64 m.cz)).setCell ⟨g, k * 7 + 5, none⟩ (.int .i64 m.mz)).setCell ⟨g, k * 7 + 6, none⟩ (.int .i64 m.pz)).ownsRow lo e 7 (.slice (some ⟨g, 0, none⟩) n cap) n (nrow (ms.set k m)) := by
  have s0 := (World.ownsRow.stored ho (k * 7) (.string m.path)).1
  have s1 := (World.ownsRow.stored s0 (k * 7 + 1) (.string m.data)).1
  have s2 := (World.ownsRow.stored s1 (k * 7 + 2) (.int .i64 m.ver)).1
  have s3 := (World.ownsRow.stored s2 (k * 7 + 3) (.int .i64 m.cver)).1
  have s4 := (World.ownsRow.stored s3 (k * 7 + 4) (.int .i64 m.cz)).1
  have s5 := (World.ownsRow.stored s4 (k * 7 + 5) (.int .i64 m.mz)).1
  have s6 := (World.ownsRow.stored s5 (k * 7 + 6) (.int .i64 m.pz)).1
  rw [← nrow_set ms k m hk]
  exact s6





theorem OwnN.setBelow {e : TypeId} {w : World} {lo : Nat} {v : Value} {ns : List Nd} (h : OwnN e w lo v ns) {a : Addr} (ha : a.block < lo) (u : Value) : OwnN e (w.setCell a u) lo v ns := ownsRow_setCell_below h ha u








def okS (v : Int) : Bool := decide (0 ≤ v) && decide (v ≤ 2147483647)
def okNd (n : Nd) : Bool := okPath n.path && decide (n.data.size ≤ 64) && okS n.ver && okS n.cver && okS n.cz && okS n.mz && okS n.pz

set_option maxHeartbeats 400000 in
theorem stat_any (w : World) (v : Int) : Calls Tryz.prog 87 #[.int .i64 v] w fun e w' => e = .returned (.bool (okS v)) ∧ w' = w := by
  by_cases h1 : 0 ≤ v
  · by_cases h2 : v ≤ 2147483647
    · have HO : Hid (okS v = true) := by show _ = _; unfold okS; rw [decide_eq_true h1, decide_eq_true h2]; rfl
      go_enter Tryz.func87, Tryz.ntmps87
      go_wp2
      go_ret
      exact ⟨ret_b HO.out.symm, rfl⟩
    · have HO : Hid (okS v = false) := by show _ = _; unfold okS; rw [decide_eq_false h2]; simp
      go_enter Tryz.func87, Tryz.ntmps87
      go_wp2
      go_ret
      exact ⟨ret_b HO.out.symm, rfl⟩
  · have HO : Hid (okS v = false) := by show _ = _; unfold okS; rw [decide_eq_false h1]; rfl
    go_enter Tryz.func87, Tryz.ntmps87
    go_wp2
    go_ret
    exact ⟨ret_b HO.out.symm, rfl⟩

set_option maxHeartbeats 400000 in
theorem istat_any (w : World) (v : Int) : Calls Tryz.prog 83 #[.int .i64 v] w fun e w' => e = .returned (.bool (okS v)) ∧ w' = w := by
  by_cases h1 : 0 ≤ v
  · by_cases h2 : v ≤ 2147483647
    · have HO : Hid (okS v = true) := by show _ = _; unfold okS; rw [decide_eq_true h1, decide_eq_true h2]; rfl
      go_enter Tryz.func83, Tryz.ntmps83
      go_wp2
      go_ret
      exact ⟨ret_b HO.out.symm, rfl⟩
    · have HO : Hid (okS v = false) := by show _ = _; unfold okS; rw [decide_eq_false h2]; simp
      go_enter Tryz.func83, Tryz.ntmps83
      go_wp2
      go_ret
      exact ⟨ret_b HO.out.symm, rfl⟩
  · have HO : Hid (okS v = false) := by show _ = _; unfold okS; rw [decide_eq_false h1]; rfl
    go_enter Tryz.func83, Tryz.ntmps83
    go_wp2
    go_ret
    exact ⟨ret_b HO.out.symm, rfl⟩

/-- A local node. -/
structure BoxN (w : World) (B : Nat) (n : Nd) : Prop where
  lt : B < w.heap.size
  c0 : w.cell? ⟨B, 0, none⟩ = some (.string n.path)
  c1 : w.cell? ⟨B, 1, none⟩ = some (.string n.data)
  c2 : w.cell? ⟨B, 2, none⟩ = some (.int .i64 n.ver)
  c3 : w.cell? ⟨B, 3, none⟩ = some (.int .i64 n.cver)
  c4 : w.cell? ⟨B, 4, none⟩ = some (.int .i64 n.cz)
  c5 : w.cell? ⟨B, 5, none⟩ = some (.int .i64 n.mz)
  c6 : w.cell? ⟨B, 6, none⟩ = some (.int .i64 n.pz)
theorem BoxN.new (w : World) (n : Nd) (t : TypeId) : BoxN (w.alloc (.cells #[.string n.path, .string n.data, .int .i64 n.ver, .int .i64 n.cver, .int .i64 n.cz, .int .i64 n.mz, .int .i64 n.pz] t)) w.heap.size n :=
  ⟨by simp, by simp, by simp, by simp, by simp, by simp, by simp, by simp⟩
theorem BoxN.below {w w' : World} {B : Nat} {n : Nd} (h : BoxN w B n) (hb : Below w.heap.size w w') : BoxN w' B n :=
  ⟨Nat.lt_of_lt_of_le h.lt hb.size, (hb.cell (p := ⟨B, _, none⟩) h.lt).trans h.c0, (hb.cell (p := ⟨B, _, none⟩) h.lt).trans h.c1, (hb.cell (p := ⟨B, _, none⟩) h.lt).trans h.c2, (hb.cell (p := ⟨B, _, none⟩) h.lt).trans h.c3,
   (hb.cell (p := ⟨B, _, none⟩) h.lt).trans h.c4, (hb.cell (p := ⟨B, _, none⟩) h.lt).trans h.c5, (hb.cell (p := ⟨B, _, none⟩) h.lt).trans h.c6⟩

set_option maxHeartbeats 2000000 in
set_option maxRecDepth 100000 in
theorem specNode_any (w : World) (n : Nd) (hp : n.path.size ≤ 1048576) (hd : n.data.size ≤ 1048576) :
    Calls Tryz.prog 56 #[.agg #[.string n.path, .string n.data, .int .i64 n.ver, .int .i64 n.cver, .int .i64 n.cz, .int .i64 n.mz, .int .i64 n.pz]] w fun e w' => e = .returned (.bool (okNd n)) ∧ Below w.heap.size w w' := by
  have X0 : Hid (BoxN (w.alloc (.cells #[.string n.path, .string n.data, .int .i64 n.ver, .int .i64 n.cver, .int .i64 n.cz, .int .i64 n.mz, .int .i64 n.pz] 42)) w.heap.size n) := BoxN.new _ _ _
  have B0 : Hid (Below w.heap.size w (w.alloc (.cells #[.string n.path, .string n.data, .int .i64 n.ver, .int .i64 n.cver, .int .i64 n.cz, .int .i64 n.mz, .int .i64 n.pz] 42))) := (Below.refl _ _).alloc (Nat.le_refl _) _
  go_enter Tryz.func56, Tryz.ntmps56
  go_wp2_with fail
  generalize w.alloc (.cells #[.string n.path, .string n.data, .int .i64 n.ver, .int .i64 n.cver, .int .i64 n.cz, .int .i64 n.mz, .int .i64 n.pz] 42) = w0 at *
  refine (specPath_any _ n.path hp).mono ?_
  rintro e w1 ⟨rfl, b1⟩
  have B1 := hd9 (B0.out.trans (b1.mono B0.out.size))
  obtain ⟨-, c0, c1, c2, c3, c4, c5, c6⟩ := X0.out.below b1
  clear b1 X0 B0
  cases hP : okPath n.path with
  | false =>
    have HO : Hid (okNd n = false) := by show _ = _; unfold okNd; rw [hP]; simp
    go_wp2
    go_ret
    exact ⟨ret_b HO.out.symm, B1.out⟩
  | true =>
    have HP := hd9 hP
    clear hP
    by_cases hD : 64 < n.data.size
    · have hDI : (64 : Int) < (n.data.size : Int) := by omega
      have HO : Hid (okNd n = false) := by show _ = _; unfold okNd; rw [decide_eq_false (show ¬ n.data.size ≤ 64 by omega)]; simp
      go_wp2
      go_ret
      exact ⟨ret_b HO.out.symm, B1.out⟩
    · have hDI : ¬ (64 : Int) < (n.data.size : Int) := by omega
      have HDD := hd9 (decide_eq_true (show n.data.size ≤ 64 by omega))
      go_wp2_with fail
      refine (stat_any _ n.ver).mono ?_
      rintro e w2 ⟨rfl, rfl⟩
      cases h_ver : okS n.ver with
      | false =>
        have HO : Hid (okNd n = false) := by show _ = _; unfold okNd; rw [h_ver]; simp
        go_wp2
        go_ret
        exact ⟨ret_b HO.out.symm, B1.out⟩
      | true =>
        have H_ver := hd9 h_ver
        clear h_ver
        go_wp2_with fail
        refine (stat_any _ n.cver).mono ?_
        rintro e w2 ⟨rfl, rfl⟩
        cases h_cver : okS n.cver with
        | false =>
          have HO : Hid (okNd n = false) := by show _ = _; unfold okNd; rw [h_cver]; simp
          go_wp2
          go_ret
          exact ⟨ret_b HO.out.symm, B1.out⟩
        | true =>
          have H_cver := hd9 h_cver
          clear h_cver
          go_wp2_with fail
          refine (stat_any _ n.cz).mono ?_
          rintro e w2 ⟨rfl, rfl⟩
          cases h_cz : okS n.cz with
          | false =>
            have HO : Hid (okNd n = false) := by show _ = _; unfold okNd; rw [h_cz]; simp
            go_wp2
            go_ret
            exact ⟨ret_b HO.out.symm, B1.out⟩
          | true =>
            have H_cz := hd9 h_cz
            clear h_cz
            go_wp2_with fail
            refine (stat_any _ n.mz).mono ?_
            rintro e w2 ⟨rfl, rfl⟩
            cases h_mz : okS n.mz with
            | false =>
              have HO : Hid (okNd n = false) := by show _ = _; unfold okNd; rw [h_mz]; simp
              go_wp2
              go_ret
              exact ⟨ret_b HO.out.symm, B1.out⟩
            | true =>
              have H_mz := hd9 h_mz
              clear h_mz
              go_wp2_with fail
              refine (stat_any _ n.pz).mono ?_
              rintro e w2 ⟨rfl, rfl⟩
              cases h_pz : okS n.pz with
              | false =>
                have HO : Hid (okNd n = false) := by show _ = _; unfold okNd; rw [h_pz]; simp
                go_wp2
                go_ret
                exact ⟨ret_b HO.out.symm, B1.out⟩
              | true =>
                have H_pz := hd9 h_pz
                clear h_pz
                have HO : Hid (okNd n = true) := by show _ = _; unfold okNd; rw [HP.out, HDD.out, H_ver.out, H_cver.out, H_cz.out, H_mz.out, H_pz.out]; rfl
                go_wp2
                go_ret
                exact ⟨ret_b HO.out.symm, B1.out⟩

set_option maxHeartbeats 2000000 in
set_option maxRecDepth 100000 in
theorem implNode_any (w : World) (n : Nd) (hd : n.data.size ≤ 1048576) :
    Calls Tryz.prog 51 #[.agg #[.string n.path, .string n.data, .int .i64 n.ver, .int .i64 n.cver, .int .i64 n.cz, .int .i64 n.mz, .int .i64 n.pz]] w fun e w' => e = .returned (.bool (okNd n)) ∧ Below w.heap.size w w' := by
  have X0 : Hid (BoxN (w.alloc (.cells #[.string n.path, .string n.data, .int .i64 n.ver, .int .i64 n.cver, .int .i64 n.cz, .int .i64 n.mz, .int .i64 n.pz] 42)) w.heap.size n) := BoxN.new _ _ _
  have B0 : Hid (Below w.heap.size w (w.alloc (.cells #[.string n.path, .string n.data, .int .i64 n.ver, .int .i64 n.cver, .int .i64 n.cz, .int .i64 n.mz, .int .i64 n.pz] 42))) := (Below.refl _ _).alloc (Nat.le_refl _) _
  go_enter Tryz.func51, Tryz.ntmps51
  go_wp2_with fail
  generalize w.alloc (.cells #[.string n.path, .string n.data, .int .i64 n.ver, .int .i64 n.cver, .int .i64 n.cz, .int .i64 n.mz, .int .i64 n.pz] 42) = w0 at *
  refine (implPath_any _ n.path).mono ?_
  rintro e w1 ⟨rfl, b1⟩
  have B1 := hd9 (B0.out.trans (b1.mono B0.out.size))
  obtain ⟨-, c0, c1, c2, c3, c4, c5, c6⟩ := X0.out.below b1
  clear b1 X0 B0
  cases hP : okPath n.path with
  | false =>
    have HO : Hid (okNd n = false) := by show _ = _; unfold okNd; rw [hP]; simp
    go_wp2
    go_ret
    exact ⟨ret_b HO.out.symm, B1.out⟩
  | true =>
    have HP := hd9 hP
    clear hP
    by_cases hD : 64 < n.data.size
    · have hDI : (64 : Int) < (n.data.size : Int) := by omega
      have HO : Hid (okNd n = false) := by show _ = _; unfold okNd; rw [decide_eq_false (show ¬ n.data.size ≤ 64 by omega)]; simp
      go_wp2
      go_ret
      exact ⟨ret_b HO.out.symm, B1.out⟩
    · have hDI : ¬ (64 : Int) < (n.data.size : Int) := by omega
      have HDD := hd9 (decide_eq_true (show n.data.size ≤ 64 by omega))
      go_wp2_with fail
      refine (istat_any _ n.ver).mono ?_
      rintro e w2 ⟨rfl, rfl⟩
      cases h_ver : okS n.ver with
      | false =>
        have HO : Hid (okNd n = false) := by show _ = _; unfold okNd; rw [h_ver]; simp
        go_wp2
        go_ret
        exact ⟨ret_b HO.out.symm, B1.out⟩
      | true =>
        have H_ver := hd9 h_ver
        clear h_ver
        go_wp2_with fail
        refine (istat_any _ n.cver).mono ?_
        rintro e w2 ⟨rfl, rfl⟩
        cases h_cver : okS n.cver with
        | false =>
          have HO : Hid (okNd n = false) := by show _ = _; unfold okNd; rw [h_cver]; simp
          go_wp2
          go_ret
          exact ⟨ret_b HO.out.symm, B1.out⟩
        | true =>
          have H_cver := hd9 h_cver
          clear h_cver
          go_wp2_with fail
          refine (istat_any _ n.cz).mono ?_
          rintro e w2 ⟨rfl, rfl⟩
          cases h_cz : okS n.cz with
          | false =>
            have HO : Hid (okNd n = false) := by show _ = _; unfold okNd; rw [h_cz]; simp
            go_wp2
            go_ret
            exact ⟨ret_b HO.out.symm, B1.out⟩
          | true =>
            have H_cz := hd9 h_cz
            clear h_cz
            go_wp2_with fail
            refine (istat_any _ n.mz).mono ?_
            rintro e w2 ⟨rfl, rfl⟩
            cases h_mz : okS n.mz with
            | false =>
              have HO : Hid (okNd n = false) := by show _ = _; unfold okNd; rw [h_mz]; simp
              go_wp2
              go_ret
              exact ⟨ret_b HO.out.symm, B1.out⟩
            | true =>
              have H_mz := hd9 h_mz
              clear h_mz
              go_wp2_with fail
              refine (istat_any _ n.pz).mono ?_
              rintro e w2 ⟨rfl, rfl⟩
              cases h_pz : okS n.pz with
              | false =>
                have HO : Hid (okNd n = false) := by show _ = _; unfold okNd; rw [h_pz]; simp
                go_wp2
                go_ret
                exact ⟨ret_b HO.out.symm, B1.out⟩
              | true =>
                have H_pz := hd9 h_pz
                clear h_pz
                have HO : Hid (okNd n = true) := by show _ = _; unfold okNd; rw [HP.out, HDD.out, H_ver.out, H_cver.out, H_cz.out, H_mz.out, H_pz.out]; rfl
                go_wp2
                go_ret
                exact ⟨ret_b HO.out.symm, B1.out⟩

end Go.Proofs.YtdiingonnddkcaaGreatDoor


