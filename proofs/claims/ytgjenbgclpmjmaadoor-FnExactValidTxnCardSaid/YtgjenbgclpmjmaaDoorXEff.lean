import Derived.Test.YtgjenbgclpmjmaaDoorTEq
namespace Go.Proofs.YtgjenbgclpmjmaaDoor
open Go.RowKit

/-- An effect. -/
structure Ef where
  del : Bool
  nd : Nd
def efL (e : Ef) : List Value := [.bool e.del, .string e.nd.path, .string e.nd.data, .int .i64 e.nd.ver, .int .i64 e.nd.cver, .int .i64 e.nd.cz, .int .i64 e.nd.mz, .int .i64 e.nd.pz]
def ef0 : Ef := ⟨false, nd0⟩
def eAt (ns : List Ef) (i : Nat) : Ef := ns.getD i ef0
theorem eAt_get {ns : List Ef} {i : Nat} (h : i < ns.length) : eAt ns i = ns[i] := by unfold eAt; simp [List.getD, h]

/-- The cells of an effect. -/
structure CellsE (w : World) (b p : Nat) (n : Ef) : Prop where
  c0 : w.cell? ⟨b, p, none⟩ = some (.bool n.del)
  c1 : w.cell? ⟨b, p + 1, none⟩ = some (.string n.nd.path)
  c2 : w.cell? ⟨b, p + 2, none⟩ = some (.string n.nd.data)
  c3 : w.cell? ⟨b, p + 3, none⟩ = some (.int .i64 n.nd.ver)
  c4 : w.cell? ⟨b, p + 4, none⟩ = some (.int .i64 n.nd.cver)
  c5 : w.cell? ⟨b, p + 5, none⟩ = some (.int .i64 n.nd.cz)
  c6 : w.cell? ⟨b, p + 6, none⟩ = some (.int .i64 n.nd.mz)
  c7 : w.cell? ⟨b, p + 7, none⟩ = some (.int .i64 n.nd.pz)
theorem CellsE.below {w w' : World} {m b p : Nat} {n : Ef} (h : CellsE w b p n) (hb : Below m w w') (hl : b < m) : CellsE w' b p n :=
  ⟨(hb.cell (p := ⟨b, _, none⟩) hl).trans h.c0, (hb.cell (p := ⟨b, _, none⟩) hl).trans h.c1, (hb.cell (p := ⟨b, _, none⟩) hl).trans h.c2, (hb.cell (p := ⟨b, _, none⟩) hl).trans h.c3, (hb.cell (p := ⟨b, _, none⟩) hl).trans h.c4, (hb.cell (p := ⟨b, _, none⟩) hl).trans h.c5, (hb.cell (p := ⟨b, _, none⟩) hl).trans h.c6, (hb.cell (p := ⟨b, _, none⟩) hl).trans h.c7⟩
theorem CellsE.nd {w : World} {b p : Nat} {n : Ef} (h : CellsE w b p n) : CellsN w b (p + 1) n.nd := ⟨h.c1, h.c2, h.c3, h.c4, h.c5, h.c6, h.c7⟩

/-- A slice of nodes that reads as ns. -/
def RdE (w : World) (v : Value) (ns : List Ef) : Prop :=
  ∃ ao cap, v = .slice ao ns.length cap ∧ ns.length ≤ cap ∧ cap ≤ maxLen ∧
    (ns = [] ∨ ∃ b off, ao = some ⟨b, off, none⟩ ∧ b < w.heap.size ∧ ∀ i, i < ns.length → CellsE w b (off + i * 8) (eAt ns i))
theorem RdE.len {w : World} {v : Value} {ns : List Ef} (h : RdE w v ns) : ∃ ao cap, v = .slice ao ns.length cap ∧ ns.length ≤ cap ∧ cap ≤ maxLen := by
  obtain ⟨ao, cap, h0, h1, h2, _⟩ := h
  exact ⟨ao, cap, h0, h1, h2⟩
theorem RdE.below {w w' : World} {v : Value} {ns : List Ef} (h : RdE w v ns) (hb : Below w.heap.size w w') : RdE w' v ns := by
  obtain ⟨ao, cap, rfl, h1, h2, h3⟩ := h
  refine ⟨ao, cap, rfl, h1, h2, ?_⟩
  rcases h3 with h3 | ⟨b, off, rfl, hlt, hc⟩
  · exact .inl h3
  · exact .inr ⟨b, off, rfl, Nat.lt_of_lt_of_le hlt hb.size, fun i hi => (hc i hi).below hb hlt⟩

/-! ### rows of nodes -/
def erow (ns : List Ef) : List Value := ns.flatMap efL
theorem erow_cons (n : Ef) (ns : List Ef) : erow (n :: ns) = efL n ++ erow ns := by simp [erow]
theorem erow_append (ns ms : List Ef) : erow (ns ++ ms) = erow ns ++ erow ms := by simp [erow]
theorem erow_length : ∀ ns : List Ef, (erow ns).length = ns.length * 8
  | [] => rfl
  | n :: ns => by rw [erow_cons, List.length_append, erow_length ns, List.length_cons]; show 8 + _ = _; omega
theorem erow_get : ∀ (ns : List Ef) (i j : Nat), i < ns.length → j < 8 → (erow ns)[i * 8 + j]? = (efL (eAt ns i))[j]?
  | [], i, j, h, _ => by simp at h
  | n :: ns, 0, j, _, hj => by
    rw [erow_cons, Nat.zero_mul, Nat.zero_add, List.getElem?_append_left (by show j < 8; exact hj)]; rfl
  | n :: ns, i + 1, j, h, hj => by
    rw [erow_cons, List.getElem?_append_right (by show 8 ≤ _; omega), show (i + 1) * 8 + j - (efL n).length = i * 8 + j by show (i + 1) * 8 + j - 8 = _; omega, erow_get ns i j (by simpa using h) hj]
    rfl
def set8 (L : List Value) (p : Nat) (n : Ef) : List Value :=
  (((((((L.set p (.bool n.del)).set (p + 1) (.string n.nd.path)).set (p + 2) (.string n.nd.data)).set (p + 3) (.int .i64 n.nd.ver)).set (p + 4) (.int .i64 n.nd.cver)).set (p + 5) (.int .i64 n.nd.cz)).set (p + 6) (.int .i64 n.nd.mz)).set (p + 7) (.int .i64 n.nd.pz)
theorem set8_app (a L : List Value) (p : Nat) (n : Ef) (h : a.length = 8) : set8 (a ++ L) (8 + p) n = a ++ set8 L p n := by
  unfold set8
  have e : ∀ (M : List Value) (q : Nat) (v : Value), (a ++ M).set (8 + q) v = a ++ M.set q v := fun M q v => by
    rw [List.set_append_right _ _ (by omega)]; congr 2; omega
  rw [e, show 8 + p + 1 = 8 + (p + 1) by omega, e, show 8 + p + 2 = 8 + (p + 2) by omega, e, show 8 + p + 3 = 8 + (p + 3) by omega, e, show 8 + p + 4 = 8 + (p + 4) by omega, e, show 8 + p + 5 = 8 + (p + 5) by omega, e, show 8 + p + 6 = 8 + (p + 6) by omega, e, show 8 + p + 7 = 8 + (p + 7) by omega, e]
theorem erow_set : ∀ (ns : List Ef) (k : Nat) (n : Ef), k < ns.length → set8 (erow ns) (k * 8) n = erow (ns.set k n)
  | [], k, n, h => by simp at h
  | m :: ns, 0, n, _ => by
    rw [erow_cons, List.set_cons_zero, erow_cons]
    rfl
  | m :: ns, k + 1, n, h => by
    rw [erow_cons, List.set_cons_succ, erow_cons, show (k + 1) * 8 = 8 + k * 8 by omega, set8_app _ _ _ _ rfl, erow_set ns k n (by simpa using h)]
theorem erow_zero (n : Nat) : (madeCells #[Value.bool false, Value.string ByteArray.empty, Value.string ByteArray.empty, Value.int .i64 0, Value.int .i64 0, Value.int .i64 0, Value.int .i64 0, Value.int .i64 0] (n * 8)).toList = erow (List.replicate n ef0) := by
  apply List.ext_getElem?
  intro j
  by_cases hj : j < n * 8
  · have h1 := erow_get (List.replicate n ef0) (j / 8) (j % 8) (by rw [List.length_replicate]; omega) (Nat.mod_lt _ (by decide))
    rw [show j / 8 * 8 + j % 8 = j by omega] at h1
    rw [h1, eAt_get (by rw [List.length_replicate]; omega), List.getElem_replicate]
    have h8 : j % 8 < 8 := Nat.mod_lt _ (by decide)
    rw [made_get _ _ _ hj]
    show some (#[Value.bool false, Value.string ByteArray.empty, Value.string ByteArray.empty, Value.int .i64 0, Value.int .i64 0, Value.int .i64 0, Value.int .i64 0, Value.int .i64 0][j % 8]!) = _
    clear h1
    generalize j % 8 = r at *
    match r, h8 with
    | 0, _ => rfl
    | 1, _ => rfl
    | 2, _ => rfl
    | 3, _ => rfl
    | 4, _ => rfl
    | 5, _ => rfl
    | 6, _ => rfl
    | 7, _ => rfl
  · rw [List.getElem?_eq_none (by simp [madeCells]; omega), List.getElem?_eq_none (by rw [erow_length, List.length_replicate]; omega)]

/-- The first k written. -/
def mixE (ns : List Ef) (k : Nat) : List Ef := ns.take k ++ List.replicate (ns.length - k) ef0
theorem mixE_len (ns : List Ef) (k : Nat) (h : k ≤ ns.length) : (mixE ns k).length = ns.length := by unfold mixE; rw [List.length_append, List.length_take, List.length_replicate]; omega
theorem mixE_all (ns : List Ef) : mixE ns ns.length = ns := by unfold mixE; simp
theorem mixE_zero (ns : List Ef) : mixE ns 0 = List.replicate ns.length ef0 := by unfold mixE; simp
theorem mixE_set (ns : List Ef) (k : Nat) (h : k < ns.length) : (mixE ns k).set k (eAt ns k) = mixE ns (k + 1) := by
  unfold mixE
  rw [List.set_append_right _ _ (by rw [List.length_take]; omega), List.length_take, show k - min k ns.length = 0 by omega, show ns.length - k = (ns.length - (k + 1)) + 1 by omega, List.replicate_succ, List.set_cons_zero, List.take_succ_eq_append_getElem h, eAt_get h, List.append_assoc]
  rfl

/-- A slice of nodes of the call's own. -/
def OwnE (e : TypeId) (w : World) (lo : Nat) (v : Value) (ns : List Ef) : Prop := w.ownsRow lo e 8 v ns.length (erow ns)
theorem OwnE.rd {e : TypeId} {w : World} {lo : Nat} {v : Value} {ns : List Ef} (h : OwnE e w lo v ns) : RdE w v ns := by
  rcases h.2 with ⟨rfl, h0⟩ | ⟨g, cap, cur, rfl, hb, hg, hn, hm, hs, ht⟩
  · have : ns = [] := List.eq_nil_of_length_eq_zero h0
    subst this
    exact ⟨none, 0, rfl, Nat.le_refl _, Nat.zero_le _, .inl rfl⟩
  · refine ⟨_, cap, rfl, hn, hm, .inr ⟨g, 0, rfl, (Array.getElem?_eq_some_iff.1 hg).1, fun i hi => ?_⟩⟩
    have c : ∀ j, j < 8 → w.cell? ⟨g, 0 + (i * 8 + j), none⟩ = (efL (eAt ns i))[j]? := fun j hj => by
      have hh := erow_get ns i j hi hj
      have h9 : (efL (eAt ns i))[j]? = some ((efL (eAt ns i)).getD j undef) := by
        match j, hj with
        | 0, _ => rfl
        | 1, _ => rfl
        | 2, _ => rfl
        | 3, _ => rfl
        | 4, _ => rfl
        | 5, _ => rfl
        | 6, _ => rfl
        | 7, _ => rfl
      rw [h9] at hh
      have := World.ownsRow.cells h (g := g) rfl (i * 8 + j) _ hh
      rw [Addr.add_lit] at this
      rw [this, h9]
    exact ⟨c 0 (by omega), c 1 (by omega), c 2 (by omega), c 3 (by omega), c 4 (by omega), c 5 (by omega), c 6 (by omega), c 7 (by omega)⟩
theorem OwnE.below {e : TypeId} {w w' : World} {lo : Nat} {v : Value} {ns : List Ef} (h : OwnE e w lo v ns) (hb : Below w.heap.size w w') : OwnE e w' lo v ns := by
  refine ⟨h.1, ?_⟩
  rcases h.2 with hn | ⟨g, cap, cur, rfl, hbg, hgg, rest⟩
  · exact .inl hn
  · exact .inr ⟨g, cap, cur, rfl, hbg, by rw [hb.block g (Array.getElem?_eq_some_iff.1 hgg).1]; exact hgg, rest⟩
theorem OwnE.mono {e : TypeId} {w : World} {lo lo' : Nat} {v : Value} {ns : List Ef} (h : OwnE e w lo v ns) (hl : lo' ≤ lo) : OwnE e w lo' v ns := by
  refine ⟨h.1, ?_⟩
  rcases h.2 with hn | ⟨g, cap, cur, rfl, hbg, rest⟩
  · exact .inl hn
  · exact .inr ⟨g, cap, cur, rfl, Nat.le_trans hl hbg, rest⟩
theorem OwnE.slice {e : TypeId} {w : World} {lo : Nat} {v : Value} {ns : List Ef} (h : OwnE e w lo v ns) : ∃ a c, v = .slice a ns.length c := by
  obtain ⟨a, c, h0, _⟩ := h.rd.len
  exact ⟨a, c, h0⟩


/-- All the bytes of the texts. -/
def totE (ns : List Ef) : Nat := (ns.map fun n => n.nd.path.size + n.nd.data.size).sum
theorem totE_take_succ (ns : List Ef) (k : Nat) (h : k < ns.length) : totE (ns.take (k + 1)) = totE (ns.take k) + ((eAt ns k).nd.path.size + (eAt ns k).nd.data.size) := by
  unfold totE
  rw [List.take_succ_eq_append_getElem h, List.map_append, List.sum_append, eAt_get h]
  simp
theorem totE_all (ns : List Ef) (k : Nat) (h : ns.length ≤ k) : totE (ns.take k) = totE ns := by rw [List.take_of_length_le h]
theorem totE_ge (ns : List Ef) (i : Nat) : (eAt ns i).nd.path.size + (eAt ns i).nd.data.size ≤ totE ns := by
  by_cases h : i < ns.length
  · have h1 := totE_take_succ ns i h
    have h2 : totE (ns.take (i + 1)) ≤ totE ns := by
      unfold totE
      conv => rhs; rw [← List.take_append_drop (i + 1) ns, List.map_append, List.sum_append]
      omega
    omega
  · unfold eAt; rw [List.getD, List.getElem?_eq_none (by omega)]; exact Nat.zero_le _

end Go.Proofs.YtgjenbgclpmjmaaDoor
