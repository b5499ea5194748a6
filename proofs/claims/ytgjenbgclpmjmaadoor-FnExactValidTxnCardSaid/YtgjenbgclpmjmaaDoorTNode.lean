import Derived.Test.YtgjenbgclpmjmaaDoorVAny
namespace Go.Proofs.YtgjenbgclpmjmaaDoor
open Go.RowKit

/-- A node. -/
structure Nd where
  path : ByteArray
  data : ByteArray
  ver : Int
  cver : Int
  cz : Int
  mz : Int
  pz : Int
def ndL (n : Nd) : List Value := [.string n.path, .string n.data, .int .i64 n.ver, .int .i64 n.cver, .int .i64 n.cz, .int .i64 n.mz, .int .i64 n.pz]
def nd0 : Nd := ⟨ByteArray.empty, ByteArray.empty, 0, 0, 0, 0, 0⟩
def nAt (ns : List Nd) (i : Nat) : Nd := ns.getD i nd0
theorem nAt_get {ns : List Nd} {i : Nat} (h : i < ns.length) : nAt ns i = ns[i] := by unfold nAt; simp [List.getD, h]

/-- The cells of a node. -/
structure CellsN (w : World) (b p : Nat) (n : Nd) : Prop where
  c0 : w.cell? ⟨b, p, none⟩ = some (.string n.path)
  c1 : w.cell? ⟨b, p + 1, none⟩ = some (.string n.data)
  c2 : w.cell? ⟨b, p + 2, none⟩ = some (.int .i64 n.ver)
  c3 : w.cell? ⟨b, p + 3, none⟩ = some (.int .i64 n.cver)
  c4 : w.cell? ⟨b, p + 4, none⟩ = some (.int .i64 n.cz)
  c5 : w.cell? ⟨b, p + 5, none⟩ = some (.int .i64 n.mz)
  c6 : w.cell? ⟨b, p + 6, none⟩ = some (.int .i64 n.pz)
theorem CellsN.below {w w' : World} {m b p : Nat} {n : Nd} (h : CellsN w b p n) (hb : Below m w w') (hl : b < m) : CellsN w' b p n :=
  ⟨(hb.cell (p := ⟨b, _, none⟩) hl).trans h.c0, (hb.cell (p := ⟨b, _, none⟩) hl).trans h.c1, (hb.cell (p := ⟨b, _, none⟩) hl).trans h.c2, (hb.cell (p := ⟨b, _, none⟩) hl).trans h.c3,
   (hb.cell (p := ⟨b, _, none⟩) hl).trans h.c4, (hb.cell (p := ⟨b, _, none⟩) hl).trans h.c5, (hb.cell (p := ⟨b, _, none⟩) hl).trans h.c6⟩

/-- A slice of nodes that reads as ns. -/
def RdN (w : World) (v : Value) (ns : List Nd) : Prop :=
  ∃ ao cap, v = .slice ao ns.length cap ∧ ns.length ≤ cap ∧ cap ≤ maxLen ∧
    (ns = [] ∨ ∃ b off, ao = some ⟨b, off, none⟩ ∧ b < w.heap.size ∧ ∀ i, i < ns.length → CellsN w b (off + i * 7) (nAt ns i))
theorem RdN.len {w : World} {v : Value} {ns : List Nd} (h : RdN w v ns) : ∃ ao cap, v = .slice ao ns.length cap ∧ ns.length ≤ cap ∧ cap ≤ maxLen := by
  obtain ⟨ao, cap, h0, h1, h2, _⟩ := h
  exact ⟨ao, cap, h0, h1, h2⟩
theorem RdN.below {w w' : World} {v : Value} {ns : List Nd} (h : RdN w v ns) (hb : Below w.heap.size w w') : RdN w' v ns := by
  obtain ⟨ao, cap, rfl, h1, h2, h3⟩ := h
  refine ⟨ao, cap, rfl, h1, h2, ?_⟩
  rcases h3 with h3 | ⟨b, off, rfl, hlt, hc⟩
  · exact .inl h3
  · exact .inr ⟨b, off, rfl, Nat.lt_of_lt_of_le hlt hb.size, fun i hi => (hc i hi).below hb hlt⟩

/-! ### rows of nodes -/
def nrow (ns : List Nd) : List Value := ns.flatMap ndL
theorem nrow_cons (n : Nd) (ns : List Nd) : nrow (n :: ns) = ndL n ++ nrow ns := by simp [nrow]
theorem nrow_append (ns ms : List Nd) : nrow (ns ++ ms) = nrow ns ++ nrow ms := by simp [nrow]
theorem nrow_length : ∀ ns : List Nd, (nrow ns).length = ns.length * 7
  | [] => rfl
  | n :: ns => by rw [nrow_cons, List.length_append, nrow_length ns, List.length_cons]; show 7 + _ = _; omega
theorem nrow_get : ∀ (ns : List Nd) (i j : Nat), i < ns.length → j < 7 → (nrow ns)[i * 7 + j]? = (ndL (nAt ns i))[j]?
  | [], i, j, h, _ => by simp at h
  | n :: ns, 0, j, _, hj => by
    rw [nrow_cons, Nat.zero_mul, Nat.zero_add, List.getElem?_append_left (by show j < 7; exact hj)]; rfl
  | n :: ns, i + 1, j, h, hj => by
    rw [nrow_cons, List.getElem?_append_right (by show 7 ≤ _; omega), show (i + 1) * 7 + j - (ndL n).length = i * 7 + j by show (i + 1) * 7 + j - 7 = _; omega, nrow_get ns i j (by simpa using h) hj]
    rfl
def set7 (L : List Value) (p : Nat) (n : Nd) : List Value :=
  ((((((L.set p (.string n.path)).set (p + 1) (.string n.data)).set (p + 2) (.int .i64 n.ver)).set (p + 3) (.int .i64 n.cver)).set (p + 4) (.int .i64 n.cz)).set (p + 5) (.int .i64 n.mz)).set (p + 6) (.int .i64 n.pz)
theorem set7_app (a L : List Value) (p : Nat) (n : Nd) (h : a.length = 7) : set7 (a ++ L) (7 + p) n = a ++ set7 L p n := by
  unfold set7
  have e : ∀ (M : List Value) (q : Nat) (v : Value), (a ++ M).set (7 + q) v = a ++ M.set q v := fun M q v => by
    rw [List.set_append_right _ _ (by omega)]; congr 2; omega
  rw [e, show 7 + p + 1 = 7 + (p + 1) by omega, e, show 7 + p + 2 = 7 + (p + 2) by omega, e, show 7 + p + 3 = 7 + (p + 3) by omega, e, show 7 + p + 4 = 7 + (p + 4) by omega, e, show 7 + p + 5 = 7 + (p + 5) by omega, e, show 7 + p + 6 = 7 + (p + 6) by omega, e]
theorem nrow_set : ∀ (ns : List Nd) (k : Nat) (n : Nd), k < ns.length → set7 (nrow ns) (k * 7) n = nrow (ns.set k n)
  | [], k, n, h => by simp at h
  | m :: ns, 0, n, _ => by
    rw [nrow_cons, List.set_cons_zero, nrow_cons]
    rfl
  | m :: ns, k + 1, n, h => by
    rw [nrow_cons, List.set_cons_succ, nrow_cons, show (k + 1) * 7 = 7 + k * 7 by omega, set7_app _ _ _ _ rfl, nrow_set ns k n (by simpa using h)]
theorem made_get (A : Array Value) (m j : Nat) (h : j < m) : (madeCells A m).toList[j]? = some (A[j % A.size]!) := by simp [madeCells, h]
theorem nrow_zero (n : Nat) : (madeCells #[Value.string ByteArray.empty, Value.string ByteArray.empty, Value.int .i64 0, Value.int .i64 0, Value.int .i64 0, Value.int .i64 0, Value.int .i64 0] (n * 7)).toList = nrow (List.replicate n nd0) := by
  apply List.ext_getElem?
  intro j
  by_cases hj : j < n * 7
  · have h1 := nrow_get (List.replicate n nd0) (j / 7) (j % 7) (by rw [List.length_replicate]; omega) (Nat.mod_lt _ (by decide))
    rw [show j / 7 * 7 + j % 7 = j by omega] at h1
    rw [h1, nAt_get (by rw [List.length_replicate]; omega), List.getElem_replicate]
    have h7 : j % 7 < 7 := Nat.mod_lt _ (by decide)
    rw [made_get _ _ _ hj]
    show some (#[Value.string ByteArray.empty, Value.string ByteArray.empty, Value.int .i64 0, Value.int .i64 0, Value.int .i64 0, Value.int .i64 0, Value.int .i64 0][j % 7]!) = _
    clear h1
    generalize j % 7 = r at *
    match r, h7 with
    | 0, _ => rfl
    | 1, _ => rfl
    | 2, _ => rfl
    | 3, _ => rfl
    | 4, _ => rfl
    | 5, _ => rfl
    | 6, _ => rfl
  · rw [List.getElem?_eq_none (by simp [madeCells]; omega), List.getElem?_eq_none (by rw [nrow_length, List.length_replicate]; omega)]

/-- The first k written. -/
def mixN (ns : List Nd) (k : Nat) : List Nd := ns.take k ++ List.replicate (ns.length - k) nd0
theorem mixN_len (ns : List Nd) (k : Nat) (h : k ≤ ns.length) : (mixN ns k).length = ns.length := by unfold mixN; rw [List.length_append, List.length_take, List.length_replicate]; omega
theorem mixN_all (ns : List Nd) : mixN ns ns.length = ns := by unfold mixN; simp
theorem mixN_zero (ns : List Nd) : mixN ns 0 = List.replicate ns.length nd0 := by unfold mixN; simp
theorem mixN_set (ns : List Nd) (k : Nat) (h : k < ns.length) : (mixN ns k).set k (nAt ns k) = mixN ns (k + 1) := by
  unfold mixN
  rw [List.set_append_right _ _ (by rw [List.length_take]; omega), List.length_take, show k - min k ns.length = 0 by omega, show ns.length - k = (ns.length - (k + 1)) + 1 by omega, List.replicate_succ, List.set_cons_zero, List.take_succ_eq_append_getElem h, nAt_get h, List.append_assoc]
  rfl

/-- A slice of nodes of the call's own. -/
def OwnN (e : TypeId) (w : World) (lo : Nat) (v : Value) (ns : List Nd) : Prop := w.ownsRow lo e 7 v ns.length (nrow ns)
theorem OwnN.rd {e : TypeId} {w : World} {lo : Nat} {v : Value} {ns : List Nd} (h : OwnN e w lo v ns) : RdN w v ns := by
  rcases h.2 with ⟨rfl, h0⟩ | ⟨g, cap, cur, rfl, hb, hg, hn, hm, hs, ht⟩
  · have : ns = [] := List.eq_nil_of_length_eq_zero h0
    subst this
    exact ⟨none, 0, rfl, Nat.le_refl _, Nat.zero_le _, .inl rfl⟩
  · refine ⟨_, cap, rfl, hn, hm, .inr ⟨g, 0, rfl, (Array.getElem?_eq_some_iff.1 hg).1, fun i hi => ?_⟩⟩
    have c : ∀ j, j < 7 → w.cell? ⟨g, 0 + (i * 7 + j), none⟩ = (ndL (nAt ns i))[j]? := fun j hj => by
      have hh := nrow_get ns i j hi hj
      have h9 : (ndL (nAt ns i))[j]? = some ((ndL (nAt ns i)).getD j undef) := by
        match j, hj with
        | 0, _ => rfl
        | 1, _ => rfl
        | 2, _ => rfl
        | 3, _ => rfl
        | 4, _ => rfl
        | 5, _ => rfl
        | 6, _ => rfl
      rw [h9] at hh
      have := World.ownsRow.cells h (g := g) rfl (i * 7 + j) _ hh
      rw [Addr.add_lit] at this
      rw [this, h9]
    exact ⟨c 0 (by omega), c 1 (by omega), c 2 (by omega), c 3 (by omega), c 4 (by omega), c 5 (by omega), c 6 (by omega)⟩
theorem OwnN.below {e : TypeId} {w w' : World} {lo : Nat} {v : Value} {ns : List Nd} (h : OwnN e w lo v ns) (hb : Below w.heap.size w w') : OwnN e w' lo v ns := by
  refine ⟨h.1, ?_⟩
  rcases h.2 with hn | ⟨g, cap, cur, rfl, hbg, hgg, rest⟩
  · exact .inl hn
  · exact .inr ⟨g, cap, cur, rfl, hbg, by rw [hb.block g (Array.getElem?_eq_some_iff.1 hgg).1]; exact hgg, rest⟩
theorem OwnN.mono {e : TypeId} {w : World} {lo lo' : Nat} {v : Value} {ns : List Nd} (h : OwnN e w lo v ns) (hl : lo' ≤ lo) : OwnN e w lo' v ns := by
  refine ⟨h.1, ?_⟩
  rcases h.2 with hn | ⟨g, cap, cur, rfl, hbg, rest⟩
  · exact .inl hn
  · exact .inr ⟨g, cap, cur, rfl, Nat.le_trans hl hbg, rest⟩
theorem OwnN.slice {e : TypeId} {w : World} {lo : Nat} {v : Value} {ns : List Nd} (h : OwnN e w lo v ns) : ∃ a c, v = .slice a ns.length c := by
  obtain ⟨a, c, h0, _⟩ := h.rd.len
  exact ⟨a, c, h0⟩

/-- All the bytes of the texts. -/
def totN (ns : List Nd) : Nat := (ns.map fun n => n.path.size + n.data.size).sum
theorem totN_take_succ (ns : List Nd) (k : Nat) (h : k < ns.length) : totN (ns.take (k + 1)) = totN (ns.take k) + ((nAt ns k).path.size + (nAt ns k).data.size) := by
  unfold totN
  rw [List.take_succ_eq_append_getElem h, List.map_append, List.sum_append, nAt_get h]
  simp
theorem totN_all (ns : List Nd) (k : Nat) (h : ns.length ≤ k) : totN (ns.take k) = totN ns := by rw [List.take_of_length_le h]
theorem totN_ge (ns : List Nd) (i : Nat) : (nAt ns i).path.size + (nAt ns i).data.size ≤ totN ns := by
  by_cases h : i < ns.length
  · have h1 := totN_take_succ ns i h
    have h2 : totN (ns.take (i + 1)) ≤ totN ns := by
      unfold totN
      conv => rhs; rw [← List.take_append_drop (i + 1) ns, List.map_append, List.sum_append]
      omega
    omega
  · unfold nAt; rw [List.getD, List.getElem?_eq_none (by omega)]; exact Nat.zero_le _

end Go.Proofs.YtgjenbgclpmjmaaDoor
