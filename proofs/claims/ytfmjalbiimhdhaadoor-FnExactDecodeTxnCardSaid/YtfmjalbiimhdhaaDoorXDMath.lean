import Derived.Test.YtfmjalbiimhdhaaDoorXEnc
import Derived.Test.YtfmjalbiimhdhaaDoorDTree
namespace Go.Proofs.YtfmjalbiimhdhaaDoor
open Go.RowKit

/-- A node that shows its path alone. -/
def ndP (s : ByteArray) : Nd := ⟨s, ByteArray.empty, 0, 0, 0, 0, 0⟩
/-- An effect at the head of bytes, and what is behind it. -/
def rdE : List Int → Option (Ef × List Int)
  | [] => none
  | y :: r => if y = 1 then (rdNd r).map (fun q => (⟨false, q.1⟩, q.2)) else if y = 2 then (rdT r).map (fun q => (⟨true, ndP q.1⟩, q.2)) else none
theorem rdE_byt {ys r : List Int} {e : Ef} (h : rdE ys = some (e, r)) (hb : Byt ys) : Byt r ∧ r.length < ys.length ∧ e.nd.path.size < 256 ∧ e.nd.data.size < 256 := by
  cases ys with
  | nil => simp [rdE] at h
  | cons y t =>
    have ht : Byt t := fun x hx => hb x (List.mem_cons_of_mem _ hx)
    simp only [rdE] at h
    split at h
    · obtain ⟨⟨n, r'⟩, h1, h2⟩ := Option.map_eq_some_iff.1 h
      simp only [Prod.mk.injEq] at h2
      obtain ⟨rfl, rfl⟩ := h2
      have := rdNd_byt h1 ht
      exact ⟨this.1, by simp; omega, this.2.2.1, this.2.2.2⟩
    · split at h
      · obtain ⟨⟨s, r'⟩, h1, h2⟩ := Option.map_eq_some_iff.1 h
        simp only [Prod.mk.injEq] at h2
        obtain ⟨rfl, rfl⟩ := h2
        have := rdT_byt h1 ht
        exact ⟨this.1, by simp; omega, this.2.2, by show ByteArray.empty.size < 256; decide⟩
      · cases h
/-- So many effects, and what is behind them. -/
def pEs : Nat → List Int → Option (List Ef × List Int)
  | 0, ys => some ([], ys)
  | c + 1, ys =>
    match rdE ys with
    | none => none
    | some (e, r) => (pEs c r).map fun q => (e :: q.1, q.2)
def ParE (C : Nat) (ys : List Int) (es : List Ef) (r : List Int) (c : Nat) : Prop := pEs C ys = (pEs c r).map (fun q => (es ++ q.1, q.2)) ∧ es.length + r.length ≤ ys.length
theorem ParE.start (C : Nat) (ys : List Int) : ParE C ys [] ys C := ⟨by simp, by simp⟩
theorem ParE.step {C c : Nat} {ys : List Int} {es : List Ef} {r r' : List Int} {e : Ef} (h : ParE C ys es r (c + 1)) (hb : Byt r) (hr : rdE r = some (e, r')) : ParE C ys (es ++ [e]) r' c := by
  obtain ⟨he, hl⟩ := h
  have h1 := (rdE_byt hr hb).2.1
  refine ⟨?_, by simp; omega⟩
  rw [he]
  simp only [pEs, hr, Option.map_map]
  congr 1
  funext q
  simp
theorem ParE.done {C : Nat} {ys : List Int} {es : List Ef} {r : List Int} (h : ParE C ys es r 0) : pEs C ys = some (es, r) := by
  rw [h.1]; simp [pEs]
theorem ParE.bad {C c : Nat} {ys : List Int} {es : List Ef} {r : List Int} (h : ParE C ys es r (c + 1)) (hr : rdE r = none) : pEs C ys = none := by
  rw [h.1]; simp [pEs, hr]
def cntX (ys : List Int) : Nat := numB ((ys.drop 4).take 2)
def zX (ys : List Int) : Nat := numB (ys.take 4)
/-- What bytes are, read as a transaction. -/
def decX (ys : List Int) : Option (Int × List Ef) :=
  if ys.length < 6 then none else
  match pEs (cntX ys) (ys.drop 6) with
  | none => none
  | some (es, r) => if r = [] ∧ okTxn (zX ys) es = true then some ((zX ys : Int), es) else none
theorem wrap2 {ys : List Int} (h : Byt ys) : wrap64 ((numB (ys.take 2) : Nat) : Int) = ((numB (ys.take 2) : Nat) : Int) ∧ numB (ys.take 2) < 65536 := by
  have hb := (bigR_numB (ys.take 2).length (ys.take 2) rfl (fun x hx => h x (List.mem_of_mem_take hx))).2
  have h1 : 256 ^ (ys.take 2).length ≤ 256 ^ 2 := Nat.pow_le_pow_right (by omega) (by rw [List.length_take]; omega)
  have h2 : numB (ys.take 2) < 65536 := Nat.lt_of_lt_of_le hb h1
  unfold wrap64
  omega
def SzE (es : List Ef) : Prop := ∀ n ∈ es, n.nd.path.size < 256 ∧ n.nd.data.size < 256
theorem SzE.at {ns : List Ef} (h : SzE ns) (i : Nat) : (eAt ns i).nd.path.size ≤ 1048576 ∧ (eAt ns i).nd.data.size ≤ 1048576 := by
  by_cases hi : i < ns.length
  · rw [eAt_get hi]
    have := h _ (List.getElem_mem hi)
    omega
  · unfold eAt; rw [List.getD, List.getElem?_eq_none (by omega)]; exact ⟨Nat.zero_le _, Nat.zero_le _⟩
theorem SzE.snoc {es : List Ef} {e : Ef} (h : SzE es) (h1 : e.nd.path.size < 256) (h2 : e.nd.data.size < 256) : SzE (es ++ [e]) := by
  intro m hm
  rcases List.mem_append.1 hm with hm | hm
  · exact h m hm
  · simp at hm; subst hm; exact ⟨h1, h2⟩

/-- A local image of an effect that may be written. -/
def EB (W : World) (B : Nat) (n : Nd) (m : Int) : Prop := NB W B n ∧ W.cell? ⟨B, 7, none⟩ = some (.int .u8 m)
theorem EB.turn {W W' : World} {B : Nat} {n : Nd} {m : Int} {row : Option Nat} (h : EB W B n m) (hg : W.grownBy W' row) (hne : some B ≠ row) : EB W' B n m :=
  ⟨h.1.turn hg hne, (World.cell?_of_block (a := ⟨B, 7, none⟩) (hg.block B h.1.1.lt hne)).trans h.2⟩
theorem EB.other {W : World} {B B' : Nat} {n : Nd} {m : Int} (h : EB W B n m) (hne : B ≠ B') (i : Nat) (u : Value) : EB (W.setCell ⟨B', i, none⟩ u) B n m :=
  ⟨h.1.other hne i u, (World.cell?_setCell_other _ _ _ _ (by intro e; injection e with e; omega)).trans h.2⟩
theorem EB.new (w : World) (n : Nd) (m : Int) (t : TypeId) : EB (w.alloc (.cells #[.string n.path, .string n.data, .int .i64 n.ver, .int .i64 n.cver, .int .i64 n.cz, .int .i64 n.mz, .int .i64 n.pz, .int .u8 m] t)) w.heap.size n m := by
  have := heap_alloc_new w (.cells #[.string n.path, .string n.data, .int .i64 n.ver, .int .i64 n.cver, .int .i64 n.cz, .int .i64 n.mz, .int .i64 n.pz, .int .u8 m] t)
  exact ⟨⟨⟨by simp, (cell_of this _).trans rfl, (cell_of this _).trans rfl, (cell_of this _).trans rfl, (cell_of this _).trans rfl, (cell_of this _).trans rfl, (cell_of this _).trans rfl, (cell_of this _).trans rfl⟩, fun j => (by go_simp)⟩, (cell_of this _).trans rfl⟩
theorem cell7_set {W : World} {B i : Nat} {u x : Value} (h : W.cell? ⟨B, 7, none⟩ = some x) (hi : i ≠ 7) : (W.setCell ⟨B, i, none⟩ u).cell? ⟨B, 7, none⟩ = some x :=
  (World.cell?_setCell_other _ _ _ _ (by intro e; injection e with _ e; omega)).trans h
theorem EB.putN {W : World} {B : Nat} {n : Nd} {m : Int} (h : EB W B n m) (n' : Nd) :
    EB (((((((W.setCell ⟨B, 0, none⟩ (.string n'.path)).setCell ⟨B, 1, none⟩ (.string n'.data)).setCell ⟨B, 2, none⟩ (.int .i64 n'.ver)).setCell ⟨B, 3, none⟩ (.int .i64 n'.cver)).setCell ⟨B, 4, none⟩ (.int .i64 n'.cz)).setCell ⟨B, 5, none⟩ (.int .i64 n'.mz)).setCell ⟨B, 6, none⟩ (.int .i64 n'.pz)) B n' m := by
  refine ⟨((((((h.1.put0 n'.path).put1 n'.data).put2 n'.ver).put3 n'.cver).put4 n'.cz).put5 n'.mz).put6 n'.pz, ?_⟩
  iterate 7 refine cell7_set ?_ (by omega)
  exact h.2
theorem EB.putP {W : World} {B : Nat} {n : Nd} {m : Int} (h : EB W B n m) (s : ByteArray) : EB (W.setCell ⟨B, 0, none⟩ (.string s)) B { n with path := s } m :=
  ⟨h.1.put0 s, cell7_set h.2 (by omega)⟩
def efIV (e : Ef) : Value := .agg #[.string e.nd.path, .string e.nd.data, .int .i64 e.nd.ver, .int .i64 e.nd.cver, .int .i64 e.nd.cz, .int .i64 e.nd.mz, .int .i64 e.nd.pz, .int .u8 (mkB e)]

end Go.Proofs.YtfmjalbiimhdhaaDoor
