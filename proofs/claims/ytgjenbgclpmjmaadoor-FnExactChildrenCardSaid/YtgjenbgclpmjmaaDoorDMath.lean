import Derived.Test.YtgjenbgclpmjmaaDoorEMath
import Derived.Test.YtgjenbgclpmjmaaDoorReader
import Derived.Test.YtgjenbgclpmjmaaDoorConv
namespace Go.Proofs.YtgjenbgclpmjmaaDoor
open Go.RowKit

/-- A text at the head of bytes, and what is behind it. -/
def rdT : List Int → Option (ByteArray × List Int)
  | [] => none
  | y :: r => if y.toNat ≤ r.length then some (strOfNums (r.take y.toNat), r.drop y.toNat) else none
def num4 (ys : List Int) (i : Nat) : Int := ((numB ((ys.drop (4 * i)).take 4) : Nat) : Int)
/-- A node at the head of bytes, and what is behind it. -/
def rdNd (ys : List Int) : Option (Nd × List Int) :=
  match rdT ys with
  | none => none
  | some (p, r1) =>
    match rdT r1 with
    | none => none
    | some (d, r2) => if 20 ≤ r2.length then some (⟨p, d, num4 r2 0, num4 r2 1, num4 r2 2, num4 r2 3, num4 r2 4⟩, r2.drop 20) else none
theorem byt_drop {ys : List Int} (h : Byt ys) (n : Nat) : Byt (ys.drop n) := fun x hx => h x (List.mem_of_mem_drop hx)
theorem rdT_some {ys r : List Int} {s : ByteArray} (h : rdT ys = some (s, r)) : ∃ y t, ys = y :: t ∧ y.toNat ≤ t.length ∧ s = strOfNums (t.take y.toNat) ∧ r = t.drop y.toNat := by
  cases ys with
  | nil => simp [rdT] at h
  | cons y t =>
    simp only [rdT] at h
    by_cases hy : y.toNat ≤ t.length
    · rw [if_pos hy] at h
      simp only [Option.some.injEq, Prod.mk.injEq] at h
      exact ⟨y, t, rfl, hy, h.1.symm, h.2.symm⟩
    · rw [if_neg hy] at h; cases h
theorem rdT_none {ys : List Int} (h : rdT ys = none) : ys = [] ∨ ∃ y t, ys = y :: t ∧ t.length < y.toNat := by
  cases ys with
  | nil => exact .inl rfl
  | cons y t =>
    simp only [rdT] at h
    by_cases hy : y.toNat ≤ t.length
    · rw [if_pos hy] at h; cases h
    · exact .inr ⟨y, t, rfl, by omega⟩
theorem rdT_byt {ys r : List Int} {s : ByteArray} (h : rdT ys = some (s, r)) (hb : Byt ys) : Byt r ∧ r.length < ys.length ∧ s.size < 256 := by
  obtain ⟨y, t, rfl, h1, rfl, rfl⟩ := rdT_some h
  refine ⟨fun x hx => hb x (List.mem_cons_of_mem _ (List.mem_of_mem_drop hx)), by simp; omega, ?_⟩
  have := hb y (by simp)
  rw [strOfNums_size, List.length_take]
  omega
theorem rdNd_byt {ys r : List Int} {n : Nd} (h : rdNd ys = some (n, r)) (hb : Byt ys) : Byt r ∧ r.length < ys.length ∧ n.path.size < 256 ∧ n.data.size < 256 := by
  unfold rdNd at h
  cases h1 : rdT ys with
  | none => rw [h1] at h; cases h
  | some q =>
    obtain ⟨p, r1⟩ := q
    rw [h1] at h
    simp only at h
    cases h2 : rdT r1 with
    | none => rw [h2] at h; cases h
    | some q2 =>
      obtain ⟨d, r2⟩ := q2
      rw [h2] at h
      simp only at h
      by_cases h3 : 20 ≤ r2.length
      · rw [if_pos h3] at h
        simp only [Option.some.injEq, Prod.mk.injEq] at h
        obtain ⟨rfl, rfl⟩ := h
        have b1 := rdT_byt h1 hb
        have b2 := rdT_byt h2 b1.1
        refine ⟨byt_drop b2.1 _, ?_, b1.2.2, b2.2.2⟩
        rw [List.length_drop]; omega
      · rw [if_neg h3] at h; cases h

/-- All nodes of bytes. -/
def pNs : Nat → List Int → Option (List Nd)
  | 0, ys => if ys = [] then some [] else none
  | f + 1, ys => if ys = [] then some [] else
    match rdNd ys with
    | none => none
    | some (n, r) => (pNs f r).map (n :: ·)
theorem pNs_nil (f : Nat) : pNs f [] = some [] := by cases f <;> simp [pNs]
theorem pNs_none {f : Nat} {ys : List Int} (h : ys ≠ []) (hr : rdNd ys = none) : pNs f ys = none := by
  cases f with
  | zero => simp [pNs, h]
  | succ f => simp [pNs, h, hr]
theorem pNs_some {f : Nat} {ys r : List Int} {n : Nd} (h : ys ≠ []) (hr : rdNd ys = some (n, r)) : pNs (f + 1) ys = (pNs f r).map (n :: ·) := by simp [pNs, h, hr]
/-- A way through the bytes: what was read, and what is left. -/
def Par (ys : List Int) (ns : List Nd) (r : List Int) : Prop := ∃ f, r.length ≤ f ∧ pNs ys.length ys = (pNs f r).map (ns ++ ·) ∧ ns.length + r.length ≤ ys.length
theorem Par.start (ys : List Int) : Par ys [] ys := ⟨ys.length, Nat.le_refl _, by simp, by simp⟩
theorem Par.step {ys : List Int} {ns : List Nd} {r r' : List Int} {n : Nd} (h : Par ys ns r) (hb : Byt r) (hr : rdNd r = some (n, r')) : Par ys (ns ++ [n]) r' := by
  obtain ⟨f, hf, he, hl⟩ := h
  have h1 := (rdNd_byt hr hb).2.1
  have hne : r ≠ [] := fun e => by rw [e] at h1; simp at h1
  cases f with
  | zero => omega
  | succ f =>
    refine ⟨f, by omega, ?_, by simp; omega⟩
    rw [he, pNs_some hne hr, Option.map_map]
    congr 1
    funext l
    simp
theorem Par.done {ys : List Int} {ns : List Nd} (h : Par ys ns []) : pNs ys.length ys = some ns := by
  obtain ⟨f, -, he, -⟩ := h
  rw [he, pNs_nil]; simp
theorem Par.bad {ys : List Int} {ns : List Nd} {r : List Int} (h : Par ys ns r) (hne : r ≠ []) (hr : rdNd r = none) : pNs ys.length ys = none := by
  obtain ⟨f, -, he, -⟩ := h
  rw [he, pNs_none hne hr]; rfl
/-- What bytes are, read as a tree. -/
def decT (ys : List Int) : Option (List Nd) :=
  match pNs ys.length ys with
  | none => none
  | some ns => if okTree ns then some ns else none

end Go.Proofs.YtgjenbgclpmjmaaDoor
