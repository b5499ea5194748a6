import Derived.Test.YtmgolinleiahpaaSpecWrite
import Derived.Test.YtmgolinleiahpaaLValid
namespace Go.Proofs.Ytmgolinleiahpaa
open Go.RowKit

theorem OwnB.far {w : World} {base : Nat} {v : Value} {xs : List Int} (h : OwnB w base v xs) {u : Value} (hu : ∀ g, u.ownBlock = some g → g < base) : v.ownBlock = none ∨ v.ownBlock ≠ u.ownBlock := h.elim fun _ h => h.far hu

theorem toDisk_ownD (w : World) (vd vp : Value) (dur : List Int) (ps : List (Int × List Int)) (h : Rd .u8 w vd dur) (hp : RdW w vp ps) (hl : dur.length ≤ 1048576) (hn : ps.length ≤ 1048576) (hd : ∀ i, (pD ps i).length ≤ 1048576) :
    Calls Try.prog 23 #[.agg #[vd, vp]] w fun e w' => ∃ va ca vb cb dv, e = .returned (.agg #[.slice va dur.length ca, .slice vb ps.length cb]) ∧ OwnD w' w.heap.size w'.heap.size (.slice va dur.length ca) (.slice vb ps.length cb) dur ps dv ∧ Below w.heap.size w w' := by
  refine (toDisk_any w vd vp dur ps h hp hl hn hd).mono ?_
  rintro e w' ⟨va, ca, vb, cb, dv, mid, rfl, o, hlt, q, hm, b⟩
  refine ⟨va, ca, vb, cb, dv, rfl, ⟨o, q.mono hm, fun g hg => (o.lt g hg).2, fun g hg => (World.ownsRow.lt q.1 g hg).2, fun i hi g hg => ((q.2.1 i hi).lt g hg).2, ?_, fun i hi => ?_⟩, b⟩
  · unfold Ne2
    cases hv : Value.ownBlock (.slice vb ps.length cb) with
    | none => exact .inl rfl
    | some g =>
      right; intro e
      have := (World.ownsRow.lt q.1 g hv).1; have := hlt g e.symm; omega
  · exact (q.2.1 i hi).far hlt

theorem tot64 : ∀ (ps : List (Int × List Int)), (∀ p ∈ ps, p.2.length ≤ 64) → tot ps ≤ 64 * ps.length
  | [], _ => by simp [tot]
  | p :: ps, h => by
    have h1 := tot64 ps (fun q hq => h q (List.mem_cons_of_mem _ hq))
    have h2 := h p (List.mem_cons_self ..)
    simp only [tot, List.map_cons, List.sum_cons, List.length_cons] at h1 ⊢
    omega

theorem wrOk_parts {dl : Nat} {ps : List (Int × List Int)} {x : Int} {m : Nat} (h : wrOk dl ps x m = true) : ps.length < 2000 ∧ m = 64 ∧ tot ps ≤ 64 * ps.length := by
  unfold wrOk at h
  simp only [Bool.and_eq_true, decide_eq_true_eq] at h
  obtain ⟨⟨⟨h1, h2⟩, _⟩, h5⟩ := h
  refine ⟨h2, h5, tot64 ps fun p hp => ?_⟩
  obtain ⟨i, hi, rfl⟩ := List.mem_iff_getElem.1 hp
  have := (((vldD_iff dl ps).1 h1).2.2.2.2 i hi)
  unfold okP pD at this
  simp [List.getD, hi] at this
  omega

/-- The bounds of the answer. -/
theorem wr_bounds (dur : List Int) (ps : List (Int × List Int)) (x : Int) (xs : List Int) (hl : dur.length ≤ 1048576) : (wrDur dur ps x xs).length ≤ 1048576 ∧ (wrPend dur ps x xs).length ≤ 1048576 ∧ tot (wrPend dur ps x xs) ≤ 1048576 := by
  unfold wrDur wrPend
  cases h : wrOk dur.length ps x xs.length with
  | false => simp [tot]
  | true =>
    obtain ⟨h1, h2, h3⟩ := wrOk_parts h
    refine ⟨by simpa using hl, by simp; omega, ?_⟩
    have : tot (ps ++ [(x, xs)]) = tot ps + xs.length := by simp [tot]
    simp only [if_true]
    omega

end Go.Proofs.Ytmgolinleiahpaa
