import Derived.Test.YtoljmlhnbmeloaaTabMath
namespace Go.Proofs.Ytoljmlhnbmeloaa
open Go.RowKit

def blk (D : List Int) (b : Nat) : List Int := (D.drop (b * 64)).take 64

theorem blk_get (D : List Int) (b j : Nat) : (blk D b)[j]? = if j < 64 then D[b * 64 + j]? else none := by
  unfold blk
  rw [List.getElem?_take]
  split
  · rw [List.getElem?_drop]
  · rfl

theorem blk_ext {D E : List Int} (hl : D.length = E.length) (hm : D.length % 64 = 0) (h : ∀ b, b * 64 + 64 ≤ D.length → blk D b = blk E b) : D = E := by
  apply List.ext_getElem?
  intro i
  by_cases hi : i < D.length
  · have h1 := h (i / 64) (by omega)
    have h2 : (blk D (i / 64))[i % 64]? = (blk E (i / 64))[i % 64]? := by rw [h1]
    rw [blk_get, blk_get, if_pos (by omega), if_pos (by omega), show i / 64 * 64 + i % 64 = i by omega] at h2
    exact h2
  · rw [List.getElem?_eq_none (by omega), List.getElem?_eq_none (by omega)]

theorem blk_splice (D V : List Int) (c b : Nat) (hV : V.length = 64) (hc : c * 64 + 64 ≤ D.length) : blk (splice D (c * 64) V) b = if b = c then V else blk D b := by
  apply List.ext_getElem?
  intro j
  rw [blk_get, splice_get _ _ _ (by omega), hV]
  by_cases hj : j < 64
  · rw [if_pos hj]
    by_cases e : b = c
    · subst e
      rw [if_pos rfl, if_neg (by omega), if_pos (by omega), show b * 64 + j - b * 64 = j by omega]
    · rw [if_neg e, blk_get, if_pos hj]
      by_cases h1 : b * 64 + j < c * 64
      · rw [if_pos h1]
      · rw [if_neg h1, if_neg (by omega)]
  · rw [if_neg hj]
    split
    · rw [List.getElem?_eq_none (by omega)]
    · rw [blk_get, if_neg hj]

/-- The rows laid over the durable bytes. -/
def lays (dur : List Int) (rs : List (Int × List Int)) : List Int := rs.foldl (fun D r => splice D (r.1.toNat * 64) r.2) dur
theorem lays_snoc (dur : List Int) (rs : List (Int × List Int)) (r : Int × List Int) : lays dur (rs ++ [r]) = splice (lays dur rs) (r.1.toNat * 64) r.2 := by simp [lays]

/-- A row that fits. -/
def Fits (dl : Nat) (r : Int × List Int) : Prop := ∃ b : Nat, r.1 = b ∧ b * 64 + 64 ≤ dl ∧ r.2.length = 64

theorem snoc_ind {α : Type} {p : List α → Prop} (h0 : p []) (hs : ∀ l x, p l → p (l ++ [x])) (l : List α) : p l := by
  rw [← List.reverse_reverse l]
  induction l.reverse with
  | nil => exact h0
  | cons x xs ih => rw [List.reverse_cons]; exact hs _ _ ih

theorem lays_len (dur : List Int) (rs : List (Int × List Int)) : (∀ r ∈ rs, Fits dur.length r) → (lays dur rs).length = dur.length := by
  refine snoc_ind (p := fun rs => (∀ r ∈ rs, Fits dur.length r) → (lays dur rs).length = dur.length) (fun _ => rfl) (fun rs r ih h => ?_) rs
  · have ih' := ih (fun q hq => h q (by simp [hq]))
    obtain ⟨b, hb, hb2, hl⟩ := h r (by simp)
    rw [lays_snoc, length_splice, ih']
    rw [ih', hb, Int.toNat_natCast, hl]
    exact hb2

theorem stl_blk (dur : List Int) (ps : List (Int × List Int)) (hv : vldD dur.length ps = true) (b : Nat) : ∀ k, k ≤ ps.length → blk (stl dur ps (fun _ => 64) k) b = rdv dur ps b k
  | 0, _ => rfl
  | k + 1, hk => by
    have ih := stl_blk dur ps hv b k (by omega)
    obtain ⟨c, hc, hc2, _, hd⟩ := vld_at hv k (by omega)
    have hl := stl_len dur ps (fun _ => 64) hv k (by omega)
    rw [stl, hc, Int.toNat_natCast, List.take_of_length_le (by omega), blk_splice _ _ _ _ hd (by omega)]
    by_cases e : b = c
    · rw [if_pos e, rdv_at dur ps b k (by rw [hc, e])]
    · rw [if_neg e, rdv_off dur ps b k (by rw [hc]; omega), ih]

theorem lays_blk (dur : List Int) (rs : List (Int × List Int)) (b : Nat) : (∀ r ∈ rs, Fits dur.length r) → (∀ i j, i < rs.length → j < rs.length → pB rs i = pB rs j → i = j) →
    (∀ i, i < rs.length → pB rs i = b → blk (lays dur rs) b = pD rs i) ∧ ((∀ i, i < rs.length → pB rs i ≠ b) → blk (lays dur rs) b = blk dur b) := by
  refine snoc_ind (p := fun rs => (∀ r ∈ rs, Fits dur.length r) → (∀ i j, i < rs.length → j < rs.length → pB rs i = pB rs j → i = j) →
    (∀ i, i < rs.length → pB rs i = b → blk (lays dur rs) b = pD rs i) ∧ ((∀ i, i < rs.length → pB rs i ≠ b) → blk (lays dur rs) b = blk dur b)) (fun _ _ => ⟨fun i hi => by simp at hi, fun _ => rfl⟩) (fun rs r ih h hap => ?_) rs
  · have hl : (rs ++ [r]).length = rs.length + 1 := by simp
    have hrs : ∀ q ∈ rs, Fits dur.length q := fun q hq => h q (by simp [hq])
    have hap' : ∀ i j, i < rs.length → j < rs.length → pB rs i = pB rs j → i = j := fun i j hi hj e => hap i j (by omega) (by omega) (by rw [pB_app _ _ _ hi, pB_app _ _ _ hj]; exact e)
    obtain ⟨i1, i2⟩ := ih hrs hap'
    obtain ⟨c, hc, hc2, hd⟩ := h r (by simp)
    have hlen := lays_len dur rs hrs
    rw [lays_snoc, hc, Int.toNat_natCast, blk_splice _ _ _ _ hd (by omega)]
    refine ⟨fun i hi e => ?_, fun hno => ?_⟩
    · rw [hl] at hi
      by_cases ei : i = rs.length
      · subst ei
        rw [pB_last] at e
        rw [pD_last, if_pos (by rw [hc] at e; omega)]
      · rw [pB_app _ _ _ (by omega)] at e
        rw [pD_app _ _ _ (by omega)]
        by_cases eb : b = c
        · have := hap i rs.length (by omega) (by omega) (by rw [pB_app _ _ _ (by omega), pB_last, e, hc, eb])
          omega
        · rw [if_neg eb]; exact i1 i (by omega) e
    · have hn := hno rs.length (by omega)
      rw [pB_last, hc] at hn
      rw [if_neg (by omega)]
      exact i2 (fun i hi => by have := hno i (by omega); rw [pB_app _ _ _ hi] at this; exact this)

theorem fits_of (dl : Nat) (rs : List (Int × List Int)) (h : ∀ i, i < rs.length → ∃ b : Nat, pB rs i = b ∧ b * 64 + 64 ≤ dl ∧ b ≤ 300) (hf : ∀ i, i < rs.length → (pD rs i).length = 64) : ∀ r ∈ rs, Fits dl r := by
  intro r hr
  obtain ⟨i, hi, rfl⟩ := List.mem_iff_getElem.1 hr
  obtain ⟨b, h1, h2, _⟩ := h i hi
  have h3 := hf i hi
  unfold pB at h1
  unfold pD at h3
  simp [List.getD, hi] at h1 h3
  exact ⟨b, h1, h2, h3⟩

/-- All the writes, one by one or by the table. -/
theorem lays_stl (dur : List Int) (ps rs : List (Int × List Int)) (hv : vldD dur.length ps = true) (ht : TabOf dur ps ps.length rs) (hf : ∀ i, i < rs.length → (pD rs i).length = 64) (hap : ∀ i j, i < rs.length → j < rs.length → pB rs i = pB rs j → i = j) :
    lays dur rs = stl dur ps (fun _ => 64) ps.length := by
  have hfit := fits_of dur.length rs ht.2 hf
  have h1 := lays_len dur rs hfit
  have h2 := stl_len dur ps (fun _ => 64) hv ps.length (Nat.le_refl _)
  refine blk_ext (by rw [h1, h2]) (by rw [h1]; exact ((vldD_iff _ _).1 hv).1) (fun b hb => ?_)
  rw [stl_blk dur ps hv b _ (Nat.le_refl _)]
  obtain ⟨k1, k2⟩ := lays_blk dur rs b hfit hap
  by_cases hex : ∃ i, i < rs.length ∧ pB rs i = (b : Int)
  · obtain ⟨i, hi, e⟩ := hex
    rw [k1 i hi e, (ht.1 b).1 i hi e]
  · have hno : ∀ i, i < rs.length → pB rs i ≠ (b : Int) := fun i hi e => hex ⟨i, hi, e⟩
    rw [k2 hno, (ht.1 b).2 hno]
    rfl

end Go.Proofs.Ytoljmlhnbmeloaa
