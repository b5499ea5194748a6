import Derived.Test.YtoljmlhnbmeloaaBytes
namespace Go.Proofs.Ytoljmlhnbmeloaa
open Go.RowKit

/-- A stretch of a row of the call's own. -/
def OwnO (w : World) (base : Nat) (v : Value) (xs : List Int) : Prop :=
  (v = .slice none 0 0 ∧ xs = []) ∨ ∃ g o cap N C ys, v = .slice (some ⟨g, o, none⟩) xs.length cap ∧ Own .u8 5 w base (.slice (some ⟨g, 0, none⟩) N C) ys ∧ ys.length = N ∧ o + xs.length ≤ N ∧ (∀ i, i < xs.length → ys.getD (o + i) 0 = xs.getD i 0) ∧ xs.length ≤ cap ∧ cap ≤ maxLen

theorem OwnO.rd {w : World} {base : Nat} {v : Value} {xs : List Int} (h : OwnO w base v xs) : Rd .u8 w v xs := by
  rcases h with ⟨rfl, rfl⟩ | ⟨g, o, cap, N, C, ys, rfl, ho, hy, hN, hg, h1, h2⟩
  · exact ⟨none, 0, rfl, Nat.le_refl _, Nat.zero_le _, .inl rfl⟩
  · have hr := ho.rd
    obtain ⟨ao, c, e, r1, r2, r3⟩ := hr
    refine ⟨_, cap, rfl, h1, h2, ?_⟩
    by_cases hz : xs = []
    · exact .inl hz
    · right
      have hpos : 0 < xs.length := List.length_pos_iff.2 hz
      simp only [Value.slice.injEq] at e
      obtain ⟨rfl, -, rfl⟩ := e
      rcases r3 with r3 | ⟨b, o', e2, hb, hc⟩
      · subst r3; simp at hy; omega
      · simp only [Option.some.injEq, Addr.mk.injEq] at e2
        obtain ⟨rfl, rfl, -⟩ := e2
        refine ⟨g, o, rfl, hb, fun i hi => ?_⟩
        have := hc (o + i) (by omega)
        rw [Nat.zero_add, hg i hi] at this
        exact this

theorem OwnO.lt {w : World} {base : Nat} {v : Value} {xs : List Int} (h : OwnO w base v xs) : ∀ k, v.ownBlock = some k → base ≤ k ∧ k < w.heap.size := by
  intro k hk
  rcases h with ⟨rfl, rfl⟩ | ⟨g, o, cap, N, C, ys, rfl, ho, _⟩
  · simp [Value.ownBlock] at hk
  · exact ho.lt k hk

theorem OwnO.mono {w : World} {base base' : Nat} {v : Value} {xs : List Int} (h : OwnO w base v xs) (hb : base' ≤ base) : OwnO w base' v xs := by
  rcases h with h | ⟨g, o, cap, N, C, ys, e, ho, r⟩
  · exact .inl h
  · exact .inr ⟨g, o, cap, N, C, ys, e, ho.mono hb, r⟩

theorem OwnO.below {w w' : World} {base : Nat} {v : Value} {xs : List Int} (h : OwnO w base v xs) (hb : Below w.heap.size w w') : OwnO w' base v xs := by
  rcases h with h | ⟨g, o, cap, N, C, ys, e, ho, r⟩
  · exact .inl h
  · exact .inr ⟨g, o, cap, N, C, ys, e, ho.below hb, r⟩

set_option maxHeartbeats 400000 in
theorem markByteS_off (w : World) (base g o n cap N C : Nat) (ys : List Int) (k : Int) (hy : ys.length = N) (hN : o + n ≤ N) (hown : Own .u8 5 w base (.slice (some ⟨g, 0, none⟩) N C) ys) (hcap : n ≤ cap) (hcap2 : cap ≤ maxLen) (hk0 : 0 ≤ k) (hk1 : k ≤ 1099511627776) (hn : n ≤ 1099511627776) :
    Calls Try.prog 27 #[.slice (some ⟨g, o, none⟩) n cap, .int .i64 k] w fun e w' => e = .returned (.int .i64 (k + n)) ∧ OwnO w' base (.slice (some ⟨g, o, none⟩) n cap) (marks k n) ∧ w.grownBy w' (some g) := by
  have HY : Hid (ys.length = N) := hy
  have HC : Hid (n ≤ cap ∧ cap ≤ maxLen) := ⟨hcap, hcap2⟩
  clear hy hcap hcap2
  go_enter Try.func27, Try.ntmps27
  go_wp2
  go_loopw [1, 5] (fun kk i wr => ∃ j : Nat, j ≤ n ∧ i = .int .i64 j ∧ kk = .int .i64 (k + j) ∧ (∃ zs, Hid (Own .u8 5 wr base (.slice (some ⟨g, 0, none⟩) N C) zs ∧ zs.length = N ∧ ∀ i, i < j → zs.getD (o + i) 0 = (k + i) % 256)) ∧ w.grownBy wr (some g)) (fun _ i _ => n - (intOf i).toNat)
  case atStart => exact ⟨0, Nat.zero_le _, rfl, by go_num, ⟨ys, hown, HY.out, fun i hi => by omega⟩, World.grownBy.refl _ _⟩
  case round =>
    obtain ⟨j, hj, rfl, rfl, ⟨zs, HO⟩, hg⟩ := hrel
    by_cases hlt : j < n
    · have ho' : wr.ownsRow base 5 1 (.slice (some ⟨g, 0, none⟩) N C) N (zs.map (Value.int .u8)) := by
        have := HO.out.1; unfold Own at this; rw [HO.out.2.1] at this; exact this
      have hf := World.ownsRow.frozenAt ho' (o + j)
      have hc : ∃ c, wr.cell? ⟨g, o + j, none⟩ = some c := ⟨_, (World.ownsRow.cellAt ho' (o + j) (by omega)).trans (List.getElem?_eq_getElem (by simp [HO.out.2.1]; omega))⟩
      obtain ⟨c, hc⟩ := hc
      have HS : Hid (Own .u8 5 (wr.setCell ⟨g, o + j, none⟩ (.int .u8 ((k + j) % 256))) base (.slice (some ⟨g, 0, none⟩) N C) (zs.set (o + j) ((k + j) % 256)) ∧ (zs.set (o + j) ((k + j) % 256)).length = N ∧ ∀ i, i < j + 1 → (zs.set (o + j) ((k + j) % 256)).getD (o + i) 0 = (k + i) % 256) := by
        refine ⟨?_, by rw [List.length_set]; exact HO.out.2.1, fun i hi => ?_⟩
        · unfold Own
          rw [List.length_set, HO.out.2.1]
          have := (World.ownsRow.stored ho' (o + j) (.int .u8 ((k + j) % 256))).1
          rw [← List.map_set] at this
          exact this
        · rw [List.getD_eq_getElem?_getD, List.getElem?_set]
          by_cases e : i = j
          · subst e; rw [if_pos rfl, if_pos (by rw [HO.out.2.1]; omega)]; rfl
          · rw [if_neg (by omega), ← List.getD_eq_getElem?_getD]; exact HO.out.2.2 i (by omega)
      clear ho' HO
      have hltI : (j : Int) < (n : Int) := by omega
      go_wp2
      go_roundw
      case rel => exact ⟨j + 1, by omega, by go_num, by go_num, ⟨_, HS⟩, grownBy_set _ _ _ _ _ hg⟩
      case measure => simp [intOf]; omega
    · have hjn : j = n := by omega
      subst hjn
      go_wp2
      go_ret
      refine ⟨rfl, .inr ⟨g, o, cap, N, C, zs, by rw [marks_length], HO.out.1, HO.out.2.1, by rw [marks_length]; exact hN, fun i hi => ?_, by rw [marks_length]; exact HC.out.1, HC.out.2⟩, hg⟩
      rw [marks_length] at hi
      rw [marks_getD _ _ _ hi]
      exact HO.out.2.2 i hi

theorem markByteS_offA (w : World) (base : Nat) (v : Value) (xs : List Int) (k : Int) (hown : OwnO w base v xs) (hk0 : 0 ≤ k) (hk1 : k ≤ 1099511627776) (hn : xs.length ≤ 1099511627776) :
    Calls Try.prog 27 #[v, .int .i64 k] w fun e w' => e = .returned (.int .i64 (k + xs.length)) ∧ OwnO w' base v (marks k xs.length) ∧ w.grownBy w' v.ownBlock := by
  rcases hown with ⟨rfl, rfl⟩ | ⟨g, o, cap, N, C, ys, rfl, ho, hy, hN, hg, h1, h2⟩
  · refine (markByteS_nil w k).mono ?_
    rintro e w' ⟨rfl, rfl⟩
    exact ⟨ret_int (by simp), .inl ⟨rfl, rfl⟩, World.grownBy.refl _ _⟩
  · exact markByteS_off w base g o xs.length cap N C ys k hy hN ho h1 h2 hk0 hk1 hn

end Go.Proofs.Ytoljmlhnbmeloaa
