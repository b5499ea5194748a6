import Derived.Test.YtajnihjdhhmefaaDiskTo
namespace Go.Proofs.Ytajnihjdhhmefaa
open Go.RowKit

set_option maxHeartbeats 400000 in
theorem markByteE_row {te : TypeId} (w : World) (base g n cap : Nat) (xs : List Int) (k : Int) (hx : xs.length = n) (hown : Own .u8 te w base (.slice (some ⟨g, 0, none⟩) n cap) xs) (hk0 : 0 ≤ k) (hk1 : k ≤ 1099511627776) (hn : n ≤ 1099511627776) :
    Calls Try.prog 16 #[.slice (some ⟨g, 0, none⟩) n cap, .int .i64 k] w fun e w' => e = .returned (.int .i64 (k + n)) ∧ Own .u8 te w' base (.slice (some ⟨g, 0, none⟩) n cap) (marks k n) ∧ w.grownBy w' (some g) := by
  have HX : Hid (xs.length = n) := hx
  clear hx
  go_enter Try.func16, Try.ntmps16
  go_wp2
  go_loopw [1, 5] (fun kk i wr => ∃ j : Nat, j ≤ n ∧ i = .int .i64 j ∧ kk = .int .i64 (k + j) ∧ Own .u8 te wr base (.slice (some ⟨g, 0, none⟩) n cap) (mix (marks k n) xs j) ∧ w.grownBy wr (some g)) (fun _ i _ => n - (intOf i).toNat)
  case atStart => exact ⟨0, Nat.zero_le _, rfl, by go_num, by rw [mix_zero]; exact hown, World.grownBy.refl _ _⟩
  case round =>
    obtain ⟨j, hj, rfl, rfl, ho, hg⟩ := hrel
    by_cases hlt : j < n
    · have ho' : wr.ownsRow base te 1 (.slice (some ⟨g, 0, none⟩) n cap) n ((mix (marks k n) xs j).map (Value.int .u8)) := by
        have := ho; unfold Own at this; rw [mix_length (by rw [marks_length, HX.out]), HX.out] at this; exact this
      have hf := World.ownsRow.frozenAt ho' j
      have hc : ∃ c, wr.cell? ⟨g, j, none⟩ = some c := ⟨_, (World.ownsRow.cellAt ho' j (by omega)).trans (List.getElem?_eq_getElem (by simp [mix_length (show (marks k n).length = xs.length by rw [marks_length, HX.out]), HX.out]; exact hlt))⟩
      obtain ⟨c, hc⟩ := hc
      have HO : Hid (Own .u8 te wr base (.slice (some ⟨g, 0, none⟩) n cap) (mix (marks k n) xs j)) := ho
      clear ho ho'
      have hltI : (j : Int) < (n : Int) := by omega
      go_wp2
      go_roundw
      case rel => exact ⟨j + 1, by omega, by go_num, by go_num, Own.mixed (by rw [marks_length, HX.out]) HX.out (by rw [HX.out]; exact hlt) HO.out (by rw [marks_getD _ _ _ hlt]), grownBy_set _ _ _ _ _ hg⟩
      case measure => simp [intOf]; omega
    · have hjn : j = n := by omega
      subst hjn
      go_wp2
      go_ret
      exact ⟨rfl, by rw [mix_all (by rw [marks_length, HX.out]) (by rw [HX.out]; exact Nat.le_refl _)] at ho; exact ho, hg⟩

theorem markByteE_any {te : TypeId} (w : World) (base : Nat) (v : Value) (xs : List Int) (k : Int) (hown : Own .u8 te w base v xs) (hk0 : 0 ≤ k) (hk1 : k ≤ 1099511627776) (hn : xs.length ≤ 1099511627776) :
    Calls Try.prog 16 #[v, .int .i64 k] w fun e w' => e = .returned (.int .i64 (k + xs.length)) ∧ Own .u8 te w' base v (marks k xs.length) ∧ w.grownBy w' v.ownBlock := by
  rcases hown.row with ⟨rfl, rfl⟩ | ⟨g, cap, rfl, _⟩
  · refine (markByteS_nil w k).mono ?_
    rintro e w' ⟨rfl, rfl⟩
    exact ⟨ret_int (by simp), World.ownsRow_nil _ _ _ _, World.grownBy.refl _ _⟩
  · exact markByteE_row w base g xs.length cap xs k rfl hown hk0 hk1 hn

theorem markByteB_any (w : World) (base : Nat) (v : Value) (xs : List Int) (k : Int) (hown : OwnB w base v xs) (hk0 : 0 ≤ k) (hk1 : k ≤ 1099511627776) (hn : xs.length ≤ 1099511627776) :
    Calls Try.prog 16 #[v, .int .i64 k] w fun e w' => e = .returned (.int .i64 (k + xs.length)) ∧ OwnB w' base v (marks k xs.length) ∧ w.grownBy w' v.ownBlock := by
  obtain ⟨te, h⟩ := hown
  refine (markByteE_any w base v xs k h hk0 hk1 hn).mono ?_
  rintro e w' ⟨rfl, o, g⟩
  exact ⟨rfl, ⟨te, o⟩, g⟩

end Go.Proofs.Ytajnihjdhhmefaa
