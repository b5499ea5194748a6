import Derived.Test.YtajnihjdhhmefaaBytes
import Derived.Laws.BytesArg
import Derived.Lib.ConvBytes
namespace Go.Proofs.Ytajnihjdhhmefaa
open Go.RowKit

theorem conv_any {w : World} {v : Value} {xs : List Int} (h : Rd .u8 w v xs) : (convert 22 9 v).run Try.prog w = .ok (.string (strOfNums xs)) w := by
  obtain ⟨ao, cap, rfl, h1, h2, h3⟩ := h
  rcases h3 with rfl | ⟨b, o, rfl, hb, hc⟩
  · cases ao with
    | none => exact run_convert_bytes_nil w _ _ Try.underlying22 Try.underlying5 0 cap _ Try.underlying9
    | some a =>
      rw [run_convert_bytes_string w _ _ _ _ _ _ Try.underlying22 Try.underlying5 Try.underlying9]
      exact run_bytesToString w a 0 cap [] (by simp [loadCells, loadCellsFrom])
  · exact run_convert_bytes_arg w _ _ Try.underlying22 Try.underlying5 b o _ cap xs rfl hc _ Try.underlying9

/-- What a conversion of a text to bytes leaves. -/
theorem conv_back (w : World) (xs : List Int) (hby : ∀ x ∈ xs, 0 ≤ x ∧ x < 256) (hl : xs.length ≤ 1099511627776) :
    ∃ cap W, (convert 9 22 (.string (strOfNums xs))).run Try.prog w = .ok (.slice (some ⟨w.heap.size, 0, none⟩) xs.length cap) W ∧ Below w.heap.size w W ∧ w.heap.size < W.heap.size ∧
      Rd .u8 W (.slice (some ⟨w.heap.size, 0, none⟩) xs.length cap) xs ∧ ∀ j, j < xs.length → W.frozen? ⟨w.heap.size, j, none⟩ = false := by
  have hr := Lib.run_convert_string_bytes (P := Try.prog) w 9 22 5 (strOfNums xs) Try.underlying9 Try.underlying22 Try.underlying5
  rw [strOfNums_size] at hr
  have hge := grownCap_ge w xs.length 0 5
  have hle := grownCap_le_maxLen w xs.length 0 5 (by unfold maxLen; omega)
  have hsz := Lib.bytesWorld_size w 5 (strOfNums xs)
  refine ⟨_, _, hr, ⟨rfl, rfl, rfl, by omega, fun k hk => Lib.bytesWorld_at_old w _ _ k hk⟩, by omega, ?_, ?_⟩
  · refine ⟨_, _, rfl, hge, hle, .inr ⟨w.heap.size, 0, rfl, by omega, fun i hi => ?_⟩⟩
    rw [Nat.zero_add, Lib.bytesWorld_cell w 5 (strOfNums xs) i (by rw [strOfNums_size]; exact hi), strOfNums_data]
    have hx := hby _ (List.getElem_mem hi)
    simp only [List.getD, List.getElem?_map, List.getElem?_eq_getElem hi, Option.map_some, Option.getD_some, UInt8.toNat_ofNat']
    rw [show xs[i].toNat % 2 ^ 8 = xs[i].toNat from Nat.mod_eq_of_lt (by have := hx; simp only [Nat.reducePow]; omega), Int.toNat_of_nonneg hx.1]
  · intro j hj
    have hn := Lib.bytesWorld_at_new w 5 (strOfNums xs)
    have hs : j < (Lib.bytesCells w 5 (strOfNums xs)).size := by
      unfold Lib.bytesCells
      rw [Array.size_append, Array.size_map]
      have : (strOfNums xs).data.size = xs.length := strOfNums_size xs
      omega
    simp [World.frozen?, hn]
    omega

end Go.Proofs.Ytajnihjdhhmefaa
