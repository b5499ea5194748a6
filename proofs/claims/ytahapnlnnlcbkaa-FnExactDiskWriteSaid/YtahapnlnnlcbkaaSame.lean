import Derived.Test.YtahapnlnnlcbkaaPack
import Derived.Laws.BytesArg
namespace Go.Proofs.Ytahapnlnnlcbkaa
open Go.RowKit

theorem conv_any {w : World} {v : Value} {xs : List Int} (h : Rd .u8 w v xs) : (convert 22 9 v).run Try.prog w = .ok (.string (strOfNums xs)) w := by
  obtain ⟨ao, cap, rfl, h1, h2, h3⟩ := h
  rcases h3 with rfl | ⟨b, o, rfl, hb, hc⟩
  · cases ao with
    | none => exact run_convert_bytes_nil w _ _ Try.underlying22 Try.underlying5 0 cap _ Try.underlying9
    | some a =>
      rw [run_convert_bytes_string w _ _ _ _ _ _ Try.underlying22 Try.underlying5 Try.underlying9]
      exact run_bytesToString w a 0 cap [] (by simp [loadCells, loadCellsFrom])
  · exact run_convert_bytes_arg w _ _ Try.underlying22 Try.underlying5 b o _ cap xs rfl hc _ Try.underlying9

theorem map_inj_on {xs ys : List Int} (hx : Byt xs) (hy : Byt ys) (h : xs.map (fun n => UInt8.ofNat n.toNat) = ys.map (fun n => UInt8.ofNat n.toNat)) : xs = ys := by
  induction xs generalizing ys with
  | nil => cases ys with
    | nil => rfl
    | cons y ys => simp at h
  | cons x xs ih => cases ys with
    | nil => simp at h
    | cons y ys =>
      simp only [List.map_cons, List.cons.injEq] at h
      have bx := hx x (by simp)
      have by' := hy y (by simp)
      have e : x = y := by
        have h1 := congrArg UInt8.toNat h.1
        simp only [UInt8.toNat_ofNat'] at h1
        omega
      rw [e, ih (fun z hz => hx z (by simp [hz])) (fun z hz => hy z (by simp [hz])) h.2]

theorem same_iff {xs ys : List Int} (hx : Byt xs) (hy : Byt ys) : ((strOfNums xs).toList == (strOfNums ys).toList) = decide (xs = ys) := by
  rw [ByteArray.toList_eq, ByteArray.toList_eq, strOfNums_data, strOfNums_data]
  by_cases h : xs = ys
  · subst h; simp
  · rw [decide_eq_false h, beq_eq_false_iff_ne]
    exact fun e => h (map_inj_on hx hy e)

set_option maxHeartbeats 400000 in
theorem sameBytes_any (w : World) (va vb : Value) (xs ys : List Int) (ha : Rd .u8 w va xs) (hb : Rd .u8 w vb ys) (hx : Byt xs) (hy : Byt ys) :
    Calls Try.prog 55 #[va, vb] w fun e w' => e = .returned (.bool (decide (xs = ys))) ∧ w' = w := by
  have h1 := conv_any ha
  have h2 := conv_any hb
  have HS : Hid (((strOfNums xs).toList == (strOfNums ys).toList) = decide (xs = ys)) := same_iff hx hy
  clear ha hb
  go_enter Try.func55, Try.ntmps55
  go_wp2
  go_ret
  exact ⟨ret_bool HS.out, rfl⟩

set_option maxHeartbeats 400000 in
theorem bytesEqual_any (w : World) (va vb : Value) (xs ys : List Int) (ha : Rd .u8 w va xs) (hb : Rd .u8 w vb ys) (hx : Byt xs) (hy : Byt ys) :
    Calls Try.prog 57 #[va, vb] w fun e w' => e = .returned (.bool (decide (xs = ys))) ∧ w' = w := by
  have h1 := conv_any ha
  have h2 := conv_any hb
  have HS : Hid (((strOfNums xs).toList == (strOfNums ys).toList) = decide (xs = ys)) := same_iff hx hy
  clear ha hb
  go_enter Try.func57, Try.ntmps57
  go_wp2
  go_ret
  exact ⟨ret_bool HS.out, rfl⟩

end Go.Proofs.Ytahapnlnnlcbkaa
