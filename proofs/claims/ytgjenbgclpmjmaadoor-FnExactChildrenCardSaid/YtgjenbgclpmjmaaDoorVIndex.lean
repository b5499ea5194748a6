import Derived.Test.YtgjenbgclpmjmaaDoorVSpec
import Derived.Lib.Bytealg
import Derived.Laws.Externs
import Derived.Lib.IndexLaws
namespace Go.Proofs.YtgjenbgclpmjmaaDoor
open Go.RowKit

set_option maxHeartbeats 1000000 in
set_option maxRecDepth 100000 in
theorem idxByte_any (w : World) (s : ByteArray) (c : Int) :
    Calls Tryd.prog 129 #[.string s, .int .u8 c] w fun e w' => e = .returned (.int .i64 (Lib.indexByte s.data.toList c.toNat.toUInt8)) ∧ w' = w := by
  go_enter Tryd.func129, Tryd.ntmps129
  go_wp2
  rw [run_callFunc_extern Tryd.func133 (by kernel_rfl) (by kernel_rfl) (by kernel_rfl) (e := Extern.BytealgIndexByte.indexByte) (by kernel_rfl), Lib.run_indexByteString]
  simp only [Result.andThen]
  rw [Oper.upon_value]
  go_wp2
  go_ret
  exact ⟨rfl, rfl⟩

/-- The text of one slash. -/
def slash : ByteArray := ⟨#[47]⟩

set_option maxHeartbeats 1000000 in
set_option maxRecDepth 100000 in
theorem idxLite_any (w : World) (s : ByteArray) :
    Calls Tryd.prog 127 #[.string s, .string ⟨#[47]⟩] w fun e w' => e = .returned (.int .i64 (Lib.indexByte s.data.toList 47)) ∧ w' = w := by
  by_cases he : s.data.toList = [47]
  · have hb : ([47] == s.toList) = true := by rw [ByteArray.toList_eq, he]; rfl
    have HX : Hid (Lib.indexByte s.data.toList 47 = 0) := by show _ = _; rw [he]; rfl
    clear he
    go_enter Tryd.func127, Tryd.ntmps127
    go_wp2
    go_ret
    exact ⟨by rw [HX.out]; rfl, rfl⟩
  · have hb : ([47] == s.toList) = false := by rw [ByteArray.toList_eq, beq_eq_false_iff_ne]; exact fun h => he h.symm
    clear he
    go_enter Tryd.func127, Tryd.ntmps127
    go_wp2_with fail
    refine (idxByte_any w s 47).mono ?_
    rintro e w2 ⟨rfl, rfl⟩
    go_wp2
    go_ret
    exact ⟨rfl, rfl⟩

set_option maxHeartbeats 1000000 in
set_option maxRecDepth 100000 in
theorem idx_any (w : World) (s : ByteArray) :
    Calls Tryd.prog 123 #[.string s, .string ⟨#[47]⟩] w fun e w' => e = .returned (.int .i64 (Lib.indexByte s.data.toList 47)) ∧ w' = w := by
  go_enter Tryd.func123, Tryd.ntmps123
  go_wp2_with fail
  refine (idxLite_any w s).mono ?_
  rintro e w2 ⟨rfl, rfl⟩
  go_wp2
  go_ret
  exact ⟨rfl, rfl⟩

end Go.Proofs.YtgjenbgclpmjmaaDoor
