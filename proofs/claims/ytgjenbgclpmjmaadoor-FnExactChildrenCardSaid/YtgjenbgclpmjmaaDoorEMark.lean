import Derived.Test.YtgjenbgclpmjmaaDoorEText
import Derived.Test.YtgjenbgclpmjmaaDoorTTo
namespace Go.Proofs.YtgjenbgclpmjmaaDoor
open Go.RowKit

def digsF : Nat → Nat → List UInt8 → List UInt8
  | 0, _, acc => acc
  | f + 1, k, acc => if k = 0 then acc else digsF f (k / 10) (UInt8.ofNat (48 + k % 10) :: acc)
theorem digsF_more : ∀ (f g k : Nat) (acc : List UInt8), k ≤ f → k ≤ g → digsF f k acc = digsF g k acc
  | 0, g, k, acc, h1, h2 => by
    obtain rfl : k = 0 := by omega
    cases g <;> simp [digsF]
  | f + 1, 0, k, acc, h1, h2 => by
    obtain rfl : k = 0 := by omega
    simp [digsF]
  | f + 1, g + 1, k, acc, h1, h2 => by
    unfold digsF
    by_cases h : k = 0
    · rw [if_pos h, if_pos h]
    · rw [if_neg h, if_neg h]
      exact digsF_more f g (k / 10) _ (by omega) (by omega)
def digs (k : Nat) (acc : List UInt8) : List UInt8 := digsF k k acc
theorem digs_zero (acc : List UInt8) : digs 0 acc = acc := rfl
theorem digs_pos {k : Nat} (h : 0 < k) (acc : List UInt8) : digs k acc = digs (k / 10) (UInt8.ofNat (48 + k % 10) :: acc) := by
  unfold digs
  obtain ⟨j, rfl⟩ : ∃ j, k = j + 1 := ⟨k - 1, by omega⟩
  conv => lhs; unfold digsF
  rw [if_neg (by omega)]
  exact digsF_more _ _ _ _ (by omega) (Nat.le_refl _)
def mtx (k : Nat) : ByteArray := if k = 0 then ⟨#[109, 48]⟩ else ⟨(109 :: digs k []).toArray⟩

theorem ba_app (a b : List UInt8) : (⟨a.toArray⟩ ++ ⟨b.toArray⟩ : ByteArray) = ⟨(a ++ b).toArray⟩ := by
  apply ByteArray.ext
  simp [ByteArray.data_append]

set_option maxHeartbeats 1000000 in
set_option maxRecDepth 100000 in
theorem markText_any (w : World) (k : Nat) (h : k ≤ 1099511627776) :
    Calls Tryd.prog 85 #[.int .i64 k] w fun e w' => e = .returned (.string (mtx k)) ∧ Below w.heap.size w w' := by
  go_enter Tryd.func85, Tryd.ntmps85
  by_cases h0 : k = 0
  · subst h0
    go_wp2
    go_ret
    exact ⟨rfl, Below.refl _ _⟩
  · have hI : ¬ (k : Int) ≤ 0 := by omega
    go_wp2
    go_loopw [0, 3] (fun vk vo wr => ∃ (j d : Nat) (acc : List UInt8), vk = .int .i64 j ∧ vo = .string ⟨acc.toArray⟩ ∧ j < 10 ^ d ∧ acc.length + d ≤ 13 ∧ j ≤ 1099511627776 ∧ Hid (digs j acc = digs k []) ∧ Hid (Below w.heap.size w wr)) (fun i _ _ => (intOf i).toNat)
    case atStart => exact ⟨k, 13, [], rfl, rfl, by omega, by simp, h, rfl, Below.refl _ _⟩
    case round =>
      obtain ⟨j, d, acc, rfl, rfl, hjd, had, hj, HD, HB⟩ := hrel
      by_cases hp : 0 < j
      · have hpI : (0 : Int) < (j : Int) := by omega
        obtain ⟨u, hu⟩ : ∃ u, u = UInt8.ofNat (48 + j % 10) := ⟨_, rfl⟩
        have HD2 : Hid (digs (j / 10) (u :: acc) = digs k []) := by show _ = _; rw [hu, ← digs_pos hp]; exact HD.out
        have hcv : (convert 45 9 (.slice (some ⟨wr.heap.size, 0, none⟩) 1 1)).run Tryd.prog (wr.alloc (.cells #[.int .u8 (48 + (j : Int) % 10)] 5)) = .ok (.string ⟨[u].toArray⟩) (wr.alloc (.cells #[.int .u8 (48 + (j : Int) % 10)] 5)) := by
          have O1 : Own .u8 5 (wr.alloc (.cells #[.int .u8 (48 + (j : Int) % 10)] 5)) wr.heap.size (.slice (some ⟨wr.heap.size, 0, none⟩) 1 1) [48 + (j : Int) % 10] := World.ownsRow_lit wr #[.int .u8 (48 + (j : Int) % 10)] 1 (Nat.le_refl _) (by unfold maxLen; omega) rfl
          have := conv_any O1.rd
          rw [this]
          have e : (48 + (j : Int) % 10).toNat = 48 + j % 10 := by omega
          rw [hu]
          simp only [strOfNums, List.map_cons, List.map_nil, e]
        clear hu
        obtain ⟨d', rfl⟩ : ∃ d', d = d' + 1 := by
          cases d with
          | zero => simp at hjd; omega
          | succ d' => exact ⟨d', rfl⟩
        rw [Nat.pow_succ] at hjd
        have HJ : Hid (j / 10 < 10 ^ d') := by show _ < _; omega
        clear hjd
        go_wp2
        refine ⟨⟨j / 10, d', u :: acc, by rw [show ((j / 10 : Nat) : Int) = (j : Int) / 10 by omega], congrArg Value.string (ba_app [u] acc), HJ.out, by simp; omega, by omega, HD2, HB.out.alloc HB.out.size _⟩, ?_⟩
        simp [intOf]
        omega
      · have hj0 : j = 0 := by omega
        subst hj0
        clear hI
        go_wp2
        go_ret
        refine ⟨?_, HB.out⟩
        have e := HD.out
        rw [digs_zero] at e
        rw [e, mtx, if_neg h0]
        exact congrArg (fun x => Ending.returned (.string x)) (ba_app [109] (digs k []))

end Go.Proofs.YtgjenbgclpmjmaaDoor
