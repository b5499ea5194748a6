import Derived.Test.YtdiingonnddkcaaGreatDoorJ05
import Derived.Test.YtdiingonnddkcaaGreatDoorJ04
namespace Go.Proofs.YtdiingonnddkcaaGreatDoor
open Go.RowKit

/-- A box of one cell that may be written. -/
def B1 (W : World) (k : Nat) (v : Value) : Prop := k < W.heap.size ∧ W.cell? ⟨k, 0, none⟩ = some v ∧ W.frozen? ⟨k, 0, none⟩ = false
theorem nrow_one (ns : List Nd) (n : Nd) : nrow (ns ++ [n]) = nrow ns ++ ndL n := by rw [nrow_append]; simp [nrow]
theorem ndL_cells (w : World) (n : Nd) (t : TypeId) : ∀ j u, (ndL n)[j]? = some u → (w.alloc (.cells #[.string n.path, .string n.data, .int .i64 n.ver, .int .i64 n.cver, .int .i64 n.cz, .int .i64 n.mz, .int .i64 n.pz] t)).cell? ((⟨w.heap.size, 0, none⟩ : Addr).add j) = some u := by
  intro j u hj
  rw [Addr.add_lit, Nat.zero_add, cell_of (heap_alloc_new w _) j, ← hj]
  simp [ndL]
theorem ndL_one (n : Nd) : ∀ u ∈ ndL n, u.oneCell' = true := by
  intro u hu
  simp only [ndL, List.mem_cons, List.mem_nil_iff, or_false] at hu
  rcases hu with rfl | rfl | rfl | rfl | rfl | rfl | rfl <;> rfl
end Go.Proofs.YtdiingonnddkcaaGreatDoor
namespace Go.Proofs.YtdiingonnddkcaaGreatDoor
open Go.RowKit Go.Shelf

/-- The nodes without a path. -/
def woN (ns : List Nd) (p : ByteArray) : List Nd := ns.filter fun n => !(n.path.toList == p.toList)
theorem woN_yes (ns : List Nd) (p : ByteArray) (k : Nat) (h : k < ns.length) (hc : ((nAt ns k).path.toList == p.toList) = true) : woN (ns.take (k + 1)) p = woN (ns.take k) p := by
  unfold woN
  rw [List.take_succ_eq_append_getElem h, List.filter_append, ← nAt_get h]
  simp [hc]
theorem woN_no (ns : List Nd) (p : ByteArray) (k : Nat) (h : k < ns.length) (hc : ((nAt ns k).path.toList == p.toList) = false) : woN (ns.take (k + 1)) p = woN (ns.take k) p ++ [nAt ns k] := by
  unfold woN
  rw [List.take_succ_eq_append_getElem h, List.filter_append, ← nAt_get h]
  simp [hc]
theorem woN_len (ns : List Nd) (p : ByteArray) : (woN ns p).length ≤ ns.length := List.length_filter_le _ _

set_option maxHeartbeats 1000000 in
set_option maxRecDepth 100000 in
theorem without_any (w : World) (v : Value) (ns : List Nd) (p : ByteArray) (h : RdN w v ns) (hn : ns.length ≤ 1000000) :
    Calls Tryz.prog 37 #[v, .string p] w fun e w' => ∃ v', e = .returned v' ∧ OwnN 42 w' w.heap.size v' (woN ns p) ∧ Below w.heap.size w w' := by
  obtain ⟨i0, hi, hz0, hz1, hz2⟩ := info_parts Tryz.infoN
  obtain ⟨ao, ca, rfl, _, _⟩ := h.len
  have HR := hd9 h
  have O0 : Hid (OwnN 42 (w.alloc (.cells #[] 42)) w.heap.size (.slice (some ⟨w.heap.size, 0, none⟩) 0 0) (woN (ns.take 0) p)) := World.ownsRow_lit w #[] 0 (Nat.le_refl _) (Nat.zero_le _) rfl
  have B0 : Hid (Below w.heap.size w (w.alloc (.cells #[] 42))) := (Below.refl _ _).alloc (Nat.le_refl _) _
  generalize hnn : ns.length = n at *
  have HP := hd9 hnn
  clear h hnn
  go_enter Tryz.func37, Tryz.ntmps37
  go_wp2
  go_loopw [5, 6] (fun vo vk wr => ∃ k : Nat, k ≤ n ∧ vk = .int .i64 k ∧ Hid (OwnN 42 wr w.heap.size vo (woN (ns.take k) p)) ∧ Hid (Below w.heap.size w wr)) (fun _ i _ => n - (intOf i).toNat)
  case atStart => exact ⟨0, Nat.zero_le _, rfl, O0, B0⟩
  case round =>
    obtain ⟨k, hk, rfl, HW, HB⟩ := hrel
    have sB := HB.out.size
    by_cases hlt : k < n
    · have hltI : (k : Int) < (n : Int) := by omega
      obtain ⟨b, o, hao, hb, hc⟩ : ∃ b o, ao = some ⟨b, o, none⟩ ∧ b < w.heap.size ∧ CellsN w b (o + k * 7) (nAt ns k) := by
        obtain ⟨ao', cap', e', -, -, h3⟩ := HR.out
        simp only [Value.slice.injEq] at e'
        obtain ⟨rfl, -, -⟩ := e'
        rcases h3 with h3 | ⟨b, o, rfl, hb, hc⟩
        · have := HP.out; rw [h3] at this; simp at this; omega
        · exact ⟨b, o, rfl, hb, hc k (by rw [HP.out]; exact hlt)⟩
      subst hao
      obtain ⟨c0, c1, c2, c3, c4, c5, c6⟩ := hc.below HB.out hb
      clear hc
      have hll : (woN (ns.take k) p).length ≤ 1000000 := by
        have := woN_len (ns.take k) p
        rw [List.length_take] at this
        omega
      cases hA : ((nAt ns k).path.toList == p.toList) with
      | true =>
        have HS := hd9 (woN_yes ns p k (by rw [HP.out]; exact hlt) hA)
        go_wp2
        exact ⟨⟨k + 1, by omega, by go_num, (by rw [HS.out]; exact HW), HB⟩, by simp [intOf]; omega⟩
      | false =>
        have HS := hd9 (woN_no ns p k (by rw [HP.out]; exact hlt) hA)
        generalize woN (ns.take k) p = Lk at *
        generalize nAt ns k = m at *
        have OR : Hid (wr.ownsRow w.heap.size 42 7 u5 Lk.length (nrow Lk)) := HW.out
        go_wp2_with (at_builtin; go_must (refine wpList_append_own _ rfl _ _ 23 rfl w.heap.size 42 i0 (.agg #[.string ByteArray.empty, .string ByteArray.empty, .int .i64 0, .int .i64 0, .int .i64 0, .int .i64 0, .int .i64 0]) 7 72 Tryz.underlying23 hi hz0 hz1 hz2 rfl (by decide) _ _ _ rfl (OR.out.alloc _) ⟨wr.heap.size, 0, none⟩ 1 1 (ndL m) rfl rfl (ndL_cells wr m _) (ndL_one m) ?_ ?_ ?_ ?_))
        · unfold maxLen; omega
        · omega
        · simp; omega
        intro v5 w5 ho5 hg5 _
        have O5 : Hid (OwnN 42 w5 w.heap.size v5 (woN (ns.take (k + 1)) p)) := by
          rw [HS.out]
          unfold OwnN
          rw [List.length_append, nrow_one]
          exact ho5
        have B5 := hd9 ((HB.out.alloc sB _).grown hg5 (by simp; omega) (fun q hq => (World.ownsRow.lt OR.out q hq).1))
        clear ho5 hg5 OR HW HB HS c0 c1 c2 c3 c4 c5 c6
        go_wp2
        exact ⟨⟨k + 1, by omega, by go_num, O5, B5⟩, by simp [intOf]; omega⟩
    · have hkn : k = n := by omega
      subst hkn
      go_wp2
      go_ret
      refine ⟨_, rfl, ?_, HB.out⟩
      have := HW.out
      rw [List.take_of_length_le (by rw [HP.out]; exact Nat.le_refl _)] at this
      exact this

end Go.Proofs.YtdiingonnddkcaaGreatDoor


