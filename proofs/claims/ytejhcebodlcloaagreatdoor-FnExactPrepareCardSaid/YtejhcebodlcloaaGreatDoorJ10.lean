import Derived.Test.YtejhcebodlcloaaGreatDoorJ09
import Derived.Test.YtejhcebodlcloaaGreatDoorJ07
import Derived.Lib.Bytealg
import Derived.Laws.Externs
import Derived.Test.YtejhcebodlcloaaGreatDoorJ05
import Derived.Defers
import Derived.Recover
namespace Go.Proofs.YtejhcebodlcloaaGreatDoor
open Go.RowKit Go.Shelf

theorem cmp_lt : ∀ a b : List UInt8, (Lib.compareBytes a b < 0) ↔ Op.bytesLess a b = true
  | [], [] => by simp [Lib.compareBytes, Op.bytesLess]
  | [], _ :: _ => by simp [Lib.compareBytes, Op.bytesLess]
  | _ :: _, [] => by simp [Lib.compareBytes, Op.bytesLess]
  | a :: l, b :: m => by
    unfold Lib.compareBytes Op.bytesLess
    by_cases h1 : a < b
    · simp [h1]
    · by_cases h2 : b < a
      · have h3 : ¬ a = b := fun e => by subst e; exact absurd h2 h1
        simp [h1, h2, h3]
      · have h3 := UInt8.le_antisymm (UInt8.not_lt.1 h2) (UInt8.not_lt.1 h1)
        subst h3
        simp [h1, cmp_lt l m]
theorem cmp_eq0 : ∀ a b : List UInt8, (Lib.compareBytes a b = 0) ↔ a = b
  | [], [] => by simp [Lib.compareBytes]
  | [], _ :: _ => by simp [Lib.compareBytes]
  | _ :: _, [] => by simp [Lib.compareBytes]
  | a :: l, b :: m => by
    unfold Lib.compareBytes
    by_cases h1 : a < b
    · have h3 : ¬ a = b := fun e => by subst e; exact absurd h1 (UInt8.lt_irrefl _)
      simp [h1, h3]
    · by_cases h2 : b < a
      · have h3 : ¬ a = b := fun e => by subst e; exact absurd h2 h1
        simp [h1, h2, h3]
      · have h3 := UInt8.le_antisymm (UInt8.not_lt.1 h2) (UInt8.not_lt.1 h1)
        subst h3
        simp [h1, cmp_eq0 l m]
/-- How two texts stand to one another. -/
def cmpP (a b : ByteArray) : Int := Lib.compareBytes a.data.toList b.data.toList

set_option maxHeartbeats 400000 in
set_option maxRecDepth 100000 in
theorem cmpStr_any (w : World) (a b : ByteArray) :
    Calls Tryz.prog 111 #[.string a, .string b] w fun e w' => e = .returned (.int .i64 (cmpP a b)) ∧ w' = w := by
  go_enter Tryz.func111, Tryz.ntmps111
  go_wp2
  rw [run_callFunc_extern Tryz.func122 (by kernel_rfl) (by kernel_rfl) (by kernel_rfl) (e := Extern.BytealgCompare.compare) (by kernel_rfl), Lib.run_compareString]
  simp only [Result.andThen]
  rw [Oper.upon_value]
  go_wp2
  go_ret
  exact ⟨rfl, rfl⟩

set_option maxHeartbeats 400000 in
theorem compare_any (w : World) (a b : ByteArray) :
    Calls Tryz.prog 101 #[.string a, .string b] w fun e w' => e = .returned (.int .i64 (cmpP a b)) ∧ w' = w := by
  go_enter Tryz.func101, Tryz.ntmps101
  go_wp2_with fail
  refine (cmpStr_any w a b).mono ?_
  rintro e w1 ⟨rfl, rfl⟩
  go_wp2
  go_ret
  exact ⟨rfl, rfl⟩

set_option maxHeartbeats 400000 in
theorem find1_any (w : World) (n : Nd) (p : ByteArray) :
    Calls Tryz.prog 100 #[.agg #[.string n.path, .string n.data, .int .i64 n.ver, .int .i64 n.cver, .int .i64 n.cz, .int .i64 n.mz, .int .i64 n.pz], .string p] w fun e w' => e = .returned (.int .i64 (cmpP n.path p)) ∧ Below w.heap.size w w' := by
  have B0 : Hid (Below w.heap.size w (w.alloc (.cells #[.string n.path, .string n.data, .int .i64 n.ver, .int .i64 n.cver, .int .i64 n.cz, .int .i64 n.mz, .int .i64 n.pz] 70))) := (Below.refl _ _).alloc (Nat.le_refl _) _
  go_enter Tryz.func100, Tryz.ntmps100
  go_wp2_with fail
  generalize w.alloc (.cells #[.string n.path, .string n.data, .int .i64 n.ver, .int .i64 n.cver, .int .i64 n.cz, .int .i64 n.mz, .int .i64 n.pz] 70) = w0 at *
  refine (compare_any w0 n.path p).mono ?_
  rintro e w1 ⟨rfl, hw⟩
  obtain rfl : w0 = w1 := hw.symm
  go_wp2
  go_ret
  exact ⟨rfl, B0.out⟩


/-- The place of a path in a row in order. -/
def Low (ns : List Nd) (p : ByteArray) (L : Nat) : Prop := L ≤ ns.length ∧ (∀ i, i < L → cmpP (nAt ns i).path p < 0) ∧ ∀ i, L ≤ i → i < ns.length → ¬ cmpP (nAt ns i).path p < 0
def fnd (ns : List Nd) (p : ByteArray) (L : Nat) : Bool := decide (L < ns.length) && (cmpP (nAt ns L).path p == 0)

set_option maxHeartbeats 1000000 in
set_option maxRecDepth 100000 in
theorem bs_row (w : World) (b o n cap L : Nat) (ns : List Nd) (p : ByteArray) (hp : ns.length = n) (hn : n ≤ 1000) (hb : b < w.heap.size) (hc : ∀ i, i < n → CellsN w b (o + i * 7) (nAt ns i)) (hL : Low ns p L) :
    Calls Tryz.prog 99 #[.slice (some ⟨b, o, none⟩) n cap, .string p, .func (.func 100) #[] #[]] w fun e w' => e = .returned (.tuple #[.int .i64 (L : Int), .bool (fnd ns p L)]) ∧ Below w.heap.size w w' := by
  obtain ⟨l1, l2, l3⟩ := hL
  have HC := hd9 hc
  have HP := hd9 hp
  have H2 := hd9 l2
  have H3 := hd9 l3
  rw [hp] at l1
  clear hc hp l2 l3
  go_enter Tryz.func99, Tryz.ntmps99
  go_wp2
  go_loopw [9, 10] (fun vi vj wr => ∃ i j : Nat, i ≤ L ∧ L ≤ j ∧ j ≤ n ∧ vi = .int .i64 i ∧ vj = .int .i64 j ∧ Hid (Below w.heap.size w wr)) (fun i j _ => (intOf j - intOf i).toNat)
  case atStart => exact ⟨0, n, Nat.zero_le _, l1, Nat.le_refl _, rfl, rfl, Below.refl _ _⟩
  case round =>
    obtain ⟨i, j, hi, hj, hjn, rfl, rfl, HB⟩ := hrel
    by_cases hlt : i < j
    · have hltI : (i : Int) < (j : Int) := by omega
      obtain ⟨h, hh⟩ : ∃ h : Nat, h = (i + j) / 2 := ⟨_, rfl⟩
      have hI : ((i : Int) + (j : Int)) / 2 = (h : Int) := by omega
      have h1 : i ≤ h := by omega
      have h2 : h < j := by omega
      have h3 : h < n := by omega
      clear hh
      obtain ⟨c0, c1, c2, c3, c4, c5, c6⟩ := (HC.out h h3).below HB.out hb
      go_wp2_with fail
      refine (find1_any wr (nAt ns h) p).mono ?_
      rintro e w1 ⟨rfl, b1⟩
      have B1 := hd9 (HB.out.trans (b1.mono HB.out.size))
      clear b1 c0 c1 c2 c3 c4 c5 c6 HB
      by_cases hc : cmpP (nAt ns h).path p < 0
      · have hhL : h < L := by
          by_cases hh : h < L
          · exact hh
          · exact absurd hc (by have := H3.out h (by omega) (by rw [HP.out]; exact h3); omega)
        go_wp2
        exact ⟨⟨h + 1, j, by omega, hj, hjn, by go_num, rfl, B1⟩, by simp [intOf]; omega⟩
      · have hhL : L ≤ h := by
          by_cases hh : h < L
          · exact absurd (H2.out h hh) hc
          · omega
        go_wp2
        exact ⟨⟨i, h, hi, hhL, by omega, rfl, by go_num, B1⟩, by simp [intOf]; omega⟩
    · have hiL : i = L := by omega
      subst hiL
      have hnI : ¬ (i : Int) < (j : Int) := by omega
      by_cases hLn : i < n
      · have hLI : (i : Int) < (n : Int) := by omega
        have HF : Hid (fnd ns p i = (cmpP (nAt ns i).path p == 0)) := by show _ = _; unfold fnd; rw [HP.out, decide_eq_true hLn]; rfl
        obtain ⟨c0, c1, c2, c3, c4, c5, c6⟩ := (HC.out i hLn).below HB.out hb
        go_wp2_with fail
        refine (find1_any wr (nAt ns i) p).mono ?_
        rintro e w1 ⟨rfl, b1⟩
        have B1 := hd9 (HB.out.trans (b1.mono HB.out.size))
        clear b1 c0 c1 c2 c3 c4 c5 c6 HB
        go_wp2
        refine bodyPost_ret (v := .tuple #[.int .i64 (i : Int), .bool (cmpP (nAt ns i).path p == 0)]) (by simp [results, Tryz.results99, go_sem]) rfl ⟨by rw [HF.out], B1.out⟩
      · have hLI : ¬ (i : Int) < (n : Int) := by omega
        have HF : Hid (fnd ns p i = false) := by show _ = _; unfold fnd; rw [HP.out, decide_eq_false hLn]; rfl
        go_wp2
        refine bodyPost_ret (v := .tuple #[.int .i64 (i : Int), .bool false]) (by simp [results, Tryz.results99, go_sem]) rfl ⟨by rw [HF.out], HB.out⟩

set_option maxHeartbeats 400000 in
theorem bs_nil (w : World) (ao : Option Addr) (cap : Nat) (p : ByteArray) :
    Calls Tryz.prog 99 #[.slice ao 0 cap, .string p, .func (.func 100) #[] #[]] w fun e w' => e = .returned (.tuple #[.int .i64 0, .bool false]) ∧ w' = w := by
  go_enter Tryz.func99, Tryz.ntmps99
  go_wp2
  go_rounds 1
  refine bodyPost_ret (v := .tuple #[.int .i64 0, .bool false]) (by simp [results, Tryz.results99, go_sem]) rfl ⟨rfl, rfl⟩

set_option maxHeartbeats 400000 in
theorem findNode_any (w : World) (v : Value) (ns : List Nd) (p : ByteArray) (L : Nat) (h : RdN w v ns) (hn : ns.length ≤ 1000) (hL : Low ns p L) :
    Calls Tryz.prog 86 #[v, .string p] w fun e w' => e = .returned (.tuple #[.int .i64 (L : Int), .bool (fnd ns p L)]) ∧ Below w.heap.size w w' := by
  have H : Hid (Calls Tryz.prog 99 #[v, .string p, .func (.func 100) #[] #[]] w fun e w' => e = .returned (.tuple #[.int .i64 (L : Int), .bool (fnd ns p L)]) ∧ Below w.heap.size w w') := by
    obtain ⟨ao, cap, rfl, h1, h2, h3⟩ := h
    rcases h3 with rfl | ⟨b, o, rfl, hb, hc⟩
    · have hL0 : L = 0 := by have := hL.1; simpa using this
      subst hL0
      refine (bs_nil w ao cap p).mono ?_
      rintro e w' ⟨rfl, rfl⟩
      exact ⟨rfl, Below.refl _ _⟩
    · exact bs_row w b o ns.length cap L ns p rfl hn hb hc hL
  clear h hL
  go_enter Tryz.func86, Tryz.ntmps86
  go_wp2_with fail
  refine H.out.mono ?_
  rintro e w1 ⟨rfl, b1⟩
  have B1 := hd9 b1
  clear b1 H
  go_wp2
  refine bodyPost_ret (v := .tuple #[.int .i64 (L : Int), .bool (fnd ns p L)]) (by simp [results, Tryz.results86, go_sem]) rfl ⟨rfl, B1.out⟩

end Go.Proofs.YtejhcebodlcloaaGreatDoor
namespace Go.Proofs.YtejhcebodlcloaaGreatDoor
open Go.RowKit

/-! ### what a superblock's bytes say -/













/-- The cells of a box of another type are kept. -/
theorem KT.box {e t : TypeId} {w w' : World} {b : Nat} {A : Array Value} {f : Nat × Nat} (h : KT e w w') (hb : w.heap[b]? = some (.cells A t f)) (ht : t ≠ e) : w'.heap[b]? = some (.cells A t f) := by
  have hlt := (Array.getElem?_eq_some_iff.1 hb).1
  rw [h.2 b hlt (by rw [hb]; rintro ⟨cur, h⟩; injection h with h; injection h with _ h2; exact ht h2), hb]
theorem cell_of {w : World} {b : Nat} {A : Array Value} {t : TypeId} {f : Nat × Nat} (h : w.heap[b]? = some (.cells A t f)) (q : Nat) : w.cell? ⟨b, q, none⟩ = A[q]? := by simp [World.cell?, h]








/-- A box of one cell that may be written. -/
def B1 (W : World) (k : Nat) (v : Value) : Prop := k < W.heap.size ∧ W.cell? ⟨k, 0, none⟩ = some v ∧ W.frozen? ⟨k, 0, none⟩ = false
theorem nrow_one (ns : List Nd) (n : Nd) : nrow (ns ++ [n]) = nrow ns ++ ndL n := by rw [nrow_append]; simp [nrow]
theorem ndL_cells (w : World) (n : Nd) (t : TypeId) : ∀ j u, (ndL n)[j]? = some u → (w.alloc (.cells #[.string n.path, .string n.data, .int .i64 n.ver, .int .i64 n.cver, .int .i64 n.cz, .int .i64 n.mz, .int .i64 n.pz] t)).cell? ((⟨w.heap.size, 0, none⟩ : Addr).add j) = some u := by
  intro j u hj
  rw [Addr.add_lit, Nat.zero_add, cell_of (heap_alloc_new w _) j, ← hj]
  simp [ndL]
theorem ndL_one (n : Nd) : ∀ u ∈ ndL n, u.oneCell' = true := by
  intro u hu
  simp only [ndL, List.mem_cons, List.mem_nil_iff, or_false] at hu
  rcases hu with rfl | rfl | rfl | rfl | rfl | rfl | rfl <;> rfl

end Go.Proofs.YtejhcebodlcloaaGreatDoor
namespace Go.Proofs.YtejhcebodlcloaaGreatDoor
open Go.RowKit Go.Shelf

/-- The nodes without a path. -/
def woN (ns : List Nd) (p : ByteArray) : List Nd := ns.filter fun n => !(n.path.toList == p.toList)
theorem woN_yes (ns : List Nd) (p : ByteArray) (k : Nat) (h : k < ns.length) (hc : ((nAt ns k).path.toList == p.toList) = true) : woN (ns.take (k + 1)) p = woN (ns.take k) p := by
  unfold woN
  rw [List.take_succ_eq_append_getElem h, List.filter_append, ← nAt_get h]
  simp [hc]
theorem woN_no (ns : List Nd) (p : ByteArray) (k : Nat) (h : k < ns.length) (hc : ((nAt ns k).path.toList == p.toList) = false) : woN (ns.take (k + 1)) p = woN (ns.take k) p ++ [nAt ns k] := by
  unfold woN
  rw [List.take_succ_eq_append_getElem h, List.filter_append, ← nAt_get h]
  simp [hc]
theorem woN_len (ns : List Nd) (p : ByteArray) : (woN ns p).length ≤ ns.length := List.length_filter_le _ _

set_option maxHeartbeats 1000000 in
set_option maxRecDepth 100000 in
theorem without_any (w : World) (v : Value) (ns : List Nd) (p : ByteArray) (h : RdN w v ns) (hn : ns.length ≤ 1000000) :
    Calls Tryz.prog 51 #[v, .string p] w fun e w' => ∃ v', e = .returned v' ∧ OwnN 70 w' w.heap.size v' (woN ns p) ∧ Below w.heap.size w w' := by
  obtain ⟨i0, hi, hz0, hz1, hz2⟩ := info_parts Tryz.infoN
  obtain ⟨ao, ca, rfl, _, _⟩ := h.len
  have HR := hd9 h
  have O0 : Hid (OwnN 70 (w.alloc (.cells #[] 70)) w.heap.size (.slice (some ⟨w.heap.size, 0, none⟩) 0 0) (woN (ns.take 0) p)) := World.ownsRow_lit w #[] 0 (Nat.le_refl _) (Nat.zero_le _) rfl
  have B0 : Hid (Below w.heap.size w (w.alloc (.cells #[] 70))) := (Below.refl _ _).alloc (Nat.le_refl _) _
  generalize hnn : ns.length = n at *
  have HP := hd9 hnn
  clear h hnn
  go_enter Tryz.func51, Tryz.ntmps51
  go_wp2
  go_loopw [5, 6] (fun vo vk wr => ∃ k : Nat, k ≤ n ∧ vk = .int .i64 k ∧ Hid (OwnN 70 wr w.heap.size vo (woN (ns.take k) p)) ∧ Hid (Below w.heap.size w wr)) (fun _ i _ => n - (intOf i).toNat)
  case atStart => exact ⟨0, Nat.zero_le _, rfl, O0, B0⟩
  case round =>
    obtain ⟨k, hk, rfl, HW, HB⟩ := hrel
    have sB := HB.out.size
    by_cases hlt : k < n
    · have hltI : (k : Int) < (n : Int) := by omega
      obtain ⟨b, o, hao, hb, hc⟩ : ∃ b o, ao = some ⟨b, o, none⟩ ∧ b < w.heap.size ∧ CellsN w b (o + k * 7) (nAt ns k) := by
        obtain ⟨ao', cap', e', -, -, h3⟩ := HR.out
        simp only [Value.slice.injEq] at e'
        obtain ⟨rfl, -, -⟩ := e'
        rcases h3 with h3 | ⟨b, o, rfl, hb, hc⟩
        · have := HP.out; rw [h3] at this; simp at this; omega
        · exact ⟨b, o, rfl, hb, hc k (by rw [HP.out]; exact hlt)⟩
      subst hao
      obtain ⟨c0, c1, c2, c3, c4, c5, c6⟩ := hc.below HB.out hb
      clear hc
      have hll : (woN (ns.take k) p).length ≤ 1000000 := by
        have := woN_len (ns.take k) p
        rw [List.length_take] at this
        omega
      cases hA : ((nAt ns k).path.toList == p.toList) with
      | true =>
        have HS := hd9 (woN_yes ns p k (by rw [HP.out]; exact hlt) hA)
        go_wp2
        exact ⟨⟨k + 1, by omega, by go_num, (by rw [HS.out]; exact HW), HB⟩, by simp [intOf]; omega⟩
      | false =>
        have HS := hd9 (woN_no ns p k (by rw [HP.out]; exact hlt) hA)
        generalize woN (ns.take k) p = Lk at *
        generalize nAt ns k = m at *
        have OR : Hid (wr.ownsRow w.heap.size 70 7 u5 Lk.length (nrow Lk)) := HW.out
        go_wp2_with (at_builtin; go_must (refine wpList_append_own _ rfl _ _ 37 rfl w.heap.size 70 i0 (.agg #[.string ByteArray.empty, .string ByteArray.empty, .int .i64 0, .int .i64 0, .int .i64 0, .int .i64 0, .int .i64 0]) 7 72 Tryz.underlying37 hi hz0 hz1 hz2 rfl (by decide) _ _ _ rfl (OR.out.alloc _) ⟨wr.heap.size, 0, none⟩ 1 1 (ndL m) rfl rfl (ndL_cells wr m _) (ndL_one m) ?_ ?_ ?_ ?_))
        · unfold maxLen; omega
        · omega
        · simp; omega
        intro v5 w5 ho5 hg5 _
        have O5 : Hid (OwnN 70 w5 w.heap.size v5 (woN (ns.take (k + 1)) p)) := by
          rw [HS.out]
          unfold OwnN
          rw [List.length_append, nrow_one]
          exact ho5
        have B5 := hd9 ((HB.out.alloc sB _).grown hg5 (by simp; omega) (fun q hq => (World.ownsRow.lt OR.out q hq).1))
        clear ho5 hg5 OR HW HB HS c0 c1 c2 c3 c4 c5 c6
        go_wp2
        exact ⟨⟨k + 1, by omega, by go_num, O5, B5⟩, by simp [intOf]; omega⟩
    · have hkn : k = n := by omega
      subst hkn
      go_wp2
      go_ret
      refine ⟨_, rfl, ?_, HB.out⟩
      have := HW.out
      rw [List.take_of_length_le (by rw [HP.out]; exact Nat.le_refl _)] at this
      exact this

end Go.Proofs.YtejhcebodlcloaaGreatDoor


