import Derived.Test.YtcopcegamadkgaaGreatDoorJ03
import Derived.Laws.Cover1
import Derived.Test.YtcopcegamadkgaaGreatDoorJ02
import Derived.Deep.QuietTactic
import Derived.Deep.RegionHeld3
set_option maxRecDepth 100000
set_option maxHeartbeats 16000000
namespace Go.Proofs.YtcopcegamadkgaaGreatDoor
open Go.RowKit Go.Shelf
def stW (n : Nd) (st : List Nd × Bool) (m : Nd) : List Nd × Bool :=
 let o := if !st.2 && !(Op.bytesLess m.path.toList n.path.toList) then (st.1 ++ [n], true) else st
 if m.path.toList == n.path.toList then o else (o.1 ++ [m], o.2)
def wiF (ns : List Nd) (n : Nd) : List Nd × Bool := ns.foldl (stW n) ([], false)
def wiN (ns : List Nd) (n : Nd) : List Nd := if (wiF ns n).2 then (wiF ns n).1 else (wiF ns n).1 ++ [n]
theorem wiF_succ (ns : List Nd) (n : Nd) (k : Nat) (h : k < ns.length) : wiF (ns.take (k + 1)) n = stW n (wiF (ns.take k) n) (nAt ns k) := by
 unfold wiF
 rw [List.take_succ_eq_append_getElem h, List.foldl_append, nAt_get h]
 rfl
theorem stW_len (n : Nd) (st : List Nd × Bool) (m : Nd) : (stW n st m).1.length ≤ st.1.length + 2 := by
 unfold stW
 simp only
 split <;> split <;> simp <;> omega
theorem wiF_len : ∀ (ns : List Nd) (n : Nd) (k : Nat), (wiF (ns.take k) n).1.length ≤ 2 * k
 | ns, n, 0 => by simp [wiF]
 | ns, n, k + 1 => by
  have h1 := wiF_len ns n k
  by_cases h : k < ns.length
  · rw [wiF_succ ns n k h]
    have := stW_len n (wiF (ns.take k) n) (nAt ns k)
    omega
  · rw [List.take_of_length_le (by omega)] at h1 ⊢
    omega
theorem BoxN.belowW {w w' : World} {B : Nat} {n : Nd} (h : BoxN w B n) (hb : Below (B + 1) w w') : BoxN w' B n :=
 ⟨Nat.lt_of_lt_of_le h.lt hb.size, (hb.cell (p := ⟨B, _, none⟩) (Nat.lt_succ_self _)).trans h.c0, (hb.cell (p := ⟨B, _, none⟩) (Nat.lt_succ_self _)).trans h.c1, (hb.cell (p := ⟨B, _, none⟩) (Nat.lt_succ_self _)).trans h.c2, (hb.cell (p := ⟨B, _, none⟩) (Nat.lt_succ_self _)).trans h.c3, (hb.cell (p := ⟨B, _, none⟩) (Nat.lt_succ_self _)).trans h.c4, (hb.cell (p := ⟨B, _, none⟩) (Nat.lt_succ_self _)).trans h.c5, (hb.cell (p := ⟨B, _, none⟩) (Nat.lt_succ_self _)).trans h.c6⟩
theorem with_any (w : World) (v : Value) (ns : List Nd) (n : Nd) (h : RdN w v ns) (hn : ns.length ≤ 100000) :
    Calls Tryz.prog 87 #[v, .agg #[.string n.path, .string n.data, .int .i64 n.ver, .int .i64 n.cver, .int .i64 n.cz, .int .i64 n.mz, .int .i64 n.pz]] w fun e w' => ∃ v', e = .returned v' ∧ OwnN 85 w' w.heap.size v' (wiN ns n) ∧ Below w.heap.size w w' := by
 obtain ⟨i0, hi, hz0, hz1, hz2⟩ := info_parts Tryz.infoN
 obtain ⟨ao, ca, rfl, _, _⟩ := h.len
 have HR : Hid (RdN w (.slice ao ns.length ca) ns) := h
 have X0 : Hid (BoxN ((w.alloc (.cells #[.string n.path, .string n.data, .int .i64 n.ver, .int .i64 n.cver, .int .i64 n.cz, .int .i64 n.mz, .int .i64 n.pz] 85)).alloc (.cells #[] 85)) w.heap.size n) := (BoxN.new w n _).below ((Below.refl _ _).alloc (Nat.le_refl _) _)
 have B0 : Hid (Below w.heap.size w ((w.alloc (.cells #[.string n.path, .string n.data, .int .i64 n.ver, .int .i64 n.cver, .int .i64 n.cz, .int .i64 n.mz, .int .i64 n.pz] 85)).alloc (.cells #[] 85))) := ((Below.refl _ _).alloc (Nat.le_refl _) _).alloc (by simp) _
 have O0 : Hid (OwnN 85 ((w.alloc (.cells #[.string n.path, .string n.data, .int .i64 n.ver, .int .i64 n.cver, .int .i64 n.cz, .int .i64 n.mz, .int .i64 n.pz] 85)).alloc (.cells #[] 85)) (w.heap.size + 1) (.slice (some ⟨w.heap.size + 1, 0, none⟩) 0 0) (wiF (ns.take 0) n).1) := by
  have := World.ownsRow_lit (base := w.heap.size + 1) (e := 85) (size := 7) (w.alloc (.cells #[.string n.path, .string n.data, .int .i64 n.ver, .int .i64 n.cver, .int .i64 n.cz, .int .i64 n.mz, .int .i64 n.pz] 85)) #[] 0 (by simp) (Nat.zero_le _) rfl
  rw [show (w.alloc (.cells #[.string n.path, .string n.data, .int .i64 n.ver, .int .i64 n.cver, .int .i64 n.cz, .int .i64 n.mz, .int .i64 n.pz] 85)).heap.size = w.heap.size + 1 by simp] at this
  exact this
 generalize hnn : ns.length = N at *
 have HP : Hid (ns.length = N) := hnn
 clear h hnn
 go_enter Tryz.func87, Tryz.ntmps87
 go_wp2
 generalize (w.alloc (.cells #[.string n.path, .string n.data, .int .i64 n.ver, .int .i64 n.cver, .int .i64 n.cz, .int .i64 n.mz, .int .i64 n.pz] 85)).alloc (.cells #[] 85) = w0 at *
 have D0 : Hid (Below (w.heap.size + 1) w0 w0) := Below.refl _ _
 have s0 : w.heap.size + 1 ≤ w0.heap.size := X0.out.lt
 go_loopw [5, 6, 7] (fun vo vd vk wr => ∃ k : Nat, k ≤ N ∧ vk = .int .i64 k ∧ vd = .bool (wiF (ns.take k) n).2 ∧ Hid (OwnN 85 wr (w.heap.size + 1) vo (wiF (ns.take k) n).1) ∧ Hid (Below (w.heap.size + 1) w0 wr)) (fun _ _ i _ => N - (intOf i).toNat)
 case atStart => exact ⟨0, Nat.zero_le _, rfl, rfl, O0, D0⟩
 case round =>
  obtain ⟨k, hk, rfl, rfl, HW, HD⟩ := hrel
  have sD : w.heap.size + 1 ≤ wr.heap.size := Nat.le_trans s0 HD.out.size
  have hll := wiF_len ns n k
  by_cases hlt : k < N
  · have hltI : (k : Int) < (N : Int) := by omega
    obtain ⟨b, o, hao, hb, hc⟩ : ∃ b o, ao = some ⟨b, o, none⟩ ∧ b < w.heap.size ∧ CellsN w b (o + k * 7) (nAt ns k) := by
     obtain ⟨ao', cap', e', -, -, h3⟩ := HR.out
     simp only [Value.slice.injEq] at e'
     obtain ⟨rfl, -, -⟩ := e'
     rcases h3 with h3 | ⟨b, o, rfl, hb, hc⟩
     · have := HP.out; rw [h3] at this; simp at this; omega
     · exact ⟨b, o, rfl, hb, hc k (by rw [HP.out]; exact hlt)⟩
    subst hao
    have HCk : Hid (CellsN w0 b (o + k * 7) (nAt ns k)) := hc.below B0.out hb
    have hb1 : b < w.heap.size + 1 := Nat.lt_succ_of_lt hb
    clear hc
    have HST : Hid (wiF (ns.take (k + 1)) n = stW n (wiF (ns.take k) n) (nAt ns k)) := wiF_succ ns n k (by rw [HP.out]; exact hlt)
    generalize hst : wiF (ns.take k) n = st at *
    clear hst
    generalize hm : nAt ns k = m at *
    clear hm
    obtain ⟨st1, st2⟩ := st
    simp only at hll HW
    cases st2 with
    | true =>
     go_wp2
     refine wp_region_held_drew (S := fun W => W.cell? ⟨b, o + k * 7, none⟩ = some (.string m.path) ∧ W.cell? ⟨w.heap.size, 0, none⟩ = some (.string n.path)) (by kernel_rfl) (⟨(HCk.out.below (HD.out.trans ((below_drewN' _ 1).mono (Nat.le_trans s0 HD.out.size))) hb1).c0, (X0.out.belowW (HD.out.trans ((below_drewN' _ 1).mono (Nat.le_trans s0 HD.out.size)))).c0⟩) (fun hHeld => ?_)
     refine tkL9 (i := 0) (oi := ⟨some 15, _, _, _, _, _⟩) (v := (.bool true)) rfl (by kernel_rfl) (fun _ _ _ h => h) (by rfl) (by assumption) ?hy1 ?_
     case hy1 => intro w9 hS9; obtain ⟨y0, y1⟩ := hS9; go_simp; try with_reducible rfl
     try simp only [Act.put, sT9, sZ9, sS9]
     refine tkL9 (i := 1) (oi := ⟨some 16, _, _, _, _, _⟩) (v := (.bool false)) rfl (by kernel_rfl) (fun _ _ _ h => h) (by rfl) (by assumption) ?hy2 ?_
     case hy2 => intro w9 hS9; obtain ⟨y0, y1⟩ := hS9; go_simp; try with_reducible rfl
     try simp only [Act.put, sT9, sZ9, sS9]
     refine tkL9 (i := 2) (oi := ⟨some 17, _, _, _, _, _⟩) (v := (.bool false)) rfl (by kernel_rfl) (fun _ _ _ h => h) (by rfl) (by assumption) ?hy3 ?_
     case hy3 => intro w9 hS9; obtain ⟨y0, y1⟩ := hS9; go_simp; try with_reducible rfl
     try simp only [Act.put, sT9, sZ9, sS9]
     refine tkR9 (i := 3) (oi := ⟨some 18, _, _, _, _, _⟩) rfl (by kernel_rfl) (fun _ _ _ h => h) (by rfl) (by assumption) ?_
     try simp only [Act.put, sT9, sZ9, sS9]
     refine tkR9 (i := 4) (oi := ⟨some 19, _, _, _, _, _⟩) rfl (by kernel_rfl) (fun _ _ _ h => h) (by rfl) (by assumption) ?_
     try simp only [Act.put, sT9, sZ9, sS9]
     refine tkR9 (i := 5) (oi := ⟨some 20, _, _, _, _, _⟩) rfl (by kernel_rfl) (fun _ _ _ h => h) (by rfl) (by assumption) ?_
     try simp only [Act.put, sT9, sZ9, sS9]
     refine tkR9 (i := 6) (oi := ⟨some 21, _, _, _, _, _⟩) rfl (by kernel_rfl) (fun _ _ _ h => h) (by rfl) (by assumption) ?_
     try simp only [Act.put, sT9, sZ9, sS9]
     refine tkR9 (i := 7) (oi := ⟨some 22, _, _, _, _, _⟩) rfl (by kernel_rfl) (fun _ _ _ h => h) (by rfl) (by assumption) ?_
     try simp only [Act.put, sT9, sZ9, sS9]
     refine tkR9 (i := 8) (oi := ⟨some 23, _, _, _, _, _⟩) rfl (by kernel_rfl) (fun _ _ _ h => h) (by rfl) (by assumption) ?_
     try simp only [Act.put, sT9, sZ9, sS9]
     refine tkR9 (i := 9) (oi := ⟨some 24, _, _, _, _, _⟩) rfl (by kernel_rfl) (fun _ _ _ h => h) (by rfl) (by assumption) ?_
     try simp only [Act.put, sT9, sZ9, sS9]
     refine tkR9 (i := 10) (oi := ⟨some 25, _, _, _, _, _⟩) rfl (by kernel_rfl) (fun _ _ _ h => h) (by rfl) (by assumption) ?_
     try simp only [Act.put, sT9, sZ9, sS9]
     refine tkL9 (i := 11) (oi := ⟨some 26, _, _, _, _, _⟩) (v := (.bool false)) rfl (by kernel_rfl) (fun _ _ _ h => h) (by rfl) (by assumption) ?hy4 ?_
     case hy4 => intro w9 hS9; obtain ⟨y0, y1⟩ := hS9; go_simp; try with_reducible rfl
     try simp only [Act.put, sT9, sZ9, sS9]
     refine wpAnyH_done (by kernel_rfl) ?_ _
     clear hHeld
     have Dw1 : Hid (Below (w.heap.size + 1) w0 wr.drew) := HD.out.trans ((below_drewN' wr 1).mono (Nat.le_trans s0 HD.out.size))
     have Ow1 : Hid (OwnN 85 wr.drew (w.heap.size + 1) u5 st1) := HW.out
     generalize wr.drew = w1 at *
     cases heq : (m.path.toList == n.path.toList) with
     | true =>
      have HS : Hid (stW n (st1, true) m = (st1, true)) := by show _ = _; unfold stW; simp [heq]
      go_wp2
      refine wp_region_held_drew (S := fun W => W.cell? ⟨b, o + k * 7, none⟩ = some (.string m.path) ∧ W.cell? ⟨w.heap.size, 0, none⟩ = some (.string n.path)) (by kernel_rfl) (⟨(HCk.out.below (Dw1.out.trans ((below_drewN' _ 1).mono (Nat.le_trans s0 Dw1.out.size))) hb1).c0, (X0.out.belowW (Dw1.out.trans ((below_drewN' _ 1).mono (Nat.le_trans s0 Dw1.out.size)))).c0⟩) (fun hHeld => ?_)
      refine tkL9 (i := 0) (oi := ⟨some 31, _, _, _, _, _⟩) (v := (.slice (some ⟨b, o, none⟩) N ca)) rfl (by kernel_rfl) (fun _ _ _ h => h) (by rfl) (by assumption) ?hy5 ?_
      case hy5 => intro w9 hS9; obtain ⟨y0, y1⟩ := hS9; go_simp; try with_reducible rfl
      try simp only [Act.put, sT9, sZ9, sS9]
      refine tkL9 (i := 1) (oi := ⟨some 32, _, _, _, _, _⟩) (v := (.int .i64 (k : Int))) rfl (by kernel_rfl) (fun _ _ _ h => h) (by rfl) (by assumption) ?hy6 ?_
      case hy6 => intro w9 hS9; obtain ⟨y0, y1⟩ := hS9; go_simp; try with_reducible rfl
      try simp only [Act.put, sT9, sZ9, sS9]
      refine tkL9 (i := 2) (oi := ⟨some 33, _, _, _, _, _⟩) (v := (.pointer (some ⟨b, o + k * 7, none⟩))) rfl (by kernel_rfl) (fun _ _ _ h => h) (by rfl) (by assumption) ?hy7 ?_
      case hy7 => intro w9 hS9; obtain ⟨y0, y1⟩ := hS9; go_simp; try with_reducible rfl
      try simp only [Act.put, sT9, sZ9, sS9]
      refine tkL9 (i := 3) (oi := ⟨some 34, _, _, _, _, _⟩) (v := (.pointer (some ⟨b, o + k * 7, none⟩))) rfl (by kernel_rfl) (fun _ _ _ h => h) (by rfl) (by assumption) ?hy8 ?_
      case hy8 => intro w9 hS9; obtain ⟨y0, y1⟩ := hS9; go_simp; try with_reducible rfl
      try simp only [Act.put, sT9, sZ9, sS9]
      refine tkL9 (i := 4) (oi := ⟨some 35, _, _, _, _, _⟩) (v := (.string m.path)) rfl (by kernel_rfl) (fun _ _ _ h => h) (by rfl) (by assumption) ?hy9 ?_
      case hy9 => intro w9 hS9; obtain ⟨y0, y1⟩ := hS9; go_simp; try with_reducible rfl
      try simp only [Act.put, sT9, sZ9, sS9]
      refine tkL9 (i := 5) (oi := ⟨some 36, _, _, _, _, _⟩) (v := (.pointer (some ⟨w.heap.size, 0, none⟩))) rfl (by kernel_rfl) (fun _ _ _ h => h) (by rfl) (by assumption) ?hy10 ?_
      case hy10 => intro w9 hS9; obtain ⟨y0, y1⟩ := hS9; go_simp; try with_reducible rfl
      try simp only [Act.put, sT9, sZ9, sS9]
      refine tkL9 (i := 6) (oi := ⟨some 37, _, _, _, _, _⟩) (v := (.string n.path)) rfl (by kernel_rfl) (fun _ _ _ h => h) (by rfl) (by assumption) ?hy11 ?_
      case hy11 => intro w9 hS9; obtain ⟨y0, y1⟩ := hS9; go_simp; try with_reducible rfl
      try simp only [Act.put, sT9, sZ9, sS9]
      refine tkL9 (i := 7) (oi := ⟨some 38, _, _, _, _, _⟩) (v := (.bool false)) rfl (by kernel_rfl) (fun _ _ _ h => h) (by rfl) (by assumption) ?hy12 ?_
      case hy12 => intro w9 hS9; obtain ⟨y0, y1⟩ := hS9; go_simp; try with_reducible rfl
      try simp only [Act.put, sT9, sZ9, sS9]
      refine wpAnyH_done (by kernel_rfl) ?_ _
      clear hHeld
      have Dwz : Hid (Below (w.heap.size + 1) w0 w1.drew) := Dw1.out.trans ((below_drewN' w1 1).mono (Nat.le_trans s0 Dw1.out.size))
      have Owz : Hid (OwnN 85 w1.drew (w.heap.size + 1) u5 st1) := Ow1.out
      generalize w1.drew = wz at *
      go_wp2
      exact ⟨⟨k + 1, by omega, by go_num, (by rw [HST.out, HS.out]), (by rw [HST.out, HS.out]; exact Owz), Dwz⟩, by simp [intOf]; omega⟩
     | false =>
      have HS : Hid (stW n (st1, true) m = (st1 ++ [m], true)) := by show _ = _; unfold stW; simp [heq]
      go_wp2
      refine wp_region_held_drew (S := fun W => W.cell? ⟨b, o + k * 7, none⟩ = some (.string m.path) ∧ W.cell? ⟨w.heap.size, 0, none⟩ = some (.string n.path)) (by kernel_rfl) (⟨(HCk.out.below (Dw1.out.trans ((below_drewN' _ 1).mono (Nat.le_trans s0 Dw1.out.size))) hb1).c0, (X0.out.belowW (Dw1.out.trans ((below_drewN' _ 1).mono (Nat.le_trans s0 Dw1.out.size)))).c0⟩) (fun hHeld => ?_)
      refine tkL9 (i := 0) (oi := ⟨some 31, _, _, _, _, _⟩) (v := (.slice (some ⟨b, o, none⟩) N ca)) rfl (by kernel_rfl) (fun _ _ _ h => h) (by rfl) (by assumption) ?hy13 ?_
      case hy13 => intro w9 hS9; obtain ⟨y0, y1⟩ := hS9; go_simp; try with_reducible rfl
      try simp only [Act.put, sT9, sZ9, sS9]
      refine tkL9 (i := 1) (oi := ⟨some 32, _, _, _, _, _⟩) (v := (.int .i64 (k : Int))) rfl (by kernel_rfl) (fun _ _ _ h => h) (by rfl) (by assumption) ?hy14 ?_
      case hy14 => intro w9 hS9; obtain ⟨y0, y1⟩ := hS9; go_simp; try with_reducible rfl
      try simp only [Act.put, sT9, sZ9, sS9]
      refine tkL9 (i := 2) (oi := ⟨some 33, _, _, _, _, _⟩) (v := (.pointer (some ⟨b, o + k * 7, none⟩))) rfl (by kernel_rfl) (fun _ _ _ h => h) (by rfl) (by assumption) ?hy15 ?_
      case hy15 => intro w9 hS9; obtain ⟨y0, y1⟩ := hS9; go_simp; try with_reducible rfl
      try simp only [Act.put, sT9, sZ9, sS9]
      refine tkL9 (i := 3) (oi := ⟨some 34, _, _, _, _, _⟩) (v := (.pointer (some ⟨b, o + k * 7, none⟩))) rfl (by kernel_rfl) (fun _ _ _ h => h) (by rfl) (by assumption) ?hy16 ?_
      case hy16 => intro w9 hS9; obtain ⟨y0, y1⟩ := hS9; go_simp; try with_reducible rfl
      try simp only [Act.put, sT9, sZ9, sS9]
      refine tkL9 (i := 4) (oi := ⟨some 35, _, _, _, _, _⟩) (v := (.string m.path)) rfl (by kernel_rfl) (fun _ _ _ h => h) (by rfl) (by assumption) ?hy17 ?_
      case hy17 => intro w9 hS9; obtain ⟨y0, y1⟩ := hS9; go_simp; try with_reducible rfl
      try simp only [Act.put, sT9, sZ9, sS9]
      refine tkL9 (i := 5) (oi := ⟨some 36, _, _, _, _, _⟩) (v := (.pointer (some ⟨w.heap.size, 0, none⟩))) rfl (by kernel_rfl) (fun _ _ _ h => h) (by rfl) (by assumption) ?hy18 ?_
      case hy18 => intro w9 hS9; obtain ⟨y0, y1⟩ := hS9; go_simp; try with_reducible rfl
      try simp only [Act.put, sT9, sZ9, sS9]
      refine tkL9 (i := 6) (oi := ⟨some 37, _, _, _, _, _⟩) (v := (.string n.path)) rfl (by kernel_rfl) (fun _ _ _ h => h) (by rfl) (by assumption) ?hy19 ?_
      case hy19 => intro w9 hS9; obtain ⟨y0, y1⟩ := hS9; go_simp; try with_reducible rfl
      try simp only [Act.put, sT9, sZ9, sS9]
      refine tkL9 (i := 7) (oi := ⟨some 38, _, _, _, _, _⟩) (v := (.bool true)) rfl (by kernel_rfl) (fun _ _ _ h => h) (by rfl) (by assumption) ?hy20 ?_
      case hy20 => intro w9 hS9; obtain ⟨y0, y1⟩ := hS9; go_simp; try with_reducible rfl
      try simp only [Act.put, sT9, sZ9, sS9]
      refine wpAnyH_done (by kernel_rfl) ?_ _
      clear hHeld
      have Dwz : Hid (Below (w.heap.size + 1) w0 w1.drew) := Dw1.out.trans ((below_drewN' w1 1).mono (Nat.le_trans s0 Dw1.out.size))
      have Owz : Hid (OwnN 85 w1.drew (w.heap.size + 1) u5 st1) := Ow1.out
      generalize w1.drew = wz at *
      obtain ⟨c0, c1, c2, c3, c4, c5, c6⟩ := HCk.out.below Dwz.out hb1
      obtain ⟨-, x0, x1, x2, x3, x4, x5, x6⟩ := X0.out.belowW Dwz.out
      have ORwy : Hid (wz.ownsRow (w.heap.size + 1) 85 7 u5 st1.length (nrow st1)) := Owz.out
      have swy : w.heap.size + 1 ≤ wz.heap.size := Nat.le_trans s0 Dwz.out.size
      go_wp2_with (at_builtin; go_must (refine wpList_append_own _ rfl _ _ 23 rfl (w.heap.size + 1) 85 i0 (.agg #[.string ByteArray.empty, .string ByteArray.empty, .int .i64 0, .int .i64 0, .int .i64 0, .int .i64 0, .int .i64 0]) 7 72 Tryz.underlying23 hi hz0 hz1 hz2 rfl (by decide) _ _ _ rfl (ORwy.out.alloc _) ⟨wz.heap.size, 0, none⟩ 1 1 (ndL m) rfl rfl (ndL_cells wz m _) (ndL_one m) ?_ ?_ ?_ ?_))
      · unfold maxLen; (try simp only [List.length_append, List.length_cons, List.length_nil]); omega
      · (try simp only [List.length_append, List.length_cons, List.length_nil]); omega
      · simp; omega
      intro vy wy howy hgwy _
      have Owy : Hid (OwnN 85 wy (w.heap.size + 1) vy (st1 ++ [m])) := by
       show OwnN _ _ _ _ _
       unfold OwnN
       rw [nrow_one]
       simpa using howy
      have Dwy : Hid (Below (w.heap.size + 1) w0 wy) := (Dwz.out.alloc swy _).grown hgwy (by simp; omega) (fun q hq => (World.ownsRow.lt ORwy.out q hq).1)
      clear howy hgwy ORwy
      clear c0 c1 c2 c3 c4 c5 c6 x0 x1 x2 x3 x4 x5 x6
      go_wp2
      exact ⟨⟨k + 1, by omega, by go_num, (by rw [HST.out, HS.out]), (by rw [HST.out, HS.out]; exact Owy), Dwy⟩, by simp [intOf]; omega⟩
    | false =>
     cases hls : Op.bytesLess m.path.toList n.path.toList with
     | true =>
      go_wp2
      refine wp_region_held_drew (S := fun W => W.cell? ⟨b, o + k * 7, none⟩ = some (.string m.path) ∧ W.cell? ⟨w.heap.size, 0, none⟩ = some (.string n.path)) (by kernel_rfl) (⟨(HCk.out.below (HD.out.trans ((below_drewN' _ 1).mono (Nat.le_trans s0 HD.out.size))) hb1).c0, (X0.out.belowW (HD.out.trans ((below_drewN' _ 1).mono (Nat.le_trans s0 HD.out.size)))).c0⟩) (fun hHeld => ?_)
      refine tkL9 (i := 0) (oi := ⟨some 15, _, _, _, _, _⟩) (v := (.bool false)) rfl (by kernel_rfl) (fun _ _ _ h => h) (by rfl) (by assumption) ?hy21 ?_
      case hy21 => intro w9 hS9; obtain ⟨y0, y1⟩ := hS9; go_simp; try with_reducible rfl
      try simp only [Act.put, sT9, sZ9, sS9]
      refine tkL9 (i := 1) (oi := ⟨some 16, _, _, _, _, _⟩) (v := (.bool true)) rfl (by kernel_rfl) (fun _ _ _ h => h) (by rfl) (by assumption) ?hy22 ?_
      case hy22 => intro w9 hS9; obtain ⟨y0, y1⟩ := hS9; go_simp; try with_reducible rfl
      try simp only [Act.put, sT9, sZ9, sS9]
      refine tkL9 (i := 2) (oi := ⟨some 17, _, _, _, _, _⟩) (v := (.bool true)) rfl (by kernel_rfl) (fun _ _ _ h => h) (by rfl) (by assumption) ?hy23 ?_
      case hy23 => intro w9 hS9; obtain ⟨y0, y1⟩ := hS9; go_simp; try with_reducible rfl
      try simp only [Act.put, sT9, sZ9, sS9]
      refine tkL9 (i := 3) (oi := ⟨some 18, _, _, _, _, _⟩) (v := (.slice (some ⟨b, o, none⟩) N ca)) rfl (by kernel_rfl) (fun _ _ _ h => h) (by rfl) (by assumption) ?hy24 ?_
      case hy24 => intro w9 hS9; obtain ⟨y0, y1⟩ := hS9; go_simp; try with_reducible rfl
      try simp only [Act.put, sT9, sZ9, sS9]
      refine tkL9 (i := 4) (oi := ⟨some 19, _, _, _, _, _⟩) (v := (.int .i64 (k : Int))) rfl (by kernel_rfl) (fun _ _ _ h => h) (by rfl) (by assumption) ?hy25 ?_
      case hy25 => intro w9 hS9; obtain ⟨y0, y1⟩ := hS9; go_simp; try with_reducible rfl
      try simp only [Act.put, sT9, sZ9, sS9]
      refine tkL9 (i := 5) (oi := ⟨some 20, _, _, _, _, _⟩) (v := (.pointer (some ⟨b, o + k * 7, none⟩))) rfl (by kernel_rfl) (fun _ _ _ h => h) (by rfl) (by assumption) ?hy26 ?_
      case hy26 => intro w9 hS9; obtain ⟨y0, y1⟩ := hS9; go_simp; try with_reducible rfl
      try simp only [Act.put, sT9, sZ9, sS9]
      refine tkL9 (i := 6) (oi := ⟨some 21, _, _, _, _, _⟩) (v := (.pointer (some ⟨b, o + k * 7, none⟩))) rfl (by kernel_rfl) (fun _ _ _ h => h) (by rfl) (by assumption) ?hy27 ?_
      case hy27 => intro w9 hS9; obtain ⟨y0, y1⟩ := hS9; go_simp; try with_reducible rfl
      try simp only [Act.put, sT9, sZ9, sS9]
      refine tkL9 (i := 7) (oi := ⟨some 22, _, _, _, _, _⟩) (v := (.string m.path)) rfl (by kernel_rfl) (fun _ _ _ h => h) (by rfl) (by assumption) ?hy28 ?_
      case hy28 => intro w9 hS9; obtain ⟨y0, y1⟩ := hS9; go_simp; try with_reducible rfl
      try simp only [Act.put, sT9, sZ9, sS9]
      refine tkL9 (i := 8) (oi := ⟨some 23, _, _, _, _, _⟩) (v := (.pointer (some ⟨w.heap.size, 0, none⟩))) rfl (by kernel_rfl) (fun _ _ _ h => h) (by rfl) (by assumption) ?hy29 ?_
      case hy29 => intro w9 hS9; obtain ⟨y0, y1⟩ := hS9; go_simp; try with_reducible rfl
      try simp only [Act.put, sT9, sZ9, sS9]
      refine tkL9 (i := 9) (oi := ⟨some 24, _, _, _, _, _⟩) (v := (.string n.path)) rfl (by kernel_rfl) (fun _ _ _ h => h) (by rfl) (by assumption) ?hy30 ?_
      case hy30 => intro w9 hS9; obtain ⟨y0, y1⟩ := hS9; go_simp; try with_reducible rfl
      try simp only [Act.put, sT9, sZ9, sS9]
      refine tkL9 (i := 10) (oi := ⟨some 25, _, _, _, _, _⟩) (v := (.bool false)) rfl (by kernel_rfl) (fun _ _ _ h => h) (by rfl) (by assumption) ?hy31 ?_
      case hy31 => intro w9 hS9; obtain ⟨y0, y1⟩ := hS9; go_simp; try with_reducible rfl
      try simp only [Act.put, sT9, sZ9, sS9]
      refine tkL9 (i := 11) (oi := ⟨some 26, _, _, _, _, _⟩) (v := (.bool false)) rfl (by kernel_rfl) (fun _ _ _ h => h) (by rfl) (by assumption) ?hy32 ?_
      case hy32 => intro w9 hS9; obtain ⟨y0, y1⟩ := hS9; go_simp; try with_reducible rfl
      try simp only [Act.put, sT9, sZ9, sS9]
      refine wpAnyH_done (by kernel_rfl) ?_ _
      clear hHeld
      have Dw1 : Hid (Below (w.heap.size + 1) w0 wr.drew) := HD.out.trans ((below_drewN' wr 1).mono (Nat.le_trans s0 HD.out.size))
      have Ow1 : Hid (OwnN 85 wr.drew (w.heap.size + 1) u5 st1) := HW.out
      generalize wr.drew = w1 at *
      cases heq : (m.path.toList == n.path.toList) with
      | true =>
       have HS : Hid (stW n (st1, false) m = (st1, false)) := by show _ = _; unfold stW; simp [hls, heq]
       go_wp2
       refine wp_region_held_drew (S := fun W => W.cell? ⟨b, o + k * 7, none⟩ = some (.string m.path) ∧ W.cell? ⟨w.heap.size, 0, none⟩ = some (.string n.path)) (by kernel_rfl) (⟨(HCk.out.below (Dw1.out.trans ((below_drewN' _ 1).mono (Nat.le_trans s0 Dw1.out.size))) hb1).c0, (X0.out.belowW (Dw1.out.trans ((below_drewN' _ 1).mono (Nat.le_trans s0 Dw1.out.size)))).c0⟩) (fun hHeld => ?_)
       refine tkL9 (i := 0) (oi := ⟨some 31, _, _, _, _, _⟩) (v := (.slice (some ⟨b, o, none⟩) N ca)) rfl (by kernel_rfl) (fun _ _ _ h => h) (by rfl) (by assumption) ?hy33 ?_
       case hy33 => intro w9 hS9; obtain ⟨y0, y1⟩ := hS9; go_simp; try with_reducible rfl
       try simp only [Act.put, sT9, sZ9, sS9]
       refine tkL9 (i := 1) (oi := ⟨some 32, _, _, _, _, _⟩) (v := (.int .i64 (k : Int))) rfl (by kernel_rfl) (fun _ _ _ h => h) (by rfl) (by assumption) ?hy34 ?_
       case hy34 => intro w9 hS9; obtain ⟨y0, y1⟩ := hS9; go_simp; try with_reducible rfl
       try simp only [Act.put, sT9, sZ9, sS9]
       refine tkL9 (i := 2) (oi := ⟨some 33, _, _, _, _, _⟩) (v := (.pointer (some ⟨b, o + k * 7, none⟩))) rfl (by kernel_rfl) (fun _ _ _ h => h) (by rfl) (by assumption) ?hy35 ?_
       case hy35 => intro w9 hS9; obtain ⟨y0, y1⟩ := hS9; go_simp; try with_reducible rfl
       try simp only [Act.put, sT9, sZ9, sS9]
       refine tkL9 (i := 3) (oi := ⟨some 34, _, _, _, _, _⟩) (v := (.pointer (some ⟨b, o + k * 7, none⟩))) rfl (by kernel_rfl) (fun _ _ _ h => h) (by rfl) (by assumption) ?hy36 ?_
       case hy36 => intro w9 hS9; obtain ⟨y0, y1⟩ := hS9; go_simp; try with_reducible rfl
       try simp only [Act.put, sT9, sZ9, sS9]
       refine tkL9 (i := 4) (oi := ⟨some 35, _, _, _, _, _⟩) (v := (.string m.path)) rfl (by kernel_rfl) (fun _ _ _ h => h) (by rfl) (by assumption) ?hy37 ?_
       case hy37 => intro w9 hS9; obtain ⟨y0, y1⟩ := hS9; go_simp; try with_reducible rfl
       try simp only [Act.put, sT9, sZ9, sS9]
       refine tkL9 (i := 5) (oi := ⟨some 36, _, _, _, _, _⟩) (v := (.pointer (some ⟨w.heap.size, 0, none⟩))) rfl (by kernel_rfl) (fun _ _ _ h => h) (by rfl) (by assumption) ?hy38 ?_
       case hy38 => intro w9 hS9; obtain ⟨y0, y1⟩ := hS9; go_simp; try with_reducible rfl
       try simp only [Act.put, sT9, sZ9, sS9]
       refine tkL9 (i := 6) (oi := ⟨some 37, _, _, _, _, _⟩) (v := (.string n.path)) rfl (by kernel_rfl) (fun _ _ _ h => h) (by rfl) (by assumption) ?hy39 ?_
       case hy39 => intro w9 hS9; obtain ⟨y0, y1⟩ := hS9; go_simp; try with_reducible rfl
       try simp only [Act.put, sT9, sZ9, sS9]
       refine tkL9 (i := 7) (oi := ⟨some 38, _, _, _, _, _⟩) (v := (.bool false)) rfl (by kernel_rfl) (fun _ _ _ h => h) (by rfl) (by assumption) ?hy40 ?_
       case hy40 => intro w9 hS9; obtain ⟨y0, y1⟩ := hS9; go_simp; try with_reducible rfl
       try simp only [Act.put, sT9, sZ9, sS9]
       refine wpAnyH_done (by kernel_rfl) ?_ _
       clear hHeld
       have Dwz : Hid (Below (w.heap.size + 1) w0 w1.drew) := Dw1.out.trans ((below_drewN' w1 1).mono (Nat.le_trans s0 Dw1.out.size))
       have Owz : Hid (OwnN 85 w1.drew (w.heap.size + 1) u5 st1) := Ow1.out
       generalize w1.drew = wz at *
       go_wp2
       exact ⟨⟨k + 1, by omega, by go_num, (by rw [HST.out, HS.out]), (by rw [HST.out, HS.out]; exact Owz), Dwz⟩, by simp [intOf]; omega⟩
      | false =>
       have HS : Hid (stW n (st1, false) m = (st1 ++ [m], false)) := by show _ = _; unfold stW; simp [hls, heq]
       go_wp2
       refine wp_region_held_drew (S := fun W => W.cell? ⟨b, o + k * 7, none⟩ = some (.string m.path) ∧ W.cell? ⟨w.heap.size, 0, none⟩ = some (.string n.path)) (by kernel_rfl) (⟨(HCk.out.below (Dw1.out.trans ((below_drewN' _ 1).mono (Nat.le_trans s0 Dw1.out.size))) hb1).c0, (X0.out.belowW (Dw1.out.trans ((below_drewN' _ 1).mono (Nat.le_trans s0 Dw1.out.size)))).c0⟩) (fun hHeld => ?_)
       refine tkL9 (i := 0) (oi := ⟨some 31, _, _, _, _, _⟩) (v := (.slice (some ⟨b, o, none⟩) N ca)) rfl (by kernel_rfl) (fun _ _ _ h => h) (by rfl) (by assumption) ?hy41 ?_
       case hy41 => intro w9 hS9; obtain ⟨y0, y1⟩ := hS9; go_simp; try with_reducible rfl
       try simp only [Act.put, sT9, sZ9, sS9]
       refine tkL9 (i := 1) (oi := ⟨some 32, _, _, _, _, _⟩) (v := (.int .i64 (k : Int))) rfl (by kernel_rfl) (fun _ _ _ h => h) (by rfl) (by assumption) ?hy42 ?_
       case hy42 => intro w9 hS9; obtain ⟨y0, y1⟩ := hS9; go_simp; try with_reducible rfl
       try simp only [Act.put, sT9, sZ9, sS9]
       refine tkL9 (i := 2) (oi := ⟨some 33, _, _, _, _, _⟩) (v := (.pointer (some ⟨b, o + k * 7, none⟩))) rfl (by kernel_rfl) (fun _ _ _ h => h) (by rfl) (by assumption) ?hy43 ?_
       case hy43 => intro w9 hS9; obtain ⟨y0, y1⟩ := hS9; go_simp; try with_reducible rfl
       try simp only [Act.put, sT9, sZ9, sS9]
       refine tkL9 (i := 3) (oi := ⟨some 34, _, _, _, _, _⟩) (v := (.pointer (some ⟨b, o + k * 7, none⟩))) rfl (by kernel_rfl) (fun _ _ _ h => h) (by rfl) (by assumption) ?hy44 ?_
       case hy44 => intro w9 hS9; obtain ⟨y0, y1⟩ := hS9; go_simp; try with_reducible rfl
       try simp only [Act.put, sT9, sZ9, sS9]
       refine tkL9 (i := 4) (oi := ⟨some 35, _, _, _, _, _⟩) (v := (.string m.path)) rfl (by kernel_rfl) (fun _ _ _ h => h) (by rfl) (by assumption) ?hy45 ?_
       case hy45 => intro w9 hS9; obtain ⟨y0, y1⟩ := hS9; go_simp; try with_reducible rfl
       try simp only [Act.put, sT9, sZ9, sS9]
       refine tkL9 (i := 5) (oi := ⟨some 36, _, _, _, _, _⟩) (v := (.pointer (some ⟨w.heap.size, 0, none⟩))) rfl (by kernel_rfl) (fun _ _ _ h => h) (by rfl) (by assumption) ?hy46 ?_
       case hy46 => intro w9 hS9; obtain ⟨y0, y1⟩ := hS9; go_simp; try with_reducible rfl
       try simp only [Act.put, sT9, sZ9, sS9]
       refine tkL9 (i := 6) (oi := ⟨some 37, _, _, _, _, _⟩) (v := (.string n.path)) rfl (by kernel_rfl) (fun _ _ _ h => h) (by rfl) (by assumption) ?hy47 ?_
       case hy47 => intro w9 hS9; obtain ⟨y0, y1⟩ := hS9; go_simp; try with_reducible rfl
       try simp only [Act.put, sT9, sZ9, sS9]
       refine tkL9 (i := 7) (oi := ⟨some 38, _, _, _, _, _⟩) (v := (.bool true)) rfl (by kernel_rfl) (fun _ _ _ h => h) (by rfl) (by assumption) ?hy48 ?_
       case hy48 => intro w9 hS9; obtain ⟨y0, y1⟩ := hS9; go_simp; try with_reducible rfl
       try simp only [Act.put, sT9, sZ9, sS9]
       refine wpAnyH_done (by kernel_rfl) ?_ _
       clear hHeld
       have Dwz : Hid (Below (w.heap.size + 1) w0 w1.drew) := Dw1.out.trans ((below_drewN' w1 1).mono (Nat.le_trans s0 Dw1.out.size))
       have Owz : Hid (OwnN 85 w1.drew (w.heap.size + 1) u5 st1) := Ow1.out
       generalize w1.drew = wz at *
       obtain ⟨c0, c1, c2, c3, c4, c5, c6⟩ := HCk.out.below Dwz.out hb1
       obtain ⟨-, x0, x1, x2, x3, x4, x5, x6⟩ := X0.out.belowW Dwz.out
       have ORwy : Hid (wz.ownsRow (w.heap.size + 1) 85 7 u5 st1.length (nrow st1)) := Owz.out
       have swy : w.heap.size + 1 ≤ wz.heap.size := Nat.le_trans s0 Dwz.out.size
       go_wp2_with (at_builtin; go_must (refine wpList_append_own _ rfl _ _ 23 rfl (w.heap.size + 1) 85 i0 (.agg #[.string ByteArray.empty, .string ByteArray.empty, .int .i64 0, .int .i64 0, .int .i64 0, .int .i64 0, .int .i64 0]) 7 72 Tryz.underlying23 hi hz0 hz1 hz2 rfl (by decide) _ _ _ rfl (ORwy.out.alloc _) ⟨wz.heap.size, 0, none⟩ 1 1 (ndL m) rfl rfl (ndL_cells wz m _) (ndL_one m) ?_ ?_ ?_ ?_))
       · unfold maxLen; (try simp only [List.length_append, List.length_cons, List.length_nil]); omega
       · (try simp only [List.length_append, List.length_cons, List.length_nil]); omega
       · simp; omega
       intro vy wy howy hgwy _
       have Owy : Hid (OwnN 85 wy (w.heap.size + 1) vy (st1 ++ [m])) := by
        show OwnN _ _ _ _ _
        unfold OwnN
        rw [nrow_one]
        simpa using howy
       have Dwy : Hid (Below (w.heap.size + 1) w0 wy) := (Dwz.out.alloc swy _).grown hgwy (by simp; omega) (fun q hq => (World.ownsRow.lt ORwy.out q hq).1)
       clear howy hgwy ORwy
       clear c0 c1 c2 c3 c4 c5 c6 x0 x1 x2 x3 x4 x5 x6
       go_wp2
       exact ⟨⟨k + 1, by omega, by go_num, (by rw [HST.out, HS.out]), (by rw [HST.out, HS.out]; exact Owy), Dwy⟩, by simp [intOf]; omega⟩
     | false =>
      go_wp2
      refine wp_region_held_drew (S := fun W => W.cell? ⟨b, o + k * 7, none⟩ = some (.string m.path) ∧ W.cell? ⟨w.heap.size, 0, none⟩ = some (.string n.path)) (by kernel_rfl) (⟨(HCk.out.below (HD.out.trans ((below_drewN' _ 1).mono (Nat.le_trans s0 HD.out.size))) hb1).c0, (X0.out.belowW (HD.out.trans ((below_drewN' _ 1).mono (Nat.le_trans s0 HD.out.size)))).c0⟩) (fun hHeld => ?_)
      refine tkL9 (i := 0) (oi := ⟨some 15, _, _, _, _, _⟩) (v := (.bool false)) rfl (by kernel_rfl) (fun _ _ _ h => h) (by rfl) (by assumption) ?hy49 ?_
      case hy49 => intro w9 hS9; obtain ⟨y0, y1⟩ := hS9; go_simp; try with_reducible rfl
      try simp only [Act.put, sT9, sZ9, sS9]
      refine tkL9 (i := 1) (oi := ⟨some 16, _, _, _, _, _⟩) (v := (.bool true)) rfl (by kernel_rfl) (fun _ _ _ h => h) (by rfl) (by assumption) ?hy50 ?_
      case hy50 => intro w9 hS9; obtain ⟨y0, y1⟩ := hS9; go_simp; try with_reducible rfl
      try simp only [Act.put, sT9, sZ9, sS9]
      refine tkL9 (i := 2) (oi := ⟨some 17, _, _, _, _, _⟩) (v := (.bool true)) rfl (by kernel_rfl) (fun _ _ _ h => h) (by rfl) (by assumption) ?hy51 ?_
      case hy51 => intro w9 hS9; obtain ⟨y0, y1⟩ := hS9; go_simp; try with_reducible rfl
      try simp only [Act.put, sT9, sZ9, sS9]
      refine tkL9 (i := 3) (oi := ⟨some 18, _, _, _, _, _⟩) (v := (.slice (some ⟨b, o, none⟩) N ca)) rfl (by kernel_rfl) (fun _ _ _ h => h) (by rfl) (by assumption) ?hy52 ?_
      case hy52 => intro w9 hS9; obtain ⟨y0, y1⟩ := hS9; go_simp; try with_reducible rfl
      try simp only [Act.put, sT9, sZ9, sS9]
      refine tkL9 (i := 4) (oi := ⟨some 19, _, _, _, _, _⟩) (v := (.int .i64 (k : Int))) rfl (by kernel_rfl) (fun _ _ _ h => h) (by rfl) (by assumption) ?hy53 ?_
      case hy53 => intro w9 hS9; obtain ⟨y0, y1⟩ := hS9; go_simp; try with_reducible rfl
      try simp only [Act.put, sT9, sZ9, sS9]
      refine tkL9 (i := 5) (oi := ⟨some 20, _, _, _, _, _⟩) (v := (.pointer (some ⟨b, o + k * 7, none⟩))) rfl (by kernel_rfl) (fun _ _ _ h => h) (by rfl) (by assumption) ?hy54 ?_
      case hy54 => intro w9 hS9; obtain ⟨y0, y1⟩ := hS9; go_simp; try with_reducible rfl
      try simp only [Act.put, sT9, sZ9, sS9]
      refine tkL9 (i := 6) (oi := ⟨some 21, _, _, _, _, _⟩) (v := (.pointer (some ⟨b, o + k * 7, none⟩))) rfl (by kernel_rfl) (fun _ _ _ h => h) (by rfl) (by assumption) ?hy55 ?_
      case hy55 => intro w9 hS9; obtain ⟨y0, y1⟩ := hS9; go_simp; try with_reducible rfl
      try simp only [Act.put, sT9, sZ9, sS9]
      refine tkL9 (i := 7) (oi := ⟨some 22, _, _, _, _, _⟩) (v := (.string m.path)) rfl (by kernel_rfl) (fun _ _ _ h => h) (by rfl) (by assumption) ?hy56 ?_
      case hy56 => intro w9 hS9; obtain ⟨y0, y1⟩ := hS9; go_simp; try with_reducible rfl
      try simp only [Act.put, sT9, sZ9, sS9]
      refine tkL9 (i := 8) (oi := ⟨some 23, _, _, _, _, _⟩) (v := (.pointer (some ⟨w.heap.size, 0, none⟩))) rfl (by kernel_rfl) (fun _ _ _ h => h) (by rfl) (by assumption) ?hy57 ?_
      case hy57 => intro w9 hS9; obtain ⟨y0, y1⟩ := hS9; go_simp; try with_reducible rfl
      try simp only [Act.put, sT9, sZ9, sS9]
      refine tkL9 (i := 9) (oi := ⟨some 24, _, _, _, _, _⟩) (v := (.string n.path)) rfl (by kernel_rfl) (fun _ _ _ h => h) (by rfl) (by assumption) ?hy58 ?_
      case hy58 => intro w9 hS9; obtain ⟨y0, y1⟩ := hS9; go_simp; try with_reducible rfl
      try simp only [Act.put, sT9, sZ9, sS9]
      refine tkL9 (i := 10) (oi := ⟨some 25, _, _, _, _, _⟩) (v := (.bool true)) rfl (by kernel_rfl) (fun _ _ _ h => h) (by rfl) (by assumption) ?hy59 ?_
      case hy59 => intro w9 hS9; obtain ⟨y0, y1⟩ := hS9; go_simp; try with_reducible rfl
      try simp only [Act.put, sT9, sZ9, sS9]
      refine tkL9 (i := 11) (oi := ⟨some 26, _, _, _, _, _⟩) (v := (.bool true)) rfl (by kernel_rfl) (fun _ _ _ h => h) (by rfl) (by assumption) ?hy60 ?_
      case hy60 => intro w9 hS9; obtain ⟨y0, y1⟩ := hS9; go_simp; try with_reducible rfl
      try simp only [Act.put, sT9, sZ9, sS9]
      refine wpAnyH_done (by kernel_rfl) ?_ _
      clear hHeld
      have Dw1 : Hid (Below (w.heap.size + 1) w0 wr.drew) := HD.out.trans ((below_drewN' wr 1).mono (Nat.le_trans s0 HD.out.size))
      have Ow1 : Hid (OwnN 85 wr.drew (w.heap.size + 1) u5 st1) := HW.out
      generalize wr.drew = w1 at *
      obtain ⟨c0, c1, c2, c3, c4, c5, c6⟩ := HCk.out.below Dw1.out hb1
      obtain ⟨-, x0, x1, x2, x3, x4, x5, x6⟩ := X0.out.belowW Dw1.out
      have ORw2 : Hid (w1.ownsRow (w.heap.size + 1) 85 7 u5 st1.length (nrow st1)) := Ow1.out
      have sw2 : w.heap.size + 1 ≤ w1.heap.size := Nat.le_trans s0 Dw1.out.size
      go_wp2_with (at_builtin; go_must (refine wpList_append_own _ rfl _ _ 23 rfl (w.heap.size + 1) 85 i0 (.agg #[.string ByteArray.empty, .string ByteArray.empty, .int .i64 0, .int .i64 0, .int .i64 0, .int .i64 0, .int .i64 0]) 7 72 Tryz.underlying23 hi hz0 hz1 hz2 rfl (by decide) _ _ _ rfl (ORw2.out.alloc _) ⟨w1.heap.size, 0, none⟩ 1 1 (ndL n) rfl rfl (ndL_cells w1 n _) (ndL_one n) ?_ ?_ ?_ ?_))
      · unfold maxLen; (try simp only [List.length_append, List.length_cons, List.length_nil]); omega
      · (try simp only [List.length_append, List.length_cons, List.length_nil]); omega
      · simp; omega
      intro v2 w2 how2 hgw2 _
      have Ow2 : Hid (OwnN 85 w2 (w.heap.size + 1) v2 (st1 ++ [n])) := by
       show OwnN _ _ _ _ _
       unfold OwnN
       rw [nrow_one]
       simpa using how2
      have Dw2 : Hid (Below (w.heap.size + 1) w0 w2) := (Dw1.out.alloc sw2 _).grown hgw2 (by simp; omega) (fun q hq => (World.ownsRow.lt ORw2.out q hq).1)
      clear how2 hgw2 ORw2
      clear c0 c1 c2 c3 c4 c5 c6 x0 x1 x2 x3 x4 x5 x6
      cases heq : (m.path.toList == n.path.toList) with
      | true =>
       have HS : Hid (stW n (st1, false) m = (st1 ++ [n], true)) := by show _ = _; unfold stW; simp [hls, heq]
       go_wp2
       refine wp_region_held_drew (S := fun W => W.cell? ⟨b, o + k * 7, none⟩ = some (.string m.path) ∧ W.cell? ⟨w.heap.size, 0, none⟩ = some (.string n.path)) (by kernel_rfl) (⟨(HCk.out.below (Dw2.out.trans ((below_drewN' _ 1).mono (Nat.le_trans s0 Dw2.out.size))) hb1).c0, (X0.out.belowW (Dw2.out.trans ((below_drewN' _ 1).mono (Nat.le_trans s0 Dw2.out.size)))).c0⟩) (fun hHeld => ?_)
       refine tkL9 (i := 0) (oi := ⟨some 31, _, _, _, _, _⟩) (v := (.slice (some ⟨b, o, none⟩) N ca)) rfl (by kernel_rfl) (fun _ _ _ h => h) (by rfl) (by assumption) ?hy61 ?_
       case hy61 => intro w9 hS9; obtain ⟨y0, y1⟩ := hS9; go_simp; try with_reducible rfl
       try simp only [Act.put, sT9, sZ9, sS9]
       refine tkL9 (i := 1) (oi := ⟨some 32, _, _, _, _, _⟩) (v := (.int .i64 (k : Int))) rfl (by kernel_rfl) (fun _ _ _ h => h) (by rfl) (by assumption) ?hy62 ?_
       case hy62 => intro w9 hS9; obtain ⟨y0, y1⟩ := hS9; go_simp; try with_reducible rfl
       try simp only [Act.put, sT9, sZ9, sS9]
       refine tkL9 (i := 2) (oi := ⟨some 33, _, _, _, _, _⟩) (v := (.pointer (some ⟨b, o + k * 7, none⟩))) rfl (by kernel_rfl) (fun _ _ _ h => h) (by rfl) (by assumption) ?hy63 ?_
       case hy63 => intro w9 hS9; obtain ⟨y0, y1⟩ := hS9; go_simp; try with_reducible rfl
       try simp only [Act.put, sT9, sZ9, sS9]
       refine tkL9 (i := 3) (oi := ⟨some 34, _, _, _, _, _⟩) (v := (.pointer (some ⟨b, o + k * 7, none⟩))) rfl (by kernel_rfl) (fun _ _ _ h => h) (by rfl) (by assumption) ?hy64 ?_
       case hy64 => intro w9 hS9; obtain ⟨y0, y1⟩ := hS9; go_simp; try with_reducible rfl
       try simp only [Act.put, sT9, sZ9, sS9]
       refine tkL9 (i := 4) (oi := ⟨some 35, _, _, _, _, _⟩) (v := (.string m.path)) rfl (by kernel_rfl) (fun _ _ _ h => h) (by rfl) (by assumption) ?hy65 ?_
       case hy65 => intro w9 hS9; obtain ⟨y0, y1⟩ := hS9; go_simp; try with_reducible rfl
       try simp only [Act.put, sT9, sZ9, sS9]
       refine tkL9 (i := 5) (oi := ⟨some 36, _, _, _, _, _⟩) (v := (.pointer (some ⟨w.heap.size, 0, none⟩))) rfl (by kernel_rfl) (fun _ _ _ h => h) (by rfl) (by assumption) ?hy66 ?_
       case hy66 => intro w9 hS9; obtain ⟨y0, y1⟩ := hS9; go_simp; try with_reducible rfl
       try simp only [Act.put, sT9, sZ9, sS9]
       refine tkL9 (i := 6) (oi := ⟨some 37, _, _, _, _, _⟩) (v := (.string n.path)) rfl (by kernel_rfl) (fun _ _ _ h => h) (by rfl) (by assumption) ?hy67 ?_
       case hy67 => intro w9 hS9; obtain ⟨y0, y1⟩ := hS9; go_simp; try with_reducible rfl
       try simp only [Act.put, sT9, sZ9, sS9]
       refine tkL9 (i := 7) (oi := ⟨some 38, _, _, _, _, _⟩) (v := (.bool false)) rfl (by kernel_rfl) (fun _ _ _ h => h) (by rfl) (by assumption) ?hy68 ?_
       case hy68 => intro w9 hS9; obtain ⟨y0, y1⟩ := hS9; go_simp; try with_reducible rfl
       try simp only [Act.put, sT9, sZ9, sS9]
       refine wpAnyH_done (by kernel_rfl) ?_ _
       clear hHeld
       have Dwz : Hid (Below (w.heap.size + 1) w0 w2.drew) := Dw2.out.trans ((below_drewN' w2 1).mono (Nat.le_trans s0 Dw2.out.size))
       have Owz : Hid (OwnN 85 w2.drew (w.heap.size + 1) v2 (st1 ++ [n])) := Ow2.out
       generalize w2.drew = wz at *
       go_wp2
       exact ⟨⟨k + 1, by omega, by go_num, (by rw [HST.out, HS.out]), (by rw [HST.out, HS.out]; exact Owz), Dwz⟩, by simp [intOf]; omega⟩
      | false =>
       have HS : Hid (stW n (st1, false) m = (st1 ++ [n] ++ [m], true)) := by show _ = _; unfold stW; simp [hls, heq]
       go_wp2
       refine wp_region_held_drew (S := fun W => W.cell? ⟨b, o + k * 7, none⟩ = some (.string m.path) ∧ W.cell? ⟨w.heap.size, 0, none⟩ = some (.string n.path)) (by kernel_rfl) (⟨(HCk.out.below (Dw2.out.trans ((below_drewN' _ 1).mono (Nat.le_trans s0 Dw2.out.size))) hb1).c0, (X0.out.belowW (Dw2.out.trans ((below_drewN' _ 1).mono (Nat.le_trans s0 Dw2.out.size)))).c0⟩) (fun hHeld => ?_)
       refine tkL9 (i := 0) (oi := ⟨some 31, _, _, _, _, _⟩) (v := (.slice (some ⟨b, o, none⟩) N ca)) rfl (by kernel_rfl) (fun _ _ _ h => h) (by rfl) (by assumption) ?hy69 ?_
       case hy69 => intro w9 hS9; obtain ⟨y0, y1⟩ := hS9; go_simp; try with_reducible rfl
       try simp only [Act.put, sT9, sZ9, sS9]
       refine tkL9 (i := 1) (oi := ⟨some 32, _, _, _, _, _⟩) (v := (.int .i64 (k : Int))) rfl (by kernel_rfl) (fun _ _ _ h => h) (by rfl) (by assumption) ?hy70 ?_
       case hy70 => intro w9 hS9; obtain ⟨y0, y1⟩ := hS9; go_simp; try with_reducible rfl
       try simp only [Act.put, sT9, sZ9, sS9]
       refine tkL9 (i := 2) (oi := ⟨some 33, _, _, _, _, _⟩) (v := (.pointer (some ⟨b, o + k * 7, none⟩))) rfl (by kernel_rfl) (fun _ _ _ h => h) (by rfl) (by assumption) ?hy71 ?_
       case hy71 => intro w9 hS9; obtain ⟨y0, y1⟩ := hS9; go_simp; try with_reducible rfl
       try simp only [Act.put, sT9, sZ9, sS9]
       refine tkL9 (i := 3) (oi := ⟨some 34, _, _, _, _, _⟩) (v := (.pointer (some ⟨b, o + k * 7, none⟩))) rfl (by kernel_rfl) (fun _ _ _ h => h) (by rfl) (by assumption) ?hy72 ?_
       case hy72 => intro w9 hS9; obtain ⟨y0, y1⟩ := hS9; go_simp; try with_reducible rfl
       try simp only [Act.put, sT9, sZ9, sS9]
       refine tkL9 (i := 4) (oi := ⟨some 35, _, _, _, _, _⟩) (v := (.string m.path)) rfl (by kernel_rfl) (fun _ _ _ h => h) (by rfl) (by assumption) ?hy73 ?_
       case hy73 => intro w9 hS9; obtain ⟨y0, y1⟩ := hS9; go_simp; try with_reducible rfl
       try simp only [Act.put, sT9, sZ9, sS9]
       refine tkL9 (i := 5) (oi := ⟨some 36, _, _, _, _, _⟩) (v := (.pointer (some ⟨w.heap.size, 0, none⟩))) rfl (by kernel_rfl) (fun _ _ _ h => h) (by rfl) (by assumption) ?hy74 ?_
       case hy74 => intro w9 hS9; obtain ⟨y0, y1⟩ := hS9; go_simp; try with_reducible rfl
       try simp only [Act.put, sT9, sZ9, sS9]
       refine tkL9 (i := 6) (oi := ⟨some 37, _, _, _, _, _⟩) (v := (.string n.path)) rfl (by kernel_rfl) (fun _ _ _ h => h) (by rfl) (by assumption) ?hy75 ?_
       case hy75 => intro w9 hS9; obtain ⟨y0, y1⟩ := hS9; go_simp; try with_reducible rfl
       try simp only [Act.put, sT9, sZ9, sS9]
       refine tkL9 (i := 7) (oi := ⟨some 38, _, _, _, _, _⟩) (v := (.bool true)) rfl (by kernel_rfl) (fun _ _ _ h => h) (by rfl) (by assumption) ?hy76 ?_
       case hy76 => intro w9 hS9; obtain ⟨y0, y1⟩ := hS9; go_simp; try with_reducible rfl
       try simp only [Act.put, sT9, sZ9, sS9]
       refine wpAnyH_done (by kernel_rfl) ?_ _
       clear hHeld
       have Dwz : Hid (Below (w.heap.size + 1) w0 w2.drew) := Dw2.out.trans ((below_drewN' w2 1).mono (Nat.le_trans s0 Dw2.out.size))
       have Owz : Hid (OwnN 85 w2.drew (w.heap.size + 1) v2 (st1 ++ [n])) := Ow2.out
       generalize w2.drew = wz at *
       obtain ⟨c0, c1, c2, c3, c4, c5, c6⟩ := HCk.out.below Dwz.out hb1
       obtain ⟨-, x0, x1, x2, x3, x4, x5, x6⟩ := X0.out.belowW Dwz.out
       have ORwy : Hid (wz.ownsRow (w.heap.size + 1) 85 7 v2 (st1 ++ [n]).length (nrow (st1 ++ [n]))) := Owz.out
       have swy : w.heap.size + 1 ≤ wz.heap.size := Nat.le_trans s0 Dwz.out.size
       go_wp2_with (at_builtin; go_must (refine wpList_append_own _ rfl _ _ 23 rfl (w.heap.size + 1) 85 i0 (.agg #[.string ByteArray.empty, .string ByteArray.empty, .int .i64 0, .int .i64 0, .int .i64 0, .int .i64 0, .int .i64 0]) 7 72 Tryz.underlying23 hi hz0 hz1 hz2 rfl (by decide) _ _ _ rfl (ORwy.out.alloc _) ⟨wz.heap.size, 0, none⟩ 1 1 (ndL m) rfl rfl (ndL_cells wz m _) (ndL_one m) ?_ ?_ ?_ ?_))
       · unfold maxLen; (try simp only [List.length_append, List.length_cons, List.length_nil]); omega
       · (try simp only [List.length_append, List.length_cons, List.length_nil]); omega
       · simp; omega
       intro vy wy howy hgwy _
       have Owy : Hid (OwnN 85 wy (w.heap.size + 1) vy ((st1 ++ [n]) ++ [m])) := by
        show OwnN _ _ _ _ _
        unfold OwnN
        rw [nrow_one]
        simpa using howy
       have Dwy : Hid (Below (w.heap.size + 1) w0 wy) := (Dwz.out.alloc swy _).grown hgwy (by simp; omega) (fun q hq => (World.ownsRow.lt ORwy.out q hq).1)
       clear howy hgwy ORwy
       clear c0 c1 c2 c3 c4 c5 c6 x0 x1 x2 x3 x4 x5 x6
       go_wp2
       exact ⟨⟨k + 1, by omega, by go_num, (by rw [HST.out, HS.out]), (by rw [HST.out, HS.out]; exact Owy), Dwy⟩, by simp [intOf]; omega⟩
  · have hkn : k = N := by omega
    subst hkn
    have HT : Hid (wiF (ns.take k) n = wiF ns n) := by show _ = _; rw [List.take_of_length_le (by rw [HP.out]; exact Nat.le_refl _)]
    rw [HT.out] at HW ⊢
    have HWN : Hid (wiN ns n = if (wiF ns n).2 then (wiF ns n).1 else (wiF ns n).1 ++ [n]) := rfl
    rw [HT.out] at hll
    generalize wiF ns n = st at *
    obtain ⟨st1, st2⟩ := st
    simp only at hll HW HWN
    obtain ⟨-, x0, x1, x2, x3, x4, x5, x6⟩ := X0.out.belowW HD.out
    cases st2 with
    | true =>
     go_wp2
     go_ret
     exact ⟨_, rfl, (by rw [HWN.out]; exact OwnN.mono HW.out (Nat.le_succ _)), B0.out.trans (HD.out.mono (Nat.le_succ _))⟩
    | false =>
     have ORw2 : Hid (wr.ownsRow (w.heap.size + 1) 85 7 u5 st1.length (nrow st1)) := HW.out
     have sw2 : w.heap.size + 1 ≤ wr.heap.size := Nat.le_trans s0 HD.out.size
     go_wp2_with (at_builtin; go_must (refine wpList_append_own _ rfl _ _ 23 rfl (w.heap.size + 1) 85 i0 (.agg #[.string ByteArray.empty, .string ByteArray.empty, .int .i64 0, .int .i64 0, .int .i64 0, .int .i64 0, .int .i64 0]) 7 72 Tryz.underlying23 hi hz0 hz1 hz2 rfl (by decide) _ _ _ rfl (ORw2.out.alloc _) ⟨wr.heap.size, 0, none⟩ 1 1 (ndL n) rfl rfl (ndL_cells wr n _) (ndL_one n) ?_ ?_ ?_ ?_))
     · unfold maxLen; (try simp only [List.length_append, List.length_cons, List.length_nil]); omega
     · (try simp only [List.length_append, List.length_cons, List.length_nil]); omega
     · simp; omega
     intro v2 w2 how2 hgw2 _
     have Ow2 : Hid (OwnN 85 w2 (w.heap.size + 1) v2 (st1 ++ [n])) := by
      show OwnN _ _ _ _ _
      unfold OwnN
      rw [nrow_one]
      simpa using how2
     have Dw2 : Hid (Below (w.heap.size + 1) w0 w2) := (HD.out.alloc sw2 _).grown hgw2 (by simp; omega) (fun q hq => (World.ownsRow.lt ORw2.out q hq).1)
     clear how2 hgw2 ORw2
     go_wp2
     go_ret
     exact ⟨_, rfl, (by rw [HWN.out]; exact OwnN.mono Ow2.out (Nat.le_succ _)), B0.out.trans (Dw2.out.mono (Nat.le_succ _))⟩
def isP (p : ByteArray) (n : Nd) : Bool := n.path.toList == p.toList
def fdV (ns : List Nd) (p : ByteArray) : Int := if ns.findIdx (isP p) < ns.length then ((ns.findIdx (isP p) : Nat) : Int) else -1
theorem fdV_at {ns : List Nd} {p : ByteArray} {k : Nat} (hk : k < ns.length) (h : isP p (nAt ns k) = true) (hn : ∀ i, i < k → isP p (nAt ns i) = false) : fdV ns p = (k : Int) := by
 have e : ns.findIdx (isP p) = k := by
  rw [List.findIdx_eq hk]
  refine ⟨by rw [← nAt_get hk]; exact h, fun j hj => ?_⟩
  have := hn j hj
  rwa [nAt_get (by omega)] at this
 unfold fdV
 rw [e, if_pos hk]
theorem fdV_none {ns : List Nd} {p : ByteArray} (hn : ∀ i, i < ns.length → isP p (nAt ns i) = false) : fdV ns p = -1 := by
 have e : ns.findIdx (isP p) = ns.length := by
  rw [List.findIdx_eq_length]
  intro x hx
  obtain ⟨i, hi, rfl⟩ := List.mem_iff_getElem.1 hx
  have := hn i hi
  rwa [nAt_get hi] at this
 unfold fdV
 rw [e, if_neg (Nat.lt_irrefl _)]
theorem l3Find_any (w : World) (v : Value) (ns : List Nd) (p : ByteArray) (h : RdN w v ns) (hn : ns.length ≤ 1000000) :
    Calls Tryz.prog 171 #[v, .string p] w fun e w' => e = .returned (.int .i64 (fdV ns p)) ∧ w' = w := by
 obtain ⟨ao, ca, rfl, _, _⟩ := h.len
 have HR : Hid (RdN w (.slice ao ns.length ca) ns) := h
 generalize hnn : ns.length = n at *
 have HP : Hid (ns.length = n) := hnn
 clear h hnn
 go_enter Tryz.func171, Tryz.ntmps171
 go_wp2
 go_loopw [5] (fun vk wr => ∃ k : Nat, k ≤ n ∧ vk = .int .i64 (k : Int) ∧ Hid (∀ i, i < k → isP p (nAt ns i) = false) ∧ wr = w) (fun i _ => n - (intOf i).toNat)
 case atStart => exact ⟨0, Nat.zero_le _, rfl, fun i hi => by omega, rfl⟩
 case round =>
  obtain ⟨k, hk, rfl, HN, rfl⟩ := hrel
  by_cases hlt : k < n
  · have hltI : (k : Int) < (n : Int) := by omega
    obtain ⟨b, o, hao, hb, hc⟩ : ∃ b o, ao = some ⟨b, o, none⟩ ∧ b < wr.heap.size ∧ CellsN wr b (o + k * 7) (nAt ns k) := by
     obtain ⟨ao', cap', e', -, -, h3⟩ := HR.out
     simp only [Value.slice.injEq] at e'
     obtain ⟨rfl, -, -⟩ := e'
     rcases h3 with h3 | ⟨b, o, rfl, hb, hc⟩
     · have := HP.out; rw [h3] at this; simp at this; omega
     · exact ⟨b, o, rfl, hb, hc k (by rw [HP.out]; exact hlt)⟩
    subst hao
    obtain ⟨c0, c1, c2, c3, c4, c5, c6⟩ := hc
    cases hA : ((nAt ns k).path.toList == p.toList) with
    | true =>
     have HF : Hid (fdV ns p = (k : Int)) := fdV_at (by rw [HP.out]; exact hlt) hA HN.out
     go_wp2
     go_ret
     exact ⟨by rw [HF.out]; rfl, rfl⟩
    | false =>
     have HN2 : Hid (∀ i, i < k + 1 → isP p (nAt ns i) = false) := by
      intro i hi
      by_cases e : i < k
      · exact HN.out i e
      · rw [show i = k by omega]; exact hA
     go_wp2
     exact ⟨⟨k + 1, by omega, by go_num, HN2, trivial⟩, by simp [intOf]; omega⟩
  · have hkn : k = n := by omega
    subst hkn
    have HF : Hid (fdV ns p = -1) := fdV_none (fun i hi => HN.out i (by rw [HP.out] at hi; exact hi))
    go_wp2
    go_ret
    exact ⟨by rw [HF.out]; rfl, rfl⟩
def mor (v : Int) : Int := if v = 2147483647 then v else v + 1
def toN (ns : List Nd) (p : ByteArray) (z : Int) : List Nd :=
 if ns.findIdx (isP p) < ns.length then wiN ns { nAt ns (ns.findIdx (isP p)) with cver := mor (nAt ns (ns.findIdx (isP p))).cver, pz := z } else ns
def New (w : World) (v : Value) : Prop := (∃ n c, v = .slice none n c) ∨ ∃ g n c, v = .slice (some ⟨g, 0, none⟩) n c ∧ w.heap.size ≤ g
def Fresh (w : World) (v v' : Value) : Prop := v' = v ∨ New w v'
theorem OwnN.new9 {e : TypeId} {w w' : World} {lo : Nat} {v : Value} {ns : List Nd} (h : OwnN e w' lo v ns) (hl : w.heap.size ≤ lo) : New w v := by
 rcases h.2 with ⟨rfl, -⟩ | ⟨g, cap, cur, rfl, hb, -⟩
 · exact .inl ⟨_, _, rfl⟩
 · exact .inr ⟨g, _, _, rfl, Nat.le_trans hl hb⟩
theorem Fresh.new {w w7 : World} {v7 v8 : Value} (f : Fresh w7 v7 v8) (h : New w v7) (hs : w.heap.size ≤ w7.heap.size) : New w v8 := by
 rcases f with rfl | f | ⟨g, n, c, rfl, hg⟩
 · exact h
 · exact .inl f
 · exact .inr ⟨g, n, c, rfl, Nat.le_trans hs hg⟩
theorem l3More_any (w : World) (x : Int) (h0 : -1 ≤ x) (h1 : x ≤ 2147483647) : Calls Tryz.prog 174 #[.int .i64 x] w fun e w' => e = .returned (.int .i64 (mor x)) ∧ w' = w := by
 by_cases e : x = 2147483647
 · subst e
   go_enter Tryz.func174, Tryz.ntmps174
   go_wp2
   go_ret
   exact ⟨rfl, rfl⟩
 · have hb : (x == 2147483647) = false := by simp [e]
   have HM : Hid (mor x = x + 1) := by show _ = _; unfold mor; rw [if_neg e]
   clear e
   go_enter Tryz.func174, Tryz.ntmps174
   go_wp2
   go_ret
   exact ⟨by rw [HM.out]; rfl, rfl⟩
theorem l3Touch_any (w : World) (v : Value) (ns : List Nd) (p : ByteArray) (z : Int) (h : RdN w v ns) (hn : ns.length ≤ 100000) (hok : ∀ k, k < ns.length → -1 ≤ (nAt ns k).cver ∧ (nAt ns k).cver ≤ 2147483647) :
    Calls Tryz.prog 172 #[v, .string p, .int .i64 z] w fun e w' => ∃ v', e = .returned v' ∧ RdN w' v' (toN ns p z) ∧ Fresh w v v' ∧ Below w.heap.size w w' := by
 obtain ⟨ao, ca, rfl, _, _⟩ := h.len
 have HR : Hid (RdN w (.slice ao ns.length ca) ns) := h
 have HO : Hid (∀ k, k < ns.length → -1 ≤ (nAt ns k).cver ∧ (nAt ns k).cver ≤ 2147483647) := hok
 clear h hok
 go_enter Tryz.func172, Tryz.ntmps172
 go_wp2_with fail
 refine (l3Find_any w _ ns p HR.out (by omega)).mono ?_
 rintro e w1 ⟨rfl, rfl⟩
 by_cases hf : ns.findIdx (isP p) < ns.length
 · have HT : Hid (toN ns p z = wiN ns { nAt ns (ns.findIdx (isP p)) with cver := mor (nAt ns (ns.findIdx (isP p))).cver, pz := z }) := by show _ = _; unfold toN; rw [if_pos hf]
   rw [show fdV ns p = ((ns.findIdx (isP p) : Nat) : Int) by unfold fdV; rw [if_pos hf]]
   generalize ns.findIdx (isP p) = k at *
   have hI : ¬ (k : Int) < 0 := by omega
   have hkI : (k : Int) < (ns.length : Int) := by omega
   obtain ⟨b, o, hao, hb, hc⟩ : ∃ b o, ao = some ⟨b, o, none⟩ ∧ b < w1.heap.size ∧ CellsN w1 b (o + k * 7) (nAt ns k) := by
    obtain ⟨ao', cap', e', -, -, h3⟩ := HR.out
    simp only [Value.slice.injEq] at e'
    obtain ⟨rfl, -, -⟩ := e'
    rcases h3 with h3 | ⟨b, o, rfl, hb, hc⟩
    · rw [h3] at hf; simp at hf
    · exact ⟨b, o, rfl, hb, hc k hf⟩
   subst hao
   obtain ⟨c0, c1, c2, c3, c4, c5, c6⟩ := hc
   have hcv : -1 ≤ (nAt ns k).cver ∧ (nAt ns k).cver ≤ 2147483647 := HO.out k hf
   generalize nAt ns k = m at *
   go_wp2_with fail
   refine (l3More_any _ m.cver hcv.1 hcv.2).mono ?_
   rintro e w2 ⟨rfl, rfl⟩
   go_wp2_with fail
   have ba : Below w1.heap.size w1 (w1.alloc (.cells #[.string m.path, .string m.data, .int .i64 m.ver, .int .i64 (mor m.cver), .int .i64 m.cz, .int .i64 m.mz, .int .i64 z] 85)) := (Below.refl _ _).alloc (Nat.le_refl _) _
   refine (with_any _ _ ns ⟨m.path, m.data, m.ver, mor m.cver, m.cz, m.mz, z⟩ (HR.out.below ba) (by omega)).mono ?_
   rintro e w3 ⟨v3, rfl, o3, b3⟩
   obtain ⟨a3, k3, hv3⟩ := o3.slice
   subst hv3
   have R3 : Hid (RdN w3 (.slice a3 (wiN ns ⟨m.path, m.data, m.ver, mor m.cver, m.cz, m.mz, z⟩).length k3) (toN ns p z)) := by rw [HT.out]; exact o3.rd
   have F3 : Hid (New w1 (.slice a3 (wiN ns ⟨m.path, m.data, m.ver, mor m.cver, m.cz, m.mz, z⟩).length k3)) := OwnN.new9 o3 (by simp)
   have B3 : Hid (Below w1.heap.size w1 w3) := ba.trans (b3.mono (by simp))
   clear o3 b3 ba HT c0 c1 c2 c3 c4 c5 c6
   go_wp2
   go_ret
   exact ⟨_, rfl, R3.out, .inr F3.out, B3.out⟩
 · have HT : Hid (toN ns p z = ns) := by show _ = _; unfold toN; rw [if_neg hf]
   rw [show fdV ns p = -1 by unfold fdV; rw [if_neg hf]]
   go_wp2
   go_ret
   exact ⟨_, rfl, by rw [HT.out]; exact HR.out, .inl rfl, Below.refl _ _⟩
structure Op5 where
 kind : Int
 path : ByteArray
 data : ByteArray
 ver : Int
 seq : Bool
def wfO (o : Op5) : Bool :=
 decide (1 ≤ o.kind) && decide (o.kind ≤ 4) && okPath o.path && decide (o.data.size ≤ 64) && (decide (o.kind = 1) || decide (o.kind = 3) || decide (o.data.size = 0)) &&
  (if o.kind = 1 then decide (o.ver = 0) && !(o.path.toList == [47]) else decide (-1 ≤ o.ver) && decide (o.ver ≤ 2147483647) && !o.seq && (!decide (o.kind = 2) || !(o.path.toList == [47])))
theorem l3Well_any (w : World) (o : Op5) (hp : o.path.size ≤ 1048576) (hd : o.data.size ≤ 1048576) :
    Calls Tryz.prog 169 #[.agg #[.int .i64 o.kind, .string o.path, .string o.data, .int .i64 o.ver, .bool o.seq]] w fun e w' => e = .returned (.bool (wfO o)) ∧ Below w.heap.size w w' := by
 obtain ⟨kind, path, data, ver, seq⟩ := o
 simp only at *
 have B0 : Hid (Below w.heap.size w (w.alloc (.cells #[.int .i64 kind, .string path, .string data, .int .i64 ver, .bool seq] 123))) := (Below.refl _ _).alloc (Nat.le_refl _) _
 by_cases h1 : kind < 1
 · have HW : Hid (wfO ⟨kind, path, data, ver, seq⟩ = false) := by show _ = _; unfold wfO; simp only [Bool.and_eq_false_iff, decide_eq_false_iff_not]; omega
   go_enter Tryz.func169, Tryz.ntmps169
   go_wp2
   go_ret
   exact ⟨by rw [HW.out]; rfl, B0.out⟩
 by_cases h4 : 4 < kind
 · have HW : Hid (wfO ⟨kind, path, data, ver, seq⟩ = false) := by show _ = _; unfold wfO; simp only [Bool.and_eq_false_iff, decide_eq_false_iff_not]; omega
   go_enter Tryz.func169, Tryz.ntmps169
   go_wp2
   go_ret
   exact ⟨by rw [HW.out]; rfl, B0.out⟩
 have C0 : Hid (∀ W, Below (w.alloc (.cells #[.int .i64 kind, .string path, .string data, .int .i64 ver, .bool seq] 123)).heap.size (w.alloc (.cells #[.int .i64 kind, .string path, .string data, .int .i64 ver, .bool seq] 123)) W → W.cell? ⟨w.heap.size, 0, none⟩ = some (.int .i64 kind) ∧ W.cell? ⟨w.heap.size, 1, none⟩ = some (.string path) ∧ W.cell? ⟨w.heap.size, 2, none⟩ = some (.string data) ∧ W.cell? ⟨w.heap.size, 3, none⟩ = some (.int .i64 ver) ∧ W.cell? ⟨w.heap.size, 4, none⟩ = some (.bool seq)) := by
  intro W hW
  have hl : w.heap.size < (w.alloc (.cells #[.int .i64 kind, .string path, .string data, .int .i64 ver, .bool seq] 123)).heap.size := by simp
  refine ⟨(hW.cell (p := ⟨w.heap.size, 0, none⟩) hl).trans (by go_simp), (hW.cell (p := ⟨w.heap.size, 1, none⟩) hl).trans (by go_simp), (hW.cell (p := ⟨w.heap.size, 2, none⟩) hl).trans (by go_simp), (hW.cell (p := ⟨w.heap.size, 3, none⟩) hl).trans (by go_simp), (hW.cell (p := ⟨w.heap.size, 4, none⟩) hl).trans (by go_simp)⟩
 go_enter Tryz.func169, Tryz.ntmps169
 go_wp2_with fail
 refine (specPath_any _ path hp).mono ?_
 rintro e w1 ⟨rfl, b1⟩
 obtain ⟨c0, c1, c2, c3, c4⟩ := C0.out w1 b1
 have B1 := hd9 (B0.out.trans (b1.mono (by simp)))
 clear b1 C0 B0
 cases hpk : okPath path with
 | false =>
  have HW : Hid (wfO ⟨kind, path, data, ver, seq⟩ = false) := by show _ = _; unfold wfO; simp [hpk]
  go_wp2
  go_ret
  exact ⟨by rw [HW.out]; rfl, B1.out⟩
 | true =>
  have HPK : Hid (okPath path = true) := hpk
  clear hpk
  by_cases hds : 64 < data.size
  · have HW : Hid (wfO ⟨kind, path, data, ver, seq⟩ = false) := by show _ = _; unfold wfO; simp; omega
    have hdI : (64 : Int) < (data.size : Int) := by omega
    go_wp2
    go_ret
    exact ⟨by rw [HW.out]; rfl, B1.out⟩
  have hdI : ¬ (64 : Int) < (data.size : Int) := by omega
  have hk : kind = 1 ∨ kind = 2 ∨ kind = 3 ∨ kind = 4 := by omega
  clear h1 h4
  have hds' : data.size ≤ 64 := by omega
  have HDE : Hid ((data.toList == []) = decide (data.size = 0)) := by
   show _ = _
   have e : data.size = data.data.toList.length := by rw [Array.length_toList]; rfl
   rw [ByteArray.toList_eq, e]
   cases data.data.toList <;> simp
  rcases hk with rfl | rfl | rfl | rfl
  all_goals
   cases hps : (path.toList == [47]) <;> cases hdd : (data.toList == []) <;> go_wp2
  all_goals
   go_ret
   refine ⟨ret_b ?_, B1.out⟩
   have hpk := HPK.out
   have hde := HDE.out
   rw [hdd] at hde
   unfold wfO
   simp only [hpk, hps]
   simp_all <;> (intros; omega)
end Go.Proofs.YtcopcegamadkgaaGreatDoor
namespace Go.Proofs.YtcopcegamadkgaaGreatDoor
open Go.RowKit
def Sr.vers (s : Sr) : Int × Sr := if (s.next 3).1 = 0 then ((((s.next 3).2.next 3).1 : Int), ((s.next 3).2.next 3).2) else (-1, (s.next 3).2)
def Sr.op (s : Sr) (ns : List Nd) : Op5 × Sr :=
 if (s.next 12).1 < 5 then (⟨1, ((s.next 12).2.near ns).1, ((s.next 12).2.near ns).2.data.1, 0, (((s.next 12).2.near ns).2.data.2.next 4).1 == 0⟩, (((s.next 12).2.near ns).2.data.2.next 4).2)
 else if (s.next 12).1 < 7 then (⟨2, ((s.next 12).2.vers.2.near ns).1, ⟨#[]⟩, (s.next 12).2.vers.1, false⟩, ((s.next 12).2.vers.2.near ns).2)
 else if (s.next 12).1 < 10 then (⟨3, ((s.next 12).2.vers.2.near ns).1, ((s.next 12).2.vers.2.near ns).2.data.1, (s.next 12).2.vers.1, false⟩, ((s.next 12).2.vers.2.near ns).2.data.2)
 else (⟨4, ((s.next 12).2.vers.2.near ns).1, ⟨#[]⟩, (s.next 12).2.vers.1, false⟩, ((s.next 12).2.vers.2.near ns).2)
def NbO (W : World) (v : Value) (w : World) : Prop :=
 w.cell? ⟨W.heap.size, 0, none⟩ = some v ∧ w.cell? ⟨W.heap.size + 1, 0, none⟩ = some (.int .i64 0) ∧ w.cell? ⟨W.heap.size + 1, 1, none⟩ = some (.string ⟨#[]⟩) ∧ w.cell? ⟨W.heap.size + 1, 2, none⟩ = some (.string ⟨#[]⟩) ∧ w.cell? ⟨W.heap.size + 1, 3, none⟩ = some (.int .i64 0) ∧ w.cell? ⟨W.heap.size + 1, 4, none⟩ = some (.bool false) ∧ (∀ j, w.frozen? ⟨W.heap.size + 1, j, none⟩ = false) ∧ W.heap.size + 2 ≤ w.heap.size
theorem NbO.tch {W w w' : World} {v : Value} {k : Nat} (h : NbO W v w) (t : Tch k w w') (hk : k < W.heap.size) : NbO W v w' := by
 obtain ⟨h0, h1, h2, h3, h4, h5, hf, hs⟩ := h
 have a := t.2 W.heap.size (by omega) (by omega)
 have b := t.2 (W.heap.size + 1) (by omega) (by omega)
 exact ⟨(World.cell?_of_block (w := w) (a := ⟨W.heap.size, 0, none⟩) a).trans h0, (World.cell?_of_block (w := w) (a := ⟨W.heap.size + 1, 0, none⟩) b).trans h1, (World.cell?_of_block (w := w) (a := ⟨W.heap.size + 1, 1, none⟩) b).trans h2, (World.cell?_of_block (w := w) (a := ⟨W.heap.size + 1, 2, none⟩) b).trans h3, (World.cell?_of_block (w := w) (a := ⟨W.heap.size + 1, 3, none⟩) b).trans h4, (World.cell?_of_block (w := w) (a := ⟨W.heap.size + 1, 4, none⟩) b).trans h5, fun j => (World.frozen?_of_block (w := w) b).trans (hf j), Nat.le_trans hs t.size⟩
theorem NbO.new (W : World) (v : Value) (t1 t2 : TypeId) : NbO W v ((W.alloc (.cells #[v] t1)).alloc (.cells #[.int .i64 0, .string ⟨#[]⟩, .string ⟨#[]⟩, .int .i64 0, .bool false] t2)) := by
 have e : (W.alloc (.cells #[v] t1)).heap.size = W.heap.size + 1 := by simp
 have h1 : ((W.alloc (.cells #[v] t1)).alloc (.cells #[.int .i64 0, .string ⟨#[]⟩, .string ⟨#[]⟩, .int .i64 0, .bool false] t2)).heap[W.heap.size + 1]? = some (.cells #[.int .i64 0, .string ⟨#[]⟩, .string ⟨#[]⟩, .int .i64 0, .bool false] t2) := by
  rw [← e]; exact heap_alloc_new _ _
 refine ⟨by go_simp, (cell_of h1 _).trans rfl, (cell_of h1 _).trans rfl, (cell_of h1 _).trans rfl, (cell_of h1 _).trans rfl, (cell_of h1 _).trans rfl, fun j => by go_simp, by simp⟩
theorem op_k (W : World) (k B : Nat) (s : Sr) (v : Value) (ns : List Nd) (h : SRX W k B s) (ho : RdN W v ns) (hlo : OffK k v) (hn : ns.length ≤ 1000000) (hps : ∀ i, i < ns.length → (nAt ns i).path.size ≤ 1000) :
    Calls Tryz.prog 75 #[.pointer (some ⟨k, 0, none⟩), .agg #[v]] W fun e w' => e = .returned (.agg #[.int .i64 (s.op ns).1.kind, .string (s.op ns).1.path, .string (s.op ns).1.data, .int .i64 (s.op ns).1.ver, .bool (s.op ns).1.seq]) ∧ SRX w' k B (s.op ns).2 ∧ Tch k W w' := by
 have hk1 := h.kB
 have hk2 := h.lt
 have B0 : Hid (Below W.heap.size W ((W.alloc (.cells #[v] 25)).alloc (.cells #[.int .i64 0, .string ⟨#[]⟩, .string ⟨#[]⟩, .int .i64 0, .bool false] 123))) := ((Below.refl _ _).alloc (Nat.le_refl _) _).alloc (by simp) _
 have S0 : Hid (SRX ((W.alloc (.cells #[v] 25)).alloc (.cells #[.int .i64 0, .string ⟨#[]⟩, .string ⟨#[]⟩, .int .i64 0, .bool false] 123)) k B s) := h.keep (B0.out.mono hk2)
 have T0 : Hid (Tch k W ((W.alloc (.cells #[v] 25)).alloc (.cells #[.int .i64 0, .string ⟨#[]⟩, .string ⟨#[]⟩, .int .i64 0, .bool false] 123))) := Tch.of B0.out
 have X0 : Hid (NbO W v ((W.alloc (.cells #[v] 25)).alloc (.cells #[.int .i64 0, .string ⟨#[]⟩, .string ⟨#[]⟩, .int .i64 0, .bool false] 123))) := NbO.new _ _ _ _
 have HO : Hid (RdN W v ns) := ho
 obtain ⟨av, cv, rfl⟩ : ∃ a c, v = .slice a ns.length c := by
  obtain ⟨a, c, h0, _⟩ := ho.len
  exact ⟨a, c, h0⟩
 have HLO : Hid (OffK k (.slice av ns.length cv)) := hlo
 have HPS : Hid (∀ i, i < ns.length → (nAt ns i).path.size ≤ 1000) := hps
 have HEND : Hid (∀ (w' : World) (o : Op5) (q : Sr), SRX w' k B q → Tch k W w' → SRX (((((w'.setCell ⟨W.heap.size + 1, 0, none⟩ (.int .i64 o.kind)).setCell ⟨W.heap.size + 1, 1, none⟩ (.string o.path)).setCell ⟨W.heap.size + 1, 2, none⟩ (.string o.data)).setCell ⟨W.heap.size + 1, 3, none⟩ (.int .i64 o.ver)).setCell ⟨W.heap.size + 1, 4, none⟩ (.bool o.seq)) k B q ∧ Tch k W (((((w'.setCell ⟨W.heap.size + 1, 0, none⟩ (.int .i64 o.kind)).setCell ⟨W.heap.size + 1, 1, none⟩ (.string o.path)).setCell ⟨W.heap.size + 1, 2, none⟩ (.string o.data)).setCell ⟨W.heap.size + 1, 3, none⟩ (.int .i64 o.ver)).setCell ⟨W.heap.size + 1, 4, none⟩ (.bool o.seq))) := by
  intro w' o q hs ht
  have bS : Below W.heap.size w' (((((w'.setCell ⟨W.heap.size + 1, 0, none⟩ (.int .i64 o.kind)).setCell ⟨W.heap.size + 1, 1, none⟩ (.string o.path)).setCell ⟨W.heap.size + 1, 2, none⟩ (.string o.data)).setCell ⟨W.heap.size + 1, 3, none⟩ (.int .i64 o.ver)).setCell ⟨W.heap.size + 1, 4, none⟩ (.bool o.seq)) := by
   repeat (first | exact Below.refl _ _ | refine Below.setCell ?_ (by simp) _)
  exact ⟨hs.keep (bS.mono hk2), ht.then bS⟩
 obtain ⟨res, hres⟩ : ∃ res, res = s.op ns := ⟨_, rfl⟩
 have HR : Hid (s.op ns = res) := hres.symm
 rw [← hres]
 have hkW : k < W.heap.size := by omega
 clear h hres ho hps hlo
 unfold Sr.op at HR
 go_enter Tryz.func75, Tryz.ntmps75
 go_wp2_with fail
 generalize (W.alloc (.cells #[.slice av ns.length cv] 25)).alloc (.cells #[.int .i64 0, .string ⟨#[]⟩, .string ⟨#[]⟩, .int .i64 0, .bool false] 123) = w0 at *
 refine (next_x _ k B 12 s S0.out (by omega)).mono ?_
 rintro e w1 ⟨rfl, s1, t1⟩
 have hn1 := s.next_lt 12 (by omega)
 generalize (s.next 12).2 = r1 at *
 generalize (s.next 12).1 = n1 at *
 have S1 : Hid (SRX w1 k B r1) := s1
 have T1 := hd9 (T0.out.trans t1)
 have X1 := hd9 (X0.out.tch t1 hkW)
 clear s1 t1 S0 T0 X0 B0
 by_cases h5 : n1 < 5
 · rw [if_pos h5] at HR
   have h5I : (n1 : Int) < 5 := by omega
   have x0 := X1.out.1
   go_wp2_with fail
   clear x0
   refine (near_k _ k B r1 _ ns S1.out (HO.out.tchK HLO.out T1.out) HLO.out hn HPS.out).mono ?_
   rintro e w2 ⟨rfl, s2, t2⟩
   generalize r1.near ns = p at *
   have S2 : Hid (SRX w2 k B p.2) := s2
   have T2 := hd9 (T1.out.trans t2)
   have X2 := hd9 (X1.out.tch t2 hkW)
   clear s2 t2 S1 T1 X1
   go_wp2_with fail
   refine (data_x _ k B p.2 S2.out).mono ?_
   rintro e w3 ⟨rfl, s3, t3⟩
   generalize p.2.data = d at *
   have S3 : Hid (SRX w3 k B d.2) := s3
   have T3 := hd9 (T2.out.trans t3)
   have X3 := hd9 (X2.out.tch t3 hkW)
   clear s3 t3 S2 T2 X2
   go_wp2_with fail
   refine (next_x _ k B 4 d.2 S3.out (by omega)).mono ?_
   rintro e w4 ⟨rfl, s4, t4⟩
   have hn4 := d.2.next_lt 4 (by omega)
   have F := fun o => HEND.out w4 o _ s4 (T3.out.trans t4)
   generalize (d.2.next 4).2 = r4 at *
   generalize (d.2.next 4).1 = n4 at *
   have X4 := hd9 (X3.out.tch t4 hkW)
   have HF : Hid (∀ o : Op5, SRX (((((w4.setCell ⟨W.heap.size + 1, 0, none⟩ (.int .i64 o.kind)).setCell ⟨W.heap.size + 1, 1, none⟩ (.string o.path)).setCell ⟨W.heap.size + 1, 2, none⟩ (.string o.data)).setCell ⟨W.heap.size + 1, 3, none⟩ (.int .i64 o.ver)).setCell ⟨W.heap.size + 1, 4, none⟩ (.bool o.seq)) k B r4 ∧ Tch k W (((((w4.setCell ⟨W.heap.size + 1, 0, none⟩ (.int .i64 o.kind)).setCell ⟨W.heap.size + 1, 1, none⟩ (.string o.path)).setCell ⟨W.heap.size + 1, 2, none⟩ (.string o.data)).setCell ⟨W.heap.size + 1, 3, none⟩ (.int .i64 o.ver)).setCell ⟨W.heap.size + 1, 4, none⟩ (.bool o.seq))) := F
   clear F s4 t4 S3 T3 X3
   have e4 : ((n4 : Int) == 0) = (n4 == 0) := by
    rw [Bool.eq_iff_iff, beq_iff_eq, beq_iff_eq]; omega
   obtain ⟨-, d0, d1, d2, d3, d4, df, dz⟩ := X4.out
   have f0 := df 0
   have f1 := df 1
   have f2 := df 2
   have f3 := df 3
   have f4 := df 4
   clear df
   go_wp2
   rw [← HR.out]
   exact bodyPost_ret (v := .agg #[.int .i64 (1), .string p.1, .string d.1, .int .i64 (0), .bool (n4 == 0)]) (by simp [results, Tryz.results75, go_sem, d0, d1, d2, d3, d4]) rfl ⟨rfl, HF.out ⟨1, p.1, d.1, 0, n4 == 0⟩⟩
 · rw [if_neg h5] at HR
   have h5I : ¬ (n1 : Int) < 5 := by omega
   go_wp2_with fail
   refine (next_x _ k B 3 r1 S1.out (by omega)).mono ?_
   rintro e w2 ⟨rfl, s2, t2⟩
   have hn2 := r1.next_lt 3 (by omega)
   unfold Sr.vers at HR
   generalize (r1.next 3).2 = r2 at *
   generalize (r1.next 3).1 = n2 at *
   have S2 : Hid (SRX w2 k B r2) := s2
   have T2 := hd9 (T1.out.trans t2)
   have X2 := hd9 (X1.out.tch t2 hkW)
   clear s2 t2 S1 T1 X1
   by_cases h0 : n2 = 0
   · subst h0
     simp only [if_true] at HR
     go_wp2_with fail
     refine (next_x _ k B 3 r2 S2.out (by omega)).mono ?_
     rintro e w3 ⟨rfl, s3, t3⟩
     have hn3 := r2.next_lt 3 (by omega)
     generalize (r2.next 3).2 = r3 at *
     generalize (r2.next 3).1 = n3 at *
     have S3 : Hid (SRX w3 k B r3) := s3
     have T3 := hd9 (T2.out.trans t3)
     have X3 := hd9 (X2.out.tch t3 hkW)
     clear s3 t3 S2 T2 X2
     by_cases h7 : n1 < 7
     · rw [if_pos h7] at HR
       have h7I : (n1 : Int) < 7 := by omega
       have x0 := X3.out.1
       go_wp2_with fail
       clear x0
       refine (near_k _ k B r3 _ ns S3.out (HO.out.tchK HLO.out T3.out) HLO.out hn HPS.out).mono ?_
       rintro e w4 ⟨rfl, s4, t4⟩
       generalize r3.near ns = p at *
       have S4 : Hid (SRX w4 k B p.2) := s4
       have T4 := hd9 (T3.out.trans t4)
       have X4 := hd9 (X3.out.tch t4 hkW)
       clear s4 t4 S3 T3 X3
       have HF : Hid (∀ o : Op5, SRX (((((w4.setCell ⟨W.heap.size + 1, 0, none⟩ (.int .i64 o.kind)).setCell ⟨W.heap.size + 1, 1, none⟩ (.string o.path)).setCell ⟨W.heap.size + 1, 2, none⟩ (.string o.data)).setCell ⟨W.heap.size + 1, 3, none⟩ (.int .i64 o.ver)).setCell ⟨W.heap.size + 1, 4, none⟩ (.bool o.seq)) k B p.2 ∧ Tch k W (((((w4.setCell ⟨W.heap.size + 1, 0, none⟩ (.int .i64 o.kind)).setCell ⟨W.heap.size + 1, 1, none⟩ (.string o.path)).setCell ⟨W.heap.size + 1, 2, none⟩ (.string o.data)).setCell ⟨W.heap.size + 1, 3, none⟩ (.int .i64 o.ver)).setCell ⟨W.heap.size + 1, 4, none⟩ (.bool o.seq))) := fun o => HEND.out w4 o _ S4.out T4.out
       obtain ⟨-, d0, d1, d2, d3, d4, df, dz⟩ := X4.out
       have f0 := df 0
       have f1 := df 1
       have f2 := df 2
       have f3 := df 3
       have f4 := df 4
       clear df
       clear S4 T4 X4 HEND
       go_wp2
       rw [← HR.out]
       exact bodyPost_ret (v := .agg #[.int .i64 (2), .string p.1, .string ⟨#[]⟩, .int .i64 ((n3 : Int)), .bool (false)]) (by simp [results, Tryz.results75, go_sem, d0, d1, d2, d3, d4]) rfl ⟨rfl, HF.out ⟨2, p.1, ⟨#[]⟩, (n3 : Int), false⟩⟩
     rw [if_neg h7] at HR
     have h7I : ¬ (n1 : Int) < 7 := by omega
     by_cases h10 : n1 < 10
     · rw [if_pos h10] at HR
       have h10I : (n1 : Int) < 10 := by omega
       have x0 := X3.out.1
       go_wp2_with fail
       clear x0
       refine (near_k _ k B r3 _ ns S3.out (HO.out.tchK HLO.out T3.out) HLO.out hn HPS.out).mono ?_
       rintro e w4 ⟨rfl, s4, t4⟩
       generalize r3.near ns = p at *
       have S4 : Hid (SRX w4 k B p.2) := s4
       have T4 := hd9 (T3.out.trans t4)
       have X4 := hd9 (X3.out.tch t4 hkW)
       clear s4 t4 S3 T3 X3
       go_wp2_with fail
       refine (data_x _ k B p.2 S4.out).mono ?_
       rintro e w5 ⟨rfl, s5, t5⟩
       generalize p.2.data = d at *
       have S5 : Hid (SRX w5 k B d.2) := s5
       have T5 := hd9 (T4.out.trans t5)
       have X5 := hd9 (X4.out.tch t5 hkW)
       clear s5 t5 S4 T4 X4
       have HF : Hid (∀ o : Op5, SRX (((((w5.setCell ⟨W.heap.size + 1, 0, none⟩ (.int .i64 o.kind)).setCell ⟨W.heap.size + 1, 1, none⟩ (.string o.path)).setCell ⟨W.heap.size + 1, 2, none⟩ (.string o.data)).setCell ⟨W.heap.size + 1, 3, none⟩ (.int .i64 o.ver)).setCell ⟨W.heap.size + 1, 4, none⟩ (.bool o.seq)) k B d.2 ∧ Tch k W (((((w5.setCell ⟨W.heap.size + 1, 0, none⟩ (.int .i64 o.kind)).setCell ⟨W.heap.size + 1, 1, none⟩ (.string o.path)).setCell ⟨W.heap.size + 1, 2, none⟩ (.string o.data)).setCell ⟨W.heap.size + 1, 3, none⟩ (.int .i64 o.ver)).setCell ⟨W.heap.size + 1, 4, none⟩ (.bool o.seq))) := fun o => HEND.out w5 o _ S5.out T5.out
       obtain ⟨-, d0, d1, d2, d3, d4, df, dz⟩ := X5.out
       have f0 := df 0
       have f1 := df 1
       have f2 := df 2
       have f3 := df 3
       have f4 := df 4
       clear df
       clear S5 T5 X5 HEND
       go_wp2
       rw [← HR.out]
       exact bodyPost_ret (v := .agg #[.int .i64 (3), .string p.1, .string d.1, .int .i64 ((n3 : Int)), .bool (false)]) (by simp [results, Tryz.results75, go_sem, d0, d1, d2, d3, d4]) rfl ⟨rfl, HF.out ⟨3, p.1, d.1, (n3 : Int), false⟩⟩
     rw [if_neg h10] at HR
     have h10I : ¬ (n1 : Int) < 10 := by omega
     have x0 := X3.out.1
     go_wp2_with fail
     clear x0
     refine (near_k _ k B r3 _ ns S3.out (HO.out.tchK HLO.out T3.out) HLO.out hn HPS.out).mono ?_
     rintro e w4 ⟨rfl, s4, t4⟩
     generalize r3.near ns = p at *
     have S4 : Hid (SRX w4 k B p.2) := s4
     have T4 := hd9 (T3.out.trans t4)
     have X4 := hd9 (X3.out.tch t4 hkW)
     clear s4 t4 S3 T3 X3
     have HF : Hid (∀ o : Op5, SRX (((((w4.setCell ⟨W.heap.size + 1, 0, none⟩ (.int .i64 o.kind)).setCell ⟨W.heap.size + 1, 1, none⟩ (.string o.path)).setCell ⟨W.heap.size + 1, 2, none⟩ (.string o.data)).setCell ⟨W.heap.size + 1, 3, none⟩ (.int .i64 o.ver)).setCell ⟨W.heap.size + 1, 4, none⟩ (.bool o.seq)) k B p.2 ∧ Tch k W (((((w4.setCell ⟨W.heap.size + 1, 0, none⟩ (.int .i64 o.kind)).setCell ⟨W.heap.size + 1, 1, none⟩ (.string o.path)).setCell ⟨W.heap.size + 1, 2, none⟩ (.string o.data)).setCell ⟨W.heap.size + 1, 3, none⟩ (.int .i64 o.ver)).setCell ⟨W.heap.size + 1, 4, none⟩ (.bool o.seq))) := fun o => HEND.out w4 o _ S4.out T4.out
     obtain ⟨-, d0, d1, d2, d3, d4, df, dz⟩ := X4.out
     have f0 := df 0
     have f1 := df 1
     have f2 := df 2
     have f3 := df 3
     have f4 := df 4
     clear df
     clear S4 T4 X4 HEND
     go_wp2
     rw [← HR.out]
     exact bodyPost_ret (v := .agg #[.int .i64 (4), .string p.1, .string ⟨#[]⟩, .int .i64 ((n3 : Int)), .bool (false)]) (by simp [results, Tryz.results75, go_sem, d0, d1, d2, d3, d4]) rfl ⟨rfl, HF.out ⟨4, p.1, ⟨#[]⟩, (n3 : Int), false⟩⟩
   · rw [if_neg h0] at HR
     have h0b : ((n2 : Int) == 0) = false := beq_eq_false_iff_ne.2 (by omega)
     by_cases h7 : n1 < 7
     · rw [if_pos h7] at HR
       have h7I : (n1 : Int) < 7 := by omega
       have x0 := X2.out.1
       go_wp2_with fail
       clear x0
       refine (near_k _ k B r2 _ ns S2.out (HO.out.tchK HLO.out T2.out) HLO.out hn HPS.out).mono ?_
       rintro e w3 ⟨rfl, s3, t3⟩
       generalize r2.near ns = p at *
       have S3 : Hid (SRX w3 k B p.2) := s3
       have T3 := hd9 (T2.out.trans t3)
       have X3 := hd9 (X2.out.tch t3 hkW)
       clear s3 t3 S2 T2 X2
       have HF : Hid (∀ o : Op5, SRX (((((w3.setCell ⟨W.heap.size + 1, 0, none⟩ (.int .i64 o.kind)).setCell ⟨W.heap.size + 1, 1, none⟩ (.string o.path)).setCell ⟨W.heap.size + 1, 2, none⟩ (.string o.data)).setCell ⟨W.heap.size + 1, 3, none⟩ (.int .i64 o.ver)).setCell ⟨W.heap.size + 1, 4, none⟩ (.bool o.seq)) k B p.2 ∧ Tch k W (((((w3.setCell ⟨W.heap.size + 1, 0, none⟩ (.int .i64 o.kind)).setCell ⟨W.heap.size + 1, 1, none⟩ (.string o.path)).setCell ⟨W.heap.size + 1, 2, none⟩ (.string o.data)).setCell ⟨W.heap.size + 1, 3, none⟩ (.int .i64 o.ver)).setCell ⟨W.heap.size + 1, 4, none⟩ (.bool o.seq))) := fun o => HEND.out w3 o _ S3.out T3.out
       obtain ⟨-, d0, d1, d2, d3, d4, df, dz⟩ := X3.out
       have f0 := df 0
       have f1 := df 1
       have f2 := df 2
       have f3 := df 3
       have f4 := df 4
       clear df
       clear S3 T3 X3 HEND
       go_wp2
       rw [← HR.out]
       exact bodyPost_ret (v := .agg #[.int .i64 (2), .string p.1, .string ⟨#[]⟩, .int .i64 (-1), .bool (false)]) (by simp [results, Tryz.results75, go_sem, d0, d1, d2, d3, d4]) rfl ⟨rfl, HF.out ⟨2, p.1, ⟨#[]⟩, -1, false⟩⟩
     rw [if_neg h7] at HR
     have h7I : ¬ (n1 : Int) < 7 := by omega
     by_cases h10 : n1 < 10
     · rw [if_pos h10] at HR
       have h10I : (n1 : Int) < 10 := by omega
       have x0 := X2.out.1
       go_wp2_with fail
       clear x0
       refine (near_k _ k B r2 _ ns S2.out (HO.out.tchK HLO.out T2.out) HLO.out hn HPS.out).mono ?_
       rintro e w3 ⟨rfl, s3, t3⟩
       generalize r2.near ns = p at *
       have S3 : Hid (SRX w3 k B p.2) := s3
       have T3 := hd9 (T2.out.trans t3)
       have X3 := hd9 (X2.out.tch t3 hkW)
       clear s3 t3 S2 T2 X2
       go_wp2_with fail
       refine (data_x _ k B p.2 S3.out).mono ?_
       rintro e w4 ⟨rfl, s4, t4⟩
       generalize p.2.data = d at *
       have S4 : Hid (SRX w4 k B d.2) := s4
       have T4 := hd9 (T3.out.trans t4)
       have X4 := hd9 (X3.out.tch t4 hkW)
       clear s4 t4 S3 T3 X3
       have HF : Hid (∀ o : Op5, SRX (((((w4.setCell ⟨W.heap.size + 1, 0, none⟩ (.int .i64 o.kind)).setCell ⟨W.heap.size + 1, 1, none⟩ (.string o.path)).setCell ⟨W.heap.size + 1, 2, none⟩ (.string o.data)).setCell ⟨W.heap.size + 1, 3, none⟩ (.int .i64 o.ver)).setCell ⟨W.heap.size + 1, 4, none⟩ (.bool o.seq)) k B d.2 ∧ Tch k W (((((w4.setCell ⟨W.heap.size + 1, 0, none⟩ (.int .i64 o.kind)).setCell ⟨W.heap.size + 1, 1, none⟩ (.string o.path)).setCell ⟨W.heap.size + 1, 2, none⟩ (.string o.data)).setCell ⟨W.heap.size + 1, 3, none⟩ (.int .i64 o.ver)).setCell ⟨W.heap.size + 1, 4, none⟩ (.bool o.seq))) := fun o => HEND.out w4 o _ S4.out T4.out
       obtain ⟨-, d0, d1, d2, d3, d4, df, dz⟩ := X4.out
       have f0 := df 0
       have f1 := df 1
       have f2 := df 2
       have f3 := df 3
       have f4 := df 4
       clear df
       clear S4 T4 X4 HEND
       go_wp2
       rw [← HR.out]
       exact bodyPost_ret (v := .agg #[.int .i64 (3), .string p.1, .string d.1, .int .i64 (-1), .bool (false)]) (by simp [results, Tryz.results75, go_sem, d0, d1, d2, d3, d4]) rfl ⟨rfl, HF.out ⟨3, p.1, d.1, -1, false⟩⟩
     rw [if_neg h10] at HR
     have h10I : ¬ (n1 : Int) < 10 := by omega
     have x0 := X2.out.1
     go_wp2_with fail
     clear x0
     refine (near_k _ k B r2 _ ns S2.out (HO.out.tchK HLO.out T2.out) HLO.out hn HPS.out).mono ?_
     rintro e w3 ⟨rfl, s3, t3⟩
     generalize r2.near ns = p at *
     have S3 : Hid (SRX w3 k B p.2) := s3
     have T3 := hd9 (T2.out.trans t3)
     have X3 := hd9 (X2.out.tch t3 hkW)
     clear s3 t3 S2 T2 X2
     have HF : Hid (∀ o : Op5, SRX (((((w3.setCell ⟨W.heap.size + 1, 0, none⟩ (.int .i64 o.kind)).setCell ⟨W.heap.size + 1, 1, none⟩ (.string o.path)).setCell ⟨W.heap.size + 1, 2, none⟩ (.string o.data)).setCell ⟨W.heap.size + 1, 3, none⟩ (.int .i64 o.ver)).setCell ⟨W.heap.size + 1, 4, none⟩ (.bool o.seq)) k B p.2 ∧ Tch k W (((((w3.setCell ⟨W.heap.size + 1, 0, none⟩ (.int .i64 o.kind)).setCell ⟨W.heap.size + 1, 1, none⟩ (.string o.path)).setCell ⟨W.heap.size + 1, 2, none⟩ (.string o.data)).setCell ⟨W.heap.size + 1, 3, none⟩ (.int .i64 o.ver)).setCell ⟨W.heap.size + 1, 4, none⟩ (.bool o.seq))) := fun o => HEND.out w3 o _ S3.out T3.out
     obtain ⟨-, d0, d1, d2, d3, d4, df, dz⟩ := X3.out
     have f0 := df 0
     have f1 := df 1
     have f2 := df 2
     have f3 := df 3
     have f4 := df 4
     clear df
     clear S3 T3 X3 HEND
     go_wp2
     rw [← HR.out]
     exact bodyPost_ret (v := .agg #[.int .i64 (4), .string p.1, .string ⟨#[]⟩, .int .i64 (-1), .bool (false)]) (by simp [results, Tryz.results75, go_sem, d0, d1, d2, d3, d4]) rfl ⟨rfl, HF.out ⟨4, p.1, ⟨#[]⟩, -1, false⟩⟩
theorem op_x (W : World) (k B lo : Nat) (s : Sr) (v : Value) (ns : List Nd) (h : SRX W k B s) (ho : OwnN 85 W lo v ns) (hlo : k < lo) (hn : ns.length ≤ 1000000) (hps : ∀ i, i < ns.length → (nAt ns i).path.size ≤ 1000) :
    Calls Tryz.prog 75 #[.pointer (some ⟨k, 0, none⟩), .agg #[v]] W fun e w' => e = .returned (.agg #[.int .i64 (s.op ns).1.kind, .string (s.op ns).1.path, .string (s.op ns).1.data, .int .i64 (s.op ns).1.ver, .bool (s.op ns).1.seq]) ∧ SRX w' k B (s.op ns).2 ∧ Tch k W w' := op_k W k B s v ns h ho.rd (OwnN.offK ho hlo) hn hps
end Go.Proofs.YtcopcegamadkgaaGreatDoor
namespace Go.Proofs.YtcopcegamadkgaaGreatDoor
open Go.RowKit Go.Shelf
def chN (ns : List Nd) (p : ByteArray) : List Nd := ns.filter fun n => chB n.path p
theorem chN_yes (ns : List Nd) (p : ByteArray) (k : Nat) (h : k < ns.length) (hc : chB (nAt ns k).path p = true) : chN (ns.take (k + 1)) p = chN (ns.take k) p ++ [nAt ns k] := by
 unfold chN
 rw [List.take_succ_eq_append_getElem h, List.filter_append, ← nAt_get h]
 simp [hc]
theorem chN_no (ns : List Nd) (p : ByteArray) (k : Nat) (h : k < ns.length) (hc : chB (nAt ns k).path p = false) : chN (ns.take (k + 1)) p = chN (ns.take k) p := by
 unfold chN
 rw [List.take_succ_eq_append_getElem h, List.filter_append, ← nAt_get h]
 simp [hc]
theorem chN_len (ns : List Nd) (p : ByteArray) : (chN ns p).length ≤ ns.length := List.length_filter_le _ _
theorem okNd_path {n : Nd} (h : okNd n = true) : okPath n.path = true := by
 unfold okNd at h
 simp only [Bool.and_eq_true] at h
 exact h.1.1.1.1.1.1
theorem l3Below_any (w : World) (v : Value) (ns : List Nd) (p : ByteArray) (h : RdN w v ns) (hn : ns.length ≤ 1000) (hok : ∀ k, k < ns.length → okNd (nAt ns k) = true) :
    Calls Tryz.prog 173 #[v, .string p] w fun e w' => ∃ v', e = .returned v' ∧ OwnN 85 w' w.heap.size v' (chN ns p) ∧ Below w.heap.size w w' := by
 obtain ⟨i0, hi, hz0, hz1, hz2⟩ := info_parts Tryz.infoN
 obtain ⟨ao, ca, rfl, _, _⟩ := h.len
 have HR : Hid (RdN w (.slice ao ns.length ca) ns) := h
 have HOK : Hid (∀ k, k < ns.length → okNd (nAt ns k) = true) := hok
 have O0 : Hid (OwnN 85 (w.alloc (.cells #[] 85)) w.heap.size (.slice (some ⟨w.heap.size, 0, none⟩) 0 0) (chN (ns.take 0) p)) := World.ownsRow_lit w #[] 0 (Nat.le_refl _) (Nat.zero_le _) rfl
 have B0 : Hid (Below w.heap.size w (w.alloc (.cells #[] 85))) := (Below.refl _ _).alloc (Nat.le_refl _) _
 generalize hnn : ns.length = n at *
 have HP : Hid (ns.length = n) := hnn
 clear h hok hnn
 go_enter Tryz.func173, Tryz.ntmps173
 go_wp2
 go_loopw [5, 6] (fun vo vk wr => ∃ k : Nat, k ≤ n ∧ vk = .int .i64 k ∧ Hid (OwnN 85 wr w.heap.size vo (chN (ns.take k) p)) ∧ Hid (Below w.heap.size w wr)) (fun _ i _ => n - (intOf i).toNat)
 case atStart => exact ⟨0, Nat.zero_le _, rfl, O0, B0⟩
 case round =>
  obtain ⟨k, hk, rfl, HW, HB⟩ := hrel
  have sB := HB.out.size
  by_cases hlt : k < n
  · have hltI : (k : Int) < (n : Int) := by omega
    obtain ⟨b, o, hao, hb, hc⟩ : ∃ b o, ao = some ⟨b, o, none⟩ ∧ b < w.heap.size ∧ CellsN w b (o + k * 7) (nAt ns k) := by
     obtain ⟨ao', cap', e', -, -, h3⟩ := HR.out
     simp only [Value.slice.injEq] at e'
     obtain ⟨rfl, -, -⟩ := e'
     rcases h3 with h3 | ⟨b, o, rfl, hb, hc⟩
     · have := HP.out; rw [h3] at this; simp at this; omega
     · exact ⟨b, o, rfl, hb, hc k (by rw [HP.out]; exact hlt)⟩
    subst hao
    have HCk : Hid (CellsN w b (o + k * 7) (nAt ns k)) := hc
    clear hc
    obtain ⟨c0, c1, c2, c3, c4, c5, c6⟩ := HCk.out.below HB.out hb
    have hok := HOK.out k hlt
    have hll : (chN (ns.take k) p).length ≤ 1000 := by
     have := chN_len (ns.take k) p
     rw [List.length_take] at this
     omega
    cases hA : ((nAt ns k).path.toList == [47]) with
    | true =>
     have HS : Hid (chN (ns.take (k + 1)) p = chN (ns.take k) p) := by show _ = _; exact chN_no ns p k (by rw [HP.out]; exact hlt) (by unfold chB; rw [hA]; rfl)
     go_wp2
     exact ⟨⟨k + 1, by omega, by go_num, (by rw [HS.out]; exact HW), HB⟩, by simp [intOf]; omega⟩
    | false =>
     go_wp2_with fail
     refine (l3Parent_any wr (nAt ns k).path (okNd_path hok)).mono ?_
     rintro e w3 ⟨rfl, b3⟩
     have O3 := hd9 (HW.out.below b3)
     have B3 := hd9 (HB.out.trans (b3.mono sB))
     have s3 := B3.out.size
     clear c0 c1 c2 c3 c4 c5 c6 b3 HW HB
     obtain ⟨c0, c1, c2, c3, c4, c5, c6⟩ := HCk.out.below B3.out hb
     unfold sV
     cases hB : (parL (nAt ns k).path == p.toList) with
     | false =>
      have HS : Hid (chN (ns.take (k + 1)) p = chN (ns.take k) p) := by show _ = _; exact chN_no ns p k (by rw [HP.out]; exact hlt) (by unfold chB; rw [hA, hB]; rfl)
      go_wp2
      exact ⟨⟨k + 1, by omega, by go_num, (by rw [HS.out]; exact O3), B3⟩, by simp [intOf]; omega⟩
     | true =>
      have HS : Hid (chN (ns.take (k + 1)) p = chN (ns.take k) p ++ [nAt ns k]) := by show _ = _; exact chN_yes ns p k (by rw [HP.out]; exact hlt) (by unfold chB; rw [hA, hB]; rfl)
      generalize chN (ns.take k) p = Lk at *
      generalize nAt ns k = m at *
      have OR : Hid (w3.ownsRow w.heap.size 85 7 u5 Lk.length (nrow Lk)) := O3.out
      go_wp2_with (at_builtin; go_must (refine wpList_append_own _ rfl _ _ 23 rfl w.heap.size 85 i0 (.agg #[.string ByteArray.empty, .string ByteArray.empty, .int .i64 0, .int .i64 0, .int .i64 0, .int .i64 0, .int .i64 0]) 7 72 Tryz.underlying23 hi hz0 hz1 hz2 rfl (by decide) _ _ _ rfl (OR.out.alloc _) ⟨w3.heap.size, 0, none⟩ 1 1 (ndL m) rfl rfl (ndL_cells w3 m _) (ndL_one m) ?_ ?_ ?_ ?_))
      · unfold maxLen; omega
      · omega
      · simp; omega
      intro v5 w5 ho5 hg5 _
      have O5 : Hid (OwnN 85 w5 w.heap.size v5 (chN (ns.take (k + 1)) p)) := by
       rw [HS.out]
       unfold OwnN
       rw [List.length_append, nrow_one]
       exact ho5
      have B5 : Hid (Below w.heap.size w w5) := (B3.out.alloc s3 _).grown hg5 (by simp; omega) (fun q hq => (World.ownsRow.lt OR.out q hq).1)
      clear ho5 hg5 OR O3 B3 HS c0 c1 c2 c3 c4 c5 c6
      go_wp2
      exact ⟨⟨k + 1, by omega, by go_num, O5, B5⟩, by simp [intOf]; omega⟩
  · have hkn : k = n := by omega
    subst hkn
    go_wp2
    go_ret
    refine ⟨_, rfl, ?_, HB.out⟩
    have := HW.out
    rw [List.take_of_length_le (by rw [HP.out]; exact Nat.le_refl _)] at this
    exact this
def parB (s : ByteArray) : ByteArray := ⟨(parL s).toArray⟩
def nameO (ns : List Nd) (o : Op5) : ByteArray := if o.seq then ⟨(o.path.data.toList ++ six 12 (nAt ns (ns.findIdx (isP (parB o.path)))).cver.toNat 6).toArray⟩ else o.path
def doO (ns : List Nd) (o : Op5) (z : Int) : Int × List Nd × ByteArray :=
 if !wfO o then (1, ns, ⟨#[]⟩)
 else if o.kind = 1 then
  if ¬ ns.findIdx (isP (parB o.path)) < ns.length then (2, ns, ⟨#[]⟩)
  else if !okPath (nameO ns o) then (1, ns, ⟨#[]⟩)
  else if ns.findIdx (isP (nameO ns o)) < ns.length then (3, ns, ⟨#[]⟩)
  else if ns.length = 1000 then (6, ns, ⟨#[]⟩)
  else (0, toN (wiN ns ⟨nameO ns o, o.data, 0, 0, z, z, z⟩) (parB o.path) z, nameO ns o)
 else if ¬ ns.findIdx (isP o.path) < ns.length then (2, ns, ⟨#[]⟩)
 else if o.ver ≠ -1 ∧ o.ver ≠ (nAt ns (ns.findIdx (isP o.path))).ver then (4, ns, ⟨#[]⟩)
 else if o.kind = 2 then
  if 0 < (chN ns o.path).length then (5, ns, ⟨#[]⟩) else (0, toN (woN ns o.path) (parB o.path) z, o.path)
 else if o.kind = 3 then (0, wiN ns { nAt ns (ns.findIdx (isP o.path)) with data := o.data, ver := mor (nAt ns (ns.findIdx (isP o.path))).ver, mz := z }, o.path)
 else (0, ns, o.path)
theorem stW_mem {n a y : Nd} {st : List Nd × Bool} (h : y ∈ (stW n st a).1) : y ∈ st.1 ∨ y = n ∨ y = a := by
 unfold stW at h
 dsimp only at h
 generalize (!st.2 && !(Op.bytesLess a.path.toList n.path.toList)) = c1 at h
 generalize (a.path.toList == n.path.toList) = c2 at h
 cases c1 <;> cases c2 <;> simp at h <;> grind
theorem wi_mem {ns : List Nd} {n m : Nd} (h : m ∈ wiN ns n) : m ∈ ns ∨ m = n := by
 have key : ∀ (l : List Nd) (st : List Nd × Bool), (∀ x ∈ st.1, x ∈ ns ∨ x = n) → (∀ x ∈ l, x ∈ ns) → ∀ x ∈ (l.foldl (stW n) st).1, x ∈ ns ∨ x = n := by
  intro l
  induction l with
  | nil => intro st h1 _ x hx; exact h1 x hx
  | cons a l ih =>
   intro st h1 h2 x hx
   refine ih (stW n st a) ?_ (fun y hy => h2 y (List.mem_cons_of_mem _ hy)) x hx
   intro y hy
   rcases stW_mem hy with h3 | h3 | h3
   · exact h1 y h3
   · exact .inr h3
   · exact .inl (h3 ▸ h2 a (List.mem_cons_self ..))
 unfold wiN wiF at h
 split at h
 · exact key ns ([], false) (fun x hx => by simp at hx) (fun x hx => hx) m h
 · rcases List.mem_append.1 h with h | h
   · exact key ns ([], false) (fun x hx => by simp at hx) (fun x hx => hx) m h
   · simp at h; exact .inr h
theorem cv_of {ns : List Nd} (h : ∀ k, k < ns.length → okNd (nAt ns k) = true) : ∀ m ∈ ns, -1 ≤ m.cver ∧ m.cver ≤ 2147483647 := by
 intro m hm
 obtain ⟨i, hi, rfl⟩ := List.mem_iff_getElem.1 hm
 have := h i hi
 rw [nAt_get hi] at this
 unfold okNd okS at this
 simp only [Bool.and_eq_true, decide_eq_true_eq] at this
 omega
theorem cv_at {ns : List Nd} (h : ∀ m ∈ ns, -1 ≤ m.cver ∧ m.cver ≤ 2147483647) : ∀ k, k < ns.length → -1 ≤ (nAt ns k).cver ∧ (nAt ns k).cver ≤ 2147483647 := by
 intro k hk
 rw [nAt_get hk]
 exact h _ (List.getElem_mem hk)
theorem l3Do_bad (w : World) (v : Value) (ns : List Nd) (o : Op5) (z : Int) (h : RdN w v ns) (hp : o.path.size ≤ 1048576) (hd : o.data.size ≤ 1048576) (hw : wfO o = false) :
    Calls Tryz.prog 133 #[v, .agg #[.int .i64 o.kind, .string o.path, .string o.data, .int .i64 o.ver, .bool o.seq], .int .i64 z] w fun e w' => ∃ v', e = .returned (.tuple #[.int .i64 (doO ns o z).1, v', .string (doO ns o z).2.2]) ∧ RdN w' v' (doO ns o z).2.1 ∧ Fresh w v v' ∧ Below w.heap.size w w' := by
 obtain ⟨ao, ca, rfl, _, _⟩ := h.len
 have HR : Hid (RdN w (.slice ao ns.length ca) ns) := h
 have HD : Hid (doO ns o z = (1, ns, ⟨#[]⟩)) := by show _ = _; unfold doO; rw [hw]; rfl
 have HW : Hid (wfO o = false) := hw
 have B0 : Hid (Below w.heap.size w (w.alloc (.cells #[.int .i64 o.kind, .string o.path, .string o.data, .int .i64 o.ver, .bool o.seq] 123))) := (Below.refl _ _).alloc (Nat.le_refl _) _
 clear h hw
 go_enter Tryz.func133, Tryz.ntmps133
 go_wp2_with fail
 refine (l3Well_any _ o hp hd).mono ?_
 rintro e w1 ⟨rfl, b1⟩
 rw [HW.out]
 have R1 := hd9 (HR.out.below (B0.out.trans (b1.mono B0.out.size)))
 have B1 := hd9 (B0.out.trans (b1.mono B0.out.size))
 clear b1
 go_wp2
 rw [HD.out]
 exact bodyPost_ret (v := .tuple #[.int .i64 1, .slice ao ns.length ca, .string ⟨#[]⟩]) (by simp [results, Tryz.results133, go_sem]) rfl ⟨_, rfl, R1.out, .inl rfl, B1.out⟩
structure BoxO (w : World) (B : Nat) (o : Op5) : Prop where
 lt : B < w.heap.size
 c0 : w.cell? ⟨B, 0, none⟩ = some (.int .i64 o.kind)
 c1 : w.cell? ⟨B, 1, none⟩ = some (.string o.path)
 c2 : w.cell? ⟨B, 2, none⟩ = some (.string o.data)
 c3 : w.cell? ⟨B, 3, none⟩ = some (.int .i64 o.ver)
 c4 : w.cell? ⟨B, 4, none⟩ = some (.bool o.seq)
theorem BoxO.new (w : World) (o : Op5) (t : TypeId) : BoxO (w.alloc (.cells #[.int .i64 o.kind, .string o.path, .string o.data, .int .i64 o.ver, .bool o.seq] t)) w.heap.size o :=
 ⟨by simp, by simp, by simp, by simp, by simp, by simp⟩
theorem BoxO.below {w w' : World} {B : Nat} {o : Op5} (h : BoxO w B o) (hb : Below w.heap.size w w') : BoxO w' B o :=
 ⟨Nat.lt_of_lt_of_le h.lt hb.size, (hb.cell (p := ⟨B, _, none⟩) h.lt).trans h.c0, (hb.cell (p := ⟨B, _, none⟩) h.lt).trans h.c1, (hb.cell (p := ⟨B, _, none⟩) h.lt).trans h.c2, (hb.cell (p := ⟨B, _, none⟩) h.lt).trans h.c3, (hb.cell (p := ⟨B, _, none⟩) h.lt).trans h.c4⟩
def DoPost (w : World) (v : Value) (ns : List Nd) (o : Op5) (z : Int) (e : Ending) (w' : World) : Prop := ∃ v', e = .returned (.tuple #[.int .i64 (doO ns o z).1, v', .string (doO ns o z).2.2]) ∧ RdN w' v' (doO ns o z).2.1 ∧ Fresh w v v' ∧ Below w.heap.size w w'
theorem wiN_len (ns : List Nd) (n : Nd) : (wiN ns n).length ≤ 2 * ns.length + 1 := by
 have := wiF_len ns n ns.length
 rw [List.take_length] at this
 unfold wiN
 split
 · omega
 · simp; omega
theorem wfO_path {o : Op5} (h : wfO o = true) : okPath o.path = true ∧ o.data.size ≤ 64 := by
 unfold wfO at h
 simp only [Bool.and_eq_true, decide_eq_true_eq] at h
 exact ⟨h.1.1.1.2, h.1.1.2⟩
theorem l3Do_create (w : World) (v : Value) (ns : List Nd) (o : Op5) (z : Int) (h : RdN w v ns) (hn : ns.length ≤ 1000) (hok : ∀ k, k < ns.length → okNd (nAt ns k) = true) (hp : o.path.size ≤ 1048576) (hd : o.data.size ≤ 1048576) (hw : wfO o = true) (hk : o.kind = 1) :
    Calls Tryz.prog 133 #[v, .agg #[.int .i64 o.kind, .string o.path, .string o.data, .int .i64 o.ver, .bool o.seq], .int .i64 z] w fun e w' => DoPost w v ns o z e w' := by
 obtain ⟨ao, ca, rfl, _, _⟩ := h.len
 have HR : Hid (RdN w (.slice ao ns.length ca) ns) := h
 have HO : Hid (∀ k, k < ns.length → okNd (nAt ns k) = true) := hok
 have HW : Hid (wfO o = true) := hw
 have hkb : (o.kind == 1) = true := by simp [hk]
 have HD : Hid (doO ns o z = if ¬ ns.findIdx (isP (parB o.path)) < ns.length then (2, ns, ⟨#[]⟩)
  else if !okPath (nameO ns o) then (1, ns, ⟨#[]⟩)
  else if ns.findIdx (isP (nameO ns o)) < ns.length then (3, ns, ⟨#[]⟩)
  else if ns.length = 1000 then (6, ns, ⟨#[]⟩)
  else (0, toN (wiN ns ⟨nameO ns o, o.data, 0, 0, z, z, z⟩) (parB o.path) z, nameO ns o)) := by show _ = _; unfold doO; rw [hw, if_pos hk]; rfl
 have HPP := (wfO_path hw).1
 have B0 : Hid (Below w.heap.size w (w.alloc (.cells #[.int .i64 o.kind, .string o.path, .string o.data, .int .i64 o.ver, .bool o.seq] 123))) := (Below.refl _ _).alloc (Nat.le_refl _) _
 have X0 : Hid (BoxO (w.alloc (.cells #[.int .i64 o.kind, .string o.path, .string o.data, .int .i64 o.ver, .bool o.seq] 123)) w.heap.size o) := BoxO.new _ _ _
 have HPK : Hid (okPath o.path = true) := HPP
 clear h hw hok hk HPP
 go_enter Tryz.func133, Tryz.ntmps133
 go_wp2_with fail
 generalize w.alloc (.cells #[.int .i64 o.kind, .string o.path, .string o.data, .int .i64 o.ver, .bool o.seq] 123) = w0 at *
 refine (l3Well_any _ o hp hd).mono ?_
 rintro e w1 ⟨rfl, b1⟩
 rw [HW.out]
 have B1 := hd9 (B0.out.trans (b1.mono B0.out.size))
 have X1 := hd9 (X0.out.below b1)
 clear b1 B0 X0
 obtain ⟨xl, c0, c1, c2, c3, c4⟩ := X1.out
 go_wp2_with fail
 refine (l3Parent_any _ o.path HPK.out).mono ?_
 rintro e w2 ⟨rfl, b2⟩
 have B2 := hd9 (B1.out.trans (b2.mono B1.out.size))
 have X2 := hd9 (X1.out.below b2)
 clear b2 B1 X1 xl c0 c1 c2 c3 c4
 go_wp2_with fail
 rw [show sV (parL o.path) = .string (parB o.path) from rfl]
 generalize hpb : parB o.path = pb at *
 have HPB : Hid (parB o.path = pb) := hpb
 clear hpb
 refine (l3Find_any w2 _ ns pb (HR.out.below B2.out) (by omega)).mono ?_
 rintro e w3 ⟨rfl, rfl⟩
 by_cases hf : ns.findIdx (isP pb) < ns.length
 rotate_left
 · rw [if_pos hf] at HD
   rw [show fdV ns pb = -1 by unfold fdV; rw [if_neg hf]]
   clear hf
   go_wp2
   exact bodyPost_ret (v := .tuple #[.int .i64 2, .slice ao ns.length ca, .string ⟨#[]⟩]) (by simp [results, Tryz.results133, go_sem]) rfl ⟨_, by rw [HD.out], by rw [HD.out]; exact HR.out.below B2.out, .inl rfl, B2.out⟩
 rw [if_neg (by simpa using hf)] at HD
 rw [show fdV ns pb = ((ns.findIdx (isP pb) : Nat) : Int) by unfold fdV; rw [if_pos hf]]
 have HNM : Hid (nameO ns o = if o.seq then ⟨(o.path.data.toList ++ six 12 (nAt ns (ns.findIdx (isP pb))).cver.toNat 6).toArray⟩ else o.path) := by show _ = _; unfold nameO; rw [HPB.out]
 generalize ns.findIdx (isP pb) = k at *
 have hI : ¬ (k : Int) < 0 := by omega
 have hkI : (k : Int) < (ns.length : Int) := by omega
 obtain ⟨b, oo, hao, hb, hc⟩ : ∃ b o, ao = some ⟨b, o, none⟩ ∧ b < w.heap.size ∧ CellsN w b (o + k * 7) (nAt ns k) := by
  obtain ⟨ao', cap', e', -, -, h3⟩ := HR.out
  simp only [Value.slice.injEq] at e'
  obtain ⟨rfl, -, -⟩ := e'
  rcases h3 with h3 | ⟨b, o, rfl, hb, hc⟩
  · rw [h3] at hf; simp at hf
  · exact ⟨b, o, rfl, hb, hc k hf⟩
 subst hao
 have hcvk := cv_at (cv_of HO.out) k hf
 have hcv0 : 0 ≤ (nAt ns k).cver := by
  have := HO.out k hf
  unfold okNd okS at this
  simp only [Bool.and_eq_true, decide_eq_true_eq] at this
  omega
 obtain ⟨a0, a1, a2, a3, a4, a5, a6⟩ := hc.below B2.out hb
 generalize nAt ns k = m at *
 clear hc
 obtain ⟨xl, c0, c1, c2, c3, c4⟩ := X2.out
 cases hsq : o.seq with
 | false =>
  rw [hsq] at c4
  have HNE : Hid (nameO ns o = o.path) := by show _ = _; rw [HNM.out, hsq]; rfl
  clear a0 a1 a2 a4 a5 a6
  go_wp2_with fail
  clear xl c0 c1 c2 c3 c4 a3
  have B4 : Hid (Below w.heap.size w w3) := B2.out
  have X4 : Hid (BoxO w3 w.heap.size o) := X2.out
  have hns : o.path.size ≤ 1000000 := by have := okPath_size HPK.out; omega
  clear B2 X2 HNM
  rw [HNE.out] at HD
  generalize o.path = nm at *
  refine (specPath_any w3 nm (by omega)).mono ?_
  rintro e w5 ⟨rfl, b5⟩
  have B5 := hd9 (B4.out.trans (b5.mono B4.out.size))
  have X5 := hd9 (X4.out.below b5)
  clear b5 B4 X4
  cases hok2 : okPath nm with
  | false =>
   rw [hok2] at HD
   clear hok2
   go_wp2
   exact bodyPost_ret (v := .tuple #[.int .i64 1, .slice (some ⟨b, oo, none⟩) ns.length ca, .string ⟨#[]⟩]) (by simp [results, Tryz.results133, go_sem]) rfl ⟨_, by rw [HD.out]; rfl, by rw [HD.out]; exact HR.out.below B5.out, .inl rfl, B5.out⟩
  | true =>
   rw [hok2] at HD
   clear hok2
   go_wp2_with fail
   refine (l3Find_any w5 _ ns nm (HR.out.below B5.out) (by omega)).mono ?_
   rintro e w6 ⟨rfl, rfl⟩
   by_cases hg : ns.findIdx (isP nm) < ns.length
   · have hgI : (0 : Int) ≤ ((ns.findIdx (isP nm) : Nat) : Int) := by omega
     rw [show fdV ns nm = ((ns.findIdx (isP nm) : Nat) : Int) by unfold fdV; rw [if_pos hg]]
     simp only [Bool.not_true, Bool.false_eq_true, if_false] at HD
     rw [if_pos hg] at HD
     generalize ns.findIdx (isP nm) = g at *
     go_wp2
     exact bodyPost_ret (v := .tuple #[.int .i64 3, .slice (some ⟨b, oo, none⟩) ns.length ca, .string ⟨#[]⟩]) (by simp [results, Tryz.results133, go_sem]) rfl ⟨_, by rw [HD.out], by rw [HD.out]; exact HR.out.below B5.out, .inl rfl, B5.out⟩
   · rw [show fdV ns nm = -1 by unfold fdV; rw [if_neg hg]]
     simp only [Bool.not_true, Bool.false_eq_true, if_false] at HD
     rw [if_neg hg] at HD
     clear hg
     by_cases h1000 : ns.length = 1000
     · rw [if_pos h1000] at HD
       have hlb : ((ns.length : Int) == 1000) = true := by simp; omega
       clear h1000
       go_wp2
       exact bodyPost_ret (v := .tuple #[.int .i64 6, .slice (some ⟨b, oo, none⟩) ns.length ca, .string ⟨#[]⟩]) (by simp [results, Tryz.results133, go_sem]) rfl ⟨_, by rw [HD.out], by rw [HD.out]; exact HR.out.below B5.out, .inl rfl, B5.out⟩
     · rw [if_neg h1000] at HD
       have hlb : ((ns.length : Int) == 1000) = false := by simp; omega
       clear h1000
       obtain ⟨xl, c0, c1, c2, c3, c4⟩ := X5.out
       go_wp2_with fail
       clear xl c0 c1 c2 c3 c4
       have ba : Below w6.heap.size w6 (w6.alloc (.cells #[.string nm, .string o.data, .int .i64 0, .int .i64 0, .int .i64 z, .int .i64 z, .int .i64 z] 85)) := (Below.refl _ _).alloc (Nat.le_refl _) _
       have B6 := hd9 (B5.out.trans (ba.mono B5.out.size))
       clear ba
       generalize w6.alloc (.cells #[.string nm, .string o.data, .int .i64 0, .int .i64 0, .int .i64 z, .int .i64 z, .int .i64 z] 85) = w6' at *
       refine (with_any _ _ ns ⟨nm, o.data, 0, 0, z, z, z⟩ (HR.out.below B6.out) (by omega)).mono ?_
       rintro e w7 ⟨v7, rfl, o7, b7⟩
       obtain ⟨a7, k7, hv7⟩ := o7.slice
       subst hv7
       have hwl := wiN_len ns ⟨nm, o.data, 0, 0, z, z, z⟩
       have HCV : Hid (∀ k, k < (wiN ns ⟨nm, o.data, 0, 0, z, z, z⟩).length → -1 ≤ (nAt (wiN ns ⟨nm, o.data, 0, 0, z, z, z⟩) k).cver ∧ (nAt (wiN ns ⟨nm, o.data, 0, 0, z, z, z⟩) k).cver ≤ 2147483647) := cv_at (fun m hm => by
        rcases wi_mem hm with h9 | h9
        · exact cv_of HO.out m h9
        · rw [h9]; simp)
       have R7 : Hid (RdN w7 (.slice a7 (wiN ns ⟨nm, o.data, 0, 0, z, z, z⟩).length k7) (wiN ns ⟨nm, o.data, 0, 0, z, z, z⟩)) := o7.rd
       have F7 : Hid (New w (.slice a7 (wiN ns ⟨nm, o.data, 0, 0, z, z, z⟩).length k7)) := OwnN.new9 o7 B6.out.size
       have B7 := hd9 (B6.out.trans (b7.mono B6.out.size))
       clear o7 b7 B6 B5 X5
       generalize wiN ns ⟨nm, o.data, 0, 0, z, z, z⟩ = WN at *
       go_wp2_with fail
       refine (l3Touch_any w7 _ WN pb z R7.out (by omega) HCV.out).mono ?_
       rintro e w8 ⟨v8, rfl, r8, f8, b8⟩
       obtain ⟨a8, k8, hv8, -, -⟩ := r8.len
       subst hv8
       have R8 : Hid (RdN w8 (.slice a8 (toN WN pb z).length k8) (toN WN pb z)) := r8
       have F8 : Hid (New w (.slice a8 (toN WN pb z).length k8)) := f8.new F7.out B7.out.size
       have B8 := hd9 (B7.out.trans (b8.mono B7.out.size))
       clear r8 f8 b8 B7 R7 F7 HCV
       go_wp2
       exact bodyPost_ret (v := .tuple #[.int .i64 0, .slice a8 (toN WN pb z).length k8, .string nm]) (by simp [results, Tryz.results133, go_sem]) rfl ⟨_, by rw [HD.out], by rw [HD.out]; exact R8.out, .inr F8.out, B8.out⟩
 | true =>
  rw [hsq] at c4
  obtain ⟨cvn, hcvn⟩ : ∃ n : Nat, m.cver = (n : Int) := ⟨m.cver.toNat, by omega⟩
  rw [hcvn] at a3
  clear a0 a1 a2 a4 a5 a6
  have h10 : cvn < 10 ^ 11 := by
   have : (10 : Nat) ^ 11 = 100000000000 := by decide
   omega
  go_wp2_with fail
  refine (l3Six_any 11 w3 cvn 6 (by omega) h10 (by omega) (by decide) (by omega) (by omega)).mono ?_
  rintro e w4 ⟨rfl, b4⟩
  have h6 := six_len 12 cvn 6
  have hps := okPath_size HPK.out
  have HNE : Hid (nameO ns o = o.path ++ ⟨(six 12 cvn 6).toArray⟩) := by
   show _ = _
   rw [HNM.out, hsq, hcvn]
   apply ByteArray.ext
   simp [ByteArray.data_append]
  have hsz : (o.path ++ (⟨(six 12 cvn 6).toArray⟩ : ByteArray)).size ≤ 1000000 := by
   rw [ByteArray.size_append]
   have : (⟨(six 12 cvn 6).toArray⟩ : ByteArray).size = (six 12 cvn 6).length := by simp [ByteArray.size]
   omega
  have B4 := hd9 (B2.out.trans (b4.mono B2.out.size))
  have X4 := hd9 (X2.out.below b4)
  clear b4 B2 X2 HNM xl c0 c1 c2 c3 c4 a3 h10
  have e66 : (6 : Int).toNat = 6 := rfl
  rw [e66]
  clear e66
  generalize six 12 cvn 6 = SX at *
  have hlS : o.path.size + SX.length ≤ 9223372036854775807 := by omega
  go_wp2_with fail
  rw [HNE.out] at HD
  clear HNE
  have hns := hsz
  clear hsz hlS
  generalize o.path ++ (⟨SX.toArray⟩ : ByteArray) = nm at *
  refine (specPath_any w4 nm (by omega)).mono ?_
  rintro e w5 ⟨rfl, b5⟩
  have B5 := hd9 (B4.out.trans (b5.mono B4.out.size))
  have X5 := hd9 (X4.out.below b5)
  clear b5 B4 X4
  cases hok2 : okPath nm with
  | false =>
   rw [hok2] at HD
   clear hok2
   go_wp2
   exact bodyPost_ret (v := .tuple #[.int .i64 1, .slice (some ⟨b, oo, none⟩) ns.length ca, .string ⟨#[]⟩]) (by simp [results, Tryz.results133, go_sem]) rfl ⟨_, by rw [HD.out]; rfl, by rw [HD.out]; exact HR.out.below B5.out, .inl rfl, B5.out⟩
  | true =>
   rw [hok2] at HD
   clear hok2
   go_wp2_with fail
   refine (l3Find_any w5 _ ns nm (HR.out.below B5.out) (by omega)).mono ?_
   rintro e w6 ⟨rfl, rfl⟩
   by_cases hg : ns.findIdx (isP nm) < ns.length
   · have hgI : (0 : Int) ≤ ((ns.findIdx (isP nm) : Nat) : Int) := by omega
     rw [show fdV ns nm = ((ns.findIdx (isP nm) : Nat) : Int) by unfold fdV; rw [if_pos hg]]
     simp only [Bool.not_true, Bool.false_eq_true, if_false] at HD
     rw [if_pos hg] at HD
     generalize ns.findIdx (isP nm) = g at *
     go_wp2
     exact bodyPost_ret (v := .tuple #[.int .i64 3, .slice (some ⟨b, oo, none⟩) ns.length ca, .string ⟨#[]⟩]) (by simp [results, Tryz.results133, go_sem]) rfl ⟨_, by rw [HD.out], by rw [HD.out]; exact HR.out.below B5.out, .inl rfl, B5.out⟩
   · rw [show fdV ns nm = -1 by unfold fdV; rw [if_neg hg]]
     simp only [Bool.not_true, Bool.false_eq_true, if_false] at HD
     rw [if_neg hg] at HD
     clear hg
     by_cases h1000 : ns.length = 1000
     · rw [if_pos h1000] at HD
       have hlb : ((ns.length : Int) == 1000) = true := by simp; omega
       clear h1000
       go_wp2
       exact bodyPost_ret (v := .tuple #[.int .i64 6, .slice (some ⟨b, oo, none⟩) ns.length ca, .string ⟨#[]⟩]) (by simp [results, Tryz.results133, go_sem]) rfl ⟨_, by rw [HD.out], by rw [HD.out]; exact HR.out.below B5.out, .inl rfl, B5.out⟩
     · rw [if_neg h1000] at HD
       have hlb : ((ns.length : Int) == 1000) = false := by simp; omega
       clear h1000
       obtain ⟨xl, c0, c1, c2, c3, c4⟩ := X5.out
       go_wp2_with fail
       clear xl c0 c1 c2 c3 c4
       have ba : Below w6.heap.size w6 (w6.alloc (.cells #[.string nm, .string o.data, .int .i64 0, .int .i64 0, .int .i64 z, .int .i64 z, .int .i64 z] 85)) := (Below.refl _ _).alloc (Nat.le_refl _) _
       have B6 := hd9 (B5.out.trans (ba.mono B5.out.size))
       clear ba
       generalize w6.alloc (.cells #[.string nm, .string o.data, .int .i64 0, .int .i64 0, .int .i64 z, .int .i64 z, .int .i64 z] 85) = w6' at *
       refine (with_any _ _ ns ⟨nm, o.data, 0, 0, z, z, z⟩ (HR.out.below B6.out) (by omega)).mono ?_
       rintro e w7 ⟨v7, rfl, o7, b7⟩
       obtain ⟨a7, k7, hv7⟩ := o7.slice
       subst hv7
       have hwl := wiN_len ns ⟨nm, o.data, 0, 0, z, z, z⟩
       have HCV : Hid (∀ k, k < (wiN ns ⟨nm, o.data, 0, 0, z, z, z⟩).length → -1 ≤ (nAt (wiN ns ⟨nm, o.data, 0, 0, z, z, z⟩) k).cver ∧ (nAt (wiN ns ⟨nm, o.data, 0, 0, z, z, z⟩) k).cver ≤ 2147483647) := cv_at (fun m hm => by
        rcases wi_mem hm with h9 | h9
        · exact cv_of HO.out m h9
        · rw [h9]; simp)
       have R7 : Hid (RdN w7 (.slice a7 (wiN ns ⟨nm, o.data, 0, 0, z, z, z⟩).length k7) (wiN ns ⟨nm, o.data, 0, 0, z, z, z⟩)) := o7.rd
       have F7 : Hid (New w (.slice a7 (wiN ns ⟨nm, o.data, 0, 0, z, z, z⟩).length k7)) := OwnN.new9 o7 B6.out.size
       have B7 := hd9 (B6.out.trans (b7.mono B6.out.size))
       clear o7 b7 B6 B5 X5
       generalize wiN ns ⟨nm, o.data, 0, 0, z, z, z⟩ = WN at *
       go_wp2_with fail
       refine (l3Touch_any w7 _ WN pb z R7.out (by omega) HCV.out).mono ?_
       rintro e w8 ⟨v8, rfl, r8, f8, b8⟩
       obtain ⟨a8, k8, hv8, -, -⟩ := r8.len
       subst hv8
       have R8 : Hid (RdN w8 (.slice a8 (toN WN pb z).length k8) (toN WN pb z)) := r8
       have F8 : Hid (New w (.slice a8 (toN WN pb z).length k8)) := f8.new F7.out B7.out.size
       have B8 := hd9 (B7.out.trans (b8.mono B7.out.size))
       clear r8 f8 b8 B7 R7 F7 HCV
       go_wp2
       exact bodyPost_ret (v := .tuple #[.int .i64 0, .slice a8 (toN WN pb z).length k8, .string nm]) (by simp [results, Tryz.results133, go_sem]) rfl ⟨_, by rw [HD.out], by rw [HD.out]; exact R8.out, .inr F8.out, B8.out⟩
theorem l3Do_check (w : World) (v : Value) (ns : List Nd) (o : Op5) (z : Int) (h : RdN w v ns) (hn : ns.length ≤ 1000) (hp : o.path.size ≤ 1048576) (hd : o.data.size ≤ 1048576) (hw : wfO o = true) (hk : o.kind = 4) :
    Calls Tryz.prog 133 #[v, .agg #[.int .i64 o.kind, .string o.path, .string o.data, .int .i64 o.ver, .bool o.seq], .int .i64 z] w fun e w' => DoPost w v ns o z e w' := by
 obtain ⟨ao, ca, rfl, _, _⟩ := h.len
 have HR : Hid (RdN w (.slice ao ns.length ca) ns) := h
 have HW : Hid (wfO o = true) := hw
 have hk1 : (o.kind == 1) = false := by simp [hk]
 have hk2 : (o.kind == 2) = false := by simp [hk]
 have hk3 : (o.kind == 3) = false := by simp [hk]
 have HD : Hid (doO ns o z = if ¬ ns.findIdx (isP o.path) < ns.length then (2, ns, ⟨#[]⟩)
  else if o.ver ≠ -1 ∧ o.ver ≠ (nAt ns (ns.findIdx (isP o.path))).ver then (4, ns, ⟨#[]⟩)
  else (0, ns, o.path)) := by
  show _ = _
  unfold doO
  rw [hw, if_neg (by simp), if_neg (by omega), if_neg (show ¬ o.kind = 2 by omega), if_neg (show ¬ o.kind = 3 by omega)]
 have B0 : Hid (Below w.heap.size w (w.alloc (.cells #[.int .i64 o.kind, .string o.path, .string o.data, .int .i64 o.ver, .bool o.seq] 123))) := (Below.refl _ _).alloc (Nat.le_refl _) _
 have X0 : Hid (BoxO (w.alloc (.cells #[.int .i64 o.kind, .string o.path, .string o.data, .int .i64 o.ver, .bool o.seq] 123)) w.heap.size o) := BoxO.new _ _ _
 clear h hw hk
 go_enter Tryz.func133, Tryz.ntmps133
 go_wp2_with fail
 generalize w.alloc (.cells #[.int .i64 o.kind, .string o.path, .string o.data, .int .i64 o.ver, .bool o.seq] 123) = w0 at *
 refine (l3Well_any _ o hp hd).mono ?_
 rintro e w1 ⟨rfl, b1⟩
 rw [HW.out]
 have B1 := hd9 (B0.out.trans (b1.mono B0.out.size))
 have X1 := hd9 (X0.out.below b1)
 clear b1 B0 X0
 obtain ⟨xl, c0, c1, c2, c3, c4⟩ := X1.out
 go_wp2_with fail
 clear xl c0 c1 c2 c3 c4
 refine (l3Find_any w1 _ ns o.path (HR.out.below B1.out) (by omega)).mono ?_
 rintro e w3 ⟨rfl, rfl⟩
 by_cases hf : ns.findIdx (isP o.path) < ns.length
 rotate_left
 · rw [if_pos hf] at HD
   rw [show fdV ns o.path = -1 by unfold fdV; rw [if_neg hf]]
   clear hf
   go_wp2
   exact bodyPost_ret (v := .tuple #[.int .i64 2, .slice ao ns.length ca, .string ⟨#[]⟩]) (by simp [results, Tryz.results133, go_sem]) rfl ⟨_, by rw [HD.out], by rw [HD.out]; exact HR.out.below B1.out, .inl rfl, B1.out⟩
 rw [if_neg (by simpa using hf)] at HD
 rw [show fdV ns o.path = ((ns.findIdx (isP o.path) : Nat) : Int) by unfold fdV; rw [if_pos hf]]
 generalize ns.findIdx (isP o.path) = k at *
 have hI : ¬ (k : Int) < 0 := by omega
 have hkI : (k : Int) < (ns.length : Int) := by omega
 obtain ⟨b, oo, hao, hb, hc⟩ : ∃ b o, ao = some ⟨b, o, none⟩ ∧ b < w.heap.size ∧ CellsN w b (o + k * 7) (nAt ns k) := by
  obtain ⟨ao', cap', e', -, -, h3⟩ := HR.out
  simp only [Value.slice.injEq] at e'
  obtain ⟨rfl, -, -⟩ := e'
  rcases h3 with h3 | ⟨b, o, rfl, hb, hc⟩
  · rw [h3] at hf; simp at hf
  · exact ⟨b, o, rfl, hb, hc k hf⟩
 subst hao
 obtain ⟨a0, a1, a2, a3, a4, a5, a6⟩ := hc.below B1.out hb
 generalize nAt ns k = m at *
 clear hc a0 a1 a3 a4 a5 a6
 obtain ⟨xl, c0, c1, c2, c3, c4⟩ := X1.out
 by_cases hv : o.ver ≠ -1 ∧ o.ver ≠ m.ver
 · rw [if_pos hv] at HD
   have hv1 : (o.ver != -1) = true := by simpa using hv.1
   have hv2 : (o.ver != m.ver) = true := by simpa using hv.2
   clear hv
   go_wp2
   go_quiet (fail)
   have BQ : Hid (Below w.heap.size w (w3.drewN nq)) := B1.out.trans ((below_drewN' w3 nq).mono B1.out.size)
   go_wp2
   exact bodyPost_ret (v := .tuple #[.int .i64 4, .slice (some ⟨b, oo, none⟩) ns.length ca, .string ⟨#[]⟩]) (by simp [results, Tryz.results133, go_sem]) rfl ⟨_, by rw [HD.out], by rw [HD.out]; exact HR.out.below BQ.out, .inl rfl, BQ.out⟩
 rw [if_neg hv] at HD
 have hcase : (o.ver != -1) = false ∨ ((o.ver != -1) = true ∧ (o.ver != m.ver) = false) := by
  by_cases e1 : o.ver = -1
  · exact .inl (by simp [e1])
  · by_cases e2 : o.ver = m.ver
    · exact .inr ⟨by simp [e1], by simp [e2]⟩
    · exact absurd ⟨e1, e2⟩ hv
 clear hv
 rcases hcase with hv1 | ⟨hv1, hv2⟩
 all_goals
  go_wp2
  go_quiet (fail)
  have BQ : Hid (Below w.heap.size w (w3.drewN nq)) := B1.out.trans ((below_drewN' w3 nq).mono B1.out.size)
  have XQ : Hid (BoxO (w3.drewN nq) w.heap.size o) := X1.out.below (below_drewN' w3 nq)
  clear xl c0 c1 c2 c3 c4 a2
  generalize w3.drewN nq = wq at *
  obtain ⟨xl, c0, c1, c2, c3, c4⟩ := XQ.out
  go_wp2
  go_quiet (fail)
  have BZ : Hid (Below w.heap.size w (wq.drewN nq)) := BQ.out.trans ((below_drewN' wq nq).mono BQ.out.size)
  go_wp2
  exact bodyPost_ret (v := .tuple #[.int .i64 0, .slice (some ⟨b, oo, none⟩) ns.length ca, .string o.path]) (by simp [results, Tryz.results133, go_sem]) rfl ⟨_, by rw [HD.out], by rw [HD.out]; exact HR.out.below BZ.out, .inl rfl, BZ.out⟩
theorem l3Do_set (w : World) (v : Value) (ns : List Nd) (o : Op5) (z : Int) (h : RdN w v ns) (hn : ns.length ≤ 1000) (hok : ∀ k, k < ns.length → okNd (nAt ns k) = true) (hp : o.path.size ≤ 1048576) (hd : o.data.size ≤ 1048576) (hw : wfO o = true) (hk : o.kind = 3) :
    Calls Tryz.prog 133 #[v, .agg #[.int .i64 o.kind, .string o.path, .string o.data, .int .i64 o.ver, .bool o.seq], .int .i64 z] w fun e w' => DoPost w v ns o z e w' := by
 obtain ⟨ao, ca, rfl, _, _⟩ := h.len
 have HR : Hid (RdN w (.slice ao ns.length ca) ns) := h
 have HW : Hid (wfO o = true) := hw
 have hk1 : (o.kind == 1) = false := by simp [hk]
 have hk2 : (o.kind == 2) = false := by simp [hk]
 have hk3 : (o.kind == 3) = true := by simp [hk]
 have HOK : Hid (∀ k, k < ns.length → okNd (nAt ns k) = true) := hok
 have HD : Hid (doO ns o z = if ¬ ns.findIdx (isP o.path) < ns.length then (2, ns, ⟨#[]⟩)
  else if o.ver ≠ -1 ∧ o.ver ≠ (nAt ns (ns.findIdx (isP o.path))).ver then (4, ns, ⟨#[]⟩)
  else (0, wiN ns { nAt ns (ns.findIdx (isP o.path)) with data := o.data, ver := mor (nAt ns (ns.findIdx (isP o.path))).ver, mz := z }, o.path)) := by
  show _ = _
  unfold doO
  rw [hw, if_neg (by simp), if_neg (by omega), if_neg (show ¬ o.kind = 2 by omega), if_pos hk]
 have B0 : Hid (Below w.heap.size w (w.alloc (.cells #[.int .i64 o.kind, .string o.path, .string o.data, .int .i64 o.ver, .bool o.seq] 123))) := (Below.refl _ _).alloc (Nat.le_refl _) _
 have X0 : Hid (BoxO (w.alloc (.cells #[.int .i64 o.kind, .string o.path, .string o.data, .int .i64 o.ver, .bool o.seq] 123)) w.heap.size o) := BoxO.new _ _ _
 clear h hw hk hok
 go_enter Tryz.func133, Tryz.ntmps133
 go_wp2_with fail
 generalize w.alloc (.cells #[.int .i64 o.kind, .string o.path, .string o.data, .int .i64 o.ver, .bool o.seq] 123) = w0 at *
 refine (l3Well_any _ o hp hd).mono ?_
 rintro e w1 ⟨rfl, b1⟩
 rw [HW.out]
 have B1 := hd9 (B0.out.trans (b1.mono B0.out.size))
 have X1 := hd9 (X0.out.below b1)
 clear b1 B0 X0
 obtain ⟨xl, c0, c1, c2, c3, c4⟩ := X1.out
 go_wp2_with fail
 clear xl c0 c1 c2 c3 c4
 refine (l3Find_any w1 _ ns o.path (HR.out.below B1.out) (by omega)).mono ?_
 rintro e w3 ⟨rfl, rfl⟩
 by_cases hf : ns.findIdx (isP o.path) < ns.length
 rotate_left
 · rw [if_pos hf] at HD
   rw [show fdV ns o.path = -1 by unfold fdV; rw [if_neg hf]]
   clear hf
   go_wp2
   exact bodyPost_ret (v := .tuple #[.int .i64 2, .slice ao ns.length ca, .string ⟨#[]⟩]) (by simp [results, Tryz.results133, go_sem]) rfl ⟨_, by rw [HD.out], by rw [HD.out]; exact HR.out.below B1.out, .inl rfl, B1.out⟩
 rw [if_neg (by simpa using hf)] at HD
 rw [show fdV ns o.path = ((ns.findIdx (isP o.path) : Nat) : Int) by unfold fdV; rw [if_pos hf]]
 generalize ns.findIdx (isP o.path) = k at *
 have hI : ¬ (k : Int) < 0 := by omega
 have hkI : (k : Int) < (ns.length : Int) := by omega
 obtain ⟨b, oo, hao, hb, hc⟩ : ∃ b o, ao = some ⟨b, o, none⟩ ∧ b < w.heap.size ∧ CellsN w b (o + k * 7) (nAt ns k) := by
  obtain ⟨ao', cap', e', -, -, h3⟩ := HR.out
  simp only [Value.slice.injEq] at e'
  obtain ⟨rfl, -, -⟩ := e'
  rcases h3 with h3 | ⟨b, o, rfl, hb, hc⟩
  · rw [h3] at hf; simp at hf
  · exact ⟨b, o, rfl, hb, hc k hf⟩
 subst hao
 obtain ⟨a0, a1, a2, a3, a4, a5, a6⟩ := hc.below B1.out hb
 have HC : Hid (CellsN w b (oo + k * 7) (nAt ns k)) := hc
 have hvr : -1 ≤ (nAt ns k).ver ∧ (nAt ns k).ver ≤ 2147483647 := by
  have := HOK.out k hf
  unfold okNd okS at this
  simp only [Bool.and_eq_true, decide_eq_true_eq] at this
  omega
 generalize nAt ns k = m at *
 clear hc a0 a1 a3 a4 a5 a6
 obtain ⟨xl, c0, c1, c2, c3, c4⟩ := X1.out
 by_cases hv : o.ver ≠ -1 ∧ o.ver ≠ m.ver
 · rw [if_pos hv] at HD
   have hv1 : (o.ver != -1) = true := by simpa using hv.1
   have hv2 : (o.ver != m.ver) = true := by simpa using hv.2
   clear hv
   go_wp2
   go_quiet (fail)
   have BQ : Hid (Below w.heap.size w (w3.drewN nq)) := B1.out.trans ((below_drewN' w3 nq).mono B1.out.size)
   go_wp2
   exact bodyPost_ret (v := .tuple #[.int .i64 4, .slice (some ⟨b, oo, none⟩) ns.length ca, .string ⟨#[]⟩]) (by simp [results, Tryz.results133, go_sem]) rfl ⟨_, by rw [HD.out], by rw [HD.out]; exact HR.out.below BQ.out, .inl rfl, BQ.out⟩
 rw [if_neg hv] at HD
 have hcase : (o.ver != -1) = false ∨ ((o.ver != -1) = true ∧ (o.ver != m.ver) = false) := by
  by_cases e1 : o.ver = -1
  · exact .inl (by simp [e1])
  · by_cases e2 : o.ver = m.ver
    · exact .inr ⟨by simp [e1], by simp [e2]⟩
    · exact absurd ⟨e1, e2⟩ hv
 clear hv
 rcases hcase with hv1 | ⟨hv1, hv2⟩
 · go_wp2
   go_quiet (fail)
   have BQ : Hid (Below w.heap.size w (w3.drewN nq)) := B1.out.trans ((below_drewN' w3 nq).mono B1.out.size)
   have XQ : Hid (BoxO (w3.drewN nq) w.heap.size o) := X1.out.below (below_drewN' w3 nq)
   clear xl c0 c1 c2 c3 c4 a2
   generalize w3.drewN nq = wq at *
   obtain ⟨xl, c0, c1, c2, c3, c4⟩ := XQ.out
   obtain ⟨a0, a1, a2, a3, a4, a5, a6⟩ := HC.out.below BQ.out hb
   go_wp2_with fail
   refine (l3More_any _ m.ver hvr.1 hvr.2).mono ?_
   rintro e w9 ⟨rfl, rfl⟩
   go_wp2_with fail
   have ba : Below wq.heap.size wq (wq.alloc (.cells #[.string m.path, .string o.data, .int .i64 (mor m.ver), .int .i64 m.cver, .int .i64 m.cz, .int .i64 z, .int .i64 m.pz] 85)) := (Below.refl _ _).alloc (Nat.le_refl _) _
   have XA : Hid (BoxO (wq.alloc (.cells #[.string m.path, .string o.data, .int .i64 (mor m.ver), .int .i64 m.cver, .int .i64 m.cz, .int .i64 z, .int .i64 m.pz] 85)) w.heap.size o ∧ BoxN (wq.alloc (.cells #[.string m.path, .string o.data, .int .i64 (mor m.ver), .int .i64 m.cver, .int .i64 m.cz, .int .i64 z, .int .i64 m.pz] 85)) wq.heap.size ⟨m.path, o.data, mor m.ver, m.cver, m.cz, z, m.pz⟩) := ⟨XQ.out.below ba, BoxN.new wq ⟨m.path, o.data, mor m.ver, m.cver, m.cz, z, m.pz⟩ _⟩
   have BA := hd9 (BQ.out.trans (ba.mono BQ.out.size))
   clear ba xl c0 c1 c2 c3 c4 a0 a1 a2 a3 a4 a5 a6 XQ BQ
   generalize wq.alloc (.cells #[.string m.path, .string o.data, .int .i64 (mor m.ver), .int .i64 m.cver, .int .i64 m.cz, .int .i64 z, .int .i64 m.pz] 85) = wn at *
   generalize wq.heap.size = Bn at *
   refine wp_region_held_drew (S := fun W => BoxO W w.heap.size o ∧ BoxN W Bn ⟨m.path, o.data, mor m.ver, m.cver, m.cz, z, m.pz⟩) (by kernel_rfl) (⟨XA.out.1.below (below_drewN' wn 1), XA.out.2.below (below_drewN' wn 1)⟩) (fun hHeld => ?_)
   have BD : Hid (Below w.heap.size w wn.drew) := BA.out.trans ((below_drewN' wn 1).mono BA.out.size)
   clear XA BA
   generalize wn.drew = G0 at *
   refine tkL9 (i := 0) (oi := ⟨some 128, _, _, _, _, _⟩) (v := (.slice (some ⟨b, oo, none⟩) ns.length ca)) rfl (by kernel_rfl) (fun _ _ _ h => h) (by rfl) (by assumption) ?hy1 ?_
   case hy1 => intro w9 hS9; go_simp
   try simp only [Act.put, sT9, sZ9, sS9]
   refine tkL9 (i := 1) (oi := ⟨some 129, _, _, _, _, _⟩) (v := (.agg #[.string m.path, .string o.data, .int .i64 (mor m.ver), .int .i64 m.cver, .int .i64 m.cz, .int .i64 z, .int .i64 m.pz])) rfl (by kernel_rfl) (fun _ _ _ h => h) (by rfl) (by assumption) ?hy2 ?_
   case hy2 => intro w9 hS9; obtain ⟨zl, z0, z1, z2, z3, z4, z5, z6⟩ := hS9.2; go_simp
   try simp only [Act.put, sT9, sZ9, sS9]
   refine tkL9 (i := 3) (oi := ⟨some 131, _, _, _, _, _⟩) (v := (.pointer (some ⟨w.heap.size, 1, none⟩))) rfl (by kernel_rfl) (fun _ _ _ h => h) (by rfl) (by assumption) ?hy3 ?_
   case hy3 => intro w9 hS9; go_simp
   try simp only [Act.put, sT9, sZ9, sS9]
   refine tkL9 (i := 4) (oi := ⟨some 132, _, _, _, _, _⟩) (v := (.string o.path)) rfl (by kernel_rfl) (fun _ _ _ h => h) (by rfl) (by assumption) ?hy4 ?_
   case hy4 =>
    intro w9 hS9
    have y1 := hS9.1.c1
    go_simp
   try simp only [Act.put, sT9, sZ9, sS9]
   refine wpAnyH_ready (rs := [2]) (by kernel_rfl) (by simp) ?_
   refine AllReadyH.cons (o := ⟨some 130, _, _, _, _, _⟩) rfl (fun K hK => ?_) AllReadyH.nil
   go_simp
   refine (with_any G0 _ ns ⟨m.path, o.data, mor m.ver, m.cver, m.cz, z, m.pz⟩ (HR.out.below BD.out) (by omega)).mono ?_
   rintro e G1 ⟨v7, rfl, o7, bA⟩
   obtain ⟨a7, k7, hv7⟩ := o7.slice
   subst hv7
   have A2 : _ ∧ _ := ⟨hHeld.1.below bA, hHeld.2.below bA⟩
   refine hK.out _ _ (A2) (fun hx9 => ?_)
   clear hK K hHeld
   have hHeld := hx9
   clear hx9
   try simp only [Act.put, sT9, sZ9, sS9]
   refine tkL9 (i := 5) (oi := ⟨some 6, _, _, _, _, _⟩) (v := (.int .i64 0)) rfl (by kernel_rfl) (fun _ _ _ h => h) (by rfl) (by assumption) ?hy5 ?_
   case hy5 => intro w9 hS9; go_simp
   try simp only [Act.put, sT9, sZ9, sS9]
   refine tkL9 (i := 6) (oi := ⟨some 7, _, _, _, _, _⟩) (v := (.slice a7 (wiN ns ⟨m.path, o.data, mor m.ver, m.cver, m.cz, z, m.pz⟩).length k7)) rfl (by kernel_rfl) (fun _ _ _ h => h) (by rfl) (by assumption) ?hy6 ?_
   case hy6 => intro w9 hS9; go_simp
   try simp only [Act.put, sT9, sZ9, sS9]
   refine tkL9 (i := 7) (oi := ⟨some 8, _, _, _, _, _⟩) (v := (.string o.path)) rfl (by kernel_rfl) (fun _ _ _ h => h) (by rfl) (by assumption) ?hy7 ?_
   case hy7 => intro w9 hS9; go_simp
   try simp only [Act.put, sT9, sZ9, sS9]
   refine wpAnyH_done (by kernel_rfl) ?_ _
   clear hHeld
   have R7 : Hid (RdN G1 (.slice a7 (wiN ns ⟨m.path, o.data, mor m.ver, m.cver, m.cz, z, m.pz⟩).length k7) (wiN ns ⟨m.path, o.data, mor m.ver, m.cver, m.cz, z, m.pz⟩)) := o7.rd
   have BZ := hd9 (BD.out.trans (bA.mono BD.out.size))
   have F7 : Hid (New w (.slice a7 (wiN ns ⟨m.path, o.data, mor m.ver, m.cver, m.cz, z, m.pz⟩).length k7)) := OwnN.new9 o7 BD.out.size
   clear A2 o7 bA BD
   go_wp2
   exact bodyPost_ret (v := .tuple #[.int .i64 0, .slice a7 (wiN ns ⟨m.path, o.data, mor m.ver, m.cver, m.cz, z, m.pz⟩).length k7, .string o.path]) (by simp [results, Tryz.results133, go_sem]) rfl ⟨_, by rw [HD.out], by rw [HD.out]; exact R7.out, .inr F7.out, BZ.out⟩
 · go_wp2
   go_quiet (fail)
   have BQ : Hid (Below w.heap.size w (w3.drewN nq)) := B1.out.trans ((below_drewN' w3 nq).mono B1.out.size)
   have XQ : Hid (BoxO (w3.drewN nq) w.heap.size o) := X1.out.below (below_drewN' w3 nq)
   clear xl c0 c1 c2 c3 c4 a2
   generalize w3.drewN nq = wq at *
   obtain ⟨xl, c0, c1, c2, c3, c4⟩ := XQ.out
   obtain ⟨a0, a1, a2, a3, a4, a5, a6⟩ := HC.out.below BQ.out hb
   go_wp2_with fail
   refine (l3More_any _ m.ver hvr.1 hvr.2).mono ?_
   rintro e w9 ⟨rfl, rfl⟩
   go_wp2_with fail
   have ba : Below wq.heap.size wq (wq.alloc (.cells #[.string m.path, .string o.data, .int .i64 (mor m.ver), .int .i64 m.cver, .int .i64 m.cz, .int .i64 z, .int .i64 m.pz] 85)) := (Below.refl _ _).alloc (Nat.le_refl _) _
   have XA : Hid (BoxO (wq.alloc (.cells #[.string m.path, .string o.data, .int .i64 (mor m.ver), .int .i64 m.cver, .int .i64 m.cz, .int .i64 z, .int .i64 m.pz] 85)) w.heap.size o ∧ BoxN (wq.alloc (.cells #[.string m.path, .string o.data, .int .i64 (mor m.ver), .int .i64 m.cver, .int .i64 m.cz, .int .i64 z, .int .i64 m.pz] 85)) wq.heap.size ⟨m.path, o.data, mor m.ver, m.cver, m.cz, z, m.pz⟩) := ⟨XQ.out.below ba, BoxN.new wq ⟨m.path, o.data, mor m.ver, m.cver, m.cz, z, m.pz⟩ _⟩
   have BA := hd9 (BQ.out.trans (ba.mono BQ.out.size))
   clear ba xl c0 c1 c2 c3 c4 a0 a1 a2 a3 a4 a5 a6 XQ BQ
   generalize wq.alloc (.cells #[.string m.path, .string o.data, .int .i64 (mor m.ver), .int .i64 m.cver, .int .i64 m.cz, .int .i64 z, .int .i64 m.pz] 85) = wn at *
   generalize wq.heap.size = Bn at *
   refine wp_region_held_drew (S := fun W => BoxO W w.heap.size o ∧ BoxN W Bn ⟨m.path, o.data, mor m.ver, m.cver, m.cz, z, m.pz⟩) (by kernel_rfl) (⟨XA.out.1.below (below_drewN' wn 1), XA.out.2.below (below_drewN' wn 1)⟩) (fun hHeld => ?_)
   have BD : Hid (Below w.heap.size w wn.drew) := BA.out.trans ((below_drewN' wn 1).mono BA.out.size)
   clear XA BA
   generalize wn.drew = G0 at *
   refine tkL9 (i := 0) (oi := ⟨some 128, _, _, _, _, _⟩) (v := (.slice (some ⟨b, oo, none⟩) ns.length ca)) rfl (by kernel_rfl) (fun _ _ _ h => h) (by rfl) (by assumption) ?hyb1 ?_
   case hyb1 =>
    intro w9 hS9
    go_simp
   try simp only [Act.put, sT9, sZ9, sS9]
   refine tkL9 (i := 1) (oi := ⟨some 129, _, _, _, _, _⟩) (v := (.agg #[.string m.path, .string o.data, .int .i64 (mor m.ver), .int .i64 m.cver, .int .i64 m.cz, .int .i64 z, .int .i64 m.pz])) rfl (by kernel_rfl) (fun _ _ _ h => h) (by rfl) (by assumption) ?hyb2 ?_
   case hyb2 =>
    intro w9 hS9
    obtain ⟨zl, z0, z1, z2, z3, z4, z5, z6⟩ := hS9.2
    go_simp
   try simp only [Act.put, sT9, sZ9, sS9]
   refine tkL9 (i := 3) (oi := ⟨some 131, _, _, _, _, _⟩) (v := (.pointer (some ⟨w.heap.size, 1, none⟩))) rfl (by kernel_rfl) (fun _ _ _ h => h) (by rfl) (by assumption) ?hyb3 ?_
   case hyb3 =>
    intro w9 hS9
    go_simp
   try simp only [Act.put, sT9, sZ9, sS9]
   refine tkL9 (i := 4) (oi := ⟨some 132, _, _, _, _, _⟩) (v := (.string o.path)) rfl (by kernel_rfl) (fun _ _ _ h => h) (by rfl) (by assumption) ?hyb4 ?_
   case hyb4 =>
    intro w9 hS9
    have y1 := hS9.1.c1
    go_simp
   try simp only [Act.put, sT9, sZ9, sS9]
   refine wpAnyH_ready (rs := [2]) (by kernel_rfl) (by simp) ?_
   refine AllReadyH.cons (o := ⟨some 130, _, _, _, _, _⟩) rfl (fun K hK => ?_) AllReadyH.nil
   go_simp
   refine (with_any G0 _ ns ⟨m.path, o.data, mor m.ver, m.cver, m.cz, z, m.pz⟩ (HR.out.below BD.out) (by omega)).mono ?_
   rintro e G1 ⟨v7, rfl, o7, bA⟩
   obtain ⟨a7, k7, hv7⟩ := o7.slice
   subst hv7
   have A2 : _ ∧ _ := ⟨hHeld.1.below bA, hHeld.2.below bA⟩
   refine hK.out _ _ (A2) (fun hx9 => ?_)
   clear hK K hHeld
   have hHeld := hx9
   clear hx9
   try simp only [Act.put, sT9, sZ9, sS9]
   refine tkL9 (i := 5) (oi := ⟨some 6, _, _, _, _, _⟩) (v := (.int .i64 0)) rfl (by kernel_rfl) (fun _ _ _ h => h) (by rfl) (by assumption) ?hyb5 ?_
   case hyb5 =>
    intro w9 hS9
    go_simp
   try simp only [Act.put, sT9, sZ9, sS9]
   refine tkL9 (i := 6) (oi := ⟨some 7, _, _, _, _, _⟩) (v := (.slice a7 (wiN ns ⟨m.path, o.data, mor m.ver, m.cver, m.cz, z, m.pz⟩).length k7)) rfl (by kernel_rfl) (fun _ _ _ h => h) (by rfl) (by assumption) ?hyb6 ?_
   case hyb6 =>
    intro w9 hS9
    go_simp
   try simp only [Act.put, sT9, sZ9, sS9]
   refine tkL9 (i := 7) (oi := ⟨some 8, _, _, _, _, _⟩) (v := (.string o.path)) rfl (by kernel_rfl) (fun _ _ _ h => h) (by rfl) (by assumption) ?hyb7 ?_
   case hyb7 =>
    intro w9 hS9
    go_simp
   try simp only [Act.put, sT9, sZ9, sS9]
   refine wpAnyH_done (by kernel_rfl) ?_ _
   clear hHeld
   have R7 : Hid (RdN G1 (.slice a7 (wiN ns ⟨m.path, o.data, mor m.ver, m.cver, m.cz, z, m.pz⟩).length k7) (wiN ns ⟨m.path, o.data, mor m.ver, m.cver, m.cz, z, m.pz⟩)) := o7.rd
   have BZ := hd9 (BD.out.trans (bA.mono BD.out.size))
   have F7 : Hid (New w (.slice a7 (wiN ns ⟨m.path, o.data, mor m.ver, m.cver, m.cz, z, m.pz⟩).length k7)) := OwnN.new9 o7 BD.out.size
   clear A2 o7 bA BD
   go_wp2
   exact bodyPost_ret (v := .tuple #[.int .i64 0, .slice a7 (wiN ns ⟨m.path, o.data, mor m.ver, m.cver, m.cz, z, m.pz⟩).length k7, .string o.path]) (by simp [results, Tryz.results133, go_sem]) rfl ⟨_, by rw [HD.out], by rw [HD.out]; exact R7.out, .inr F7.out, BZ.out⟩
theorem l3Do_delete (w : World) (v : Value) (ns : List Nd) (o : Op5) (z : Int) (h : RdN w v ns) (hn : ns.length ≤ 1000) (hok : ∀ k, k < ns.length → okNd (nAt ns k) = true) (hp : o.path.size ≤ 1048576) (hd : o.data.size ≤ 1048576) (hw : wfO o = true) (hk : o.kind = 2) :
    Calls Tryz.prog 133 #[v, .agg #[.int .i64 o.kind, .string o.path, .string o.data, .int .i64 o.ver, .bool o.seq], .int .i64 z] w fun e w' => DoPost w v ns o z e w' := by
 obtain ⟨ao, ca, rfl, _, _⟩ := h.len
 have HR : Hid (RdN w (.slice ao ns.length ca) ns) := h
 have HW : Hid (wfO o = true) := hw
 have hk1 : (o.kind == 1) = false := by simp [hk]
 have hk2 : (o.kind == 2) = true := by simp [hk]
 have HOK : Hid (∀ k, k < ns.length → okNd (nAt ns k) = true) := hok
 have HPK : Hid (okPath o.path = true) := (wfO_path hw).1
 have HD : Hid (doO ns o z = if ¬ ns.findIdx (isP o.path) < ns.length then (2, ns, ⟨#[]⟩)
  else if o.ver ≠ -1 ∧ o.ver ≠ (nAt ns (ns.findIdx (isP o.path))).ver then (4, ns, ⟨#[]⟩)
  else if 0 < (chN ns o.path).length then (5, ns, ⟨#[]⟩) else (0, toN (woN ns o.path) (parB o.path) z, o.path)) := by
  show _ = _
  unfold doO
  rw [hw, if_neg (by simp), if_neg (show ¬ o.kind = 1 by omega), if_pos hk]
 have B0 : Hid (Below w.heap.size w (w.alloc (.cells #[.int .i64 o.kind, .string o.path, .string o.data, .int .i64 o.ver, .bool o.seq] 123))) := (Below.refl _ _).alloc (Nat.le_refl _) _
 have X0 : Hid (BoxO (w.alloc (.cells #[.int .i64 o.kind, .string o.path, .string o.data, .int .i64 o.ver, .bool o.seq] 123)) w.heap.size o) := BoxO.new _ _ _
 clear h hw hk hok
 go_enter Tryz.func133, Tryz.ntmps133
 go_wp2_with fail
 generalize w.alloc (.cells #[.int .i64 o.kind, .string o.path, .string o.data, .int .i64 o.ver, .bool o.seq] 123) = w0 at *
 refine (l3Well_any _ o hp hd).mono ?_
 rintro e w1 ⟨rfl, b1⟩
 rw [HW.out]
 have B1 := hd9 (B0.out.trans (b1.mono B0.out.size))
 have X1 := hd9 (X0.out.below b1)
 clear b1 B0 X0
 obtain ⟨xl, c0, c1, c2, c3, c4⟩ := X1.out
 go_wp2_with fail
 clear xl c0 c1 c2 c3 c4
 refine (l3Find_any w1 _ ns o.path (HR.out.below B1.out) (by omega)).mono ?_
 rintro e w3 ⟨rfl, rfl⟩
 by_cases hf : ns.findIdx (isP o.path) < ns.length
 rotate_left
 · rw [if_pos hf] at HD
   rw [show fdV ns o.path = -1 by unfold fdV; rw [if_neg hf]]
   clear hf
   go_wp2
   exact bodyPost_ret (v := .tuple #[.int .i64 2, .slice ao ns.length ca, .string ⟨#[]⟩]) (by simp [results, Tryz.results133, go_sem]) rfl ⟨_, by rw [HD.out], by rw [HD.out]; exact HR.out.below B1.out, .inl rfl, B1.out⟩
 rw [if_neg (by simpa using hf)] at HD
 rw [show fdV ns o.path = ((ns.findIdx (isP o.path) : Nat) : Int) by unfold fdV; rw [if_pos hf]]
 generalize ns.findIdx (isP o.path) = k at *
 have hI : ¬ (k : Int) < 0 := by omega
 have hkI : (k : Int) < (ns.length : Int) := by omega
 obtain ⟨b, oo, hao, hb, hc⟩ : ∃ b o, ao = some ⟨b, o, none⟩ ∧ b < w.heap.size ∧ CellsN w b (o + k * 7) (nAt ns k) := by
  obtain ⟨ao', cap', e', -, -, h3⟩ := HR.out
  simp only [Value.slice.injEq] at e'
  obtain ⟨rfl, -, -⟩ := e'
  rcases h3 with h3 | ⟨b, o, rfl, hb, hc⟩
  · rw [h3] at hf; simp at hf
  · exact ⟨b, o, rfl, hb, hc k hf⟩
 subst hao
 obtain ⟨a0, a1, a2, a3, a4, a5, a6⟩ := hc.below B1.out hb
 generalize nAt ns k = m at *
 clear hc a0 a1 a3 a4 a5 a6
 obtain ⟨xl, c0, c1, c2, c3, c4⟩ := X1.out
 by_cases hv : o.ver ≠ -1 ∧ o.ver ≠ m.ver
 · rw [if_pos hv] at HD
   have hv1 : (o.ver != -1) = true := by simpa using hv.1
   have hv2 : (o.ver != m.ver) = true := by simpa using hv.2
   clear hv
   go_wp2
   go_quiet (fail)
   have BQ : Hid (Below w.heap.size w (w3.drewN nq)) := B1.out.trans ((below_drewN' w3 nq).mono B1.out.size)
   go_wp2
   exact bodyPost_ret (v := .tuple #[.int .i64 4, .slice (some ⟨b, oo, none⟩) ns.length ca, .string ⟨#[]⟩]) (by simp [results, Tryz.results133, go_sem]) rfl ⟨_, by rw [HD.out], by rw [HD.out]; exact HR.out.below BQ.out, .inl rfl, BQ.out⟩
 rw [if_neg hv] at HD
 have hcase : (o.ver != -1) = false ∨ ((o.ver != -1) = true ∧ (o.ver != m.ver) = false) := by
  by_cases e1 : o.ver = -1
  · exact .inl (by simp [e1])
  · by_cases e2 : o.ver = m.ver
    · exact .inr ⟨by simp [e1], by simp [e2]⟩
    · exact absurd ⟨e1, e2⟩ hv
 clear hv
 rcases hcase with hv1 | ⟨hv1, hv2⟩
 · go_wp2
   go_quiet (fail)
   have BQ : Hid (Below w.heap.size w (w3.drewN nq)) := B1.out.trans ((below_drewN' w3 nq).mono B1.out.size)
   have XQ : Hid (BoxO (w3.drewN nq) w.heap.size o) := X1.out.below (below_drewN' w3 nq)
   clear xl c0 c1 c2 c3 c4 a2
   generalize w3.drewN nq = wq at *
   obtain ⟨xl, c0, c1, c2, c3, c4⟩ := XQ.out
   go_wp2_with fail
   refine (l3Below_any wq _ ns o.path (HR.out.below BQ.out) hn HOK.out).mono ?_
   rintro e w9 ⟨v9, rfl, o9, b9⟩
   obtain ⟨a9, k9, hv9⟩ := o9.slice
   subst hv9
   have B9 := hd9 (BQ.out.trans (b9.mono BQ.out.size))
   have X9 := hd9 (XQ.out.below b9)
   clear b9 o9 BQ XQ xl c0 c1 c2 c3 c4
   by_cases hch : 0 < (chN ns o.path).length
   · rw [if_pos hch] at HD
     have hchI : (0 : Int) < ((chN ns o.path).length : Int) := by omega
     go_wp2
     exact bodyPost_ret (v := .tuple #[.int .i64 5, .slice (some ⟨b, oo, none⟩) ns.length ca, .string ⟨#[]⟩]) (by simp [results, Tryz.results133, go_sem]) rfl ⟨_, by rw [HD.out], by rw [HD.out]; exact HR.out.below B9.out, .inl rfl, B9.out⟩
   rw [if_neg hch] at HD
   have hchI : ¬ (0 : Int) < ((chN ns o.path).length : Int) := by omega
   go_wp2_with fail
   refine wp_region_held_drew (S := fun W => BoxO W w.heap.size o) (by kernel_rfl) (X9.out.below (below_drewN' w9 1)) (fun hHeld => ?_)
   have BD : Hid (Below w.heap.size w w9.drew) := B9.out.trans ((below_drewN' w9 1).mono B9.out.size)
   clear X9 B9
   generalize w9.drew = G0 at *
   refine tkL9 (i := 0) (oi := ⟨some 101, _, _, _, _, _⟩) (v := (.slice (some ⟨b, oo, none⟩) ns.length ca)) rfl (by kernel_rfl) (fun _ _ _ h => h) (by rfl) (by assumption) ?hy1 ?_
   case hy1 => intro w9 hS9; go_simp
   try simp only [Act.put, sT9, sZ9, sS9]
   refine tkL9 (i := 1) (oi := ⟨some 102, _, _, _, _, _⟩) (v := (.pointer (some ⟨w.heap.size, 1, none⟩))) rfl (by kernel_rfl) (fun _ _ _ h => h) (by rfl) (by assumption) ?hy2 ?_
   case hy2 => intro w9 hS9; go_simp
   try simp only [Act.put, sT9, sZ9, sS9]
   refine tkL9 (i := 2) (oi := ⟨some 103, _, _, _, _, _⟩) (v := (.string o.path)) rfl (by kernel_rfl) (fun _ _ _ h => h) (by rfl) (by assumption) ?hy3 ?_
   case hy3 =>
    intro w9 hS9
    have y1 := hS9.c1
    go_simp
   try simp only [Act.put, sT9, sZ9, sS9]
   refine tkL9 (i := 4) (oi := ⟨some 105, _, _, _, _, _⟩) (v := (.pointer (some ⟨w.heap.size, 1, none⟩))) rfl (by kernel_rfl) (fun _ _ _ h => h) (by rfl) (by assumption) ?hy4 ?_
   case hy4 => intro w9 hS9; go_simp
   try simp only [Act.put, sT9, sZ9, sS9]
   refine tkL9 (i := 5) (oi := ⟨some 106, _, _, _, _, _⟩) (v := (.string o.path)) rfl (by kernel_rfl) (fun _ _ _ h => h) (by rfl) (by assumption) ?hy5 ?_
   case hy5 =>
    intro w9 hS9
    have y1 := hS9.c1
    go_simp
   try simp only [Act.put, sT9, sZ9, sS9]
   refine tkL9 (i := 7) (oi := ⟨some 108, _, _, _, _, _⟩) (v := (.int .i64 z)) rfl (by kernel_rfl) (fun _ _ _ h => h) (by rfl) (by assumption) ?hy6 ?_
   case hy6 => intro w9 hS9; go_simp
   try simp only [Act.put, sT9, sZ9, sS9]
   refine tkL9 (i := 9) (oi := ⟨some 110, _, _, _, _, _⟩) (v := (.pointer (some ⟨w.heap.size, 1, none⟩))) rfl (by kernel_rfl) (fun _ _ _ h => h) (by rfl) (by assumption) ?hy7 ?_
   case hy7 => intro w9 hS9; go_simp
   try simp only [Act.put, sT9, sZ9, sS9]
   refine tkL9 (i := 10) (oi := ⟨some 111, _, _, _, _, _⟩) (v := (.string o.path)) rfl (by kernel_rfl) (fun _ _ _ h => h) (by rfl) (by assumption) ?hy8 ?_
   case hy8 =>
    intro w9 hS9
    have y1 := hS9.c1
    go_simp
   try simp only [Act.put, sT9, sZ9, sS9]
   refine wpAnyH_ready (rs := [3]) (by kernel_rfl) (by simp) ?_
   refine AllReadyH.cons (o := ⟨some 104, _, _, _, _, _⟩) rfl (fun K hK => ?_) AllReadyH.nil
   go_simp
   refine (without_any G0 _ ns o.path (HR.out.below BD.out) (by omega)).mono ?_
   rintro e G1 ⟨v7, rfl, o7, bA⟩
   obtain ⟨a7, k7, hv7⟩ := o7.slice
   subst hv7
   have R7 := o7.rd
   have F7 : New w (.slice a7 (woN ns o.path).length k7) := OwnN.new9 o7 BD.out.size
   have A2 := BoxO.below hHeld bA
   have BE := hd9 (BD.out.trans (bA.mono BD.out.size))
   clear o7 bA
   refine hK.out _ _ (A2) (fun hx9 => ?_)
   clear hK K hHeld
   have hHeld := hx9
   clear hx9
   try simp only [Act.put, sT9, sZ9, sS9]
   refine wpAnyH_ready (rs := [6]) (by kernel_rfl) (by simp) ?_
   refine AllReadyH.cons (o := ⟨some 107, _, _, _, _, _⟩) rfl (fun K hK => ?_) AllReadyH.nil
   go_simp
   refine (l3Parent_any G1 o.path HPK.out).mono ?_
   rintro e G2 ⟨rfl, bA⟩
   have A3 := A2.below bA
   replace R7 := R7.below bA
   have BF := hd9 (BE.out.trans (bA.mono BE.out.size))
   clear bA
   refine hK.out _ _ (A3) (fun hx9 => ?_)
   clear hK K hHeld
   have hHeld := hx9
   clear hx9
   try simp only [Act.put, sT9, sZ9, sS9]
   refine wpAnyH_ready (rs := [8]) (by kernel_rfl) (by simp) ?_
   refine AllReadyH.cons (o := ⟨some 109, _, _, _, _, _⟩) rfl (fun K hK => ?_) AllReadyH.nil
   go_simp
   refine (l3Touch_any G2 _ (woN ns o.path) (parB o.path) z R7 (by have := woN_len ns o.path; omega) (cv_at (fun m hm => cv_of HOK.out m (List.mem_filter.1 hm).1))).mono ?_
   rintro e G3 ⟨v8, rfl, r8, f8, bA⟩
   obtain ⟨a8, k8, hv8, -, -⟩ := r8.len
   subst hv8
   have A4 := A3.below bA
   have BG := hd9 (BF.out.trans (bA.mono BF.out.size))
   clear bA
   refine hK.out _ _ (A4) (fun hx9 => ?_)
   clear hK K hHeld
   have hHeld := hx9
   clear hx9
   try simp only [Act.put, sT9, sZ9, sS9]
   refine tkL9 (i := 11) (oi := ⟨some 6, _, _, _, _, _⟩) (v := (.int .i64 0)) rfl (by kernel_rfl) (fun _ _ _ h => h) (by rfl) (by assumption) ?hy9 ?_
   case hy9 => intro w9 hS9; go_simp
   try simp only [Act.put, sT9, sZ9, sS9]
   refine tkL9 (i := 12) (oi := ⟨some 7, _, _, _, _, _⟩) (v := (.slice a8 (toN (woN ns o.path) (parB o.path) z).length k8)) rfl (by kernel_rfl) (fun _ _ _ h => h) (by rfl) (by assumption) ?hy10 ?_
   case hy10 => intro w9 hS9; go_simp
   try simp only [Act.put, sT9, sZ9, sS9]
   refine tkL9 (i := 13) (oi := ⟨some 8, _, _, _, _, _⟩) (v := (.string o.path)) rfl (by kernel_rfl) (fun _ _ _ h => h) (by rfl) (by assumption) ?hy11 ?_
   case hy11 => intro w9 hS9; go_simp
   try simp only [Act.put, sT9, sZ9, sS9]
   refine wpAnyH_done (by kernel_rfl) ?_ _
   clear hHeld
   have R8 : Hid (RdN G3 (.slice a8 (toN (woN ns o.path) (parB o.path) z).length k8) (toN (woN ns o.path) (parB o.path) z)) := r8
   have F8 : Hid (New w (.slice a8 (toN (woN ns o.path) (parB o.path) z).length k8)) := f8.new F7 BF.out.size
   clear A2 A3 A4 R7 F7 f8 r8 BD BE BF
   go_wp2
   exact bodyPost_ret (v := .tuple #[.int .i64 0, .slice a8 (toN (woN ns o.path) (parB o.path) z).length k8, .string o.path]) (by simp [results, Tryz.results133, go_sem]) rfl ⟨_, by rw [HD.out], by rw [HD.out]; exact R8.out, .inr F8.out, BG.out⟩
 · go_wp2
   go_quiet (fail)
   have BQ : Hid (Below w.heap.size w (w3.drewN nq)) := B1.out.trans ((below_drewN' w3 nq).mono B1.out.size)
   have XQ : Hid (BoxO (w3.drewN nq) w.heap.size o) := X1.out.below (below_drewN' w3 nq)
   clear xl c0 c1 c2 c3 c4 a2
   generalize w3.drewN nq = wq at *
   obtain ⟨xl, c0, c1, c2, c3, c4⟩ := XQ.out
   go_wp2_with fail
   refine (l3Below_any wq _ ns o.path (HR.out.below BQ.out) hn HOK.out).mono ?_
   rintro e w9 ⟨v9, rfl, o9, b9⟩
   obtain ⟨a9, k9, hv9⟩ := o9.slice
   subst hv9
   have B9 := hd9 (BQ.out.trans (b9.mono BQ.out.size))
   have X9 := hd9 (XQ.out.below b9)
   clear b9 o9 BQ XQ xl c0 c1 c2 c3 c4
   by_cases hch : 0 < (chN ns o.path).length
   · rw [if_pos hch] at HD
     have hchI : (0 : Int) < ((chN ns o.path).length : Int) := by omega
     go_wp2
     exact bodyPost_ret (v := .tuple #[.int .i64 5, .slice (some ⟨b, oo, none⟩) ns.length ca, .string ⟨#[]⟩]) (by simp [results, Tryz.results133, go_sem]) rfl ⟨_, by rw [HD.out], by rw [HD.out]; exact HR.out.below B9.out, .inl rfl, B9.out⟩
   rw [if_neg hch] at HD
   have hchI : ¬ (0 : Int) < ((chN ns o.path).length : Int) := by omega
   go_wp2_with fail
   refine wp_region_held_drew (S := fun W => BoxO W w.heap.size o) (by kernel_rfl) (X9.out.below (below_drewN' w9 1)) (fun hHeld => ?_)
   have BD : Hid (Below w.heap.size w w9.drew) := B9.out.trans ((below_drewN' w9 1).mono B9.out.size)
   clear X9 B9
   generalize w9.drew = G0 at *
   refine tkL9 (i := 0) (oi := ⟨some 101, _, _, _, _, _⟩) (v := (.slice (some ⟨b, oo, none⟩) ns.length ca)) rfl (by kernel_rfl) (fun _ _ _ h => h) (by rfl) (by assumption) ?hyb1 ?_
   case hyb1 =>
    intro w9 hS9
    go_simp
   try simp only [Act.put, sT9, sZ9, sS9]
   refine tkL9 (i := 1) (oi := ⟨some 102, _, _, _, _, _⟩) (v := (.pointer (some ⟨w.heap.size, 1, none⟩))) rfl (by kernel_rfl) (fun _ _ _ h => h) (by rfl) (by assumption) ?hyb2 ?_
   case hyb2 =>
    intro w9 hS9
    go_simp
   try simp only [Act.put, sT9, sZ9, sS9]
   refine tkL9 (i := 2) (oi := ⟨some 103, _, _, _, _, _⟩) (v := (.string o.path)) rfl (by kernel_rfl) (fun _ _ _ h => h) (by rfl) (by assumption) ?hyb3 ?_
   case hyb3 =>
    intro w9 hS9
    have y1 := hS9.c1
    go_simp
   try simp only [Act.put, sT9, sZ9, sS9]
   refine tkL9 (i := 4) (oi := ⟨some 105, _, _, _, _, _⟩) (v := (.pointer (some ⟨w.heap.size, 1, none⟩))) rfl (by kernel_rfl) (fun _ _ _ h => h) (by rfl) (by assumption) ?hyb4 ?_
   case hyb4 =>
    intro w9 hS9
    go_simp
   try simp only [Act.put, sT9, sZ9, sS9]
   refine tkL9 (i := 5) (oi := ⟨some 106, _, _, _, _, _⟩) (v := (.string o.path)) rfl (by kernel_rfl) (fun _ _ _ h => h) (by rfl) (by assumption) ?hyb5 ?_
   case hyb5 =>
    intro w9 hS9
    have y1 := hS9.c1
    go_simp
   try simp only [Act.put, sT9, sZ9, sS9]
   refine tkL9 (i := 7) (oi := ⟨some 108, _, _, _, _, _⟩) (v := (.int .i64 z)) rfl (by kernel_rfl) (fun _ _ _ h => h) (by rfl) (by assumption) ?hyb6 ?_
   case hyb6 =>
    intro w9 hS9
    go_simp
   try simp only [Act.put, sT9, sZ9, sS9]
   refine tkL9 (i := 9) (oi := ⟨some 110, _, _, _, _, _⟩) (v := (.pointer (some ⟨w.heap.size, 1, none⟩))) rfl (by kernel_rfl) (fun _ _ _ h => h) (by rfl) (by assumption) ?hyb7 ?_
   case hyb7 =>
    intro w9 hS9
    go_simp
   try simp only [Act.put, sT9, sZ9, sS9]
   refine tkL9 (i := 10) (oi := ⟨some 111, _, _, _, _, _⟩) (v := (.string o.path)) rfl (by kernel_rfl) (fun _ _ _ h => h) (by rfl) (by assumption) ?hyb8 ?_
   case hyb8 =>
    intro w9 hS9
    have y1 := hS9.c1
    go_simp
   try simp only [Act.put, sT9, sZ9, sS9]
   refine wpAnyH_ready (rs := [3]) (by kernel_rfl) (by simp) ?_
   refine AllReadyH.cons (o := ⟨some 104, _, _, _, _, _⟩) rfl (fun K hK => ?_) AllReadyH.nil
   go_simp
   refine (without_any G0 _ ns o.path (HR.out.below BD.out) (by omega)).mono ?_
   rintro e G1 ⟨v7, rfl, o7, bA⟩
   obtain ⟨a7, k7, hv7⟩ := o7.slice
   subst hv7
   have R7 := o7.rd
   have F7 : New w (.slice a7 (woN ns o.path).length k7) := OwnN.new9 o7 BD.out.size
   have A2 := BoxO.below hHeld bA
   have BE := hd9 (BD.out.trans (bA.mono BD.out.size))
   clear o7 bA
   refine hK.out _ _ (A2) (fun hx9 => ?_)
   clear hK K hHeld
   have hHeld := hx9
   clear hx9
   try simp only [Act.put, sT9, sZ9, sS9]
   refine wpAnyH_ready (rs := [6]) (by kernel_rfl) (by simp) ?_
   refine AllReadyH.cons (o := ⟨some 107, _, _, _, _, _⟩) rfl (fun K hK => ?_) AllReadyH.nil
   go_simp
   refine (l3Parent_any G1 o.path HPK.out).mono ?_
   rintro e G2 ⟨rfl, bA⟩
   have A3 := A2.below bA
   replace R7 := R7.below bA
   have BF := hd9 (BE.out.trans (bA.mono BE.out.size))
   clear bA
   refine hK.out _ _ (A3) (fun hx9 => ?_)
   clear hK K hHeld
   have hHeld := hx9
   clear hx9
   try simp only [Act.put, sT9, sZ9, sS9]
   refine wpAnyH_ready (rs := [8]) (by kernel_rfl) (by simp) ?_
   refine AllReadyH.cons (o := ⟨some 109, _, _, _, _, _⟩) rfl (fun K hK => ?_) AllReadyH.nil
   go_simp
   refine (l3Touch_any G2 _ (woN ns o.path) (parB o.path) z R7 (by have := woN_len ns o.path; omega) (cv_at (fun m hm => cv_of HOK.out m (List.mem_filter.1 hm).1))).mono ?_
   rintro e G3 ⟨v8, rfl, r8, f8, bA⟩
   obtain ⟨a8, k8, hv8, -, -⟩ := r8.len
   subst hv8
   have A4 := A3.below bA
   have BG := hd9 (BF.out.trans (bA.mono BF.out.size))
   clear bA
   refine hK.out _ _ (A4) (fun hx9 => ?_)
   clear hK K hHeld
   have hHeld := hx9
   clear hx9
   try simp only [Act.put, sT9, sZ9, sS9]
   refine tkL9 (i := 11) (oi := ⟨some 6, _, _, _, _, _⟩) (v := (.int .i64 0)) rfl (by kernel_rfl) (fun _ _ _ h => h) (by rfl) (by assumption) ?hyb9 ?_
   case hyb9 =>
    intro w9 hS9
    go_simp
   try simp only [Act.put, sT9, sZ9, sS9]
   refine tkL9 (i := 12) (oi := ⟨some 7, _, _, _, _, _⟩) (v := (.slice a8 (toN (woN ns o.path) (parB o.path) z).length k8)) rfl (by kernel_rfl) (fun _ _ _ h => h) (by rfl) (by assumption) ?hyb10 ?_
   case hyb10 =>
    intro w9 hS9
    go_simp
   try simp only [Act.put, sT9, sZ9, sS9]
   refine tkL9 (i := 13) (oi := ⟨some 8, _, _, _, _, _⟩) (v := (.string o.path)) rfl (by kernel_rfl) (fun _ _ _ h => h) (by rfl) (by assumption) ?hyb11 ?_
   case hyb11 =>
    intro w9 hS9
    go_simp
   try simp only [Act.put, sT9, sZ9, sS9]
   refine wpAnyH_done (by kernel_rfl) ?_ _
   clear hHeld
   have R8 : Hid (RdN G3 (.slice a8 (toN (woN ns o.path) (parB o.path) z).length k8) (toN (woN ns o.path) (parB o.path) z)) := r8
   have F8 : Hid (New w (.slice a8 (toN (woN ns o.path) (parB o.path) z).length k8)) := f8.new F7 BF.out.size
   clear A2 A3 A4 R7 F7 f8 r8 BD BE BF
   go_wp2
   exact bodyPost_ret (v := .tuple #[.int .i64 0, .slice a8 (toN (woN ns o.path) (parB o.path) z).length k8, .string o.path]) (by simp [results, Tryz.results133, go_sem]) rfl ⟨_, by rw [HD.out], by rw [HD.out]; exact R8.out, .inr F8.out, BG.out⟩
theorem wfO_kind {o : Op5} (h : wfO o = true) : o.kind = 1 ∨ o.kind = 2 ∨ o.kind = 3 ∨ o.kind = 4 := by
 unfold wfO at h
 simp only [Bool.and_eq_true, decide_eq_true_eq] at h
 omega
theorem l3Do_any (w : World) (v : Value) (ns : List Nd) (o : Op5) (z : Int) (h : RdN w v ns) (hn : ns.length ≤ 1000) (hok : ∀ k, k < ns.length → okNd (nAt ns k) = true) (hp : o.path.size ≤ 1048576) (hd : o.data.size ≤ 1048576) :
    Calls Tryz.prog 133 #[v, .agg #[.int .i64 o.kind, .string o.path, .string o.data, .int .i64 o.ver, .bool o.seq], .int .i64 z] w fun e w' => DoPost w v ns o z e w' := by
 cases hw : wfO o with
 | false => exact l3Do_bad w v ns o z h hp hd hw
 | true =>
  rcases wfO_kind hw with hk | hk | hk | hk
  · exact l3Do_create w v ns o z h hn hok hp hd hw hk
  · exact l3Do_delete w v ns o z h hn hok hp hd hw hk
  · exact l3Do_set w v ns o z h hn hok hp hd hw hk
  · exact l3Do_check w v ns o z h hn hp hd hw hk
end Go.Proofs.YtcopcegamadkgaaGreatDoor


