import Derived.Test.YtcopcegamadkgaaGreatDoorJ01
import Derived.Deep.RegionHeld3
import Derived.Laws.Cover1
import Derived.IntWalk
import Derived.Laws.BytesArg
import Derived.Lib.ConvBytes
import Derived.Lib.AppendStr
set_option maxRecDepth 100000
set_option maxHeartbeats 16000000
namespace Go.Proofs.YtcopcegamadkgaaGreatDoor
open Go.RowKit
theorem CellsN.all {w : World} {b p : Nat} {n : Nd} (h : CellsN w b p n) : w.cell? ⟨b, p, none⟩ = some (.string n.path) ∧ w.cell? ⟨b, p + 1, none⟩ = some (.string n.data) ∧ w.cell? ⟨b, p + 2, none⟩ = some (.int .i64 n.ver) ∧ w.cell? ⟨b, p + 3, none⟩ = some (.int .i64 n.cver) ∧ w.cell? ⟨b, p + 4, none⟩ = some (.int .i64 n.cz) ∧ w.cell? ⟨b, p + 5, none⟩ = some (.int .i64 n.mz) ∧ w.cell? ⟨b, p + 6, none⟩ = some (.int .i64 n.pz) := ⟨h.c0, h.c1, h.c2, h.c3, h.c4, h.c5, h.c6⟩
theorem less_total : ∀ x y : List UInt8, (!(Op.bytesLess x y)) = (Op.bytesLess y x || y == x)
 | [], [] => by simp [Op.bytesLess]
 | [], b :: y => by simp [Op.bytesLess]
 | a :: x, [] => by simp [Op.bytesLess]
 | a :: x, b :: y => by
  have ih := less_total x y
  unfold Op.bytesLess
  by_cases h1 : a < b
  · have h2 : ¬ b < a := fun h => absurd (UInt8.lt_trans h1 h) (UInt8.lt_irrefl a)
    have h3 : ¬ b = a := fun h => by subst h; exact UInt8.lt_irrefl _ h1
    simp [h1, h2, h3]
  · by_cases h2 : b < a
    · have h3 : ¬ b = a := fun h => by subst h; exact UInt8.lt_irrefl _ h2
      have h4 : ¬ a = b := fun h => h3 h.symm
      simp [h1, h2, h4]
    · have h3 : a = b := UInt8.le_antisymm (UInt8.not_lt.1 h2) (UInt8.not_lt.1 h1)
      subst h3
      simp only [UInt8.lt_irrefl, decide_false, beq_self_eq_true, Bool.false_or, Bool.true_and, List.cons_beq_cons]
      exact ih
def ltP (a b : ByteArray) : Bool := Op.bytesLess a.toList b.toList
theorem ltP_yes {a b : ByteArray} (h : ltP a b = true) : Op.bytesLess b.toList a.toList = false ∧ (b.toList == a.toList) = false := by
 have := less_total a.toList b.toList
 unfold ltP at h
 rw [h] at this
 simpa using this
theorem ltP_no {a b : ByteArray} (h : ltP a b = false) : Op.bytesLess b.toList a.toList = true ∨ (Op.bytesLess b.toList a.toList = false ∧ (b.toList == a.toList) = true) := by
 have := less_total a.toList b.toList
 unfold ltP at h
 rw [h] at this
 cases h1 : Op.bytesLess b.toList a.toList with
 | true => exact .inl rfl
 | false => rw [h1] at this; exact .inr ⟨rfl, by simpa using this⟩
def okAt (ns : List Nd) (k : Nat) : Bool := okNd (nAt ns k) && (decide (k = 0) || ltP (nAt ns (k - 1)).path (nAt ns k).path)
def okSorted (ns : List Nd) : Bool := (List.range ns.length).all (okAt ns)
def okTree (ns : List Nd) : Bool := decide (ns.length ≤ 1000) && okSorted ns
theorem sorted_no {ns : List Nd} {k : Nat} (h : k < ns.length) (hn : okAt ns k = false) : okSorted ns = false := by
 unfold okSorted; rw [List.all_eq_false]; exact ⟨k, List.mem_range.2 h, by rw [hn]; simp⟩
theorem sorted_yes {ns : List Nd} (h : ∀ k, k < ns.length → okAt ns k = true) : okSorted ns = true := by
 unfold okSorted; rw [List.all_eq_true]; exact fun k hk => h k (List.mem_range.1 hk)
theorem okAt_zero (ns : List Nd) : okAt ns 0 = okNd (nAt ns 0) := by unfold okAt; simp
theorem okAt_succ (ns : List Nd) (j : Nat) : okAt ns (j + 1) = (okNd (nAt ns (j + 1)) && ltP (nAt ns j).path (nAt ns (j + 1)).path) := by unfold okAt; simp
theorem sorted_row (w : World) (b o n cap : Nat) (ns : List Nd) (hp : ns.length = n) (hn : n ≤ 1048576) (hb : b < w.heap.size) (hsz : ∀ i, (nAt ns i).path.size ≤ 1048576 ∧ (nAt ns i).data.size ≤ 1048576)
    (hc : ∀ i, i < n → CellsN w b (o + i * 7) (nAt ns i)) :
    Calls Tryz.prog 40 #[.slice (some ⟨b, o, none⟩) n cap] w fun e w' => e = .returned (.bool (okSorted ns)) ∧ Below w.heap.size w w' := by
 have HC : Hid (∀ i, i < n → CellsN w b (o + i * 7) (nAt ns i)) := hc
 have HP : Hid (ns.length = n) := hp
 have HZ : Hid (∀ i, (nAt ns i).path.size ≤ 1048576 ∧ (nAt ns i).data.size ≤ 1048576) := hsz
 clear hc hp hsz
 go_enter Tryz.func40, Tryz.ntmps40
 go_wp2
 go_loopw [3] (fun i wr => ∃ k : Nat, k ≤ n ∧ i = .int .i64 k ∧ Hid (∀ t, t < k → okAt ns t = true) ∧ Hid (Below w.heap.size w wr)) (fun i _ => n - (intOf i).toNat)
 case atStart => exact ⟨0, Nat.zero_le _, rfl, (fun t ht => by omega), Below.refl _ _⟩
 case round =>
  obtain ⟨k, hk, rfl, HA, HG⟩ := hrel
  by_cases hlt : k < n
  · have hltI : (k : Int) < (n : Int) := by omega
    have g0 : (0 : Int) ≤ (k : Int) := by omega
    have HE : Hid (∀ q, Calls Tryz.prog 99 #[.agg #[.string (nAt ns k).path, .string (nAt ns k).data, .int .i64 (nAt ns k).ver, .int .i64 (nAt ns k).cver, .int .i64 (nAt ns k).cz, .int .i64 (nAt ns k).mz, .int .i64 (nAt ns k).pz]] (wr.drewN q) fun e w' => e = .returned (.bool (okNd (nAt ns k))) ∧ Hid (Below w.heap.size w w')) := by
     intro q
     refine (specNode_any _ (nAt ns k) (HZ.out k).1 (HZ.out k).2).mono ?_
     rintro e w' ⟨rfl, b'⟩
     exact ⟨rfl, (HG.out.trans ((below_drewN' wr q).mono HG.out.size)).trans (b'.mono HG.out.size)⟩
    have HD : Hid (Below w.heap.size w wr.drew) := HG.out.trans ((below_drewN' wr 1).mono HG.out.size)
    have HLT : Hid (k < ns.length) := by rw [HP.out]; exact hlt
    cases hok : okNd (nAt ns k) with
    | false =>
     have HOK : Hid (okNd (nAt ns k) = false) := hok
     have HN : Hid (okSorted ns = false) := sorted_no HLT.out (by unfold okAt; rw [hok]; rfl)
     clear hok
     go_wp2
     refine wp_region_held_drew (S := fun W => Hid (Below w.heap.size w W) ∧ (W.cell? ⟨b, o + k * 7, none⟩ = some (.string (nAt ns k).path) ∧ W.cell? ⟨b, o + k * 7 + 1, none⟩ = some (.string (nAt ns k).data) ∧ W.cell? ⟨b, o + k * 7 + 2, none⟩ = some (.int .i64 (nAt ns k).ver) ∧ W.cell? ⟨b, o + k * 7 + 3, none⟩ = some (.int .i64 (nAt ns k).cver) ∧ W.cell? ⟨b, o + k * 7 + 4, none⟩ = some (.int .i64 (nAt ns k).cz) ∧ W.cell? ⟨b, o + k * 7 + 5, none⟩ = some (.int .i64 (nAt ns k).mz) ∧ W.cell? ⟨b, o + k * 7 + 6, none⟩ = some (.int .i64 (nAt ns k).pz))) (by kernel_rfl) (⟨HD, ((HC.out k hlt).below HD.out hb).all⟩) (fun hHeld => ?_)
     refine tkL9 (i := 0) (oi := ⟨some 10, _, _, _, _, _⟩) (v := ?v1) rfl (by kernel_rfl) (fun _ _ _ h => h) (by rfl) (by assumption) ?hy1 ?_
     case hy1 => intro w9 hS9; obtain ⟨-, hS9⟩ := hS9; go_simp; try with_reducible rfl
     try simp only [Act.put, sT9, sZ9, sS9]
     refine tkL9 (i := 1) (oi := ⟨some 11, _, _, _, _, _⟩) (v := ?v2) rfl (by kernel_rfl) (fun _ _ _ h => h) (by rfl) (by assumption) ?hy2 ?_
     case hy2 => intro w9 hS9; obtain ⟨-, hS9⟩ := hS9; go_simp; try with_reducible rfl
     try simp only [Act.put, sT9, sZ9, sS9]
     refine tkL9 (i := 2) (oi := ⟨some 12, _, _, _, _, _⟩) (v := ?v3) rfl (by kernel_rfl) (fun _ _ _ h => h) (by rfl) (by assumption) ?hy3 ?_
     case hy3 => intro w9 hS9; obtain ⟨-, hS9⟩ := hS9; go_simp; try with_reducible rfl
     try simp only [Act.put, sT9, sZ9, sS9]
     refine tkL9 (i := 3) (oi := ⟨some 13, _, _, _, _, _⟩) (v := ?v4) rfl (by kernel_rfl) (fun _ _ _ h => h) (by rfl) (by assumption) ?hy4 ?_
     case hy4 => intro w9 hS9; obtain ⟨-, hS9⟩ := hS9; go_simp; try with_reducible rfl
     try simp only [Act.put, sT9, sZ9, sS9]
     refine wpAnyH_ready (rs := [4]) (by kernel_rfl) (by simp) ?_
     refine AllReadyH.cons (o := ⟨some 14, _, _, _, _, _⟩) rfl (fun K hK => ?_) AllReadyH.nil
     go_simp
     refine (HE.out 1).mono ?_
     rintro e w' ⟨rfl, HB⟩
     rw [HOK.out]
     refine hK.out _ _ ((show (fun W => Hid (Below w.heap.size w W) ∧ (W.cell? ⟨b, o + k * 7, none⟩ = some (.string (nAt ns k).path) ∧ W.cell? ⟨b, o + k * 7 + 1, none⟩ = some (.string (nAt ns k).data) ∧ W.cell? ⟨b, o + k * 7 + 2, none⟩ = some (.int .i64 (nAt ns k).ver) ∧ W.cell? ⟨b, o + k * 7 + 3, none⟩ = some (.int .i64 (nAt ns k).cver) ∧ W.cell? ⟨b, o + k * 7 + 4, none⟩ = some (.int .i64 (nAt ns k).cz) ∧ W.cell? ⟨b, o + k * 7 + 5, none⟩ = some (.int .i64 (nAt ns k).mz) ∧ W.cell? ⟨b, o + k * 7 + 6, none⟩ = some (.int .i64 (nAt ns k).pz))) w' from ⟨HB, ((HC.out k hlt).below HB.out hb).all⟩)) (fun _ => ?_)
     clear hK K hHeld
     have hHeld := (show (fun W => Hid (Below w.heap.size w W) ∧ (W.cell? ⟨b, o + k * 7, none⟩ = some (.string (nAt ns k).path) ∧ W.cell? ⟨b, o + k * 7 + 1, none⟩ = some (.string (nAt ns k).data) ∧ W.cell? ⟨b, o + k * 7 + 2, none⟩ = some (.int .i64 (nAt ns k).ver) ∧ W.cell? ⟨b, o + k * 7 + 3, none⟩ = some (.int .i64 (nAt ns k).cver) ∧ W.cell? ⟨b, o + k * 7 + 4, none⟩ = some (.int .i64 (nAt ns k).cz) ∧ W.cell? ⟨b, o + k * 7 + 5, none⟩ = some (.int .i64 (nAt ns k).mz) ∧ W.cell? ⟨b, o + k * 7 + 6, none⟩ = some (.int .i64 (nAt ns k).pz))) w' from ⟨HB, ((HC.out k hlt).below HB.out hb).all⟩)
     try simp only [Act.put, sT9, sZ9, sS9]
     refine tkL9 (i := 5) (oi := ⟨some 15, _, _, _, _, _⟩) (v := ?v5) rfl (by kernel_rfl) (fun _ _ _ h => h) (by rfl) (by assumption) ?hy5 ?_
     case hy5 => intro w9 hS9; obtain ⟨-, hS9⟩ := hS9; go_simp; try with_reducible rfl
     try simp only [Act.put, sT9, sZ9, sS9]
     refine tkL9 (i := 6) (oi := ⟨some 16, _, _, _, _, _⟩) (v := ?v6) rfl (by kernel_rfl) (fun _ _ _ h => h) (by rfl) (by assumption) ?hy6 ?_
     case hy6 => intro w9 hS9; obtain ⟨-, hS9⟩ := hS9; go_simp; try with_reducible rfl
     try simp only [Act.put, sT9, sZ9, sS9]
     refine tkR9 (i := 7) (oi := ⟨some 17, _, _, _, _, _⟩) rfl (by kernel_rfl) (fun _ _ _ h => h) (by rfl) (by assumption) ?_
     try simp only [Act.put, sT9, sZ9, sS9]
     refine tkR9 (i := 8) (oi := ⟨some 18, _, _, _, _, _⟩) rfl (by kernel_rfl) (fun _ _ _ h => h) (by rfl) (by assumption) ?_
     try simp only [Act.put, sT9, sZ9, sS9]
     refine tkR9 (i := 9) (oi := ⟨some 19, _, _, _, _, _⟩) rfl (by kernel_rfl) (fun _ _ _ h => h) (by rfl) (by assumption) ?_
     try simp only [Act.put, sT9, sZ9, sS9]
     refine tkR9 (i := 10) (oi := ⟨some 20, _, _, _, _, _⟩) rfl (by kernel_rfl) (fun _ _ _ h => h) (by rfl) (by assumption) ?_
     try simp only [Act.put, sT9, sZ9, sS9]
     refine tkR9 (i := 11) (oi := ⟨some 21, _, _, _, _, _⟩) rfl (by kernel_rfl) (fun _ _ _ h => h) (by rfl) (by assumption) ?_
     try simp only [Act.put, sT9, sZ9, sS9]
     refine tkR9 (i := 12) (oi := ⟨some 22, _, _, _, _, _⟩) rfl (by kernel_rfl) (fun _ _ _ h => h) (by rfl) (by assumption) ?_
     try simp only [Act.put, sT9, sZ9, sS9]
     refine tkR9 (i := 13) (oi := ⟨some 23, _, _, _, _, _⟩) rfl (by kernel_rfl) (fun _ _ _ h => h) (by rfl) (by assumption) ?_
     try simp only [Act.put, sT9, sZ9, sS9]
     refine tkR9 (i := 14) (oi := ⟨some 24, _, _, _, _, _⟩) rfl (by kernel_rfl) (fun _ _ _ h => h) (by rfl) (by assumption) ?_
     try simp only [Act.put, sT9, sZ9, sS9]
     refine tkR9 (i := 15) (oi := ⟨some 25, _, _, _, _, _⟩) rfl (by kernel_rfl) (fun _ _ _ h => h) (by rfl) (by assumption) ?_
     try simp only [Act.put, sT9, sZ9, sS9]
     refine tkR9 (i := 16) (oi := ⟨some 26, _, _, _, _, _⟩) rfl (by kernel_rfl) (fun _ _ _ h => h) (by rfl) (by assumption) ?_
     try simp only [Act.put, sT9, sZ9, sS9]
     refine tkR9 (i := 17) (oi := ⟨some 27, _, _, _, _, _⟩) rfl (by kernel_rfl) (fun _ _ _ h => h) (by rfl) (by assumption) ?_
     try simp only [Act.put, sT9, sZ9, sS9]
     refine tkR9 (i := 18) (oi := ⟨some 28, _, _, _, _, _⟩) rfl (by kernel_rfl) (fun _ _ _ h => h) (by rfl) (by assumption) ?_
     try simp only [Act.put, sT9, sZ9, sS9]
     refine tkR9 (i := 19) (oi := ⟨some 29, _, _, _, _, _⟩) rfl (by kernel_rfl) (fun _ _ _ h => h) (by rfl) (by assumption) ?_
     try simp only [Act.put, sT9, sZ9, sS9]
     refine tkR9 (i := 20) (oi := ⟨some 30, _, _, _, _, _⟩) rfl (by kernel_rfl) (fun _ _ _ h => h) (by rfl) (by assumption) ?_
     try simp only [Act.put, sT9, sZ9, sS9]
     refine tkR9 (i := 21) (oi := ⟨some 31, _, _, _, _, _⟩) rfl (by kernel_rfl) (fun _ _ _ h => h) (by rfl) (by assumption) ?_
     try simp only [Act.put, sT9, sZ9, sS9]
     refine tkR9 (i := 22) (oi := ⟨some 32, _, _, _, _, _⟩) rfl (by kernel_rfl) (fun _ _ _ h => h) (by rfl) (by assumption) ?_
     try simp only [Act.put, sT9, sZ9, sS9]
     refine tkL9 (i := 23) (oi := ⟨some 33, _, _, _, _, _⟩) (v := ?v7) rfl (by kernel_rfl) (fun _ _ _ h => h) (by rfl) (by assumption) ?hy7 ?_
     case hy7 => intro w9 hS9; obtain ⟨-, hS9⟩ := hS9; go_simp; try with_reducible rfl
     try simp only [Act.put, sT9, sZ9, sS9]
     refine wpAnyH_done (by kernel_rfl) ?_ _
     clear hHeld
     go_wp2
     go_ret
     exact ⟨ret_b HN.out.symm, HB.out⟩
    | true =>
     have HOK : Hid (okNd (nAt ns k) = true) := hok
     clear hok
     cases k with
     | zero =>
      have HT : Hid (okAt ns 0 = true) := by show _ = _; rw [okAt_zero]; exact HOK.out
      have g2 : (0 : Int) < (n : Int) := by omega
      have HC0 : CellsN w b o (nAt ns 0) := by have := HC.out 0 hlt; rwa [Nat.zero_mul, Nat.add_zero] at this
      go_wp2
      refine wp_region_held_drew (S := fun W => Hid (Below w.heap.size w W) ∧ (W.cell? ⟨b, o, none⟩ = some (.string (nAt ns 0).path) ∧ W.cell? ⟨b, o + 1, none⟩ = some (.string (nAt ns 0).data) ∧ W.cell? ⟨b, o + 2, none⟩ = some (.int .i64 (nAt ns 0).ver) ∧ W.cell? ⟨b, o + 3, none⟩ = some (.int .i64 (nAt ns 0).cver) ∧ W.cell? ⟨b, o + 4, none⟩ = some (.int .i64 (nAt ns 0).cz) ∧ W.cell? ⟨b, o + 5, none⟩ = some (.int .i64 (nAt ns 0).mz) ∧ W.cell? ⟨b, o + 6, none⟩ = some (.int .i64 (nAt ns 0).pz))) (by kernel_rfl) (⟨HD, (HC0.below HD.out hb).all⟩) (fun hHeld => ?_)
      refine tkL9 (i := 0) (oi := ⟨some 10, _, _, _, _, _⟩) (v := ?v8) rfl (by kernel_rfl) (fun _ _ _ h => h) (by rfl) (by assumption) ?hy8 ?_
      case hy8 => intro w9 hS9; obtain ⟨-, hS9⟩ := hS9; go_simp; try with_reducible rfl
      try simp only [Act.put, sT9, sZ9, sS9]
      refine tkL9 (i := 1) (oi := ⟨some 11, _, _, _, _, _⟩) (v := ?v9) rfl (by kernel_rfl) (fun _ _ _ h => h) (by rfl) (by assumption) ?hy9 ?_
      case hy9 => intro w9 hS9; obtain ⟨-, hS9⟩ := hS9; go_simp; try with_reducible rfl
      try simp only [Act.put, sT9, sZ9, sS9]
      refine tkL9 (i := 2) (oi := ⟨some 12, _, _, _, _, _⟩) (v := ?v10) rfl (by kernel_rfl) (fun _ _ _ h => h) (by rfl) (by assumption) ?hy10 ?_
      case hy10 => intro w9 hS9; obtain ⟨-, hS9⟩ := hS9; go_simp; try with_reducible rfl
      try simp only [Act.put, sT9, sZ9, sS9]
      refine tkL9 (i := 3) (oi := ⟨some 13, _, _, _, _, _⟩) (v := ?v11) rfl (by kernel_rfl) (fun _ _ _ h => h) (by rfl) (by assumption) ?hy11 ?_
      case hy11 => intro w9 hS9; obtain ⟨-, hS9⟩ := hS9; go_simp; try with_reducible rfl
      try simp only [Act.put, sT9, sZ9, sS9]
      refine wpAnyH_ready (rs := [4]) (by kernel_rfl) (by simp) ?_
      refine AllReadyH.cons (o := ⟨some 14, _, _, _, _, _⟩) rfl (fun K hK => ?_) AllReadyH.nil
      go_simp
      refine (HE.out 1).mono ?_
      rintro e w' ⟨rfl, HB⟩
      rw [HOK.out]
      refine hK.out _ _ ((show (fun W => Hid (Below w.heap.size w W) ∧ (W.cell? ⟨b, o, none⟩ = some (.string (nAt ns 0).path) ∧ W.cell? ⟨b, o + 1, none⟩ = some (.string (nAt ns 0).data) ∧ W.cell? ⟨b, o + 2, none⟩ = some (.int .i64 (nAt ns 0).ver) ∧ W.cell? ⟨b, o + 3, none⟩ = some (.int .i64 (nAt ns 0).cver) ∧ W.cell? ⟨b, o + 4, none⟩ = some (.int .i64 (nAt ns 0).cz) ∧ W.cell? ⟨b, o + 5, none⟩ = some (.int .i64 (nAt ns 0).mz) ∧ W.cell? ⟨b, o + 6, none⟩ = some (.int .i64 (nAt ns 0).pz))) w' from ⟨HB, (HC0.below HB.out hb).all⟩)) (fun _ => ?_)
      clear hK K hHeld
      have hHeld := (show (fun W => Hid (Below w.heap.size w W) ∧ (W.cell? ⟨b, o, none⟩ = some (.string (nAt ns 0).path) ∧ W.cell? ⟨b, o + 1, none⟩ = some (.string (nAt ns 0).data) ∧ W.cell? ⟨b, o + 2, none⟩ = some (.int .i64 (nAt ns 0).ver) ∧ W.cell? ⟨b, o + 3, none⟩ = some (.int .i64 (nAt ns 0).cver) ∧ W.cell? ⟨b, o + 4, none⟩ = some (.int .i64 (nAt ns 0).cz) ∧ W.cell? ⟨b, o + 5, none⟩ = some (.int .i64 (nAt ns 0).mz) ∧ W.cell? ⟨b, o + 6, none⟩ = some (.int .i64 (nAt ns 0).pz))) w' from ⟨HB, (HC0.below HB.out hb).all⟩)
      try simp only [Act.put, sT9, sZ9, sS9]
      refine tkL9 (i := 5) (oi := ⟨some 15, _, _, _, _, _⟩) (v := ?v12) rfl (by kernel_rfl) (fun _ _ _ h => h) (by rfl) (by assumption) ?hy12 ?_
      case hy12 => intro w9 hS9; obtain ⟨-, hS9⟩ := hS9; go_simp; try with_reducible rfl
      try simp only [Act.put, sT9, sZ9, sS9]
      refine tkL9 (i := 6) (oi := ⟨some 16, _, _, _, _, _⟩) (v := ?v13) rfl (by kernel_rfl) (fun _ _ _ h => h) (by rfl) (by assumption) ?hy13 ?_
      case hy13 => intro w9 hS9; obtain ⟨-, hS9⟩ := hS9; go_simp; try with_reducible rfl
      try simp only [Act.put, sT9, sZ9, sS9]
      refine tkL9 (i := 7) (oi := ⟨some 17, _, _, _, _, _⟩) (v := ?v14) rfl (by kernel_rfl) (fun _ _ _ h => h) (by rfl) (by assumption) ?hy14 ?_
      case hy14 => intro w9 hS9; obtain ⟨-, hS9⟩ := hS9; go_simp; try with_reducible rfl
      try simp only [Act.put, sT9, sZ9, sS9]
      refine tkL9 (i := 8) (oi := ⟨some 18, _, _, _, _, _⟩) (v := ?v15) rfl (by kernel_rfl) (fun _ _ _ h => h) (by rfl) (by assumption) ?hy15 ?_
      case hy15 => intro w9 hS9; obtain ⟨-, hS9⟩ := hS9; go_simp; try with_reducible rfl
      try simp only [Act.put, sT9, sZ9, sS9]
      refine tkL9 (i := 9) (oi := ⟨some 19, _, _, _, _, _⟩) (v := ?v16) rfl (by kernel_rfl) (fun _ _ _ h => h) (by rfl) (by assumption) ?hy16 ?_
      case hy16 => intro w9 hS9; obtain ⟨-, hS9⟩ := hS9; go_simp; try with_reducible rfl
      try simp only [Act.put, sT9, sZ9, sS9]
      refine tkR9 (i := 10) (oi := ⟨some 20, _, _, _, _, _⟩) rfl (by kernel_rfl) (fun _ _ _ h => h) (by rfl) (by assumption) ?_
      try simp only [Act.put, sT9, sZ9, sS9]
      refine tkR9 (i := 11) (oi := ⟨some 21, _, _, _, _, _⟩) rfl (by kernel_rfl) (fun _ _ _ h => h) (by rfl) (by assumption) ?_
      try simp only [Act.put, sT9, sZ9, sS9]
      refine tkR9 (i := 12) (oi := ⟨some 22, _, _, _, _, _⟩) rfl (by kernel_rfl) (fun _ _ _ h => h) (by rfl) (by assumption) ?_
      try simp only [Act.put, sT9, sZ9, sS9]
      refine tkR9 (i := 13) (oi := ⟨some 23, _, _, _, _, _⟩) rfl (by kernel_rfl) (fun _ _ _ h => h) (by rfl) (by assumption) ?_
      try simp only [Act.put, sT9, sZ9, sS9]
      refine tkR9 (i := 14) (oi := ⟨some 24, _, _, _, _, _⟩) rfl (by kernel_rfl) (fun _ _ _ h => h) (by rfl) (by assumption) ?_
      try simp only [Act.put, sT9, sZ9, sS9]
      refine tkR9 (i := 15) (oi := ⟨some 25, _, _, _, _, _⟩) rfl (by kernel_rfl) (fun _ _ _ h => h) (by rfl) (by assumption) ?_
      try simp only [Act.put, sT9, sZ9, sS9]
      refine tkR9 (i := 16) (oi := ⟨some 26, _, _, _, _, _⟩) rfl (by kernel_rfl) (fun _ _ _ h => h) (by rfl) (by assumption) ?_
      try simp only [Act.put, sT9, sZ9, sS9]
      refine tkR9 (i := 17) (oi := ⟨some 27, _, _, _, _, _⟩) rfl (by kernel_rfl) (fun _ _ _ h => h) (by rfl) (by assumption) ?_
      try simp only [Act.put, sT9, sZ9, sS9]
      refine tkR9 (i := 18) (oi := ⟨some 28, _, _, _, _, _⟩) rfl (by kernel_rfl) (fun _ _ _ h => h) (by rfl) (by assumption) ?_
      try simp only [Act.put, sT9, sZ9, sS9]
      refine tkR9 (i := 19) (oi := ⟨some 29, _, _, _, _, _⟩) rfl (by kernel_rfl) (fun _ _ _ h => h) (by rfl) (by assumption) ?_
      try simp only [Act.put, sT9, sZ9, sS9]
      refine tkR9 (i := 20) (oi := ⟨some 30, _, _, _, _, _⟩) rfl (by kernel_rfl) (fun _ _ _ h => h) (by rfl) (by assumption) ?_
      try simp only [Act.put, sT9, sZ9, sS9]
      refine tkR9 (i := 21) (oi := ⟨some 31, _, _, _, _, _⟩) rfl (by kernel_rfl) (fun _ _ _ h => h) (by rfl) (by assumption) ?_
      try simp only [Act.put, sT9, sZ9, sS9]
      refine tkL9 (i := 22) (oi := ⟨some 32, _, _, _, _, _⟩) (v := ?v17) rfl (by kernel_rfl) (fun _ _ _ h => h) (by rfl) (by assumption) ?hy17 ?_
      case hy17 => intro w9 hS9; obtain ⟨-, hS9⟩ := hS9; go_simp; try with_reducible rfl
      try simp only [Act.put, sT9, sZ9, sS9]
      refine tkL9 (i := 23) (oi := ⟨some 33, _, _, _, _, _⟩) (v := ?v18) rfl (by kernel_rfl) (fun _ _ _ h => h) (by rfl) (by assumption) ?hy18 ?_
      case hy18 => intro w9 hS9; obtain ⟨-, hS9⟩ := hS9; go_simp; try with_reducible rfl
      try simp only [Act.put, sT9, sZ9, sS9]
      refine wpAnyH_done (by kernel_rfl) ?_ _
      clear hHeld
      go_wp2
      go_roundw
      case rel => exact ⟨0 + 1, by omega, by go_num, (fun t ht => by by_cases e : t = 0; (subst e; exact HT.out); exact HA.out t (by omega)), HB⟩
      case measure => simp [intOf]; omega
     | succ j =>
      have g1 : (0 : Int) ≤ (j : Int) + 1 := by omega
      have g2 : (j : Int) + 1 < (n : Int) := by omega
      have g3 : (0 : Int) ≤ (j : Int) := by omega
      have g4 : (j : Int) < (n : Int) := by omega
      have g5 : (0 : Int) < (j : Int) + 1 := by omega
      have g6 : IntKind.i64.wrap (j : Int) = (j : Int) := by rw [IntKind.wrap_i64]; omega
      cases hcmp : ltP (nAt ns j).path (nAt ns (j + 1)).path with
      | true =>
       have HT : Hid (okAt ns (j + 1) = true) := by show _ = _; rw [okAt_succ, HOK.out, hcmp]; rfl
       obtain ⟨l1, l2⟩ := ltP_yes hcmp
       clear hcmp
       go_wp2
       refine wp_region_held_drew (S := fun W => Hid (Below w.heap.size w W) ∧ (W.cell? ⟨b, o + (j + 1) * 7, none⟩ = some (.string (nAt ns (j + 1)).path) ∧ W.cell? ⟨b, o + (j + 1) * 7 + 1, none⟩ = some (.string (nAt ns (j + 1)).data) ∧ W.cell? ⟨b, o + (j + 1) * 7 + 2, none⟩ = some (.int .i64 (nAt ns (j + 1)).ver) ∧ W.cell? ⟨b, o + (j + 1) * 7 + 3, none⟩ = some (.int .i64 (nAt ns (j + 1)).cver) ∧ W.cell? ⟨b, o + (j + 1) * 7 + 4, none⟩ = some (.int .i64 (nAt ns (j + 1)).cz) ∧ W.cell? ⟨b, o + (j + 1) * 7 + 5, none⟩ = some (.int .i64 (nAt ns (j + 1)).mz) ∧ W.cell? ⟨b, o + (j + 1) * 7 + 6, none⟩ = some (.int .i64 (nAt ns (j + 1)).pz)) ∧ W.cell? ⟨b, o + j * 7, none⟩ = some (.string (nAt ns j).path)) (by kernel_rfl) (⟨HD, ((HC.out (j + 1) hlt).below HD.out hb).all, ((HC.out j (by omega)).below HD.out hb).c0⟩) (fun hHeld => ?_)
       refine tkL9 (i := 0) (oi := ⟨some 10, _, _, _, _, _⟩) (v := ?v19) rfl (by kernel_rfl) (fun _ _ _ h => h) (by rfl) (by assumption) ?hy19 ?_
       case hy19 => intro w9 hS9; obtain ⟨-, hS9⟩ := hS9; go_simp; try with_reducible rfl
       try simp only [Act.put, sT9, sZ9, sS9]
       refine tkL9 (i := 1) (oi := ⟨some 11, _, _, _, _, _⟩) (v := ?v20) rfl (by kernel_rfl) (fun _ _ _ h => h) (by rfl) (by assumption) ?hy20 ?_
       case hy20 => intro w9 hS9; obtain ⟨-, hS9⟩ := hS9; go_simp; try with_reducible rfl
       try simp only [Act.put, sT9, sZ9, sS9]
       refine tkL9 (i := 2) (oi := ⟨some 12, _, _, _, _, _⟩) (v := ?v21) rfl (by kernel_rfl) (fun _ _ _ h => h) (by rfl) (by assumption) ?hy21 ?_
       case hy21 => intro w9 hS9; obtain ⟨-, hS9⟩ := hS9; go_simp; try with_reducible rfl
       try simp only [Act.put, sT9, sZ9, sS9]
       refine tkL9 (i := 3) (oi := ⟨some 13, _, _, _, _, _⟩) (v := ?v22) rfl (by kernel_rfl) (fun _ _ _ h => h) (by rfl) (by assumption) ?hy22 ?_
       case hy22 => intro w9 hS9; obtain ⟨-, hS9⟩ := hS9; go_simp; try with_reducible rfl
       try simp only [Act.put, sT9, sZ9, sS9]
       refine wpAnyH_ready (rs := [4]) (by kernel_rfl) (by simp) ?_
       refine AllReadyH.cons (o := ⟨some 14, _, _, _, _, _⟩) rfl (fun K hK => ?_) AllReadyH.nil
       go_simp
       refine (HE.out 1).mono ?_
       rintro e w' ⟨rfl, HB⟩
       rw [HOK.out]
       refine hK.out _ _ ((show (fun W => Hid (Below w.heap.size w W) ∧ (W.cell? ⟨b, o + (j + 1) * 7, none⟩ = some (.string (nAt ns (j + 1)).path) ∧ W.cell? ⟨b, o + (j + 1) * 7 + 1, none⟩ = some (.string (nAt ns (j + 1)).data) ∧ W.cell? ⟨b, o + (j + 1) * 7 + 2, none⟩ = some (.int .i64 (nAt ns (j + 1)).ver) ∧ W.cell? ⟨b, o + (j + 1) * 7 + 3, none⟩ = some (.int .i64 (nAt ns (j + 1)).cver) ∧ W.cell? ⟨b, o + (j + 1) * 7 + 4, none⟩ = some (.int .i64 (nAt ns (j + 1)).cz) ∧ W.cell? ⟨b, o + (j + 1) * 7 + 5, none⟩ = some (.int .i64 (nAt ns (j + 1)).mz) ∧ W.cell? ⟨b, o + (j + 1) * 7 + 6, none⟩ = some (.int .i64 (nAt ns (j + 1)).pz)) ∧ W.cell? ⟨b, o + j * 7, none⟩ = some (.string (nAt ns j).path)) w' from ⟨HB, ((HC.out (j + 1) hlt).below HB.out hb).all, ((HC.out j (by omega)).below HB.out hb).c0⟩)) (fun _ => ?_)
       clear hK K hHeld
       have hHeld := (show (fun W => Hid (Below w.heap.size w W) ∧ (W.cell? ⟨b, o + (j + 1) * 7, none⟩ = some (.string (nAt ns (j + 1)).path) ∧ W.cell? ⟨b, o + (j + 1) * 7 + 1, none⟩ = some (.string (nAt ns (j + 1)).data) ∧ W.cell? ⟨b, o + (j + 1) * 7 + 2, none⟩ = some (.int .i64 (nAt ns (j + 1)).ver) ∧ W.cell? ⟨b, o + (j + 1) * 7 + 3, none⟩ = some (.int .i64 (nAt ns (j + 1)).cver) ∧ W.cell? ⟨b, o + (j + 1) * 7 + 4, none⟩ = some (.int .i64 (nAt ns (j + 1)).cz) ∧ W.cell? ⟨b, o + (j + 1) * 7 + 5, none⟩ = some (.int .i64 (nAt ns (j + 1)).mz) ∧ W.cell? ⟨b, o + (j + 1) * 7 + 6, none⟩ = some (.int .i64 (nAt ns (j + 1)).pz)) ∧ W.cell? ⟨b, o + j * 7, none⟩ = some (.string (nAt ns j).path)) w' from ⟨HB, ((HC.out (j + 1) hlt).below HB.out hb).all, ((HC.out j (by omega)).below HB.out hb).c0⟩)
       try simp only [Act.put, sT9, sZ9, sS9]
       refine tkL9 (i := 5) (oi := ⟨some 15, _, _, _, _, _⟩) (v := ?v23) rfl (by kernel_rfl) (fun _ _ _ h => h) (by rfl) (by assumption) ?hy23 ?_
       case hy23 => intro w9 hS9; obtain ⟨-, hS9⟩ := hS9; go_simp; try with_reducible rfl
       try simp only [Act.put, sT9, sZ9, sS9]
       refine tkL9 (i := 6) (oi := ⟨some 16, _, _, _, _, _⟩) (v := ?v24) rfl (by kernel_rfl) (fun _ _ _ h => h) (by rfl) (by assumption) ?hy24 ?_
       case hy24 => intro w9 hS9; obtain ⟨-, hS9⟩ := hS9; go_simp; try with_reducible rfl
       try simp only [Act.put, sT9, sZ9, sS9]
       refine tkL9 (i := 7) (oi := ⟨some 17, _, _, _, _, _⟩) (v := ?v25) rfl (by kernel_rfl) (fun _ _ _ h => h) (by rfl) (by assumption) ?hy25 ?_
       case hy25 => intro w9 hS9; obtain ⟨-, hS9⟩ := hS9; go_simp; try with_reducible rfl
       try simp only [Act.put, sT9, sZ9, sS9]
       refine tkL9 (i := 8) (oi := ⟨some 18, _, _, _, _, _⟩) (v := ?v26) rfl (by kernel_rfl) (fun _ _ _ h => h) (by rfl) (by assumption) ?hy26 ?_
       case hy26 => intro w9 hS9; obtain ⟨-, hS9⟩ := hS9; go_simp; try with_reducible rfl
       try simp only [Act.put, sT9, sZ9, sS9]
       refine tkL9 (i := 9) (oi := ⟨some 19, _, _, _, _, _⟩) (v := ?v27) rfl (by kernel_rfl) (fun _ _ _ h => h) (by rfl) (by assumption) ?hy27 ?_
       case hy27 => intro w9 hS9; obtain ⟨-, hS9⟩ := hS9; go_simp; try with_reducible rfl
       try simp only [Act.put, sT9, sZ9, sS9]
       refine tkL9 (i := 10) (oi := ⟨some 20, _, _, _, _, _⟩) (v := ?v28) rfl (by kernel_rfl) (fun _ _ _ h => h) (by rfl) (by assumption) ?hy28 ?_
       case hy28 => intro w9 hS9; obtain ⟨-, hS9⟩ := hS9; go_simp; try with_reducible rfl
       try simp only [Act.put, sT9, sZ9, sS9]
       refine tkL9 (i := 11) (oi := ⟨some 21, _, _, _, _, _⟩) (v := ?v29) rfl (by kernel_rfl) (fun _ _ _ h => h) (by rfl) (by assumption) ?hy29 ?_
       case hy29 => intro w9 hS9; obtain ⟨-, hS9⟩ := hS9; go_simp; try with_reducible rfl
       try simp only [Act.put, sT9, sZ9, sS9]
       refine tkL9 (i := 12) (oi := ⟨some 22, _, _, _, _, _⟩) (v := ?v30) rfl (by kernel_rfl) (fun _ _ _ h => h) (by rfl) (by assumption) ?hy30 ?_
       case hy30 => intro w9 hS9; obtain ⟨-, hS9⟩ := hS9; go_simp; try with_reducible rfl
       try simp only [Act.put, sT9, sZ9, sS9]
       refine tkL9 (i := 13) (oi := ⟨some 23, _, _, _, _, _⟩) (v := ?v31) rfl (by kernel_rfl) (fun _ _ _ h => h) (by rfl) (by assumption) ?hy31 ?_
       case hy31 => intro w9 hS9; obtain ⟨-, hS9⟩ := hS9; go_simp; try with_reducible rfl
       try simp only [Act.put, sT9, sZ9, sS9]
       refine tkL9 (i := 14) (oi := ⟨some 24, _, _, _, _, _⟩) (v := ?v32) rfl (by kernel_rfl) (fun _ _ _ h => h) (by rfl) (by assumption) ?hy32 ?_
       case hy32 => intro w9 hS9; obtain ⟨-, hS9⟩ := hS9; go_simp; try with_reducible rfl
       try simp only [Act.put, sT9, sZ9, sS9]
       refine tkL9 (i := 15) (oi := ⟨some 25, _, _, _, _, _⟩) (v := ?v33) rfl (by kernel_rfl) (fun _ _ _ h => h) (by rfl) (by assumption) ?hy33 ?_
       case hy33 => intro w9 hS9; obtain ⟨-, hS9⟩ := hS9; go_simp; try with_reducible rfl
       try simp only [Act.put, sT9, sZ9, sS9]
       refine tkL9 (i := 16) (oi := ⟨some 26, _, _, _, _, _⟩) (v := ?v34) rfl (by kernel_rfl) (fun _ _ _ h => h) (by rfl) (by assumption) ?hy34 ?_
       case hy34 => intro w9 hS9; obtain ⟨-, hS9⟩ := hS9; go_simp; try with_reducible rfl
       try simp only [Act.put, sT9, sZ9, sS9]
       refine tkL9 (i := 17) (oi := ⟨some 27, _, _, _, _, _⟩) (v := ?v35) rfl (by kernel_rfl) (fun _ _ _ h => h) (by rfl) (by assumption) ?hy35 ?_
       case hy35 => intro w9 hS9; obtain ⟨-, hS9⟩ := hS9; go_simp; try with_reducible rfl
       try simp only [Act.put, sT9, sZ9, sS9]
       refine tkL9 (i := 18) (oi := ⟨some 28, _, _, _, _, _⟩) (v := ?v36) rfl (by kernel_rfl) (fun _ _ _ h => h) (by rfl) (by assumption) ?hy36 ?_
       case hy36 => intro w9 hS9; obtain ⟨-, hS9⟩ := hS9; go_simp; try with_reducible rfl
       try simp only [Act.put, sT9, sZ9, sS9]
       refine tkL9 (i := 19) (oi := ⟨some 29, _, _, _, _, _⟩) (v := ?v37) rfl (by kernel_rfl) (fun _ _ _ h => h) (by rfl) (by assumption) ?hy37 ?_
       case hy37 => intro w9 hS9; obtain ⟨-, hS9⟩ := hS9; go_simp; try with_reducible rfl
       try simp only [Act.put, sT9, sZ9, sS9]
       refine tkL9 (i := 20) (oi := ⟨some 30, _, _, _, _, _⟩) (v := ?v38) rfl (by kernel_rfl) (fun _ _ _ h => h) (by rfl) (by assumption) ?hy38 ?_
       case hy38 => intro w9 hS9; obtain ⟨-, hS9⟩ := hS9; go_simp; try with_reducible rfl
       try simp only [Act.put, sT9, sZ9, sS9]
       refine tkL9 (i := 21) (oi := ⟨some 31, _, _, _, _, _⟩) (v := ?v39) rfl (by kernel_rfl) (fun _ _ _ h => h) (by rfl) (by assumption) ?hy39 ?_
       case hy39 => intro w9 hS9; obtain ⟨-, hS9⟩ := hS9; go_simp; try with_reducible rfl
       try simp only [Act.put, sT9, sZ9, sS9]
       refine tkL9 (i := 22) (oi := ⟨some 32, _, _, _, _, _⟩) (v := ?v40) rfl (by kernel_rfl) (fun _ _ _ h => h) (by rfl) (by assumption) ?hy40 ?_
       case hy40 => intro w9 hS9; obtain ⟨-, hS9⟩ := hS9; go_simp; try with_reducible rfl
       try simp only [Act.put, sT9, sZ9, sS9]
       refine tkL9 (i := 23) (oi := ⟨some 33, _, _, _, _, _⟩) (v := ?v41) rfl (by kernel_rfl) (fun _ _ _ h => h) (by rfl) (by assumption) ?hy41 ?_
       case hy41 => intro w9 hS9; obtain ⟨-, hS9⟩ := hS9; go_simp; try with_reducible rfl
       try simp only [Act.put, sT9, sZ9, sS9]
       refine wpAnyH_done (by kernel_rfl) ?_ _
       clear hHeld
       go_wp2
       go_roundw
       case rel => exact ⟨(j + 1) + 1, by omega, by go_num, (fun t ht => by by_cases e : t = (j + 1); (subst e; exact HT.out); exact HA.out t (by omega)), HB⟩
       case measure => simp [intOf]; omega
      | false =>
       have HN : Hid (okSorted ns = false) := sorted_no HLT.out (by rw [okAt_succ, hcmp, Bool.and_false])
       rcases ltP_no hcmp with l1 | ⟨l1, l2⟩
       · clear hcmp
         go_wp2
         refine wp_region_held_drew (S := fun W => Hid (Below w.heap.size w W) ∧ (W.cell? ⟨b, o + (j + 1) * 7, none⟩ = some (.string (nAt ns (j + 1)).path) ∧ W.cell? ⟨b, o + (j + 1) * 7 + 1, none⟩ = some (.string (nAt ns (j + 1)).data) ∧ W.cell? ⟨b, o + (j + 1) * 7 + 2, none⟩ = some (.int .i64 (nAt ns (j + 1)).ver) ∧ W.cell? ⟨b, o + (j + 1) * 7 + 3, none⟩ = some (.int .i64 (nAt ns (j + 1)).cver) ∧ W.cell? ⟨b, o + (j + 1) * 7 + 4, none⟩ = some (.int .i64 (nAt ns (j + 1)).cz) ∧ W.cell? ⟨b, o + (j + 1) * 7 + 5, none⟩ = some (.int .i64 (nAt ns (j + 1)).mz) ∧ W.cell? ⟨b, o + (j + 1) * 7 + 6, none⟩ = some (.int .i64 (nAt ns (j + 1)).pz)) ∧ W.cell? ⟨b, o + j * 7, none⟩ = some (.string (nAt ns j).path)) (by kernel_rfl) (⟨HD, ((HC.out (j + 1) hlt).below HD.out hb).all, ((HC.out j (by omega)).below HD.out hb).c0⟩) (fun hHeld => ?_)
         refine tkL9 (i := 0) (oi := ⟨some 10, _, _, _, _, _⟩) (v := ?v42) rfl (by kernel_rfl) (fun _ _ _ h => h) (by rfl) (by assumption) ?hy42 ?_
         case hy42 => intro w9 hS9; obtain ⟨-, hS9⟩ := hS9; go_simp; try with_reducible rfl
         try simp only [Act.put, sT9, sZ9, sS9]
         refine tkL9 (i := 1) (oi := ⟨some 11, _, _, _, _, _⟩) (v := ?v43) rfl (by kernel_rfl) (fun _ _ _ h => h) (by rfl) (by assumption) ?hy43 ?_
         case hy43 => intro w9 hS9; obtain ⟨-, hS9⟩ := hS9; go_simp; try with_reducible rfl
         try simp only [Act.put, sT9, sZ9, sS9]
         refine tkL9 (i := 2) (oi := ⟨some 12, _, _, _, _, _⟩) (v := ?v44) rfl (by kernel_rfl) (fun _ _ _ h => h) (by rfl) (by assumption) ?hy44 ?_
         case hy44 => intro w9 hS9; obtain ⟨-, hS9⟩ := hS9; go_simp; try with_reducible rfl
         try simp only [Act.put, sT9, sZ9, sS9]
         refine tkL9 (i := 3) (oi := ⟨some 13, _, _, _, _, _⟩) (v := ?v45) rfl (by kernel_rfl) (fun _ _ _ h => h) (by rfl) (by assumption) ?hy45 ?_
         case hy45 => intro w9 hS9; obtain ⟨-, hS9⟩ := hS9; go_simp; try with_reducible rfl
         try simp only [Act.put, sT9, sZ9, sS9]
         refine wpAnyH_ready (rs := [4]) (by kernel_rfl) (by simp) ?_
         refine AllReadyH.cons (o := ⟨some 14, _, _, _, _, _⟩) rfl (fun K hK => ?_) AllReadyH.nil
         go_simp
         refine (HE.out 1).mono ?_
         rintro e w' ⟨rfl, HB⟩
         rw [HOK.out]
         refine hK.out _ _ ((show (fun W => Hid (Below w.heap.size w W) ∧ (W.cell? ⟨b, o + (j + 1) * 7, none⟩ = some (.string (nAt ns (j + 1)).path) ∧ W.cell? ⟨b, o + (j + 1) * 7 + 1, none⟩ = some (.string (nAt ns (j + 1)).data) ∧ W.cell? ⟨b, o + (j + 1) * 7 + 2, none⟩ = some (.int .i64 (nAt ns (j + 1)).ver) ∧ W.cell? ⟨b, o + (j + 1) * 7 + 3, none⟩ = some (.int .i64 (nAt ns (j + 1)).cver) ∧ W.cell? ⟨b, o + (j + 1) * 7 + 4, none⟩ = some (.int .i64 (nAt ns (j + 1)).cz) ∧ W.cell? ⟨b, o + (j + 1) * 7 + 5, none⟩ = some (.int .i64 (nAt ns (j + 1)).mz) ∧ W.cell? ⟨b, o + (j + 1) * 7 + 6, none⟩ = some (.int .i64 (nAt ns (j + 1)).pz)) ∧ W.cell? ⟨b, o + j * 7, none⟩ = some (.string (nAt ns j).path)) w' from ⟨HB, ((HC.out (j + 1) hlt).below HB.out hb).all, ((HC.out j (by omega)).below HB.out hb).c0⟩)) (fun _ => ?_)
         clear hK K hHeld
         have hHeld := (show (fun W => Hid (Below w.heap.size w W) ∧ (W.cell? ⟨b, o + (j + 1) * 7, none⟩ = some (.string (nAt ns (j + 1)).path) ∧ W.cell? ⟨b, o + (j + 1) * 7 + 1, none⟩ = some (.string (nAt ns (j + 1)).data) ∧ W.cell? ⟨b, o + (j + 1) * 7 + 2, none⟩ = some (.int .i64 (nAt ns (j + 1)).ver) ∧ W.cell? ⟨b, o + (j + 1) * 7 + 3, none⟩ = some (.int .i64 (nAt ns (j + 1)).cver) ∧ W.cell? ⟨b, o + (j + 1) * 7 + 4, none⟩ = some (.int .i64 (nAt ns (j + 1)).cz) ∧ W.cell? ⟨b, o + (j + 1) * 7 + 5, none⟩ = some (.int .i64 (nAt ns (j + 1)).mz) ∧ W.cell? ⟨b, o + (j + 1) * 7 + 6, none⟩ = some (.int .i64 (nAt ns (j + 1)).pz)) ∧ W.cell? ⟨b, o + j * 7, none⟩ = some (.string (nAt ns j).path)) w' from ⟨HB, ((HC.out (j + 1) hlt).below HB.out hb).all, ((HC.out j (by omega)).below HB.out hb).c0⟩)
         try simp only [Act.put, sT9, sZ9, sS9]
         refine tkL9 (i := 5) (oi := ⟨some 15, _, _, _, _, _⟩) (v := ?v46) rfl (by kernel_rfl) (fun _ _ _ h => h) (by rfl) (by assumption) ?hy46 ?_
         case hy46 => intro w9 hS9; obtain ⟨-, hS9⟩ := hS9; go_simp; try with_reducible rfl
         try simp only [Act.put, sT9, sZ9, sS9]
         refine tkL9 (i := 6) (oi := ⟨some 16, _, _, _, _, _⟩) (v := ?v47) rfl (by kernel_rfl) (fun _ _ _ h => h) (by rfl) (by assumption) ?hy47 ?_
         case hy47 => intro w9 hS9; obtain ⟨-, hS9⟩ := hS9; go_simp; try with_reducible rfl
         try simp only [Act.put, sT9, sZ9, sS9]
         refine tkL9 (i := 7) (oi := ⟨some 17, _, _, _, _, _⟩) (v := ?v48) rfl (by kernel_rfl) (fun _ _ _ h => h) (by rfl) (by assumption) ?hy48 ?_
         case hy48 => intro w9 hS9; obtain ⟨-, hS9⟩ := hS9; go_simp; try with_reducible rfl
         try simp only [Act.put, sT9, sZ9, sS9]
         refine tkL9 (i := 8) (oi := ⟨some 18, _, _, _, _, _⟩) (v := ?v49) rfl (by kernel_rfl) (fun _ _ _ h => h) (by rfl) (by assumption) ?hy49 ?_
         case hy49 => intro w9 hS9; obtain ⟨-, hS9⟩ := hS9; go_simp; try with_reducible rfl
         try simp only [Act.put, sT9, sZ9, sS9]
         refine tkL9 (i := 9) (oi := ⟨some 19, _, _, _, _, _⟩) (v := ?v50) rfl (by kernel_rfl) (fun _ _ _ h => h) (by rfl) (by assumption) ?hy50 ?_
         case hy50 => intro w9 hS9; obtain ⟨-, hS9⟩ := hS9; go_simp; try with_reducible rfl
         try simp only [Act.put, sT9, sZ9, sS9]
         refine tkL9 (i := 10) (oi := ⟨some 20, _, _, _, _, _⟩) (v := ?v51) rfl (by kernel_rfl) (fun _ _ _ h => h) (by rfl) (by assumption) ?hy51 ?_
         case hy51 => intro w9 hS9; obtain ⟨-, hS9⟩ := hS9; go_simp; try with_reducible rfl
         try simp only [Act.put, sT9, sZ9, sS9]
         refine tkL9 (i := 11) (oi := ⟨some 21, _, _, _, _, _⟩) (v := ?v52) rfl (by kernel_rfl) (fun _ _ _ h => h) (by rfl) (by assumption) ?hy52 ?_
         case hy52 => intro w9 hS9; obtain ⟨-, hS9⟩ := hS9; go_simp; try with_reducible rfl
         try simp only [Act.put, sT9, sZ9, sS9]
         refine tkL9 (i := 12) (oi := ⟨some 22, _, _, _, _, _⟩) (v := ?v53) rfl (by kernel_rfl) (fun _ _ _ h => h) (by rfl) (by assumption) ?hy53 ?_
         case hy53 => intro w9 hS9; obtain ⟨-, hS9⟩ := hS9; go_simp; try with_reducible rfl
         try simp only [Act.put, sT9, sZ9, sS9]
         refine tkL9 (i := 13) (oi := ⟨some 23, _, _, _, _, _⟩) (v := ?v54) rfl (by kernel_rfl) (fun _ _ _ h => h) (by rfl) (by assumption) ?hy54 ?_
         case hy54 => intro w9 hS9; obtain ⟨-, hS9⟩ := hS9; go_simp; try with_reducible rfl
         try simp only [Act.put, sT9, sZ9, sS9]
         refine tkL9 (i := 14) (oi := ⟨some 24, _, _, _, _, _⟩) (v := ?v55) rfl (by kernel_rfl) (fun _ _ _ h => h) (by rfl) (by assumption) ?hy55 ?_
         case hy55 => intro w9 hS9; obtain ⟨-, hS9⟩ := hS9; go_simp; try with_reducible rfl
         try simp only [Act.put, sT9, sZ9, sS9]
         refine tkL9 (i := 15) (oi := ⟨some 25, _, _, _, _, _⟩) (v := ?v56) rfl (by kernel_rfl) (fun _ _ _ h => h) (by rfl) (by assumption) ?hy56 ?_
         case hy56 => intro w9 hS9; obtain ⟨-, hS9⟩ := hS9; go_simp; try with_reducible rfl
         try simp only [Act.put, sT9, sZ9, sS9]
         refine tkL9 (i := 16) (oi := ⟨some 26, _, _, _, _, _⟩) (v := ?v57) rfl (by kernel_rfl) (fun _ _ _ h => h) (by rfl) (by assumption) ?hy57 ?_
         case hy57 => intro w9 hS9; obtain ⟨-, hS9⟩ := hS9; go_simp; try with_reducible rfl
         try simp only [Act.put, sT9, sZ9, sS9]
         refine tkL9 (i := 17) (oi := ⟨some 27, _, _, _, _, _⟩) (v := ?v58) rfl (by kernel_rfl) (fun _ _ _ h => h) (by rfl) (by assumption) ?hy58 ?_
         case hy58 => intro w9 hS9; obtain ⟨-, hS9⟩ := hS9; go_simp; try with_reducible rfl
         try simp only [Act.put, sT9, sZ9, sS9]
         refine tkL9 (i := 18) (oi := ⟨some 28, _, _, _, _, _⟩) (v := ?v59) rfl (by kernel_rfl) (fun _ _ _ h => h) (by rfl) (by assumption) ?hy59 ?_
         case hy59 => intro w9 hS9; obtain ⟨-, hS9⟩ := hS9; go_simp; try with_reducible rfl
         try simp only [Act.put, sT9, sZ9, sS9]
         refine tkL9 (i := 19) (oi := ⟨some 29, _, _, _, _, _⟩) (v := ?v60) rfl (by kernel_rfl) (fun _ _ _ h => h) (by rfl) (by assumption) ?hy60 ?_
         case hy60 => intro w9 hS9; obtain ⟨-, hS9⟩ := hS9; go_simp; try with_reducible rfl
         try simp only [Act.put, sT9, sZ9, sS9]
         refine tkL9 (i := 20) (oi := ⟨some 30, _, _, _, _, _⟩) (v := ?v61) rfl (by kernel_rfl) (fun _ _ _ h => h) (by rfl) (by assumption) ?hy61 ?_
         case hy61 => intro w9 hS9; obtain ⟨-, hS9⟩ := hS9; go_simp; try with_reducible rfl
         try simp only [Act.put, sT9, sZ9, sS9]
         refine tkL9 (i := 21) (oi := ⟨some 31, _, _, _, _, _⟩) (v := ?v62) rfl (by kernel_rfl) (fun _ _ _ h => h) (by rfl) (by assumption) ?hy62 ?_
         case hy62 => intro w9 hS9; obtain ⟨-, hS9⟩ := hS9; go_simp; try with_reducible rfl
         try simp only [Act.put, sT9, sZ9, sS9]
         refine tkL9 (i := 22) (oi := ⟨some 32, _, _, _, _, _⟩) (v := ?v63) rfl (by kernel_rfl) (fun _ _ _ h => h) (by rfl) (by assumption) ?hy63 ?_
         case hy63 => intro w9 hS9; obtain ⟨-, hS9⟩ := hS9; go_simp; try with_reducible rfl
         try simp only [Act.put, sT9, sZ9, sS9]
         refine tkL9 (i := 23) (oi := ⟨some 33, _, _, _, _, _⟩) (v := ?v64) rfl (by kernel_rfl) (fun _ _ _ h => h) (by rfl) (by assumption) ?hy64 ?_
         case hy64 => intro w9 hS9; obtain ⟨-, hS9⟩ := hS9; go_simp; try with_reducible rfl
         try simp only [Act.put, sT9, sZ9, sS9]
         refine wpAnyH_done (by kernel_rfl) ?_ _
         clear hHeld
         go_wp2
         go_ret
         exact ⟨ret_b HN.out.symm, HB.out⟩
       · clear hcmp
         go_wp2
         refine wp_region_held_drew (S := fun W => Hid (Below w.heap.size w W) ∧ (W.cell? ⟨b, o + (j + 1) * 7, none⟩ = some (.string (nAt ns (j + 1)).path) ∧ W.cell? ⟨b, o + (j + 1) * 7 + 1, none⟩ = some (.string (nAt ns (j + 1)).data) ∧ W.cell? ⟨b, o + (j + 1) * 7 + 2, none⟩ = some (.int .i64 (nAt ns (j + 1)).ver) ∧ W.cell? ⟨b, o + (j + 1) * 7 + 3, none⟩ = some (.int .i64 (nAt ns (j + 1)).cver) ∧ W.cell? ⟨b, o + (j + 1) * 7 + 4, none⟩ = some (.int .i64 (nAt ns (j + 1)).cz) ∧ W.cell? ⟨b, o + (j + 1) * 7 + 5, none⟩ = some (.int .i64 (nAt ns (j + 1)).mz) ∧ W.cell? ⟨b, o + (j + 1) * 7 + 6, none⟩ = some (.int .i64 (nAt ns (j + 1)).pz)) ∧ W.cell? ⟨b, o + j * 7, none⟩ = some (.string (nAt ns j).path)) (by kernel_rfl) (⟨HD, ((HC.out (j + 1) hlt).below HD.out hb).all, ((HC.out j (by omega)).below HD.out hb).c0⟩) (fun hHeld => ?_)
         refine tkL9 (i := 0) (oi := ⟨some 10, _, _, _, _, _⟩) (v := ?v65) rfl (by kernel_rfl) (fun _ _ _ h => h) (by rfl) (by assumption) ?hy65 ?_
         case hy65 => intro w9 hS9; obtain ⟨-, hS9⟩ := hS9; go_simp; try with_reducible rfl
         try simp only [Act.put, sT9, sZ9, sS9]
         refine tkL9 (i := 1) (oi := ⟨some 11, _, _, _, _, _⟩) (v := ?v66) rfl (by kernel_rfl) (fun _ _ _ h => h) (by rfl) (by assumption) ?hy66 ?_
         case hy66 => intro w9 hS9; obtain ⟨-, hS9⟩ := hS9; go_simp; try with_reducible rfl
         try simp only [Act.put, sT9, sZ9, sS9]
         refine tkL9 (i := 2) (oi := ⟨some 12, _, _, _, _, _⟩) (v := ?v67) rfl (by kernel_rfl) (fun _ _ _ h => h) (by rfl) (by assumption) ?hy67 ?_
         case hy67 => intro w9 hS9; obtain ⟨-, hS9⟩ := hS9; go_simp; try with_reducible rfl
         try simp only [Act.put, sT9, sZ9, sS9]
         refine tkL9 (i := 3) (oi := ⟨some 13, _, _, _, _, _⟩) (v := ?v68) rfl (by kernel_rfl) (fun _ _ _ h => h) (by rfl) (by assumption) ?hy68 ?_
         case hy68 => intro w9 hS9; obtain ⟨-, hS9⟩ := hS9; go_simp; try with_reducible rfl
         try simp only [Act.put, sT9, sZ9, sS9]
         refine wpAnyH_ready (rs := [4]) (by kernel_rfl) (by simp) ?_
         refine AllReadyH.cons (o := ⟨some 14, _, _, _, _, _⟩) rfl (fun K hK => ?_) AllReadyH.nil
         go_simp
         refine (HE.out 1).mono ?_
         rintro e w' ⟨rfl, HB⟩
         rw [HOK.out]
         refine hK.out _ _ ((show (fun W => Hid (Below w.heap.size w W) ∧ (W.cell? ⟨b, o + (j + 1) * 7, none⟩ = some (.string (nAt ns (j + 1)).path) ∧ W.cell? ⟨b, o + (j + 1) * 7 + 1, none⟩ = some (.string (nAt ns (j + 1)).data) ∧ W.cell? ⟨b, o + (j + 1) * 7 + 2, none⟩ = some (.int .i64 (nAt ns (j + 1)).ver) ∧ W.cell? ⟨b, o + (j + 1) * 7 + 3, none⟩ = some (.int .i64 (nAt ns (j + 1)).cver) ∧ W.cell? ⟨b, o + (j + 1) * 7 + 4, none⟩ = some (.int .i64 (nAt ns (j + 1)).cz) ∧ W.cell? ⟨b, o + (j + 1) * 7 + 5, none⟩ = some (.int .i64 (nAt ns (j + 1)).mz) ∧ W.cell? ⟨b, o + (j + 1) * 7 + 6, none⟩ = some (.int .i64 (nAt ns (j + 1)).pz)) ∧ W.cell? ⟨b, o + j * 7, none⟩ = some (.string (nAt ns j).path)) w' from ⟨HB, ((HC.out (j + 1) hlt).below HB.out hb).all, ((HC.out j (by omega)).below HB.out hb).c0⟩)) (fun _ => ?_)
         clear hK K hHeld
         have hHeld := (show (fun W => Hid (Below w.heap.size w W) ∧ (W.cell? ⟨b, o + (j + 1) * 7, none⟩ = some (.string (nAt ns (j + 1)).path) ∧ W.cell? ⟨b, o + (j + 1) * 7 + 1, none⟩ = some (.string (nAt ns (j + 1)).data) ∧ W.cell? ⟨b, o + (j + 1) * 7 + 2, none⟩ = some (.int .i64 (nAt ns (j + 1)).ver) ∧ W.cell? ⟨b, o + (j + 1) * 7 + 3, none⟩ = some (.int .i64 (nAt ns (j + 1)).cver) ∧ W.cell? ⟨b, o + (j + 1) * 7 + 4, none⟩ = some (.int .i64 (nAt ns (j + 1)).cz) ∧ W.cell? ⟨b, o + (j + 1) * 7 + 5, none⟩ = some (.int .i64 (nAt ns (j + 1)).mz) ∧ W.cell? ⟨b, o + (j + 1) * 7 + 6, none⟩ = some (.int .i64 (nAt ns (j + 1)).pz)) ∧ W.cell? ⟨b, o + j * 7, none⟩ = some (.string (nAt ns j).path)) w' from ⟨HB, ((HC.out (j + 1) hlt).below HB.out hb).all, ((HC.out j (by omega)).below HB.out hb).c0⟩)
         try simp only [Act.put, sT9, sZ9, sS9]
         refine tkL9 (i := 5) (oi := ⟨some 15, _, _, _, _, _⟩) (v := ?v69) rfl (by kernel_rfl) (fun _ _ _ h => h) (by rfl) (by assumption) ?hy69 ?_
         case hy69 => intro w9 hS9; obtain ⟨-, hS9⟩ := hS9; go_simp; try with_reducible rfl
         try simp only [Act.put, sT9, sZ9, sS9]
         refine tkL9 (i := 6) (oi := ⟨some 16, _, _, _, _, _⟩) (v := ?v70) rfl (by kernel_rfl) (fun _ _ _ h => h) (by rfl) (by assumption) ?hy70 ?_
         case hy70 => intro w9 hS9; obtain ⟨-, hS9⟩ := hS9; go_simp; try with_reducible rfl
         try simp only [Act.put, sT9, sZ9, sS9]
         refine tkL9 (i := 7) (oi := ⟨some 17, _, _, _, _, _⟩) (v := ?v71) rfl (by kernel_rfl) (fun _ _ _ h => h) (by rfl) (by assumption) ?hy71 ?_
         case hy71 => intro w9 hS9; obtain ⟨-, hS9⟩ := hS9; go_simp; try with_reducible rfl
         try simp only [Act.put, sT9, sZ9, sS9]
         refine tkL9 (i := 8) (oi := ⟨some 18, _, _, _, _, _⟩) (v := ?v72) rfl (by kernel_rfl) (fun _ _ _ h => h) (by rfl) (by assumption) ?hy72 ?_
         case hy72 => intro w9 hS9; obtain ⟨-, hS9⟩ := hS9; go_simp; try with_reducible rfl
         try simp only [Act.put, sT9, sZ9, sS9]
         refine tkL9 (i := 9) (oi := ⟨some 19, _, _, _, _, _⟩) (v := ?v73) rfl (by kernel_rfl) (fun _ _ _ h => h) (by rfl) (by assumption) ?hy73 ?_
         case hy73 => intro w9 hS9; obtain ⟨-, hS9⟩ := hS9; go_simp; try with_reducible rfl
         try simp only [Act.put, sT9, sZ9, sS9]
         refine tkL9 (i := 10) (oi := ⟨some 20, _, _, _, _, _⟩) (v := ?v74) rfl (by kernel_rfl) (fun _ _ _ h => h) (by rfl) (by assumption) ?hy74 ?_
         case hy74 => intro w9 hS9; obtain ⟨-, hS9⟩ := hS9; go_simp; try with_reducible rfl
         try simp only [Act.put, sT9, sZ9, sS9]
         refine tkL9 (i := 11) (oi := ⟨some 21, _, _, _, _, _⟩) (v := ?v75) rfl (by kernel_rfl) (fun _ _ _ h => h) (by rfl) (by assumption) ?hy75 ?_
         case hy75 => intro w9 hS9; obtain ⟨-, hS9⟩ := hS9; go_simp; try with_reducible rfl
         try simp only [Act.put, sT9, sZ9, sS9]
         refine tkL9 (i := 12) (oi := ⟨some 22, _, _, _, _, _⟩) (v := ?v76) rfl (by kernel_rfl) (fun _ _ _ h => h) (by rfl) (by assumption) ?hy76 ?_
         case hy76 => intro w9 hS9; obtain ⟨-, hS9⟩ := hS9; go_simp; try with_reducible rfl
         try simp only [Act.put, sT9, sZ9, sS9]
         refine tkL9 (i := 13) (oi := ⟨some 23, _, _, _, _, _⟩) (v := ?v77) rfl (by kernel_rfl) (fun _ _ _ h => h) (by rfl) (by assumption) ?hy77 ?_
         case hy77 => intro w9 hS9; obtain ⟨-, hS9⟩ := hS9; go_simp; try with_reducible rfl
         try simp only [Act.put, sT9, sZ9, sS9]
         refine tkL9 (i := 14) (oi := ⟨some 24, _, _, _, _, _⟩) (v := ?v78) rfl (by kernel_rfl) (fun _ _ _ h => h) (by rfl) (by assumption) ?hy78 ?_
         case hy78 => intro w9 hS9; obtain ⟨-, hS9⟩ := hS9; go_simp; try with_reducible rfl
         try simp only [Act.put, sT9, sZ9, sS9]
         refine tkL9 (i := 15) (oi := ⟨some 25, _, _, _, _, _⟩) (v := ?v79) rfl (by kernel_rfl) (fun _ _ _ h => h) (by rfl) (by assumption) ?hy79 ?_
         case hy79 => intro w9 hS9; obtain ⟨-, hS9⟩ := hS9; go_simp; try with_reducible rfl
         try simp only [Act.put, sT9, sZ9, sS9]
         refine tkL9 (i := 16) (oi := ⟨some 26, _, _, _, _, _⟩) (v := ?v80) rfl (by kernel_rfl) (fun _ _ _ h => h) (by rfl) (by assumption) ?hy80 ?_
         case hy80 => intro w9 hS9; obtain ⟨-, hS9⟩ := hS9; go_simp; try with_reducible rfl
         try simp only [Act.put, sT9, sZ9, sS9]
         refine tkL9 (i := 17) (oi := ⟨some 27, _, _, _, _, _⟩) (v := ?v81) rfl (by kernel_rfl) (fun _ _ _ h => h) (by rfl) (by assumption) ?hy81 ?_
         case hy81 => intro w9 hS9; obtain ⟨-, hS9⟩ := hS9; go_simp; try with_reducible rfl
         try simp only [Act.put, sT9, sZ9, sS9]
         refine tkL9 (i := 18) (oi := ⟨some 28, _, _, _, _, _⟩) (v := ?v82) rfl (by kernel_rfl) (fun _ _ _ h => h) (by rfl) (by assumption) ?hy82 ?_
         case hy82 => intro w9 hS9; obtain ⟨-, hS9⟩ := hS9; go_simp; try with_reducible rfl
         try simp only [Act.put, sT9, sZ9, sS9]
         refine tkL9 (i := 19) (oi := ⟨some 29, _, _, _, _, _⟩) (v := ?v83) rfl (by kernel_rfl) (fun _ _ _ h => h) (by rfl) (by assumption) ?hy83 ?_
         case hy83 => intro w9 hS9; obtain ⟨-, hS9⟩ := hS9; go_simp; try with_reducible rfl
         try simp only [Act.put, sT9, sZ9, sS9]
         refine tkL9 (i := 20) (oi := ⟨some 30, _, _, _, _, _⟩) (v := ?v84) rfl (by kernel_rfl) (fun _ _ _ h => h) (by rfl) (by assumption) ?hy84 ?_
         case hy84 => intro w9 hS9; obtain ⟨-, hS9⟩ := hS9; go_simp; try with_reducible rfl
         try simp only [Act.put, sT9, sZ9, sS9]
         refine tkL9 (i := 21) (oi := ⟨some 31, _, _, _, _, _⟩) (v := ?v85) rfl (by kernel_rfl) (fun _ _ _ h => h) (by rfl) (by assumption) ?hy85 ?_
         case hy85 => intro w9 hS9; obtain ⟨-, hS9⟩ := hS9; go_simp; try with_reducible rfl
         try simp only [Act.put, sT9, sZ9, sS9]
         refine tkL9 (i := 22) (oi := ⟨some 32, _, _, _, _, _⟩) (v := ?v86) rfl (by kernel_rfl) (fun _ _ _ h => h) (by rfl) (by assumption) ?hy86 ?_
         case hy86 => intro w9 hS9; obtain ⟨-, hS9⟩ := hS9; go_simp; try with_reducible rfl
         try simp only [Act.put, sT9, sZ9, sS9]
         refine tkL9 (i := 23) (oi := ⟨some 33, _, _, _, _, _⟩) (v := ?v87) rfl (by kernel_rfl) (fun _ _ _ h => h) (by rfl) (by assumption) ?hy87 ?_
         case hy87 => intro w9 hS9; obtain ⟨-, hS9⟩ := hS9; go_simp; try with_reducible rfl
         try simp only [Act.put, sT9, sZ9, sS9]
         refine wpAnyH_done (by kernel_rfl) ?_ _
         clear hHeld
         go_wp2
         go_ret
         exact ⟨ret_b HN.out.symm, HB.out⟩
  · have HY : Hid (okSorted ns = true) := sorted_yes (fun t ht => HA.out t (by rw [HP.out] at ht; omega))
    go_wp2
    go_ret
    exact ⟨ret_b HY.out.symm, HG.out⟩
end Go.Proofs.YtcopcegamadkgaaGreatDoor
namespace Go.Proofs.YtcopcegamadkgaaGreatDoor
def bigR : Nat → Nat → List Int
 | _, 0 => []
 | N, n + 1 => bigR (N / 256) n ++ [((N % 256 : Nat) : Int)]
theorem bigR_len : ∀ (n N : Nat), (bigR N n).length = n
 | 0, _ => rfl
 | n + 1, N => by unfold bigR; rw [List.length_append, bigR_len n]; rfl
theorem bigR_byt : ∀ (n N : Nat), ∀ x ∈ bigR N n, 0 ≤ x ∧ x < 256
 | 0, _, x, h => by cases h
 | n + 1, N, x, h => by
  unfold bigR at h
  rcases List.mem_append.1 h with h | h
  · exact bigR_byt n _ x h
  · simp only [List.mem_cons, List.not_mem_nil, or_false] at h
    omega
def numB (xs : List Int) : Nat := xs.foldl (fun a x => a * 256 + x.toNat) 0
theorem numB_snoc (xs : List Int) (x : Int) : numB (xs ++ [x]) = numB xs * 256 + x.toNat := by unfold numB; rw [List.foldl_append]; rfl
theorem numB_nil : numB [] = 0 := rfl
theorem bigR_numB : ∀ (n : Nat) (xs : List Int), xs.length = n → (∀ x ∈ xs, 0 ≤ x ∧ x < 256) → bigR (numB xs) n = xs ∧ numB xs < 256 ^ n
 | 0, xs, hn, h => by
  have := List.eq_nil_of_length_eq_zero hn
  subst this
  exact ⟨rfl, by decide⟩
 | n + 1, xs, hn, h => by
  rcases List.eq_nil_or_concat xs with rfl | ⟨ys, y, hc⟩
  · simp at hn
  · rw [List.concat_eq_append] at hc; subst hc
    have hl : ys.length = n := by simpa using hn
    have hy := h y (by simp)
    obtain ⟨i1, i2⟩ := bigR_numB n ys hl (fun x hx => h x (List.mem_append_left _ hx))
    rw [numB_snoc]
    refine ⟨?_, by rw [Nat.pow_succ]; omega⟩
    unfold bigR
    have e1 : (numB ys * 256 + y.toNat) / 256 = numB ys := by omega
    have e2 : (numB ys * 256 + y.toNat) % 256 = y.toNat := by omega
    rw [e1, e2, i1, Int.toNat_of_nonneg hy.1]
end Go.Proofs.YtcopcegamadkgaaGreatDoor
namespace Go.Proofs.YtcopcegamadkgaaGreatDoor
open Go.RowKit
theorem specBig_any : ∀ (n : Nat) (w : World) (N : Nat), n ≤ 8 → N < 9223372036854775808 →
    Calls Tryz.prog 135 #[.int .i64 N, .int .i64 n] w fun e w' => ∃ v', e = .returned v' ∧ Own .u8 5 w' w.heap.size v' (bigR N n) ∧ Below w.heap.size w w'
 | 0, w, N, _, _ => by
  go_enter Tryz.func135, Tryz.ntmps135
  go_wp2
  go_ret
  exact ⟨_, rfl, World.ownsRow_lit w #[] 0 (Nat.le_refl _) (Nat.zero_le _) rfl, (Below.refl _ _).alloc (Nat.le_refl _) _⟩
 | n + 1, w, N, hn, hN => by
  obtain ⟨i0, hi, hz0, hz1, hz2⟩ := info_parts Tryz.infoB
  have HI : Hid (Calls Tryz.prog 135 #[.int .i64 ((N : Int) / 256), .int .i64 n] w fun e w' => ∃ v', e = .returned v' ∧ Own .u8 5 w' w.heap.size v' (bigR (N / 256) n) ∧ Below w.heap.size w w') := by
   have := specBig_any n w (N / 256) (by omega) (by omega)
   rw [show ((N / 256 : Nat) : Int) = (N : Int) / 256 by omega] at this
   exact this
  have h0 : (((n + 1 : Nat) : Int) == 0) = false := beq_eq_false_iff_ne.2 (by omega)
  have hw : wrap64 ((N : Int) / 256) = ((N / 256 : Nat) : Int) := by unfold wrap64; omega
  clear hN
  go_enter Tryz.func135, Tryz.ntmps135
  go_wp2_with fail
  refine HI.out.mono ?_
  rintro e w1 ⟨v1, rfl, o1, b1⟩
  have s1 := b1.size
  obtain ⟨ys, hys⟩ : ∃ ys, ys = bigR (N / 256) n := ⟨_, rfl⟩
  have hyl : ys.length = n := by rw [hys, bigR_len]
  have HYS : Hid (ys = bigR (N / 256) n) := hys
  have O1 : Hid (w1.ownsRow w.heap.size 5 1 v1 n (ys.map (Value.int .u8))) := by have := o1; unfold Own at this; rw [← hys, hyl] at this; exact this
  have HYL : Hid (ys.length = n) := hyl
  have B1 : Hid (Below w.heap.size w w1) := b1
  have HV : Hid ((N : Int) % 256 = ((N % 256 : Nat) : Int)) := by show _ = _; omega
  clear o1 b1 hys hyl HI hw
  go_wp2_with (at_builtin; go_must (refine wpList_append_own _ rfl _ _ 22 rfl w.heap.size 5 i0 (.int .u8 0) 1 1 Tryz.underlying22 hi hz0 hz1 hz2 rfl (by decide) _ _ _ rfl (O1.out.alloc _) ⟨w1.heap.size, 0, none⟩ 1 1 [.int .u8 ((N : Int) % 256)] rfl rfl (cell_one_new _ _ _) (by intro u hu; simp at hu; subst hu; rfl) ?c3 ?c4 ?c5 ?_))
  case c3 => unfold maxLen; omega
  case c4 => omega
  case c5 => simp; omega
  intro v2 w2 ho2 hg2 _
  have O2 : Hid (Own .u8 5 w2 w.heap.size v2 (bigR N (n + 1))) := by
   rw [HV.out] at ho2
   refine own_of (q := n + 1) (ys := ys ++ [((N % 256 : Nat) : Int)]) (by simp [HYL.out]) ?_ (by rw [List.map_append]; exact ho2)
   rw [HYS.out]; rfl
  have B2 : Hid (Below w.heap.size w w2) := (B1.out.alloc s1 _).grown hg2 (by simp; omega) (fun q hq => (World.ownsRow.lt O1.out q hq).1)
  clear ho2 hg2
  go_wp2
  go_ret
  exact ⟨_, rfl, O2.out, B2.out⟩
theorem conv_any {w : World} {v : Value} {xs : List Int} (h : Rd .u8 w v xs) : (convert 22 9 v).run Tryz.prog w = .ok (.string (strOfNums xs)) w := by
 obtain ⟨ao, cap, rfl, h1, h2, h3⟩ := h
 rcases h3 with rfl | ⟨b, o, rfl, hb, hc⟩
 · cases ao with
   | none => exact run_convert_bytes_nil w _ _ Tryz.underlying22 Tryz.underlying5 0 cap _ Tryz.underlying9
   | some a =>
    rw [run_convert_bytes_string w _ _ _ _ _ _ Tryz.underlying22 Tryz.underlying5 Tryz.underlying9]
    exact run_bytesToString w a 0 cap [] (by simp [loadCells, loadCellsFrom])
 · exact run_convert_bytes_arg w _ _ Tryz.underlying22 Tryz.underlying5 b o _ cap xs rfl hc _ Tryz.underlying9
def strN (s : ByteArray) : List Int := s.data.toList.map fun b => (b.toNat : Int)
theorem strN_len (s : ByteArray) : (strN s).length = s.size := by unfold strN; rw [List.length_map, Array.length_toList]; rfl
def txB (s : ByteArray) : List Int := [(s.size : Int)] ++ strN s
theorem txB_len (s : ByteArray) : (txB s).length = 1 + s.size := by unfold txB; rw [List.length_append, strN_len]; rfl
theorem conv_str (w : World) (s : ByteArray) :
    ∃ cap W, (convert 9 22 (.string s)).run Tryz.prog w = .ok (.slice (some ⟨w.heap.size, 0, none⟩) s.size cap) W ∧ Below w.heap.size w W ∧ w.heap.size < W.heap.size ∧
     (∀ j u, ((strN s).map (Value.int .u8))[j]? = some u → W.cell? ((⟨w.heap.size, 0, none⟩ : Addr).add j) = some u) := by
 have hr := Lib.run_convert_string_bytes (P := Tryz.prog) w 9 22 5 s Tryz.underlying9 Tryz.underlying22 Tryz.underlying5
 have hsz := Lib.bytesWorld_size w 5 s
 refine ⟨_, _, hr, ⟨rfl, rfl, rfl, by omega, fun k hk => Lib.bytesWorld_at_old w _ _ k hk⟩, by omega, ?_⟩
 intro j u hj
 have hlt : j < s.size := by
  have := (List.getElem?_eq_some_iff.1 hj).1
  rw [List.length_map, strN_len] at this; exact this
 rw [Addr.add_lit, Nat.zero_add, Lib.bytesWorld_cell w 5 s j hlt, ← hj]
 unfold strN
 have h2 : j < s.data.toList.length := by rw [Array.length_toList]; exact hlt
 rw [List.getElem?_map, List.getElem?_map, List.getElem?_eq_getElem h2]
 simp [List.getD, Array.getElem?_eq_getElem (show j < s.data.size from hlt)]
theorem specText_any (w : World) (s : ByteArray) (hs : s.size < 256) :
    Calls Tryz.prog 136 #[.string s] w fun e w' => ∃ v', e = .returned v' ∧ Own .u8 5 w' w.heap.size v' (txB s) ∧ Below w.heap.size w w' := by
 obtain ⟨i0, hi, hz0, hz1, hz2⟩ := info_parts Tryz.infoB
 go_enter Tryz.func136, Tryz.ntmps136
 obtain ⟨cap, W, hr, b, z, c⟩ := conv_str (w.alloc (.cells #[.int .u8 (s.size : Int)] 5)) s
 have O1 : Own .u8 5 (w.alloc (.cells #[.int .u8 (s.size : Int)] 5)) w.heap.size (.slice (some ⟨w.heap.size, 0, none⟩) 1 1) [(s.size : Int)] := World.ownsRow_lit w #[.int .u8 (s.size : Int)] 1 (by simp) (by unfold maxLen; omega) rfl
 have O2 : Hid (W.ownsRow w.heap.size 5 1 (.slice (some ⟨w.heap.size, 0, none⟩) 1 1) 1 ([(s.size : Int)].map (Value.int .u8))) := O1.below b
 have B0 : Hid (Below w.heap.size w W) := ((Below.refl _ _).alloc (Nat.le_refl _) _).trans (b.mono (by simp))
 have HC : Hid (∀ j u, ((strN s).map (Value.int .u8))[j]? = some u → W.cell? ((⟨(w.alloc (.cells #[.int .u8 (s.size : Int)] 5)).heap.size, 0, none⟩ : Addr).add j) = some u) := c
 have s0 := B0.out.size
 clear O1 b c z
 go_wp2_with (at_builtin; go_must (refine wpList_append_own _ rfl _ _ 22 rfl w.heap.size 5 i0 (.int .u8 0) 1 1 Tryz.underlying22 hi hz0 hz1 hz2 rfl (by decide) _ _ _ rfl O2.out _ s.size cap ((strN s).map (Value.int .u8)) rfl ?c1 ?c0 ?c2 ?c3 ?c4 ?c5 ?_))
 case c0 => intro j u hj; have := HC.out j u hj; rwa [World.size_alloc] at this
 case c1 => rw [List.length_map, strN_len, Nat.mul_one]
 case c2 => intro u hu; obtain ⟨x, -, rfl⟩ := List.mem_map.1 hu; rfl
 case c3 => unfold maxLen; omega
 case c4 => omega
 case c5 => omega
 intro v2 w2 ho2 hg2 _
 have O3 : Hid (Own .u8 5 w2 w.heap.size v2 (txB s)) := by
  refine own_of (q := 1 + s.size) (ys := txB s) (by rw [txB_len]) rfl ?_
  unfold txB
  rw [List.map_append]; exact ho2
 have B3 : Hid (Below w.heap.size w w2) := B0.out.grown hg2 (by omega) (fun q hq => (World.ownsRow.lt O2.out q hq).1)
 clear ho2 hg2 hr HC
 go_wp2
 go_ret
 exact ⟨_, rfl, O3.out, B3.out⟩
theorem splA_tot : ∀ l cur : List UInt8, ((splA cur l).map List.length).sum + (splA cur l).length = cur.length + l.length + 1
 | [], cur => by simp [splA]
 | x :: l, cur => by
  by_cases h : x = 47
  · subst h
    have := splA_tot l []
    rw [splA_sl]
    simp only [List.map_cons, List.sum_cons, List.length_cons, List.length_nil] at this ⊢
    omega
  · have := splA_tot l (cur ++ [x])
    rw [splA_ch h]
    simp only [List.length_append, List.length_cons, List.length_nil] at this ⊢
    omega
theorem sum_le (m : Nat) : ∀ L : List (List UInt8), (∀ x ∈ L, x.length ≤ m) → (L.map List.length).sum ≤ L.length * m
 | [], _ => by simp
 | x :: L, h => by
  have h1 := h x (by simp)
  have h2 := sum_le m L (fun y hy => h y (by simp [hy]))
  rw [List.map_cons, List.sum_cons, List.length_cons, Nat.add_mul]
  omega
theorem okL_len {l : List UInt8} (h : okL l = true) : l.length ≤ 16 := by
 unfold okL okN at h
 simp only [Bool.and_eq_true, decide_eq_true_eq] at h
 have h2 : (ByteArray.mk l.toArray).size = l.length := rfl
 omega
theorem okPath_size {s : ByteArray} (h : okPath s = true) : s.size ≤ 102 := by
 have hs : s.data.toList.length = s.size := by rw [Array.length_toList]; rfl
 unfold okPath at h
 simp only [Bool.or_eq_true, Bool.and_eq_true, decide_eq_true_eq] at h
 rcases h with h | ⟨⟨⟨h1, h2⟩, h3⟩, h4⟩
 · rw [h] at hs; simp at hs; omega
 · have h5 := splA_tot (s.data.toList.drop 1) []
   have h6 := sum_le 16 (nm s) (fun x hx => okL_len (List.all_eq_true.1 h4 x hx))
   unfold nm at h3 h6
   rw [List.length_drop, hs] at h5
   simp only [List.length_nil] at h5
   omega
theorem okNd_all {n : Nd} (h : okNd n = true) : n.path.size ≤ 102 ∧ n.data.size ≤ 64 ∧ (0 ≤ n.ver ∧ n.ver ≤ 2147483647) ∧ (0 ≤ n.cver ∧ n.cver ≤ 2147483647) ∧ (0 ≤ n.cz ∧ n.cz ≤ 2147483647) ∧ (0 ≤ n.mz ∧ n.mz ≤ 2147483647) ∧ (0 ≤ n.pz ∧ n.pz ≤ 2147483647) := by
 unfold okNd okS at h
 simp only [Bool.and_eq_true, decide_eq_true_eq] at h
 obtain ⟨⟨⟨⟨⟨⟨h1, h2⟩, h3⟩, h4⟩, h5⟩, h6⟩, h7⟩ := h
 exact ⟨okPath_size h1, h2, h3, h4, h5, h6, h7⟩
def stB (n : Nd) : List Int := bigR n.ver.toNat 4 ++ bigR n.cver.toNat 4 ++ bigR n.cz.toNat 4 ++ bigR n.mz.toNat 4 ++ bigR n.pz.toNat 4
def nodeB (n : Nd) : List Int := txB n.path ++ txB n.data ++ stB n
theorem nodeB_len (n : Nd) : (nodeB n).length = 22 + n.path.size + n.data.size := by
 unfold nodeB stB
 simp only [List.length_append, txB_len, bigR_len]
 omega
def nodesB (ns : List Nd) : List Int := ns.flatMap nodeB
theorem okTree_nd {ns : List Nd} (h : okTree ns = true) (k : Nat) (hk : k < ns.length) : okNd (nAt ns k) = true := by
 unfold okTree okSorted at h
 simp only [Bool.and_eq_true] at h
 have := List.all_eq_true.1 h.2 k (by simpa using hk)
 unfold okAt at this
 simp only [Bool.and_eq_true] at this
 exact this.1
theorem okTree_len {ns : List Nd} (h : okTree ns = true) : ns.length ≤ 1000 := by
 unfold okTree at h
 simp only [Bool.and_eq_true, decide_eq_true_eq] at h
 exact h.1
def treeB (ns : List Nd) : List Int := if okTree ns then nodesB ns else []
theorem splA_join : ∀ (l cur : List UInt8), 47 :: (cur ++ l) = (splA cur l).flatMap (fun a => 47 :: a)
 | [], cur => by simp [splA]
 | x :: l, cur => by
  by_cases h : x = 47
  · subst h
    rw [splA_sl, List.flatMap_cons, ← splA_join l []]
    simp
  · rw [splA_ch h, ← splA_join l (cur ++ [x])]
    simp
def headL (s : ByteArray) : List UInt8 := (nm s).dropLast.flatMap (fun a => 47 :: a)
theorem nm_ne (s : ByteArray) : nm s ≠ [] := fun h => by have := splA_pos (s.data.toList.drop 1) []; unfold nm at h; rw [h] at this; simp at this
def parL (s : ByteArray) : List UInt8 := if headL s = [] then [47] else headL s
theorem okPath_head {s : ByteArray} (h : okPath s = true) : 1 ≤ s.size ∧ bN s 0 = 47 := by
 unfold okPath at h
 simp only [Bool.or_eq_true, Bool.and_eq_true, decide_eq_true_eq] at h
 rcases h with h | ⟨⟨⟨h1, h2⟩, -⟩, -⟩
 · have hs : s.data.toList.length = s.size := by rw [Array.length_toList]; rfl
   rw [h] at hs
   refine ⟨by simp at hs; omega, ?_⟩
   unfold bN; rw [h]; rfl
 · exact ⟨by omega, h2⟩
def chB (s p : ByteArray) : Bool := !(s.toList == [47]) && (parL s == p.toList)
theorem flat_succ (L : List (List UInt8)) (i : Nat) (h : i < L.length) : (L.take i).flatMap (fun a => 47 :: a) ++ 47 :: L[i] = (L.take (i + 1)).flatMap (fun a => 47 :: a) := by
 rw [List.take_succ_eq_append_getElem h, List.flatMap_append]; simp
theorem dropLast_take' (L : List (List UInt8)) (i : Nat) (h : i + 1 = L.length) : L.take i = L.dropLast := by
 rw [List.dropLast_eq_take]; congr 1; omega
theorem flat_le (s : ByteArray) (k : Nat) : (((nm s).take k).flatMap (fun a => (47 : UInt8) :: a)).length ≤ s.size + 1 := by
 have h1 : ((nm s).flatMap (fun a => (47 : UInt8) :: a)).length ≤ s.size + 1 := by
  have hj := congrArg List.length (splA_join (s.data.toList.drop 1) [])
  have hs2 : s.data.toList.length = s.size := by rw [Array.length_toList]; rfl
  rw [List.length_cons, List.nil_append, List.length_drop, hs2] at hj
  unfold nm
  omega
 have h2 : (nm s).flatMap (fun a => (47 : UInt8) :: a) = ((nm s).take k).flatMap (fun a => 47 :: a) ++ ((nm s).drop k).flatMap (fun a => 47 :: a) := by
  rw [← List.flatMap_append, List.take_append_drop]
 have h3 := congrArg List.length h2
 rw [List.length_append] at h3
 omega
theorem ba_ap (a b : List UInt8) : (⟨a.toArray⟩ ++ ⟨b.toArray⟩ : ByteArray) = ⟨(a ++ b).toArray⟩ := by
 apply ByteArray.ext
 simp [ByteArray.data_append]
theorem l3Parent_any (w : World) (s : ByteArray) (h : okPath s = true) :
    Calls Tryz.prog 170 #[.string s] w fun e w' => e = .returned (sV (parL s)) ∧ Below w.heap.size w w' := by
 obtain ⟨h1, -⟩ := okPath_head h
 have hz := okPath_size h
 have hn : 1 ≤ (nm s).length := by
  cases hh : nm s with
  | nil => exact absurd hh (nm_ne s)
  | cons a l => simp
 have hnl : (nm s).length ≤ 103 := by
  have := splA_tot (s.data.toList.drop 1) []
  have hs2 : s.data.toList.length = s.size := by rw [Array.length_toList]; rfl
  rw [List.length_drop, hs2] at this
  simp only [List.length_nil] at this
  unfold nm
  omega
 clear h
 go_enter Tryz.func170, Tryz.ntmps170
 go_wp2_with fail
 refine (names_any _ s h1 (by omega)).mono ?_
 rintro e w1 ⟨v1, rfl, o1, b1⟩
 obtain ⟨g, c, hv⟩ : ∃ g c, v1 = .slice (some ⟨g, 0, none⟩) (nm s).length c := by
  rcases o1.2 with ⟨-, h0⟩ | ⟨g, cap, cur, rfl, -⟩
  · omega
  · exact ⟨g, cap, rfl⟩
 subst hv
 have CL : Hid (∀ i (hi : i < (nm s).length), w1.cell? ⟨g, i, none⟩ = some (.string ⟨((nm s)[i]).toArray⟩)) := by
  intro i hi
  have := World.ownsRow.cells o1 (g := g) rfl i (sV (nm s)[i]) (by rw [List.getElem?_map, List.getElem?_eq_getElem hi]; rfl)
  rw [Addr.add_lit, Nat.zero_add] at this; exact this
 have B1 : Hid (Below w.heap.size w w1) := b1
 clear o1 b1
 obtain ⟨n, hnn⟩ : ∃ n, n = (nm s).length := ⟨_, rfl⟩
 have HNN : Hid (n = (nm s).length) := hnn
 rw [← hnn] at hn hnl ⊢
 clear hnn
 go_wp2
 go_loop [4, 5] (fun vo vi => ∃ i : Nat, i + 1 ≤ n ∧ vi = .int .i64 i ∧ vo = .string ⟨(((nm s).take i).flatMap (fun a => 47 :: a)).toArray⟩) (fun _ i => n - (intOf i).toNat)
 case atStart => exact ⟨0, hn, rfl, rfl⟩
 case round =>
  obtain ⟨i, hi, rfl, rfl⟩ := hrel
  by_cases hlt : i + 1 < n
  · have hltI : (i : Int) + 1 < (n : Int) := by omega
    have hil : i < (nm s).length := by rw [← HNN.out]; omega
    have c1 := CL.out i hil
    have HF : Hid ((⟨(((nm s).take i).flatMap (fun a => 47 :: a)).toArray⟩ : ByteArray) ++ ((⟨#[47]⟩ : ByteArray) ++ ⟨((nm s)[i]).toArray⟩) = ⟨(((nm s).take (i + 1)).flatMap (fun a => 47 :: a)).toArray⟩) := by
     show _ = _
     rw [show (⟨#[47]⟩ : ByteArray) = ⟨([47] : List UInt8).toArray⟩ from rfl, ba_ap, ba_ap, ← flat_succ _ i hil]
     rfl
    have hlen : (((nm s).take i).flatMap (fun a => (47 : UInt8) :: a)).length + (1 + ((nm s)[i]).length) ≤ 103 := by
     have := flat_le s (i + 1)
     rw [← flat_succ _ i hil, List.length_append, List.length_cons] at this
     omega
    generalize hA : ((nm s).take i).flatMap (fun a => (47 : UInt8) :: a) = A at *
    generalize hB : (nm s)[i] = Bx at *
    clear hA hB
    go_wp2
    exact ⟨⟨i + 1, by omega, by go_num, congrArg Value.string HF.out⟩, by simp [intOf]; omega⟩
  · have hin : i + 1 = (nm s).length := by rw [← HNN.out]; omega
    have hnI : ¬ (i : Int) + 1 < (n : Int) := by omega
    have HH : Hid (((nm s).take i).flatMap (fun a => (47 : UInt8) :: a) = headL s) := by show _ = _; rw [dropLast_take' _ _ hin]; rfl
    rw [HH.out]
    have HP : Hid (parL s = if headL s = [] then [47] else headL s) := rfl
    clear HH
    cases hh : headL s with
    | nil =>
     rw [hh] at HP
     go_wp2
     go_ret
     exact ⟨by rw [HP.out]; rfl, B1.out⟩
    | cons a l =>
     rw [hh] at HP
     go_wp2
     go_ret
     exact ⟨by rw [HP.out, if_neg (by simp)]; rfl, B1.out⟩
end Go.Proofs.YtcopcegamadkgaaGreatDoor
namespace Go.Proofs.YtcopcegamadkgaaGreatDoor
open Go.RowKit Go.Shelf
def six : Nat → Nat → Nat → List UInt8
 | 0, _, _ => []
 | f + 1, v, d => if v = 0 ∧ d = 0 then [] else six f (v / 10) (d - 1) ++ [UInt8.ofNat (48 + v % 10)]
theorem six_len : ∀ f v d, (six f v d).length ≤ f
 | 0, _, _ => Nat.le_refl _
 | f + 1, v, d => by
  unfold six
  split
  · simp
  · have := six_len f (v / 10) (d - 1)
    simp; omega
theorem l3Six_end (w : World) (dg : Int) (hd : dg ≤ 0) : Calls Tryz.prog 138 #[.int .i64 0, .int .i64 dg] w fun e w' => e = .returned (.string ⟨#[]⟩) ∧ Below w.heap.size w w' := by
 go_enter Tryz.func138, Tryz.ntmps138
 go_wp2
 go_ret
 exact ⟨rfl, Below.refl _ _⟩
theorem strOf_one (n : Nat) : strOfNums [(n : Int)] = ⟨[UInt8.ofNat n].toArray⟩ := by
 unfold strOfNums
 simp
set_option linter.unusedSimpArgs false in
theorem l3Six_any : ∀ (f : Nat) (w : World) (v : Nat) (dg : Int), f ≤ 20 → v < 10 ^ f → v ≤ 1000000000000 → dg.toNat ≤ f → dg ≤ 100 → (f : Int) - 100 ≤ dg →
    Calls Tryz.prog 138 #[.int .i64 (v : Int), .int .i64 dg] w fun e w' => e = .returned (.string ⟨(six (f + 1) v dg.toNat).toArray⟩) ∧ Below w.heap.size w w' := by
 intro f
 induction f with
 | zero =>
  intro w v dg hf hv hv2 hd hdg hdm
  have hv0 : v = 0 := by simpa using hv
  subst hv0
  refine (l3Six_end w dg (by omega)).mono ?_
  rintro e w' ⟨rfl, b⟩
  rw [show dg.toNat = 0 by omega]
  exact ⟨rfl, b⟩
 | succ f ih =>
  intro w v dg hf hv hv2 hd hdg hdm
  by_cases hz : v = 0 ∧ dg ≤ 0
  · obtain ⟨rfl, hz2⟩ := hz
    refine (l3Six_end w dg hz2).mono ?_
    rintro e w' ⟨rfl, b⟩
    rw [show dg.toNat = 0 by omega]
    exact ⟨rfl, b⟩
  have HS : Hid (six (f + 2) v dg.toNat = six (f + 1) (v / 10) (dg - 1).toNat ++ [UInt8.ofNat (48 + v % 10)]) := by
   show _ = _
   rw [six, if_neg (by omega), show (dg - 1).toNat = dg.toNat - 1 by omega]
  have HI : Hid (∀ W : World, Calls Tryz.prog 138 #[.int .i64 ((v : Int) / 10), .int .i64 (dg - 1)] W fun e w' => e = .returned (.string ⟨(six (f + 1) (v / 10) (dg - 1).toNat).toArray⟩) ∧ Below W.heap.size W w') := by
   intro W
   have := ih W (v / 10) (dg - 1) (by omega) (by rw [Nat.pow_succ] at hv; omega) (by omega) (by omega) (by omega) (by omega)
   rw [show ((v / 10 : Nat) : Int) = (v : Int) / 10 by omega] at this
   exact this
  clear ih hv
  have hcase : (¬ (v : Int) = 0) ∨ ((v : Int) = 0 ∧ ¬ dg ≤ 0) := by omega
  have hL := six_len (f + 1) (v / 10) (dg - 1).toNat
  generalize six (f + 1) (v / 10) (dg - 1).toNat = L at *
  have hm : v % 10 < 10 := Nat.mod_lt _ (by omega)
  have HONE : Hid (strOfNums [((48 + v % 10 : Nat) : Int)] = ⟨[UInt8.ofNat (48 + v % 10)].toArray⟩) := strOf_one _
  have HB8 : Hid (∀ W : World, Rd .u8 (W.alloc (.cells #[.int .u8 (48 + (v : Int) % 10)] 5)) (.slice (some ⟨W.heap.size, 0, none⟩) 1 1) [((48 + v % 10 : Nat) : Int)]) := by
   intro W
   refine ⟨_, _, rfl, Nat.le_refl _, by unfold maxLen; omega, .inr ⟨W.heap.size, 0, rfl, by simp, fun i hi => ?_⟩⟩
   have : i = 0 := by simp at hi; omega
   subst this
   simp
  rcases hcase with hc | ⟨hc, hc2⟩
  · have hcb : ((v : Int) == 0) = false := by simp; omega
    clear hc hz
    go_enter Tryz.func138, Tryz.ntmps138
    go_wp2_with fail
    refine wp_region_held_drew (S := fun _ => True) (by kernel_rfl) trivial (fun hHeld => ?_)
    have bC : Below w.heap.size w w.drew := below_drewN' w 1
    generalize w.drew = P0 at *
    refine tkL9 (i := 0) (oi := ⟨some 11, _, _, _, _, _⟩) (v := (.int .i64 (v : Int))) rfl (by kernel_rfl) (fun _ _ _ h => h) (by rfl) (by assumption) ?hy6 ?_
    case hy6 => intro w9 hS9; go_simp
    try simp only [Act.put, sT9, sZ9, sS9]
    refine tkL9 (i := 1) (oi := ⟨some 12, _, _, _, _, _⟩) (v := (.int .i64 ((v : Int) / 10))) rfl (by kernel_rfl) (fun _ _ _ h => h) (by rfl) (by assumption) ?hy7 ?_
    case hy7 => intro w9 hS9; go_simp; rw [IntKind.wrap_i64]; omega
    try simp only [Act.put, sT9, sZ9, sS9]
    refine tkL9 (i := 2) (oi := ⟨some 13, _, _, _, _, _⟩) (v := (.int .i64 dg)) rfl (by kernel_rfl) (fun _ _ _ h => h) (by rfl) (by assumption) ?hy8 ?_
    case hy8 => intro w9 hS9; go_simp
    try simp only [Act.put, sT9, sZ9, sS9]
    refine tkL9 (i := 3) (oi := ⟨some 14, _, _, _, _, _⟩) (v := (.int .i64 (dg - 1))) rfl (by kernel_rfl) (fun _ _ _ h => h) (by rfl) (by assumption) ?hy9 ?_
    case hy9 =>
     intro w9 hS9
     go_simp
     try (rw [IntKind.wrap_i64]; omega)
    try simp only [Act.put, sT9, sZ9, sS9]
    refine tkL9 (i := 5) (oi := ⟨some 16, _, _, _, _, _⟩) (v := (.int .i64 (v : Int))) rfl (by kernel_rfl) (fun _ _ _ h => h) (by rfl) (by assumption) ?hy10 ?_
    case hy10 => intro w9 hS9; go_simp
    try simp only [Act.put, sT9, sZ9, sS9]
    refine tkL9 (i := 6) (oi := ⟨some 17, _, _, _, _, _⟩) (v := (.int .i64 ((v : Int) % 10))) rfl (by kernel_rfl) (fun _ _ _ h => h) (by rfl) (by assumption) ?hy11 ?_
    case hy11 =>
     intro w9 hS9
     go_simp
     exact Int.tmod_eq_emod_of_nonneg (by omega)
    try simp only [Act.put, sT9, sZ9, sS9]
    refine tkL9 (i := 7) (oi := ⟨some 18, _, _, _, _, _⟩) (v := (.int .i64 (48 + (v : Int) % 10))) rfl (by kernel_rfl) (fun _ _ _ h => h) (by rfl) (by assumption) ?hy12 ?_
    case hy12 =>
     intro w9 hS9
     go_simp
     try (rw [IntKind.wrap_i64]; omega)
    try simp only [Act.put, sT9, sZ9, sS9]
    refine tkL9 (i := 8) (oi := ⟨some 19, _, _, _, _, _⟩) (v := (.int .u8 (48 + (v : Int) % 10))) rfl (by kernel_rfl) (fun _ _ _ h => h) (by rfl) (by assumption) ?hy13 ?_
    case hy13 =>
     intro w9 hS9
     go_simp
     rw [IntKind.wrap_u8]
     omega
    try simp only [Act.put, sT9, sZ9, sS9]
    refine wpAnyH_ready (rs := [4, 9]) (by kernel_rfl) (by simp) ?_
    refine (AllReadyH.cons (o := ⟨some 15, _, _, _, _, _⟩) rfl (fun K hK => ?_) (AllReadyH.cons (o := ⟨some 20, _, _, _, _, _⟩) rfl (fun K hK => ?_) AllReadyH.nil))
    · go_simp
      refine (HI.out P0).mono ?_
      rintro e P1 ⟨rfl, bA⟩
      replace bC := bC.trans (bA.mono bC.size)
      clear bA
      refine hK.out _ _ trivial (fun hx9 => ?_)
      clear hK K hx9
      try simp only [Act.put, sT9, sZ9, sS9]
      refine wpAnyH_ready (rs := [9]) (by kernel_rfl) (by simp) ?_
      refine (AllReadyH.cons (o := ⟨some 20, _, _, _, _, _⟩) rfl (fun K hK => ?_) AllReadyH.nil)
      go_simp
      have rB := HB8.out P1
      replace bC := bC.alloc bC.size (.cells #[.int .u8 (48 + (v : Int) % 10)] 5)
      generalize hB : P1.heap.size = BB at rB ⊢
      generalize P1.alloc (.cells #[.int .u8 (48 + (v : Int) % 10)] 5) = P2 at *
      clear hB
      refine hK.out _ _ trivial (fun hx9 => ?_)
      clear hK K hx9
      try simp only [Act.put, sT9, sZ9, sS9]
      refine wpAnyH_ready (rs := [10]) (by kernel_rfl) (by simp) ?_
      refine (AllReadyH.cons (o := ⟨some 21, _, _, _, _, _⟩) rfl (fun K hK => ?_) AllReadyH.nil)
      have hc9 := conv_any rB
      rw [HONE.out] at hc9
      go_simp
      clear hc9 rB
      refine hK.out _ _ trivial (fun hx9 => ?_)
      clear hK K hx9
      try simp only [Act.put, sT9, sZ9, sS9]
      refine tkL9 (i := 11) (oi := ⟨some 22, _, _, _, _, _⟩) (v := (.string (⟨L.toArray⟩ ++ ⟨[UInt8.ofNat (48 + v % 10)].toArray⟩))) rfl (by kernel_rfl) (fun _ _ _ h => h) (by rfl) (by assumption) ?hy14 ?_
      case hy14 => intro w9 hS9; go_simp; omega
      try simp only [Act.put, sT9, sZ9, sS9]
      skip
      refine tkL9 (i := 12) (oi := ⟨some 4, _, _, _, _, _⟩) (v := (.string (⟨L.toArray⟩ ++ ⟨[UInt8.ofNat (48 + v % 10)].toArray⟩))) rfl (by kernel_rfl) (fun _ _ _ h => h) (by rfl) (by assumption) ?hy15 ?_
      case hy15 => intro w9 hS9; go_simp
      try simp only [Act.put, sT9, sZ9, sS9]
      refine wpAnyH_done (by kernel_rfl) ?_ _
      clear hHeld
      have HBC : Hid (Below w.heap.size w P2) := bC
      clear bC
      go_wp2
      go_ret
      refine ⟨?_, HBC.out⟩
      rw [HS.out, ← ba_ap]
      rfl
    · go_simp
      have rB := HB8.out P0
      replace bC := bC.alloc bC.size (.cells #[.int .u8 (48 + (v : Int) % 10)] 5)
      generalize hB : P0.heap.size = BB at rB ⊢
      generalize P0.alloc (.cells #[.int .u8 (48 + (v : Int) % 10)] 5) = P4 at *
      clear hB
      refine hK.out _ _ trivial (fun hx9 => ?_)
      clear hK K hx9
      try simp only [Act.put, sT9, sZ9, sS9]
      refine wpAnyH_ready (rs := [4, 10]) (by kernel_rfl) (by simp) ?_
      refine (AllReadyH.cons (o := ⟨some 15, _, _, _, _, _⟩) rfl (fun K hK => ?_) (AllReadyH.cons (o := ⟨some 21, _, _, _, _, _⟩) rfl (fun K hK => ?_) AllReadyH.nil))
      · go_simp
        refine (HI.out P4).mono ?_
        rintro e P5 ⟨rfl, bA⟩
        replace bC := bC.trans (bA.mono bC.size)
        replace rB := rB.below bA
        clear bA
        refine hK.out _ _ trivial (fun hx9 => ?_)
        clear hK K hx9
        try simp only [Act.put, sT9, sZ9, sS9]
        refine wpAnyH_ready (rs := [10]) (by kernel_rfl) (by simp) ?_
        refine (AllReadyH.cons (o := ⟨some 21, _, _, _, _, _⟩) rfl (fun K hK => ?_) AllReadyH.nil)
        have hc9 := conv_any rB
        rw [HONE.out] at hc9
        go_simp
        clear hc9 rB
        refine hK.out _ _ trivial (fun hx9 => ?_)
        clear hK K hx9
        try simp only [Act.put, sT9, sZ9, sS9]
        refine tkL9 (i := 11) (oi := ⟨some 22, _, _, _, _, _⟩) (v := (.string (⟨L.toArray⟩ ++ ⟨[UInt8.ofNat (48 + v % 10)].toArray⟩))) rfl (by kernel_rfl) (fun _ _ _ h => h) (by rfl) (by assumption) ?hy16 ?_
        case hy16 => intro w9 hS9; go_simp; omega
        try simp only [Act.put, sT9, sZ9, sS9]
        skip
        refine tkL9 (i := 12) (oi := ⟨some 4, _, _, _, _, _⟩) (v := (.string (⟨L.toArray⟩ ++ ⟨[UInt8.ofNat (48 + v % 10)].toArray⟩))) rfl (by kernel_rfl) (fun _ _ _ h => h) (by rfl) (by assumption) ?hy17 ?_
        case hy17 => intro w9 hS9; go_simp
        try simp only [Act.put, sT9, sZ9, sS9]
        refine wpAnyH_done (by kernel_rfl) ?_ _
        clear hHeld
        have HBC : Hid (Below w.heap.size w P5) := bC
        clear bC
        go_wp2
        go_ret
        refine ⟨?_, HBC.out⟩
        rw [HS.out, ← ba_ap]
        rfl
      · have hc9 := conv_any rB
        rw [HONE.out] at hc9
        go_simp
        clear hc9 rB
        refine hK.out _ _ trivial (fun hx9 => ?_)
        clear hK K hx9
        try simp only [Act.put, sT9, sZ9, sS9]
        refine wpAnyH_ready (rs := [4]) (by kernel_rfl) (by simp) ?_
        refine (AllReadyH.cons (o := ⟨some 15, _, _, _, _, _⟩) rfl (fun K hK => ?_) AllReadyH.nil)
        go_simp
        refine (HI.out P4).mono ?_
        rintro e P8 ⟨rfl, bA⟩
        replace bC := bC.trans (bA.mono bC.size)
        clear bA
        refine hK.out _ _ trivial (fun hx9 => ?_)
        clear hK K hx9
        try simp only [Act.put, sT9, sZ9, sS9]
        refine tkL9 (i := 11) (oi := ⟨some 22, _, _, _, _, _⟩) (v := (.string (⟨L.toArray⟩ ++ ⟨[UInt8.ofNat (48 + v % 10)].toArray⟩))) rfl (by kernel_rfl) (fun _ _ _ h => h) (by rfl) (by assumption) ?hy18 ?_
        case hy18 => intro w9 hS9; go_simp; omega
        try simp only [Act.put, sT9, sZ9, sS9]
        skip
        refine tkL9 (i := 12) (oi := ⟨some 4, _, _, _, _, _⟩) (v := (.string (⟨L.toArray⟩ ++ ⟨[UInt8.ofNat (48 + v % 10)].toArray⟩))) rfl (by kernel_rfl) (fun _ _ _ h => h) (by rfl) (by assumption) ?hy19 ?_
        case hy19 => intro w9 hS9; go_simp
        try simp only [Act.put, sT9, sZ9, sS9]
        refine wpAnyH_done (by kernel_rfl) ?_ _
        clear hHeld
        have HBC : Hid (Below w.heap.size w P8) := bC
        clear bC
        go_wp2
        go_ret
        refine ⟨?_, HBC.out⟩
        rw [HS.out, ← ba_ap]
        rfl
  · have hcb : ((v : Int) == 0) = true := by simp; omega
    have hcd : ¬ dg ≤ 0 := hc2
    clear hc hz hc2
    go_enter Tryz.func138, Tryz.ntmps138
    go_wp2_with fail
    refine wp_region_held_drew (S := fun _ => True) (by kernel_rfl) trivial (fun hHeld => ?_)
    have bC : Below w.heap.size w w.drew := below_drewN' w 1
    generalize w.drew = P0 at *
    refine tkL9 (i := 0) (oi := ⟨some 11, _, _, _, _, _⟩) (v := (.int .i64 (v : Int))) rfl (by kernel_rfl) (fun _ _ _ h => h) (by rfl) (by assumption) ?hy20 ?_
    case hy20 => intro w9 hS9; go_simp
    try simp only [Act.put, sT9, sZ9, sS9]
    refine tkL9 (i := 1) (oi := ⟨some 12, _, _, _, _, _⟩) (v := (.int .i64 ((v : Int) / 10))) rfl (by kernel_rfl) (fun _ _ _ h => h) (by rfl) (by assumption) ?hy21 ?_
    case hy21 => intro w9 hS9; go_simp; rw [IntKind.wrap_i64]; omega
    try simp only [Act.put, sT9, sZ9, sS9]
    refine tkL9 (i := 2) (oi := ⟨some 13, _, _, _, _, _⟩) (v := (.int .i64 dg)) rfl (by kernel_rfl) (fun _ _ _ h => h) (by rfl) (by assumption) ?hy22 ?_
    case hy22 => intro w9 hS9; go_simp
    try simp only [Act.put, sT9, sZ9, sS9]
    refine tkL9 (i := 3) (oi := ⟨some 14, _, _, _, _, _⟩) (v := (.int .i64 (dg - 1))) rfl (by kernel_rfl) (fun _ _ _ h => h) (by rfl) (by assumption) ?hy23 ?_
    case hy23 =>
     intro w9 hS9
     go_simp
     try (rw [IntKind.wrap_i64]; omega)
    try simp only [Act.put, sT9, sZ9, sS9]
    refine tkL9 (i := 5) (oi := ⟨some 16, _, _, _, _, _⟩) (v := (.int .i64 (v : Int))) rfl (by kernel_rfl) (fun _ _ _ h => h) (by rfl) (by assumption) ?hy24 ?_
    case hy24 => intro w9 hS9; go_simp
    try simp only [Act.put, sT9, sZ9, sS9]
    refine tkL9 (i := 6) (oi := ⟨some 17, _, _, _, _, _⟩) (v := (.int .i64 ((v : Int) % 10))) rfl (by kernel_rfl) (fun _ _ _ h => h) (by rfl) (by assumption) ?hy25 ?_
    case hy25 =>
     intro w9 hS9
     go_simp
     exact Int.tmod_eq_emod_of_nonneg (by omega)
    try simp only [Act.put, sT9, sZ9, sS9]
    refine tkL9 (i := 7) (oi := ⟨some 18, _, _, _, _, _⟩) (v := (.int .i64 (48 + (v : Int) % 10))) rfl (by kernel_rfl) (fun _ _ _ h => h) (by rfl) (by assumption) ?hy26 ?_
    case hy26 =>
     intro w9 hS9
     go_simp
     try (rw [IntKind.wrap_i64]; omega)
    try simp only [Act.put, sT9, sZ9, sS9]
    refine tkL9 (i := 8) (oi := ⟨some 19, _, _, _, _, _⟩) (v := (.int .u8 (48 + (v : Int) % 10))) rfl (by kernel_rfl) (fun _ _ _ h => h) (by rfl) (by assumption) ?hy27 ?_
    case hy27 =>
     intro w9 hS9
     go_simp
     rw [IntKind.wrap_u8]
     omega
    try simp only [Act.put, sT9, sZ9, sS9]
    refine wpAnyH_ready (rs := [4, 9]) (by kernel_rfl) (by simp) ?_
    refine (AllReadyH.cons (o := ⟨some 15, _, _, _, _, _⟩) rfl (fun K hK => ?_) (AllReadyH.cons (o := ⟨some 20, _, _, _, _, _⟩) rfl (fun K hK => ?_) AllReadyH.nil))
    · go_simp
      refine (HI.out P0).mono ?_
      rintro e P1 ⟨rfl, bA⟩
      replace bC := bC.trans (bA.mono bC.size)
      clear bA
      refine hK.out _ _ trivial (fun hx9 => ?_)
      clear hK K hx9
      try simp only [Act.put, sT9, sZ9, sS9]
      refine wpAnyH_ready (rs := [9]) (by kernel_rfl) (by simp) ?_
      refine (AllReadyH.cons (o := ⟨some 20, _, _, _, _, _⟩) rfl (fun K hK => ?_) AllReadyH.nil)
      go_simp
      have rB := HB8.out P1
      replace bC := bC.alloc bC.size (.cells #[.int .u8 (48 + (v : Int) % 10)] 5)
      generalize hB : P1.heap.size = BB at rB ⊢
      generalize P1.alloc (.cells #[.int .u8 (48 + (v : Int) % 10)] 5) = P2 at *
      clear hB
      refine hK.out _ _ trivial (fun hx9 => ?_)
      clear hK K hx9
      try simp only [Act.put, sT9, sZ9, sS9]
      refine wpAnyH_ready (rs := [10]) (by kernel_rfl) (by simp) ?_
      refine (AllReadyH.cons (o := ⟨some 21, _, _, _, _, _⟩) rfl (fun K hK => ?_) AllReadyH.nil)
      have hc9 := conv_any rB
      rw [HONE.out] at hc9
      go_simp
      clear hc9 rB
      refine hK.out _ _ trivial (fun hx9 => ?_)
      clear hK K hx9
      try simp only [Act.put, sT9, sZ9, sS9]
      refine tkL9 (i := 11) (oi := ⟨some 22, _, _, _, _, _⟩) (v := (.string (⟨L.toArray⟩ ++ ⟨[UInt8.ofNat (48 + v % 10)].toArray⟩))) rfl (by kernel_rfl) (fun _ _ _ h => h) (by rfl) (by assumption) ?hy28 ?_
      case hy28 => intro w9 hS9; go_simp; omega
      try simp only [Act.put, sT9, sZ9, sS9]
      skip
      refine tkL9 (i := 12) (oi := ⟨some 4, _, _, _, _, _⟩) (v := (.string (⟨L.toArray⟩ ++ ⟨[UInt8.ofNat (48 + v % 10)].toArray⟩))) rfl (by kernel_rfl) (fun _ _ _ h => h) (by rfl) (by assumption) ?hy29 ?_
      case hy29 => intro w9 hS9; go_simp
      try simp only [Act.put, sT9, sZ9, sS9]
      refine wpAnyH_done (by kernel_rfl) ?_ _
      clear hHeld
      have HBC : Hid (Below w.heap.size w P2) := bC
      clear bC
      go_wp2
      go_ret
      refine ⟨?_, HBC.out⟩
      rw [HS.out, ← ba_ap]
      rfl
    · go_simp
      have rB := HB8.out P0
      replace bC := bC.alloc bC.size (.cells #[.int .u8 (48 + (v : Int) % 10)] 5)
      generalize hB : P0.heap.size = BB at rB ⊢
      generalize P0.alloc (.cells #[.int .u8 (48 + (v : Int) % 10)] 5) = P4 at *
      clear hB
      refine hK.out _ _ trivial (fun hx9 => ?_)
      clear hK K hx9
      try simp only [Act.put, sT9, sZ9, sS9]
      refine wpAnyH_ready (rs := [4, 10]) (by kernel_rfl) (by simp) ?_
      refine (AllReadyH.cons (o := ⟨some 15, _, _, _, _, _⟩) rfl (fun K hK => ?_) (AllReadyH.cons (o := ⟨some 21, _, _, _, _, _⟩) rfl (fun K hK => ?_) AllReadyH.nil))
      · go_simp
        refine (HI.out P4).mono ?_
        rintro e P5 ⟨rfl, bA⟩
        replace bC := bC.trans (bA.mono bC.size)
        replace rB := rB.below bA
        clear bA
        refine hK.out _ _ trivial (fun hx9 => ?_)
        clear hK K hx9
        try simp only [Act.put, sT9, sZ9, sS9]
        refine wpAnyH_ready (rs := [10]) (by kernel_rfl) (by simp) ?_
        refine (AllReadyH.cons (o := ⟨some 21, _, _, _, _, _⟩) rfl (fun K hK => ?_) AllReadyH.nil)
        have hc9 := conv_any rB
        rw [HONE.out] at hc9
        go_simp
        clear hc9 rB
        refine hK.out _ _ trivial (fun hx9 => ?_)
        clear hK K hx9
        try simp only [Act.put, sT9, sZ9, sS9]
        refine tkL9 (i := 11) (oi := ⟨some 22, _, _, _, _, _⟩) (v := (.string (⟨L.toArray⟩ ++ ⟨[UInt8.ofNat (48 + v % 10)].toArray⟩))) rfl (by kernel_rfl) (fun _ _ _ h => h) (by rfl) (by assumption) ?hy30 ?_
        case hy30 => intro w9 hS9; go_simp; omega
        try simp only [Act.put, sT9, sZ9, sS9]
        skip
        refine tkL9 (i := 12) (oi := ⟨some 4, _, _, _, _, _⟩) (v := (.string (⟨L.toArray⟩ ++ ⟨[UInt8.ofNat (48 + v % 10)].toArray⟩))) rfl (by kernel_rfl) (fun _ _ _ h => h) (by rfl) (by assumption) ?hy31 ?_
        case hy31 => intro w9 hS9; go_simp
        try simp only [Act.put, sT9, sZ9, sS9]
        refine wpAnyH_done (by kernel_rfl) ?_ _
        clear hHeld
        have HBC : Hid (Below w.heap.size w P5) := bC
        clear bC
        go_wp2
        go_ret
        refine ⟨?_, HBC.out⟩
        rw [HS.out, ← ba_ap]
        rfl
      · have hc9 := conv_any rB
        rw [HONE.out] at hc9
        go_simp
        clear hc9 rB
        refine hK.out _ _ trivial (fun hx9 => ?_)
        clear hK K hx9
        try simp only [Act.put, sT9, sZ9, sS9]
        refine wpAnyH_ready (rs := [4]) (by kernel_rfl) (by simp) ?_
        refine (AllReadyH.cons (o := ⟨some 15, _, _, _, _, _⟩) rfl (fun K hK => ?_) AllReadyH.nil)
        go_simp
        refine (HI.out P4).mono ?_
        rintro e P8 ⟨rfl, bA⟩
        replace bC := bC.trans (bA.mono bC.size)
        clear bA
        refine hK.out _ _ trivial (fun hx9 => ?_)
        clear hK K hx9
        try simp only [Act.put, sT9, sZ9, sS9]
        refine tkL9 (i := 11) (oi := ⟨some 22, _, _, _, _, _⟩) (v := (.string (⟨L.toArray⟩ ++ ⟨[UInt8.ofNat (48 + v % 10)].toArray⟩))) rfl (by kernel_rfl) (fun _ _ _ h => h) (by rfl) (by assumption) ?hy32 ?_
        case hy32 => intro w9 hS9; go_simp; omega
        try simp only [Act.put, sT9, sZ9, sS9]
        skip
        refine tkL9 (i := 12) (oi := ⟨some 4, _, _, _, _, _⟩) (v := (.string (⟨L.toArray⟩ ++ ⟨[UInt8.ofNat (48 + v % 10)].toArray⟩))) rfl (by kernel_rfl) (fun _ _ _ h => h) (by rfl) (by assumption) ?hy33 ?_
        case hy33 => intro w9 hS9; go_simp
        try simp only [Act.put, sT9, sZ9, sS9]
        refine wpAnyH_done (by kernel_rfl) ?_ _
        clear hHeld
        have HBC : Hid (Below w.heap.size w P8) := bC
        clear bC
        go_wp2
        go_ret
        refine ⟨?_, HBC.out⟩
        rw [HS.out, ← ba_ap]
        rfl
end Go.Proofs.YtcopcegamadkgaaGreatDoor
namespace Go.Proofs.YtcopcegamadkgaaGreatDoor
open Go.RowKit
def drP : Nat → List UInt8 → Sr → List UInt8 × Sr
 | 0, out, s => (out, s)
 | d + 1, out, s =>
  if (s.next 12).1 < 9 then drP d (out ++ [47, UInt8.ofNat (97 + (s.next 12).1 % 3)]) (s.next 12).2
  else if (s.next 12).1 = 9 then drP d (out ++ [47, 110, 48]) (s.next 12).2
  else if (s.next 12).1 = 10 then drP d (out ++ [47, 122, 122, 57]) (s.next 12).2
  else (out ++ [47, 98], (s.next 12).2)
def Sr.path (s : Sr) : List UInt8 × Sr := drP (1 + (s.next 3).1) [] (s.next 3).2
theorem drP_len : ∀ (d : Nat) (out : List UInt8) (s : Sr), (drP d out s).1.length ≤ out.length + 4 * d
 | 0, out, s => Nat.le_refl _
 | d + 1, out, s => by
  unfold drP
  split
  · have := drP_len d (out ++ [47, UInt8.ofNat (97 + (s.next 12).1 % 3)]) (s.next 12).2
    simp at this ⊢; omega
  · split
    · have := drP_len d (out ++ [47, 110, 48]) (s.next 12).2
      simp at this ⊢; omega
    · split
      · have := drP_len d (out ++ [47, 122, 122, 57]) (s.next 12).2
        simp at this ⊢; omega
      · simp; omega
theorem Sr.path_len (s : Sr) : s.path.1.length ≤ 12 := by
 have := drP_len (1 + (s.next 3).1) [] (s.next 3).2
 have := s.next_lt 3 (by omega)
 unfold Sr.path
 simp at *
 omega
theorem rd_one (W : World) (x : Nat) : Rd .u8 (W.alloc (.cells #[.int .u8 (x : Int)] 5)) (.slice (some ⟨W.heap.size, 0, none⟩) 1 1) [(x : Int)] := by
 refine ⟨_, _, rfl, Nat.le_refl _, by unfold maxLen; omega, .inr ⟨W.heap.size, 0, rfl, by simp, fun i hi => ?_⟩⟩
 have : i = 0 := by simp at hi; omega
 subst this
 simp
theorem path_x (W : World) (k B : Nat) (s : Sr) (h : SRX W k B s) :
    Calls Tryz.prog 132 #[.pointer (some ⟨k, 0, none⟩)] W fun e w' => e = .returned (.string ⟨s.path.1.toArray⟩) ∧ SRX w' k B s.path.2 ∧ Tch k W w' := by
 have HS : Hid (SRX W k B s) := h
 have hk1 := h.kB
 have hk2 := h.lt
 obtain ⟨res, hres⟩ : ∃ res, res = s.path := ⟨_, rfl⟩
 have HRES : Hid (s.path = res) := hres.symm
 rw [← hres]
 clear h hres
 go_enter Tryz.func132, Tryz.ntmps132
 go_wp2_with fail
 refine (next_x _ k B 3 s HS.out (by omega)).mono ?_
 rintro e w1 ⟨rfl, s1, t1⟩
 have hn1 := s.next_lt 3 (by omega)
 have HD : Hid (drP (1 + (s.next 3).1) [] (s.next 3).2 = res) := HRES.out
 generalize (s.next 3).2 = r1 at *
 generalize (s.next 3).1 = n1 at *
 have S1 : Hid (SRX w1 k B r1) := s1
 have T1 : Hid (Tch k W w1) := t1
 clear s1 t1 HS HRES
 go_wp2
 go_loopw [3, 4] (fun o d wr => ∃ (j : Nat) (l : List UInt8) (q : Sr), j ≤ 3 ∧ l.length ≤ 12 - 4 * j ∧ o = .string ⟨l.toArray⟩ ∧ d = .int .i64 j ∧ Hid (drP j l q = res) ∧ Hid (SRX wr k B q) ∧ Hid (Tch k W wr)) (fun _ d _ => (intOf d).toNat)
 case atStart => exact ⟨1 + n1, [], r1, by omega, by simp, rfl, by go_num, HD, S1, T1⟩
 case round =>
  clear HD S1 T1
  obtain ⟨j, l, q, hj, hl, rfl, rfl, HD, HR, HT⟩ := hrel
  by_cases hlt : 0 < j
  · obtain ⟨j, rfl⟩ : ∃ i, j = i + 1 := ⟨j - 1, by omega⟩
    have hltI : (0 : Int) < ((j + 1 : Nat) : Int) := by omega
    go_wp2_with fail
    refine (next_x _ k B 12 q HR.out (by omega)).mono ?_
    rintro e w2 ⟨rfl, s2, t2⟩
    have hn2 := q.next_lt 12 (by omega)
    have HD2 : Hid ((if (q.next 12).1 < 9 then drP j (l ++ [47, UInt8.ofNat (97 + (q.next 12).1 % 3)]) (q.next 12).2
     else if (q.next 12).1 = 9 then drP j (l ++ [47, 110, 48]) (q.next 12).2
     else if (q.next 12).1 = 10 then drP j (l ++ [47, 122, 122, 57]) (q.next 12).2
     else (l ++ [47, 98], (q.next 12).2)) = res) := HD.out
    generalize (q.next 12).2 = r2 at *
    generalize (q.next 12).1 = n2 at *
    have S2 : Hid (SRX w2 k B r2) := s2
    have T2 := hd9 (HT.out.trans t2)
    have zz := T2.out.size
    clear s2 t2 HR HT HD
    have hbs : ∀ m : List UInt8, (⟨l.toArray⟩ ++ ⟨m.toArray⟩ : ByteArray) = ⟨(l ++ m).toArray⟩ := fun m => ba_ap l m
    by_cases h9 : n2 < 9
    · have h9I : (n2 : Int) < 9 := by omega
      have hm3 : n2 % 3 < 3 := Nat.mod_lt _ (by omega)
      have hmI : (n2 : Int) % 3 = ((n2 % 3 : Nat) : Int) := by omega
      rw [if_pos h9] at HD2
      generalize n2 % 3 = m3 at *
      have HC : Hid (∀ W : World, (convert 22 9 (.slice (some ⟨W.heap.size, 0, none⟩) 1 1)).run Tryz.prog (W.alloc (.cells #[.int .u8 (97 + (m3 : Int))] 5)) = .ok (.string ⟨[UInt8.ofNat (97 + m3)].toArray⟩) (W.alloc (.cells #[.int .u8 (97 + (m3 : Int))] 5))) := by
       intro W
       have := conv_any (rd_one W (97 + m3))
       rw [strOf_one] at this
       rw [show (97 : Int) + (m3 : Int) = ((97 + m3 : Nat) : Int) by omega]
       exact this
      have hcv := HC.out w2
      have hb0 : (⟨l.toArray⟩ ++ (⟨#[47]⟩ ++ ⟨#[UInt8.ofNat (97 + m3)]⟩ : ByteArray) : ByteArray) = ⟨(l ++ [47, UInt8.ofNat (97 + m3)]).toArray⟩ := by
       have a1 := ba_ap [47] [UInt8.ofNat (97 + m3)]
       have a2 := ba_ap l [47, UInt8.ofNat (97 + m3)]
       rw [show (⟨#[47]⟩ ++ ⟨#[UInt8.ofNat (97 + m3)]⟩ : ByteArray) = ⟨[47, UInt8.ofNat (97 + m3)].toArray⟩ from a1]
       exact a2
      have BA : Hid (Below w2.heap.size w2 (w2.alloc (.cells #[.int .u8 (97 + (m3 : Int))] 5))) := (Below.refl _ _).alloc (Nat.le_refl _) _
      have S3 : Hid (SRX (w2.alloc (.cells #[.int .u8 (97 + (m3 : Int))] 5)) k B r2) := S2.out.keep (BA.out.mono S2.out.lt)
      have T3 : Hid (Tch k W (w2.alloc (.cells #[.int .u8 (97 + (m3 : Int))] 5))) := T2.out.then (BA.out.mono zz)
      clear hbs
      go_wp2
      go_roundw
      case rel => exact ⟨j, l ++ [47, UInt8.ofNat (97 + m3)], r2, by omega, by simp; omega, by rw [← hb0, UInt8.ofNat_add]; rfl, by go_num, HD2, S3, T3⟩
      case measure => simp [intOf]
    · rw [if_neg h9] at HD2
      have h9I : ¬ (n2 : Int) < 9 := by omega
      by_cases h10 : n2 = 9
      · subst h10
        rw [if_pos rfl] at HD2
        have hb0 : (⟨l.toArray⟩ ++ ⟨#[47, 110, 48]⟩ : ByteArray) = ⟨(l ++ [47, 110, 48]).toArray⟩ := hbs [47, 110, 48]
        clear hbs
        go_wp2
        go_roundw
        case rel => exact ⟨j, l ++ [47, 110, 48], r2, by omega, by simp; omega, by rw [← hb0], by go_num, HD2, S2, T2⟩
        case measure => simp [intOf]
      · rw [if_neg h10] at HD2
        have h10I : ¬ (n2 : Int) = 9 := by omega
        have h10b : ((n2 : Int) == 9) = false := by simp; omega
        by_cases h11 : n2 = 10
        · subst h11
          rw [if_pos rfl] at HD2
          have hb0 : (⟨l.toArray⟩ ++ ⟨#[47, 122, 122, 57]⟩ : ByteArray) = ⟨(l ++ [47, 122, 122, 57]).toArray⟩ := hbs [47, 122, 122, 57]
          clear hbs
          go_wp2
          go_roundw
          case rel => exact ⟨j, l ++ [47, 122, 122, 57], r2, by omega, by simp; omega, by rw [← hb0], by go_num, HD2, S2, T2⟩
          case measure => simp [intOf]
        · rw [if_neg h11] at HD2
          have h11b : ((n2 : Int) == 10) = false := by simp; omega
          have hb0 : (⟨l.toArray⟩ ++ ⟨#[47, 98]⟩ : ByteArray) = ⟨(l ++ [47, 98]).toArray⟩ := hbs [47, 98]
          clear hbs h10I
          go_wp2
          go_ret
          rw [← HD2.out]
          exact ⟨by rw [← hb0]; rfl, S2.out, T2.out⟩
  · have hj0 : j = 0 := by omega
    subst hj0
    go_wp2
    go_ret
    rw [← HD.out]
    exact ⟨rfl, HR.out, HT.out⟩
def OffK (k : Nat) (v : Value) : Prop := ∀ b o n c, v = .slice (some ⟨b, o, none⟩) n c → b ≠ k
theorem RdN.tchK {w w' : World} {k : Nat} {v : Value} {ns : List Nd} (h : RdN w v ns) (ho : OffK k v) (t : Tch k w w') : RdN w' v ns := by
 obtain ⟨ao, cap, rfl, h1, h2, h3⟩ := h
 refine ⟨ao, cap, rfl, h1, h2, ?_⟩
 rcases h3 with h3 | ⟨b, off, rfl, hlt, hc⟩
 · exact .inl h3
 · refine .inr ⟨b, off, rfl, Nat.lt_of_lt_of_le hlt t.size, fun i hi => ?_⟩
   have hb := t.2 b (ho b off _ _ rfl) hlt
   have q : ∀ j, w'.cell? ⟨b, j, none⟩ = w.cell? ⟨b, j, none⟩ := fun j => World.cell?_of_block (a := ⟨b, j, none⟩) hb
   obtain ⟨c0, c1, c2, c3, c4, c5, c6⟩ := hc i hi
   exact ⟨(q _).trans c0, (q _).trans c1, (q _).trans c2, (q _).trans c3, (q _).trans c4, (q _).trans c5, (q _).trans c6⟩
theorem OwnN.offK {w : World} {lo k : Nat} {e : TypeId} {v : Value} {ns : List Nd} (h : OwnN e w lo v ns) (hk : k < lo) : OffK k v := by
 intro b o n c e
 have := (World.ownsRow.lt h b (by rw [e]; rfl)).1
 omega
def Sr.near (s : Sr) (ns : List Nd) : ByteArray × Sr :=
 if ns.length = 0 then (⟨s.path.1.toArray⟩, s.path.2)
 else if ((s.next ns.length).2.next 2).1 = 0 then ((nAt ns (s.next ns.length).1).path, ((s.next ns.length).2.next 2).2)
 else ((if (nAt ns (s.next ns.length).1).path.toList == [47] then ⟨#[]⟩ else (nAt ns (s.next ns.length).1).path) ++ ⟨#[47]⟩ ++ ⟨#[UInt8.ofNat (97 + (((s.next ns.length).2.next 2).2.next 4).1)]⟩, (((s.next ns.length).2.next 2).2.next 4).2)
theorem near_k (W : World) (k B : Nat) (s : Sr) (v : Value) (ns : List Nd) (h : SRX W k B s) (ho : RdN W v ns) (hlo : OffK k v) (hn : ns.length ≤ 1000000) (hps : ∀ i, i < ns.length → (nAt ns i).path.size ≤ 1000) :
    Calls Tryz.prog 76 #[.pointer (some ⟨k, 0, none⟩), .agg #[v]] W fun e w' => e = .returned (.string (s.near ns).1) ∧ SRX w' k B (s.near ns).2 ∧ Tch k W w' := by
 have HS : Hid (SRX W k B s) := h
 have hk1 := h.kB
 have hk2 := h.lt
 have BA : Hid (Below W.heap.size W (W.alloc (.cells #[v] 25))) := (Below.refl _ _).alloc (Nat.le_refl _) _
 have S0 : Hid (SRX (W.alloc (.cells #[v] 25)) k B s) := h.keep (BA.out.mono hk2)
 have T0 : Hid (Tch k W (W.alloc (.cells #[v] 25))) := Tch.of BA.out
 have HC0 : Hid ((W.alloc (.cells #[v] 25)).cell? ⟨W.heap.size, 0, none⟩ = some v) := by
  show _ = _
  simp
 have HO : Hid (RdN W v ns) := ho
 have hsz : (W.alloc (.cells #[v] 25)).heap.size = W.heap.size + 1 := by simp
 obtain ⟨res, hres⟩ : ∃ res, res = s.near ns := ⟨_, rfl⟩
 have HRES : Hid (s.near ns = res) := hres.symm
 rw [← hres]
 clear h hres
 by_cases hz : ns.length = 0
 · have hns : ns = [] := List.eq_nil_of_length_eq_zero hz
   subst hns
   obtain ⟨ao, ca, rfl, -⟩ := ho
   all_goals
    clear HO hlo
    have HP : Hid ((⟨s.path.1.toArray⟩, s.path.2) = res) := HRES.out
    clear HRES
    go_enter Tryz.func76, Tryz.ntmps76
    have c0 := HC0.out
    go_wp2_with fail
    generalize W.alloc _ = w0 at *
    refine (path_x w0 k B s S0.out).mono ?_
    rintro e w1 ⟨rfl, s1, t1⟩
    have F : Hid (SRX w1 k B s.path.2 ∧ Tch k W w1) := ⟨s1, T0.out.trans t1⟩
    clear s1 t1
    go_wp2
    go_ret
    rw [← HP.out]
    exact ⟨rfl, F.out.1, F.out.2⟩
 obtain ⟨g, go, ca, rfl, hgW, HCL⟩ : ∃ g go ca, v = .slice (some ⟨g, go, none⟩) ns.length ca ∧ g < W.heap.size ∧ Hid (∀ i, i < ns.length → CellsN W g (go + i * 7) (nAt ns i)) := by
  obtain ⟨ao, ca, rfl, -, -, h3⟩ := ho
  rcases h3 with h3 | ⟨b, off, rfl, hlt, hc⟩
  · rw [h3] at hz; simp at hz
  · exact ⟨b, off, ca, rfl, hlt, hc⟩
 have hgk : g ≠ k := hlo g go _ _ rfl
 have hzI : ¬ (ns.length : Int) = 0 := by omega
 have hzb : ((ns.length : Int) == 0) = false := beq_eq_false_iff_ne.2 hzI
 clear ho
 have HRS : Hid ((if ((s.next ns.length).2.next 2).1 = 0 then ((nAt ns (s.next ns.length).1).path, ((s.next ns.length).2.next 2).2)
  else ((if (nAt ns (s.next ns.length).1).path.toList == [47] then ⟨#[]⟩ else (nAt ns (s.next ns.length).1).path) ++ ⟨#[47]⟩ ++ ⟨#[UInt8.ofNat (97 + (((s.next ns.length).2.next 2).2.next 4).1)]⟩, (((s.next ns.length).2.next 2).2.next 4).2)) = res) := by
  have := HRES.out
  unfold Sr.near at this
  rw [if_neg hz] at this
  exact this
 clear HRES
 have HKEEP : Hid (∀ W', Tch k W W' → W'.heap[W.heap.size]? = (W.alloc (.cells #[.slice (some ⟨g, go, none⟩) ns.length ca] 25)).heap[W.heap.size]? → W'.cell? ⟨W.heap.size, 0, none⟩ = some (.slice (some ⟨g, go, none⟩) ns.length ca) ∧ ∀ i, i < ns.length → W'.cell? ⟨g, go + i * 7, none⟩ = some (.string (nAt ns i).path)) := by
  intro W' t hh
  refine ⟨(World.cell?_of_block (w := W.alloc _) (a := ⟨W.heap.size, 0, none⟩) hh).trans HC0.out, fun i hi => ?_⟩
  exact (World.cell?_of_block (w := W) (a := ⟨g, go + i * 7, none⟩) (t.2 g hgk hgW)).trans (HCL.out i hi).1
 have c0 := HC0.out
 go_enter Tryz.func76, Tryz.ntmps76
 go_wp2_with fail
 have hh0 : Hid ((W.alloc (.cells #[.slice (some ⟨g, go, none⟩) ns.length ca] 25)).heap[W.heap.size]? = (W.alloc (.cells #[.slice (some ⟨g, go, none⟩) ns.length ca] 25)).heap[W.heap.size]?) := rfl
 have HKP : Hid (∀ W', Tch k (W.alloc (.cells #[.slice (some ⟨g, go, none⟩) ns.length ca] 25)) W' → W'.cell? ⟨W.heap.size, 0, none⟩ = some (.slice (some ⟨g, go, none⟩) ns.length ca) ∧ ∀ i, i < ns.length → W'.cell? ⟨g, go + i * 7, none⟩ = some (.string (nAt ns i).path)) := fun W' t => HKEEP.out W' (T0.out.trans t) (t.2 _ (by omega) (by rw [hsz]; omega))
 clear HKEEP hh0 c0 HC0 HS HO BA
 generalize W.alloc (.cells #[.slice (some ⟨g, go, none⟩) ns.length ca] 25) = w0 at *
 have hS0 := HKP.out w0.drew (Tch.of (below_drewN' w0 1))
 have SP : Hid (SRX w0.drew k B s) := S0.out.keep ((below_drewN' w0 1).mono S0.out.lt)
 have TP : Hid (Tch k w0 w0.drew) := Tch.of (below_drewN' w0 1)
 refine wp_region_held_drew (S := fun w9 => w9.cell? ⟨W.heap.size, 0, none⟩ = some (.slice (some ⟨g, go, none⟩) ns.length ca) ∧ ∀ i, i < ns.length → w9.cell? ⟨g, go + i * 7, none⟩ = some (.string (nAt ns i).path)) (by kernel_rfl) (hS0) (fun hHeld => ?_)
 clear hS0
 generalize w0.drew = w0d at *
 refine tkL9 (i := 0) (oi := ⟨some 12, _, _, _, _, _⟩) (v := ?v1) rfl (by kernel_rfl) (fun _ _ _ h => h) (by rfl) (by assumption) ?hy1 ?_
 case hy1 => intro w9 hS9; obtain ⟨hq0, hq1⟩ := hS9; go_simp; try with_reducible rfl
 try simp only [Act.put, sT9, sZ9, sS9]
 refine tkL9 (i := 1) (oi := ⟨some 13, _, _, _, _, _⟩) (v := (.slice (some ⟨g, go, none⟩) ns.length ca)) rfl (by kernel_rfl) (fun _ _ _ h => h) (by rfl) (by assumption) ?hy2 ?_
 case hy2 => intro w9 hS9; obtain ⟨hq0, hq1⟩ := hS9; go_simp; try with_reducible rfl
 try simp only [Act.put, sT9, sZ9, sS9]
 refine tkL9 (i := 2) (oi := ⟨some 14, _, _, _, _, _⟩) (v := ?v3) rfl (by kernel_rfl) (fun _ _ _ h => h) (by rfl) (by assumption) ?hy3 ?_
 case hy3 => intro w9 hS9; obtain ⟨hq0, hq1⟩ := hS9; go_simp; try with_reducible rfl
 try simp only [Act.put, sT9, sZ9, sS9]
 refine tkL9 (i := 3) (oi := ⟨some 15, _, _, _, _, _⟩) (v := ?v4) rfl (by kernel_rfl) (fun _ _ _ h => h) (by rfl) (by assumption) ?hy4 ?_
 case hy4 => intro w9 hS9; obtain ⟨hq0, hq1⟩ := hS9; go_simp; try with_reducible rfl
 try simp only [Act.put, sT9, sZ9, sS9]
 refine tkL9 (i := 4) (oi := ⟨some 16, _, _, _, _, _⟩) (v := (.slice (some ⟨g, go, none⟩) ns.length ca)) rfl (by kernel_rfl) (fun _ _ _ h => h) (by rfl) (by assumption) ?hy5 ?_
 case hy5 => intro w9 hS9; obtain ⟨hq0, hq1⟩ := hS9; go_simp; try with_reducible rfl
 try simp only [Act.put, sT9, sZ9, sS9]
 refine tkL9 (i := 5) (oi := ⟨some 17, _, _, _, _, _⟩) (v := ?v6) rfl (by kernel_rfl) (fun _ _ _ h => h) (by rfl) (by assumption) ?hy6 ?_
 case hy6 => intro w9 hS9; obtain ⟨hq0, hq1⟩ := hS9; go_simp; try with_reducible rfl
 try simp only [Act.put, sT9, sZ9, sS9]
 refine wpAnyH_ready (rs := [6]) (by kernel_rfl) (by simp) ?_
 refine AllReadyH.cons (o := ⟨some 18, _, _, _, _, _⟩) rfl (fun K hK => ?_) AllReadyH.nil
 go_simp
 refine (next_x _ k B ns.length s SP.out (by omega)).mono ?_
 rintro e w1 ⟨rfl, s1, t1⟩
 have hn1 := s.next_lt ns.length (by omega)
 have hn1I : ((s.next ns.length).1 : Int) < (ns.length : Int) := by omega
 generalize hX1 : (s.next ns.length).1 = n1 at *
 have S1 : Hid (SRX w1 k B (s.next ns.length).2) := s1
 have T1 := hd9 (TP.out.trans t1)
 have hSn := HKP.out _ (TP.out.trans t1)
 clear s1 t1 SP TP
 refine hK.out _ _ (hSn) (fun hx9 => ?_)
 clear hK K hHeld
 have hHeld := hx9
 clear hx9
 try simp only [Act.put, sT9, sZ9, sS9]
 refine tkL9 (i := 7) (oi := ⟨some 19, _, _, _, _, _⟩) (v := (.pointer (some ⟨g, go + n1 * 7, none⟩))) rfl (by kernel_rfl) (fun _ _ _ h => h) (by rfl) (by assumption) ?hy7 ?_
 case hy7 =>
  intro w9 hS9
  obtain ⟨hq0, hq1⟩ := hS9
  have hqa := hq1 n1 hn1
  go_simp
  try with_reducible rfl
 try simp only [Act.put, sT9, sZ9, sS9]
 refine tkL9 (i := 8) (oi := ⟨some 20, _, _, _, _, _⟩) (v := (.pointer (some ⟨g, go + n1 * 7, none⟩))) rfl (by kernel_rfl) (fun _ _ _ h => h) (by rfl) (by assumption) ?hy8 ?_
 case hy8 =>
  intro w9 hS9
  obtain ⟨hq0, hq1⟩ := hS9
  have hqa := hq1 n1 hn1
  go_simp
  try with_reducible rfl
 try simp only [Act.put, sT9, sZ9, sS9]
 refine tkL9 (i := 9) (oi := ⟨some 21, _, _, _, _, _⟩) (v := (.string (nAt ns n1).path)) rfl (by kernel_rfl) (fun _ _ _ h => h) (by rfl) (by assumption) ?hy9 ?_
 case hy9 =>
  intro w9 hS9
  obtain ⟨hq0, hq1⟩ := hS9
  have hqa := hq1 n1 hn1
  go_simp
  try with_reducible rfl
 try simp only [Act.put, sT9, sZ9, sS9]
 refine tkL9 (i := 10) (oi := ⟨some 5, _, _, _, _, _⟩) (v := ?v10) rfl (by kernel_rfl) (fun _ _ _ h => h) (by rfl) (by assumption) ?hy10 ?_
 case hy10 => intro w9 hS9; obtain ⟨hq0, hq1⟩ := hS9; go_simp; try with_reducible rfl
 try simp only [Act.put, sT9, sZ9, sS9]
 refine wpAnyH_done (by kernel_rfl) ?_ _
 clear hHeld hSn
 try simp only [Act.put, sT9, sZ9, sS9]
 have HR1 : Hid ((if ((s.next ns.length).2.next 2).1 = 0 then ((nAt ns n1).path, ((s.next ns.length).2.next 2).2)
  else ((if (nAt ns n1).path.toList == [47] then ⟨#[]⟩ else (nAt ns n1).path) ++ ⟨#[47]⟩ ++ ⟨#[UInt8.ofNat (97 + (((s.next ns.length).2.next 2).2.next 4).1)]⟩, (((s.next ns.length).2.next 2).2.next 4).2)) = res) := by
  exact HRS.out
 clear HRS hX1 HKP
 generalize (s.next ns.length).2 = r1 at *
 have hp9 : (nAt ns n1).path.size ≤ 1000 := hps n1 hn1
 clear hps
 generalize (nAt ns n1).path = p at *
 go_wp2_with fail
 refine (next_x _ k B 2 r1 S1.out (by omega)).mono ?_
 rintro e w2 ⟨rfl, s2, t2⟩
 have hn2 := r1.next_lt 2 (by omega)
 generalize (r1.next 2).2 = r2 at *
 generalize (r1.next 2).1 = n2 at *
 have S2 : Hid (SRX w2 k B r2) := s2
 have T2 := hd9 (T1.out.trans t2)
 clear s2 t2 S1 T1
 by_cases h0 : n2 = 0
 · subst h0
   rw [if_pos rfl] at HR1
   go_wp2
   go_ret
   rw [← HR1.out]
   exact ⟨rfl, S2.out, T0.out.trans T2.out⟩
 rw [if_neg h0] at HR1
 have h0b : ((n2 : Int) == 0) = false := beq_eq_false_iff_ne.2 (by omega)
 have HC : Hid (∀ (W : World) (m3 : Nat), (convert 22 9 (.slice (some ⟨W.heap.size, 0, none⟩) 1 1)).run Tryz.prog (W.alloc (.cells #[.int .u8 (97 + (m3 : Int))] 5)) = .ok (.string ⟨[UInt8.ofNat (97 + m3)].toArray⟩) (W.alloc (.cells #[.int .u8 (97 + (m3 : Int))] 5))) := by
  intro W m3
  have := conv_any (rd_one W (97 + m3))
  rw [strOf_one] at this
  rw [show (97 : Int) + (m3 : Int) = ((97 + m3 : Nat) : Int) by omega]
  exact this
 have HF : Hid (∀ (w3 : World) (m3 : Nat), Tch k w0 w3 → SRX w3 k B (r2.next 4).2 → SRX (w3.alloc (.cells #[.int .u8 (97 + (m3 : Int))] 5)) k B (r2.next 4).2 ∧ Tch k W (w3.alloc (.cells #[.int .u8 (97 + (m3 : Int))] 5))) := by
  intro w3 m3 t3 s3
  have bA : Below w3.heap.size w3 (w3.alloc (.cells #[.int .u8 (97 + (m3 : Int))] 5)) := (Below.refl _ _).alloc (Nat.le_refl _) _
  exact ⟨s3.keep (bA.mono s3.lt), (T0.out.trans t3).trans (Tch.of bA)⟩
 cases hp : (p.toList == [47]) with
 | true =>
  rw [hp, if_pos rfl] at HR1
  go_wp2_with fail
  refine (next_x _ k B 4 r2 S2.out (by omega)).mono ?_
  rintro e w3 ⟨rfl, s3, t3⟩
  have hn3 := r2.next_lt 4 (by omega)
  have F := HF.out w3 (r2.next 4).1 (T2.out.trans t3) s3
  have hcv := HC.out w3 (r2.next 4).1
  have HFF : Hid (SRX (w3.alloc (.cells #[.int .u8 (97 + ((r2.next 4).1 : Int))] 5)) k B (r2.next 4).2 ∧ Tch k W (w3.alloc (.cells #[.int .u8 (97 + ((r2.next 4).1 : Int))] 5))) := F
  clear F HF HC S2 T2 s3 t3
  generalize (r2.next 4).2 = r3 at *
  generalize (r2.next 4).1 = m3 at *
  go_wp2
  go_ret
  rw [← HR1.out]
  exact ⟨by rw [UInt8.ofNat_add]; rfl, HFF.out.1, HFF.out.2⟩
 | false =>
  rw [hp, if_neg (by simp)] at HR1
  go_wp2_with fail
  refine (next_x _ k B 4 r2 S2.out (by omega)).mono ?_
  rintro e w3 ⟨rfl, s3, t3⟩
  have hn3 := r2.next_lt 4 (by omega)
  have F := HF.out w3 (r2.next 4).1 (T2.out.trans t3) s3
  have hcv := HC.out w3 (r2.next 4).1
  have HFF : Hid (SRX (w3.alloc (.cells #[.int .u8 (97 + ((r2.next 4).1 : Int))] 5)) k B (r2.next 4).2 ∧ Tch k W (w3.alloc (.cells #[.int .u8 (97 + ((r2.next 4).1 : Int))] 5))) := F
  clear F HF HC S2 T2 s3 t3
  generalize (r2.next 4).2 = r3 at *
  generalize (r2.next 4).1 = m3 at *
  go_wp2
  go_ret
  rw [← HR1.out]
  exact ⟨by rw [UInt8.ofNat_add]; rfl, HFF.out.1, HFF.out.2⟩
theorem near_x (W : World) (k B lo : Nat) (s : Sr) (v : Value) (ns : List Nd) (h : SRX W k B s) (ho : OwnN 85 W lo v ns) (hlo : k < lo) (hn : ns.length ≤ 1000000) (hps : ∀ i, i < ns.length → (nAt ns i).path.size ≤ 1000) :
    Calls Tryz.prog 76 #[.pointer (some ⟨k, 0, none⟩), .agg #[v]] W fun e w' => e = .returned (.string (s.near ns).1) ∧ SRX w' k B (s.near ns).2 ∧ Tch k W w' := near_k W k B s v ns h ho.rd (OwnN.offK ho hlo) hn hps
def Sr.data (s : Sr) : ByteArray × Sr :=
 if (s.next 8).1 = 0 then (⟨#[]⟩, (s.next 8).2)
 else if (s.next 8).1 = 1 then (strOfNums ((s.next 8).2.bytes 64).1, ((s.next 8).2.bytes 64).2)
 else (strOfNums (((s.next 8).2.next 4).2.bytes (1 + ((s.next 8).2.next 4).1)).1, (((s.next 8).2.next 4).2.bytes (1 + ((s.next 8).2.next 4).1)).2)
theorem Sr.data_len (s : Sr) : s.data.1.size ≤ 64 := by
 unfold Sr.data
 split
 · exact Nat.zero_le _
 · split
   · rw [strOfNums_size, Sr.bytes_len]; exact Nat.le_refl _
   · rw [strOfNums_size, Sr.bytes_len]
     have := (s.next 8).2.next_lt 4 (by omega)
     omega
theorem data_x (W : World) (k B : Nat) (s : Sr) (h : SRX W k B s) :
    Calls Tryz.prog 131 #[.pointer (some ⟨k, 0, none⟩)] W fun e w' => e = .returned (.string s.data.1) ∧ SRX w' k B s.data.2 ∧ Tch k W w' := by
 have HS : Hid (SRX W k B s) := h
 obtain ⟨res, hres⟩ : ∃ res, res = s.data := ⟨_, rfl⟩
 have HR : Hid ((if (s.next 8).1 = 0 then (⟨#[]⟩, (s.next 8).2)
  else if (s.next 8).1 = 1 then (strOfNums ((s.next 8).2.bytes 64).1, ((s.next 8).2.bytes 64).2)
  else (strOfNums (((s.next 8).2.next 4).2.bytes (1 + ((s.next 8).2.next 4).1)).1, (((s.next 8).2.next 4).2.bytes (1 + ((s.next 8).2.next 4).1)).2)) = res) := hres.symm
 rw [← hres]
 clear h hres
 go_enter Tryz.func131, Tryz.ntmps131
 go_wp2_with fail
 refine (next_x _ k B 8 s HS.out (by omega)).mono ?_
 rintro e w1 ⟨rfl, s1, t1⟩
 have hn1 := s.next_lt 8 (by omega)
 generalize (s.next 8).2 = r1 at *
 generalize (s.next 8).1 = n1 at *
 have S1 : Hid (SRX w1 k B r1) := s1
 have T1 : Hid (Tch k W w1) := t1
 clear s1 t1 HS
 by_cases h0 : n1 = 0
 · subst h0
   rw [if_pos rfl] at HR
   go_wp2
   go_ret
   rw [← HR.out]
   exact ⟨rfl, S1.out, T1.out⟩
 rw [if_neg h0] at HR
 have h0b : ((n1 : Int) == 0) = false := beq_eq_false_iff_ne.2 (by omega)
 by_cases h1 : n1 = 1
 · subst h1
   rw [if_pos rfl] at HR
   have CB := bytes_x w1 k B 64 r1 S1.out (by omega)
   generalize r1.bytes 64 = q at *
   go_wp2_with fail
   refine CB.mono ?_
   rintro e w2 ⟨v2, rfl, o2, s2, t2⟩
   clear CB
   have hcv := conv_any o2.rd
   obtain ⟨a2, c2, rfl, -⟩ := o2.rd.len
   have F : Hid (SRX w2 k B q.2 ∧ Tch k W w2) := ⟨s2, T1.out.trans t2⟩
   clear o2 s2 t2 S1 T1
   go_wp2
   go_ret
   rw [← HR.out]
   exact ⟨rfl, F.out.1, F.out.2⟩
 rw [if_neg h1] at HR
 have h1b : ((n1 : Int) == 1) = false := beq_eq_false_iff_ne.2 (by omega)
 go_wp2_with fail
 refine (next_x _ k B 4 r1 S1.out (by omega)).mono ?_
 rintro e w2 ⟨rfl, s2, t2⟩
 have hn2 := r1.next_lt 4 (by omega)
 generalize (r1.next 4).2 = r2 at *
 generalize (r1.next 4).1 = n2 at *
 have S2 : Hid (SRX w2 k B r2) := s2
 have T2 := hd9 (T1.out.trans t2)
 clear s2 t2 S1 T1
 go_wp2_with fail
 rw [show (1 : Int) + (n2 : Int) = ((1 + n2 : Nat) : Int) by omega]
 have CB := bytes_x w2 k B (1 + n2) r2 S2.out (by omega)
 generalize r2.bytes (1 + n2) = q at *
 refine CB.mono ?_
 rintro e w3 ⟨v3, rfl, o3, s3, t3⟩
 clear CB
 have hcv := conv_any o3.rd
 obtain ⟨a3, c3, rfl, -⟩ := o3.rd.len
 have F : Hid (SRX w3 k B q.2 ∧ Tch k W w3) := ⟨s3, T2.out.trans t3⟩
 clear o3 s3 t3 S2 T2
 go_wp2
 go_ret
 rw [← HR.out]
 exact ⟨rfl, F.out.1, F.out.2⟩
end Go.Proofs.YtcopcegamadkgaaGreatDoor


