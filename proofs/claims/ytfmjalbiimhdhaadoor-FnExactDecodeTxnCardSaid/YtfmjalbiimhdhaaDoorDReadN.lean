import Derived.Test.YtfmjalbiimhdhaaDoorDText
import Derived.Test.YtfmjalbiimhdhaaDoorDNode
namespace Go.Proofs.YtfmjalbiimhdhaaDoor
open Go.RowKit

theorem Tryd.infoI : (Tryd.prog.info? 2).map (fun i => (i.zero, i.size, i.bytes)) = some (some (.int .i64 0), 1, 8) := by kernel_rfl
theorem below7 {w W : World} (h : Below w.heap.size w W) (v0 v1 v2 v3 v4 v5 v6 : Value) : Below w.heap.size w (((((((W.setCell ⟨w.heap.size, 0, none⟩ v0).setCell ⟨w.heap.size, 1, none⟩ v1).setCell ⟨w.heap.size, 2, none⟩ v2).setCell ⟨w.heap.size, 3, none⟩ v3).setCell ⟨w.heap.size, 4, none⟩ v4).setCell ⟨w.heap.size, 5, none⟩ v5).setCell ⟨w.heap.size, 6, none⟩ v6) := (((((((h.setCell (p := ⟨w.heap.size, 0, none⟩) (Nat.le_refl _) v0).setCell (p := ⟨w.heap.size, 1, none⟩) (Nat.le_refl _) v1).setCell (p := ⟨w.heap.size, 2, none⟩) (Nat.le_refl _) v2).setCell (p := ⟨w.heap.size, 3, none⟩) (Nat.le_refl _) v3).setCell (p := ⟨w.heap.size, 4, none⟩) (Nat.le_refl _) v4).setCell (p := ⟨w.heap.size, 5, none⟩) (Nat.le_refl _) v5).setCell (p := ⟨w.heap.size, 6, none⟩) (Nat.le_refl _) v6)
theorem keep7 {W : World} {B g : Nat} (hne : B ≠ g) (v0 v1 v2 v3 v4 v5 v6 : Value) (j : Nat) : World.cell? (World.drew (((((((W.setCell ⟨B, 0, none⟩ v0).setCell ⟨B, 1, none⟩ v1).setCell ⟨B, 2, none⟩ v2).setCell ⟨B, 3, none⟩ v3).setCell ⟨B, 4, none⟩ v4).setCell ⟨B, 5, none⟩ v5).setCell ⟨B, 6, none⟩ v6)) ⟨g, j, none⟩ = W.cell? ⟨g, j, none⟩ := by
  have e : ∀ (V : World) (a : Addr), V.drew.cell? a = V.cell? a := fun _ _ => rfl
  rw [e]
  iterate 7 rw [World.cell?_setCell_other _ _ _ _ (by intro e; injection e with e; omega)]
theorem own_fullI {e : TypeId} {w : World} {base : Nat} {v : Value} {xs : List Int} (h : Own .i64 e w base v xs) (hn : 0 < xs.length) : ∃ g c, v = .slice (some ⟨g, 0, none⟩) xs.length c := by
  rcases h.2 with ⟨-, h0⟩ | ⟨g, cap, cur, rfl, -⟩
  · omega
  · exact ⟨g, cap, rfl⟩
def numsL (R : List Int) (k : Nat) : List Int := (List.range k).map (num4 R)
theorem numsL_len (R : List Int) (k : Nat) : (numsL R k).length = k := by simp [numsL]
theorem numsL_succ (R : List Int) (k : Nat) : numsL R k ++ [num4 R k] = numsL R (k + 1) := by simp [numsL, List.range_succ]
/-- What spec.l4ReadNode answers. -/
def RnPost (w : World) (ys : List Int) (p : Nat) (e : Ending) (w' : World) : Prop :=
  Below w.heap.size w w' ∧ ((rdNd (ys.drop p) = none ∧ e = .returned (.tuple #[ndV nd0, .int .i64 (-1)])) ∨ ∃ n q, rdNd (ys.drop p) = some (n, ys.drop q) ∧ p < q ∧ q ≤ ys.length ∧ e = .returned (.tuple #[ndV n, .int .i64 (q : Int)]))
theorem NB.belowM {W W' : World} {B m : Nat} {n : Nd} (h : NB W B n) (hb : Below m W W') (hl : B < m) : NB W' B n := by
  refine ⟨⟨Nat.lt_of_lt_of_le h.1.lt hb.size, (hb.cell (p := ⟨B, _, none⟩) hl).trans h.1.c0, (hb.cell (p := ⟨B, _, none⟩) hl).trans h.1.c1, (hb.cell (p := ⟨B, _, none⟩) hl).trans h.1.c2, (hb.cell (p := ⟨B, _, none⟩) hl).trans h.1.c3, (hb.cell (p := ⟨B, _, none⟩) hl).trans h.1.c4, (hb.cell (p := ⟨B, _, none⟩) hl).trans h.1.c5, (hb.cell (p := ⟨B, _, none⟩) hl).trans h.1.c6⟩, fun j => ?_⟩
  rw [hb.frozen (p := ⟨B, j, none⟩) hl]; exact h.2 j

set_option maxHeartbeats 4000000 in
set_option maxRecDepth 100000 in
theorem rN_any (w : World) (v : Value) (ys : List Int) (p : Nat) (h : Rd .u8 w v ys) (hby : Byt ys) (hl : ys.length ≤ 1048576) :
    Calls Tryd.prog 61 #[v, .int .i64 p] w fun e w' => RnPost w ys p e w' := by
  obtain ⟨i0, hi, hz0, hz1, hz2⟩ := info_parts Tryd.infoI
  obtain ⟨ao, cap, rfl, hcc, hcm⟩ := h.len
  have HR : Hid (Rd .u8 w (.slice ao ys.length cap) ys) := h
  have HBY : Hid (Byt ys) := hby
  have B0 : Hid (Below w.heap.size w (w.alloc (.cells #[.string ⟨#[]⟩, .string ⟨#[]⟩, .int .i64 0, .int .i64 0, .int .i64 0, .int .i64 0, .int .i64 0] 74))) := (Below.refl _ _).alloc (Nat.le_refl _) _
  have N0 : Hid (NB (w.alloc (.cells #[.string ⟨#[]⟩, .string ⟨#[]⟩, .int .i64 0, .int .i64 0, .int .i64 0, .int .i64 0, .int .i64 0] 74)) w.heap.size nd0) := NB.new w nd0 _
  clear h hby
  go_enter Tryd.func61, Tryd.ntmps61
  go_wp2_with fail
  generalize w.alloc (.cells #[.string ⟨#[]⟩, .string ⟨#[]⟩, .int .i64 0, .int .i64 0, .int .i64 0, .int .i64 0, .int .i64 0] 74) = w0 at *
  refine (rT_any w0 _ ys p (HR.out.below B0.out) HBY.out hl).mono ?_
  rintro e w1 ⟨hp, hw1⟩
  obtain rfl : w0 = w1 := hw1.symm
  rcases hp with ⟨hp, rfl⟩ | ⟨s, q, hp, hlt, hle, rfl⟩
  · have HNO : Hid (rdNd (ys.drop p) = none) := by show _ = _; unfold rdNd; rw [hp]
    clear hp
    go_wp2_with fail
    refine (rT_neg w0 _).mono ?_
    rintro e w1 ⟨rfl, hw1⟩
    obtain rfl : w0 = w1 := hw1.symm
    obtain ⟨⟨-, x0, x1, x2, x3, x4, x5, x6⟩, xf⟩ := N0.out
    go_wp2
    refine bodyPost_ret (v := .tuple #[ndV nd0, .int .i64 (-1)]) (by simp [results, Tryd.results61, go_sem, ndV, nd0, x0, x1, x2, x3, x4, x5, x6]; rfl) rfl ⟨?_, .inl ⟨HNO.out, rfl⟩⟩
    exact below7 B0.out _ _ _ _ _ _ _
  have HP1 : Hid (rdT (ys.drop p) = some (s, ys.drop q)) := hp
  clear hp
  go_wp2_with fail
  refine (rT_any w0 _ ys q (HR.out.below B0.out) HBY.out hl).mono ?_
  rintro e w1 ⟨hp, hw1⟩
  obtain rfl : w0 = w1 := hw1.symm
  rcases hp with ⟨hp, rfl⟩ | ⟨d, t, hp, hlt2, hle2, rfl⟩
  · have HNO : Hid (rdNd (ys.drop p) = none) := by show _ = _; unfold rdNd; rw [HP1.out]; simp only; rw [hp]
    clear hp
    obtain ⟨⟨-, x0, x1, x2, x3, x4, x5, x6⟩, xf⟩ := N0.out
    go_wp2
    refine bodyPost_ret (v := .tuple #[ndV nd0, .int .i64 (-1)]) (by simp [results, Tryd.results61, go_sem, ndV, nd0, x0, x1, x2, x3, x4, x5, x6]; rfl) rfl ⟨?_, .inl ⟨HNO.out, rfl⟩⟩
    exact below7 B0.out _ _ _ _ _ _ _
  have HP2 : Hid (rdT (ys.drop q) = some (d, ys.drop t)) := hp
  clear hp
  by_cases h20 : t + 20 ≤ ys.length
  rotate_left
  · have HNO : Hid (rdNd (ys.drop p) = none) := by show _ = _; unfold rdNd; rw [HP1.out]; simp only; rw [HP2.out]; simp only; rw [if_neg (by rw [List.length_drop]; omega)]
    have hI : (ys.length : Int) < (t : Int) + 20 := by omega
    obtain ⟨⟨-, x0, x1, x2, x3, x4, x5, x6⟩, xf⟩ := N0.out
    go_wp2
    refine bodyPost_ret (v := .tuple #[ndV nd0, .int .i64 (-1)]) (by simp [results, Tryd.results61, go_sem, ndV, nd0, x0, x1, x2, x3, x4, x5, x6]; rfl) rfl ⟨?_, .inl ⟨HNO.out, rfl⟩⟩
    exact below7 B0.out _ _ _ _ _ _ _
  have hI : ¬ (ys.length : Int) < (t : Int) + 20 := by omega
  obtain ⟨b, o, hao, hb, hc⟩ : ∃ b o, ao = some ⟨b, o, none⟩ ∧ b < w.heap.size ∧ ∀ i, i < ys.length → w.cell? ⟨b, o + i, none⟩ = some (.int .u8 (ys.getD i 0)) := by
    obtain ⟨ao', cap', e', -, -, h3⟩ := HR.out
    simp only [Value.slice.injEq] at e'
    obtain ⟨rfl, -, -⟩ := e'
    rcases h3 with h3 | ⟨b, o, rfl, hb, hc⟩
    · rw [h3] at h20; simp at h20
    · exact ⟨b, o, rfl, hb, hc⟩
  subst hao
  have HC : Hid (∀ i, i < ys.length → w.cell? ⟨b, o + i, none⟩ = some (.int .u8 (ys.getD i 0))) := hc
  clear hc
  obtain ⟨R, hR⟩ : ∃ R, R = ys.drop t := ⟨_, rfl⟩
  have HRR : Hid (R = ys.drop t) := hR
  clear hR
  have s0 : w.heap.size + 1 ≤ w0.heap.size := N0.out.1.lt
  have O0 : Hid (Own .i64 2 (w0.alloc (.cells #[] 2)) (w.heap.size + 1) (.slice (some ⟨w0.heap.size, 0, none⟩) 0 0) (numsL R 0)) := Own.mono (World.ownsRow_lit w0 #[] 0 (Nat.le_refl _) (Nat.zero_le _) rfl) s0
  have D0 : Hid (Below (w.heap.size + 1) w0 (w0.alloc (.cells #[] 2))) := (Below.refl _ _).alloc s0 _
  go_wp2
  go_loopw [10, 11] (fun vo vk wr => ∃ k : Nat, k ≤ 5 ∧ vk = .int .i64 k ∧ Hid (Own .i64 2 wr (w.heap.size + 1) vo (numsL R k)) ∧ Hid (Below (w.heap.size + 1) w0 wr)) (fun _ i _ => 5 - (intOf i).toNat)
  case atStart => exact ⟨0, by omega, rfl, O0, D0⟩
  case round =>
    obtain ⟨k, hk, rfl, HW, HD⟩ := hrel
    have sD : w.heap.size + 1 ≤ wr.heap.size := Nat.le_trans s0 HD.out.size
    by_cases hlt5 : k < 5
    · have hltI : (k : Int) < 5 := by omega
      have hq1 : t + 4 * k + 4 ≤ ys.length := by omega
      have hq2 : t + 4 * k < cap := by omega
      go_wp2_with fail
      have HN : Hid (num4 R k = ((numB ((ys.drop (t + 4 * k)).take 4) : Nat) : Int)) := by show _ = _; unfold num4; rw [HRR.out, List.drop_drop]
      refine (specNum_any _ b (o + (t + 4 * k)) 4 _ ((ys.drop (t + 4 * k)).take 4) ?n1 ?n2 ?n3 ?n4 (by omega)).mono ?_
      case n1 => rw [List.length_take, List.length_drop]; omega
      case n2 => exact fun x hx => HBY.out x (List.mem_of_mem_drop (List.mem_of_mem_take hx))
      case n3 =>
        intro i hi
        have := sub_cells HC.out (t + 4 * k) 4 hq1 i hi
        rw [HD.out.cell (p := ⟨b, o + (t + 4 * k) + i, none⟩) (by show b < _; omega), B0.out.cell (p := ⟨b, o + (t + 4 * k) + i, none⟩) hb]
        exact this
      case n4 => exact num_small (fun x hx => HBY.out x (List.mem_of_mem_drop (List.mem_of_mem_take hx))) (by rw [List.length_take]; omega)
      rintro e w2 ⟨rfl, q2, hw2⟩
      subst hw2
      rw [← HN.out]
      have OW : Hid ((wr.drewN q2).ownsRow (w.heap.size + 1) 2 1 u10 k ((numsL R k).map (Value.int .i64))) := by have := HW.out.drewN q2; unfold Own at this; rw [numsL_len] at this; exact this
      have D2 : Hid (Below (w.heap.size + 1) w0 (wr.drewN q2)) := HD.out.trans ((below_drewN' wr q2).mono sD)
      have s2 : w.heap.size + 1 ≤ (wr.drewN q2).heap.size := sD
      clear HN HW HD
      generalize wr.drewN q2 = w2 at *
      have HSU : Hid (numsL R k ++ [num4 R k] = numsL R (k + 1)) := numsL_succ R k
      generalize num4 R k = zk at *
      go_wp2_with (at_builtin; go_must (refine wpList_append_own _ rfl _ _ 127 rfl (w.heap.size + 1) 2 i0 (.int .i64 0) 1 8 Tryd.underlying127 hi hz0 hz1 hz2 rfl (by decide) _ _ _ rfl (OW.out.alloc _) ⟨w2.heap.size, 0, none⟩ 1 1 [.int .i64 zk] rfl rfl (cell_one_new _ _ _) (by intro u hu; simp at hu; subst hu; rfl) ?_ ?_ ?_ ?_))
      · unfold maxLen; omega
      · omega
      · simp; omega
      intro v3 w3 ho3 hg3 _
      have O3 : Hid (Own .i64 2 w3 (w.heap.size + 1) v3 (numsL R (k + 1))) := by
        refine own_of (q := k + 1) (ys := numsL R k ++ [zk]) (by rw [List.length_append, numsL_len]; rfl) HSU.out.symm ?_
        rw [List.map_append]; exact ho3
      have D3 : Hid (Below (w.heap.size + 1) w0 w3) := (D2.out.alloc s2 _).grown hg3 (by simp; omega) (fun q hq => (World.ownsRow.lt OW.out q hq).1)
      clear ho3 hg3 OW D2 HSU
      go_wp2
      exact ⟨⟨k + 1, by omega, by go_num, O3, D3⟩, by simp [intOf]; omega⟩
    · have hk5 : k = 5 := by omega
      subst hk5
      obtain ⟨g, c, hv⟩ := own_fullI HW.out (by rw [numsL_len]; omega)
      rw [numsL_len] at hv
      subst hv
      have CL : ∀ j, j < 5 → wr.cell? ⟨g, j, none⟩ = some (.int .i64 (num4 R j)) := by
        intro j hj
        have := World.ownsRow.cells HW.out (g := g) rfl j (.int .i64 (num4 R j)) (by simp [numsL, hj])
        rw [Addr.add_lit, Nat.zero_add] at this; exact this
      have hgl := (HW.out.lt g rfl).1
      have k0 := CL 0 (by omega)
      have k1 := CL 1 (by omega)
      have k2 := CL 2 (by omega)
      have k3 := CL 3 (by omega)
      have k4 := CL 4 (by omega)
      obtain ⟨⟨-, x0, x1, x2, x3, x4, x5, x6⟩, xf⟩ := N0.out.belowM HD.out (Nat.lt_succ_self _)
      have HYES : Hid (rdNd (ys.drop p) = some (⟨s, d, num4 R 0, num4 R 1, num4 R 2, num4 R 3, num4 R 4⟩, ys.drop (t + 20))) := by
        show _ = _
        unfold rdNd; rw [HP1.out]; simp only; rw [HP2.out]; simp only; rw [if_pos (by rw [List.length_drop]; omega), List.drop_drop, HRR.out]
      have HB : Hid (Below w.heap.size w wr) := B0.out.trans (HD.out.mono (Nat.le_succ _))
      have hwr : Hid (IntKind.i64.wrap ((t : Int) + 20) = (t : Int) + 20) := by show _ = _; rw [IntKind.wrap_i64]; omega
      clear CL
      generalize num4 R 0 = z0 at *
      generalize num4 R 1 = z1 at *
      generalize num4 R 2 = z2 at *
      generalize num4 R 3 = z3 at *
      generalize num4 R 4 = z4 at *
      go_wp2
      refine wp_region_held_drew (S := fun W => W.cell? ⟨g, 0, none⟩ = some (.int .i64 z0) ∧ W.cell? ⟨g, 1, none⟩ = some (.int .i64 z1) ∧ W.cell? ⟨g, 2, none⟩ = some (.int .i64 z2) ∧ W.cell? ⟨g, 3, none⟩ = some (.int .i64 z3) ∧ W.cell? ⟨g, 4, none⟩ = some (.int .i64 z4)) (by kernel_rfl) (⟨k0, k1, k2, k3, k4⟩) (fun hHeld => ?_)
      refine wpAnyH_take (i := 0) (oi := { dst := some 54, op := _, type := _, pos := _, after := _, guard := _ }) (v := (.string s)) rfl (by kernel_rfl) (by kernel_rfl) (by kernel_rfl) (fun _ _ _ h => h) (Or.inl ⟨by rfl, ?hy1⟩) (by assumption) ?rest1
      case hy1 =>
        intro w9 hS9
        obtain ⟨y0, y1, y2, y3, y4⟩ := hS9
        go_simp
        try with_reducible rfl
      try simp only [Act.put, List.setIfInBounds_toArray, List.set_cons_zero, List.set_cons_succ]
      refine wpAnyH_take (i := 1) (oi := { dst := some 55, op := _, type := _, pos := _, after := _, guard := _ }) (v := (.string d)) rfl (by kernel_rfl) (by kernel_rfl) (by kernel_rfl) (fun _ _ _ h => h) (Or.inl ⟨by rfl, ?hy2⟩) (by assumption) ?rest2
      case hy2 =>
        intro w9 hS9
        obtain ⟨y0, y1, y2, y3, y4⟩ := hS9
        go_simp
        try with_reducible rfl
      try simp only [Act.put, List.setIfInBounds_toArray, List.set_cons_zero, List.set_cons_succ]
      refine wpAnyH_take (i := 2) (oi := { dst := some 56, op := _, type := _, pos := _, after := _, guard := _ }) (v := (.slice (some ⟨g, 0, none⟩) 5 c)) rfl (by kernel_rfl) (by kernel_rfl) (by kernel_rfl) (fun _ _ _ h => h) (Or.inl ⟨by rfl, ?hy3⟩) (by assumption) ?rest3
      case hy3 =>
        intro w9 hS9
        obtain ⟨y0, y1, y2, y3, y4⟩ := hS9
        go_simp
        try with_reducible rfl
      try simp only [Act.put, List.setIfInBounds_toArray, List.set_cons_zero, List.set_cons_succ]
      refine wpAnyH_take (i := 3) (oi := { dst := some 57, op := _, type := _, pos := _, after := _, guard := _ }) (v := (.pointer (some ⟨g, 0, none⟩))) rfl (by kernel_rfl) (by kernel_rfl) (by kernel_rfl) (fun _ _ _ h => h) (Or.inl ⟨by rfl, ?hy4⟩) (by assumption) ?rest4
      case hy4 =>
        intro w9 hS9
        obtain ⟨y0, y1, y2, y3, y4⟩ := hS9
        go_simp
        try with_reducible rfl
      try simp only [Act.put, List.setIfInBounds_toArray, List.set_cons_zero, List.set_cons_succ]
      refine wpAnyH_take (i := 4) (oi := { dst := some 58, op := _, type := _, pos := _, after := _, guard := _ }) (v := (.int .i64 z0)) rfl (by kernel_rfl) (by kernel_rfl) (by kernel_rfl) (fun _ _ _ h => h) (Or.inl ⟨by rfl, ?hy5⟩) (by assumption) ?rest5
      case hy5 =>
        intro w9 hS9
        obtain ⟨y0, y1, y2, y3, y4⟩ := hS9
        go_simp
        try with_reducible rfl
      try simp only [Act.put, List.setIfInBounds_toArray, List.set_cons_zero, List.set_cons_succ]
      refine wpAnyH_take (i := 5) (oi := { dst := some 59, op := _, type := _, pos := _, after := _, guard := _ }) (v := (.slice (some ⟨g, 0, none⟩) 5 c)) rfl (by kernel_rfl) (by kernel_rfl) (by kernel_rfl) (fun _ _ _ h => h) (Or.inl ⟨by rfl, ?hy6⟩) (by assumption) ?rest6
      case hy6 =>
        intro w9 hS9
        obtain ⟨y0, y1, y2, y3, y4⟩ := hS9
        go_simp
        try with_reducible rfl
      try simp only [Act.put, List.setIfInBounds_toArray, List.set_cons_zero, List.set_cons_succ]
      refine wpAnyH_take (i := 6) (oi := { dst := some 60, op := _, type := _, pos := _, after := _, guard := _ }) (v := (.pointer (some ⟨g, 1, none⟩))) rfl (by kernel_rfl) (by kernel_rfl) (by kernel_rfl) (fun _ _ _ h => h) (Or.inl ⟨by rfl, ?hy7⟩) (by assumption) ?rest7
      case hy7 =>
        intro w9 hS9
        obtain ⟨y0, y1, y2, y3, y4⟩ := hS9
        go_simp
        try with_reducible rfl
      try simp only [Act.put, List.setIfInBounds_toArray, List.set_cons_zero, List.set_cons_succ]
      refine wpAnyH_take (i := 7) (oi := { dst := some 61, op := _, type := _, pos := _, after := _, guard := _ }) (v := (.int .i64 z1)) rfl (by kernel_rfl) (by kernel_rfl) (by kernel_rfl) (fun _ _ _ h => h) (Or.inl ⟨by rfl, ?hy8⟩) (by assumption) ?rest8
      case hy8 =>
        intro w9 hS9
        obtain ⟨y0, y1, y2, y3, y4⟩ := hS9
        go_simp
        try with_reducible rfl
      try simp only [Act.put, List.setIfInBounds_toArray, List.set_cons_zero, List.set_cons_succ]
      refine wpAnyH_take (i := 8) (oi := { dst := some 62, op := _, type := _, pos := _, after := _, guard := _ }) (v := (.slice (some ⟨g, 0, none⟩) 5 c)) rfl (by kernel_rfl) (by kernel_rfl) (by kernel_rfl) (fun _ _ _ h => h) (Or.inl ⟨by rfl, ?hy9⟩) (by assumption) ?rest9
      case hy9 =>
        intro w9 hS9
        obtain ⟨y0, y1, y2, y3, y4⟩ := hS9
        go_simp
        try with_reducible rfl
      try simp only [Act.put, List.setIfInBounds_toArray, List.set_cons_zero, List.set_cons_succ]
      refine wpAnyH_take (i := 9) (oi := { dst := some 63, op := _, type := _, pos := _, after := _, guard := _ }) (v := (.pointer (some ⟨g, 2, none⟩))) rfl (by kernel_rfl) (by kernel_rfl) (by kernel_rfl) (fun _ _ _ h => h) (Or.inl ⟨by rfl, ?hy10⟩) (by assumption) ?rest10
      case hy10 =>
        intro w9 hS9
        obtain ⟨y0, y1, y2, y3, y4⟩ := hS9
        go_simp
        try with_reducible rfl
      try simp only [Act.put, List.setIfInBounds_toArray, List.set_cons_zero, List.set_cons_succ]
      refine wpAnyH_take (i := 10) (oi := { dst := some 64, op := _, type := _, pos := _, after := _, guard := _ }) (v := (.int .i64 z2)) rfl (by kernel_rfl) (by kernel_rfl) (by kernel_rfl) (fun _ _ _ h => h) (Or.inl ⟨by rfl, ?hy11⟩) (by assumption) ?rest11
      case hy11 =>
        intro w9 hS9
        obtain ⟨y0, y1, y2, y3, y4⟩ := hS9
        go_simp
        try with_reducible rfl
      try simp only [Act.put, List.setIfInBounds_toArray, List.set_cons_zero, List.set_cons_succ]
      refine wpAnyH_take (i := 11) (oi := { dst := some 65, op := _, type := _, pos := _, after := _, guard := _ }) (v := (.slice (some ⟨g, 0, none⟩) 5 c)) rfl (by kernel_rfl) (by kernel_rfl) (by kernel_rfl) (fun _ _ _ h => h) (Or.inl ⟨by rfl, ?hy12⟩) (by assumption) ?rest12
      case hy12 =>
        intro w9 hS9
        obtain ⟨y0, y1, y2, y3, y4⟩ := hS9
        go_simp
        try with_reducible rfl
      try simp only [Act.put, List.setIfInBounds_toArray, List.set_cons_zero, List.set_cons_succ]
      refine wpAnyH_take (i := 12) (oi := { dst := some 66, op := _, type := _, pos := _, after := _, guard := _ }) (v := (.pointer (some ⟨g, 3, none⟩))) rfl (by kernel_rfl) (by kernel_rfl) (by kernel_rfl) (fun _ _ _ h => h) (Or.inl ⟨by rfl, ?hy13⟩) (by assumption) ?rest13
      case hy13 =>
        intro w9 hS9
        obtain ⟨y0, y1, y2, y3, y4⟩ := hS9
        go_simp
        try with_reducible rfl
      try simp only [Act.put, List.setIfInBounds_toArray, List.set_cons_zero, List.set_cons_succ]
      refine wpAnyH_take (i := 13) (oi := { dst := some 67, op := _, type := _, pos := _, after := _, guard := _ }) (v := (.int .i64 z3)) rfl (by kernel_rfl) (by kernel_rfl) (by kernel_rfl) (fun _ _ _ h => h) (Or.inl ⟨by rfl, ?hy14⟩) (by assumption) ?rest14
      case hy14 =>
        intro w9 hS9
        obtain ⟨y0, y1, y2, y3, y4⟩ := hS9
        go_simp
        try with_reducible rfl
      try simp only [Act.put, List.setIfInBounds_toArray, List.set_cons_zero, List.set_cons_succ]
      refine wpAnyH_take (i := 14) (oi := { dst := some 68, op := _, type := _, pos := _, after := _, guard := _ }) (v := (.slice (some ⟨g, 0, none⟩) 5 c)) rfl (by kernel_rfl) (by kernel_rfl) (by kernel_rfl) (fun _ _ _ h => h) (Or.inl ⟨by rfl, ?hy15⟩) (by assumption) ?rest15
      case hy15 =>
        intro w9 hS9
        obtain ⟨y0, y1, y2, y3, y4⟩ := hS9
        go_simp
        try with_reducible rfl
      try simp only [Act.put, List.setIfInBounds_toArray, List.set_cons_zero, List.set_cons_succ]
      refine wpAnyH_take (i := 15) (oi := { dst := some 69, op := _, type := _, pos := _, after := _, guard := _ }) (v := (.pointer (some ⟨g, 4, none⟩))) rfl (by kernel_rfl) (by kernel_rfl) (by kernel_rfl) (fun _ _ _ h => h) (Or.inl ⟨by rfl, ?hy16⟩) (by assumption) ?rest16
      case hy16 =>
        intro w9 hS9
        obtain ⟨y0, y1, y2, y3, y4⟩ := hS9
        go_simp
        try with_reducible rfl
      try simp only [Act.put, List.setIfInBounds_toArray, List.set_cons_zero, List.set_cons_succ]
      refine wpAnyH_take (i := 16) (oi := { dst := some 70, op := _, type := _, pos := _, after := _, guard := _ }) (v := (.int .i64 z4)) rfl (by kernel_rfl) (by kernel_rfl) (by kernel_rfl) (fun _ _ _ h => h) (Or.inl ⟨by rfl, ?hy17⟩) (by assumption) ?rest17
      case hy17 =>
        intro w9 hS9
        obtain ⟨y0, y1, y2, y3, y4⟩ := hS9
        go_simp
        try with_reducible rfl
      try simp only [Act.put, List.setIfInBounds_toArray, List.set_cons_zero, List.set_cons_succ]
      refine wpAnyH_take (i := 17) (oi := { dst := some 71, op := _, type := _, pos := _, after := _, guard := _ }) (v := (.agg #[.string s, .string d, .int .i64 z0, .int .i64 z1, .int .i64 z2, .int .i64 z3, .int .i64 z4])) rfl (by kernel_rfl) (by kernel_rfl) (by kernel_rfl) (fun _ _ _ h => h) (Or.inl ⟨by rfl, ?hy18⟩) (by assumption) ?rest18
      case hy18 =>
        intro w9 hS9
        obtain ⟨y0, y1, y2, y3, y4⟩ := hS9
        go_simp
        try with_reducible rfl
      try simp only [Act.put, List.setIfInBounds_toArray, List.set_cons_zero, List.set_cons_succ]
      refine wpAnyH_take (i := 18) (oi := { dst := some 72, op := _, type := _, pos := _, after := _, guard := _ }) (v := (.int .i64 (t : Int))) rfl (by kernel_rfl) (by kernel_rfl) (by kernel_rfl) (fun _ _ _ h => h) (Or.inl ⟨by rfl, ?hy19⟩) (by assumption) ?rest19
      case hy19 =>
        intro w9 hS9
        obtain ⟨y0, y1, y2, y3, y4⟩ := hS9
        go_simp
        try with_reducible rfl
      try simp only [Act.put, List.setIfInBounds_toArray, List.set_cons_zero, List.set_cons_succ]
      refine wpAnyH_take (i := 19) (oi := { dst := some 73, op := _, type := _, pos := _, after := _, guard := _ }) (v := (.int .i64 ((t : Int) + 20))) rfl (by kernel_rfl) (by kernel_rfl) (by kernel_rfl) (fun _ _ _ h => h) (Or.inl ⟨by rfl, ?hy20⟩) (by assumption) ?rest20
      case hy20 =>
        intro w9 hS9
        go_simp
        exact hwr.out
      try simp only [Act.put, List.setIfInBounds_toArray, List.set_cons_zero, List.set_cons_succ]
      refine wpAnyH_ready (rs := [20]) (by kernel_rfl) (by simp) ?_
      refine AllReadyH.cons (o := { dst := none, op := _, type := _, pos := _, after := _, guard := _ }) rfl (fun K hK => ?_) AllReadyH.nil
      go_simp
      refine hK.out _ _ ?sk (fun hx9 => ?_)
      case sk =>
        have hne : w.heap.size ≠ g := by omega
        exact ⟨(keep7 hne _ _ _ _ _ _ _ 0).trans k0, (keep7 hne _ _ _ _ _ _ _ 1).trans k1, (keep7 hne _ _ _ _ _ _ _ 2).trans k2, (keep7 hne _ _ _ _ _ _ _ 3).trans k3, (keep7 hne _ _ _ _ _ _ _ 4).trans k4⟩
      clear hK K hHeld
      have hHeld := hx9
      try simp only [Act.put, List.setIfInBounds_toArray, List.set_cons_zero, List.set_cons_succ]
      refine wpAnyH_take (i := 21) (oi := { dst := some 5, op := _, type := _, pos := _, after := _, guard := _ }) (v := (.int .i64 ((t : Int) + 20))) rfl (by kernel_rfl) (by kernel_rfl) (by kernel_rfl) (fun _ _ _ h => h) (Or.inl ⟨by rfl, ?hy21⟩) (by assumption) ?rest21
      case hy21 =>
        intro w9 hS9
        go_simp
        try with_reducible rfl
      try simp only [Act.put, List.setIfInBounds_toArray, List.set_cons_zero, List.set_cons_succ]
      refine wpAnyH_done (by kernel_rfl) ?_ _
      clear hHeld hx9
      go_wp2
      refine bodyPost_ret (v := .tuple #[ndV ⟨s, d, z0, z1, z2, z3, z4⟩, .int .i64 ((t + 20 : Nat) : Int)]) (by simp [results, Tryd.results61, go_sem, ndV, x0, x1, x2, x3, x4, x5, x6]) rfl ⟨?_, .inr ⟨_, t + 20, HYES.out, by omega, h20, rfl⟩⟩
      exact (below7 HB.out _ _ _ _ _ _ _).trans ((below_drewN' _ 1).mono (below7 HB.out _ _ _ _ _ _ _).size)

end Go.Proofs.YtfmjalbiimhdhaaDoor
