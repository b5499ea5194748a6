import Derived.Test.YtejhcebodlcloaaGreatDoorJ04
namespace Go.Proofs.YtejhcebodlcloaaGreatDoor
open Go.RowKit

def okS (v : Int) : Bool := decide (0 ≤ v) && decide (v ≤ 2147483647)
def okNd (n : Nd) : Bool := okPath n.path && decide (n.data.size ≤ 64) && okS n.ver && okS n.cver && okS n.cz && okS n.mz && okS n.pz

set_option maxHeartbeats 400000 in
theorem stat_any (w : World) (v : Int) : Calls Tryz.prog 79 #[.int .i64 v] w fun e w' => e = .returned (.bool (okS v)) ∧ w' = w := by
  by_cases h1 : 0 ≤ v
  · by_cases h2 : v ≤ 2147483647
    · have HO : Hid (okS v = true) := by show _ = _; unfold okS; rw [decide_eq_true h1, decide_eq_true h2]; rfl
      go_enter Tryz.func79, Tryz.ntmps79
      go_wp2
      go_ret
      exact ⟨ret_b HO.out.symm, rfl⟩
    · have HO : Hid (okS v = false) := by show _ = _; unfold okS; rw [decide_eq_false h2]; simp
      go_enter Tryz.func79, Tryz.ntmps79
      go_wp2
      go_ret
      exact ⟨ret_b HO.out.symm, rfl⟩
  · have HO : Hid (okS v = false) := by show _ = _; unfold okS; rw [decide_eq_false h1]; rfl
    go_enter Tryz.func79, Tryz.ntmps79
    go_wp2
    go_ret
    exact ⟨ret_b HO.out.symm, rfl⟩

set_option maxHeartbeats 400000 in
theorem istat_any (w : World) (v : Int) : Calls Tryz.prog 69 #[.int .i64 v] w fun e w' => e = .returned (.bool (okS v)) ∧ w' = w := by
  by_cases h1 : 0 ≤ v
  · by_cases h2 : v ≤ 2147483647
    · have HO : Hid (okS v = true) := by show _ = _; unfold okS; rw [decide_eq_true h1, decide_eq_true h2]; rfl
      go_enter Tryz.func69, Tryz.ntmps69
      go_wp2
      go_ret
      exact ⟨ret_b HO.out.symm, rfl⟩
    · have HO : Hid (okS v = false) := by show _ = _; unfold okS; rw [decide_eq_false h2]; simp
      go_enter Tryz.func69, Tryz.ntmps69
      go_wp2
      go_ret
      exact ⟨ret_b HO.out.symm, rfl⟩
  · have HO : Hid (okS v = false) := by show _ = _; unfold okS; rw [decide_eq_false h1]; rfl
    go_enter Tryz.func69, Tryz.ntmps69
    go_wp2
    go_ret
    exact ⟨ret_b HO.out.symm, rfl⟩

/-- A local node. -/
structure BoxN (w : World) (B : Nat) (n : Nd) : Prop where
  lt : B < w.heap.size
  c0 : w.cell? ⟨B, 0, none⟩ = some (.string n.path)
  c1 : w.cell? ⟨B, 1, none⟩ = some (.string n.data)
  c2 : w.cell? ⟨B, 2, none⟩ = some (.int .i64 n.ver)
  c3 : w.cell? ⟨B, 3, none⟩ = some (.int .i64 n.cver)
  c4 : w.cell? ⟨B, 4, none⟩ = some (.int .i64 n.cz)
  c5 : w.cell? ⟨B, 5, none⟩ = some (.int .i64 n.mz)
  c6 : w.cell? ⟨B, 6, none⟩ = some (.int .i64 n.pz)
theorem BoxN.new (w : World) (n : Nd) (t : TypeId) : BoxN (w.alloc (.cells #[.string n.path, .string n.data, .int .i64 n.ver, .int .i64 n.cver, .int .i64 n.cz, .int .i64 n.mz, .int .i64 n.pz] t)) w.heap.size n :=
  ⟨by simp, by simp, by simp, by simp, by simp, by simp, by simp, by simp⟩
theorem BoxN.below {w w' : World} {B : Nat} {n : Nd} (h : BoxN w B n) (hb : Below w.heap.size w w') : BoxN w' B n :=
  ⟨Nat.lt_of_lt_of_le h.lt hb.size, (hb.cell (p := ⟨B, _, none⟩) h.lt).trans h.c0, (hb.cell (p := ⟨B, _, none⟩) h.lt).trans h.c1, (hb.cell (p := ⟨B, _, none⟩) h.lt).trans h.c2, (hb.cell (p := ⟨B, _, none⟩) h.lt).trans h.c3,
   (hb.cell (p := ⟨B, _, none⟩) h.lt).trans h.c4, (hb.cell (p := ⟨B, _, none⟩) h.lt).trans h.c5, (hb.cell (p := ⟨B, _, none⟩) h.lt).trans h.c6⟩

set_option maxHeartbeats 2000000 in
set_option maxRecDepth 100000 in
theorem specNode_any (w : World) (n : Nd) (hp : n.path.size ≤ 1048576) (hd : n.data.size ≤ 1048576) :
    Calls Tryz.prog 65 #[.agg #[.string n.path, .string n.data, .int .i64 n.ver, .int .i64 n.cver, .int .i64 n.cz, .int .i64 n.mz, .int .i64 n.pz]] w fun e w' => e = .returned (.bool (okNd n)) ∧ Below w.heap.size w w' := by
  have X0 : Hid (BoxN (w.alloc (.cells #[.string n.path, .string n.data, .int .i64 n.ver, .int .i64 n.cver, .int .i64 n.cz, .int .i64 n.mz, .int .i64 n.pz] 70)) w.heap.size n) := BoxN.new _ _ _
  have B0 : Hid (Below w.heap.size w (w.alloc (.cells #[.string n.path, .string n.data, .int .i64 n.ver, .int .i64 n.cver, .int .i64 n.cz, .int .i64 n.mz, .int .i64 n.pz] 70))) := (Below.refl _ _).alloc (Nat.le_refl _) _
  go_enter Tryz.func65, Tryz.ntmps65
  go_wp2_with fail
  generalize w.alloc (.cells #[.string n.path, .string n.data, .int .i64 n.ver, .int .i64 n.cver, .int .i64 n.cz, .int .i64 n.mz, .int .i64 n.pz] 70) = w0 at *
  refine (specPath_any _ n.path hp).mono ?_
  rintro e w1 ⟨rfl, b1⟩
  have B1 := hd9 (B0.out.trans (b1.mono B0.out.size))
  obtain ⟨-, c0, c1, c2, c3, c4, c5, c6⟩ := X0.out.below b1
  clear b1 X0 B0
  cases hP : okPath n.path with
  | false =>
    have HO : Hid (okNd n = false) := by show _ = _; unfold okNd; rw [hP]; simp
    go_wp2
    go_ret
    exact ⟨ret_b HO.out.symm, B1.out⟩
  | true =>
    have HP := hd9 hP
    clear hP
    by_cases hD : 64 < n.data.size
    · have hDI : (64 : Int) < (n.data.size : Int) := by omega
      have HO : Hid (okNd n = false) := by show _ = _; unfold okNd; rw [decide_eq_false (show ¬ n.data.size ≤ 64 by omega)]; simp
      go_wp2
      go_ret
      exact ⟨ret_b HO.out.symm, B1.out⟩
    · have hDI : ¬ (64 : Int) < (n.data.size : Int) := by omega
      have HDD := hd9 (decide_eq_true (show n.data.size ≤ 64 by omega))
      go_wp2_with fail
      refine (stat_any _ n.ver).mono ?_
      rintro e w2 ⟨rfl, rfl⟩
      cases h_ver : okS n.ver with
      | false =>
        have HO : Hid (okNd n = false) := by show _ = _; unfold okNd; rw [h_ver]; simp
        go_wp2
        go_ret
        exact ⟨ret_b HO.out.symm, B1.out⟩
      | true =>
        have H_ver := hd9 h_ver
        clear h_ver
        go_wp2_with fail
        refine (stat_any _ n.cver).mono ?_
        rintro e w2 ⟨rfl, rfl⟩
        cases h_cver : okS n.cver with
        | false =>
          have HO : Hid (okNd n = false) := by show _ = _; unfold okNd; rw [h_cver]; simp
          go_wp2
          go_ret
          exact ⟨ret_b HO.out.symm, B1.out⟩
        | true =>
          have H_cver := hd9 h_cver
          clear h_cver
          go_wp2_with fail
          refine (stat_any _ n.cz).mono ?_
          rintro e w2 ⟨rfl, rfl⟩
          cases h_cz : okS n.cz with
          | false =>
            have HO : Hid (okNd n = false) := by show _ = _; unfold okNd; rw [h_cz]; simp
            go_wp2
            go_ret
            exact ⟨ret_b HO.out.symm, B1.out⟩
          | true =>
            have H_cz := hd9 h_cz
            clear h_cz
            go_wp2_with fail
            refine (stat_any _ n.mz).mono ?_
            rintro e w2 ⟨rfl, rfl⟩
            cases h_mz : okS n.mz with
            | false =>
              have HO : Hid (okNd n = false) := by show _ = _; unfold okNd; rw [h_mz]; simp
              go_wp2
              go_ret
              exact ⟨ret_b HO.out.symm, B1.out⟩
            | true =>
              have H_mz := hd9 h_mz
              clear h_mz
              go_wp2_with fail
              refine (stat_any _ n.pz).mono ?_
              rintro e w2 ⟨rfl, rfl⟩
              cases h_pz : okS n.pz with
              | false =>
                have HO : Hid (okNd n = false) := by show _ = _; unfold okNd; rw [h_pz]; simp
                go_wp2
                go_ret
                exact ⟨ret_b HO.out.symm, B1.out⟩
              | true =>
                have H_pz := hd9 h_pz
                clear h_pz
                have HO : Hid (okNd n = true) := by show _ = _; unfold okNd; rw [HP.out, HDD.out, H_ver.out, H_cver.out, H_cz.out, H_mz.out, H_pz.out]; rfl
                go_wp2
                go_ret
                exact ⟨ret_b HO.out.symm, B1.out⟩

set_option maxHeartbeats 2000000 in
set_option maxRecDepth 100000 in
theorem implNode_any (w : World) (n : Nd) (hd : n.data.size ≤ 1048576) :
    Calls Tryz.prog 55 #[.agg #[.string n.path, .string n.data, .int .i64 n.ver, .int .i64 n.cver, .int .i64 n.cz, .int .i64 n.mz, .int .i64 n.pz]] w fun e w' => e = .returned (.bool (okNd n)) ∧ Below w.heap.size w w' := by
  have X0 : Hid (BoxN (w.alloc (.cells #[.string n.path, .string n.data, .int .i64 n.ver, .int .i64 n.cver, .int .i64 n.cz, .int .i64 n.mz, .int .i64 n.pz] 70)) w.heap.size n) := BoxN.new _ _ _
  have B0 : Hid (Below w.heap.size w (w.alloc (.cells #[.string n.path, .string n.data, .int .i64 n.ver, .int .i64 n.cver, .int .i64 n.cz, .int .i64 n.mz, .int .i64 n.pz] 70))) := (Below.refl _ _).alloc (Nat.le_refl _) _
  go_enter Tryz.func55, Tryz.ntmps55
  go_wp2_with fail
  generalize w.alloc (.cells #[.string n.path, .string n.data, .int .i64 n.ver, .int .i64 n.cver, .int .i64 n.cz, .int .i64 n.mz, .int .i64 n.pz] 70) = w0 at *
  refine (implPath_any _ n.path).mono ?_
  rintro e w1 ⟨rfl, b1⟩
  have B1 := hd9 (B0.out.trans (b1.mono B0.out.size))
  obtain ⟨-, c0, c1, c2, c3, c4, c5, c6⟩ := X0.out.below b1
  clear b1 X0 B0
  cases hP : okPath n.path with
  | false =>
    have HO : Hid (okNd n = false) := by show _ = _; unfold okNd; rw [hP]; simp
    go_wp2
    go_ret
    exact ⟨ret_b HO.out.symm, B1.out⟩
  | true =>
    have HP := hd9 hP
    clear hP
    by_cases hD : 64 < n.data.size
    · have hDI : (64 : Int) < (n.data.size : Int) := by omega
      have HO : Hid (okNd n = false) := by show _ = _; unfold okNd; rw [decide_eq_false (show ¬ n.data.size ≤ 64 by omega)]; simp
      go_wp2
      go_ret
      exact ⟨ret_b HO.out.symm, B1.out⟩
    · have hDI : ¬ (64 : Int) < (n.data.size : Int) := by omega
      have HDD := hd9 (decide_eq_true (show n.data.size ≤ 64 by omega))
      go_wp2_with fail
      refine (istat_any _ n.ver).mono ?_
      rintro e w2 ⟨rfl, rfl⟩
      cases h_ver : okS n.ver with
      | false =>
        have HO : Hid (okNd n = false) := by show _ = _; unfold okNd; rw [h_ver]; simp
        go_wp2
        go_ret
        exact ⟨ret_b HO.out.symm, B1.out⟩
      | true =>
        have H_ver := hd9 h_ver
        clear h_ver
        go_wp2_with fail
        refine (istat_any _ n.cver).mono ?_
        rintro e w2 ⟨rfl, rfl⟩
        cases h_cver : okS n.cver with
        | false =>
          have HO : Hid (okNd n = false) := by show _ = _; unfold okNd; rw [h_cver]; simp
          go_wp2
          go_ret
          exact ⟨ret_b HO.out.symm, B1.out⟩
        | true =>
          have H_cver := hd9 h_cver
          clear h_cver
          go_wp2_with fail
          refine (istat_any _ n.cz).mono ?_
          rintro e w2 ⟨rfl, rfl⟩
          cases h_cz : okS n.cz with
          | false =>
            have HO : Hid (okNd n = false) := by show _ = _; unfold okNd; rw [h_cz]; simp
            go_wp2
            go_ret
            exact ⟨ret_b HO.out.symm, B1.out⟩
          | true =>
            have H_cz := hd9 h_cz
            clear h_cz
            go_wp2_with fail
            refine (istat_any _ n.mz).mono ?_
            rintro e w2 ⟨rfl, rfl⟩
            cases h_mz : okS n.mz with
            | false =>
              have HO : Hid (okNd n = false) := by show _ = _; unfold okNd; rw [h_mz]; simp
              go_wp2
              go_ret
              exact ⟨ret_b HO.out.symm, B1.out⟩
            | true =>
              have H_mz := hd9 h_mz
              clear h_mz
              go_wp2_with fail
              refine (istat_any _ n.pz).mono ?_
              rintro e w2 ⟨rfl, rfl⟩
              cases h_pz : okS n.pz with
              | false =>
                have HO : Hid (okNd n = false) := by show _ = _; unfold okNd; rw [h_pz]; simp
                go_wp2
                go_ret
                exact ⟨ret_b HO.out.symm, B1.out⟩
              | true =>
                have H_pz := hd9 h_pz
                clear h_pz
                have HO : Hid (okNd n = true) := by show _ = _; unfold okNd; rw [HP.out, HDD.out, H_ver.out, H_cver.out, H_cz.out, H_mz.out, H_pz.out]; rfl
                go_wp2
                go_ret
                exact ⟨ret_b HO.out.symm, B1.out⟩

end Go.Proofs.YtejhcebodlcloaaGreatDoor


