import Derived.Test.YtdiingonnddkcaaGreatDoorJ06
import Derived.Laws.Cover1
namespace Go.Proofs.YtdiingonnddkcaaGreatDoor
open Go.RowKit Go.Shelf

/-- A node put in its place, step by step. -/
def stW (n : Nd) (st : List Nd × Bool) (m : Nd) : List Nd × Bool :=
  let o := if !st.2 && !(Op.bytesLess m.path.toList n.path.toList) then (st.1 ++ [n], true) else st
  if m.path.toList == n.path.toList then o else (o.1 ++ [m], o.2)
def wiF (ns : List Nd) (n : Nd) : List Nd × Bool := ns.foldl (stW n) ([], false)
def wiN (ns : List Nd) (n : Nd) : List Nd := if (wiF ns n).2 then (wiF ns n).1 else (wiF ns n).1 ++ [n]
theorem wiF_succ (ns : List Nd) (n : Nd) (k : Nat) (h : k < ns.length) : wiF (ns.take (k + 1)) n = stW n (wiF (ns.take k) n) (nAt ns k) := by
  unfold wiF
  rw [List.take_succ_eq_append_getElem h, List.foldl_append, nAt_get h]
  rfl
theorem stW_len (n : Nd) (st : List Nd × Bool) (m : Nd) : (stW n st m).1.length ≤ st.1.length + 2 := by
  unfold stW
  simp only
  split <;> split <;> simp <;> omega
theorem wiF_len : ∀ (ns : List Nd) (n : Nd) (k : Nat), (wiF (ns.take k) n).1.length ≤ 2 * k
  | ns, n, 0 => by simp [wiF]
  | ns, n, k + 1 => by
    have h1 := wiF_len ns n k
    by_cases h : k < ns.length
    · rw [wiF_succ ns n k h]
      have := stW_len n (wiF (ns.take k) n) (nAt ns k)
      omega
    · rw [List.take_of_length_le (by omega)] at h1 ⊢
      omega

theorem BoxN.belowW {w w' : World} {B : Nat} {n : Nd} (h : BoxN w B n) (hb : Below (B + 1) w w') : BoxN w' B n :=
  ⟨Nat.lt_of_lt_of_le h.lt hb.size, (hb.cell (p := ⟨B, _, none⟩) (Nat.lt_succ_self _)).trans h.c0, (hb.cell (p := ⟨B, _, none⟩) (Nat.lt_succ_self _)).trans h.c1, (hb.cell (p := ⟨B, _, none⟩) (Nat.lt_succ_self _)).trans h.c2, (hb.cell (p := ⟨B, _, none⟩) (Nat.lt_succ_self _)).trans h.c3, (hb.cell (p := ⟨B, _, none⟩) (Nat.lt_succ_self _)).trans h.c4, (hb.cell (p := ⟨B, _, none⟩) (Nat.lt_succ_self _)).trans h.c5, (hb.cell (p := ⟨B, _, none⟩) (Nat.lt_succ_self _)).trans h.c6⟩

set_option maxHeartbeats 4000000 in
set_option maxRecDepth 100000 in
theorem with_any (w : World) (v : Value) (ns : List Nd) (n : Nd) (h : RdN w v ns) (hn : ns.length ≤ 100000) :
    Calls Tryz.prog 38 #[v, .agg #[.string n.path, .string n.data, .int .i64 n.ver, .int .i64 n.cver, .int .i64 n.cz, .int .i64 n.mz, .int .i64 n.pz]] w fun e w' => ∃ v', e = .returned v' ∧ OwnN 42 w' w.heap.size v' (wiN ns n) ∧ Below w.heap.size w w' := by
  obtain ⟨i0, hi, hz0, hz1, hz2⟩ := info_parts Tryz.infoN
  obtain ⟨ao, ca, rfl, _, _⟩ := h.len
  have HR := hd9 h
  have X0 : Hid (BoxN ((w.alloc (.cells #[.string n.path, .string n.data, .int .i64 n.ver, .int .i64 n.cver, .int .i64 n.cz, .int .i64 n.mz, .int .i64 n.pz] 42)).alloc (.cells #[] 42)) w.heap.size n) := (BoxN.new w n _).below ((Below.refl _ _).alloc (Nat.le_refl _) _)
  have B0 : Hid (Below w.heap.size w ((w.alloc (.cells #[.string n.path, .string n.data, .int .i64 n.ver, .int .i64 n.cver, .int .i64 n.cz, .int .i64 n.mz, .int .i64 n.pz] 42)).alloc (.cells #[] 42))) := ((Below.refl _ _).alloc (Nat.le_refl _) _).alloc (by simp) _
  have O0 : Hid (OwnN 42 ((w.alloc (.cells #[.string n.path, .string n.data, .int .i64 n.ver, .int .i64 n.cver, .int .i64 n.cz, .int .i64 n.mz, .int .i64 n.pz] 42)).alloc (.cells #[] 42)) (w.heap.size + 1) (.slice (some ⟨w.heap.size + 1, 0, none⟩) 0 0) (wiF (ns.take 0) n).1) := by
    have := World.ownsRow_lit (base := w.heap.size + 1) (e := 42) (size := 7) (w.alloc (.cells #[.string n.path, .string n.data, .int .i64 n.ver, .int .i64 n.cver, .int .i64 n.cz, .int .i64 n.mz, .int .i64 n.pz] 42)) #[] 0 (by simp) (Nat.zero_le _) rfl
    rw [show (w.alloc (.cells #[.string n.path, .string n.data, .int .i64 n.ver, .int .i64 n.cver, .int .i64 n.cz, .int .i64 n.mz, .int .i64 n.pz] 42)).heap.size = w.heap.size + 1 by simp] at this
    exact this
  generalize hnn : ns.length = N at *
  have HP := hd9 hnn
  clear h hnn
  go_enter Tryz.func38, Tryz.ntmps38
  go_wp2
  generalize (w.alloc (.cells #[.string n.path, .string n.data, .int .i64 n.ver, .int .i64 n.cver, .int .i64 n.cz, .int .i64 n.mz, .int .i64 n.pz] 42)).alloc (.cells #[] 42) = w0 at *
  have D0 : Hid (Below (w.heap.size + 1) w0 w0) := Below.refl _ _
  have s0 : w.heap.size + 1 ≤ w0.heap.size := X0.out.lt
  go_loopw [5, 6, 7] (fun vo vd vk wr => ∃ k : Nat, k ≤ N ∧ vk = .int .i64 k ∧ vd = .bool (wiF (ns.take k) n).2 ∧ Hid (OwnN 42 wr (w.heap.size + 1) vo (wiF (ns.take k) n).1) ∧ Hid (Below (w.heap.size + 1) w0 wr)) (fun _ _ i _ => N - (intOf i).toNat)
  case atStart => exact ⟨0, Nat.zero_le _, rfl, rfl, O0, D0⟩
  case round =>
    obtain ⟨k, hk, rfl, rfl, HW, HD⟩ := hrel
    have sD := Nat.le_trans s0 HD.out.size
    have hll := wiF_len ns n k
    by_cases hlt : k < N
    · have hltI : (k : Int) < (N : Int) := by omega
      obtain ⟨b, o, hao, hb, hc⟩ : ∃ b o, ao = some ⟨b, o, none⟩ ∧ b < w.heap.size ∧ CellsN w b (o + k * 7) (nAt ns k) := by
        obtain ⟨ao', cap', e', -, -, h3⟩ := HR.out
        simp only [Value.slice.injEq] at e'
        obtain ⟨rfl, -, -⟩ := e'
        rcases h3 with h3 | ⟨b, o, rfl, hb, hc⟩
        · have := HP.out; rw [h3] at this; simp at this; omega
        · exact ⟨b, o, rfl, hb, hc k (by rw [HP.out]; exact hlt)⟩
      subst hao
      have HCk := hd9 (hc.below B0.out hb)
      have hb1 : b < w.heap.size + 1 := Nat.lt_succ_of_lt hb
      clear hc
      have HST := hd9 (wiF_succ ns n k (by rw [HP.out]; exact hlt))
      generalize hst : wiF (ns.take k) n = st at *
      clear hst
      generalize hm : nAt ns k = m at *
      clear hm
      obtain ⟨st1, st2⟩ := st
      simp only at hll HW
      cases st2 with
      | true =>
        go_wp2
        refine wp_region_held_drew (S := fun W => W.cell? ⟨b, o + k * 7, none⟩ = some (.string m.path) ∧ W.cell? ⟨w.heap.size, 0, none⟩ = some (.string n.path)) (by kernel_rfl) (⟨(HCk.out.below (HD.out.trans ((below_drewN' _ 1).mono (Nat.le_trans s0 HD.out.size))) hb1).c0, (X0.out.belowW (HD.out.trans ((below_drewN' _ 1).mono (Nat.le_trans s0 HD.out.size)))).c0⟩) (fun hHeld => ?_)
        refine wpAnyH_take (i := 0) (oi := { dst := some 15, op := _, type := _, pos := _, after := _, guard := _ }) (v := (.bool true)) rfl (by kernel_rfl) (by kernel_rfl) (by kernel_rfl) (fun _ _ _ h => h) (Or.inl ⟨by rfl, ?hy1⟩) (by assumption) ?rest1
        case hy1 =>
          intro w9 hS9
          obtain ⟨y0, y1⟩ := hS9
          go_simp
        try simp only [Act.put, List.setIfInBounds_toArray, List.set_cons_zero, List.set_cons_succ]
        refine wpAnyH_take (i := 1) (oi := { dst := some 16, op := _, type := _, pos := _, after := _, guard := _ }) (v := (.bool false)) rfl (by kernel_rfl) (by kernel_rfl) (by kernel_rfl) (fun _ _ _ h => h) (Or.inl ⟨by rfl, ?hy2⟩) (by assumption) ?rest2
        case hy2 =>
          intro w9 hS9
          obtain ⟨y0, y1⟩ := hS9
          go_simp
        try simp only [Act.put, List.setIfInBounds_toArray, List.set_cons_zero, List.set_cons_succ]
        refine wpAnyH_take (i := 2) (oi := { dst := some 17, op := _, type := _, pos := _, after := _, guard := _ }) (v := (.bool false)) rfl (by kernel_rfl) (by kernel_rfl) (by kernel_rfl) (fun _ _ _ h => h) (Or.inl ⟨by rfl, ?hy3⟩) (by assumption) ?rest3
        case hy3 =>
          intro w9 hS9
          obtain ⟨y0, y1⟩ := hS9
          go_simp
        try simp only [Act.put, List.setIfInBounds_toArray, List.set_cons_zero, List.set_cons_succ]
        refine wpAnyH_take (i := 3) (oi := { dst := some 18, op := _, type := _, pos := _, after := _, guard := _ }) (v := undef) rfl (by kernel_rfl) (by kernel_rfl) (by kernel_rfl) (fun _ _ _ h => h) (Or.inr ⟨by rfl, rfl⟩) (by assumption) ?_
        try simp only [Act.put, List.setIfInBounds_toArray, List.set_cons_zero, List.set_cons_succ]
        refine wpAnyH_take (i := 4) (oi := { dst := some 19, op := _, type := _, pos := _, after := _, guard := _ }) (v := undef) rfl (by kernel_rfl) (by kernel_rfl) (by kernel_rfl) (fun _ _ _ h => h) (Or.inr ⟨by rfl, rfl⟩) (by assumption) ?_
        try simp only [Act.put, List.setIfInBounds_toArray, List.set_cons_zero, List.set_cons_succ]
        refine wpAnyH_take (i := 5) (oi := { dst := some 20, op := _, type := _, pos := _, after := _, guard := _ }) (v := undef) rfl (by kernel_rfl) (by kernel_rfl) (by kernel_rfl) (fun _ _ _ h => h) (Or.inr ⟨by rfl, rfl⟩) (by assumption) ?_
        try simp only [Act.put, List.setIfInBounds_toArray, List.set_cons_zero, List.set_cons_succ]
        refine wpAnyH_take (i := 6) (oi := { dst := some 21, op := _, type := _, pos := _, after := _, guard := _ }) (v := undef) rfl (by kernel_rfl) (by kernel_rfl) (by kernel_rfl) (fun _ _ _ h => h) (Or.inr ⟨by rfl, rfl⟩) (by assumption) ?_
        try simp only [Act.put, List.setIfInBounds_toArray, List.set_cons_zero, List.set_cons_succ]
        refine wpAnyH_take (i := 7) (oi := { dst := some 22, op := _, type := _, pos := _, after := _, guard := _ }) (v := undef) rfl (by kernel_rfl) (by kernel_rfl) (by kernel_rfl) (fun _ _ _ h => h) (Or.inr ⟨by rfl, rfl⟩) (by assumption) ?_
        try simp only [Act.put, List.setIfInBounds_toArray, List.set_cons_zero, List.set_cons_succ]
        refine wpAnyH_take (i := 8) (oi := { dst := some 23, op := _, type := _, pos := _, after := _, guard := _ }) (v := undef) rfl (by kernel_rfl) (by kernel_rfl) (by kernel_rfl) (fun _ _ _ h => h) (Or.inr ⟨by rfl, rfl⟩) (by assumption) ?_
        try simp only [Act.put, List.setIfInBounds_toArray, List.set_cons_zero, List.set_cons_succ]
        refine wpAnyH_take (i := 9) (oi := { dst := some 24, op := _, type := _, pos := _, after := _, guard := _ }) (v := undef) rfl (by kernel_rfl) (by kernel_rfl) (by kernel_rfl) (fun _ _ _ h => h) (Or.inr ⟨by rfl, rfl⟩) (by assumption) ?_
        try simp only [Act.put, List.setIfInBounds_toArray, List.set_cons_zero, List.set_cons_succ]
        refine wpAnyH_take (i := 10) (oi := { dst := some 25, op := _, type := _, pos := _, after := _, guard := _ }) (v := undef) rfl (by kernel_rfl) (by kernel_rfl) (by kernel_rfl) (fun _ _ _ h => h) (Or.inr ⟨by rfl, rfl⟩) (by assumption) ?_
        try simp only [Act.put, List.setIfInBounds_toArray, List.set_cons_zero, List.set_cons_succ]
        refine wpAnyH_take (i := 11) (oi := { dst := some 26, op := _, type := _, pos := _, after := _, guard := _ }) (v := (.bool false)) rfl (by kernel_rfl) (by kernel_rfl) (by kernel_rfl) (fun _ _ _ h => h) (Or.inl ⟨by rfl, ?hy4⟩) (by assumption) ?rest4
        case hy4 =>
          intro w9 hS9
          obtain ⟨y0, y1⟩ := hS9
          go_simp
        try simp only [Act.put, List.setIfInBounds_toArray, List.set_cons_zero, List.set_cons_succ]
        refine wpAnyH_done (by kernel_rfl) ?_ _
        clear hHeld
        have Dw1 : Hid (Below (w.heap.size + 1) w0 wr.drew) := HD.out.trans ((below_drewN' wr 1).mono (Nat.le_trans s0 HD.out.size))
        have Ow1 : Hid (OwnN 42 wr.drew (w.heap.size + 1) u5 st1) := HW.out
        generalize wr.drew = w1 at *
        cases heq : (m.path.toList == n.path.toList) with
        | true =>
          have HS : Hid (stW n (st1, true) m = (st1, true)) := by show _ = _; unfold stW; simp [heq]
          go_wp2
          refine wp_region_held_drew (S := fun W => W.cell? ⟨b, o + k * 7, none⟩ = some (.string m.path) ∧ W.cell? ⟨w.heap.size, 0, none⟩ = some (.string n.path)) (by kernel_rfl) (⟨(HCk.out.below (Dw1.out.trans ((below_drewN' _ 1).mono (Nat.le_trans s0 Dw1.out.size))) hb1).c0, (X0.out.belowW (Dw1.out.trans ((below_drewN' _ 1).mono (Nat.le_trans s0 Dw1.out.size)))).c0⟩) (fun hHeld => ?_)
          refine wpAnyH_take (i := 0) (oi := { dst := some 31, op := _, type := _, pos := _, after := _, guard := _ }) (v := (.slice (some ⟨b, o, none⟩) N ca)) rfl (by kernel_rfl) (by kernel_rfl) (by kernel_rfl) (fun _ _ _ h => h) (Or.inl ⟨by rfl, ?hy5⟩) (by assumption) ?rest5
          case hy5 =>
            intro w9 hS9
            obtain ⟨y0, y1⟩ := hS9
            go_simp
          try simp only [Act.put, List.setIfInBounds_toArray, List.set_cons_zero, List.set_cons_succ]
          refine wpAnyH_take (i := 1) (oi := { dst := some 32, op := _, type := _, pos := _, after := _, guard := _ }) (v := (.int .i64 (k : Int))) rfl (by kernel_rfl) (by kernel_rfl) (by kernel_rfl) (fun _ _ _ h => h) (Or.inl ⟨by rfl, ?hy6⟩) (by assumption) ?rest6
          case hy6 =>
            intro w9 hS9
            obtain ⟨y0, y1⟩ := hS9
            go_simp
          try simp only [Act.put, List.setIfInBounds_toArray, List.set_cons_zero, List.set_cons_succ]
          refine wpAnyH_take (i := 2) (oi := { dst := some 33, op := _, type := _, pos := _, after := _, guard := _ }) (v := (.pointer (some ⟨b, o + k * 7, none⟩))) rfl (by kernel_rfl) (by kernel_rfl) (by kernel_rfl) (fun _ _ _ h => h) (Or.inl ⟨by rfl, ?hy7⟩) (by assumption) ?rest7
          case hy7 =>
            intro w9 hS9
            obtain ⟨y0, y1⟩ := hS9
            go_simp
          try simp only [Act.put, List.setIfInBounds_toArray, List.set_cons_zero, List.set_cons_succ]
          refine wpAnyH_take (i := 3) (oi := { dst := some 34, op := _, type := _, pos := _, after := _, guard := _ }) (v := (.pointer (some ⟨b, o + k * 7, none⟩))) rfl (by kernel_rfl) (by kernel_rfl) (by kernel_rfl) (fun _ _ _ h => h) (Or.inl ⟨by rfl, ?hy8⟩) (by assumption) ?rest8
          case hy8 =>
            intro w9 hS9
            obtain ⟨y0, y1⟩ := hS9
            go_simp
          try simp only [Act.put, List.setIfInBounds_toArray, List.set_cons_zero, List.set_cons_succ]
          refine wpAnyH_take (i := 4) (oi := { dst := some 35, op := _, type := _, pos := _, after := _, guard := _ }) (v := (.string m.path)) rfl (by kernel_rfl) (by kernel_rfl) (by kernel_rfl) (fun _ _ _ h => h) (Or.inl ⟨by rfl, ?hy9⟩) (by assumption) ?rest9
          case hy9 =>
            intro w9 hS9
            obtain ⟨y0, y1⟩ := hS9
            go_simp
          try simp only [Act.put, List.setIfInBounds_toArray, List.set_cons_zero, List.set_cons_succ]
          refine wpAnyH_take (i := 5) (oi := { dst := some 36, op := _, type := _, pos := _, after := _, guard := _ }) (v := (.pointer (some ⟨w.heap.size, 0, none⟩))) rfl (by kernel_rfl) (by kernel_rfl) (by kernel_rfl) (fun _ _ _ h => h) (Or.inl ⟨by rfl, ?hy10⟩) (by assumption) ?rest10
          case hy10 =>
            intro w9 hS9
            obtain ⟨y0, y1⟩ := hS9
            go_simp
          try simp only [Act.put, List.setIfInBounds_toArray, List.set_cons_zero, List.set_cons_succ]
          refine wpAnyH_take (i := 6) (oi := { dst := some 37, op := _, type := _, pos := _, after := _, guard := _ }) (v := (.string n.path)) rfl (by kernel_rfl) (by kernel_rfl) (by kernel_rfl) (fun _ _ _ h => h) (Or.inl ⟨by rfl, ?hy11⟩) (by assumption) ?rest11
          case hy11 =>
            intro w9 hS9
            obtain ⟨y0, y1⟩ := hS9
            go_simp
          try simp only [Act.put, List.setIfInBounds_toArray, List.set_cons_zero, List.set_cons_succ]
          refine wpAnyH_take (i := 7) (oi := { dst := some 38, op := _, type := _, pos := _, after := _, guard := _ }) (v := (.bool false)) rfl (by kernel_rfl) (by kernel_rfl) (by kernel_rfl) (fun _ _ _ h => h) (Or.inl ⟨by rfl, ?hy12⟩) (by assumption) ?rest12
          case hy12 =>
            intro w9 hS9
            obtain ⟨y0, y1⟩ := hS9
            go_simp
          try simp only [Act.put, List.setIfInBounds_toArray, List.set_cons_zero, List.set_cons_succ]
          refine wpAnyH_done (by kernel_rfl) ?_ _
          clear hHeld
          have Dwz : Hid (Below (w.heap.size + 1) w0 w1.drew) := Dw1.out.trans ((below_drewN' w1 1).mono (Nat.le_trans s0 Dw1.out.size))
          have Owz : Hid (OwnN 42 w1.drew (w.heap.size + 1) u5 st1) := Ow1.out
          generalize w1.drew = wz at *
          go_wp2
          exact ⟨⟨k + 1, by omega, by go_num, (by rw [HST.out, HS.out]), (by rw [HST.out, HS.out]; exact Owz), Dwz⟩, by simp [intOf]; omega⟩
        | false =>
          have HS : Hid (stW n (st1, true) m = (st1 ++ [m], true)) := by show _ = _; unfold stW; simp [heq]
          go_wp2
          refine wp_region_held_drew (S := fun W => W.cell? ⟨b, o + k * 7, none⟩ = some (.string m.path) ∧ W.cell? ⟨w.heap.size, 0, none⟩ = some (.string n.path)) (by kernel_rfl) (⟨(HCk.out.below (Dw1.out.trans ((below_drewN' _ 1).mono (Nat.le_trans s0 Dw1.out.size))) hb1).c0, (X0.out.belowW (Dw1.out.trans ((below_drewN' _ 1).mono (Nat.le_trans s0 Dw1.out.size)))).c0⟩) (fun hHeld => ?_)
          refine wpAnyH_take (i := 0) (oi := { dst := some 31, op := _, type := _, pos := _, after := _, guard := _ }) (v := (.slice (some ⟨b, o, none⟩) N ca)) rfl (by kernel_rfl) (by kernel_rfl) (by kernel_rfl) (fun _ _ _ h => h) (Or.inl ⟨by rfl, ?hy13⟩) (by assumption) ?rest13
          case hy13 =>
            intro w9 hS9
            obtain ⟨y0, y1⟩ := hS9
            go_simp
          try simp only [Act.put, List.setIfInBounds_toArray, List.set_cons_zero, List.set_cons_succ]
          refine wpAnyH_take (i := 1) (oi := { dst := some 32, op := _, type := _, pos := _, after := _, guard := _ }) (v := (.int .i64 (k : Int))) rfl (by kernel_rfl) (by kernel_rfl) (by kernel_rfl) (fun _ _ _ h => h) (Or.inl ⟨by rfl, ?hy14⟩) (by assumption) ?rest14
          case hy14 =>
            intro w9 hS9
            obtain ⟨y0, y1⟩ := hS9
            go_simp
          try simp only [Act.put, List.setIfInBounds_toArray, List.set_cons_zero, List.set_cons_succ]
          refine wpAnyH_take (i := 2) (oi := { dst := some 33, op := _, type := _, pos := _, after := _, guard := _ }) (v := (.pointer (some ⟨b, o + k * 7, none⟩))) rfl (by kernel_rfl) (by kernel_rfl) (by kernel_rfl) (fun _ _ _ h => h) (Or.inl ⟨by rfl, ?hy15⟩) (by assumption) ?rest15
          case hy15 =>
            intro w9 hS9
            obtain ⟨y0, y1⟩ := hS9
            go_simp
          try simp only [Act.put, List.setIfInBounds_toArray, List.set_cons_zero, List.set_cons_succ]
          refine wpAnyH_take (i := 3) (oi := { dst := some 34, op := _, type := _, pos := _, after := _, guard := _ }) (v := (.pointer (some ⟨b, o + k * 7, none⟩))) rfl (by kernel_rfl) (by kernel_rfl) (by kernel_rfl) (fun _ _ _ h => h) (Or.inl ⟨by rfl, ?hy16⟩) (by assumption) ?rest16
          case hy16 =>
            intro w9 hS9
            obtain ⟨y0, y1⟩ := hS9
            go_simp
          try simp only [Act.put, List.setIfInBounds_toArray, List.set_cons_zero, List.set_cons_succ]
          refine wpAnyH_take (i := 4) (oi := { dst := some 35, op := _, type := _, pos := _, after := _, guard := _ }) (v := (.string m.path)) rfl (by kernel_rfl) (by kernel_rfl) (by kernel_rfl) (fun _ _ _ h => h) (Or.inl ⟨by rfl, ?hy17⟩) (by assumption) ?rest17
          case hy17 =>
            intro w9 hS9
            obtain ⟨y0, y1⟩ := hS9
            go_simp
          try simp only [Act.put, List.setIfInBounds_toArray, List.set_cons_zero, List.set_cons_succ]
          refine wpAnyH_take (i := 5) (oi := { dst := some 36, op := _, type := _, pos := _, after := _, guard := _ }) (v := (.pointer (some ⟨w.heap.size, 0, none⟩))) rfl (by kernel_rfl) (by kernel_rfl) (by kernel_rfl) (fun _ _ _ h => h) (Or.inl ⟨by rfl, ?hy18⟩) (by assumption) ?rest18
          case hy18 =>
            intro w9 hS9
            obtain ⟨y0, y1⟩ := hS9
            go_simp
          try simp only [Act.put, List.setIfInBounds_toArray, List.set_cons_zero, List.set_cons_succ]
          refine wpAnyH_take (i := 6) (oi := { dst := some 37, op := _, type := _, pos := _, after := _, guard := _ }) (v := (.string n.path)) rfl (by kernel_rfl) (by kernel_rfl) (by kernel_rfl) (fun _ _ _ h => h) (Or.inl ⟨by rfl, ?hy19⟩) (by assumption) ?rest19
          case hy19 =>
            intro w9 hS9
            obtain ⟨y0, y1⟩ := hS9
            go_simp
          try simp only [Act.put, List.setIfInBounds_toArray, List.set_cons_zero, List.set_cons_succ]
          refine wpAnyH_take (i := 7) (oi := { dst := some 38, op := _, type := _, pos := _, after := _, guard := _ }) (v := (.bool true)) rfl (by kernel_rfl) (by kernel_rfl) (by kernel_rfl) (fun _ _ _ h => h) (Or.inl ⟨by rfl, ?hy20⟩) (by assumption) ?rest20
          case hy20 =>
            intro w9 hS9
            obtain ⟨y0, y1⟩ := hS9
            go_simp
          try simp only [Act.put, List.setIfInBounds_toArray, List.set_cons_zero, List.set_cons_succ]
          refine wpAnyH_done (by kernel_rfl) ?_ _
          clear hHeld
          have Dwz : Hid (Below (w.heap.size + 1) w0 w1.drew) := Dw1.out.trans ((below_drewN' w1 1).mono (Nat.le_trans s0 Dw1.out.size))
          have Owz : Hid (OwnN 42 w1.drew (w.heap.size + 1) u5 st1) := Ow1.out
          generalize w1.drew = wz at *
          obtain ⟨c0, c1, c2, c3, c4, c5, c6⟩ := HCk.out.below Dwz.out hb1
          obtain ⟨-, x0, x1, x2, x3, x4, x5, x6⟩ := X0.out.belowW Dwz.out
          have ORwy : Hid (wz.ownsRow (w.heap.size + 1) 42 7 u5 st1.length (nrow st1)) := Owz.out
          have swy := Nat.le_trans s0 Dwz.out.size
          go_wp2_with (at_builtin; go_must (refine wpList_append_own _ rfl _ _ 23 rfl (w.heap.size + 1) 42 i0 (.agg #[.string ByteArray.empty, .string ByteArray.empty, .int .i64 0, .int .i64 0, .int .i64 0, .int .i64 0, .int .i64 0]) 7 72 Tryz.underlying23 hi hz0 hz1 hz2 rfl (by decide) _ _ _ rfl (ORwy.out.alloc _) ⟨wz.heap.size, 0, none⟩ 1 1 (ndL m) rfl rfl (ndL_cells wz m _) (ndL_one m) ?_ ?_ ?_ ?_))
          · unfold maxLen; (try simp only [List.length_append, List.length_cons, List.length_nil]); omega
          · (try simp only [List.length_append, List.length_cons, List.length_nil]); omega
          · simp; omega
          intro vy wy howy hgwy _
          have Owy : Hid (OwnN 42 wy (w.heap.size + 1) vy (st1 ++ [m])) := by
            show OwnN _ _ _ _ _
            unfold OwnN
            rw [nrow_one]
            simpa using howy
          have Dwy := hd9 ((Dwz.out.alloc swy _).grown hgwy (by simp; omega) (fun q hq => (World.ownsRow.lt ORwy.out q hq).1))
          clear howy hgwy ORwy
          clear c0 c1 c2 c3 c4 c5 c6 x0 x1 x2 x3 x4 x5 x6
          go_wp2
          exact ⟨⟨k + 1, by omega, by go_num, (by rw [HST.out, HS.out]), (by rw [HST.out, HS.out]; exact Owy), Dwy⟩, by simp [intOf]; omega⟩
      | false =>
        cases hls : Op.bytesLess m.path.toList n.path.toList with
        | true =>
          go_wp2
          refine wp_region_held_drew (S := fun W => W.cell? ⟨b, o + k * 7, none⟩ = some (.string m.path) ∧ W.cell? ⟨w.heap.size, 0, none⟩ = some (.string n.path)) (by kernel_rfl) (⟨(HCk.out.below (HD.out.trans ((below_drewN' _ 1).mono (Nat.le_trans s0 HD.out.size))) hb1).c0, (X0.out.belowW (HD.out.trans ((below_drewN' _ 1).mono (Nat.le_trans s0 HD.out.size)))).c0⟩) (fun hHeld => ?_)
          refine wpAnyH_take (i := 0) (oi := { dst := some 15, op := _, type := _, pos := _, after := _, guard := _ }) (v := (.bool false)) rfl (by kernel_rfl) (by kernel_rfl) (by kernel_rfl) (fun _ _ _ h => h) (Or.inl ⟨by rfl, ?hy21⟩) (by assumption) ?rest21
          case hy21 =>
            intro w9 hS9
            obtain ⟨y0, y1⟩ := hS9
            go_simp
          try simp only [Act.put, List.setIfInBounds_toArray, List.set_cons_zero, List.set_cons_succ]
          refine wpAnyH_take (i := 1) (oi := { dst := some 16, op := _, type := _, pos := _, after := _, guard := _ }) (v := (.bool true)) rfl (by kernel_rfl) (by kernel_rfl) (by kernel_rfl) (fun _ _ _ h => h) (Or.inl ⟨by rfl, ?hy22⟩) (by assumption) ?rest22
          case hy22 =>
            intro w9 hS9
            obtain ⟨y0, y1⟩ := hS9
            go_simp
          try simp only [Act.put, List.setIfInBounds_toArray, List.set_cons_zero, List.set_cons_succ]
          refine wpAnyH_take (i := 2) (oi := { dst := some 17, op := _, type := _, pos := _, after := _, guard := _ }) (v := (.bool true)) rfl (by kernel_rfl) (by kernel_rfl) (by kernel_rfl) (fun _ _ _ h => h) (Or.inl ⟨by rfl, ?hy23⟩) (by assumption) ?rest23
          case hy23 =>
            intro w9 hS9
            obtain ⟨y0, y1⟩ := hS9
            go_simp
          try simp only [Act.put, List.setIfInBounds_toArray, List.set_cons_zero, List.set_cons_succ]
          refine wpAnyH_take (i := 3) (oi := { dst := some 18, op := _, type := _, pos := _, after := _, guard := _ }) (v := (.slice (some ⟨b, o, none⟩) N ca)) rfl (by kernel_rfl) (by kernel_rfl) (by kernel_rfl) (fun _ _ _ h => h) (Or.inl ⟨by rfl, ?hy24⟩) (by assumption) ?rest24
          case hy24 =>
            intro w9 hS9
            obtain ⟨y0, y1⟩ := hS9
            go_simp
          try simp only [Act.put, List.setIfInBounds_toArray, List.set_cons_zero, List.set_cons_succ]
          refine wpAnyH_take (i := 4) (oi := { dst := some 19, op := _, type := _, pos := _, after := _, guard := _ }) (v := (.int .i64 (k : Int))) rfl (by kernel_rfl) (by kernel_rfl) (by kernel_rfl) (fun _ _ _ h => h) (Or.inl ⟨by rfl, ?hy25⟩) (by assumption) ?rest25
          case hy25 =>
            intro w9 hS9
            obtain ⟨y0, y1⟩ := hS9
            go_simp
          try simp only [Act.put, List.setIfInBounds_toArray, List.set_cons_zero, List.set_cons_succ]
          refine wpAnyH_take (i := 5) (oi := { dst := some 20, op := _, type := _, pos := _, after := _, guard := _ }) (v := (.pointer (some ⟨b, o + k * 7, none⟩))) rfl (by kernel_rfl) (by kernel_rfl) (by kernel_rfl) (fun _ _ _ h => h) (Or.inl ⟨by rfl, ?hy26⟩) (by assumption) ?rest26
          case hy26 =>
            intro w9 hS9
            obtain ⟨y0, y1⟩ := hS9
            go_simp
          try simp only [Act.put, List.setIfInBounds_toArray, List.set_cons_zero, List.set_cons_succ]
          refine wpAnyH_take (i := 6) (oi := { dst := some 21, op := _, type := _, pos := _, after := _, guard := _ }) (v := (.pointer (some ⟨b, o + k * 7, none⟩))) rfl (by kernel_rfl) (by kernel_rfl) (by kernel_rfl) (fun _ _ _ h => h) (Or.inl ⟨by rfl, ?hy27⟩) (by assumption) ?rest27
          case hy27 =>
            intro w9 hS9
            obtain ⟨y0, y1⟩ := hS9
            go_simp
          try simp only [Act.put, List.setIfInBounds_toArray, List.set_cons_zero, List.set_cons_succ]
          refine wpAnyH_take (i := 7) (oi := { dst := some 22, op := _, type := _, pos := _, after := _, guard := _ }) (v := (.string m.path)) rfl (by kernel_rfl) (by kernel_rfl) (by kernel_rfl) (fun _ _ _ h => h) (Or.inl ⟨by rfl, ?hy28⟩) (by assumption) ?rest28
          case hy28 =>
            intro w9 hS9
            obtain ⟨y0, y1⟩ := hS9
            go_simp
          try simp only [Act.put, List.setIfInBounds_toArray, List.set_cons_zero, List.set_cons_succ]
          refine wpAnyH_take (i := 8) (oi := { dst := some 23, op := _, type := _, pos := _, after := _, guard := _ }) (v := (.pointer (some ⟨w.heap.size, 0, none⟩))) rfl (by kernel_rfl) (by kernel_rfl) (by kernel_rfl) (fun _ _ _ h => h) (Or.inl ⟨by rfl, ?hy29⟩) (by assumption) ?rest29
          case hy29 =>
            intro w9 hS9
            obtain ⟨y0, y1⟩ := hS9
            go_simp
          try simp only [Act.put, List.setIfInBounds_toArray, List.set_cons_zero, List.set_cons_succ]
          refine wpAnyH_take (i := 9) (oi := { dst := some 24, op := _, type := _, pos := _, after := _, guard := _ }) (v := (.string n.path)) rfl (by kernel_rfl) (by kernel_rfl) (by kernel_rfl) (fun _ _ _ h => h) (Or.inl ⟨by rfl, ?hy30⟩) (by assumption) ?rest30
          case hy30 =>
            intro w9 hS9
            obtain ⟨y0, y1⟩ := hS9
            go_simp
          try simp only [Act.put, List.setIfInBounds_toArray, List.set_cons_zero, List.set_cons_succ]
          refine wpAnyH_take (i := 10) (oi := { dst := some 25, op := _, type := _, pos := _, after := _, guard := _ }) (v := (.bool false)) rfl (by kernel_rfl) (by kernel_rfl) (by kernel_rfl) (fun _ _ _ h => h) (Or.inl ⟨by rfl, ?hy31⟩) (by assumption) ?rest31
          case hy31 =>
            intro w9 hS9
            obtain ⟨y0, y1⟩ := hS9
            go_simp
          try simp only [Act.put, List.setIfInBounds_toArray, List.set_cons_zero, List.set_cons_succ]
          refine wpAnyH_take (i := 11) (oi := { dst := some 26, op := _, type := _, pos := _, after := _, guard := _ }) (v := (.bool false)) rfl (by kernel_rfl) (by kernel_rfl) (by kernel_rfl) (fun _ _ _ h => h) (Or.inl ⟨by rfl, ?hy32⟩) (by assumption) ?rest32
          case hy32 =>
            intro w9 hS9
            obtain ⟨y0, y1⟩ := hS9
            go_simp
          try simp only [Act.put, List.setIfInBounds_toArray, List.set_cons_zero, List.set_cons_succ]
          refine wpAnyH_done (by kernel_rfl) ?_ _
          clear hHeld
          have Dw1 : Hid (Below (w.heap.size + 1) w0 wr.drew) := HD.out.trans ((below_drewN' wr 1).mono (Nat.le_trans s0 HD.out.size))
          have Ow1 : Hid (OwnN 42 wr.drew (w.heap.size + 1) u5 st1) := HW.out
          generalize wr.drew = w1 at *
          cases heq : (m.path.toList == n.path.toList) with
          | true =>
            have HS : Hid (stW n (st1, false) m = (st1, false)) := by show _ = _; unfold stW; simp [hls, heq]
            go_wp2
            refine wp_region_held_drew (S := fun W => W.cell? ⟨b, o + k * 7, none⟩ = some (.string m.path) ∧ W.cell? ⟨w.heap.size, 0, none⟩ = some (.string n.path)) (by kernel_rfl) (⟨(HCk.out.below (Dw1.out.trans ((below_drewN' _ 1).mono (Nat.le_trans s0 Dw1.out.size))) hb1).c0, (X0.out.belowW (Dw1.out.trans ((below_drewN' _ 1).mono (Nat.le_trans s0 Dw1.out.size)))).c0⟩) (fun hHeld => ?_)
            refine wpAnyH_take (i := 0) (oi := { dst := some 31, op := _, type := _, pos := _, after := _, guard := _ }) (v := (.slice (some ⟨b, o, none⟩) N ca)) rfl (by kernel_rfl) (by kernel_rfl) (by kernel_rfl) (fun _ _ _ h => h) (Or.inl ⟨by rfl, ?hy33⟩) (by assumption) ?rest33
            case hy33 =>
              intro w9 hS9
              obtain ⟨y0, y1⟩ := hS9
              go_simp
            try simp only [Act.put, List.setIfInBounds_toArray, List.set_cons_zero, List.set_cons_succ]
            refine wpAnyH_take (i := 1) (oi := { dst := some 32, op := _, type := _, pos := _, after := _, guard := _ }) (v := (.int .i64 (k : Int))) rfl (by kernel_rfl) (by kernel_rfl) (by kernel_rfl) (fun _ _ _ h => h) (Or.inl ⟨by rfl, ?hy34⟩) (by assumption) ?rest34
            case hy34 =>
              intro w9 hS9
              obtain ⟨y0, y1⟩ := hS9
              go_simp
            try simp only [Act.put, List.setIfInBounds_toArray, List.set_cons_zero, List.set_cons_succ]
            refine wpAnyH_take (i := 2) (oi := { dst := some 33, op := _, type := _, pos := _, after := _, guard := _ }) (v := (.pointer (some ⟨b, o + k * 7, none⟩))) rfl (by kernel_rfl) (by kernel_rfl) (by kernel_rfl) (fun _ _ _ h => h) (Or.inl ⟨by rfl, ?hy35⟩) (by assumption) ?rest35
            case hy35 =>
              intro w9 hS9
              obtain ⟨y0, y1⟩ := hS9
              go_simp
            try simp only [Act.put, List.setIfInBounds_toArray, List.set_cons_zero, List.set_cons_succ]
            refine wpAnyH_take (i := 3) (oi := { dst := some 34, op := _, type := _, pos := _, after := _, guard := _ }) (v := (.pointer (some ⟨b, o + k * 7, none⟩))) rfl (by kernel_rfl) (by kernel_rfl) (by kernel_rfl) (fun _ _ _ h => h) (Or.inl ⟨by rfl, ?hy36⟩) (by assumption) ?rest36
            case hy36 =>
              intro w9 hS9
              obtain ⟨y0, y1⟩ := hS9
              go_simp
            try simp only [Act.put, List.setIfInBounds_toArray, List.set_cons_zero, List.set_cons_succ]
            refine wpAnyH_take (i := 4) (oi := { dst := some 35, op := _, type := _, pos := _, after := _, guard := _ }) (v := (.string m.path)) rfl (by kernel_rfl) (by kernel_rfl) (by kernel_rfl) (fun _ _ _ h => h) (Or.inl ⟨by rfl, ?hy37⟩) (by assumption) ?rest37
            case hy37 =>
              intro w9 hS9
              obtain ⟨y0, y1⟩ := hS9
              go_simp
            try simp only [Act.put, List.setIfInBounds_toArray, List.set_cons_zero, List.set_cons_succ]
            refine wpAnyH_take (i := 5) (oi := { dst := some 36, op := _, type := _, pos := _, after := _, guard := _ }) (v := (.pointer (some ⟨w.heap.size, 0, none⟩))) rfl (by kernel_rfl) (by kernel_rfl) (by kernel_rfl) (fun _ _ _ h => h) (Or.inl ⟨by rfl, ?hy38⟩) (by assumption) ?rest38
            case hy38 =>
              intro w9 hS9
              obtain ⟨y0, y1⟩ := hS9
              go_simp
            try simp only [Act.put, List.setIfInBounds_toArray, List.set_cons_zero, List.set_cons_succ]
            refine wpAnyH_take (i := 6) (oi := { dst := some 37, op := _, type := _, pos := _, after := _, guard := _ }) (v := (.string n.path)) rfl (by kernel_rfl) (by kernel_rfl) (by kernel_rfl) (fun _ _ _ h => h) (Or.inl ⟨by rfl, ?hy39⟩) (by assumption) ?rest39
            case hy39 =>
              intro w9 hS9
              obtain ⟨y0, y1⟩ := hS9
              go_simp
            try simp only [Act.put, List.setIfInBounds_toArray, List.set_cons_zero, List.set_cons_succ]
            refine wpAnyH_take (i := 7) (oi := { dst := some 38, op := _, type := _, pos := _, after := _, guard := _ }) (v := (.bool false)) rfl (by kernel_rfl) (by kernel_rfl) (by kernel_rfl) (fun _ _ _ h => h) (Or.inl ⟨by rfl, ?hy40⟩) (by assumption) ?rest40
            case hy40 =>
              intro w9 hS9
              obtain ⟨y0, y1⟩ := hS9
              go_simp
            try simp only [Act.put, List.setIfInBounds_toArray, List.set_cons_zero, List.set_cons_succ]
            refine wpAnyH_done (by kernel_rfl) ?_ _
            clear hHeld
            have Dwz : Hid (Below (w.heap.size + 1) w0 w1.drew) := Dw1.out.trans ((below_drewN' w1 1).mono (Nat.le_trans s0 Dw1.out.size))
            have Owz : Hid (OwnN 42 w1.drew (w.heap.size + 1) u5 st1) := Ow1.out
            generalize w1.drew = wz at *
            go_wp2
            exact ⟨⟨k + 1, by omega, by go_num, (by rw [HST.out, HS.out]), (by rw [HST.out, HS.out]; exact Owz), Dwz⟩, by simp [intOf]; omega⟩
          | false =>
            have HS : Hid (stW n (st1, false) m = (st1 ++ [m], false)) := by show _ = _; unfold stW; simp [hls, heq]
            go_wp2
            refine wp_region_held_drew (S := fun W => W.cell? ⟨b, o + k * 7, none⟩ = some (.string m.path) ∧ W.cell? ⟨w.heap.size, 0, none⟩ = some (.string n.path)) (by kernel_rfl) (⟨(HCk.out.below (Dw1.out.trans ((below_drewN' _ 1).mono (Nat.le_trans s0 Dw1.out.size))) hb1).c0, (X0.out.belowW (Dw1.out.trans ((below_drewN' _ 1).mono (Nat.le_trans s0 Dw1.out.size)))).c0⟩) (fun hHeld => ?_)
            refine wpAnyH_take (i := 0) (oi := { dst := some 31, op := _, type := _, pos := _, after := _, guard := _ }) (v := (.slice (some ⟨b, o, none⟩) N ca)) rfl (by kernel_rfl) (by kernel_rfl) (by kernel_rfl) (fun _ _ _ h => h) (Or.inl ⟨by rfl, ?hy41⟩) (by assumption) ?rest41
            case hy41 =>
              intro w9 hS9
              obtain ⟨y0, y1⟩ := hS9
              go_simp
            try simp only [Act.put, List.setIfInBounds_toArray, List.set_cons_zero, List.set_cons_succ]
            refine wpAnyH_take (i := 1) (oi := { dst := some 32, op := _, type := _, pos := _, after := _, guard := _ }) (v := (.int .i64 (k : Int))) rfl (by kernel_rfl) (by kernel_rfl) (by kernel_rfl) (fun _ _ _ h => h) (Or.inl ⟨by rfl, ?hy42⟩) (by assumption) ?rest42
            case hy42 =>
              intro w9 hS9
              obtain ⟨y0, y1⟩ := hS9
              go_simp
            try simp only [Act.put, List.setIfInBounds_toArray, List.set_cons_zero, List.set_cons_succ]
            refine wpAnyH_take (i := 2) (oi := { dst := some 33, op := _, type := _, pos := _, after := _, guard := _ }) (v := (.pointer (some ⟨b, o + k * 7, none⟩))) rfl (by kernel_rfl) (by kernel_rfl) (by kernel_rfl) (fun _ _ _ h => h) (Or.inl ⟨by rfl, ?hy43⟩) (by assumption) ?rest43
            case hy43 =>
              intro w9 hS9
              obtain ⟨y0, y1⟩ := hS9
              go_simp
            try simp only [Act.put, List.setIfInBounds_toArray, List.set_cons_zero, List.set_cons_succ]
            refine wpAnyH_take (i := 3) (oi := { dst := some 34, op := _, type := _, pos := _, after := _, guard := _ }) (v := (.pointer (some ⟨b, o + k * 7, none⟩))) rfl (by kernel_rfl) (by kernel_rfl) (by kernel_rfl) (fun _ _ _ h => h) (Or.inl ⟨by rfl, ?hy44⟩) (by assumption) ?rest44
            case hy44 =>
              intro w9 hS9
              obtain ⟨y0, y1⟩ := hS9
              go_simp
            try simp only [Act.put, List.setIfInBounds_toArray, List.set_cons_zero, List.set_cons_succ]
            refine wpAnyH_take (i := 4) (oi := { dst := some 35, op := _, type := _, pos := _, after := _, guard := _ }) (v := (.string m.path)) rfl (by kernel_rfl) (by kernel_rfl) (by kernel_rfl) (fun _ _ _ h => h) (Or.inl ⟨by rfl, ?hy45⟩) (by assumption) ?rest45
            case hy45 =>
              intro w9 hS9
              obtain ⟨y0, y1⟩ := hS9
              go_simp
            try simp only [Act.put, List.setIfInBounds_toArray, List.set_cons_zero, List.set_cons_succ]
            refine wpAnyH_take (i := 5) (oi := { dst := some 36, op := _, type := _, pos := _, after := _, guard := _ }) (v := (.pointer (some ⟨w.heap.size, 0, none⟩))) rfl (by kernel_rfl) (by kernel_rfl) (by kernel_rfl) (fun _ _ _ h => h) (Or.inl ⟨by rfl, ?hy46⟩) (by assumption) ?rest46
            case hy46 =>
              intro w9 hS9
              obtain ⟨y0, y1⟩ := hS9
              go_simp
            try simp only [Act.put, List.setIfInBounds_toArray, List.set_cons_zero, List.set_cons_succ]
            refine wpAnyH_take (i := 6) (oi := { dst := some 37, op := _, type := _, pos := _, after := _, guard := _ }) (v := (.string n.path)) rfl (by kernel_rfl) (by kernel_rfl) (by kernel_rfl) (fun _ _ _ h => h) (Or.inl ⟨by rfl, ?hy47⟩) (by assumption) ?rest47
            case hy47 =>
              intro w9 hS9
              obtain ⟨y0, y1⟩ := hS9
              go_simp
            try simp only [Act.put, List.setIfInBounds_toArray, List.set_cons_zero, List.set_cons_succ]
            refine wpAnyH_take (i := 7) (oi := { dst := some 38, op := _, type := _, pos := _, after := _, guard := _ }) (v := (.bool true)) rfl (by kernel_rfl) (by kernel_rfl) (by kernel_rfl) (fun _ _ _ h => h) (Or.inl ⟨by rfl, ?hy48⟩) (by assumption) ?rest48
            case hy48 =>
              intro w9 hS9
              obtain ⟨y0, y1⟩ := hS9
              go_simp
            try simp only [Act.put, List.setIfInBounds_toArray, List.set_cons_zero, List.set_cons_succ]
            refine wpAnyH_done (by kernel_rfl) ?_ _
            clear hHeld
            have Dwz : Hid (Below (w.heap.size + 1) w0 w1.drew) := Dw1.out.trans ((below_drewN' w1 1).mono (Nat.le_trans s0 Dw1.out.size))
            have Owz : Hid (OwnN 42 w1.drew (w.heap.size + 1) u5 st1) := Ow1.out
            generalize w1.drew = wz at *
            obtain ⟨c0, c1, c2, c3, c4, c5, c6⟩ := HCk.out.below Dwz.out hb1
            obtain ⟨-, x0, x1, x2, x3, x4, x5, x6⟩ := X0.out.belowW Dwz.out
            have ORwy : Hid (wz.ownsRow (w.heap.size + 1) 42 7 u5 st1.length (nrow st1)) := Owz.out
            have swy := Nat.le_trans s0 Dwz.out.size
            go_wp2_with (at_builtin; go_must (refine wpList_append_own _ rfl _ _ 23 rfl (w.heap.size + 1) 42 i0 (.agg #[.string ByteArray.empty, .string ByteArray.empty, .int .i64 0, .int .i64 0, .int .i64 0, .int .i64 0, .int .i64 0]) 7 72 Tryz.underlying23 hi hz0 hz1 hz2 rfl (by decide) _ _ _ rfl (ORwy.out.alloc _) ⟨wz.heap.size, 0, none⟩ 1 1 (ndL m) rfl rfl (ndL_cells wz m _) (ndL_one m) ?_ ?_ ?_ ?_))
            · unfold maxLen; (try simp only [List.length_append, List.length_cons, List.length_nil]); omega
            · (try simp only [List.length_append, List.length_cons, List.length_nil]); omega
            · simp; omega
            intro vy wy howy hgwy _
            have Owy : Hid (OwnN 42 wy (w.heap.size + 1) vy (st1 ++ [m])) := by
              show OwnN _ _ _ _ _
              unfold OwnN
              rw [nrow_one]
              simpa using howy
            have Dwy := hd9 ((Dwz.out.alloc swy _).grown hgwy (by simp; omega) (fun q hq => (World.ownsRow.lt ORwy.out q hq).1))
            clear howy hgwy ORwy
            clear c0 c1 c2 c3 c4 c5 c6 x0 x1 x2 x3 x4 x5 x6
            go_wp2
            exact ⟨⟨k + 1, by omega, by go_num, (by rw [HST.out, HS.out]), (by rw [HST.out, HS.out]; exact Owy), Dwy⟩, by simp [intOf]; omega⟩
        | false =>
          go_wp2
          refine wp_region_held_drew (S := fun W => W.cell? ⟨b, o + k * 7, none⟩ = some (.string m.path) ∧ W.cell? ⟨w.heap.size, 0, none⟩ = some (.string n.path)) (by kernel_rfl) (⟨(HCk.out.below (HD.out.trans ((below_drewN' _ 1).mono (Nat.le_trans s0 HD.out.size))) hb1).c0, (X0.out.belowW (HD.out.trans ((below_drewN' _ 1).mono (Nat.le_trans s0 HD.out.size)))).c0⟩) (fun hHeld => ?_)
          refine wpAnyH_take (i := 0) (oi := { dst := some 15, op := _, type := _, pos := _, after := _, guard := _ }) (v := (.bool false)) rfl (by kernel_rfl) (by kernel_rfl) (by kernel_rfl) (fun _ _ _ h => h) (Or.inl ⟨by rfl, ?hy49⟩) (by assumption) ?rest49
          case hy49 =>
            intro w9 hS9
            obtain ⟨y0, y1⟩ := hS9
            go_simp
          try simp only [Act.put, List.setIfInBounds_toArray, List.set_cons_zero, List.set_cons_succ]
          refine wpAnyH_take (i := 1) (oi := { dst := some 16, op := _, type := _, pos := _, after := _, guard := _ }) (v := (.bool true)) rfl (by kernel_rfl) (by kernel_rfl) (by kernel_rfl) (fun _ _ _ h => h) (Or.inl ⟨by rfl, ?hy50⟩) (by assumption) ?rest50
          case hy50 =>
            intro w9 hS9
            obtain ⟨y0, y1⟩ := hS9
            go_simp
          try simp only [Act.put, List.setIfInBounds_toArray, List.set_cons_zero, List.set_cons_succ]
          refine wpAnyH_take (i := 2) (oi := { dst := some 17, op := _, type := _, pos := _, after := _, guard := _ }) (v := (.bool true)) rfl (by kernel_rfl) (by kernel_rfl) (by kernel_rfl) (fun _ _ _ h => h) (Or.inl ⟨by rfl, ?hy51⟩) (by assumption) ?rest51
          case hy51 =>
            intro w9 hS9
            obtain ⟨y0, y1⟩ := hS9
            go_simp
          try simp only [Act.put, List.setIfInBounds_toArray, List.set_cons_zero, List.set_cons_succ]
          refine wpAnyH_take (i := 3) (oi := { dst := some 18, op := _, type := _, pos := _, after := _, guard := _ }) (v := (.slice (some ⟨b, o, none⟩) N ca)) rfl (by kernel_rfl) (by kernel_rfl) (by kernel_rfl) (fun _ _ _ h => h) (Or.inl ⟨by rfl, ?hy52⟩) (by assumption) ?rest52
          case hy52 =>
            intro w9 hS9
            obtain ⟨y0, y1⟩ := hS9
            go_simp
          try simp only [Act.put, List.setIfInBounds_toArray, List.set_cons_zero, List.set_cons_succ]
          refine wpAnyH_take (i := 4) (oi := { dst := some 19, op := _, type := _, pos := _, after := _, guard := _ }) (v := (.int .i64 (k : Int))) rfl (by kernel_rfl) (by kernel_rfl) (by kernel_rfl) (fun _ _ _ h => h) (Or.inl ⟨by rfl, ?hy53⟩) (by assumption) ?rest53
          case hy53 =>
            intro w9 hS9
            obtain ⟨y0, y1⟩ := hS9
            go_simp
          try simp only [Act.put, List.setIfInBounds_toArray, List.set_cons_zero, List.set_cons_succ]
          refine wpAnyH_take (i := 5) (oi := { dst := some 20, op := _, type := _, pos := _, after := _, guard := _ }) (v := (.pointer (some ⟨b, o + k * 7, none⟩))) rfl (by kernel_rfl) (by kernel_rfl) (by kernel_rfl) (fun _ _ _ h => h) (Or.inl ⟨by rfl, ?hy54⟩) (by assumption) ?rest54
          case hy54 =>
            intro w9 hS9
            obtain ⟨y0, y1⟩ := hS9
            go_simp
          try simp only [Act.put, List.setIfInBounds_toArray, List.set_cons_zero, List.set_cons_succ]
          refine wpAnyH_take (i := 6) (oi := { dst := some 21, op := _, type := _, pos := _, after := _, guard := _ }) (v := (.pointer (some ⟨b, o + k * 7, none⟩))) rfl (by kernel_rfl) (by kernel_rfl) (by kernel_rfl) (fun _ _ _ h => h) (Or.inl ⟨by rfl, ?hy55⟩) (by assumption) ?rest55
          case hy55 =>
            intro w9 hS9
            obtain ⟨y0, y1⟩ := hS9
            go_simp
          try simp only [Act.put, List.setIfInBounds_toArray, List.set_cons_zero, List.set_cons_succ]
          refine wpAnyH_take (i := 7) (oi := { dst := some 22, op := _, type := _, pos := _, after := _, guard := _ }) (v := (.string m.path)) rfl (by kernel_rfl) (by kernel_rfl) (by kernel_rfl) (fun _ _ _ h => h) (Or.inl ⟨by rfl, ?hy56⟩) (by assumption) ?rest56
          case hy56 =>
            intro w9 hS9
            obtain ⟨y0, y1⟩ := hS9
            go_simp
          try simp only [Act.put, List.setIfInBounds_toArray, List.set_cons_zero, List.set_cons_succ]
          refine wpAnyH_take (i := 8) (oi := { dst := some 23, op := _, type := _, pos := _, after := _, guard := _ }) (v := (.pointer (some ⟨w.heap.size, 0, none⟩))) rfl (by kernel_rfl) (by kernel_rfl) (by kernel_rfl) (fun _ _ _ h => h) (Or.inl ⟨by rfl, ?hy57⟩) (by assumption) ?rest57
          case hy57 =>
            intro w9 hS9
            obtain ⟨y0, y1⟩ := hS9
            go_simp
          try simp only [Act.put, List.setIfInBounds_toArray, List.set_cons_zero, List.set_cons_succ]
          refine wpAnyH_take (i := 9) (oi := { dst := some 24, op := _, type := _, pos := _, after := _, guard := _ }) (v := (.string n.path)) rfl (by kernel_rfl) (by kernel_rfl) (by kernel_rfl) (fun _ _ _ h => h) (Or.inl ⟨by rfl, ?hy58⟩) (by assumption) ?rest58
          case hy58 =>
            intro w9 hS9
            obtain ⟨y0, y1⟩ := hS9
            go_simp
          try simp only [Act.put, List.setIfInBounds_toArray, List.set_cons_zero, List.set_cons_succ]
          refine wpAnyH_take (i := 10) (oi := { dst := some 25, op := _, type := _, pos := _, after := _, guard := _ }) (v := (.bool true)) rfl (by kernel_rfl) (by kernel_rfl) (by kernel_rfl) (fun _ _ _ h => h) (Or.inl ⟨by rfl, ?hy59⟩) (by assumption) ?rest59
          case hy59 =>
            intro w9 hS9
            obtain ⟨y0, y1⟩ := hS9
            go_simp
          try simp only [Act.put, List.setIfInBounds_toArray, List.set_cons_zero, List.set_cons_succ]
          refine wpAnyH_take (i := 11) (oi := { dst := some 26, op := _, type := _, pos := _, after := _, guard := _ }) (v := (.bool true)) rfl (by kernel_rfl) (by kernel_rfl) (by kernel_rfl) (fun _ _ _ h => h) (Or.inl ⟨by rfl, ?hy60⟩) (by assumption) ?rest60
          case hy60 =>
            intro w9 hS9
            obtain ⟨y0, y1⟩ := hS9
            go_simp
          try simp only [Act.put, List.setIfInBounds_toArray, List.set_cons_zero, List.set_cons_succ]
          refine wpAnyH_done (by kernel_rfl) ?_ _
          clear hHeld
          have Dw1 : Hid (Below (w.heap.size + 1) w0 wr.drew) := HD.out.trans ((below_drewN' wr 1).mono (Nat.le_trans s0 HD.out.size))
          have Ow1 : Hid (OwnN 42 wr.drew (w.heap.size + 1) u5 st1) := HW.out
          generalize wr.drew = w1 at *
          obtain ⟨c0, c1, c2, c3, c4, c5, c6⟩ := HCk.out.below Dw1.out hb1
          obtain ⟨-, x0, x1, x2, x3, x4, x5, x6⟩ := X0.out.belowW Dw1.out
          have ORw2 : Hid (w1.ownsRow (w.heap.size + 1) 42 7 u5 st1.length (nrow st1)) := Ow1.out
          have sw2 := Nat.le_trans s0 Dw1.out.size
          go_wp2_with (at_builtin; go_must (refine wpList_append_own _ rfl _ _ 23 rfl (w.heap.size + 1) 42 i0 (.agg #[.string ByteArray.empty, .string ByteArray.empty, .int .i64 0, .int .i64 0, .int .i64 0, .int .i64 0, .int .i64 0]) 7 72 Tryz.underlying23 hi hz0 hz1 hz2 rfl (by decide) _ _ _ rfl (ORw2.out.alloc _) ⟨w1.heap.size, 0, none⟩ 1 1 (ndL n) rfl rfl (ndL_cells w1 n _) (ndL_one n) ?_ ?_ ?_ ?_))
          · unfold maxLen; (try simp only [List.length_append, List.length_cons, List.length_nil]); omega
          · (try simp only [List.length_append, List.length_cons, List.length_nil]); omega
          · simp; omega
          intro v2 w2 how2 hgw2 _
          have Ow2 : Hid (OwnN 42 w2 (w.heap.size + 1) v2 (st1 ++ [n])) := by
            show OwnN _ _ _ _ _
            unfold OwnN
            rw [nrow_one]
            simpa using how2
          have Dw2 := hd9 ((Dw1.out.alloc sw2 _).grown hgw2 (by simp; omega) (fun q hq => (World.ownsRow.lt ORw2.out q hq).1))
          clear how2 hgw2 ORw2
          clear c0 c1 c2 c3 c4 c5 c6 x0 x1 x2 x3 x4 x5 x6
          cases heq : (m.path.toList == n.path.toList) with
          | true =>
            have HS : Hid (stW n (st1, false) m = (st1 ++ [n], true)) := by show _ = _; unfold stW; simp [hls, heq]
            go_wp2
            refine wp_region_held_drew (S := fun W => W.cell? ⟨b, o + k * 7, none⟩ = some (.string m.path) ∧ W.cell? ⟨w.heap.size, 0, none⟩ = some (.string n.path)) (by kernel_rfl) (⟨(HCk.out.below (Dw2.out.trans ((below_drewN' _ 1).mono (Nat.le_trans s0 Dw2.out.size))) hb1).c0, (X0.out.belowW (Dw2.out.trans ((below_drewN' _ 1).mono (Nat.le_trans s0 Dw2.out.size)))).c0⟩) (fun hHeld => ?_)
            refine wpAnyH_take (i := 0) (oi := { dst := some 31, op := _, type := _, pos := _, after := _, guard := _ }) (v := (.slice (some ⟨b, o, none⟩) N ca)) rfl (by kernel_rfl) (by kernel_rfl) (by kernel_rfl) (fun _ _ _ h => h) (Or.inl ⟨by rfl, ?hy61⟩) (by assumption) ?rest61
            case hy61 =>
              intro w9 hS9
              obtain ⟨y0, y1⟩ := hS9
              go_simp
            try simp only [Act.put, List.setIfInBounds_toArray, List.set_cons_zero, List.set_cons_succ]
            refine wpAnyH_take (i := 1) (oi := { dst := some 32, op := _, type := _, pos := _, after := _, guard := _ }) (v := (.int .i64 (k : Int))) rfl (by kernel_rfl) (by kernel_rfl) (by kernel_rfl) (fun _ _ _ h => h) (Or.inl ⟨by rfl, ?hy62⟩) (by assumption) ?rest62
            case hy62 =>
              intro w9 hS9
              obtain ⟨y0, y1⟩ := hS9
              go_simp
            try simp only [Act.put, List.setIfInBounds_toArray, List.set_cons_zero, List.set_cons_succ]
            refine wpAnyH_take (i := 2) (oi := { dst := some 33, op := _, type := _, pos := _, after := _, guard := _ }) (v := (.pointer (some ⟨b, o + k * 7, none⟩))) rfl (by kernel_rfl) (by kernel_rfl) (by kernel_rfl) (fun _ _ _ h => h) (Or.inl ⟨by rfl, ?hy63⟩) (by assumption) ?rest63
            case hy63 =>
              intro w9 hS9
              obtain ⟨y0, y1⟩ := hS9
              go_simp
            try simp only [Act.put, List.setIfInBounds_toArray, List.set_cons_zero, List.set_cons_succ]
            refine wpAnyH_take (i := 3) (oi := { dst := some 34, op := _, type := _, pos := _, after := _, guard := _ }) (v := (.pointer (some ⟨b, o + k * 7, none⟩))) rfl (by kernel_rfl) (by kernel_rfl) (by kernel_rfl) (fun _ _ _ h => h) (Or.inl ⟨by rfl, ?hy64⟩) (by assumption) ?rest64
            case hy64 =>
              intro w9 hS9
              obtain ⟨y0, y1⟩ := hS9
              go_simp
            try simp only [Act.put, List.setIfInBounds_toArray, List.set_cons_zero, List.set_cons_succ]
            refine wpAnyH_take (i := 4) (oi := { dst := some 35, op := _, type := _, pos := _, after := _, guard := _ }) (v := (.string m.path)) rfl (by kernel_rfl) (by kernel_rfl) (by kernel_rfl) (fun _ _ _ h => h) (Or.inl ⟨by rfl, ?hy65⟩) (by assumption) ?rest65
            case hy65 =>
              intro w9 hS9
              obtain ⟨y0, y1⟩ := hS9
              go_simp
            try simp only [Act.put, List.setIfInBounds_toArray, List.set_cons_zero, List.set_cons_succ]
            refine wpAnyH_take (i := 5) (oi := { dst := some 36, op := _, type := _, pos := _, after := _, guard := _ }) (v := (.pointer (some ⟨w.heap.size, 0, none⟩))) rfl (by kernel_rfl) (by kernel_rfl) (by kernel_rfl) (fun _ _ _ h => h) (Or.inl ⟨by rfl, ?hy66⟩) (by assumption) ?rest66
            case hy66 =>
              intro w9 hS9
              obtain ⟨y0, y1⟩ := hS9
              go_simp
            try simp only [Act.put, List.setIfInBounds_toArray, List.set_cons_zero, List.set_cons_succ]
            refine wpAnyH_take (i := 6) (oi := { dst := some 37, op := _, type := _, pos := _, after := _, guard := _ }) (v := (.string n.path)) rfl (by kernel_rfl) (by kernel_rfl) (by kernel_rfl) (fun _ _ _ h => h) (Or.inl ⟨by rfl, ?hy67⟩) (by assumption) ?rest67
            case hy67 =>
              intro w9 hS9
              obtain ⟨y0, y1⟩ := hS9
              go_simp
            try simp only [Act.put, List.setIfInBounds_toArray, List.set_cons_zero, List.set_cons_succ]
            refine wpAnyH_take (i := 7) (oi := { dst := some 38, op := _, type := _, pos := _, after := _, guard := _ }) (v := (.bool false)) rfl (by kernel_rfl) (by kernel_rfl) (by kernel_rfl) (fun _ _ _ h => h) (Or.inl ⟨by rfl, ?hy68⟩) (by assumption) ?rest68
            case hy68 =>
              intro w9 hS9
              obtain ⟨y0, y1⟩ := hS9
              go_simp
            try simp only [Act.put, List.setIfInBounds_toArray, List.set_cons_zero, List.set_cons_succ]
            refine wpAnyH_done (by kernel_rfl) ?_ _
            clear hHeld
            have Dwz : Hid (Below (w.heap.size + 1) w0 w2.drew) := Dw2.out.trans ((below_drewN' w2 1).mono (Nat.le_trans s0 Dw2.out.size))
            have Owz : Hid (OwnN 42 w2.drew (w.heap.size + 1) v2 (st1 ++ [n])) := Ow2.out
            generalize w2.drew = wz at *
            go_wp2
            exact ⟨⟨k + 1, by omega, by go_num, (by rw [HST.out, HS.out]), (by rw [HST.out, HS.out]; exact Owz), Dwz⟩, by simp [intOf]; omega⟩
          | false =>
            have HS : Hid (stW n (st1, false) m = (st1 ++ [n] ++ [m], true)) := by show _ = _; unfold stW; simp [hls, heq]
            go_wp2
            refine wp_region_held_drew (S := fun W => W.cell? ⟨b, o + k * 7, none⟩ = some (.string m.path) ∧ W.cell? ⟨w.heap.size, 0, none⟩ = some (.string n.path)) (by kernel_rfl) (⟨(HCk.out.below (Dw2.out.trans ((below_drewN' _ 1).mono (Nat.le_trans s0 Dw2.out.size))) hb1).c0, (X0.out.belowW (Dw2.out.trans ((below_drewN' _ 1).mono (Nat.le_trans s0 Dw2.out.size)))).c0⟩) (fun hHeld => ?_)
            refine wpAnyH_take (i := 0) (oi := { dst := some 31, op := _, type := _, pos := _, after := _, guard := _ }) (v := (.slice (some ⟨b, o, none⟩) N ca)) rfl (by kernel_rfl) (by kernel_rfl) (by kernel_rfl) (fun _ _ _ h => h) (Or.inl ⟨by rfl, ?hy69⟩) (by assumption) ?rest69
            case hy69 =>
              intro w9 hS9
              obtain ⟨y0, y1⟩ := hS9
              go_simp
            try simp only [Act.put, List.setIfInBounds_toArray, List.set_cons_zero, List.set_cons_succ]
            refine wpAnyH_take (i := 1) (oi := { dst := some 32, op := _, type := _, pos := _, after := _, guard := _ }) (v := (.int .i64 (k : Int))) rfl (by kernel_rfl) (by kernel_rfl) (by kernel_rfl) (fun _ _ _ h => h) (Or.inl ⟨by rfl, ?hy70⟩) (by assumption) ?rest70
            case hy70 =>
              intro w9 hS9
              obtain ⟨y0, y1⟩ := hS9
              go_simp
            try simp only [Act.put, List.setIfInBounds_toArray, List.set_cons_zero, List.set_cons_succ]
            refine wpAnyH_take (i := 2) (oi := { dst := some 33, op := _, type := _, pos := _, after := _, guard := _ }) (v := (.pointer (some ⟨b, o + k * 7, none⟩))) rfl (by kernel_rfl) (by kernel_rfl) (by kernel_rfl) (fun _ _ _ h => h) (Or.inl ⟨by rfl, ?hy71⟩) (by assumption) ?rest71
            case hy71 =>
              intro w9 hS9
              obtain ⟨y0, y1⟩ := hS9
              go_simp
            try simp only [Act.put, List.setIfInBounds_toArray, List.set_cons_zero, List.set_cons_succ]
            refine wpAnyH_take (i := 3) (oi := { dst := some 34, op := _, type := _, pos := _, after := _, guard := _ }) (v := (.pointer (some ⟨b, o + k * 7, none⟩))) rfl (by kernel_rfl) (by kernel_rfl) (by kernel_rfl) (fun _ _ _ h => h) (Or.inl ⟨by rfl, ?hy72⟩) (by assumption) ?rest72
            case hy72 =>
              intro w9 hS9
              obtain ⟨y0, y1⟩ := hS9
              go_simp
            try simp only [Act.put, List.setIfInBounds_toArray, List.set_cons_zero, List.set_cons_succ]
            refine wpAnyH_take (i := 4) (oi := { dst := some 35, op := _, type := _, pos := _, after := _, guard := _ }) (v := (.string m.path)) rfl (by kernel_rfl) (by kernel_rfl) (by kernel_rfl) (fun _ _ _ h => h) (Or.inl ⟨by rfl, ?hy73⟩) (by assumption) ?rest73
            case hy73 =>
              intro w9 hS9
              obtain ⟨y0, y1⟩ := hS9
              go_simp
            try simp only [Act.put, List.setIfInBounds_toArray, List.set_cons_zero, List.set_cons_succ]
            refine wpAnyH_take (i := 5) (oi := { dst := some 36, op := _, type := _, pos := _, after := _, guard := _ }) (v := (.pointer (some ⟨w.heap.size, 0, none⟩))) rfl (by kernel_rfl) (by kernel_rfl) (by kernel_rfl) (fun _ _ _ h => h) (Or.inl ⟨by rfl, ?hy74⟩) (by assumption) ?rest74
            case hy74 =>
              intro w9 hS9
              obtain ⟨y0, y1⟩ := hS9
              go_simp
            try simp only [Act.put, List.setIfInBounds_toArray, List.set_cons_zero, List.set_cons_succ]
            refine wpAnyH_take (i := 6) (oi := { dst := some 37, op := _, type := _, pos := _, after := _, guard := _ }) (v := (.string n.path)) rfl (by kernel_rfl) (by kernel_rfl) (by kernel_rfl) (fun _ _ _ h => h) (Or.inl ⟨by rfl, ?hy75⟩) (by assumption) ?rest75
            case hy75 =>
              intro w9 hS9
              obtain ⟨y0, y1⟩ := hS9
              go_simp
            try simp only [Act.put, List.setIfInBounds_toArray, List.set_cons_zero, List.set_cons_succ]
            refine wpAnyH_take (i := 7) (oi := { dst := some 38, op := _, type := _, pos := _, after := _, guard := _ }) (v := (.bool true)) rfl (by kernel_rfl) (by kernel_rfl) (by kernel_rfl) (fun _ _ _ h => h) (Or.inl ⟨by rfl, ?hy76⟩) (by assumption) ?rest76
            case hy76 =>
              intro w9 hS9
              obtain ⟨y0, y1⟩ := hS9
              go_simp
            try simp only [Act.put, List.setIfInBounds_toArray, List.set_cons_zero, List.set_cons_succ]
            refine wpAnyH_done (by kernel_rfl) ?_ _
            clear hHeld
            have Dwz : Hid (Below (w.heap.size + 1) w0 w2.drew) := Dw2.out.trans ((below_drewN' w2 1).mono (Nat.le_trans s0 Dw2.out.size))
            have Owz : Hid (OwnN 42 w2.drew (w.heap.size + 1) v2 (st1 ++ [n])) := Ow2.out
            generalize w2.drew = wz at *
            obtain ⟨c0, c1, c2, c3, c4, c5, c6⟩ := HCk.out.below Dwz.out hb1
            obtain ⟨-, x0, x1, x2, x3, x4, x5, x6⟩ := X0.out.belowW Dwz.out
            have ORwy : Hid (wz.ownsRow (w.heap.size + 1) 42 7 v2 (st1 ++ [n]).length (nrow (st1 ++ [n]))) := Owz.out
            have swy := Nat.le_trans s0 Dwz.out.size
            go_wp2_with (at_builtin; go_must (refine wpList_append_own _ rfl _ _ 23 rfl (w.heap.size + 1) 42 i0 (.agg #[.string ByteArray.empty, .string ByteArray.empty, .int .i64 0, .int .i64 0, .int .i64 0, .int .i64 0, .int .i64 0]) 7 72 Tryz.underlying23 hi hz0 hz1 hz2 rfl (by decide) _ _ _ rfl (ORwy.out.alloc _) ⟨wz.heap.size, 0, none⟩ 1 1 (ndL m) rfl rfl (ndL_cells wz m _) (ndL_one m) ?_ ?_ ?_ ?_))
            · unfold maxLen; (try simp only [List.length_append, List.length_cons, List.length_nil]); omega
            · (try simp only [List.length_append, List.length_cons, List.length_nil]); omega
            · simp; omega
            intro vy wy howy hgwy _
            have Owy : Hid (OwnN 42 wy (w.heap.size + 1) vy ((st1 ++ [n]) ++ [m])) := by
              show OwnN _ _ _ _ _
              unfold OwnN
              rw [nrow_one]
              simpa using howy
            have Dwy := hd9 ((Dwz.out.alloc swy _).grown hgwy (by simp; omega) (fun q hq => (World.ownsRow.lt ORwy.out q hq).1))
            clear howy hgwy ORwy
            clear c0 c1 c2 c3 c4 c5 c6 x0 x1 x2 x3 x4 x5 x6
            go_wp2
            exact ⟨⟨k + 1, by omega, by go_num, (by rw [HST.out, HS.out]), (by rw [HST.out, HS.out]; exact Owy), Dwy⟩, by simp [intOf]; omega⟩
    · have hkn : k = N := by omega
      subst hkn
      have HT : Hid (wiF (ns.take k) n = wiF ns n) := by show _ = _; rw [List.take_of_length_le (by rw [HP.out]; exact Nat.le_refl _)]
      rw [HT.out] at HW ⊢
      have HWN : Hid (wiN ns n = if (wiF ns n).2 then (wiF ns n).1 else (wiF ns n).1 ++ [n]) := rfl
      rw [HT.out] at hll
      generalize wiF ns n = st at *
      obtain ⟨st1, st2⟩ := st
      simp only at hll HW HWN
      obtain ⟨-, x0, x1, x2, x3, x4, x5, x6⟩ := X0.out.belowW HD.out
      cases st2 with
      | true =>
        go_wp2
        go_ret
        exact ⟨_, rfl, (by rw [HWN.out]; exact OwnN.mono HW.out (Nat.le_succ _)), B0.out.trans (HD.out.mono (Nat.le_succ _))⟩
      | false =>
        have ORw2 : Hid (wr.ownsRow (w.heap.size + 1) 42 7 u5 st1.length (nrow st1)) := HW.out
        have sw2 := Nat.le_trans s0 HD.out.size
        go_wp2_with (at_builtin; go_must (refine wpList_append_own _ rfl _ _ 23 rfl (w.heap.size + 1) 42 i0 (.agg #[.string ByteArray.empty, .string ByteArray.empty, .int .i64 0, .int .i64 0, .int .i64 0, .int .i64 0, .int .i64 0]) 7 72 Tryz.underlying23 hi hz0 hz1 hz2 rfl (by decide) _ _ _ rfl (ORw2.out.alloc _) ⟨wr.heap.size, 0, none⟩ 1 1 (ndL n) rfl rfl (ndL_cells wr n _) (ndL_one n) ?_ ?_ ?_ ?_))
        · unfold maxLen; (try simp only [List.length_append, List.length_cons, List.length_nil]); omega
        · (try simp only [List.length_append, List.length_cons, List.length_nil]); omega
        · simp; omega
        intro v2 w2 how2 hgw2 _
        have Ow2 : Hid (OwnN 42 w2 (w.heap.size + 1) v2 (st1 ++ [n])) := by
          show OwnN _ _ _ _ _
          unfold OwnN
          rw [nrow_one]
          simpa using how2
        have Dw2 := hd9 ((HD.out.alloc sw2 _).grown hgw2 (by simp; omega) (fun q hq => (World.ownsRow.lt ORw2.out q hq).1))
        clear how2 hgw2 ORw2
        go_wp2
        go_ret
        exact ⟨_, rfl, (by rw [HWN.out]; exact OwnN.mono Ow2.out (Nat.le_succ _)), B0.out.trans (Dw2.out.mono (Nat.le_succ _))⟩

end Go.Proofs.YtdiingonnddkcaaGreatDoor


