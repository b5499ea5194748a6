import Derived.Test.YtgjenbgclpmjmaaImplDec
import Derived.Test.YtgjenbgclpmjmaaSpecSuper
import Derived.Test.YtgjenbgclpmjmaaStepOwn
namespace Go.Proofs.Ytgjenbgclpmjmaa
open Go.RowKit

theorem numB_mono (xs : List Int) (i : Nat) (h : i ≤ xs.length) : numB (xs.take i) ≤ numB xs := by
  have key : ∀ d i, i + d = xs.length → numB (xs.take i) ≤ numB xs := by
    intro d
    induction d with
    | zero => intro i hi; rw [List.take_of_length_le (by omega)]; exact Nat.le_refl _
    | succ d ih =>
      intro i hi
      have := ih (i + 1) (by omega)
      rw [take_succ_getD xs i (by omega), numB_snoc] at this
      omega
  exact key (xs.length - i) i (by omega)

set_option maxHeartbeats 400000 in
set_option maxRecDepth 100000 in
theorem specNum_any (w : World) (b o n c : Nat) (xs : List Int) (hx : xs.length = n) (hby : Byt xs) (hc : ∀ i, i < n → w.cell? ⟨b, o + i, none⟩ = some (.int .u8 (xs.getD i 0))) (hN : numB xs < 9223372036854775808) (hn : n ≤ 8) :
    Calls Try.prog 35 #[.slice (some ⟨b, o, none⟩) n c] w fun e w' => e = .returned (.int .i64 ((numB xs : Nat) : Int)) ∧ ∃ q, w' = w.drewN q := by
  have HC : Hid (∀ i, i < n → w.cell? ⟨b, o + i, none⟩ = some (.int .u8 (xs.getD i 0))) := hc
  have HBY : Hid (Byt xs) := hby
  have HX : Hid (xs.length = n) := hx
  have HN : Hid (numB xs < 9223372036854775808) := hN
  clear hc hby hx hN
  go_enter Try.func35, Try.ntmps35
  go_wp2
  go_loopw [3, 4] (fun vn vi wr => ∃ (i V : Nat), i ≤ n ∧ vi = .int .i64 i ∧ vn = .int .i64 V ∧ Hid (V = numB (xs.take i)) ∧ ∃ q, wr = w.drewN q) (fun _ i _ => n - (intOf i).toNat)
  case atStart => exact ⟨0, 0, Nat.zero_le _, rfl, rfl, (by show 0 = _; rw [List.take_zero, numB_nil]), 0, rfl⟩
  case round =>
    obtain ⟨i, V, hi, rfl, rfl, HV, q, rfl⟩ := hrel
    by_cases hlt : i < n
    · have hI : (i : Int) < (n : Int) := by omega
      obtain ⟨x, hx, hxe⟩ := byt_at HBY.out i
      have c1 : w.cell? ⟨b, o + i, none⟩ = some (.int .u8 (x : Int)) := by rw [HC.out i hlt, hxe]
      have HT : Hid (V * 256 + x = numB (xs.take (i + 1))) := by show _ = _; rw [take_succ_getD xs i (by rw [HX.out]; exact hlt), numB_snoc, hxe, HV.out, Int.toNat_natCast]
      have hle : V * 256 + x < 9223372036854775808 := by
        have h1 := numB_mono xs (i + 1) (by rw [HX.out]; omega)
        have h2 := HN.out
        rw [HT.out]; omega
      clear hxe
      go_wp2
      exact ⟨⟨i + 1, V * 256 + x, by omega, by go_num, by go_num, HT, q, rfl⟩, by simp [intOf]; omega⟩
    · have him : i = n := by omega
      subst him
      have HVE : Hid (((V : Nat) : Int) = ((numB xs : Nat) : Int)) := by show _ = _; rw [HV.out, List.take_of_length_le (by rw [HX.out]; exact Nat.le_refl _)]
      go_wp2
      go_ret
      exact ⟨ret_int HVE.out, _, rfl⟩

set_option maxHeartbeats 400000 in
set_option maxRecDepth 100000 in
theorem specDec_len (w : World) (ao : Option Addr) (n cap : Nat) (hn : n ≠ 64) :
    Calls Try.prog 14 #[.slice ao n cap] w fun e w' => e = .returned zeroV ∧ Below w.heap.size w w' := by
  have h1 : ((n : Int) != 64) = true := by rw [bne_iff_ne]; omega
  go_enter Try.func14, Try.ntmps14
  go_wp2
  refine bodyPost_ret (v := zeroV) (by simp [results, Try.results14, go_sem, zeroV]) rfl ⟨rfl, ?_⟩
  exact (Below.refl _ _).alloc (Nat.le_refl _) _

set_option maxHeartbeats 400000 in
set_option maxRecDepth 100000 in
theorem specDec_head (w : World) (b o cap x : Nat) (hb : b < w.heap.size) (h0 : w.cell? ⟨b, o, none⟩ = some (.int .u8 (x : Int))) (hx : 127 < x) :
    Calls Try.prog 14 #[.slice (some ⟨b, o, none⟩) 64 cap] w fun e w' => e = .returned zeroV ∧ Below w.heap.size w w' := by
  have h1 : (127 : Int) < (x : Int) := by omega
  go_enter Try.func14, Try.ntmps14
  go_wp2
  refine bodyPost_ret (v := zeroV) (by simp [results, Try.results14, go_sem, zeroV]) rfl ⟨rfl, ?_⟩
  exact (Below.refl _ _).alloc (Nat.le_refl _) _

/-- The call's world, with the answer's own variable. -/
def ES (w W : World) : Prop := Below w.heap.size w W ∧ Zr W w.heap.size ∧ (∀ j, W.frozen? ⟨w.heap.size, j, none⟩ = false) ∧ w.heap.size < W.heap.size
theorem ES.drewN {w W : World} (h : ES w W) (q : Nat) : ES w (W.drewN q) := ⟨h.1.trans ((below_drewN' W q).mono h.1.size), h.2.1, h.2.2.1, h.2.2.2⟩
theorem ES.keep {w W W' : World} (h : ES w W) (hb : Below W.heap.size W W') : ES w W' :=
  ⟨h.1.trans (hb.mono h.1.size), Zr.same h.2.1 (fun j => hb.cell (p := ⟨w.heap.size, j, none⟩) h.2.2.2), fun j => (hb.frozen (p := ⟨w.heap.size, j, none⟩) h.2.2.2).trans (h.2.2.1 j), Nat.lt_of_lt_of_le h.2.2.2 hb.size⟩
theorem ES.set {w W : World} (h : ES w W) {k : Nat} (hk : w.heap.size < k) (i : Nat) (v : Value) : ES w (W.setCell ⟨k, i, none⟩ v) :=
  ⟨h.1.setCell (show w.heap.size ≤ k by omega) _, Zr.same h.2.1 (fun j => World.cell?_setCell_other _ _ _ _ (by intro e; injection e with e; omega)), fun j => by rw [World.frozen?_setCell]; exact h.2.2.1 j, by simpa using h.2.2.2⟩
/-- A superblock's box, to be written. -/
def Bf5 (W : World) (k : Nat) : Prop := Bx5 W k 0 0 0 0 0 ∧ ∀ j, W.frozen? ⟨k, j, none⟩ = false
theorem Bf5.drewN {W : World} {k : Nat} (h : Bf5 W k) (q : Nat) : Bf5 (W.drewN q) k := h
theorem Bf5.new (W : World) : Bf5 (W.alloc (.cells #[.int .i64 0, .int .i64 0, .int .i64 0, .int .i64 0, .int .i64 0] 35)) W.heap.size := ⟨Bx5.new W 0 0 0 0 0 _, fun j => (by go_simp)⟩
theorem Bf5.fill {W : World} {k : Nat} (h : Bf5 W k) (g b s l c : Int) : Bx5 (((((W.setCell ⟨k, 0, none⟩ (.int .i64 g)).setCell ⟨k, 1, none⟩ (.int .i64 b)).setCell ⟨k, 2, none⟩ (.int .i64 s)).setCell ⟨k, 3, none⟩ (.int .i64 l)).setCell ⟨k, 4, none⟩ (.int .i64 c)) k g b s l c := by
  obtain ⟨x0, x1, x2, x3, x4, x5⟩ := h.1
  refine ⟨by simpa using x0, ?_, ?_, ?_, ?_, ?_⟩ <;> simp [go_sem, x1, x2, x3, x4, x5]

theorem ES.fill {w W : World} (h : ES w W) {k : Nat} (hk : w.heap.size < k) (g b s l c : Int) : ES w (((((W.setCell ⟨k, 0, none⟩ (.int .i64 g)).setCell ⟨k, 1, none⟩ (.int .i64 b)).setCell ⟨k, 2, none⟩ (.int .i64 s)).setCell ⟨k, 3, none⟩ (.int .i64 l)).setCell ⟨k, 4, none⟩ (.int .i64 c)) :=
  ((((h.set hk 0 _).set hk 1 _).set hk 2 _).set hk 3 _).set hk 4 _

theorem num_small {xs : List Int} (h : Byt xs) (hl : xs.length ≤ 4) : numB xs < 9223372036854775808 := by
  have hb := (bigR_numB xs.length xs rfl h).2
  have h1 : 256 ^ xs.length ≤ 256 ^ 4 := Nat.pow_le_pow_right (by omega) hl
  have h2 : numB xs < 4294967296 := Nat.lt_of_lt_of_le hb h1
  omega

theorem sub_cells {w : World} {b o : Nat} {ys : List Int} {N : Nat} (hc : ∀ i, i < N → w.cell? ⟨b, o + i, none⟩ = some (.int .u8 (ys.getD i 0))) (p n : Nat) (h : p + n ≤ N) : ∀ i, i < n → w.cell? ⟨b, o + p + i, none⟩ = some (.int .u8 (((ys.drop p).take n).getD i 0)) := by
  intro i hi
  rw [Nat.add_assoc, hc (p + i) (by omega)]
  simp [List.getD, List.getElem?_take_of_lt hi]

theorem num_head {ys : List Int} (h : Byt ys) (hl : 8 ≤ ys.length) (hx : ys.getD 0 0 ≤ 127) : numB (ys.take 8) < 9223372036854775808 := by
  match ys, hl with
  | a :: b :: c :: d :: e :: f :: g :: i :: rest, _ =>
    have h0 := h a (by simp)
    have h1 := h b (by simp)
    have h2 := h c (by simp)
    have h3 := h d (by simp)
    have h4 := h e (by simp)
    have h5 := h f (by simp)
    have h6 := h g (by simp)
    have h7 := h i (by simp)
    simp at hx
    simp [numB]
    omega

set_option maxHeartbeats 2000000 in
set_option maxRecDepth 100000 in
theorem specDec_row (w : World) (b o cap x : Nat) (ys : List Int) (hl : ys.length = 64) (hb : b < w.heap.size) (hc : ∀ i, i < 64 → w.cell? ⟨b, o + i, none⟩ = some (.int .u8 (ys.getD i 0))) (hcap : 64 ≤ cap) (hcm : cap ≤ maxLen) (h0 : w.cell? ⟨b, o, none⟩ = some (.int .u8 (x : Int))) (hx : x ≤ 127) (hxe : ys.getD 0 0 = (x : Int)) (hby : Byt ys) :
    Calls Try.prog 14 #[.slice (some ⟨b, o, none⟩) 64 cap] w fun e w' => e = .returned (decV ys) ∧ Below w.heap.size w w' := by
  have h1 : ¬ (127 : Int) < (x : Int) := by omega
  have hN : numB (ys.take 8) < 9223372036854775808 := num_head hby (by omega) (by rw [hxe]; omega)
  have hbs : ∀ p n, Byt ((ys.drop p).take n) := fun p n y hy => hby y (List.mem_of_mem_drop (List.mem_of_mem_take hy))
  have hlen : ∀ p n, p + n ≤ 64 → ((ys.drop p).take n).length = n := fun p n h => by rw [List.length_take, List.length_drop]; omega
  obtain ⟨x8, hx8, hx8e⟩ := byt_at hby 8
  obtain ⟨n0, hn0⟩ : ∃ n, n = numB (ys.take 8) := ⟨_, rfl⟩
  obtain ⟨n2, hn2⟩ : ∃ n, n = numB ((ys.drop 9).take 4) := ⟨_, rfl⟩
  obtain ⟨n3, hn3⟩ : ∃ n, n = numB ((ys.drop 13).take 4) := ⟨_, rfl⟩
  obtain ⟨n4, hn4⟩ : ∃ n, n = numB ((ys.drop 17).take 4) := ⟨_, rfl⟩
  have C0 : Hid (∀ W, ES w W → Calls Try.prog 35 #[.slice (some ⟨b, o, none⟩) 8 cap] W fun e w' => e = .returned (.int .i64 (n0 : Int)) ∧ ∃ q, w' = W.drewN q) := fun W hW => by
    rw [hn0]
    exact specNum_any W b o 8 cap (ys.take 8) (by rw [List.length_take]; omega) (fun y hy => hby y (List.mem_of_mem_take hy)) (fun i hi => by rw [hW.1.cell (p := ⟨b, o + i, none⟩) hb, hc i (by omega)]; simp [List.getD, List.getElem?_take_of_lt hi]) hN (by omega)
  have C1 : Hid (∀ W, ES w W → Calls Try.prog 35 #[.slice (some ⟨b, o + 9, none⟩) 4 (cap - 9)] W fun e w' => e = .returned (.int .i64 (n2 : Int)) ∧ ∃ q, w' = W.drewN q) := fun W hW => by
    rw [hn2]
    exact specNum_any W b (o + 9) 4 (cap - 9) ((ys.drop 9).take 4) (hlen 9 4 (by omega)) (hbs 9 4) (fun i hi => by rw [hW.1.cell (p := ⟨b, o + 9 + i, none⟩) hb]; exact sub_cells hc 9 4 (by omega) i hi) (num_small (hbs 9 4) (by rw [hlen 9 4 (by omega)]; omega)) (by omega)
  have C2 : Hid (∀ W, ES w W → Calls Try.prog 35 #[.slice (some ⟨b, o + 13, none⟩) 4 (cap - 13)] W fun e w' => e = .returned (.int .i64 (n3 : Int)) ∧ ∃ q, w' = W.drewN q) := fun W hW => by
    rw [hn3]
    exact specNum_any W b (o + 13) 4 (cap - 13) ((ys.drop 13).take 4) (hlen 13 4 (by omega)) (hbs 13 4) (fun i hi => by rw [hW.1.cell (p := ⟨b, o + 13 + i, none⟩) hb]; exact sub_cells hc 13 4 (by omega) i hi) (num_small (hbs 13 4) (by rw [hlen 13 4 (by omega)]; omega)) (by omega)
  have C3 : Hid (∀ W, ES w W → Calls Try.prog 35 #[.slice (some ⟨b, o + 17, none⟩) 4 (cap - 17)] W fun e w' => e = .returned (.int .i64 (n4 : Int)) ∧ ∃ q, w' = W.drewN q) := fun W hW => by
    rw [hn4]
    exact specNum_any W b (o + 17) 4 (cap - 17) ((ys.drop 17).take 4) (hlen 17 4 (by omega)) (hbs 17 4) (fun i hi => by rw [hW.1.cell (p := ⟨b, o + 17 + i, none⟩) hb]; exact sub_cells hc 17 4 (by omega) i hi) (num_small (hbs 17 4) (by rw [hlen 17 4 (by omega)]; omega)) (by omega)
  have HG : Hid ((n0 : Int) < 9223372036854775808) := by show _ < _; rw [hn0]; omega
  have C8 : Hid (∀ W, ES w W → W.cell? ⟨b, o + 8, none⟩ = some (.int .u8 (x8 : Int))) := fun W hW => by rw [hW.1.cell (p := ⟨b, o + 8, none⟩) hb, hc 8 (by omega), hx8e]
  have HR : Hid (Rd .u8 w (.slice (some ⟨b, o, none⟩) 64 cap) ys) := ⟨some ⟨b, o, none⟩, cap, by rw [hl], by omega, hcm, .inr ⟨b, o, rfl, hb, fun i hi => hc i (by omega)⟩⟩
  have HBY : Hid (Byt ys) := hby
  have HDV : Hid (decV ys = if sup (n0 : Int) (x8 : Int) (n2 : Int) (n3 : Int) (n4 : Int) = ys then .agg #[.bool true, .int .i64 (n0 : Int), .int .i64 (x8 : Int), .int .i64 (n2 : Int), .int .i64 (n3 : Int), .int .i64 (n4 : Int)] else zeroV) := by
    refine dec_eq hby (by omega) ?_ ?_ ?_ ?_ ?_
    · rw [hn0]; unfold wrap64; omega
    · rw [wrap_small (fun y hy => hby y (List.mem_of_mem_drop hy)) 1 (by omega)]
      have e : (ys.drop 8).take 1 = [(x8 : Int)] := by
        have hl8 : 8 < ys.length := by omega
        rw [← hx8e, List.drop_eq_getElem_cons hl8, List.take_succ_cons, List.take_zero]
        simp [List.getD, hl8]
      rw [e]; simp [numB]
    · rw [hn2, wrap_small (fun y hy => hby y (List.mem_of_mem_drop hy)) 4 (by omega)]
    · rw [hn3, wrap_small (fun y hy => hby y (List.mem_of_mem_drop hy)) 4 (by omega)]
    · rw [hn4, wrap_small (fun y hy => hby y (List.mem_of_mem_drop hy)) 4 (by omega)]
  clear hN hbs hlen hn0 hn2 hn3 hn4 hc hx8e hby hxe hl
  go_enter Try.func14, Try.ntmps14
  go_wp2_with fail
  have E0 : Hid (ES w (w.alloc (.cells #[.bool false, .int .i64 0, .int .i64 0, .int .i64 0, .int .i64 0, .int .i64 0] 39))) := ⟨(Below.refl _ _).alloc (Nat.le_refl _) _, ⟨(by go_simp), (by go_simp), (by go_simp), (by go_simp), (by go_simp), (by go_simp)⟩, fun j => (by go_simp), by simp⟩
  generalize w.alloc (.cells #[.bool false, .int .i64 0, .int .i64 0, .int .i64 0, .int .i64 0, .int .i64 0] 39) = W0 at *
  refine wp_region_held_drew (S := fun W => ES w W) (by kernel_rfl) (E0.out.drewN 1) (fun hHeld => ?_)
  generalize W0.drew = W1 at *
  clear E0
  have hk8 : ¬ (cap : Int) < 8 := by omega
  have hk13 : (13 : Int) ≤ (cap : Int) := by omega
  have hk17 : (17 : Int) ≤ (cap : Int) := by omega
  have hk21 : (21 : Int) ≤ (cap : Int) := by omega
  have hn9 : ¬ cap = 9 := by omega
  have hn13 : ¬ cap = 13 := by omega
  have hn17 : ¬ cap = 17 := by omega
  have hw8 : IntKind.i64.wrap (x8 : Int) = (x8 : Int) := by rw [IntKind.wrap_i64]; omega
  refine wpAnyH_take (i := 0) (oi := { dst := some 14, op := _, type := _, pos := _, after := _, guard := _ }) (v := (.slice (some ⟨b, o, none⟩) 64 cap)) rfl (by kernel_rfl) (by kernel_rfl) (by kernel_rfl) (fun _ _ _ h => h) (Or.inl ⟨by rfl, fun w' hSw => ?_⟩) (by assumption) ?_
  · clear hSw
    go_simp
  try simp only [Act.put, List.setIfInBounds_toArray, List.set_cons_zero, List.set_cons_succ]
  refine wpAnyH_take (i := 1) (oi := { dst := some 15, op := _, type := _, pos := _, after := _, guard := _ }) (v := (.slice (some ⟨b, o, none⟩) 8 cap)) rfl (by kernel_rfl) (by kernel_rfl) (by kernel_rfl) (fun _ _ _ h => h) (Or.inl ⟨by rfl, fun w' hSw => ?_⟩) (by assumption) ?_
  · clear hSw
    go_simp
  try simp only [Act.put, List.setIfInBounds_toArray, List.set_cons_zero, List.set_cons_succ]
  refine wpAnyH_take (i := 3) (oi := { dst := some 17, op := _, type := _, pos := _, after := _, guard := _ }) (v := (.slice (some ⟨b, o, none⟩) 64 cap)) rfl (by kernel_rfl) (by kernel_rfl) (by kernel_rfl) (fun _ _ _ h => h) (Or.inl ⟨by rfl, fun w' hSw => ?_⟩) (by assumption) ?_
  · clear hSw
    go_simp
  try simp only [Act.put, List.setIfInBounds_toArray, List.set_cons_zero, List.set_cons_succ]
  refine wpAnyH_take (i := 4) (oi := { dst := some 18, op := _, type := _, pos := _, after := _, guard := _ }) (v := (.pointer (some ⟨b, o + 8, none⟩))) rfl (by kernel_rfl) (by kernel_rfl) (by kernel_rfl) (fun _ _ _ h => h) (Or.inl ⟨by rfl, fun w' hSw => ?_⟩) (by assumption) ?_
  · clear hSw
    go_simp
  try simp only [Act.put, List.setIfInBounds_toArray, List.set_cons_zero, List.set_cons_succ]
  refine wpAnyH_take (i := 5) (oi := { dst := some 19, op := _, type := _, pos := _, after := _, guard := _ }) (v := (.int .u8 (x8 : Int))) rfl (by kernel_rfl) (by kernel_rfl) (by kernel_rfl) (fun _ _ _ h => h) (Or.inl ⟨by rfl, fun w' hSw => ?_⟩) (by assumption) ?_
  · have hc8 := C8.out _ hSw
    go_simp
  try simp only [Act.put, List.setIfInBounds_toArray, List.set_cons_zero, List.set_cons_succ]
  refine wpAnyH_take (i := 6) (oi := { dst := some 20, op := _, type := _, pos := _, after := _, guard := _ }) (v := (.int .i64 (x8 : Int))) rfl (by kernel_rfl) (by kernel_rfl) (by kernel_rfl) (fun _ _ _ h => h) (Or.inl ⟨by rfl, fun w' hSw => ?_⟩) (by assumption) ?_
  · clear hSw
    go_simp
  try simp only [Act.put, List.setIfInBounds_toArray, List.set_cons_zero, List.set_cons_succ]
  refine wpAnyH_take (i := 7) (oi := { dst := some 21, op := _, type := _, pos := _, after := _, guard := _ }) (v := (.slice (some ⟨b, o, none⟩) 64 cap)) rfl (by kernel_rfl) (by kernel_rfl) (by kernel_rfl) (fun _ _ _ h => h) (Or.inl ⟨by rfl, fun w' hSw => ?_⟩) (by assumption) ?_
  · clear hSw
    go_simp
  try simp only [Act.put, List.setIfInBounds_toArray, List.set_cons_zero, List.set_cons_succ]
  refine wpAnyH_take (i := 8) (oi := { dst := some 22, op := _, type := _, pos := _, after := _, guard := _ }) (v := (.slice (some ⟨b, o + 9, none⟩) 4 (cap - 9))) rfl (by kernel_rfl) (by kernel_rfl) (by kernel_rfl) (fun _ _ _ h => h) (Or.inl ⟨by rfl, fun w' hSw => ?_⟩) (by assumption) ?_
  · clear hSw
    go_simp
  try simp only [Act.put, List.setIfInBounds_toArray, List.set_cons_zero, List.set_cons_succ]
  refine wpAnyH_take (i := 10) (oi := { dst := some 24, op := _, type := _, pos := _, after := _, guard := _ }) (v := (.slice (some ⟨b, o, none⟩) 64 cap)) rfl (by kernel_rfl) (by kernel_rfl) (by kernel_rfl) (fun _ _ _ h => h) (Or.inl ⟨by rfl, fun w' hSw => ?_⟩) (by assumption) ?_
  · clear hSw
    go_simp
  try simp only [Act.put, List.setIfInBounds_toArray, List.set_cons_zero, List.set_cons_succ]
  refine wpAnyH_take (i := 11) (oi := { dst := some 25, op := _, type := _, pos := _, after := _, guard := _ }) (v := (.slice (some ⟨b, o + 13, none⟩) 4 (cap - 13))) rfl (by kernel_rfl) (by kernel_rfl) (by kernel_rfl) (fun _ _ _ h => h) (Or.inl ⟨by rfl, fun w' hSw => ?_⟩) (by assumption) ?_
  · clear hSw
    go_simp
  try simp only [Act.put, List.setIfInBounds_toArray, List.set_cons_zero, List.set_cons_succ]
  refine wpAnyH_take (i := 13) (oi := { dst := some 27, op := _, type := _, pos := _, after := _, guard := _ }) (v := (.slice (some ⟨b, o, none⟩) 64 cap)) rfl (by kernel_rfl) (by kernel_rfl) (by kernel_rfl) (fun _ _ _ h => h) (Or.inl ⟨by rfl, fun w' hSw => ?_⟩) (by assumption) ?_
  · clear hSw
    go_simp
  try simp only [Act.put, List.setIfInBounds_toArray, List.set_cons_zero, List.set_cons_succ]
  refine wpAnyH_take (i := 14) (oi := { dst := some 28, op := _, type := _, pos := _, after := _, guard := _ }) (v := (.slice (some ⟨b, o + 17, none⟩) 4 (cap - 17))) rfl (by kernel_rfl) (by kernel_rfl) (by kernel_rfl) (fun _ _ _ h => h) (Or.inl ⟨by rfl, fun w' hSw => ?_⟩) (by assumption) ?_
  · clear hSw
    go_simp
  try simp only [Act.put, List.setIfInBounds_toArray, List.set_cons_zero, List.set_cons_succ]
  refine wpAnyH_ready (rs := [2, 17]) (by kernel_rfl) (by simp) ?_
  refine AllReadyH.cons (o := { dst := some 16, op := _, type := _, pos := _, after := _, guard := _ }) rfl (fun K hK => ?_) (AllReadyH.cons (o := { dst := some 3, op := _, type := _, pos := _, after := _, guard := _ }) rfl (fun K hK => ?_) AllReadyH.nil)
  rotate_left
  focus
    go_simp
    have hA : ES w (W1.alloc (.cells #[.int .i64 0, .int .i64 0, .int .i64 0, .int .i64 0, .int .i64 0] 35)) := hHeld.keep ((Below.refl _ _).alloc (Nat.le_refl _) _)
    have HBX : Hid (Bf5 (W1.alloc (.cells #[.int .i64 0, .int .i64 0, .int .i64 0, .int .i64 0, .int .i64 0] 35)) W1.heap.size) := Bf5.new W1
    have hkb : w.heap.size < W1.heap.size := hHeld.2.2.2
    refine hK.out _ _ hA (fun _ => ?_)
    clear hK K hHeld
    have hHeld := hA
    clear hA
    generalize W1.heap.size = kb at *
    generalize W1.alloc (.cells #[.int .i64 0, .int .i64 0, .int .i64 0, .int .i64 0, .int .i64 0] 35) = W3 at *
    try simp only [Act.put, List.setIfInBounds_toArray, List.set_cons_zero, List.set_cons_succ]
    refine wpAnyH_ready (rs := [2]) (by kernel_rfl) (by simp) ?_
    refine AllReadyH.cons (o := { dst := some 16, op := _, type := _, pos := _, after := _, guard := _ }) rfl (fun K hK => ?_) AllReadyH.nil
    go_simp
    go_at_call 35
    refine (C0.out _ hHeld).mono ?_
    rintro e W2 ⟨rfl, q, hW2⟩
    have hH2 : ES w W2 := by rw [hW2]; exact hHeld.drewN q
    have HB2 : Hid (Bf5 W2 kb) := by rw [hW2]; exact HBX.out.drewN q
    refine hK.out _ _ hH2 (fun _ => ?_)
    clear hK K hHeld hW2
    have hHeld := hH2
    clear hH2
    clear HBX
    have HBX := HB2
    clear HB2
    try simp only [Act.put, List.setIfInBounds_toArray, List.set_cons_zero, List.set_cons_succ]
    refine wpAnyH_ready (rs := [9]) (by kernel_rfl) (by simp) ?_
    refine AllReadyH.cons (o := { dst := some 23, op := _, type := _, pos := _, after := _, guard := _ }) rfl (fun K hK => ?_) AllReadyH.nil
    go_simp
    go_at_call 35
    refine (C1.out _ hHeld).mono ?_
    rintro e W2 ⟨rfl, q, hW2⟩
    have hH2 : ES w W2 := by rw [hW2]; exact hHeld.drewN q
    have HB2 : Hid (Bf5 W2 kb) := by rw [hW2]; exact HBX.out.drewN q
    refine hK.out _ _ hH2 (fun _ => ?_)
    clear hK K hHeld hW2
    have hHeld := hH2
    clear hH2
    clear HBX
    have HBX := HB2
    clear HB2
    try simp only [Act.put, List.setIfInBounds_toArray, List.set_cons_zero, List.set_cons_succ]
    refine wpAnyH_ready (rs := [12]) (by kernel_rfl) (by simp) ?_
    refine AllReadyH.cons (o := { dst := some 26, op := _, type := _, pos := _, after := _, guard := _ }) rfl (fun K hK => ?_) AllReadyH.nil
    go_simp
    go_at_call 35
    refine (C2.out _ hHeld).mono ?_
    rintro e W2 ⟨rfl, q, hW2⟩
    have hH2 : ES w W2 := by rw [hW2]; exact hHeld.drewN q
    have HB2 : Hid (Bf5 W2 kb) := by rw [hW2]; exact HBX.out.drewN q
    refine hK.out _ _ hH2 (fun _ => ?_)
    clear hK K hHeld hW2
    have hHeld := hH2
    clear hH2
    clear HBX
    have HBX := HB2
    clear HB2
    try simp only [Act.put, List.setIfInBounds_toArray, List.set_cons_zero, List.set_cons_succ]
    refine wpAnyH_ready (rs := [15]) (by kernel_rfl) (by simp) ?_
    refine AllReadyH.cons (o := { dst := some 29, op := _, type := _, pos := _, after := _, guard := _ }) rfl (fun K hK => ?_) AllReadyH.nil
    go_simp
    go_at_call 35
    refine (C3.out _ hHeld).mono ?_
    rintro e W2 ⟨rfl, q, hW2⟩
    have hH2 : ES w W2 := by rw [hW2]; exact hHeld.drewN q
    have HB2 : Hid (Bf5 W2 kb) := by rw [hW2]; exact HBX.out.drewN q
    refine hK.out _ _ hH2 (fun _ => ?_)
    clear hK K hHeld hW2
    have hHeld := hH2
    clear hH2
    clear HBX
    have HBX := HB2
    clear HB2
    try simp only [Act.put, List.setIfInBounds_toArray, List.set_cons_zero, List.set_cons_succ]
    refine wpAnyH_take (i := 16) (oi := { dst := some 30, op := _, type := _, pos := _, after := _, guard := _ }) (v := (.agg #[.int .i64 (n0 : Int), .int .i64 (x8 : Int), .int .i64 (n2 : Int), .int .i64 (n3 : Int), .int .i64 (n4 : Int)])) rfl (by kernel_rfl) (by kernel_rfl) (by kernel_rfl) (fun _ _ _ h => h) (Or.inl ⟨by rfl, fun w' hSw => ?_⟩) (by assumption) ?_
    · clear hSw
      go_simp
    try simp only [Act.put, List.setIfInBounds_toArray, List.set_cons_zero, List.set_cons_succ]
    refine wpAnyH_ready (rs := [18]) (by kernel_rfl) (by simp) ?_
    refine AllReadyH.cons (o := { dst := none, op := _, type := _, pos := _, after := _, guard := _ }) rfl (fun K hK => ?_) AllReadyH.nil
    obtain ⟨⟨y0, y1, y2, y3, y4, y5⟩, yf⟩ := HBX.out
    have yf0 := yf 0
    have yf1 := yf 1
    have yf2 := yf 2
    have yf3 := yf 3
    have yf4 := yf 4
    go_simp
    have hF := hHeld.fill hkb (n0 : Int) (x8 : Int) (n2 : Int) (n3 : Int) (n4 : Int)
    have XF : Hid (Bx5 _ kb (n0 : Int) (x8 : Int) (n2 : Int) (n3 : Int) (n4 : Int)) := HBX.out.fill (n0 : Int) (x8 : Int) (n2 : Int) (n3 : Int) (n4 : Int)
    refine hK.out _ _ hF (fun _ => ?_)
    clear hK K hHeld HBX y0 y1 y2 y3 y4 y5 yf yf0 yf1 yf2 yf3 yf4
    have EF : Hid (ES w _) := hF
    clear hF
    try simp only [Act.put, List.setIfInBounds_toArray, List.set_cons_zero, List.set_cons_succ]
    refine wpAnyH_done (by kernel_rfl) ?_ _
    generalize (((((W2.setCell ⟨kb, 0, none⟩ (.int .i64 (n0 : Int))).setCell ⟨kb, 1, none⟩ (.int .i64 (x8 : Int))).setCell ⟨kb, 2, none⟩ (.int .i64 (n2 : Int))).setCell ⟨kb, 3, none⟩ (.int .i64 (n3 : Int))).setCell ⟨kb, 4, none⟩ (.int .i64 (n4 : Int))) = WF at *
  rotate_left
  focus
    go_simp
    go_at_call 35
    refine (C0.out _ hHeld).mono ?_
    rintro e W2 ⟨rfl, q, hW2⟩
    have hH2 : ES w W2 := by rw [hW2]; exact hHeld.drewN q
    refine hK.out _ _ hH2 (fun _ => ?_)
    clear hK K hHeld hW2
    have hHeld := hH2
    clear hH2
    try simp only [Act.put, List.setIfInBounds_toArray, List.set_cons_zero, List.set_cons_succ]
    refine wpAnyH_ready (rs := [9, 17]) (by kernel_rfl) (by simp) ?_
    refine AllReadyH.cons (o := { dst := some 23, op := _, type := _, pos := _, after := _, guard := _ }) rfl (fun K hK => ?_) (AllReadyH.cons (o := { dst := some 3, op := _, type := _, pos := _, after := _, guard := _ }) rfl (fun K hK => ?_) AllReadyH.nil)
    rotate_left
    focus
      go_simp
      have hA : ES w (W2.alloc (.cells #[.int .i64 0, .int .i64 0, .int .i64 0, .int .i64 0, .int .i64 0] 35)) := hHeld.keep ((Below.refl _ _).alloc (Nat.le_refl _) _)
      have HBX : Hid (Bf5 (W2.alloc (.cells #[.int .i64 0, .int .i64 0, .int .i64 0, .int .i64 0, .int .i64 0] 35)) W2.heap.size) := Bf5.new W2
      have hkb : w.heap.size < W2.heap.size := hHeld.2.2.2
      refine hK.out _ _ hA (fun _ => ?_)
      clear hK K hHeld
      have hHeld := hA
      clear hA
      generalize W2.heap.size = kb at *
      generalize W2.alloc (.cells #[.int .i64 0, .int .i64 0, .int .i64 0, .int .i64 0, .int .i64 0] 35) = W3 at *
      try simp only [Act.put, List.setIfInBounds_toArray, List.set_cons_zero, List.set_cons_succ]
      refine wpAnyH_ready (rs := [9]) (by kernel_rfl) (by simp) ?_
      refine AllReadyH.cons (o := { dst := some 23, op := _, type := _, pos := _, after := _, guard := _ }) rfl (fun K hK => ?_) AllReadyH.nil
      go_simp
      go_at_call 35
      refine (C1.out _ hHeld).mono ?_
      rintro e W2 ⟨rfl, q, hW2⟩
      have hH2 : ES w W2 := by rw [hW2]; exact hHeld.drewN q
      have HB2 : Hid (Bf5 W2 kb) := by rw [hW2]; exact HBX.out.drewN q
      refine hK.out _ _ hH2 (fun _ => ?_)
      clear hK K hHeld hW2
      have hHeld := hH2
      clear hH2
      clear HBX
      have HBX := HB2
      clear HB2
      try simp only [Act.put, List.setIfInBounds_toArray, List.set_cons_zero, List.set_cons_succ]
      refine wpAnyH_ready (rs := [12]) (by kernel_rfl) (by simp) ?_
      refine AllReadyH.cons (o := { dst := some 26, op := _, type := _, pos := _, after := _, guard := _ }) rfl (fun K hK => ?_) AllReadyH.nil
      go_simp
      go_at_call 35
      refine (C2.out _ hHeld).mono ?_
      rintro e W2 ⟨rfl, q, hW2⟩
      have hH2 : ES w W2 := by rw [hW2]; exact hHeld.drewN q
      have HB2 : Hid (Bf5 W2 kb) := by rw [hW2]; exact HBX.out.drewN q
      refine hK.out _ _ hH2 (fun _ => ?_)
      clear hK K hHeld hW2
      have hHeld := hH2
      clear hH2
      clear HBX
      have HBX := HB2
      clear HB2
      try simp only [Act.put, List.setIfInBounds_toArray, List.set_cons_zero, List.set_cons_succ]
      refine wpAnyH_ready (rs := [15]) (by kernel_rfl) (by simp) ?_
      refine AllReadyH.cons (o := { dst := some 29, op := _, type := _, pos := _, after := _, guard := _ }) rfl (fun K hK => ?_) AllReadyH.nil
      go_simp
      go_at_call 35
      refine (C3.out _ hHeld).mono ?_
      rintro e W2 ⟨rfl, q, hW2⟩
      have hH2 : ES w W2 := by rw [hW2]; exact hHeld.drewN q
      have HB2 : Hid (Bf5 W2 kb) := by rw [hW2]; exact HBX.out.drewN q
      refine hK.out _ _ hH2 (fun _ => ?_)
      clear hK K hHeld hW2
      have hHeld := hH2
      clear hH2
      clear HBX
      have HBX := HB2
      clear HB2
      try simp only [Act.put, List.setIfInBounds_toArray, List.set_cons_zero, List.set_cons_succ]
      refine wpAnyH_take (i := 16) (oi := { dst := some 30, op := _, type := _, pos := _, after := _, guard := _ }) (v := (.agg #[.int .i64 (n0 : Int), .int .i64 (x8 : Int), .int .i64 (n2 : Int), .int .i64 (n3 : Int), .int .i64 (n4 : Int)])) rfl (by kernel_rfl) (by kernel_rfl) (by kernel_rfl) (fun _ _ _ h => h) (Or.inl ⟨by rfl, fun w' hSw => ?_⟩) (by assumption) ?_
      · clear hSw
        go_simp
      try simp only [Act.put, List.setIfInBounds_toArray, List.set_cons_zero, List.set_cons_succ]
      refine wpAnyH_ready (rs := [18]) (by kernel_rfl) (by simp) ?_
      refine AllReadyH.cons (o := { dst := none, op := _, type := _, pos := _, after := _, guard := _ }) rfl (fun K hK => ?_) AllReadyH.nil
      obtain ⟨⟨y0, y1, y2, y3, y4, y5⟩, yf⟩ := HBX.out
      have yf0 := yf 0
      have yf1 := yf 1
      have yf2 := yf 2
      have yf3 := yf 3
      have yf4 := yf 4
      go_simp
      have hF := hHeld.fill hkb (n0 : Int) (x8 : Int) (n2 : Int) (n3 : Int) (n4 : Int)
      have XF : Hid (Bx5 _ kb (n0 : Int) (x8 : Int) (n2 : Int) (n3 : Int) (n4 : Int)) := HBX.out.fill (n0 : Int) (x8 : Int) (n2 : Int) (n3 : Int) (n4 : Int)
      refine hK.out _ _ hF (fun _ => ?_)
      clear hK K hHeld HBX y0 y1 y2 y3 y4 y5 yf yf0 yf1 yf2 yf3 yf4
      have EF : Hid (ES w _) := hF
      clear hF
      try simp only [Act.put, List.setIfInBounds_toArray, List.set_cons_zero, List.set_cons_succ]
      refine wpAnyH_done (by kernel_rfl) ?_ _
      generalize (((((W2.setCell ⟨kb, 0, none⟩ (.int .i64 (n0 : Int))).setCell ⟨kb, 1, none⟩ (.int .i64 (x8 : Int))).setCell ⟨kb, 2, none⟩ (.int .i64 (n2 : Int))).setCell ⟨kb, 3, none⟩ (.int .i64 (n3 : Int))).setCell ⟨kb, 4, none⟩ (.int .i64 (n4 : Int))) = WF at *
    rotate_left
    focus
      go_simp
      go_at_call 35
      refine (C1.out _ hHeld).mono ?_
      rintro e W2 ⟨rfl, q, hW2⟩
      have hH2 : ES w W2 := by rw [hW2]; exact hHeld.drewN q
      refine hK.out _ _ hH2 (fun _ => ?_)
      clear hK K hHeld hW2
      have hHeld := hH2
      clear hH2
      try simp only [Act.put, List.setIfInBounds_toArray, List.set_cons_zero, List.set_cons_succ]
      refine wpAnyH_ready (rs := [12, 17]) (by kernel_rfl) (by simp) ?_
      refine AllReadyH.cons (o := { dst := some 26, op := _, type := _, pos := _, after := _, guard := _ }) rfl (fun K hK => ?_) (AllReadyH.cons (o := { dst := some 3, op := _, type := _, pos := _, after := _, guard := _ }) rfl (fun K hK => ?_) AllReadyH.nil)
      rotate_left
      focus
        go_simp
        have hA : ES w (W2.alloc (.cells #[.int .i64 0, .int .i64 0, .int .i64 0, .int .i64 0, .int .i64 0] 35)) := hHeld.keep ((Below.refl _ _).alloc (Nat.le_refl _) _)
        have HBX : Hid (Bf5 (W2.alloc (.cells #[.int .i64 0, .int .i64 0, .int .i64 0, .int .i64 0, .int .i64 0] 35)) W2.heap.size) := Bf5.new W2
        have hkb : w.heap.size < W2.heap.size := hHeld.2.2.2
        refine hK.out _ _ hA (fun _ => ?_)
        clear hK K hHeld
        have hHeld := hA
        clear hA
        generalize W2.heap.size = kb at *
        generalize W2.alloc (.cells #[.int .i64 0, .int .i64 0, .int .i64 0, .int .i64 0, .int .i64 0] 35) = W3 at *
        try simp only [Act.put, List.setIfInBounds_toArray, List.set_cons_zero, List.set_cons_succ]
        refine wpAnyH_ready (rs := [12]) (by kernel_rfl) (by simp) ?_
        refine AllReadyH.cons (o := { dst := some 26, op := _, type := _, pos := _, after := _, guard := _ }) rfl (fun K hK => ?_) AllReadyH.nil
        go_simp
        go_at_call 35
        refine (C2.out _ hHeld).mono ?_
        rintro e W2 ⟨rfl, q, hW2⟩
        have hH2 : ES w W2 := by rw [hW2]; exact hHeld.drewN q
        have HB2 : Hid (Bf5 W2 kb) := by rw [hW2]; exact HBX.out.drewN q
        refine hK.out _ _ hH2 (fun _ => ?_)
        clear hK K hHeld hW2
        have hHeld := hH2
        clear hH2
        clear HBX
        have HBX := HB2
        clear HB2
        try simp only [Act.put, List.setIfInBounds_toArray, List.set_cons_zero, List.set_cons_succ]
        refine wpAnyH_ready (rs := [15]) (by kernel_rfl) (by simp) ?_
        refine AllReadyH.cons (o := { dst := some 29, op := _, type := _, pos := _, after := _, guard := _ }) rfl (fun K hK => ?_) AllReadyH.nil
        go_simp
        go_at_call 35
        refine (C3.out _ hHeld).mono ?_
        rintro e W2 ⟨rfl, q, hW2⟩
        have hH2 : ES w W2 := by rw [hW2]; exact hHeld.drewN q
        have HB2 : Hid (Bf5 W2 kb) := by rw [hW2]; exact HBX.out.drewN q
        refine hK.out _ _ hH2 (fun _ => ?_)
        clear hK K hHeld hW2
        have hHeld := hH2
        clear hH2
        clear HBX
        have HBX := HB2
        clear HB2
        try simp only [Act.put, List.setIfInBounds_toArray, List.set_cons_zero, List.set_cons_succ]
        refine wpAnyH_take (i := 16) (oi := { dst := some 30, op := _, type := _, pos := _, after := _, guard := _ }) (v := (.agg #[.int .i64 (n0 : Int), .int .i64 (x8 : Int), .int .i64 (n2 : Int), .int .i64 (n3 : Int), .int .i64 (n4 : Int)])) rfl (by kernel_rfl) (by kernel_rfl) (by kernel_rfl) (fun _ _ _ h => h) (Or.inl ⟨by rfl, fun w' hSw => ?_⟩) (by assumption) ?_
        · clear hSw
          go_simp
        try simp only [Act.put, List.setIfInBounds_toArray, List.set_cons_zero, List.set_cons_succ]
        refine wpAnyH_ready (rs := [18]) (by kernel_rfl) (by simp) ?_
        refine AllReadyH.cons (o := { dst := none, op := _, type := _, pos := _, after := _, guard := _ }) rfl (fun K hK => ?_) AllReadyH.nil
        obtain ⟨⟨y0, y1, y2, y3, y4, y5⟩, yf⟩ := HBX.out
        have yf0 := yf 0
        have yf1 := yf 1
        have yf2 := yf 2
        have yf3 := yf 3
        have yf4 := yf 4
        go_simp
        have hF := hHeld.fill hkb (n0 : Int) (x8 : Int) (n2 : Int) (n3 : Int) (n4 : Int)
        have XF : Hid (Bx5 _ kb (n0 : Int) (x8 : Int) (n2 : Int) (n3 : Int) (n4 : Int)) := HBX.out.fill (n0 : Int) (x8 : Int) (n2 : Int) (n3 : Int) (n4 : Int)
        refine hK.out _ _ hF (fun _ => ?_)
        clear hK K hHeld HBX y0 y1 y2 y3 y4 y5 yf yf0 yf1 yf2 yf3 yf4
        have EF : Hid (ES w _) := hF
        clear hF
        try simp only [Act.put, List.setIfInBounds_toArray, List.set_cons_zero, List.set_cons_succ]
        refine wpAnyH_done (by kernel_rfl) ?_ _
        generalize (((((W2.setCell ⟨kb, 0, none⟩ (.int .i64 (n0 : Int))).setCell ⟨kb, 1, none⟩ (.int .i64 (x8 : Int))).setCell ⟨kb, 2, none⟩ (.int .i64 (n2 : Int))).setCell ⟨kb, 3, none⟩ (.int .i64 (n3 : Int))).setCell ⟨kb, 4, none⟩ (.int .i64 (n4 : Int))) = WF at *
      rotate_left
      focus
        go_simp
        go_at_call 35
        refine (C2.out _ hHeld).mono ?_
        rintro e W2 ⟨rfl, q, hW2⟩
        have hH2 : ES w W2 := by rw [hW2]; exact hHeld.drewN q
        refine hK.out _ _ hH2 (fun _ => ?_)
        clear hK K hHeld hW2
        have hHeld := hH2
        clear hH2
        try simp only [Act.put, List.setIfInBounds_toArray, List.set_cons_zero, List.set_cons_succ]
        refine wpAnyH_ready (rs := [15, 17]) (by kernel_rfl) (by simp) ?_
        refine AllReadyH.cons (o := { dst := some 29, op := _, type := _, pos := _, after := _, guard := _ }) rfl (fun K hK => ?_) (AllReadyH.cons (o := { dst := some 3, op := _, type := _, pos := _, after := _, guard := _ }) rfl (fun K hK => ?_) AllReadyH.nil)
        rotate_left
        focus
          go_simp
          have hA : ES w (W2.alloc (.cells #[.int .i64 0, .int .i64 0, .int .i64 0, .int .i64 0, .int .i64 0] 35)) := hHeld.keep ((Below.refl _ _).alloc (Nat.le_refl _) _)
          have HBX : Hid (Bf5 (W2.alloc (.cells #[.int .i64 0, .int .i64 0, .int .i64 0, .int .i64 0, .int .i64 0] 35)) W2.heap.size) := Bf5.new W2
          have hkb : w.heap.size < W2.heap.size := hHeld.2.2.2
          refine hK.out _ _ hA (fun _ => ?_)
          clear hK K hHeld
          have hHeld := hA
          clear hA
          generalize W2.heap.size = kb at *
          generalize W2.alloc (.cells #[.int .i64 0, .int .i64 0, .int .i64 0, .int .i64 0, .int .i64 0] 35) = W3 at *
          try simp only [Act.put, List.setIfInBounds_toArray, List.set_cons_zero, List.set_cons_succ]
          refine wpAnyH_ready (rs := [15]) (by kernel_rfl) (by simp) ?_
          refine AllReadyH.cons (o := { dst := some 29, op := _, type := _, pos := _, after := _, guard := _ }) rfl (fun K hK => ?_) AllReadyH.nil
          go_simp
          go_at_call 35
          refine (C3.out _ hHeld).mono ?_
          rintro e W2 ⟨rfl, q, hW2⟩
          have hH2 : ES w W2 := by rw [hW2]; exact hHeld.drewN q
          have HB2 : Hid (Bf5 W2 kb) := by rw [hW2]; exact HBX.out.drewN q
          refine hK.out _ _ hH2 (fun _ => ?_)
          clear hK K hHeld hW2
          have hHeld := hH2
          clear hH2
          clear HBX
          have HBX := HB2
          clear HB2
          try simp only [Act.put, List.setIfInBounds_toArray, List.set_cons_zero, List.set_cons_succ]
          refine wpAnyH_take (i := 16) (oi := { dst := some 30, op := _, type := _, pos := _, after := _, guard := _ }) (v := (.agg #[.int .i64 (n0 : Int), .int .i64 (x8 : Int), .int .i64 (n2 : Int), .int .i64 (n3 : Int), .int .i64 (n4 : Int)])) rfl (by kernel_rfl) (by kernel_rfl) (by kernel_rfl) (fun _ _ _ h => h) (Or.inl ⟨by rfl, fun w' hSw => ?_⟩) (by assumption) ?_
          · clear hSw
            go_simp
          try simp only [Act.put, List.setIfInBounds_toArray, List.set_cons_zero, List.set_cons_succ]
          refine wpAnyH_ready (rs := [18]) (by kernel_rfl) (by simp) ?_
          refine AllReadyH.cons (o := { dst := none, op := _, type := _, pos := _, after := _, guard := _ }) rfl (fun K hK => ?_) AllReadyH.nil
          obtain ⟨⟨y0, y1, y2, y3, y4, y5⟩, yf⟩ := HBX.out
          have yf0 := yf 0
          have yf1 := yf 1
          have yf2 := yf 2
          have yf3 := yf 3
          have yf4 := yf 4
          go_simp
          have hF := hHeld.fill hkb (n0 : Int) (x8 : Int) (n2 : Int) (n3 : Int) (n4 : Int)
          have XF : Hid (Bx5 _ kb (n0 : Int) (x8 : Int) (n2 : Int) (n3 : Int) (n4 : Int)) := HBX.out.fill (n0 : Int) (x8 : Int) (n2 : Int) (n3 : Int) (n4 : Int)
          refine hK.out _ _ hF (fun _ => ?_)
          clear hK K hHeld HBX y0 y1 y2 y3 y4 y5 yf yf0 yf1 yf2 yf3 yf4
          have EF : Hid (ES w _) := hF
          clear hF
          try simp only [Act.put, List.setIfInBounds_toArray, List.set_cons_zero, List.set_cons_succ]
          refine wpAnyH_done (by kernel_rfl) ?_ _
          generalize (((((W2.setCell ⟨kb, 0, none⟩ (.int .i64 (n0 : Int))).setCell ⟨kb, 1, none⟩ (.int .i64 (x8 : Int))).setCell ⟨kb, 2, none⟩ (.int .i64 (n2 : Int))).setCell ⟨kb, 3, none⟩ (.int .i64 (n3 : Int))).setCell ⟨kb, 4, none⟩ (.int .i64 (n4 : Int))) = WF at *
        rotate_left
        focus
          go_simp
          go_at_call 35
          refine (C3.out _ hHeld).mono ?_
          rintro e W2 ⟨rfl, q, hW2⟩
          have hH2 : ES w W2 := by rw [hW2]; exact hHeld.drewN q
          refine hK.out _ _ hH2 (fun _ => ?_)
          clear hK K hHeld hW2
          have hHeld := hH2
          clear hH2
          try simp only [Act.put, List.setIfInBounds_toArray, List.set_cons_zero, List.set_cons_succ]
          refine wpAnyH_take (i := 16) (oi := { dst := some 30, op := _, type := _, pos := _, after := _, guard := _ }) (v := (.agg #[.int .i64 (n0 : Int), .int .i64 (x8 : Int), .int .i64 (n2 : Int), .int .i64 (n3 : Int), .int .i64 (n4 : Int)])) rfl (by kernel_rfl) (by kernel_rfl) (by kernel_rfl) (fun _ _ _ h => h) (Or.inl ⟨by rfl, fun w' hSw => ?_⟩) (by assumption) ?_
          · clear hSw
            go_simp
          try simp only [Act.put, List.setIfInBounds_toArray, List.set_cons_zero, List.set_cons_succ]
          refine wpAnyH_ready (rs := [17]) (by kernel_rfl) (by simp) ?_
          refine AllReadyH.cons (o := { dst := some 3, op := _, type := _, pos := _, after := _, guard := _ }) rfl (fun K hK => ?_) AllReadyH.nil
          go_simp
          have hA : ES w (W2.alloc (.cells #[.int .i64 0, .int .i64 0, .int .i64 0, .int .i64 0, .int .i64 0] 35)) := hHeld.keep ((Below.refl _ _).alloc (Nat.le_refl _) _)
          have HBX : Hid (Bf5 (W2.alloc (.cells #[.int .i64 0, .int .i64 0, .int .i64 0, .int .i64 0, .int .i64 0] 35)) W2.heap.size) := Bf5.new W2
          have hkb : w.heap.size < W2.heap.size := hHeld.2.2.2
          refine hK.out _ _ hA (fun _ => ?_)
          clear hK K hHeld
          have hHeld := hA
          clear hA
          generalize W2.heap.size = kb at *
          generalize W2.alloc (.cells #[.int .i64 0, .int .i64 0, .int .i64 0, .int .i64 0, .int .i64 0] 35) = W3 at *
          try simp only [Act.put, List.setIfInBounds_toArray, List.set_cons_zero, List.set_cons_succ]
          refine wpAnyH_ready (rs := [18]) (by kernel_rfl) (by simp) ?_
          refine AllReadyH.cons (o := { dst := none, op := _, type := _, pos := _, after := _, guard := _ }) rfl (fun K hK => ?_) AllReadyH.nil
          obtain ⟨⟨y0, y1, y2, y3, y4, y5⟩, yf⟩ := HBX.out
          have yf0 := yf 0
          have yf1 := yf 1
          have yf2 := yf 2
          have yf3 := yf 3
          have yf4 := yf 4
          go_simp
          have hF := hHeld.fill hkb (n0 : Int) (x8 : Int) (n2 : Int) (n3 : Int) (n4 : Int)
          have XF : Hid (Bx5 _ kb (n0 : Int) (x8 : Int) (n2 : Int) (n3 : Int) (n4 : Int)) := HBX.out.fill (n0 : Int) (x8 : Int) (n2 : Int) (n3 : Int) (n4 : Int)
          refine hK.out _ _ hF (fun _ => ?_)
          clear hK K hHeld HBX y0 y1 y2 y3 y4 y5 yf yf0 yf1 yf2 yf3 yf4
          have EF : Hid (ES w _) := hF
          clear hF
          try simp only [Act.put, List.setIfInBounds_toArray, List.set_cons_zero, List.set_cons_succ]
          refine wpAnyH_done (by kernel_rfl) ?_ _
          generalize (((((W3.setCell ⟨kb, 0, none⟩ (.int .i64 (n0 : Int))).setCell ⟨kb, 1, none⟩ (.int .i64 (x8 : Int))).setCell ⟨kb, 2, none⟩ (.int .i64 (n2 : Int))).setCell ⟨kb, 3, none⟩ (.int .i64 (n3 : Int))).setCell ⟨kb, 4, none⟩ (.int .i64 (n4 : Int))) = WF at *
  all_goals
    clear C0 C1 C2 C3 C8 hk8 hk13 hk17 hk21 hn9 hn13 hn17 hw8 hcap hcm
    obtain ⟨sk, y0, y1, y2, y3, y4⟩ := XF.out
    go_wp2_with fail
    refine (specSuper_any _ (n0 : Int) (x8 : Int) (n2 : Int) (n3 : Int) (n4 : Int) HG.out).mono ?_
    rintro e W7 ⟨v6, rfl, o6, b6⟩
    have E6 : Hid (ES w W7) := EF.out.keep b6
    have X6 : Hid (Bx5 W7 kb (n0 : Int) (x8 : Int) (n2 : Int) (n3 : Int) (n4 : Int)) := XF.out.below b6 sk
    have O6 : Hid (Own .u8 5 W7 WF.heap.size v6 (sup (n0 : Int) (x8 : Int) (n2 : Int) (n3 : Int) (n4 : Int))) := o6
    have HR6 : Hid (Rd .u8 W7 (.slice (some ⟨b, o, none⟩) 64 cap) ys) := HR.out.below E6.out.1
    clear sk y0 y1 y2 y3 y4 o6 b6 EF XF
    go_wp2_with fail
    refine (sameBytes_any _ _ _ (sup (n0 : Int) (x8 : Int) (n2 : Int) (n3 : Int) (n4 : Int)) ys O6.out.rd HR6.out (sup_byt _ _ _ _ _) HBY.out).mono ?_
    rintro e W8 ⟨rfl, rfl⟩
    have B7 : Hid (Below w.heap.size w W8) := E6.out.1
    obtain ⟨x0, x1, x2, x3, x4, x5⟩ := E6.out.2.1
    obtain ⟨-, y0, y1, y2, y3, y4⟩ := X6.out
    have f0 := E6.out.2.2.1 0
    have f1 := E6.out.2.2.1 1
    have f2 := E6.out.2.2.1 2
    have f3 := E6.out.2.2.1 3
    have f4 := E6.out.2.2.1 4
    have f5 := E6.out.2.2.1 5
    by_cases hd : sup (n0 : Int) (x8 : Int) (n2 : Int) (n3 : Int) (n4 : Int) = ys
    · have HDT : Hid (decV ys = .agg #[.bool true, .int .i64 (n0 : Int), .int .i64 (x8 : Int), .int .i64 (n2 : Int), .int .i64 (n3 : Int), .int .i64 (n4 : Int)]) := by show _ = _; rw [HDV.out, if_pos hd]
      rw [decide_eq_true hd]
      clear hd HDV
      go_wp2
      have BW := (((((B7.out.setCell (p := ⟨w.heap.size, 0, none⟩) (Nat.le_refl _) (.bool true)).setCell (p := ⟨w.heap.size, 1, none⟩) (Nat.le_refl _) (.int .i64 (n0 : Int))).setCell (p := ⟨w.heap.size, 2, none⟩) (Nat.le_refl _) (.int .i64 (x8 : Int))).setCell (p := ⟨w.heap.size, 3, none⟩) (Nat.le_refl _) (.int .i64 (n2 : Int))).setCell (p := ⟨w.heap.size, 4, none⟩) (Nat.le_refl _) (.int .i64 (n3 : Int))).setCell (p := ⟨w.heap.size, 5, none⟩) (Nat.le_refl _) (.int .i64 (n4 : Int))
      refine bodyPost_ret (v := .agg #[.bool true, .int .i64 (n0 : Int), .int .i64 (x8 : Int), .int .i64 (n2 : Int), .int .i64 (n3 : Int), .int .i64 (n4 : Int)]) (by simp [results, Try.results14, go_sem, x0, x1, x2, x3, x4, x5]) rfl ⟨by rw [HDT.out], BW⟩
    · have HDT : Hid (decV ys = zeroV) := by show _ = _; rw [HDV.out, if_neg hd]
      rw [decide_eq_false hd]
      clear hd HDV
      go_wp2
      have BW := (((((B7.out.setCell (p := ⟨w.heap.size, 0, none⟩) (Nat.le_refl _) (.bool false)).setCell (p := ⟨w.heap.size, 1, none⟩) (Nat.le_refl _) (.int .i64 0)).setCell (p := ⟨w.heap.size, 2, none⟩) (Nat.le_refl _) (.int .i64 0)).setCell (p := ⟨w.heap.size, 3, none⟩) (Nat.le_refl _) (.int .i64 0)).setCell (p := ⟨w.heap.size, 4, none⟩) (Nat.le_refl _) (.int .i64 0)).setCell (p := ⟨w.heap.size, 5, none⟩) (Nat.le_refl _) (.int .i64 0)
      refine bodyPost_ret (v := .agg #[.bool false, .int .i64 0, .int .i64 0, .int .i64 0, .int .i64 0, .int .i64 0]) (by simp [results, Try.results14, go_sem, x0, x1, x2, x3, x4, x5]) rfl ⟨by rw [HDT.out]; rfl, BW⟩

theorem dec_high {ys : List Int} (h : Byt ys) (hl : ys.length = 64) (hx : 127 < ys.getD 0 0) : decV ys = zeroV := by
  unfold decV
  rw [if_neg]
  · rfl
  · intro hd
    have hg : nG ys < 0 := by
      unfold nG
      match ys, hl with
      | a :: b :: c :: d :: e :: f :: g :: i :: rest, _ =>
        have h0 := h a (by simp)
        have h1 := h b (by simp)
        have h2 := h c (by simp)
        have h3 := h d (by simp)
        have h4 := h e (by simp)
        have h5 := h f (by simp)
        have h6 := h g (by simp)
        have h7 := h i (by simp)
        simp at hx
        simp [numB]
        unfold wrap64
        omega
    have hs := hd.2
    unfold sup at hs
    rw [if_neg (by unfold supOk; simp; omega)] at hs
    rw [← hs] at hl
    simp at hl

theorem specDec_any (w : World) (v : Value) (ys : List Int) (h : Rd .u8 w v ys) (hby : Byt ys) :
    Calls Try.prog 14 #[v] w fun e w' => e = .returned (decV ys) ∧ Below w.heap.size w w' := by
  obtain ⟨ao, cap, rfl, h1, h2, h3⟩ := h
  by_cases hl : ys.length = 64
  · rcases h3 with rfl | ⟨b, o, rfl, hb, hc⟩
    · simp at hl
    · obtain ⟨x, hx, hxe⟩ := byt_at hby 0
      have c0 : w.cell? ⟨b, o, none⟩ = some (.int .u8 (x : Int)) := by have := hc 0 (by omega); rw [hxe] at this; exact this
      rw [hl] at h1 hc ⊢
      by_cases hx7 : x ≤ 127
      · exact specDec_row w b o cap x ys hl hb hc h1 h2 c0 hx7 hxe hby
      · rw [dec_high hby hl (by rw [hxe]; omega)]
        exact specDec_head w b o cap x hb c0 (by omega)
  · have e : decV ys = zeroV := by unfold decV; rw [if_neg (fun h => hl h.1)]; rfl
    rw [e]
    exact specDec_len w ao _ cap hl

end Go.Proofs.Ytgjenbgclpmjmaa
