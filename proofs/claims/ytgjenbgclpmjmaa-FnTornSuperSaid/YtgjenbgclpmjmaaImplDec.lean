import Derived.Test.YtgjenbgclpmjmaaCatch
import Derived.Test.YtgjenbgclpmjmaaImplSuper
import Derived.Test.YtgjenbgclpmjmaaSame
namespace Go.Proofs.Ytgjenbgclpmjmaa
open Go.RowKit

theorem hmf (fn : Fn) (first cap : Array Value) (w : World) : (Instr.makeFunc fn first cap).run Try.prog w = .ok (.func fn first cap) w := rfl

def zeroV : Value := .agg #[.bool false, .int .i64 0, .int .i64 0, .int .i64 0, .int .i64 0, .int .i64 0]
def zeroA : Array Value := #[.bool false, .int .i64 0, .int .i64 0, .int .i64 0, .int .i64 0, .int .i64 0]

/-- The answer's own variable, still zero. -/
def Zr (W : World) (k : Nat) : Prop :=
  W.cell? ⟨k, 0, none⟩ = some (.bool false) ∧ W.cell? ⟨k, 1, none⟩ = some (.int .i64 0) ∧ W.cell? ⟨k, 2, none⟩ = some (.int .i64 0) ∧ W.cell? ⟨k, 3, none⟩ = some (.int .i64 0) ∧ W.cell? ⟨k, 4, none⟩ = some (.int .i64 0) ∧ W.cell? ⟨k, 5, none⟩ = some (.int .i64 0)
theorem Zr.same {W W' : World} {k : Nat} (h : Zr W k) (he : ∀ j, W'.cell? ⟨k, j, none⟩ = W.cell? ⟨k, j, none⟩) : Zr W' k := by
  obtain ⟨h0, h1, h2, h3, h4, h5⟩ := h
  exact ⟨(he 0).trans h0, (he 1).trans h1, (he 2).trans h2, (he 3).trans h3, (he 4).trans h4, (he 5).trans h5⟩

/-- The call's three variables on the way. -/
def DS (w W : World) (zs : List Int) (g b s l c : Int) : Prop :=
  RS w W (w.heap.size + 1) zs ∧ Zr W w.heap.size ∧ Bx5 W (w.heap.size + 1 + 1) g b s l c ∧ (∀ j, W.frozen? ⟨w.heap.size + 1 + 1, j, none⟩ = false) ∧ ∀ j, W.frozen? ⟨w.heap.size, j, none⟩ = false

theorem DS.below {w W : World} {zs : List Int} {g b s l c : Int} (h : DS w W zs g b s l c) : Below w.heap.size w W := h.1.2.2.2.1

theorem DS.number {w W : World} {zs zs' : List Int} {g b s l c : Int} {v' : Value} {q : Nat} (h : DS w W zs g b s l c) (hr : RS w ((W.setCell ⟨w.heap.size + 1, 0, none⟩ v').drewN q) (w.heap.size + 1) zs') : DS w ((W.setCell ⟨w.heap.size + 1, 0, none⟩ v').drewN q) zs' g b s l c := by
  obtain ⟨-, hz, hx, hf, hf0⟩ := h
  refine ⟨hr, ?_, ?_, ?_, ?_⟩
  · exact Zr.same hz (fun j => World.cell?_setCell_other _ _ _ _ (by intro e; injection e with e; omega))
  · obtain ⟨x0, x1, x2, x3, x4, x5⟩ := hx
    have e : ∀ j, ((W.setCell ⟨w.heap.size + 1, 0, none⟩ v').drewN q).cell? ⟨w.heap.size + 1 + 1, j, none⟩ = W.cell? ⟨w.heap.size + 1 + 1, j, none⟩ := fun j => World.cell?_setCell_other _ _ _ _ (by intro e; injection e with e; omega)
    exact ⟨by show _ < (W.setCell _ _).heap.size; simpa using x0, (e 0).trans x1, (e 1).trans x2, (e 2).trans x3, (e 3).trans x4, (e 4).trans x5⟩
  · intro j; show (W.setCell _ _).frozen? _ = false; rw [World.frozen?_setCell]; exact hf j
  · intro j; show (W.setCell _ _).frozen? _ = false; rw [World.frozen?_setCell]; exact hf0 j

theorem DS.put {w W : World} {zs : List Int} {g b s l c g' b' s' l' c' : Int} (i : Nat) (z : Int) (h : DS w W zs g b s l c)
    (hx : Bx5 (W.setCell ⟨w.heap.size + 1 + 1, i, none⟩ (.int .i64 z)) (w.heap.size + 1 + 1) g' b' s' l' c') : DS w (W.setCell ⟨w.heap.size + 1 + 1, i, none⟩ (.int .i64 z)) zs g' b' s' l' c' := by
  obtain ⟨⟨r1, r2, r3, r4, v, r5, r6⟩, hz, -, hf, hf0⟩ := h
  refine ⟨⟨r1, by simpa using r2, by rw [World.frozen?_setCell]; exact r3, r4.setCell (by show _ ≤ w.heap.size + 1 + 1; omega) _, v, ?_, r6⟩, ?_, hx, ?_, ?_⟩
  · rw [World.cell?_setCell_other _ _ _ _ (by intro e; injection e with e; omega)]; exact r5
  · exact Zr.same hz (fun j => World.cell?_setCell_other _ _ _ _ (by intro e; injection e with e; omega))
  · intro j; rw [World.frozen?_setCell]; exact hf j
  · intro j; rw [World.frozen?_setCell]; exact hf0 j

theorem DS.put0 {w W : World} {zs : List Int} {g b s l c : Int} (z : Int) (h : DS w W zs g b s l c) : DS w (W.setCell ⟨w.heap.size + 1 + 1, 0, none⟩ (.int .i64 z)) zs z b s l c := by
  obtain ⟨x0, x1, x2, x3, x4, x5⟩ := h.2.2.1
  exact h.put 0 z ⟨by simpa using x0, World.cell?_setCell_same _ _ _ x1, (World.cell?_setCell_other _ _ _ _ (by intro e; injection e with _ e; omega)).trans x2, (World.cell?_setCell_other _ _ _ _ (by intro e; injection e with _ e; omega)).trans x3, (World.cell?_setCell_other _ _ _ _ (by intro e; injection e with _ e; omega)).trans x4, (World.cell?_setCell_other _ _ _ _ (by intro e; injection e with _ e; omega)).trans x5⟩

theorem DS.put1 {w W : World} {zs : List Int} {g b s l c : Int} (z : Int) (h : DS w W zs g b s l c) : DS w (W.setCell ⟨w.heap.size + 1 + 1, 1, none⟩ (.int .i64 z)) zs g z s l c := by
  obtain ⟨x0, x1, x2, x3, x4, x5⟩ := h.2.2.1
  exact h.put 1 z ⟨by simpa using x0, (World.cell?_setCell_other _ _ _ _ (by intro e; injection e with _ e; omega)).trans x1, World.cell?_setCell_same _ _ _ x2, (World.cell?_setCell_other _ _ _ _ (by intro e; injection e with _ e; omega)).trans x3, (World.cell?_setCell_other _ _ _ _ (by intro e; injection e with _ e; omega)).trans x4, (World.cell?_setCell_other _ _ _ _ (by intro e; injection e with _ e; omega)).trans x5⟩

theorem DS.put2 {w W : World} {zs : List Int} {g b s l c : Int} (z : Int) (h : DS w W zs g b s l c) : DS w (W.setCell ⟨w.heap.size + 1 + 1, 2, none⟩ (.int .i64 z)) zs g b z l c := by
  obtain ⟨x0, x1, x2, x3, x4, x5⟩ := h.2.2.1
  exact h.put 2 z ⟨by simpa using x0, (World.cell?_setCell_other _ _ _ _ (by intro e; injection e with _ e; omega)).trans x1, (World.cell?_setCell_other _ _ _ _ (by intro e; injection e with _ e; omega)).trans x2, World.cell?_setCell_same _ _ _ x3, (World.cell?_setCell_other _ _ _ _ (by intro e; injection e with _ e; omega)).trans x4, (World.cell?_setCell_other _ _ _ _ (by intro e; injection e with _ e; omega)).trans x5⟩

theorem DS.put3 {w W : World} {zs : List Int} {g b s l c : Int} (z : Int) (h : DS w W zs g b s l c) : DS w (W.setCell ⟨w.heap.size + 1 + 1, 3, none⟩ (.int .i64 z)) zs g b s z c := by
  obtain ⟨x0, x1, x2, x3, x4, x5⟩ := h.2.2.1
  exact h.put 3 z ⟨by simpa using x0, (World.cell?_setCell_other _ _ _ _ (by intro e; injection e with _ e; omega)).trans x1, (World.cell?_setCell_other _ _ _ _ (by intro e; injection e with _ e; omega)).trans x2, (World.cell?_setCell_other _ _ _ _ (by intro e; injection e with _ e; omega)).trans x3, World.cell?_setCell_same _ _ _ x4, (World.cell?_setCell_other _ _ _ _ (by intro e; injection e with _ e; omega)).trans x5⟩

theorem DS.put4 {w W : World} {zs : List Int} {g b s l c : Int} (z : Int) (h : DS w W zs g b s l c) : DS w (W.setCell ⟨w.heap.size + 1 + 1, 4, none⟩ (.int .i64 z)) zs g b s l z := by
  obtain ⟨x0, x1, x2, x3, x4, x5⟩ := h.2.2.1
  exact h.put 4 z ⟨by simpa using x0, (World.cell?_setCell_other _ _ _ _ (by intro e; injection e with _ e; omega)).trans x1, (World.cell?_setCell_other _ _ _ _ (by intro e; injection e with _ e; omega)).trans x2, (World.cell?_setCell_other _ _ _ _ (by intro e; injection e with _ e; omega)).trans x3, (World.cell?_setCell_other _ _ _ _ (by intro e; injection e with _ e; omega)).trans x4, World.cell?_setCell_same _ _ _ x5⟩

theorem DS.start (w : World) (ao : Option Addr) (ys : List Int) (cap : Nat) (h : Rd .u8 w (.slice ao ys.length cap) ys) :
    DS w (((w.alloc (.cells #[.bool false, .int .i64 0, .int .i64 0, .int .i64 0, .int .i64 0, .int .i64 0] 39)).alloc (.cells #[.slice ao ys.length cap] 59)).alloc (.cells #[.int .i64 0, .int .i64 0, .int .i64 0, .int .i64 0, .int .i64 0] 35)) ys 0 0 0 0 0 := by
  refine ⟨⟨by omega, by simp, (by go_simp), (((Below.refl _ _).alloc (Nat.le_refl _) _).alloc (by simp) _).alloc (by simp; omega) _, _, (by go_simp), h⟩, ⟨(by go_simp), (by go_simp), (by go_simp), (by go_simp), (by go_simp), (by go_simp)⟩, ⟨by simp, (by go_simp), (by go_simp), (by go_simp), (by go_simp), (by go_simp)⟩, fun j => (by go_simp), fun j => (by go_simp)⟩

theorem dec_short {ys : List Int} (h : ys.length < 21) : decV ys = zeroV := by
  unfold decV
  rw [if_neg (fun h' => by have := h'.1; omega)]; rfl

theorem DS.keep {w W W' : World} {zs : List Int} {g b s l c : Int} (h : DS w W zs g b s l c) (hb : Below W.heap.size W W') : DS w W' zs g b s l c := by
  have hs := h.2.2.1.1
  obtain ⟨hr, hz, hx, hf, hf0⟩ := h
  exact ⟨hr.keep hb hr.2.1, Zr.same hz (fun j => hb.cell (p := ⟨w.heap.size, j, none⟩) (by show w.heap.size < _; omega)), hx.below hb hs, fun j => (hb.frozen (p := ⟨w.heap.size + 1 + 1, j, none⟩) hs).trans (hf j), fun j => (hb.frozen (p := ⟨w.heap.size, j, none⟩) (by show w.heap.size < _; omega)).trans (hf0 j)⟩

theorem sup_byt (g b s l c : Int) : Byt (sup g b s l c) := by
  unfold sup
  split
  · unfold supB
    intro x hx
    simp only [List.mem_append] at hx
    rcases hx with (((((hx | hx) | hx) | hx) | hx) | hx) | hx
    · exact bigR_byt _ _ x hx
    · exact bigR_byt _ _ x hx
    · exact bigR_byt _ _ x hx
    · exact bigR_byt _ _ x hx
    · exact bigR_byt _ _ x hx
    · have := List.eq_of_mem_replicate hx; omega
    · exact bigR_byt _ _ x hx
  · intro x hx; cases hx

theorem wrap_small {ys : List Int} (h : Byt ys) (n : Nat) (hn : n ≤ 4) : wrap64 ((numB (ys.take n) : Nat) : Int) = ((numB (ys.take n) : Nat) : Int) := by
  have hb := (bigR_numB (ys.take n).length (ys.take n) rfl (fun x hx => h x (List.mem_of_mem_take hx))).2
  have h1 : 256 ^ (ys.take n).length ≤ 256 ^ 4 := Nat.pow_le_pow_right (by omega) (by rw [List.length_take]; omega)
  have h2 : numB (ys.take n) < 4294967296 := Nat.lt_of_lt_of_le hb h1
  unfold wrap64
  omega

theorem dec_eq {ys : List Int} (h : Byt ys) (hl : 21 ≤ ys.length) {z0 z1 z2 z3 z4 : Int} (h0 : z0 = wrap64 ((numB (ys.take 8) : Nat) : Int)) (h1 : z1 = wrap64 ((numB ((ys.drop 8).take 1) : Nat) : Int))
    (h2 : z2 = wrap64 ((numB ((ys.drop 9).take 4) : Nat) : Int)) (h3 : z3 = wrap64 ((numB ((ys.drop 13).take 4) : Nat) : Int)) (h4 : z4 = wrap64 ((numB ((ys.drop 17).take 4) : Nat) : Int)) :
    decV ys = if sup z0 z1 z2 z3 z4 = ys then .agg #[.bool true, .int .i64 z0, .int .i64 z1, .int .i64 z2, .int .i64 z3, .int .i64 z4] else zeroV := by
  have hd : ∀ k, Byt (ys.drop k) := fun k x hx => h x (List.mem_of_mem_drop hx)
  rw [wrap_small (hd 8) 1 (by omega)] at h1
  rw [wrap_small (hd 9) 4 (by omega)] at h2
  rw [wrap_small (hd 13) 4 (by omega)] at h3
  rw [wrap_small (hd 17) 4 (by omega)] at h4
  have e0 : z0 = nG ys := h0
  have e1 : z1 = nB ys := h1
  have e2 : z2 = nS ys := h2
  have e3 : z3 = nL ys := h3
  have e4 : z4 = nC ys := h4
  rw [e0, e1, e2, e3, e4]
  unfold decV
  by_cases hs : sup (nG ys) (nB ys) (nS ys) (nL ys) (nC ys) = ys
  · rw [if_pos hs, if_pos (show decOk ys from ⟨sup_len64 hs (fun e => by rw [e] at hl; simp at hl), hs⟩)]
  · rw [if_neg hs, if_neg (show ¬ decOk ys from fun h => hs h.2)]; rfl

set_option maxHeartbeats 1000000 in
set_option maxRecDepth 100000 in
theorem implDec_any (w : World) (v : Value) (ys : List Int) (h : Rd .u8 w v ys) (hby : Byt ys) :
    Calls Try.prog 13 #[v] w fun e w' => e = .returned (decV ys) ∧ Below w.heap.size w w' := by
  obtain ⟨ao, cap, rfl, -, -⟩ := h.len
  have HR : Hid (Rd .u8 w (.slice ao ys.length cap) ys) := h
  have HBY : Hid (Byt ys) := hby
  have D0 : Hid (DS w (((w.alloc (.cells #[.bool false, .int .i64 0, .int .i64 0, .int .i64 0, .int .i64 0, .int .i64 0] 39)).alloc (.cells #[.slice ao ys.length cap] 59)).alloc (.cells #[.int .i64 0, .int .i64 0, .int .i64 0, .int .i64 0, .int .i64 0] 35)) ys 0 0 0 0 0) := DS.start w ao ys cap h
  clear h hby
  have hm := hmf
  go_enter_defers Try.func13, Try.ntmps13
  go_wp2_with fail
  generalize (((w.alloc (.cells #[.bool false, .int .i64 0, .int .i64 0, .int .i64 0, .int .i64 0, .int .i64 0] 39)).alloc (.cells #[.slice ao ys.length cap] 59)).alloc (.cells #[.int .i64 0, .int .i64 0, .int .i64 0, .int .i64 0, .int .i64 0] 35)) = W0 at *
  by_cases hl0 : 8 ≤ ys.length
  rotate_left
  · refine (number_none w _ (w.heap.size + 1) 8 (ys) D0.out.1 (by omega)).mono ?_
    rintro e W ⟨rfl, rfl⟩
    refine leaves_cons (f := 31) (args := #[]) (by simp) (by simp [go_sem]) ?_
    refine (catch_bad [] _).mono ?_
    rintro e u' w2 ⟨rfl, rfl, b2⟩
    have Z2 : Zr w2 w.heap.size := Zr.same D0.out.2.1 (fun q => b2.cell (p := ⟨w.heap.size, q, none⟩) (by have := D0.out.1.2.1; show w.heap.size < _; omega))
    obtain ⟨z0, z1, z2, z3, z4, z5⟩ := Z2
    rw [dec_short (by omega)]
    have B2 : Below w.heap.size w w2 := D0.out.below.trans (b2.mono D0.out.below.size)
    simp [Leaves, settle, results, Try.results13, go_sem, z0, z1, z2, z3, z4, z5, B2, zeroV]
  refine (number_any w _ (w.heap.size + 1) 8 (ys) D0.out.1 (by omega) (by omega) (by omega) (HBY.out)).mono ?_
  rintro e W ⟨rfl, hr, v', q, rfl⟩
  have DA0 : Hid (DS w ((W0.setCell ⟨w.heap.size + 1, 0, none⟩ v').drewN q) (ys.drop 8) 0 0 0 0 0) := by
    have := D0.out.number hr
    exact this
  clear hr
  generalize (W0.setCell ⟨w.heap.size + 1, 0, none⟩ v').drewN q = V0 at *
  obtain ⟨z0, hz0⟩ : ∃ z, z = (wrap64 ((numB ((ys).take 8) : Nat) : Int)) := ⟨_, rfl⟩
  rw [← hz0]
  have HZ0 : Hid (z0 = (wrap64 ((numB ((ys).take 8) : Nat) : Int))) := hz0
  clear hz0 D0
  obtain ⟨y0, y1, y2, y3, y4, y5⟩ := DA0.out.2.2.1
  have yf := DA0.out.2.2.2.1 0
  have D1 : Hid (DS w (V0.setCell ⟨w.heap.size + 1 + 1, 0, none⟩ (.int .i64 z0)) (ys.drop 8) z0 0 0 0 0) := DA0.out.put0 z0
  go_wp2_with fail
  clear y0 y1 y2 y3 y4 y5 yf DA0
  generalize V0.setCell ⟨w.heap.size + 1 + 1, 0, none⟩ (.int .i64 z0) = W1 at *
  by_cases hl1 : 9 ≤ ys.length
  rotate_left
  · refine (number_none w _ (w.heap.size + 1) 1 (ys.drop 8) D1.out.1 (by rw [List.length_drop]; omega)).mono ?_
    rintro e W ⟨rfl, rfl⟩
    refine leaves_cons (f := 31) (args := #[]) (by simp) (by simp [go_sem]) ?_
    refine (catch_bad [] _).mono ?_
    rintro e u' w2 ⟨rfl, rfl, b2⟩
    have Z2 : Zr w2 w.heap.size := Zr.same D1.out.2.1 (fun q => b2.cell (p := ⟨w.heap.size, q, none⟩) (by have := D1.out.1.2.1; show w.heap.size < _; omega))
    obtain ⟨z0, z1, z2, z3, z4, z5⟩ := Z2
    rw [dec_short (by omega)]
    have B2 : Below w.heap.size w w2 := D1.out.below.trans (b2.mono D1.out.below.size)
    simp [Leaves, settle, results, Try.results13, go_sem, z0, z1, z2, z3, z4, z5, B2, zeroV]
  refine (number_any w _ (w.heap.size + 1) 1 (ys.drop 8) D1.out.1 (by rw [List.length_drop]; omega) (by omega) (by omega) (fun x hx => HBY.out x (List.mem_of_mem_drop hx))).mono ?_
  rintro e W ⟨rfl, hr, v', q, rfl⟩
  have DA1 : Hid (DS w ((W1.setCell ⟨w.heap.size + 1, 0, none⟩ v').drewN q) (ys.drop 9) z0 0 0 0 0) := by
    have := D1.out.number hr
    rw [List.drop_drop] at this; exact this
  clear hr
  generalize (W1.setCell ⟨w.heap.size + 1, 0, none⟩ v').drewN q = V1 at *
  obtain ⟨z1, hz1⟩ : ∃ z, z = (wrap64 ((numB ((ys.drop 8).take 1) : Nat) : Int)) := ⟨_, rfl⟩
  rw [← hz1]
  have HZ1 : Hid (z1 = (wrap64 ((numB ((ys.drop 8).take 1) : Nat) : Int))) := hz1
  clear hz1 D1
  obtain ⟨y0, y1, y2, y3, y4, y5⟩ := DA1.out.2.2.1
  have yf := DA1.out.2.2.2.1 1
  have D2 : Hid (DS w (V1.setCell ⟨w.heap.size + 1 + 1, 1, none⟩ (.int .i64 z1)) (ys.drop 9) z0 z1 0 0 0) := DA1.out.put1 z1
  go_wp2_with fail
  clear y0 y1 y2 y3 y4 y5 yf DA1
  generalize V1.setCell ⟨w.heap.size + 1 + 1, 1, none⟩ (.int .i64 z1) = W2 at *
  by_cases hl2 : 13 ≤ ys.length
  rotate_left
  · refine (number_none w _ (w.heap.size + 1) 4 (ys.drop 9) D2.out.1 (by rw [List.length_drop]; omega)).mono ?_
    rintro e W ⟨rfl, rfl⟩
    refine leaves_cons (f := 31) (args := #[]) (by simp) (by simp [go_sem]) ?_
    refine (catch_bad [] _).mono ?_
    rintro e u' w2 ⟨rfl, rfl, b2⟩
    have Z2 : Zr w2 w.heap.size := Zr.same D2.out.2.1 (fun q => b2.cell (p := ⟨w.heap.size, q, none⟩) (by have := D2.out.1.2.1; show w.heap.size < _; omega))
    obtain ⟨z0, z1, z2, z3, z4, z5⟩ := Z2
    rw [dec_short (by omega)]
    have B2 : Below w.heap.size w w2 := D2.out.below.trans (b2.mono D2.out.below.size)
    simp [Leaves, settle, results, Try.results13, go_sem, z0, z1, z2, z3, z4, z5, B2, zeroV]
  refine (number_any w _ (w.heap.size + 1) 4 (ys.drop 9) D2.out.1 (by rw [List.length_drop]; omega) (by omega) (by omega) (fun x hx => HBY.out x (List.mem_of_mem_drop hx))).mono ?_
  rintro e W ⟨rfl, hr, v', q, rfl⟩
  have DA2 : Hid (DS w ((W2.setCell ⟨w.heap.size + 1, 0, none⟩ v').drewN q) (ys.drop 13) z0 z1 0 0 0) := by
    have := D2.out.number hr
    rw [List.drop_drop] at this; exact this
  clear hr
  generalize (W2.setCell ⟨w.heap.size + 1, 0, none⟩ v').drewN q = V2 at *
  obtain ⟨z2, hz2⟩ : ∃ z, z = (wrap64 ((numB ((ys.drop 9).take 4) : Nat) : Int)) := ⟨_, rfl⟩
  rw [← hz2]
  have HZ2 : Hid (z2 = (wrap64 ((numB ((ys.drop 9).take 4) : Nat) : Int))) := hz2
  clear hz2 D2
  obtain ⟨y0, y1, y2, y3, y4, y5⟩ := DA2.out.2.2.1
  have yf := DA2.out.2.2.2.1 2
  have D3 : Hid (DS w (V2.setCell ⟨w.heap.size + 1 + 1, 2, none⟩ (.int .i64 z2)) (ys.drop 13) z0 z1 z2 0 0) := DA2.out.put2 z2
  go_wp2_with fail
  clear y0 y1 y2 y3 y4 y5 yf DA2
  generalize V2.setCell ⟨w.heap.size + 1 + 1, 2, none⟩ (.int .i64 z2) = W3 at *
  by_cases hl3 : 17 ≤ ys.length
  rotate_left
  · refine (number_none w _ (w.heap.size + 1) 4 (ys.drop 13) D3.out.1 (by rw [List.length_drop]; omega)).mono ?_
    rintro e W ⟨rfl, rfl⟩
    refine leaves_cons (f := 31) (args := #[]) (by simp) (by simp [go_sem]) ?_
    refine (catch_bad [] _).mono ?_
    rintro e u' w2 ⟨rfl, rfl, b2⟩
    have Z2 : Zr w2 w.heap.size := Zr.same D3.out.2.1 (fun q => b2.cell (p := ⟨w.heap.size, q, none⟩) (by have := D3.out.1.2.1; show w.heap.size < _; omega))
    obtain ⟨z0, z1, z2, z3, z4, z5⟩ := Z2
    rw [dec_short (by omega)]
    have B2 : Below w.heap.size w w2 := D3.out.below.trans (b2.mono D3.out.below.size)
    simp [Leaves, settle, results, Try.results13, go_sem, z0, z1, z2, z3, z4, z5, B2, zeroV]
  refine (number_any w _ (w.heap.size + 1) 4 (ys.drop 13) D3.out.1 (by rw [List.length_drop]; omega) (by omega) (by omega) (fun x hx => HBY.out x (List.mem_of_mem_drop hx))).mono ?_
  rintro e W ⟨rfl, hr, v', q, rfl⟩
  have DA3 : Hid (DS w ((W3.setCell ⟨w.heap.size + 1, 0, none⟩ v').drewN q) (ys.drop 17) z0 z1 z2 0 0) := by
    have := D3.out.number hr
    rw [List.drop_drop] at this; exact this
  clear hr
  generalize (W3.setCell ⟨w.heap.size + 1, 0, none⟩ v').drewN q = V3 at *
  obtain ⟨z3, hz3⟩ : ∃ z, z = (wrap64 ((numB ((ys.drop 13).take 4) : Nat) : Int)) := ⟨_, rfl⟩
  rw [← hz3]
  have HZ3 : Hid (z3 = (wrap64 ((numB ((ys.drop 13).take 4) : Nat) : Int))) := hz3
  clear hz3 D3
  obtain ⟨y0, y1, y2, y3, y4, y5⟩ := DA3.out.2.2.1
  have yf := DA3.out.2.2.2.1 3
  have D4 : Hid (DS w (V3.setCell ⟨w.heap.size + 1 + 1, 3, none⟩ (.int .i64 z3)) (ys.drop 17) z0 z1 z2 z3 0) := DA3.out.put3 z3
  go_wp2_with fail
  clear y0 y1 y2 y3 y4 y5 yf DA3
  generalize V3.setCell ⟨w.heap.size + 1 + 1, 3, none⟩ (.int .i64 z3) = W4 at *
  by_cases hl4 : 21 ≤ ys.length
  rotate_left
  · refine (number_none w _ (w.heap.size + 1) 4 (ys.drop 17) D4.out.1 (by rw [List.length_drop]; omega)).mono ?_
    rintro e W ⟨rfl, rfl⟩
    refine leaves_cons (f := 31) (args := #[]) (by simp) (by simp [go_sem]) ?_
    refine (catch_bad [] _).mono ?_
    rintro e u' w2 ⟨rfl, rfl, b2⟩
    have Z2 : Zr w2 w.heap.size := Zr.same D4.out.2.1 (fun q => b2.cell (p := ⟨w.heap.size, q, none⟩) (by have := D4.out.1.2.1; show w.heap.size < _; omega))
    obtain ⟨z0, z1, z2, z3, z4, z5⟩ := Z2
    rw [dec_short (by omega)]
    have B2 : Below w.heap.size w w2 := D4.out.below.trans (b2.mono D4.out.below.size)
    simp [Leaves, settle, results, Try.results13, go_sem, z0, z1, z2, z3, z4, z5, B2, zeroV]
  refine (number_any w _ (w.heap.size + 1) 4 (ys.drop 17) D4.out.1 (by rw [List.length_drop]; omega) (by omega) (by omega) (fun x hx => HBY.out x (List.mem_of_mem_drop hx))).mono ?_
  rintro e W ⟨rfl, hr, v', q, rfl⟩
  have DA4 : Hid (DS w ((W4.setCell ⟨w.heap.size + 1, 0, none⟩ v').drewN q) (ys.drop 21) z0 z1 z2 z3 0) := by
    have := D4.out.number hr
    rw [List.drop_drop] at this; exact this
  clear hr
  generalize (W4.setCell ⟨w.heap.size + 1, 0, none⟩ v').drewN q = V4 at *
  obtain ⟨z4, hz4⟩ : ∃ z, z = (wrap64 ((numB ((ys.drop 17).take 4) : Nat) : Int)) := ⟨_, rfl⟩
  rw [← hz4]
  have HZ4 : Hid (z4 = (wrap64 ((numB ((ys.drop 17).take 4) : Nat) : Int))) := hz4
  clear hz4 D4
  obtain ⟨y0, y1, y2, y3, y4, y5⟩ := DA4.out.2.2.1
  have yf := DA4.out.2.2.2.1 4
  have D5 : Hid (DS w (V4.setCell ⟨w.heap.size + 1 + 1, 4, none⟩ (.int .i64 z4)) (ys.drop 21) z0 z1 z2 z3 z4) := DA4.out.put4 z4
  go_wp2_with fail
  clear y0 y1 y2 y3 y4 y5 yf DA4
  generalize V4.setCell ⟨w.heap.size + 1 + 1, 4, none⟩ (.int .i64 z4) = W5 at *
  have HDV : Hid (decV ys = if sup z0 z1 z2 z3 z4 = ys then .agg #[.bool true, .int .i64 z0, .int .i64 z1, .int .i64 z2, .int .i64 z3, .int .i64 z4] else zeroV) := dec_eq HBY.out hl4 HZ0.out HZ1.out HZ2.out HZ3.out HZ4.out
  refine (implSuper_any _ z0 z1 z2 z3 z4).mono ?_
  rintro e W6 ⟨v6, rfl, o6, b6⟩
  have s5 := D5.out.1.2.1
  have s5b := D5.out.2.2.1.1
  have D6 : Hid (DS w W6 (ys.drop 21) z0 z1 z2 z3 z4) := D5.out.keep b6
  have O6 : Hid (Own .u8 5 W6 W5.heap.size v6 (sup z0 z1 z2 z3 z4)) := o6
  have HR6 : Hid (Rd .u8 W6 (.slice ao ys.length cap) ys) := HR.out.below D6.out.below
  clear o6 b6 D5
  go_wp2_with fail
  refine (bytesEqual_any _ _ _ (sup z0 z1 z2 z3 z4) ys O6.out.rd HR6.out (sup_byt _ _ _ _ _) HBY.out).mono ?_
  rintro e W7 ⟨rfl, rfl⟩
  obtain ⟨y0, y1, y2, y3, y4, y5⟩ := D6.out.2.2.1
  obtain ⟨x0, x1, x2, x3, x4, x5⟩ := D6.out.2.1
  have f0 := D6.out.2.2.2.2 0
  have f1 := D6.out.2.2.2.2 1
  have f2 := D6.out.2.2.2.2 2
  have f3 := D6.out.2.2.2.2 3
  have f4 := D6.out.2.2.2.2 4
  have f5 := D6.out.2.2.2.2 5
  have BB : Hid (Below w.heap.size w W7) := D6.out.below
  by_cases hd : sup z0 z1 z2 z3 z4 = ys
  · have HDT : Hid (decV ys = .agg #[.bool true, .int .i64 z0, .int .i64 z1, .int .i64 z2, .int .i64 z3, .int .i64 z4]) := by show _ = _; rw [HDV.out, if_pos hd]
    rw [decide_eq_true hd]
    clear hd HDV
    go_wp2
    refine leaves_cons (f := 31) (args := #[]) (by simp) (by simp [go_sem]) ?_
    refine (catch_idle _).mono ?_
    rintro e u' w2 ⟨rfl, rfl, rfl⟩
    rw [HDT.out]
    have BW := (((((BB.out.setCell (p := ⟨w.heap.size, 0, none⟩) (Nat.le_refl _) (.bool true)).setCell (p := ⟨w.heap.size, 1, none⟩) (Nat.le_refl _) (.int .i64 z0)).setCell (p := ⟨w.heap.size, 2, none⟩) (Nat.le_refl _) (.int .i64 z1)).setCell (p := ⟨w.heap.size, 3, none⟩) (Nat.le_refl _) (.int .i64 z2)).setCell (p := ⟨w.heap.size, 4, none⟩) (Nat.le_refl _) (.int .i64 z3)).setCell (p := ⟨w.heap.size, 5, none⟩) (Nat.le_refl _) (.int .i64 z4)
    simp [Leaves, settle, results, Try.results13, go_sem, x0, x1, x2, x3, x4, x5, BW]
  · have HDT : Hid (decV ys = zeroV) := by show _ = _; rw [HDV.out, if_neg hd]
    rw [decide_eq_false hd]
    clear hd HDV
    go_wp2
    refine leaves_cons (f := 31) (args := #[]) (by simp) (by simp [go_sem]) ?_
    refine (catch_idle _).mono ?_
    rintro e u' w2 ⟨rfl, rfl, rfl⟩
    rw [HDT.out]
    have BW := (((((BB.out.setCell (p := ⟨w.heap.size, 0, none⟩) (Nat.le_refl _) (.bool false)).setCell (p := ⟨w.heap.size, 1, none⟩) (Nat.le_refl _) (.int .i64 0)).setCell (p := ⟨w.heap.size, 2, none⟩) (Nat.le_refl _) (.int .i64 0)).setCell (p := ⟨w.heap.size, 3, none⟩) (Nat.le_refl _) (.int .i64 0)).setCell (p := ⟨w.heap.size, 4, none⟩) (Nat.le_refl _) (.int .i64 0)).setCell (p := ⟨w.heap.size, 5, none⟩) (Nat.le_refl _) (.int .i64 0)
    simp [Leaves, settle, results, Try.results13, go_sem, x0, x1, x2, x3, x4, x5, BW, zeroV]

end Go.Proofs.Ytgjenbgclpmjmaa
