import Derived.Test.YtgjenbgclpmjmaaDrawNext
namespace Go.Proofs.Ytgjenbgclpmjmaa
open Go.RowKit

/-- The source, the answer's own variable and the superblock under way. -/
def DR (W V : World) (k : Nat) : Prop := SRC V k W.heap.size ∧ k < W.heap.size ∧ Below 0 W V ∧ (∀ j, j ≠ k → j < W.heap.size → V.heap[j]? = W.heap[j]?) ∧ Bx5 V W.heap.size 0 0 0 0 0 ∧ ∀ j, V.frozen? ⟨W.heap.size, j, none⟩ = false

theorem Only.frz {k : Nat} {a b : World} (h : Only k a b) {m j : Nat} (hm : m ≠ k) (hl : m < a.heap.size) : b.frozen? ⟨m, j, none⟩ = a.frozen? ⟨m, j, none⟩ := World.frozen?_of_block (w := a) (h.2 m hm hl)

theorem DR.next {W V V' : World} {k : Nat} (h : DR W V k) (hs : SRC V' k W.heap.size) (ho : Only k V V') : DR W V' k := by
  obtain ⟨h1, h2, h3, h4, h5, h6⟩ := h
  exact ⟨hs, h2, h3.trans ho.1, fun j hj hl => (ho.2 j hj (Nat.lt_of_lt_of_le hl h3.size)).trans (h4 j hj hl), ho.bx5 h5 (by omega), fun j => (ho.frz (by omega) h5.1).trans (h6 j)⟩

/-- Blocks behind the answer's have turned. -/
theorem DR.keep {W V V' : World} {k : Nat} (h : DR W V k) (hb : Below (W.heap.size + 1) V V') : DR W V' k := by
  obtain ⟨h1, h2, h3, h4, h5, h6⟩ := h
  exact ⟨h1.keep (hb.mono (by omega)) h2, h2, h3.trans (hb.mono (Nat.zero_le _)), fun j hj hl => (hb.block j (by omega)).trans (h4 j hj hl), h5.below hb (Nat.lt_succ_self _), fun j => (hb.frozen (p := ⟨W.heap.size, j, none⟩) (Nat.lt_succ_self _)).trans (h6 j)⟩

theorem DR.start {W : World} {k : Nat} (h : SRC W k W.heap.size) : DR W (W.alloc (.cells #[.int .i64 0, .int .i64 0, .int .i64 0, .int .i64 0, .int .i64 0] 35)) k :=
  ⟨h.keep ((Below.refl _ _).alloc (Nat.le_refl _) _) h.1, h.1, (Below.refl _ _).alloc (Nat.zero_le _) _, fun j _ hl => Below.heap_alloc _ _ _ hl, Bx5.new W 0 0 0 0 0 _, fun j => (by go_simp)⟩

theorem Only.setAt {k p i : Nat} {a b : World} (h : Only k a b) (hp : a.heap.size ≤ p) (v : Value) : Only k a (b.setCell ⟨p, i, none⟩ v) := ⟨h.1.setCell (Nat.zero_le _) _, fun j hj hl => (Below.heap_setCell b _ _ _ (by show j ≠ p; omega)).trans (h.2 j hj hl)⟩
theorem DR.only {W V : World} {k : Nat} (h : DR W V k) : Only k W V := ⟨h.2.2.1, h.2.2.2.1⟩

/-- A superblock's box, to be written. -/
def Bw5 (V : World) (m : Nat) (g b s l c : Int) : Prop := Bx5 V m g b s l c ∧ ∀ j, V.frozen? ⟨m, j, none⟩ = false
theorem Bw5.next {V V' : World} {k m : Nat} {g b s l c : Int} (h : Bw5 V m g b s l c) (ho : Only k V V') (hm : m ≠ k) : Bw5 V' m g b s l c := ⟨ho.bx5 h.1 hm, fun j => (ho.frz hm h.1.1).trans (h.2 j)⟩
theorem Bw5.put0 {V : World} {m : Nat} {g b s l c : Int} (z : Int) (h : Bw5 V m g b s l c) : Bw5 (V.setCell ⟨m, 0, none⟩ (.int .i64 z)) m z b s l c := by
  obtain ⟨⟨x0, x1, x2, x3, x4, x5⟩, hf⟩ := h
  exact ⟨⟨by simpa using x0, World.cell?_setCell_same _ _ _ x1, (World.cell?_setCell_other _ _ _ _ (by intro e; injection e with _ e; omega)).trans x2, (World.cell?_setCell_other _ _ _ _ (by intro e; injection e with _ e; omega)).trans x3, (World.cell?_setCell_other _ _ _ _ (by intro e; injection e with _ e; omega)).trans x4, (World.cell?_setCell_other _ _ _ _ (by intro e; injection e with _ e; omega)).trans x5⟩, fun j => by rw [World.frozen?_setCell]; exact hf j⟩
theorem Bw5.put1 {V : World} {m : Nat} {g b s l c : Int} (z : Int) (h : Bw5 V m g b s l c) : Bw5 (V.setCell ⟨m, 1, none⟩ (.int .i64 z)) m g z s l c := by
  obtain ⟨⟨x0, x1, x2, x3, x4, x5⟩, hf⟩ := h
  exact ⟨⟨by simpa using x0, (World.cell?_setCell_other _ _ _ _ (by intro e; injection e with _ e; omega)).trans x1, World.cell?_setCell_same _ _ _ x2, (World.cell?_setCell_other _ _ _ _ (by intro e; injection e with _ e; omega)).trans x3, (World.cell?_setCell_other _ _ _ _ (by intro e; injection e with _ e; omega)).trans x4, (World.cell?_setCell_other _ _ _ _ (by intro e; injection e with _ e; omega)).trans x5⟩, fun j => by rw [World.frozen?_setCell]; exact hf j⟩
theorem Bw5.put2 {V : World} {m : Nat} {g b s l c : Int} (z : Int) (h : Bw5 V m g b s l c) : Bw5 (V.setCell ⟨m, 2, none⟩ (.int .i64 z)) m g b z l c := by
  obtain ⟨⟨x0, x1, x2, x3, x4, x5⟩, hf⟩ := h
  exact ⟨⟨by simpa using x0, (World.cell?_setCell_other _ _ _ _ (by intro e; injection e with _ e; omega)).trans x1, (World.cell?_setCell_other _ _ _ _ (by intro e; injection e with _ e; omega)).trans x2, World.cell?_setCell_same _ _ _ x3, (World.cell?_setCell_other _ _ _ _ (by intro e; injection e with _ e; omega)).trans x4, (World.cell?_setCell_other _ _ _ _ (by intro e; injection e with _ e; omega)).trans x5⟩, fun j => by rw [World.frozen?_setCell]; exact hf j⟩
theorem Bw5.put3 {V : World} {m : Nat} {g b s l c : Int} (z : Int) (h : Bw5 V m g b s l c) : Bw5 (V.setCell ⟨m, 3, none⟩ (.int .i64 z)) m g b s z c := by
  obtain ⟨⟨x0, x1, x2, x3, x4, x5⟩, hf⟩ := h
  exact ⟨⟨by simpa using x0, (World.cell?_setCell_other _ _ _ _ (by intro e; injection e with _ e; omega)).trans x1, (World.cell?_setCell_other _ _ _ _ (by intro e; injection e with _ e; omega)).trans x2, (World.cell?_setCell_other _ _ _ _ (by intro e; injection e with _ e; omega)).trans x3, World.cell?_setCell_same _ _ _ x4, (World.cell?_setCell_other _ _ _ _ (by intro e; injection e with _ e; omega)).trans x5⟩, fun j => by rw [World.frozen?_setCell]; exact hf j⟩
theorem Bw5.put4 {V : World} {m : Nat} {g b s l c : Int} (z : Int) (h : Bw5 V m g b s l c) : Bw5 (V.setCell ⟨m, 4, none⟩ (.int .i64 z)) m g b s l z := by
  obtain ⟨⟨x0, x1, x2, x3, x4, x5⟩, hf⟩ := h
  exact ⟨⟨by simpa using x0, (World.cell?_setCell_other _ _ _ _ (by intro e; injection e with _ e; omega)).trans x1, (World.cell?_setCell_other _ _ _ _ (by intro e; injection e with _ e; omega)).trans x2, (World.cell?_setCell_other _ _ _ _ (by intro e; injection e with _ e; omega)).trans x3, (World.cell?_setCell_other _ _ _ _ (by intro e; injection e with _ e; omega)).trans x4, World.cell?_setCell_same _ _ _ x5⟩, fun j => by rw [World.frozen?_setCell]; exact hf j⟩

set_option maxHeartbeats 2000000 in
set_option maxRecDepth 100000 in
theorem draw_any (W : World) (k : Nat) (h : SRC W k W.heap.size) :
    Calls Try.prog 25 #[.pointer (some ⟨k, 0, none⟩)] W fun e w' => ∃ g b s l c : Int, e = .returned (.agg #[.int .i64 g, .int .i64 b, .int .i64 s, .int .i64 l, .int .i64 c]) ∧ g < 9223372036854775808 ∧ Only k W w' := by
  have D0 : Hid (DR W (W.alloc (.cells #[.int .i64 0, .int .i64 0, .int .i64 0, .int .i64 0, .int .i64 0] 35)) k) := DR.start h
  clear h
  go_enter Try.func25, Try.ntmps25
  go_wp2_with fail
  generalize W.alloc (.cells #[.int .i64 0, .int .i64 0, .int .i64 0, .int .i64 0, .int .i64 0] 35) = V0 at *
  refine (next_any _ k W.heap.size 600 D0.out.1 (by omega) (by omega)).mono ?_
  rintro e V1 ⟨r0, rfl, hr0, hs, ho⟩
  have D1 : Hid (DR W V1 k) := D0.out.next hs ho
  clear hs ho D0
  go_wp2_with fail
  refine (next_any _ k W.heap.size 2 D1.out.1 (by omega) (by omega)).mono ?_
  rintro e V2 ⟨r1, rfl, hr1, hs, ho⟩
  have D2 : Hid (DR W V2 k) := D1.out.next hs ho
  clear hs ho D1
  go_wp2_with fail
  refine (next_any _ k W.heap.size 90 D2.out.1 (by omega) (by omega)).mono ?_
  rintro e V3 ⟨r2, rfl, hr2, hs, ho⟩
  have D3 : Hid (DR W V3 k) := D2.out.next hs ho
  clear hs ho D2
  go_wp2_with fail
  refine (next_any _ k W.heap.size 4097 D3.out.1 (by omega) (by omega)).mono ?_
  rintro e V4 ⟨r3, rfl, hr3, hs, ho⟩
  have D4 : Hid (DR W V4 k) := D3.out.next hs ho
  clear hs ho D3
  go_wp2_with fail
  refine (next_any _ k W.heap.size 1000000 D4.out.1 (by omega) (by omega)).mono ?_
  rintro e V5 ⟨r4, rfl, hr4, hs, ho⟩
  have D5 : Hid (DR W V5 k) := D4.out.next hs ho
  clear hs ho D4
  go_wp2_with fail
  have D6 : Hid (DR W (V5.alloc (.cells #[.int .i64 (1 + (r0 : Int)), .int .i64 (r1 : Int), .int .i64 (r2 : Int), .int .i64 (r3 : Int), .int .i64 ((r4 : Int) * 4294)] 35)) k) := D5.out.keep ((Below.refl _ _).alloc (Nat.succ_le_of_lt D5.out.2.2.2.2.1.1) _)
  have X6 : Hid (Bw5 (V5.alloc (.cells #[.int .i64 (1 + (r0 : Int)), .int .i64 (r1 : Int), .int .i64 (r2 : Int), .int .i64 (r3 : Int), .int .i64 ((r4 : Int) * 4294)] 35)) V5.heap.size (1 + (r0 : Int)) (r1 : Int) (r2 : Int) (r3 : Int) ((r4 : Int) * 4294)) := ⟨Bx5.new V5 _ _ _ _ _ _, fun j => (by go_simp)⟩
  have hm1 : W.heap.size < V5.heap.size := D5.out.2.2.2.2.1.1
  have hk1 : k < W.heap.size := D5.out.2.1
  clear D5
  generalize V5.alloc (.cells #[.int .i64 (1 + (r0 : Int)), .int .i64 (r1 : Int), .int .i64 (r2 : Int), .int .i64 (r3 : Int), .int .i64 ((r4 : Int) * 4294)] 35) = V6 at *
  generalize V5.heap.size = m at *
  refine (next_any _ k W.heap.size 24 D6.out.1 (by omega) (by omega)).mono ?_
  rintro e V7 ⟨r5, rfl, hr5, hs, ho⟩
  have D7 : Hid (DR W V7 k) := D6.out.next hs ho
  have X7 : Hid (Bw5 V7 m (1 + (r0 : Int)) (r1 : Int) (r2 : Int) (r3 : Int) ((r4 : Int) * 4294)) := X6.out.next ho (by omega)
  clear hs ho D6 X6
  have hcase : r5 = 0 ∨ r5 = 1 ∨ r5 = 2 ∨ r5 = 3 ∨ r5 = 4 ∨ r5 = 5 ∨ 6 ≤ r5 := by omega
  rcases hcase with rfl | rfl | rfl | rfl | rfl | rfl | h6
  · go_wp2_with fail
    refine (next_any _ k W.heap.size 2 D7.out.1 (by omega) (by omega)).mono ?_
    rintro e V8 ⟨r6, rfl, hr6, hs, ho⟩
    have D8 : Hid (DR W V8 k) := D7.out.next hs ho
    have X8 : Hid (Bw5 V8 m (1 + (r0 : Int)) (r1 : Int) (r2 : Int) (r3 : Int) ((r4 : Int) * 4294)) := X7.out.next ho (by omega)
    clear hs ho D7 X7
    obtain ⟨⟨y0, y1, y2, y3, y4, y5⟩, yf⟩ := X8.out
    obtain ⟨z0, z1, z2, z3, z4, z5⟩ := D8.out.2.2.2.2.1
    have zf := D8.out.2.2.2.2.2
    have yf0 := yf 0
    have yf1 := yf 1
    have yf2 := yf 2
    have yf3 := yf 3
    have yf4 := yf 4
    have zf0 := zf 0
    have zf1 := zf 1
    have zf2 := zf 2
    have zf3 := zf 3
    have zf4 := zf 4
    clear yf zf
    go_wp2
    refine bodyPost_ret (v := .agg #[.int .i64 (9223372036854775807 - (r6 : Int)), .int .i64 ((r1 : Int)), .int .i64 ((r2 : Int)), .int .i64 ((r3 : Int)), .int .i64 ((r4 : Int) * 4294)]) (by simp [results, Try.results25, go_sem, z1, z2, z3, z4, z5]) rfl ⟨_, _, _, _, _, rfl, by omega, ?_⟩
    repeat (first | refine Only.setAt ?_ (by omega) _ | exact D8.out.only)
  · go_wp2_with fail
    refine (next_any _ k W.heap.size 2 D7.out.1 (by omega) (by omega)).mono ?_
    rintro e V8 ⟨r6, rfl, hr6, hs, ho⟩
    have D8 : Hid (DR W V8 k) := D7.out.next hs ho
    have X8 : Hid (Bw5 V8 m (1 + (r0 : Int)) (r1 : Int) (r2 : Int) (r3 : Int) ((r4 : Int) * 4294)) := X7.out.next ho (by omega)
    clear hs ho D7 X7
    obtain ⟨⟨y0, y1, y2, y3, y4, y5⟩, yf⟩ := X8.out
    obtain ⟨z0, z1, z2, z3, z4, z5⟩ := D8.out.2.2.2.2.1
    have zf := D8.out.2.2.2.2.2
    have yf0 := yf 0
    have yf1 := yf 1
    have yf2 := yf 2
    have yf3 := yf 3
    have yf4 := yf 4
    have zf0 := zf 0
    have zf1 := zf 1
    have zf2 := zf 2
    have zf3 := zf 3
    have zf4 := zf 4
    clear yf zf
    go_wp2
    refine bodyPost_ret (v := .agg #[.int .i64 (-(r6 : Int)), .int .i64 ((r1 : Int)), .int .i64 ((r2 : Int)), .int .i64 ((r3 : Int)), .int .i64 ((r4 : Int) * 4294)]) (by simp [results, Try.results25, go_sem, z1, z2, z3, z4, z5]) rfl ⟨_, _, _, _, _, rfl, by omega, ?_⟩
    repeat (first | refine Only.setAt ?_ (by omega) _ | exact D8.out.only)
  · go_wp2_with fail
    refine (next_any _ k W.heap.size 2 D7.out.1 (by omega) (by omega)).mono ?_
    rintro e V8 ⟨r6, rfl, hr6, hs, ho⟩
    have D8 : Hid (DR W V8 k) := D7.out.next hs ho
    have X8 : Hid (Bw5 V8 m (1 + (r0 : Int)) (r1 : Int) (r2 : Int) (r3 : Int) ((r4 : Int) * 4294)) := X7.out.next ho (by omega)
    clear hs ho D7 X7
    obtain ⟨⟨y0, y1, y2, y3, y4, y5⟩, yf⟩ := X8.out
    obtain ⟨z0, z1, z2, z3, z4, z5⟩ := D8.out.2.2.2.2.1
    have zf := D8.out.2.2.2.2.2
    have yf0 := yf 0
    have yf1 := yf 1
    have yf2 := yf 2
    have yf3 := yf 3
    have yf4 := yf 4
    have zf0 := zf 0
    have zf1 := zf 1
    have zf2 := zf 2
    have zf3 := zf 3
    have zf4 := zf 4
    clear yf zf
    go_wp2
    refine bodyPost_ret (v := .agg #[.int .i64 (1 + (r0 : Int)), .int .i64 (2 - 3 * (r6 : Int)), .int .i64 ((r2 : Int)), .int .i64 ((r3 : Int)), .int .i64 ((r4 : Int) * 4294)]) (by simp [results, Try.results25, go_sem, z1, z2, z3, z4, z5]) rfl ⟨_, _, _, _, _, rfl, by omega, ?_⟩
    repeat (first | refine Only.setAt ?_ (by omega) _ | exact D8.out.only)
  · go_wp2_with fail
    refine (next_any _ k W.heap.size 2 D7.out.1 (by omega) (by omega)).mono ?_
    rintro e V8 ⟨r6, rfl, hr6, hs, ho⟩
    have D8 : Hid (DR W V8 k) := D7.out.next hs ho
    have X8 : Hid (Bw5 V8 m (1 + (r0 : Int)) (r1 : Int) (r2 : Int) (r3 : Int) ((r4 : Int) * 4294)) := X7.out.next ho (by omega)
    clear hs ho D7 X7
    obtain ⟨⟨y0, y1, y2, y3, y4, y5⟩, yf⟩ := X8.out
    obtain ⟨z0, z1, z2, z3, z4, z5⟩ := D8.out.2.2.2.2.1
    have zf := D8.out.2.2.2.2.2
    have yf0 := yf 0
    have yf1 := yf 1
    have yf2 := yf 2
    have yf3 := yf 3
    have yf4 := yf 4
    have zf0 := zf 0
    have zf1 := zf 1
    have zf2 := zf 2
    have zf3 := zf 3
    have zf4 := zf 4
    clear yf zf
    go_wp2
    refine bodyPost_ret (v := .agg #[.int .i64 (1 + (r0 : Int)), .int .i64 ((r1 : Int)), .int .i64 (2147483647 + (r6 : Int)), .int .i64 ((r3 : Int)), .int .i64 ((r4 : Int) * 4294)]) (by simp [results, Try.results25, go_sem, z1, z2, z3, z4, z5]) rfl ⟨_, _, _, _, _, rfl, by omega, ?_⟩
    repeat (first | refine Only.setAt ?_ (by omega) _ | exact D8.out.only)
  · go_wp2_with fail
    refine (next_any _ k W.heap.size 2 D7.out.1 (by omega) (by omega)).mono ?_
    rintro e V8 ⟨r6, rfl, hr6, hs, ho⟩
    have D8 : Hid (DR W V8 k) := D7.out.next hs ho
    have X8 : Hid (Bw5 V8 m (1 + (r0 : Int)) (r1 : Int) (r2 : Int) (r3 : Int) ((r4 : Int) * 4294)) := X7.out.next ho (by omega)
    clear hs ho D7 X7
    obtain ⟨⟨y0, y1, y2, y3, y4, y5⟩, yf⟩ := X8.out
    obtain ⟨z0, z1, z2, z3, z4, z5⟩ := D8.out.2.2.2.2.1
    have zf := D8.out.2.2.2.2.2
    have yf0 := yf 0
    have yf1 := yf 1
    have yf2 := yf 2
    have yf3 := yf 3
    have yf4 := yf 4
    have zf0 := zf 0
    have zf1 := zf 1
    have zf2 := zf 2
    have zf3 := zf 3
    have zf4 := zf 4
    clear yf zf
    go_wp2
    refine bodyPost_ret (v := .agg #[.int .i64 (1 + (r0 : Int)), .int .i64 ((r1 : Int)), .int .i64 ((r2 : Int)), .int .i64 (4096 + (r6 : Int)), .int .i64 ((r4 : Int) * 4294)]) (by simp [results, Try.results25, go_sem, z1, z2, z3, z4, z5]) rfl ⟨_, _, _, _, _, rfl, by omega, ?_⟩
    repeat (first | refine Only.setAt ?_ (by omega) _ | exact D8.out.only)
  · go_wp2_with fail
    refine (next_any _ k W.heap.size 2 D7.out.1 (by omega) (by omega)).mono ?_
    rintro e V8 ⟨r6, rfl, hr6, hs, ho⟩
    have D8 : Hid (DR W V8 k) := D7.out.next hs ho
    have X8 : Hid (Bw5 V8 m (1 + (r0 : Int)) (r1 : Int) (r2 : Int) (r3 : Int) ((r4 : Int) * 4294)) := X7.out.next ho (by omega)
    clear hs ho D7 X7
    obtain ⟨⟨y0, y1, y2, y3, y4, y5⟩, yf⟩ := X8.out
    obtain ⟨z0, z1, z2, z3, z4, z5⟩ := D8.out.2.2.2.2.1
    have zf := D8.out.2.2.2.2.2
    have yf0 := yf 0
    have yf1 := yf 1
    have yf2 := yf 2
    have yf3 := yf 3
    have yf4 := yf 4
    have zf0 := zf 0
    have zf1 := zf 1
    have zf2 := zf 2
    have zf3 := zf 3
    have zf4 := zf 4
    clear yf zf
    go_wp2
    refine bodyPost_ret (v := .agg #[.int .i64 (1 + (r0 : Int)), .int .i64 ((r1 : Int)), .int .i64 ((r2 : Int)), .int .i64 ((r3 : Int)), .int .i64 (4294967295 + (r6 : Int))]) (by simp [results, Try.results25, go_sem, z1, z2, z3, z4, z5]) rfl ⟨_, _, _, _, _, rfl, by omega, ?_⟩
    repeat (first | refine Only.setAt ?_ (by omega) _ | exact D8.out.only)
  · have e0 : ((r5 : Int) == 0) = false := beq_eq_false_iff_ne.2 (by omega)
    have e1 : ((r5 : Int) == 1) = false := beq_eq_false_iff_ne.2 (by omega)
    have e2 : ((r5 : Int) == 2) = false := beq_eq_false_iff_ne.2 (by omega)
    have e3 : ((r5 : Int) == 3) = false := beq_eq_false_iff_ne.2 (by omega)
    have e4 : ((r5 : Int) == 4) = false := beq_eq_false_iff_ne.2 (by omega)
    have e5 : ((r5 : Int) == 5) = false := beq_eq_false_iff_ne.2 (by omega)
    obtain ⟨⟨y0, y1, y2, y3, y4, y5⟩, yf⟩ := X7.out
    obtain ⟨z0, z1, z2, z3, z4, z5⟩ := D7.out.2.2.2.2.1
    have zf := D7.out.2.2.2.2.2
    have zf0 := zf 0
    have zf1 := zf 1
    have zf2 := zf 2
    have zf3 := zf 3
    have zf4 := zf 4
    clear yf zf
    go_wp2
    refine bodyPost_ret (v := .agg #[.int .i64 (1 + (r0 : Int)), .int .i64 (r1 : Int), .int .i64 (r2 : Int), .int .i64 (r3 : Int), .int .i64 ((r4 : Int) * 4294)]) (by simp [results, Try.results25, go_sem, z1, z2, z3, z4, z5]) rfl ⟨_, _, _, _, _, rfl, by omega, ?_⟩
    repeat (first | refine Only.setAt ?_ (by omega) _ | exact D7.out.only)

end Go.Proofs.Ytgjenbgclpmjmaa
