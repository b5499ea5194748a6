import Derived.Test.YtajnihjdhhmefaaTornFirst
import Derived.Test.YtajnihjdhhmefaaLwAt
import Derived.Test.YtajnihjdhhmefaaConv
import Derived.Test.YtajnihjdhhmefaaScanAny
namespace Go.Proofs.Ytajnihjdhhmefaa
open Go.RowKit

theorem Try.infoT : (Try.prog.info? 9).map (fun i => (i.zero, i.size, i.bytes)) = some (some (.string ByteArray.empty), 1, 16) := by kernel_rfl
theorem Try.infoN : (Try.prog.info? 3).map (fun i => (i.zero, i.size, i.bytes)) = some (some (.int .i64 0), 1, 8) := by kernel_rfl

def strV (p : List Int) : Value := .string (strOfNums p)
/-- The ends of the frames. -/
def endsL (ps : List (List Int)) : List Int := (List.range ps.length).map fun i => ((eF ps (i + 1) : Nat) : Int)

def OkP (ps : List (List Int)) : Prop := ∀ p ∈ ps, Byt p ∧ 0 < p.length ∧ p.length ≤ 20


theorem row_empty {W : World} {lo g : Nat} {e : TypeId} (h1 : lo ≤ g) (h2 : W.heap[g]? = some (.cells #[] e (0, 0))) : W.ownsRow lo e 1 (.slice (some ⟨g, 0, none⟩) 0 0) 0 [] :=
  ⟨rfl, .inr ⟨g, 0, #[], rfl, h1, h2, Nat.le_refl _, Nat.zero_le _, rfl, rfl⟩⟩
theorem ownsRow_below' {w w' : World} {lo n z : Nat} {e : TypeId} {v : Value} {us : List Value} (ho : w.ownsRow lo e z v n us) (hb : Below w.heap.size w w') : w'.ownsRow lo e z v n us := by
  refine ⟨ho.1, ?_⟩
  rcases ho.2 with hn | ⟨g, cap, cur, rfl, hbg, hgg, rest⟩
  · exact .inl hn
  · exact .inr ⟨g, cap, cur, rfl, hbg, by rw [hb.block g (Array.getElem?_eq_some_iff.1 hgg).1]; exact hgg, rest⟩
theorem flat_le : ∀ (ps : List (List Int)), OkP ps → (flatF ps).length ≤ 25 * ps.length
  | [], _ => by simp [flatF]
  | p :: ps, h => by
    have := flat_le ps (fun q hq => h q (List.mem_cons_of_mem _ hq))
    obtain ⟨-, h0, h1⟩ := h p (by simp)
    rw [flatF_cons, List.length_append, fr_len h0 (by omega), List.length_cons]
    omega
theorem flat_bound {ps : List (List Int)} (h : OkP ps) (hk : ps.length ≤ 30) : (flatF ps).length ≤ 1000 := by have := flat_le ps h; omega
theorem heap_new (w : World) (o : Obj) : (w.alloc o).heap[w.heap.size]? = some o := by show (w.heap.push o)[w.heap.size]? = _; simp
theorem heap_new' {g : Nat} (w : World) {o : Obj} (h : g = w.heap.size) : (w.alloc o).heap[g]? = some o := by subst h; exact heap_new w o
theorem heap_old {g : Nat} (w : World) {o : Obj} (h : g < w.heap.size) : (w.alloc o).heap[g]? = w.heap[g]? := Below.heap_alloc w o g h
theorem row_slice {w : World} {lo n : Nat} {e : TypeId} {v : Value} {us : List Value} (h : w.ownsRow lo e 1 v n us) : ∃ a c, v = .slice a n c ∧ n ≤ c ∧ c ≤ maxLen := by
  rcases h.2 with ⟨rfl, rfl⟩ | ⟨g, cap, cur, rfl, -, -, h1, h2, -⟩
  · exact ⟨none, 0, rfl, Nat.le_refl _, Nat.zero_le _⟩
  · exact ⟨_, _, rfl, h1, h2⟩

theorem ne_types {w : World} {lo lo' n n' z z' : Nat} {e e' : TypeId} {u v : Value} {xs ys : List Value} (hne : e ≠ e') (hu : w.ownsRow lo e z u n xs) (hv : w.ownsRow lo' e' z' v n' ys) : u.ownBlock = none ∨ u.ownBlock ≠ v.ownBlock := by
  rcases hu.2 with ⟨rfl, -⟩ | ⟨g, cap, cur, rfl, -, hg, -⟩
  · exact .inl rfl
  · refine .inr ?_
    rcases hv.2 with ⟨rfl, -⟩ | ⟨g', cap', cur', rfl, -, hg', -⟩
    · simp [Value.ownBlock]
    · intro e
      simp only [Value.ownBlock, Option.some.injEq] at e
      subst e
      rw [hg] at hg'
      injection hg' with hg'
      injection hg' with h1 h2
      exact hne h2

theorem Rd.sub {k : IntKind} {w : World} {b o N cc : Nat} {xs : List Int} (hx : xs.length = N) (h : Rd k w (.slice (some ⟨b, o, none⟩) N cc) xs) (t n c : Nat) (hn : t + n ≤ N) (h0 : 0 < n) (hc1 : n ≤ c) (hc2 : c ≤ maxLen) : Rd k w (.slice (some ⟨b, o + t, none⟩) n c) ((xs.drop t).take n) := by
  obtain ⟨ao, cap, e, h1, h2, h3⟩ := h
  simp only [Value.slice.injEq] at e
  obtain ⟨rfl, -, rfl⟩ := e
  have hl : ((xs.drop t).take n).length = n := by rw [List.length_take, List.length_drop]; omega
  refine ⟨some ⟨b, o + t, none⟩, c, by rw [hl], by rw [hl]; exact hc1, hc2, .inr ⟨b, o + t, rfl, ?_⟩⟩
  rcases h3 with rfl | ⟨b', o', e', hb, hc⟩
  · simp at hx; omega
  · simp only [Option.some.injEq, Addr.mk.injEq, and_true] at e'
    obtain ⟨rfl, rfl⟩ := e'
    refine ⟨hb, fun i hi => ?_⟩
    rw [hl] at hi
    rw [Nat.add_assoc, hc (t + i) (by omega)]
    simp [List.getD, List.getElem?_take_of_lt hi]

theorem endsL_snoc (ps : List (List Int)) (p : List Int) : endsL (ps ++ [p]) = endsL ps ++ [(((flatF ps).length + (fr p).length : Nat) : Int)] := by
  unfold endsL
  rw [List.length_append]
  show (List.range (ps.length + 1)).map _ = _
  rw [List.range_succ, List.map_append]
  congr 1
  · apply List.map_congr_left
    intro i hi
    rw [List.mem_range] at hi
    rw [eF_left ps p (i + 1) (by omega)]
  · simp only [List.map_cons, List.map_nil]
    have := eF_all (ps ++ [p])
    rw [List.length_append, flatF_snoc, List.length_append] at this
    rw [← this]; rfl
theorem byt_sub {xs : List Int} (h : Byt xs) (t n : Nat) : Byt ((xs.drop t).take n) := fun x hx => h x (List.mem_of_mem_drop (List.mem_of_mem_take hx))
theorem sub_len {xs : List Int} {N t n : Nat} (hx : xs.length = N) (hn : t + n ≤ N) : ((xs.drop t).take n).length = n := by rw [List.length_take, List.length_drop]; omega

theorem row_pos {w : World} {lo n : Nat} {e : TypeId} {v : Value} {us : List Value} (h : w.ownsRow lo e 1 v n us) (hne : ¬ v = .slice none 0 0) : ∃ g c, v = .slice (some ⟨g, 0, none⟩) n c ∧ n ≤ c ∧ c ≤ maxLen := by
  rcases h.2 with ⟨rfl, rfl⟩ | ⟨g, cap, cur, rfl, -, -, h1, h2, -⟩
  · exact absurd rfl hne
  · exact ⟨g, cap, rfl, h1, h2⟩

/-- The three rows of the law, and the world from its start on. -/
def TSt (lo : Nat) (w wr : World) (vp va ve : Value) (ps : List (List Int)) (A : List Int) : Prop :=
  wr.ownsRow lo 9 1 vp ps.length (ps.map strV) ∧ wr.ownsRow lo 5 1 va A.length (A.map (Value.int .u8)) ∧ wr.ownsRow lo 3 1 ve ps.length ((endsL ps).map (Value.int .i64)) ∧ Below lo w wr

theorem TSt.drewN {lo : Nat} {w wr : World} {vp va ve : Value} {ps : List (List Int)} {A : List Int} (h : TSt lo w wr vp va ve ps A) (hl : lo ≤ wr.heap.size) (q : Nat) : TSt lo w (wr.drewN q) vp va ve ps A :=
  ⟨h.1, h.2.1, h.2.2.1, h.2.2.2.trans ((below_drewN' wr q).mono hl)⟩

theorem TSt.append {lo : Nat} {w wr w3 : World} {vp va ve v3 : Value} {ps : List (List Int)} {A : List Int} {x : Int} (h : TSt lo w wr vp va ve ps A) (hl : lo ≤ wr.heap.size) (o : Obj) (hg : (wr.alloc o).grownBy w3 va.ownBlock)
    (ho : w3.ownsRow lo 5 1 v3 (A.length + 1) (A.map (Value.int .u8) ++ [.int .u8 x])) : TSt lo w w3 vp v3 ve ps (A ++ [x]) := by
  obtain ⟨h1, h2, h3, h4⟩ := h
  refine ⟨World.ownsRow.kept (h1.alloc o) hg (ne_types (by decide) (h1.alloc o) (h2.alloc o)), ?_, World.ownsRow.kept (h3.alloc o) hg (ne_types (by decide) (h3.alloc o) (h2.alloc o)), (h4.alloc hl o).grown hg (by simp; omega) (fun q hq => (World.ownsRow.lt h2 q hq).1)⟩
  rw [List.length_append, List.map_append]; exact ho

theorem TSt.set {lo : Nat} {w wr : World} {vp ve : Value} {g T c : Nat} {ps : List (List Int)} {A : List Int} (h : TSt lo w wr vp (.slice (some ⟨g, 0, none⟩) T c) ve ps A) (hT : A.length = T) (j : Nat) (x : Int) :
    TSt lo w (wr.setCell ⟨g, j, none⟩ (.int .u8 x)) vp (.slice (some ⟨g, 0, none⟩) T c) ve ps (A.set j x) := by
  obtain ⟨h1, h2, h3, h4⟩ := h
  have hb : lo ≤ g := (World.ownsRow.lt h2 g rfl).1
  have hg : wr.grownBy (wr.setCell ⟨g, j, none⟩ (.int .u8 x)) (some g) := grownBy_set wr wr g j _ (World.grownBy.refl _ _)
  refine ⟨World.ownsRow.kept h1 hg (ne_types (by decide) h1 h2), ?_, World.ownsRow.kept h3 hg (ne_types (by decide) h3 h2), h4.setCell hb _⟩
  rw [hT] at h2
  have := (World.ownsRow.stored h2 j (.int .u8 x)).1
  rw [← List.map_set] at this
  rw [List.length_set, hT]; exact this

theorem TSt.areaCell {lo : Nat} {w wr : World} {vp ve : Value} {g T c : Nat} {ps : List (List Int)} {A : List Int} (h : TSt lo w wr vp (.slice (some ⟨g, 0, none⟩) T c) ve ps A) (hT : A.length = T) (j : Nat) (hj : j < T) : wr.cell? ⟨g, j, none⟩ = some (.int .u8 (A.getD j 0)) ∧ wr.frozen? ⟨g, j, none⟩ = false := by
  have h2 := h.2.1
  rw [hT] at h2
  refine ⟨?_, World.ownsRow.frozenAt h2 j⟩
  rw [World.ownsRow.cellAt h2 j (by omega)]
  simp [List.getD, hT, hj]

theorem TSt.endCell {lo : Nat} {w wr : World} {vp va : Value} {g c : Nat} {ps : List (List Int)} {A : List Int} (h : TSt lo w wr vp va (.slice (some ⟨g, 0, none⟩) ps.length c) ps A) (i : Nat) (hi : i < ps.length) : wr.cell? ⟨g, i, none⟩ = some (.int .i64 ((eF ps (i + 1) : Nat) : Int)) := by
  rw [World.ownsRow.cellAt h.2.2.1 i (by omega)]
  simp [endsL, hi]

theorem TSt.payCell {lo : Nat} {w wr : World} {ve va : Value} {g c : Nat} {ps : List (List Int)} {A : List Int} (h : TSt lo w wr (.slice (some ⟨g, 0, none⟩) ps.length c) va ve ps A) (i : Nat) (hi : i < ps.length) : wr.cell? ⟨g, i, none⟩ = some (.string (strOfNums (pR ps i))) := by
  rw [World.ownsRow.cellAt h.1 i (by omega)]
  simp [pR, List.getD, hi, strV]

theorem TSt.below {lo : Nat} {w wr w2 : World} {vp va ve : Value} {ps : List (List Int)} {A : List Int} (h : TSt lo w wr vp va ve ps A) (hl : lo ≤ wr.heap.size) (hb : Below wr.heap.size wr w2) : TSt lo w w2 vp va ve ps A :=
  ⟨ownsRow_below' h.1 hb, ownsRow_below' h.2.1 hb, ownsRow_below' h.2.2.1 hb, h.2.2.2.trans (hb.mono hl)⟩

theorem pos_torn : ∀ (ps : List (List Int)) (F : Nat), F ≤ ps.length → pos ((ps.take F).map (fun p => (p, (fr p).length))) F = eF ps F
  | _, 0, _ => rfl
  | [], F + 1, h => by simp at h
  | p :: ps, F + 1, h => by
    rw [List.take_succ_cons, List.map_cons, pos_cons, eF_cons, pos_torn ps F (by simpa using h)]

theorem torn_found {ps : List (List Int)} {Z : Nat → Bool} {A : List Int} (hok : OkP ps) (hz : Zd ps Z A) (hA : A.length ≤ 8192) : scR A = ps.take (fstZ ps Z) ∧ scE A = ((eF ps (fstZ ps Z) : Nat) : Int) := by
  have h := scn_torn ps A Z A.length (fun p hp => ⟨(hok p hp).1, (hok p hp).2.1, by have := (hok p hp).2.2; omega⟩) hz.1 hz.2 (Nat.le_refl _)
  have hl := fstZ_le ps Z
  unfold scR scE
  rw [if_pos hA, if_pos hA, h]
  refine ⟨?_, ?_⟩
  · rw [List.map_map]; exact List.map_id _
  · rw [List.length_map, List.length_take, Nat.min_eq_left hl, pos_torn ps _ hl]

theorem cur_same {i x F : Nat} (hne : x ≠ i) : (if i + 1 ≤ x then min F x else F) = (if i ≤ x then min F x else F) := by
  by_cases h : i + 1 ≤ x
  · rw [if_pos h, if_pos (by omega)]
  · rw [if_neg h, if_neg (by omega)]
theorem cur_hit {i F : Nat} : (if i ≤ i then min F i else F) = min F i := if_pos (Nat.le_refl _)
theorem cur_pre {i F : Nat} : (if i + 1 ≤ i then min F i else F) = F := if_neg (by omega)

theorem hit_yes {i x F cur : Nat} (hx : x = i) (hc : cur = if i + 1 ≤ x then min F x else F) (h : i < cur) : i = if i ≤ x then min F x else F := by subst hx; rw [cur_pre] at hc; rw [cur_hit]; omega
theorem hit_no {i x F cur : Nat} (hx : x = i) (hc : cur = if i + 1 ≤ x then min F x else F) (h : ¬ i < cur) : cur = if i ≤ x then min F x else F := by subst hx; rw [cur_pre] at hc; rw [cur_hit]; omega
theorem miss {i x F cur : Nat} (hx : x ≠ i) (hc : cur = if i + 1 ≤ x then min F x else F) : cur = if i ≤ x then min F x else F := by rw [← cur_same hx]; exact hc

theorem rd_seven (W : World) : Rd .u8 (W.alloc (.cells #[.int .u8 7] 5)) (.slice (some ⟨W.heap.size, 0, none⟩) 1 1) [7] := by
  refine ⟨_, 1, rfl, Nat.le_refl _, by unfold maxLen; omega, .inr ⟨W.heap.size, 0, rfl, by simp, fun i hi => ?_⟩⟩
  simp only [List.length_cons, List.length_nil] at hi
  have : i = 0 := by omega
  subst this
  exact cell_one_new W (.int .u8 7) 5 0 _ rfl

theorem ownP_some {w : World} {lo n c : Nat} {a : Option Addr} {rs : List (List Int)} {us : List Value} (h : OwnP w lo (.slice a (n + 1) c) rs us) (hl : rs.length = n + 1) : ∃ g, a = some ⟨g, 0, none⟩ := by
  rcases h.1.2 with ⟨h1, h2⟩ | ⟨g, cap, cur, h1, -⟩
  · omega
  · simp only [Value.slice.injEq] at h1
    exact ⟨g, h1.1⟩
theorem pR_takeF (ps : List (List Int)) {i n : Nat} (h : i < n) : pR (ps.take n) i = pR ps i := by unfold pR; simp [List.getD, h]

end Go.Proofs.Ytajnihjdhhmefaa
