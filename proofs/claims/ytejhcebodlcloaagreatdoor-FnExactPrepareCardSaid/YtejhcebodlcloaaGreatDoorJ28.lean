import Derived.Test.YtejhcebodlcloaaGreatDoorJ27
import Derived.Test.YtejhcebodlcloaaGreatDoorJ04
import Derived.Test.YtejhcebodlcloaaGreatDoorJ22
import Derived.Deep.RegionWith
namespace Go.Proofs.YtejhcebodlcloaaGreatDoor
open Go.RowKit Go.Shelf

theorem rowcell {w : World} {lo g n cap z : Nat} {e : TypeId} {us : List Value} (h : w.ownsRow lo e z (.slice (some ⟨g, 0, none⟩) n cap) n us) (i : Nat) (hi : i < n * z) : ∃ u, w.cell? ⟨g, i, none⟩ = some u ∧ w.frozen? ⟨g, i, none⟩ = false := by
  have hl : i < us.length := by rw [h.1]; exact hi
  have h1 := World.ownsRow.cells h (g := g) rfl i us[i] (List.getElem?_eq_getElem hl)
  rw [Addr.add_lit, Nat.zero_add] at h1
  exact ⟨_, h1, World.ownsRow.frozenAt h i⟩
theorem row_keep {w w' : World} {lo n z : Nat} {e : TypeId} {v : Value} {us : List Value} (ho : w.ownsRow lo e z v n us) (hb : Below w.heap.size w w') : w'.ownsRow lo e z v n us := by
  refine ⟨ho.1, ?_⟩
  rcases ho.2 with hn | ⟨g, cap, cur, rfl, hbg, hgg, rest⟩
  · exact .inl hn
  · exact .inr ⟨g, cap, cur, rfl, hbg, by rw [hb.block g (Array.getElem?_eq_some_iff.1 hgg).1]; exact hgg, rest⟩
/-- A row that is written on the way. -/
def RowW (w : World) (lo g n cap z : Nat) (e : TypeId) (w' : World) : Prop := (∃ us, w'.ownsRow lo e z (.slice (some ⟨g, 0, none⟩) n cap) n us) ∧ Below lo w w' ∧ KT e w w'
theorem RowW.set {w w' : World} {lo g n cap z : Nat} {e : TypeId} (h : RowW w lo g n cap z e w') (i : Nat) (u : Value) : RowW w lo g n cap z e (w'.setCell ⟨g, i, none⟩ u) := by
  obtain ⟨⟨us, h1⟩, h2, h3⟩ := h
  have hs := World.ownsRow.stored h1 i u
  have hg := (World.ownsRow.lt h1 g rfl).1
  exact ⟨⟨_, hs.1⟩, h2.setCell hg _, h3.grown h1 hs.2⟩
theorem RowW.below {w w' w2 : World} {lo g n cap z : Nat} {e : TypeId} (h : RowW w lo g n cap z e w') (hb : Below w'.heap.size w' w2) : RowW w lo g n cap z e w2 := by
  obtain ⟨⟨us, h1⟩, h2, h3⟩ := h
  refine ⟨⟨_, row_keep h1 hb⟩, h2.trans (hb.mono ?_), h3.below hb⟩
  have := World.ownsRow.lt h1 g rfl
  omega
theorem RowW.cell {w w' : World} {lo g n cap z : Nat} {e : TypeId} (h : RowW w lo g n cap z e w') (i : Nat) (hi : i < n * z) : ∃ u, w'.cell? ⟨g, i, none⟩ = some u ∧ w'.frozen? ⟨g, i, none⟩ = false := by
  obtain ⟨⟨us, h1⟩, -, -⟩ := h
  exact rowcell h1 i hi

set_option maxHeartbeats 400000 in
theorem markNodeS_nil (w : World) (ao : Option Addr) (cap k : Nat) : Calls Tryz.prog 34 #[.slice ao 0 cap, .int .i64 k] w fun e w' => e = .returned (.int .i64 k) ∧ w' = w := by
  go_enter Tryz.func34, Tryz.ntmps34
  go_wp2
  go_rounds 1
  go_ret
  exact ⟨rfl, rfl⟩

end Go.Proofs.YtejhcebodlcloaaGreatDoor
namespace Go.Proofs.YtejhcebodlcloaaGreatDoor
open Go.RowKit

def opL (n : Op5) : List Value := [.int .i64 n.kind, .string n.path, .string n.data, .int .i64 n.ver, .bool n.seq]
def orow (ns : List Op5) : List Value := ns.flatMap opL
theorem orow_cons (n : Op5) (ns : List Op5) : orow (n :: ns) = opL n ++ orow ns := by simp [orow]
theorem orow_length : ∀ ns : List Op5, (orow ns).length = ns.length * 5
  | [] => rfl
  | n :: ns => by rw [orow_cons, List.length_append, orow_length ns, List.length_cons]; show 5 + _ = _; omega
theorem orow_get : ∀ (ns : List Op5) (i j : Nat), i < ns.length → j < 5 → (orow ns)[i * 5 + j]? = (opL (oAt ns i))[j]?
  | [], i, j, h, _ => by simp at h
  | n :: ns, 0, j, _, hj => by
    rw [orow_cons, Nat.zero_mul, Nat.zero_add, List.getElem?_append_left (by show j < 5; exact hj)]; rfl
  | n :: ns, i + 1, j, h, hj => by
    rw [orow_cons, List.getElem?_append_right (by show 5 ≤ _; omega), show (i + 1) * 5 + j - (opL n).length = i * 5 + j by show (i + 1) * 5 + j - 5 = _; omega, orow_get ns i j (by simpa using h) hj]
    rfl
def set5 (L : List Value) (p : Nat) (n : Op5) : List Value :=
  ((((L.set p (.int .i64 n.kind)).set (p + 1) (.string n.path)).set (p + 2) (.string n.data)).set (p + 3) (.int .i64 n.ver)).set (p + 4) (.bool n.seq)
theorem set5_app (a L : List Value) (p : Nat) (n : Op5) (h : a.length = 5) : set5 (a ++ L) (5 + p) n = a ++ set5 L p n := by
  unfold set5
  have e : ∀ (M : List Value) (q : Nat) (v : Value), (a ++ M).set (5 + q) v = a ++ M.set q v := fun M q v => by
    rw [List.set_append_right _ _ (by omega)]; congr 2; omega
  rw [e, show 5 + p + 1 = 5 + (p + 1) by omega, e, show 5 + p + 2 = 5 + (p + 2) by omega, e, show 5 + p + 3 = 5 + (p + 3) by omega, e, show 5 + p + 4 = 5 + (p + 4) by omega, e]
theorem orow_set : ∀ (ns : List Op5) (k : Nat) (n : Op5), k < ns.length → set5 (orow ns) (k * 5) n = orow (ns.set k n)
  | [], k, n, h => by simp at h
  | m :: ns, 0, n, _ => by
    rw [orow_cons, List.set_cons_zero, orow_cons]
    rfl
  | m :: ns, k + 1, n, h => by
    rw [orow_cons, List.set_cons_succ, orow_cons, show (k + 1) * 5 = 5 + k * 5 by omega, set5_app _ _ _ _ rfl, orow_set ns k n (by simpa using h)]
theorem orow_zero (n : Nat) : (madeCells #[Value.int .i64 0, Value.string ByteArray.empty, Value.string ByteArray.empty, Value.int .i64 0, Value.bool false] (n * 5)).toList = orow (List.replicate n op0) := by
  apply List.ext_getElem?
  intro j
  by_cases hj : j < n * 5
  · have h1 := orow_get (List.replicate n op0) (j / 5) (j % 5) (by rw [List.length_replicate]; omega) (Nat.mod_lt _ (by decide))
    rw [show j / 5 * 5 + j % 5 = j by omega] at h1
    rw [h1, oAt_get (by rw [List.length_replicate]; omega), List.getElem_replicate]
    have h7 : j % 5 < 5 := Nat.mod_lt _ (by decide)
    rw [made_get _ _ _ hj]
    show some (#[Value.int .i64 0, Value.string ByteArray.empty, Value.string ByteArray.empty, Value.int .i64 0, Value.bool false][j % 5]!) = _
    clear h1
    generalize j % 5 = r at *
    match r, h7 with
    | 0, _ => rfl
    | 1, _ => rfl
    | 2, _ => rfl
    | 3, _ => rfl
    | 4, _ => rfl
  · rw [List.getElem?_eq_none (by simp [madeCells]; omega), List.getElem?_eq_none (by rw [orow_length, List.length_replicate]; omega)]
/-- The first k written. -/
def mixO (ns : List Op5) (k : Nat) : List Op5 := ns.take k ++ List.replicate (ns.length - k) op0
theorem mixO_len (ns : List Op5) (k : Nat) (h : k ≤ ns.length) : (mixO ns k).length = ns.length := by unfold mixO; rw [List.length_append, List.length_take, List.length_replicate]; omega
theorem mixO_all (ns : List Op5) : mixO ns ns.length = ns := by unfold mixO; simp
theorem mixO_zero (ns : List Op5) : mixO ns 0 = List.replicate ns.length op0 := by unfold mixO; simp
theorem mixO_set (ns : List Op5) (k : Nat) (h : k < ns.length) : (mixO ns k).set k (oAt ns k) = mixO ns (k + 1) := by
  unfold mixO
  rw [List.set_append_right _ _ (by rw [List.length_take]; omega), List.length_take, show k - min k ns.length = 0 by omega, show ns.length - k = (ns.length - (k + 1)) + 1 by omega, List.replicate_succ, List.set_cons_zero, List.take_succ_eq_append_getElem h, oAt_get h, List.append_assoc]
  rfl

/-- A slice of nodes of the call's own. -/
def OwnO (e : TypeId) (w : World) (lo : Nat) (v : Value) (ns : List Op5) : Prop := w.ownsRow lo e 5 v ns.length (orow ns)
theorem OwnO.rd {e : TypeId} {w : World} {lo : Nat} {v : Value} {ns : List Op5} (h : OwnO e w lo v ns) : RdO w v ns := by
  rcases h.2 with ⟨rfl, h0⟩ | ⟨g, cap, cur, rfl, hb, hg, hn, hm, hs, ht⟩
  · have : ns = [] := List.eq_nil_of_length_eq_zero h0
    subst this
    exact ⟨none, 0, rfl, Nat.le_refl _, Nat.zero_le _, .inl rfl⟩
  · refine ⟨_, cap, rfl, hn, hm, .inr ⟨g, 0, rfl, (Array.getElem?_eq_some_iff.1 hg).1, fun i hi => ?_⟩⟩
    have c : ∀ j, j < 5 → w.cell? ⟨g, 0 + (i * 5 + j), none⟩ = (opL (oAt ns i))[j]? := fun j hj => by
      have hh := orow_get ns i j hi hj
      have h9 : (opL (oAt ns i))[j]? = some ((opL (oAt ns i)).getD j undef) := by
        match j, hj with
        | 0, _ => rfl
        | 1, _ => rfl
        | 2, _ => rfl
        | 3, _ => rfl
        | 4, _ => rfl
      rw [h9] at hh
      have := World.ownsRow.cells h (g := g) rfl (i * 5 + j) _ hh
      rw [Addr.add_lit] at this
      rw [this, h9]
    exact ⟨c 0 (by omega), c 1 (by omega), c 2 (by omega), c 3 (by omega), c 4 (by omega)⟩
theorem OwnO.below {e : TypeId} {w w' : World} {lo : Nat} {v : Value} {ns : List Op5} (h : OwnO e w lo v ns) (hb : Below w.heap.size w w') : OwnO e w' lo v ns := by
  refine ⟨h.1, ?_⟩
  rcases h.2 with hn | ⟨g, cap, cur, rfl, hbg, hgg, rest⟩
  · exact .inl hn
  · exact .inr ⟨g, cap, cur, rfl, hbg, by rw [hb.block g (Array.getElem?_eq_some_iff.1 hgg).1]; exact hgg, rest⟩
theorem OwnO.mono {e : TypeId} {w : World} {lo lo' : Nat} {v : Value} {ns : List Op5} (h : OwnO e w lo v ns) (hl : lo' ≤ lo) : OwnO e w lo' v ns := by
  refine ⟨h.1, ?_⟩
  rcases h.2 with hn | ⟨g, cap, cur, rfl, hbg, rest⟩
  · exact .inl hn
  · exact .inr ⟨g, cap, cur, rfl, Nat.le_trans hl hbg, rest⟩
theorem OwnO.slice {e : TypeId} {w : World} {lo : Nat} {v : Value} {ns : List Op5} (h : OwnO e w lo v ns) : ∃ a c, v = .slice a ns.length c := by
  obtain ⟨a, c, h0, _⟩ := h.rd.len
  exact ⟨a, c, h0⟩

/-- All the bytes of the texts. -/
def totO (ns : List Op5) : Nat := (ns.map fun n => n.path.size + n.data.size).sum
theorem totO_take_succ (ns : List Op5) (k : Nat) (h : k < ns.length) : totO (ns.take (k + 1)) = totO (ns.take k) + ((oAt ns k).path.size + (oAt ns k).data.size) := by
  unfold totO
  rw [List.take_succ_eq_append_getElem h, List.map_append, List.sum_append, oAt_get h]
  simp
theorem totO_all (ns : List Op5) (k : Nat) (h : ns.length ≤ k) : totO (ns.take k) = totO ns := by rw [List.take_of_length_le h]
theorem totO_ge (ns : List Op5) (i : Nat) : (oAt ns i).path.size + (oAt ns i).data.size ≤ totO ns := by
  by_cases h : i < ns.length
  · have h1 := totO_take_succ ns i h
    have h2 : totO (ns.take (i + 1)) ≤ totO ns := by
      unfold totO
      conv => rhs; rw [← List.take_append_drop (i + 1) ns, List.map_append, List.sum_append]
      omega
    omega
  · unfold oAt; rw [List.getD, List.getElem?_eq_none (by omega)]; exact Nat.zero_le _


set_option maxHeartbeats 1000000 in
set_option maxRecDepth 100000 in
theorem szOp_any (w : World) (n : Op5) (left : Int) (hp : n.path.size ≤ maxLen) (hd : n.data.size ≤ maxLen) (h0 : 0 ≤ left) (h1 : left ≤ 1048576) :
    Calls Tryz.prog 41 #[.agg #[.int .i64 n.kind, .string n.path, .string n.data, .int .i64 n.ver, .bool n.seq], .int .i64 left] w fun e w' => e = .returned (.int .i64 (szr left (n.path.size + n.data.size))) ∧ Below w.heap.size w w' := by
  unfold maxLen at hp hd
  have B0 : Hid (∀ o, Below w.heap.size w (w.alloc o)) := fun o => (Below.refl _ _).alloc (Nat.le_refl _) _
  by_cases h : left < n.path.size
  · have h2 : left - (n.path.size : Int) < 0 := by omega
    have HE : Hid (szr left (n.path.size + n.data.size) = -1) := szr_neg (by omega)
    go_enter Tryz.func41, Tryz.ntmps41
    go_wp2
    go_ret
    exact ⟨ret_i HE.out.symm, B0.out _⟩
  · have h2 : ¬ left - (n.path.size : Int) < 0 := by omega
    by_cases h3 : left < n.path.size + n.data.size
    · have h4 : left - (n.path.size : Int) - (n.data.size : Int) < 0 := by omega
      have HE : Hid (szr left (n.path.size + n.data.size) = -1) := szr_neg (by omega)
      go_enter Tryz.func41, Tryz.ntmps41
      go_wp2
      go_ret
      exact ⟨ret_i HE.out.symm, B0.out _⟩
    · have h4 : ¬ left - (n.path.size : Int) - (n.data.size : Int) < 0 := by omega
      have HE : Hid (szr left (n.path.size + n.data.size) = left - n.path.size - n.data.size) := by show _ = _; rw [szr_pos (by omega)]; omega
      go_enter Tryz.func41, Tryz.ntmps41
      go_wp2
      go_ret
      exact ⟨ret_i HE.out.symm, B0.out _⟩

set_option maxHeartbeats 1000000 in
set_option maxRecDepth 100000 in
theorem szOpS_row (w : World) (b o n cap : Nat) (ns : List Op5) (hp : ns.length = n) (hn : n ≤ maxLen) (hb : b < w.heap.size) (hsz : ∀ i, (oAt ns i).path.size ≤ maxLen ∧ (oAt ns i).data.size ≤ maxLen)
    (hc : ∀ i, i < n → CellsO w b (o + i * 5) (oAt ns i)) (left : Int) (h0 : 0 ≤ left) (h1 : left ≤ 1048576) :
    Calls Tryz.prog 18 #[.slice (some ⟨b, o, none⟩) n cap, .int .i64 left] w fun e w' => ∃ r : Int, e = .returned (.int .i64 r) ∧ (r < 0 ∨ r + n + totO ns = left) ∧ Below w.heap.size w w' := by
  have HC : Hid (∀ i, i < n → CellsO w b (o + i * 5) (oAt ns i)) := hc
  have HP : Hid (ns.length = n) := hp
  have HZ : Hid (∀ i, (oAt ns i).path.size ≤ maxLen ∧ (oAt ns i).data.size ≤ maxLen) := hsz
  clear hc hp hsz
  unfold maxLen at hn
  by_cases hl : left < n
  · have h2 : left - (n : Int) < 0 := by omega
    go_enter Tryz.func18, Tryz.ntmps18
    go_wp2
    go_ret
    exact ⟨-1, rfl, .inl (by omega), Below.refl _ _⟩
  · have h2 : ¬ left - (n : Int) < 0 := by omega
    go_enter Tryz.func18, Tryz.ntmps18
    go_wp2
    go_loopw [1, 5] (fun l i wr => ∃ (k : Nat) (L : Int), k ≤ n ∧ i = .int .i64 k ∧ 0 ≤ L ∧ L ≤ 1048576 ∧ l = .int .i64 L ∧ Hid (L + n + totO (ns.take k) = left) ∧ Hid (Below w.heap.size w wr)) (fun _ i _ => n - (intOf i).toNat)
    case atStart => exact ⟨0, left - n, Nat.zero_le _, rfl, by omega, by omega, rfl, (by show _ = _; simp [totO]), Below.refl _ _⟩
    case round =>
      obtain ⟨k, L, hk, rfl, hL0, hL1, rfl, HE, HG⟩ := hrel
      by_cases hlt : k < n
      · have hltI : (k : Int) < (n : Int) := by omega
        obtain ⟨c0, c1, c2, c3, c4⟩ := (HC.out k hlt).below HG.out hb
        have HTS : Hid (totO (ns.take (k + 1)) = totO (ns.take k) + ((oAt ns k).path.size + (oAt ns k).data.size)) := totO_take_succ ns k (by rw [HP.out]; exact hlt)
        have sg := HG.out.size
        go_wp2_with fail
        refine (szOp_any _ (oAt ns k) L (HZ.out k).1 (HZ.out k).2 hL0 hL1).mono ?_
        rintro e w1 ⟨rfl, b1⟩
        have HG1 : Hid (Below w.heap.size w w1) := HG.out.trans (b1.mono sg)
        clear b1 c0 c1 c2 c3 c4
        obtain ⟨hz1, hz2⟩ := HZ.out k
        unfold maxLen at hz1 hz2
        by_cases hneg : L < (((oAt ns k).path.size + (oAt ns k).data.size : Nat) : Int)
        · rw [szr_neg hneg]
          clear hneg
          go_wp2
          go_ret
          exact ⟨-1, rfl, .inl (by omega), HG1.out⟩
        · rw [szr_pos hneg]
          obtain ⟨L2, hL2⟩ : ∃ L2 : Int, L2 = L - (((oAt ns k).path.size + (oAt ns k).data.size : Nat) : Int) := ⟨_, rfl⟩
          have HL2 : Hid (L2 = L - (((oAt ns k).path.size + (oAt ns k).data.size : Nat) : Int)) := hL2
          rw [← hL2]
          have h3 : ¬ L2 < 0 := by omega
          have h4 : L2 ≤ 1048576 := by omega
          clear hL2 hneg
          go_wp2
          go_roundw
          case rel => exact ⟨k + 1, L2, by omega, by go_num, by omega, by omega, rfl, (by show _ = _; rw [HTS.out]; have := HE.out; have := HL2.out; omega), HG1⟩
          case measure => simp [intOf]; omega
      · go_wp2
        go_ret
        exact ⟨L, rfl, .inr (by have := HE.out; rw [totO_all ns k (by rw [HP.out]; omega)] at this; exact this), HG.out⟩

set_option maxHeartbeats 400000 in
theorem szOpS_nil (w : World) (ao : Option Addr) (cap : Nat) (left : Int) (h0 : 0 ≤ left) (h1 : left ≤ 1048576) :
    Calls Tryz.prog 18 #[.slice ao 0 cap, .int .i64 left] w fun e w' => e = .returned (.int .i64 left) ∧ w' = w := by
  have h2 : ¬ left < 0 := by omega
  go_enter Tryz.func18, Tryz.ntmps18
  go_wp2
  go_rounds 1
  go_ret
  exact ⟨by simp, rfl⟩

theorem szOpS_any (w : World) (v : Value) (ns : List Op5) (h : RdO w v ns) (hsz : ∀ i, (oAt ns i).path.size ≤ maxLen ∧ (oAt ns i).data.size ≤ maxLen) (left : Int) (h0 : 0 ≤ left) (h1 : left ≤ 1048576) :
    Calls Tryz.prog 18 #[v, .int .i64 left] w fun e w' => ∃ r : Int, e = .returned (.int .i64 r) ∧ (r < 0 ∨ r + ns.length + totO ns = left) ∧ Below w.heap.size w w' := by
  obtain ⟨ao, cap, rfl, k1, k2, k3⟩ := h
  rcases k3 with rfl | ⟨b, o, rfl, hb, hc⟩
  · refine (szOpS_nil w ao cap left h0 h1).mono ?_
    rintro e w' ⟨rfl, rfl⟩
    exact ⟨left, rfl, .inr (by simp [totO]), Below.refl _ _⟩
  · exact szOpS_row w b o ns.length cap ns rfl (by omega) hb hsz hc left h0 h1

set_option maxHeartbeats 400000 in
theorem szRequest_any (w : World) (v : Value) (ns : List Op5) (h : RdO w v ns) (hsz : ∀ i, (oAt ns i).path.size ≤ maxLen ∧ (oAt ns i).data.size ≤ maxLen) (left : Int) (h0 : 0 ≤ left) (h1 : left ≤ 1048576) :
    Calls Tryz.prog 5 #[.agg #[v], .int .i64 left] w fun e w' => ∃ r : Int, e = .returned (.int .i64 r) ∧ (r < 0 ∨ r + ns.length + totO ns = left) ∧ Below w.heap.size w w' := by
  have B0 : Hid (Below w.heap.size w (w.alloc (.cells #[v] 27))) := (Below.refl _ _).alloc (Nat.le_refl _) _
  obtain ⟨ao, cap, rfl, k1, k2⟩ := h.len
  have HR : Hid (RdO (w.alloc (.cells #[.slice ao ns.length cap] 27)) (.slice ao ns.length cap) ns) := h.below B0.out
  clear h
  go_enter Tryz.func5, Tryz.ntmps5
  go_wp2_with fail
  refine (szOpS_any _ _ ns HR.out hsz left h0 h1).mono ?_
  rintro e w1 ⟨r, rfl, hr, b1⟩
  have B1 : Hid (Below w.heap.size w w1) := B0.out.trans (b1.mono (by simp))
  have hr2 : r ≤ 1048576 := by omega
  have HRR : Hid (r < 0 ∨ r + ns.length + totO ns = left) := hr
  clear b1 hr
  by_cases hneg : r < 0
  · go_wp2
    go_ret
    exact ⟨-1, rfl, .inl (by omega), B1.out⟩
  · go_wp2
    go_ret
    exact ⟨r, rfl, HRR.out, B1.out⟩


theorem Tryz.infoO : (Tryz.prog.info? 58).map (fun i => (i.zero, i.size, i.bytes)) = some (some (.agg #[.int .i64 0, .string ByteArray.empty, .string ByteArray.empty, .int .i64 0, .bool false]), 5, 56) := by kernel_rfl

set_option maxHeartbeats 1000000 in
set_option maxRecDepth 100000 in
theorem toOp_any (w : World) (n : Op5) :
    Calls Tryz.prog 54 #[.agg #[.int .i64 n.kind, .string n.path, .string n.data, .int .i64 n.ver, .bool n.seq]] w fun e w' =>
      e = .returned (.agg #[.int .i64 n.kind, .string n.path, .string n.data, .int .i64 n.ver, .bool n.seq]) ∧ Below w.heap.size w w' := by
  have HB : Hid (∀ o1 o2 o3, Below w.heap.size w (((w.alloc o1).alloc o2).alloc o3)) := fun o1 o2 o3 => (((Below.refl _ _).alloc (Nat.le_refl _) _).alloc (by simp) _).alloc (by simp; omega) _
  go_enter Tryz.func54, Tryz.ntmps54
  go_wp2
  refine bodyPost_ret (v := .agg #[.int .i64 n.kind, .string n.path, .string n.data, .int .i64 n.ver, .bool n.seq]) (by simp [results, Tryz.results54, go_sem]) rfl ⟨rfl, HB.out _ _ _⟩

theorem ostored {w : World} {lo g n cap : Nat} {e : TypeId} {ms : List Op5} (ho : w.ownsRow lo e 5 (.slice (some ⟨g, 0, none⟩) n cap) n (orow ms)) (k : Nat) (hk : k < ms.length) (m : Op5) :
    (((((w.setCell ⟨g, k * 5, none⟩ (.int .i64 m.kind)).setCell ⟨g, k * 5 + 1, none⟩ (.string m.path)).setCell ⟨g, k * 5 + 2, none⟩ (.string m.data)).setCell ⟨g, k * 5 + 3, none⟩ (.int .i64 m.ver)).setCell ⟨g, k * 5 + 4, none⟩ (.bool m.seq)).ownsRow lo e 5 (.slice (some ⟨g, 0, none⟩) n cap) n (orow (ms.set k m)) := by
  have s0 := (World.ownsRow.stored ho (k * 5) (.int .i64 m.kind)).1
  have s1 := (World.ownsRow.stored s0 (k * 5 + 1) (.string m.path)).1
  have s2 := (World.ownsRow.stored s1 (k * 5 + 2) (.string m.data)).1
  have s3 := (World.ownsRow.stored s2 (k * 5 + 3) (.int .i64 m.ver)).1
  have s4 := (World.ownsRow.stored s3 (k * 5 + 4) (.bool m.seq)).1
  rw [← orow_set ms k m hk]
  exact s4

set_option maxHeartbeats 2000000 in
set_option maxRecDepth 100000 in
theorem toOpS_row (w : World) (b o n cap : Nat) (ns : List Op5) (hp : ns.length = n) (hb : b < w.heap.size) (hc : ∀ i, i < n → CellsO w b (o + i * 5) (oAt ns i)) (hn : n ≤ 1048576) :
    Calls Tryz.prog 23 #[.slice (some ⟨b, o, none⟩) n cap] w fun e w' => ∃ v', e = .returned v' ∧ OwnO 58 w' w.heap.size v' ns ∧ Below w.heap.size w w' := by
  obtain ⟨i0, hi, hz0, hz1, hz2⟩ := info_parts Tryz.infoO
  have HC : Hid (∀ i, i < n → CellsO w b (o + i * 5) (oAt ns i)) := hc
  have HP : Hid (ns.length = n) := hp
  clear hc hp
  go_enter Tryz.func23, Tryz.ntmps23
  go_wp2_with (at_make; go_must (refine wpList_make_full _ rfl _ _ 41 rfl w.heap.size 58 i0 (.agg #[.int .i64 0, .string ByteArray.empty, .string ByteArray.empty, .int .i64 0, .bool false]) 5 Tryz.underlying41 hi hz0 hz1 _ _ _ _ n rfl rfl rfl rfl ?b2 ?b3 ?b4 ?_))
  case b2 => rw [hz2]; omega
  case b3 => unfold maxLen; omega
  case b4 => exact Nat.le_refl _
  intro w1 hown hgrow
  have HO : Hid (w1.ownsRow w.heap.size 58 5 (.slice (some ⟨w.heap.size, 0, none⟩) n n) n (orow (mixO ns 0))) := by
    show World.ownsRow _ _ _ _ _ _ _
    rw [mixO_zero, HP.out, ← orow_zero]
    exact hown
  have HG : Hid (Below w.heap.size w w1) := (Below.refl _ _).grown hgrow (Nat.le_refl _) (by simp)
  clear hown hgrow hi hz0 hz1 hz2
  go_wp2
  go_loopw [4] (fun i wr => ∃ k : Nat, k ≤ n ∧ i = .int .i64 k ∧ Hid (wr.ownsRow w.heap.size 58 5 (.slice (some ⟨w.heap.size, 0, none⟩) n n) n (orow (mixO ns k))) ∧ Hid (Below w.heap.size w wr)) (fun i _ => n - (intOf i).toNat)
  case atStart => exact ⟨0, Nat.zero_le _, rfl, HO, HG⟩
  case round =>
    obtain ⟨k, hk, rfl, HOr, HGr⟩ := hrel
    by_cases hlt : k < n
    · have hltI : (k : Int) < (n : Int) := by omega
      obtain ⟨c0, c1, c2, c3, c4⟩ := (HC.out k hlt).below HGr.out hb
      go_wp2_with fail
      refine (toOp_any _ (oAt ns k)).mono ?_
      rintro e w2 ⟨rfl, b2⟩
      have HO2 : w2.ownsRow w.heap.size 58 5 (.slice (some ⟨w.heap.size, 0, none⟩) n n) n (orow (mixO ns k)) :=
        World.ownsRow.kept HOr.out (row := none) ⟨b2.os, b2.tape, b2.output, b2.size, fun k hk _ => b2.block k hk⟩ (.inr (by simp [Value.ownBlock]))
      have hml : (mixO ns k).length = n := by rw [mixO_len ns k (by rw [HP.out]; exact hk), HP.out]
      have hrd := (show OwnO 58 w2 w.heap.size (.slice (some ⟨w.heap.size, 0, none⟩) n n) (mixO ns k) by unfold OwnO; rw [hml]; exact HO2).rd
      have hD : CellsO w2 w.heap.size (k * 5) (oAt (mixO ns k) k) := by
        obtain ⟨ao', cap', e', -, -, h3⟩ := hrd
        rcases h3 with h3 | ⟨b', off', rfl, -, hc'⟩
        · rw [h3] at hml; simp at hml; omega
        · simp only [Value.slice.injEq, Option.some.injEq, Addr.mk.injEq] at e'
          obtain ⟨⟨rfl, rfl, -⟩, -, -⟩ := e'
          have := hc' k (by rw [hml]; exact hlt)
          rwa [Nat.zero_add] at this
      obtain ⟨d0, d1, d2, d3, d4⟩ := hD
      have f0 := World.ownsRow.frozenAt HO2 (k * 5)
      have f1 := World.ownsRow.frozenAt HO2 (k * 5 + 1)
      have f2 := World.ownsRow.frozenAt HO2 (k * 5 + 2)
      have f3 := World.ownsRow.frozenAt HO2 (k * 5 + 3)
      have f4 := World.ownsRow.frozenAt HO2 (k * 5 + 4)
      have HG2 : Hid (Below w.heap.size w w2) := HGr.out.trans (b2.mono HGr.out.size)
      have zw2 : w.heap.size < w2.heap.size := (World.ownsRow.lt HO2 w.heap.size rfl).2
      have S : Hid _ := ostored HO2 k (by rw [hml]; exact hlt) (oAt ns k)
      have HMS : Hid ((mixO ns k).set k (oAt ns k) = mixO ns (k + 1)) := mixO_set ns k (by rw [HP.out]; exact hlt)
      clear b2 HO2 c0 c1 c2 c3 c4 HOr hml hrd
      go_wp2
      go_roundw
      case rel => exact ⟨k + 1, by omega, by go_num, (by show World.ownsRow _ _ _ _ _ _ _; rw [← HMS.out]; exact S.out), ((((HG2.out.setCell (Nat.le_refl _) _).setCell (Nat.le_refl _) _).setCell (Nat.le_refl _) _).setCell (Nat.le_refl _) _).setCell (Nat.le_refl _) _⟩
      case measure => simp [intOf]; omega
    · have hkn : k = n := by omega
      subst hkn
      go_wp2
      go_ret
      refine ⟨_, rfl, ?_, HGr.out⟩
      unfold OwnO
      have := HOr.out
      rw [← HP.out, mixO_all] at this
      rw [← HP.out]; exact this

set_option maxHeartbeats 400000 in
theorem toOpS_nil (w : World) (ao : Option Addr) (cap : Nat) :
    Calls Tryz.prog 23 #[.slice ao 0 cap] w fun e w' => ∃ v', e = .returned v' ∧ OwnO 58 w' w.heap.size v' [] ∧ Below w.heap.size w w' := by
  obtain ⟨i0, hi, hz0, hz1, hz2⟩ := info_parts Tryz.infoO
  go_enter Tryz.func23, Tryz.ntmps23
  go_wp2_with (at_make; go_must (refine wpList_make_full _ rfl _ _ 41 rfl w.heap.size 58 i0 (.agg #[.int .i64 0, .string ByteArray.empty, .string ByteArray.empty, .int .i64 0, .bool false]) 5 Tryz.underlying41 hi hz0 hz1 _ _ _ _ 0 rfl rfl rfl rfl ?b2 ?b3 ?b4 ?_))
  case b2 => rw [hz2]; omega
  case b3 => unfold maxLen; omega
  case b4 => exact Nat.le_refl _
  intro w1 hown hgrow
  have HO : Hid (w1.ownsRow w.heap.size 58 5 (.slice (some ⟨w.heap.size, 0, none⟩) 0 0) 0 []) := by
    have e := orow_zero 0
    rw [Nat.zero_mul] at e
    rw [e] at hown
    exact hown
  have HG : Hid (Below w.heap.size w w1) := (Below.refl _ _).grown hgrow (Nat.le_refl _) (by simp)
  clear hown hgrow
  go_wp2
  go_rounds 1
  go_ret
  exact ⟨_, rfl, HO.out, HG.out⟩

theorem toOpS_any (w : World) (v : Value) (ns : List Op5) (h : RdO w v ns) (hn : ns.length ≤ 1048576) :
    Calls Tryz.prog 23 #[v] w fun e w' => ∃ v', e = .returned v' ∧ OwnO 58 w' w.heap.size v' ns ∧ Below w.heap.size w w' := by
  obtain ⟨ao, cap, rfl, k1, k2, k3⟩ := h
  rcases k3 with rfl | ⟨b, o, rfl, hb, hc⟩
  · exact toOpS_nil w ao cap
  · exact toOpS_row w b o ns.length cap ns rfl hb hc hn


theorem OwnO.setBelow {e : TypeId} {w : World} {lo : Nat} {v : Value} {ns : List Op5} (h : OwnO e w lo v ns) {a : Addr} (ha : a.block < lo) (u : Value) : OwnO e (w.setCell a u) lo v ns := ownsRow_setCell_below h ha u

set_option maxHeartbeats 1000000 in
set_option maxRecDepth 100000 in
theorem toRequest_any (w : World) (v : Value) (ns : List Op5) (h : RdO w v ns) (hn : ns.length ≤ 1048576) :
    Calls Tryz.prog 8 #[.agg #[v]] w fun e w' => ∃ a c, e = .returned (.agg #[.slice a ns.length c]) ∧ OwnO 58 w' w.heap.size (.slice a ns.length c) ns ∧ Below w.heap.size w w' := by
  obtain ⟨ao, cap, rfl, k1, k2⟩ := h.len
  have HB : Hid (∀ o1 o2 o3, Below w.heap.size w (((w.alloc o1).alloc o2).alloc o3)) := fun o1 o2 o3 => (((Below.refl _ _).alloc (Nat.le_refl _) _).alloc (by simp) _).alloc (by simp; omega) _
  have HR : Hid (RdO w (.slice ao ns.length cap) ns) := h
  clear h
  go_enter Tryz.func8, Tryz.ntmps8
  go_wp2_with fail
  refine (toOpS_any _ _ ns (HR.out.below (HB.out _ _ _)) hn).mono ?_
  rintro e w1 ⟨v1, rfl, o1, b1⟩
  obtain ⟨a1, c1, rfl⟩ := o1.slice
  have cR : w1.cell? ⟨w.heap.size + 1, 0, none⟩ = some (.slice none 0 0) := (b1.cell (p := ⟨w.heap.size + 1, 0, none⟩) (by simp)).trans (by go_simp)
  have fR : w1.frozen? ⟨w.heap.size + 1, 0, none⟩ = false := (b1.frozen (p := ⟨w.heap.size + 1, 0, none⟩) (by simp)).trans (by go_simp)
  have cO : w1.cell? ⟨w.heap.size + 2, 0, none⟩ = some (.slice none 0 0) := (b1.cell (p := ⟨w.heap.size + 2, 0, none⟩) (by simp)).trans (by go_simp)
  have fO : w1.frozen? ⟨w.heap.size + 2, 0, none⟩ = false := (b1.frozen (p := ⟨w.heap.size + 2, 0, none⟩) (by simp)).trans (by go_simp)
  have O1 : Hid (OwnO 58 w1 (w.heap.size + 3) (.slice a1 ns.length c1) ns) := by have := o1; simp at this; exact this
  have z1 : w.heap.size + 3 ≤ w1.heap.size := by have := b1.size; simp at this; omega
  have B1 : Hid (Below w.heap.size w w1) := (HB.out _ _ _).trans (b1.mono (by simp; omega))
  clear o1 b1
  go_wp2
  refine bodyPost_ret (v := .agg #[.slice a1 ns.length c1]) (by simp [results, Tryz.results8, go_sem, cR]) rfl ⟨a1, c1, rfl, ?_, ?_⟩
  · refine OwnO.mono ?_ (show w.heap.size ≤ w.heap.size + 3 by omega)
    repeat (first | exact O1.out | refine OwnO.setBelow ?_ (by simp; try omega) _)
  · repeat (first | exact B1.out | refine Below.setCell ?_ (by simp; try omega) _)

set_option maxHeartbeats 1000000 in
set_option maxRecDepth 100000 in
theorem eqOp_same (w : World) (n : Op5) :
    Calls Tryz.prog 61 #[.agg #[.int .i64 n.kind, .string n.path, .string n.data, .int .i64 n.ver, .bool n.seq], .agg #[.int .i64 n.kind, .string n.path, .string n.data, .int .i64 n.ver, .bool n.seq]] w fun e w' => e = .returned (.bool true) ∧ Below w.heap.size w w' := by
  have HB : Hid (∀ o1 o2, Below w.heap.size w ((w.alloc o1).alloc o2)) := fun o1 o2 => ((Below.refl _ _).alloc (Nat.le_refl _) _).alloc (by simp) _
  go_enter Tryz.func61, Tryz.ntmps61
  go_wp2
  go_ret
  exact ⟨rfl, HB.out _ _⟩

set_option maxHeartbeats 1000000 in
set_option maxRecDepth 100000 in
theorem eqOpS_row (w : World) (b o b2 o2 n ca cb : Nat) (ns : List Op5) (hn : n ≤ 1048576) (hb : b < w.heap.size) (hb2 : b2 < w.heap.size)
    (hc : ∀ i, i < n → CellsO w b (o + i * 5) (oAt ns i)) (hc2 : ∀ i, i < n → CellsO w b2 (o2 + i * 5) (oAt ns i)) :
    Calls Tryz.prog 33 #[.slice (some ⟨b, o, none⟩) n ca, .slice (some ⟨b2, o2, none⟩) n cb] w fun e w' => e = .returned (.bool true) ∧ Below w.heap.size w w' := by
  have HC := hd9 hc
  have HC2 := hd9 hc2
  clear hc hc2
  have h1 : ((n : Int) != (n : Int)) = false := by simp
  go_enter Tryz.func33, Tryz.ntmps33
  go_wp2
  go_loopw [5] (fun i wr => ∃ k : Nat, k ≤ n ∧ i = .int .i64 k ∧ Hid (Below w.heap.size w wr)) (fun i _ => n - (intOf i).toNat)
  case atStart => exact ⟨0, Nat.zero_le _, rfl, Below.refl _ _⟩
  case round =>
    obtain ⟨k, hk, rfl, HG⟩ := hrel
    by_cases hlt : k < n
    · obtain ⟨c0, c1, c2, c3, c4⟩ := (HC.out k hlt).below HG.out hb
      obtain ⟨d0, d1, d2, d3, d4⟩ := (HC2.out k hlt).below HG.out hb2
      have hltI : (k : Int) < (n : Int) := by omega
      have HE : Hid (∀ q, Calls Tryz.prog 61 #[.agg #[.int .i64 (oAt ns k).kind, .string (oAt ns k).path, .string (oAt ns k).data, .int .i64 (oAt ns k).ver, .bool (oAt ns k).seq], .agg #[.int .i64 (oAt ns k).kind, .string (oAt ns k).path, .string (oAt ns k).data, .int .i64 (oAt ns k).ver, .bool (oAt ns k).seq]] (wr.drewN q) fun e w' => e = .returned (.bool true) ∧ Below w.heap.size w w') := by
        intro q
        refine (eqOp_same _ (oAt ns k)).mono ?_
        rintro e w' ⟨rfl, b'⟩
        exact ⟨rfl, (HG.out.trans ((below_drewN' wr q).mono HG.out.size)).trans (b'.mono HG.out.size)⟩
      go_wp2
      go_region_with (go_at_call 61; refine (HE.out 1).mono ?_; rintro e w' ⟨rfl, b'⟩)
      all_goals
        have HB := hd9 b'
        clear b'
        go_wp2
        go_roundw
        case rel => exact ⟨k + 1, by omega, by go_num, HB⟩
        case measure => simp [intOf]; omega
    · go_wp2
      go_ret
      exact ⟨rfl, HG.out⟩

set_option maxHeartbeats 400000 in
theorem eqOpS_nil (w : World) (ao bo : Option Addr) (ca cb : Nat) :
    Calls Tryz.prog 33 #[.slice ao 0 ca, .slice bo 0 cb] w fun e w' => e = .returned (.bool true) ∧ w' = w := by
  go_enter Tryz.func33, Tryz.ntmps33
  go_wp2
  go_rounds 1
  go_ret
  exact ⟨rfl, rfl⟩

theorem eqOpS_same (w : World) (va vb : Value) (ns : List Op5) (ha : RdO w va ns) (hb : RdO w vb ns) (hn : ns.length ≤ 1048576) :
    Calls Tryz.prog 33 #[va, vb] w fun e w' => e = .returned (.bool true) ∧ Below w.heap.size w w' := by
  obtain ⟨ao, ca, rfl, h1, h2, h3⟩ := ha
  obtain ⟨bo, cb, rfl, k1, k2, k3⟩ := hb
  rcases h3 with rfl | ⟨b, o, rfl, hb, hc⟩
  · refine (eqOpS_nil w ao bo ca cb).mono ?_
    rintro e w' ⟨rfl, rfl⟩
    exact ⟨rfl, Below.refl _ _⟩
  · rcases k3 with rfl | ⟨b2, o2, rfl, hb2, hc2⟩
    · refine (eqOpS_nil w _ bo ca cb).mono ?_
      rintro e w' ⟨rfl, rfl⟩
      exact ⟨rfl, Below.refl _ _⟩
    · exact eqOpS_row w b o b2 o2 ns.length ca cb ns hn hb hb2 hc hc2

set_option maxHeartbeats 400000 in
theorem eqRequest_same (w : World) (va vb : Value) (ns : List Op5) (ha : RdO w va ns) (hb : RdO w vb ns) (hn : ns.length ≤ 1048576) :
    Calls Tryz.prog 12 #[.agg #[va], .agg #[vb]] w fun e w' => e = .returned (.bool true) ∧ Below w.heap.size w w' := by
  have B0 : Hid (Below w.heap.size w ((w.alloc (.cells #[va] 43)).alloc (.cells #[vb] 43))) := ((Below.refl _ _).alloc (Nat.le_refl _) _).alloc (by simp) _
  have RA := hd9 (ha.below B0.out)
  have RB := hd9 (hb.below B0.out)
  clear ha hb
  go_enter Tryz.func12, Tryz.ntmps12
  go_wp2_with fail
  refine (eqOpS_same _ _ _ ns RA.out RB.out hn).mono ?_
  rintro e w1 ⟨rfl, b1⟩
  have B1 := hd9 (B0.out.trans (b1.mono (by simp; omega)))
  clear b1
  go_wp2
  go_ret
  exact ⟨rfl, B1.out⟩

end Go.Proofs.YtejhcebodlcloaaGreatDoor


