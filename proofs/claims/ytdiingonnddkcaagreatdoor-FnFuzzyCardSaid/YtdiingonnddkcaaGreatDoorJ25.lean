import Derived.Test.YtdiingonnddkcaaGreatDoorJ24
import Derived.Test.YtdiingonnddkcaaGreatDoorJ23
import Derived.Test.YtdiingonnddkcaaGreatDoorJ10
import Derived.Test.YtdiingonnddkcaaGreatDoorJ18
import Derived.Deep.Slices
import Derived.Deep.QuietTactic
import Derived.Test.YtdiingonnddkcaaGreatDoorJ08
import Derived.Test.YtdiingonnddkcaaGreatDoorJ02
import Derived.Test.YtdiingonnddkcaaGreatDoorJ19
import Derived.Test.YtdiingonnddkcaaGreatDoorJ13
namespace Go.Proofs.YtdiingonnddkcaaGreatDoor
open Go.RowKit Go.Shelf

theorem widO_sz (i : Nat) : (widO i).path.size ≤ 1000 ∧ (widO i).data.size ≤ 1000 := by
  unfold widO
  constructor
  · show ((⟨#[47, 110]⟩ : ByteArray) ++ ⟨(six 5 i 4).toArray⟩).size ≤ 1000
    have := six_len 5 i 4
    rw [ByteArray.size_append]
    show 2 + (six 5 i 4).toArray.size ≤ 1000
    simp; omega
  · exact Nat.zero_le _
def Sz9 (ns : List Nd) : Prop := ∀ n ∈ ns, n.path.size ≤ 1000 ∧ n.data.size ≤ 1000
theorem Sz9.at {ns : List Nd} (h : Sz9 ns) (i : Nat) : (nAt ns i).path.size ≤ 1048576 ∧ (nAt ns i).data.size ≤ 1048576 := by
  by_cases hi : i < ns.length
  · have := h _ (List.getElem_mem hi)
    rw [nAt_get hi]; omega
  · have : nAt ns i = nd0 := by unfold nAt; simp [List.getD, List.getElem?_eq_none (show ns.length ≤ i by omega)]
    rw [this]; simp [nd0]
theorem snd_sz9 {ns : List Nd} (h : Snd ns) : Sz9 ns := fun n hn => by have := okNd_all (h.2.1 n hn); omega
theorem Sz9.set {ns : List Nd} (h : Sz9 ns) (i : Nat) {x : Nd} (hx : x.path.size ≤ 1000 ∧ x.data.size ≤ 1000) : Sz9 (ns.set i x) := fun n hn => by
  rcases List.mem_or_eq_of_mem_set hn with h1 | h1
  · exact h n h1
  · rw [h1]; exact hx
theorem wid_sz9 : ∀ n, Sz9 (widN n)
  | 0 => fun n hn => by
    have : n = rootN := by simpa [widN] using hn
    rw [this]; decide
  | k + 1 => fun n hn => by
    rcases List.mem_append.1 hn with h | h
    · exact wid_sz9 k n h
    · have : n = widO (k + 1) := by simpa using h
      rw [this]; exact widO_sz _
theorem tree_sz9 (s : Sr) (hs : s.size ≤ 7) : Sz9 s.tree.1 ∧ s.tree.1.length ≤ 1048576 := by
  obtain ⟨h1, h2, -⟩ := s.grow_inv (4 + 3 * s.size) (by omega)
  have hz := snd_sz9 h1
  unfold Sr.tree treeD
  generalize (s.grow (4 + 3 * s.size)).1 = ns at *
  generalize (s.grow (4 + 3 * s.size)).2.2 = s0 at *
  generalize ((s0.next 40).2.next ns.length).1 = i
  generalize ((s0.next 40).2.next ns.length).2 = s2
  have hm : ∀ j, (nAt ns j).path.size ≤ 1000 ∧ (nAt ns j).data.size ≤ 1000 := snd_sz h1
  have hmi := hm i
  have hm0 := hm 0
  have e2 : (⟨#[47, 65]⟩ : ByteArray).size = 2 := rfl
  have hset : ∀ x : Nd, x.path.size ≤ 1000 ∧ x.data.size ≤ 1000 → Sz9 (ns.set i x) ∧ (ns.set i x).length ≤ 1048576 := fun x hx => ⟨hz.set _ hx, by rw [List.length_set]; omega⟩
  unfold treeK
  split
  · exact ⟨wid_sz9 _, by show (widN _).length ≤ _; rw [widN_len]; have := s2.next_lt 2 (by omega); omega⟩
  split
  · exact hset _ hmi
  split
  · exact hset _ hmi
  split
  · exact hset _ ⟨by show (⟨#[47, 65]⟩ : ByteArray).size ≤ _; rw [e2]; omega, hmi.2⟩
  split
  · exact hset _ ⟨hmi.1, by show (strOfNums _).size ≤ _; rw [strOfNums_size, Sr.bytes_len]; omega⟩
  split
  · refine hset _ ⟨?_, hmi.2⟩
    show (if 1 < ns.length then (nAt ns 0).path else (nAt ns i).path).size ≤ _
    split
    · exact hm0.1
    · exact hmi.1
  split
  · exact hset _ hmi
  split
  · exact ⟨fun n hn => hz n (List.mem_of_mem_drop hn), by show (ns.drop i).length ≤ _; rw [List.length_drop]; omega⟩
  split
  · exact ⟨fun n hn => (by cases hn), Nat.zero_le _⟩
  · exact hset _ hmi



/-- The operation that fills a request up. -/
def chkO : Op5 := ⟨4, ⟨#[47]⟩, ⟨#[]⟩, -1, false⟩
def abcP (c : Nat) : ByteArray := ⟨#[47, 97, 98, 99, 100, 101, 102, 103, 104, 105, 106]⟩ ++ ⟨#[97 + UInt8.ofNat c]⟩
/-- What is made of a drawn request. -/
def prpK (kk : Nat) (os : List Op5) (i : Nat) (z : Int) (s : Sr) : List Op5 × Int :=
  if kk = 0 then (os.set i (oAt os i), 2147483647 + ((s.next 2).1 : Int))
  else if kk = 1 then (os.set i (oAt os i), 0)
  else if kk = 2 then ([], z)
  else if kk = 3 then (os ++ List.replicate (64 + (s.next 2).1 - os.length) chkO, z)
  else if kk = 4 then (os.set i { oAt os i with kind := ((s.next 7).1 : Int) - 1 }, z)
  else if kk = 5 then (os.set i { oAt os i with ver := -2 + ((s.next 3).1 : Int) }, z)
  else if kk = 6 then (os.set i { oAt os i with seq := true }, z)
  else if kk = 7 then (os.set i { oAt os i with data := strOfNums (s.bytes 65).1 }, z)
  else if kk = 8 then (os.set i { oAt os i with path := ⟨#[47]⟩ }, z)
  else if kk = 9 then (os.set i ⟨1, abcP (s.next 2).1, (oAt os i).data, 0, true⟩, z)
  else if kk = 10 then (os.set i { oAt os i with ver := 2147483647 + ((s.next 2).1 : Int) }, z)
  else (os.set i (oAt os i), z)
def prpD (os : List Op5) (s : Sr) : List Op5 × Int :=
  prpK ((s.next 100).2.next 40).1 os (((s.next 100).2.next 40).2.next os.length).1 (50 + ((s.next 100).1 : Int)) (((s.next 100).2.next 40).2.next os.length).2
/-- A drawn request beside a drawn tree. -/
def Sr.prp (s : Sr) : List Nd × List Op5 × Int := (s.tree.1, prpD (s.tree.2.req s.tree.1).1 (s.tree.2.req s.tree.1).2)

def SzQ (os : List Op5) : Prop := ∀ i, (oAt os i).path.size ≤ 1048576 ∧ (oAt os i).data.size ≤ 1048576
theorem szQ_of {os : List Op5} (h : ∀ o ∈ os, o.path.size ≤ 1048576 ∧ o.data.size ≤ 1048576) : SzQ os := by
  intro i
  by_cases hi : i < os.length
  · rw [oAt_get hi]; exact h _ (List.getElem_mem hi)
  · have : oAt os i = op0 := by unfold oAt; rw [List.getD, List.getElem?_eq_none (by omega)]; rfl
    rw [this]; exact ⟨Nat.zero_le _, Nat.zero_le _⟩
theorem prpK_sz (kk : Nat) {os : List Op5} (i : Nat) (z : Int) (s : Sr) (h : ∀ o ∈ os, SzO o) : SzQ (prpK kk os i z s).1 := by
  have h0 : ∀ o ∈ os, o.path.size ≤ 1048576 ∧ o.data.size ≤ 1048576 := fun o ho => by have := h o ho; unfold SzO at this; omega
  have hi : (oAt os i).path.size ≤ 1048576 ∧ (oAt os i).data.size ≤ 1048576 := szQ_of h0 i
  have hset : ∀ x : Op5, x.path.size ≤ 1048576 ∧ x.data.size ≤ 1048576 → SzQ (os.set i x) := fun x hx => szQ_of fun o ho => by
    rcases List.mem_or_eq_of_mem_set ho with ho | rfl
    · exact h0 o ho
    · exact hx
  have e1 : (⟨#[47]⟩ : ByteArray).size = 1 := rfl
  have e0 : (⟨#[]⟩ : ByteArray).size = 0 := rfl
  have e2 : ∀ c, (abcP c).size ≤ 1048576 := fun c => by
    unfold abcP
    rw [ByteArray.size_append]
    exact (show 11 + 1 ≤ 1048576 by omega)
  have key : ∀ (c : Prop) [Decidable c] (a b : List Op5 × Int), SzQ a.1 → SzQ b.1 → SzQ (if c then a else b).1 := fun c _ a b h1 h2 => by
    by_cases hc : c
    · rw [if_pos hc]; exact h1
    · rw [if_neg hc]; exact h2
  unfold prpK
  refine key _ _ _ (hset _ hi) (key _ _ _ (hset _ hi) (key _ _ _ (szQ_of fun o ho => by cases ho) (key _ _ _ (szQ_of fun o ho => ?_) (key _ _ _ (hset _ hi) (key _ _ _ (hset _ hi) (key _ _ _ (hset _ hi) (key _ _ _ (hset _ ⟨hi.1, by show (strOfNums _).size ≤ _; rw [strOfNums_size, Sr.bytes_len]; omega⟩) (key _ _ _ (hset _ ⟨by show (⟨#[47]⟩ : ByteArray).size ≤ _; rw [e1]; omega, hi.2⟩) (key _ _ _ (hset _ ⟨e2 _, hi.2⟩) (key _ _ _ (hset _ hi) (hset _ hi)))))))))))
  rcases List.mem_append.1 ho with ho | ho
  · exact h0 o ho
  · rw [(List.mem_replicate.1 ho).2]
    exact ⟨by show (⟨#[47]⟩ : ByteArray).size ≤ _; rw [e1]; omega, by show (⟨#[]⟩ : ByteArray).size ≤ _; rw [e0]; omega⟩
theorem sz9_T {ns : List Nd} (h : Sz9 ns) : SzT ns := by
  intro i
  by_cases hi : i < ns.length
  · rw [nAt_get hi]; exact h _ (List.getElem_mem hi)
  · have : nAt ns i = nd0 := by unfold nAt; simp [List.getD, List.getElem?_eq_none (show ns.length ≤ i by omega)]
    rw [this]; simp [nd0]

theorem tree_le (s : Sr) (hs : s.size ≤ 7) : s.tree.1.length ≤ 2000 := by
  obtain ⟨-, h2, -⟩ := s.grow_inv (4 + 3 * s.size) (by omega)
  unfold Sr.tree treeD
  generalize (s.grow (4 + 3 * s.size)).1 = ns at *
  generalize (s.grow (4 + 3 * s.size)).2.2 = s0 at *
  generalize ((s0.next 40).2.next ns.length).1 = i
  generalize ((s0.next 40).2.next ns.length).2 = s2
  have key : ∀ (c : Prop) [Decidable c] (a b : List Nd × Sr), a.1.length ≤ 2000 → b.1.length ≤ 2000 → (if c then a else b).1.length ≤ 2000 := fun c _ a b h1 h2 => by
    by_cases hc : c
    · rw [if_pos hc]; exact h1
    · rw [if_neg hc]; exact h2
  have hset : ∀ x : Nd, (ns.set i x).length ≤ 2000 := fun x => by rw [List.length_set]; omega
  unfold treeK
  refine key _ _ _ ?_ (key _ _ _ (hset _) (key _ _ _ (hset _) (key _ _ _ (hset _) (key _ _ _ (hset _) (key _ _ _ (hset _) (key _ _ _ (hset _) (key _ _ _ ?_ (key _ _ _ (Nat.zero_le _) (hset _)))))))))
  · show (widN _).length ≤ _
    rw [widN_len]
    have := s2.next_lt 2 (by omega)
    omega
  · show (ns.drop i).length ≤ _
    rw [List.length_drop]; omega


theorem St.tch {W W' : World} {b x : Nat} {L : List Value} (h : St W b L) (t : Tch x W W') (hne : b ≠ x) : St W' b L :=
  ⟨Nat.lt_of_lt_of_le h.lt t.size, fun j => (World.frozen?_of_block (a := ⟨b, j, none⟩) (t.2 b hne h.lt)).trans (h.fz j), fun j v hv => (World.cell?_of_block (a := ⟨b, j, none⟩) (t.2 b hne h.lt)).trans (h.cl j v hv)⟩
theorem row_tch {w w' : World} {lo z n x : Nat} {e : TypeId} {v : Value} {us : List Value} (h : w.ownsRow lo e z v n us) (t : Tch x w w') (hne : v.ownBlock ≠ some x) : w'.ownsRow lo e z v n us := by
  refine ⟨h.1, ?_⟩
  rcases h.2 with hn | ⟨g, cap, cur, rfl, hb, hg, rest⟩
  · exact .inl hn
  · exact .inr ⟨g, cap, cur, rfl, hb, (t.2 g (fun e => hne (by rw [e]; rfl)) (Array.getElem?_eq_some_iff.1 hg).1).trans hg, rest⟩
theorem tch_set9 (w : World) (b j : Nat) (x : Value) : Tch b w (w.setCell ⟨b, j, none⟩ x) := ⟨(Below.refl _ _).setCell (Nat.zero_le _) _, fun _ hj _ => Below.heap_setCell w _ _ _ hj⟩

/-- What a drawing of a request beside a tree holds: the source, the two boxes of the answer, the tree, the request, the operation. -/
structure DP (W Wt : World) (k B TB RB OB : Nat) (v u : Value) (os : List Op5) (o : Op5) (s : Sr) (w : World) : Prop where
  src : SRX w k B s
  bel : Below W.heap.size W w
  fx : ∀ j, B ≤ j → j < TB → w.heap[j]? = Wt.heap[j]?
  r0 : St w W.heap.size [.slice none 0 0]
  r1 : St w (W.heap.size + 1) [.slice none 0 0]
  t : St w TB [v]
  q : St w RB [u]
  b : St w OB (opL o)
  own : OwnOps w (TB + 1) u os
  un : u.ownBlock ≠ some RB ∧ u.ownBlock ≠ some OB
/-- How the blocks lie. -/
structure DQ (W : World) (k B TB RB OB : Nat) : Prop where
  ak : W.heap.size + 1 < k
  aB : k < B
  aT : B ≤ TB
  aR : TB < RB
  aO : RB < OB
theorem DP.next {W Wt w w' : World} {k B TB RB OB : Nat} {v u : Value} {os : List Op5} {o : Op5} {s s' : Sr} (h : DP W Wt k B TB RB OB v u os o s w) (d : DQ W k B TB RB OB) (hs : SRX w' k B s') (t : Tch k w w') : DP W Wt k B TB RB OB v u os o s' w' := by
  obtain ⟨d1, d2, d3, d4, d5⟩ := d
  have ht := h.t.lt
  exact ⟨hs, h.bel.trans (t.below (by omega) (by omega)), fun j h1 h2 => (t.2 j (by omega) (by omega)).trans (h.fx j h1 h2), h.r0.tch t (by omega), h.r1.tch t (by omega), h.t.tch t (by omega), h.q.tch t (by omega), h.b.tch t (by omega), row_tch h.own t (fun e => by have := (World.ownsRow.lt h.own _ e).1; omega), h.un⟩
theorem DP.below {W Wt w w' : World} {k B TB RB OB : Nat} {v u : Value} {os : List Op5} {o : Op5} {s : Sr} (h : DP W Wt k B TB RB OB v u os o s w) (d : DQ W k B TB RB OB) (hb : Below w.heap.size w w') : DP W Wt k B TB RB OB v u os o s w' :=
  h.next d (h.src.keep (hb.mono h.src.lt)) (Tch.of hb)
/-- A field of the operation is written. -/
theorem DP.setO {W Wt w : World} {k B TB RB OB : Nat} {v u : Value} {os : List Op5} {o : Op5} {s : Sr} (h : DP W Wt k B TB RB OB v u os o s w) (d : DQ W k B TB RB OB) (j : Nat) (x : Value) (o' : Op5) (he : (opL o).set j x = opL o') : DP W Wt k B TB RB OB v u os o' s (w.setCell ⟨OB, j, none⟩ x) := by
  obtain ⟨d1, d2, d3, d4, d5⟩ := d
  have t := tch_set9 w OB j x
  have ht := h.t.lt
  have hb := h.b.set j x
  rw [he] at hb
  exact ⟨h.src.keep ((Below.refl _ _).setCell (by show B ≤ OB; omega) _), h.bel.trans ((Below.refl _ _).setCell (by show _ ≤ OB; omega) _), fun i h1 h2 => (t.2 i (by omega) (by omega)).trans (h.fx i h1 h2), h.r0.tch t (by omega), h.r1.tch t (by omega), h.t.tch t (by omega), h.q.tch t (by omega), hb, row_tch h.own t h.un.2, h.un⟩
/-- The request's slice is written. -/
theorem DP.setQ {W Wt w w' : World} {k B TB RB OB : Nat} {v u u' : Value} {os os' : List Op5} {o : Op5} {s : Sr} {row : Option Nat} (h : DP W Wt k B TB RB OB v u os o s w) (d : DQ W k B TB RB OB) (hg : w.grownBy w' row) (hr : ∀ g, row = some g → TB + 1 ≤ g ∧ g ≠ RB ∧ g ≠ OB) (ho : OwnOps w' (TB + 1) u' os') (hu : u'.ownBlock ≠ some RB ∧ u'.ownBlock ≠ some OB) :
    DP W Wt k B TB RB OB v u' os' o s (w'.setCell ⟨RB, 0, none⟩ u') ∧ w'.cell? ⟨RB, 0, none⟩ = some u ∧ w'.frozen? ⟨RB, 0, none⟩ = false := by
  obtain ⟨d1, d2, d3, d4, d5⟩ := d
  have ht := h.t.lt
  have hne : ∀ b, (b < TB + 1 ∨ b = RB ∨ b = OB) → some b ≠ row := fun b hb e => by have := hr b e.symm; omega
  have sk : ∀ (b : Nat) (L : List Value), (b < TB + 1 ∨ b = RB ∨ b = OB) → St w b L → St w' b L := fun b L hb hs =>
    ⟨Nat.lt_of_lt_of_le hs.lt hg.size, fun j => (World.frozen?_of_block (a := ⟨b, j, none⟩) (hg.block b hs.lt (hne b hb))).trans (hs.fz j), fun j x hx => (World.cell?_of_block (a := ⟨b, j, none⟩) (hg.block b hs.lt (hne b hb))).trans (hs.cl j x hx)⟩
  have b0 : Below (TB + 1) w w' := ⟨hg.os, hg.tape, hg.output, hg.size, fun q hq => hg.block q (by omega) (hne q (.inl hq))⟩
  have t := tch_set9 w' RB 0 u'
  have q0 := sk RB _ (.inr (.inl rfl)) h.q
  have hz := hg.size
  refine ⟨⟨h.src.keep ((b0.mono (by omega)).setCell (by show B ≤ RB; omega) _), h.bel.trans ((b0.mono (by omega)).setCell (by show _ ≤ RB; omega) _), fun i h1 h2 => (t.2 i (by omega) (by omega)).trans ((b0.block i (by omega)).trans (h.fx i h1 h2)), (sk _ _ (.inl (by omega)) h.r0).tch t (by omega), (sk _ _ (.inl (by omega)) h.r1).tch t (by omega), (sk _ _ (.inl (by omega)) h.t).tch t (by omega), q0.set 0 u', (sk _ _ (.inr (.inr rfl)) h.b).tch t (by omega), row_tch ho t hu.1, hu⟩, q0.cl 0 _ rfl, q0.fz 0⟩

theorem orow_set9 : ∀ (ns : List Op5) (k : Nat) (n : Op5), k < ns.length → (((((orow ns).set (k * 5) (.int .i64 n.kind)).set (k * 5 + 1) (.string n.path)).set (k * 5 + 2) (.string n.data)).set (k * 5 + 3) (.int .i64 n.ver)).set (k * 5 + 4) (.bool n.seq) = orow (ns.set k n)
  | [], k, n, h => by simp at h
  | m :: ns, 0, n, _ => by
    rw [orow_cons, List.set_cons_zero, orow_cons]
    rfl
  | m :: ns, k + 1, n, h => by
    have e : ∀ (M : List Value) (q : Nat) (v : Value), (opL m ++ M).set (5 + q) v = opL m ++ M.set q v := fun M q v => by
      rw [List.set_append_right _ _ (by show 5 ≤ _; omega)]; congr 2; show 5 + q - 5 = q; omega
    rw [orow_cons, List.set_cons_succ, orow_cons, show (k + 1) * 5 = 5 + k * 5 by omega, e, show 5 + k * 5 + 1 = 5 + (k * 5 + 1) by omega, e, show 5 + k * 5 + 2 = 5 + (k * 5 + 2) by omega, e, show 5 + k * 5 + 3 = 5 + (k * 5 + 3) by omega, e, show 5 + k * 5 + 4 = 5 + (k * 5 + 4) by omega, e, orow_set9 ns k n (by simpa using h)]
/-- One operation of the request is written. -/
theorem DP.putU {W Wt w : World} {k B TB RB OB g cap : Nat} {v : Value} {os : List Op5} {o : Op5} {s : Sr} (h : DP W Wt k B TB RB OB v (.slice (some ⟨g, 0, none⟩) os.length cap) os o s w) (d : DQ W k B TB RB OB) (i : Nat) (hi : i < os.length) :
    DP W Wt k B TB RB OB v (.slice (some ⟨g, 0, none⟩) os.length cap) (os.set i o) o s (((((w.setCell ⟨g, i * 5, none⟩ (.int .i64 o.kind)).setCell ⟨g, i * 5 + 1, none⟩ (.string o.path)).setCell ⟨g, i * 5 + 2, none⟩ (.string o.data)).setCell ⟨g, i * 5 + 3, none⟩ (.int .i64 o.ver)).setCell ⟨g, i * 5 + 4, none⟩ (.bool o.seq)) := by
  obtain ⟨d1, d2, d3, d4, d5⟩ := d
  have ht := h.t.lt
  have hgl := World.ownsRow.lt h.own g rfl
  have hg1 : g ≠ RB := fun e => h.un.1 (by rw [e]; rfl)
  have hg2 : g ≠ OB := fun e => h.un.2 (by rw [e]; rfl)
  have t := ((((tch_set9 w g (i * 5) (.int .i64 o.kind)).trans (tch_set9 _ g (i * 5 + 1) (.string o.path))).trans (tch_set9 _ g (i * 5 + 2) (.string o.data))).trans (tch_set9 _ g (i * 5 + 3) (.int .i64 o.ver))).trans (tch_set9 _ g (i * 5 + 4) (.bool o.seq))
  have s0 := (World.ownsRow.stored h.own (i * 5) (.int .i64 o.kind)).1
  have s1 := (World.ownsRow.stored s0 (i * 5 + 1) (.string o.path)).1
  have s2 := (World.ownsRow.stored s1 (i * 5 + 2) (.string o.data)).1
  have s3 := (World.ownsRow.stored s2 (i * 5 + 3) (.int .i64 o.ver)).1
  have s4 := (World.ownsRow.stored s3 (i * 5 + 4) (.bool o.seq)).1
  rw [orow_set9 os i o hi] at s4
  have bt : ∀ m, m ≤ g → m ≤ w.heap.size → Below m w _ := fun m h1 h2 => t.below h1 h2
  exact ⟨h.src.keep (bt _ (by omega) (by omega)), h.bel.trans (bt _ (by omega) (by omega)), fun j h1 h2 => (t.2 j (by omega) (by omega)).trans (h.fx j h1 h2), h.r0.tch t (by omega), h.r1.tch t (by omega), h.t.tch t (by omega), h.q.tch t (fun e => hg1 e.symm), h.b.tch t (fun e => hg2 e.symm), (by unfold OwnOps; rw [List.length_set]; exact s4), h.un⟩
/-- The answer. -/
theorem DP.fin {W Wt w : World} {k B TB RB OB : Nat} {v u : Value} {os : List Op5} {o : Op5} {s : Sr} (h : DP W Wt k B TB RB OB v u os o s w) (d : DQ W k B TB RB OB) {ns : List Nd} (hr : ∀ w', (∀ j, B ≤ j → j < TB → w'.heap[j]? = Wt.heap[j]?) → RdN w' v ns) :
    RdN ((w.setCell ⟨W.heap.size, 0, none⟩ v).setCell ⟨W.heap.size + 1, 0, none⟩ u) v ns ∧ RdO ((w.setCell ⟨W.heap.size, 0, none⟩ v).setCell ⟨W.heap.size + 1, 0, none⟩ u) u os ∧ Below W.heap.size W ((w.setCell ⟨W.heap.size, 0, none⟩ v).setCell ⟨W.heap.size + 1, 0, none⟩ u) := by
  obtain ⟨d1, d2, d3, d4, d5⟩ := d
  have ht := h.t.lt
  have t0 := tch_set9 w W.heap.size 0 v
  have t1 := tch_set9 (w.setCell ⟨W.heap.size, 0, none⟩ v) (W.heap.size + 1) 0 u
  have z0 := t0.size
  have hne : ∀ x, x < TB + 1 → u.ownBlock ≠ some x := fun x hx e => by have := (World.ownsRow.lt h.own _ e).1; omega
  refine ⟨hr _ fun j h1 h2 => (t1.2 j (by omega) (by omega)).trans ((t0.2 j (by omega) (by omega)).trans (h.fx j h1 h2)), OwnOps.rd (row_tch (row_tch h.own t0 (hne _ (by omega))) t1 (hne _ (by omega))), ?_⟩
  exact (h.bel.setCell (by show _ ≤ W.heap.size; omega) _).setCell (by show _ ≤ W.heap.size + 1; omega) _

/-- The request is emptied. -/
theorem DP.clr {W Wt w : World} {k B TB RB OB : Nat} {v u : Value} {os : List Op5} {o : Op5} {s : Sr} (h : DP W Wt k B TB RB OB v u os o s w) (d : DQ W k B TB RB OB) :
    DP W Wt k B TB RB OB v (.slice (some ⟨w.heap.size, 0, none⟩) 0 0) [] o s ((w.setCell ⟨RB, 0, none⟩ (.slice (some ⟨w.heap.size, 0, none⟩) 0 0)).alloc (.cells #[] 40)) := by
  obtain ⟨d1, d2, d3, d4, d5⟩ := d
  have ht := h.t.lt
  have hb := h.b.lt
  have t := tch_set9 w RB 0 (.slice (some ⟨w.heap.size, 0, none⟩) 0 0)
  have hz : (w.setCell ⟨RB, 0, none⟩ (.slice (some ⟨w.heap.size, 0, none⟩) 0 0)).heap.size = w.heap.size := by simp
  have bA : Below (w.setCell ⟨RB, 0, none⟩ (.slice (some ⟨w.heap.size, 0, none⟩) 0 0)).heap.size (w.setCell ⟨RB, 0, none⟩ (.slice (some ⟨w.heap.size, 0, none⟩) 0 0)) ((w.setCell ⟨RB, 0, none⟩ (.slice (some ⟨w.heap.size, 0, none⟩) 0 0)).alloc (.cells #[] 40)) := (Below.refl _ _).alloc (Nat.le_refl _) _
  have hn := heap_alloc_new (w.setCell ⟨RB, 0, none⟩ (.slice (some ⟨w.heap.size, 0, none⟩) 0 0)) (.cells #[] 40)
  rw [hz] at hn
  have b1 : ∀ m, m ≤ RB → m ≤ w.heap.size → Below m w ((w.setCell ⟨RB, 0, none⟩ (.slice (some ⟨w.heap.size, 0, none⟩) 0 0)).alloc (.cells #[] 40)) := fun m h1 h2 => (t.below h1 h2).trans (bA.mono (by omega))
  refine ⟨h.src.keep (b1 _ (by omega) (by omega)), h.bel.trans (b1 _ (by omega) (by omega)), fun i h1 h2 => ((b1 TB (by omega) (by omega)).block i h2).trans (h.fx i h1 h2), (h.r0.tch t (by omega)).below bA, (h.r1.tch t (by omega)).below bA, (h.t.tch t (by omega)).below bA, (h.q.set 0 _).below bA, (h.b.tch t (by omega)).below bA, ⟨rfl, .inr ⟨w.heap.size, 0, #[], rfl, by omega, hn, Nat.le_refl _, Nat.zero_le _, rfl, rfl⟩⟩, by simp [Value.ownBlock]; omega, by simp [Value.ownBlock]; omega⟩

def lnAt9 (w : World) (b : Nat) : Nat := match w.cell? ⟨b, 0, none⟩ with
  | some (.slice _ n _) => n
  | _ => 0
theorem lnAt9_of {w : World} {b n c : Nat} {a : Option Addr} (h : w.cell? ⟨b, 0, none⟩ = some (.slice a n c)) : lnAt9 w b = n := by simp [lnAt9, h]

set_option maxRecDepth 100000 in
/-- The steps of the drawing are what is made of the request. -/
theorem prpK_steps {kk : Nat} {os : List Op5} {i : Nat} {z0 z1 z2 : Int} {s5 s6 s7 s8 s9 s10 s11 s12 s13 : Sr} {o5 o6 o7 o8 o9 o10 o11 : Op5}
    (e0 : (z1, s6) = if kk = 0 then (2147483647 + ((s5.next 2).1 : Int), (s5.next 2).2) else (z0, s5)) (e1 : z2 = if kk = 1 then 0 else z1) (h2 : kk ≠ 2) (h3 : kk ≠ 3)
    (e4 : (o5, s7) = if kk = 4 then ({ oAt os i with kind := ((s6.next 7).1 : Int) - 1 }, (s6.next 7).2) else (oAt os i, s6))
    (e5 : (o6, s8) = if kk = 5 then ({ o5 with ver := -2 + ((s7.next 3).1 : Int) }, (s7.next 3).2) else (o5, s7))
    (e6 : (o7, s9) = if kk = 6 then ({ o6 with seq := true }, s8) else (o6, s8))
    (e7 : (o8, s10) = if kk = 7 then ({ o7 with data := strOfNums (s9.bytes 65).1 }, (s9.bytes 65).2) else (o7, s9))
    (e8 : (o9, s11) = if kk = 8 then ({ o8 with path := ⟨#[47]⟩ }, s10) else (o8, s10))
    (e9 : (o10, s12) = if kk = 9 then (⟨1, abcP (s11.next 2).1, o9.data, 0, true⟩, (s11.next 2).2) else (o9, s11))
    (e10 : (o11, s13) = if kk = 10 then ({ o10 with ver := 2147483647 + ((s12.next 2).1 : Int) }, (s12.next 2).2) else (o10, s12)) :
    (os.set i o11, z2) = prpK kk os i z0 s5 := by
  have key : ∀ {α β : Type} {c : Prop} [Decidable c] {a a1 a2 : α} {b b1 b2 : β}, (a, b) = (if c then (a1, b1) else (a2, b2)) → (c → a = a1 ∧ b = b1) ∧ (¬ c → a = a2 ∧ b = b2) := by
    intro α β c _ a a1 a2 b b1 b2 h
    constructor
    · intro hc; rw [if_pos hc] at h; exact ⟨congrArg Prod.fst h, congrArg Prod.snd h⟩
    · intro hc; rw [if_neg hc] at h; exact ⟨congrArg Prod.fst h, congrArg Prod.snd h⟩
  have k0 := key e0; have k4 := key e4; have k5 := key e5; have k6 := key e6; have k7 := key e7; have k8 := key e8; have k9 := key e9; have k10 := key e10
  clear e0 e4 e5 e6 e7 e8 e9 e10 key
  unfold prpK
  by_cases h0 : kk = 0
  · obtain ⟨rfl, rfl⟩ := k0.1 h0
    obtain ⟨rfl, rfl⟩ := k4.2 (by omega); obtain ⟨rfl, rfl⟩ := k5.2 (by omega); obtain ⟨rfl, rfl⟩ := k6.2 (by omega); obtain ⟨rfl, rfl⟩ := k7.2 (by omega); obtain ⟨rfl, rfl⟩ := k8.2 (by omega); obtain ⟨rfl, rfl⟩ := k9.2 (by omega); obtain ⟨rfl, rfl⟩ := k10.2 (by omega)
    rw [if_pos h0, e1, if_neg (by omega)]
  obtain ⟨rfl, rfl⟩ := k0.2 h0
  rw [if_neg h0]
  by_cases h1 : kk = 1
  · obtain ⟨rfl, rfl⟩ := k4.2 (by omega); obtain ⟨rfl, rfl⟩ := k5.2 (by omega); obtain ⟨rfl, rfl⟩ := k6.2 (by omega); obtain ⟨rfl, rfl⟩ := k7.2 (by omega); obtain ⟨rfl, rfl⟩ := k8.2 (by omega); obtain ⟨rfl, rfl⟩ := k9.2 (by omega); obtain ⟨rfl, rfl⟩ := k10.2 (by omega)
    rw [if_pos h1, e1, if_pos h1]
  rw [if_neg h1] at e1 ⊢
  subst e1
  rw [if_neg h2, if_neg h3]
  by_cases h4 : kk = 4
  · obtain ⟨rfl, rfl⟩ := k4.1 h4; obtain ⟨rfl, rfl⟩ := k5.2 (by omega); obtain ⟨rfl, rfl⟩ := k6.2 (by omega); obtain ⟨rfl, rfl⟩ := k7.2 (by omega); obtain ⟨rfl, rfl⟩ := k8.2 (by omega); obtain ⟨rfl, rfl⟩ := k9.2 (by omega); obtain ⟨rfl, rfl⟩ := k10.2 (by omega)
    rw [if_pos h4]
  rw [if_neg h4]
  obtain ⟨rfl, rfl⟩ := k4.2 h4
  by_cases h5 : kk = 5
  · obtain ⟨rfl, rfl⟩ := k5.1 h5; obtain ⟨rfl, rfl⟩ := k6.2 (by omega); obtain ⟨rfl, rfl⟩ := k7.2 (by omega); obtain ⟨rfl, rfl⟩ := k8.2 (by omega); obtain ⟨rfl, rfl⟩ := k9.2 (by omega); obtain ⟨rfl, rfl⟩ := k10.2 (by omega)
    rw [if_pos h5]
  rw [if_neg h5]
  obtain ⟨rfl, rfl⟩ := k5.2 h5
  by_cases h6 : kk = 6
  · obtain ⟨rfl, rfl⟩ := k6.1 h6; obtain ⟨rfl, rfl⟩ := k7.2 (by omega); obtain ⟨rfl, rfl⟩ := k8.2 (by omega); obtain ⟨rfl, rfl⟩ := k9.2 (by omega); obtain ⟨rfl, rfl⟩ := k10.2 (by omega)
    rw [if_pos h6]
  rw [if_neg h6]
  obtain ⟨rfl, rfl⟩ := k6.2 h6
  by_cases h7 : kk = 7
  · have a7 := (k7.1 h7).1
    have a8 := (k8.2 (by omega)).1
    have a9 := (k9.2 (by omega)).1
    have a10 := (k10.2 (by omega)).1
    rw [if_pos h7, a10, a9, a8, a7]
  rw [if_neg h7]
  obtain ⟨rfl, rfl⟩ := k7.2 h7
  by_cases h8 : kk = 8
  · obtain ⟨rfl, rfl⟩ := k8.1 h8; obtain ⟨rfl, rfl⟩ := k9.2 (by omega); obtain ⟨rfl, rfl⟩ := k10.2 (by omega)
    rw [if_pos h8]
  rw [if_neg h8]
  obtain ⟨rfl, rfl⟩ := k8.2 h8
  by_cases h9 : kk = 9
  · obtain ⟨rfl, rfl⟩ := k9.1 h9; obtain ⟨rfl, rfl⟩ := k10.2 (by omega)
    rw [if_pos h9]
  rw [if_neg h9]
  obtain ⟨rfl, rfl⟩ := k9.2 h9
  by_cases h10 : kk = 10
  · obtain ⟨rfl, rfl⟩ := k10.1 h10
    rw [if_pos h10]
  rw [if_neg h10]
  obtain ⟨rfl, rfl⟩ := k10.2 h10
  rfl


theorem prp_szs (s : Sr) (hs : s.size ≤ 7) : (∀ i, (nAt s.prp.1 i).path.size ≤ 1048576 ∧ (nAt s.prp.1 i).data.size ≤ 1048576) ∧ s.prp.1.length ≤ 2000 ∧ SzQ s.prp.2.1 := by
  have h1 := (tree_sz9 s hs).1
  have h2 := tree_le s hs
  have h3 : ∀ o ∈ (s.tree.2.req s.tree.1).1, SzO o := by
    unfold Sr.req
    exact Sr.rops_sz _ (sz9_T h1) _ _
  unfold Sr.prp
  generalize s.tree = t at *
  generalize t.2.req t.1 = q at *
  refine ⟨h1.at, h2, ?_⟩
  unfold prpD
  exact prpK_sz _ _ _ _ h3
theorem boxed_cell1 {W : World} {B : Nat} {t : TypeId} {x : Value} (h : Boxed W B t x) (j : Nat) : W.cell? ⟨B, j + 1, none⟩ = none := by simp [World.cell?, show W.heap[B]? = _ from h]
/-- What reads as nodes, or as operations, lies in no box of one cell. -/
theorem rdN_box {W : World} {B : Nat} {t : TypeId} {x v : Value} {ns : List Nd} (h : RdN W v ns) (hb : Boxed W B t x) (y : Value) : RdN (W.setCell ⟨B, 0, none⟩ y) v ns := by
  obtain ⟨ao, cap, rfl, h1, h2, h3⟩ := h
  refine ⟨ao, cap, rfl, h1, h2, ?_⟩
  rcases h3 with h3 | ⟨b, off, rfl, hlt, hc⟩
  · exact .inl h3
  · refine .inr ⟨b, off, rfl, by simpa using hlt, fun i hi => ?_⟩
    obtain ⟨c0, c1, c2, c3, c4, c5, c6⟩ := hc i hi
    have hne : b ≠ B := fun e => by
      subst e
      rw [boxed_cell1 hb] at c1
      cases c1
    have q : ∀ j, (W.setCell ⟨B, 0, none⟩ y).cell? ⟨b, j, none⟩ = W.cell? ⟨b, j, none⟩ := fun j => World.cell?_setCell_other _ _ _ _ (by intro e; injection e with e; exact hne (by first | exact e | exact e.symm))
    exact ⟨(q _).trans c0, (q _).trans c1, (q _).trans c2, (q _).trans c3, (q _).trans c4, (q _).trans c5, (q _).trans c6⟩
theorem rdO_box {W : World} {B : Nat} {t : TypeId} {x v : Value} {os : List Op5} (h : RdO W v os) (hb : Boxed W B t x) (y : Value) : RdO (W.setCell ⟨B, 0, none⟩ y) v os := by
  obtain ⟨ao, cap, rfl, h1, h2, h3⟩ := h
  refine ⟨ao, cap, rfl, h1, h2, ?_⟩
  rcases h3 with h3 | ⟨b, off, rfl, hlt, hc⟩
  · exact .inl h3
  · refine .inr ⟨b, off, rfl, by simpa using hlt, fun i hi => ?_⟩
    obtain ⟨c0, c1, c2, c3, c4⟩ := hc i hi
    have hne : b ≠ B := fun e => by
      subst e
      rw [boxed_cell1 hb] at c1
      cases c1
    have q : ∀ j, (W.setCell ⟨B, 0, none⟩ y).cell? ⟨b, j, none⟩ = W.cell? ⟨b, j, none⟩ := fun j => World.cell?_setCell_other _ _ _ _ (by intro e; injection e with e; exact hne (by first | exact e | exact e.symm))
    exact ⟨(q _).trans c0, (q _).trans c1, (q _).trans c2, (q _).trans c3, (q _).trans c4⟩
theorem OwnS.slice {w : World} {lo : Nat} {v : Value} {L : List (List UInt8)} (h : OwnS w lo v L) : ∃ a c, v = .slice a L.length c := by
  rcases h.2 with ⟨rfl, h0⟩ | ⟨g, cap, cur, rfl, _⟩
  · exact ⟨none, 0, by rw [h0]⟩
  · exact ⟨_, cap, rfl⟩

end Go.Proofs.YtdiingonnddkcaaGreatDoor
namespace Go.Proofs.YtdiingonnddkcaaGreatDoor
open Go.RowKit

set_option maxHeartbeats 2000000 in
set_option maxRecDepth 100000 in
theorem lwAt_any (w : World) (v : Value) (xs : List Int) (i n : Nat) (h : Rd .u8 w v xs) (hby : Byt xs) (hi : i ≤ 1000000) (hn : n ≤ 1000000) (hx : xs.length ≤ 1048576) :
    Calls Tryz.prog 10 #[v, .int .i64 (i : Int), .int .i64 (n : Int)] w fun e w' => ∃ r : Nat, e = .returned (.int .i64 (r : Int)) ∧ (1 ≤ n → r < n) ∧ Below w.heap.size w w' := by
  obtain ⟨ao, cap, rfl, h1, h2, h3⟩ := h
  by_cases hn1 : n ≤ 1
  · have hnI : (n : Int) ≤ 1 := by omega
    go_enter Tryz.func10, Tryz.ntmps10
    go_wp2
    go_ret
    exact ⟨0, rfl, fun h => by omega, Below.refl _ _⟩
  have hnI : ¬ (n : Int) ≤ 1 := by omega
  have hz : ((n : Int) == 0) = false := beq_eq_false_iff_ne.2 (by omega)
  by_cases hx0 : xs.length = 0
  · have hlt : (i * 7) % n < n := Nat.mod_lt _ (by omega)
    rw [hx0]
    go_enter Tryz.func10, Tryz.ntmps10
    go_wp2
    go_ret
    exact ⟨(i * 7) % n, ret_int (by rw [Int.natCast_emod, Int.natCast_mul]; rfl), fun _ => hlt, Below.refl _ _⟩
  · rcases h3 with h3 | ⟨b, o, rfl, hb, hc⟩
    · rw [h3] at hx0; simp at hx0
    have hl1 : 0 < xs.length := by omega
    have hxz : ((xs.length : Int) == 0) = false := beq_eq_false_iff_ne.2 (by omega)
    have hxq : ¬ (xs.length : Int) = 0 := by omega
    have hml : i % xs.length < xs.length := Nat.mod_lt _ hl1
    have hmI : (i : Int) % (xs.length : Int) < (xs.length : Int) := by rw [← Int.natCast_emod]; omega
    have hm0 : 0 ≤ (i : Int) % (xs.length : Int) := by rw [← Int.natCast_emod]; omega
    have hmN : ((i : Int) % (xs.length : Int)).toNat = i % xs.length := by rw [← Int.natCast_emod]; rfl
    obtain ⟨x, hx8, hxe⟩ := byt_at hby (i % xs.length)
    have cx := hc _ hml
    rw [hxe] at cx
    have hlt : (x + i / xs.length) % n < n := Nat.mod_lt _ (by omega)
    have hq : (i : Int) / (xs.length : Int) = ((i / xs.length : Nat) : Int) := by rw [Int.natCast_ediv]
    have hqb : i / xs.length ≤ 1000000 := Nat.le_trans (Nat.div_le_self _ _) hi
    generalize hq2 : i / xs.length = qq at *
    clear hc hby hxe
    go_enter Tryz.func10, Tryz.ntmps10
    go_wp2
    go_quiet (fail)
    go_wp2
    go_ret
    exact ⟨(x + qq) % n, ret_int (by rw [Int.natCast_emod, Int.natCast_add]), fun _ => hlt, below_drewN' w _⟩

end Go.Proofs.YtdiingonnddkcaaGreatDoor
namespace Go.Proofs.YtdiingonnddkcaaGreatDoor
open Go.RowKit Go.Shelf

set_option maxHeartbeats 1000000 in
set_option maxRecDepth 100000 in
theorem lwFind_any (w : World) (v : Value) (ns : List Nd) (p : ByteArray) (h : RdN w v ns) (hn : ns.length ≤ 1000000) :
    Calls Tryz.prog 20 #[.agg #[v], .string p] w fun e w' => e = .returned (.int .i64 (fdV ns p)) ∧ Below w.heap.size w w' := by
  obtain ⟨ao, ca, rfl, _, _⟩ := h.len
  have B0 : Hid (Below w.heap.size w (w.alloc (.cells #[.slice ao ns.length ca] 25))) := (Below.refl _ _).alloc (Nat.le_refl _) _
  have HR : Hid (RdN (w.alloc (.cells #[.slice ao ns.length ca] 25)) (.slice ao ns.length ca) ns) := h.below B0.out
  have C0 : Hid (Boxed (w.alloc (.cells #[.slice ao ns.length ca] 25)) w.heap.size 25 (.slice ao ns.length ca)) := Boxed.new _ _ _
  generalize hnn : ns.length = n at *
  have HP : Hid (ns.length = n) := hnn
  clear h hnn
  go_enter Tryz.func20, Tryz.ntmps20
  go_wp2
  generalize w.alloc (.cells #[.slice ao n ca] 25) = w0 at *
  go_loopw [5] (fun vk wr => ∃ k : Nat, k ≤ n ∧ vk = .int .i64 (k : Int) ∧ Hid (∀ i, i < k → isP p (nAt ns i) = false) ∧ wr = w0) (fun i _ => n - (intOf i).toNat)
  case atStart => exact ⟨0, Nat.zero_le _, rfl, fun i hi => by omega, rfl⟩
  case round =>
    obtain ⟨k, hk, rfl, HN, rfl⟩ := hrel
    have x0 := C0.out.cell
    by_cases hlt : k < n
    · have hltI : (k : Int) < (n : Int) := by omega
      obtain ⟨b, o, hao, hb, hc⟩ : ∃ b o, ao = some ⟨b, o, none⟩ ∧ b < wr.heap.size ∧ CellsN wr b (o + k * 7) (nAt ns k) := by
        obtain ⟨ao', cap', e', -, -, h3⟩ := HR.out
        simp only [Value.slice.injEq] at e'
        obtain ⟨rfl, -, -⟩ := e'
        rcases h3 with h3 | ⟨b, o, rfl, hb, hc⟩
        · have := HP.out; rw [h3] at this; simp at this; omega
        · exact ⟨b, o, rfl, hb, hc k (by rw [HP.out]; exact hlt)⟩
      subst hao
      obtain ⟨c0, c1, c2, c3, c4, c5, c6⟩ := hc
      cases hA : ((nAt ns k).path.toList == p.toList) with
      | true =>
        have HF : Hid (fdV ns p = (k : Int)) := fdV_at (by rw [HP.out]; exact hlt) hA HN.out
        go_wp2
        go_ret
        exact ⟨by rw [HF.out]; rfl, B0.out⟩
      | false =>
        have HN2 : Hid (∀ i, i < k + 1 → isP p (nAt ns i) = false) := by
          intro i hi
          by_cases e : i < k
          · exact HN.out i e
          · rw [show i = k by omega]; exact hA
        go_wp2
        exact ⟨⟨k + 1, by omega, by go_num, HN2, trivial⟩, by simp [intOf]; omega⟩
    · have hkn : k = n := by omega
      subst hkn
      have HF : Hid (fdV ns p = -1) := fdV_none (fun i hi => HN.out i (by rw [HP.out] at hi; exact hi))
      go_wp2
      go_ret
      exact ⟨by rw [HF.out]; rfl, B0.out⟩

set_option maxHeartbeats 1000000 in
set_option maxRecDepth 100000 in
theorem lwDec_one (w : World) (n : Nat) (hn : n < 10) :
    Calls Tryz.prog 52 #[.int .i64 (n : Int)] w fun e w' => ∃ s : ByteArray, e = .returned (.string s) ∧ s.size ≤ 1 ∧ Below w.heap.size w w' := by
  have h0 : ¬ (n : Int) < 0 := by omega
  have h1 : (n : Int) < 10 := by omega
  have hcv := conv_any (rd_one w (48 + n))
  rw [strOf_one, show ((48 + n : Nat) : Int) = 48 + (n : Int) by omega] at hcv
  have B0 : Hid (Below w.heap.size w (w.alloc (.cells #[.int .u8 (48 + (n : Int))] 5))) := (Below.refl _ _).alloc (Nat.le_refl _) _
  go_enter Tryz.func52, Tryz.ntmps52
  go_wp2
  go_ret
  exact ⟨_, rfl, by show _ ≤ 1; simp [ByteArray.size], B0.out⟩

set_option linter.unusedSimpArgs false in
set_option maxHeartbeats 4000000 in
set_option maxRecDepth 100000 in
theorem lwDec_two (w : World) (a d : Nat) (ha : a < 10) (ha1 : 1 ≤ a) (hd : d < 10) :
    Calls Tryz.prog 52 #[.int .i64 (10 * (a : Int) + (d : Int))] w fun e w' => ∃ s : ByteArray, e = .returned (.string s) ∧ s.size ≤ 64 ∧ Below w.heap.size w w' := by
  have h0 : ¬ 10 * (a : Int) + (d : Int) < 0 := by omega
  have h1 : ¬ 10 * (a : Int) + (d : Int) < 10 := by omega
  have hq : IntKind.i64.wrap ((10 * (a : Int) + (d : Int)).tdiv 10) = (a : Int) := by
    rw [Int.tdiv_eq_ediv_of_nonneg (by omega), IntKind.wrap_i64]
    omega
  have hr : (10 * (a : Int) + (d : Int)).tmod 10 = (d : Int) := by
    rw [Int.tmod_eq_emod_of_nonneg (by omega)]
    omega
  have hw1 : IntKind.i64.wrap (48 + (d : Int)) = 48 + (d : Int) := by
    rw [IntKind.wrap_i64]
    omega
  have hw2 : IntKind.u8.wrap (48 + (d : Int)) = 48 + (d : Int) := by
    rw [IntKind.wrap_u8]
    omega
  have HC := hd9 (fun W => lwDec_one W a ha)
  have hsn : (strOfNums [48 + (d : Int)]).size = 1 := by rw [strOfNums_size]; rfl
  go_enter Tryz.func52, Tryz.ntmps52
  go_wp2_with fail
  have B0 : Hid (Below w.heap.size w w.drew) := below_drewN' w 1
  refine wp_region_held_drew (S := fun _ => True) (by kernel_rfl) trivial (fun hHeld => ?_)
  generalize w.drew = m0 at *
  refine wpAnyH_take (i := 0) (oi := { dst := some 16, op := _, type := _, pos := _, after := _, guard := _ }) (v := (.int .i64 (10 * (a : Int) + (d : Int)))) rfl (by kernel_rfl) (by kernel_rfl) (by kernel_rfl) (fun _ _ _ h => h) (Or.inl ⟨by rfl, fun w9 hS9 => by (clear hS9; go_simp; try (first | with_reducible rfl | assumption))⟩) (by assumption) ?_
  try simp only [Act.put, List.setIfInBounds_toArray, List.set_cons_zero, List.set_cons_succ]
  refine wpAnyH_take (i := 1) (oi := { dst := some 17, op := _, type := _, pos := _, after := _, guard := _ }) (v := (.int .i64 (a : Int))) rfl (by kernel_rfl) (by kernel_rfl) (by kernel_rfl) (fun _ _ _ h => h) (Or.inl ⟨by rfl, fun w9 hS9 => by (clear hS9; go_simp; try (first | with_reducible rfl | assumption))⟩) (by assumption) ?_
  try simp only [Act.put, List.setIfInBounds_toArray, List.set_cons_zero, List.set_cons_succ]
  refine wpAnyH_take (i := 3) (oi := { dst := some 19, op := _, type := _, pos := _, after := _, guard := _ }) (v := (.int .i64 (10 * (a : Int) + (d : Int)))) rfl (by kernel_rfl) (by kernel_rfl) (by kernel_rfl) (fun _ _ _ h => h) (Or.inl ⟨by rfl, fun w9 hS9 => by (clear hS9; go_simp; try (first | with_reducible rfl | assumption))⟩) (by assumption) ?_
  try simp only [Act.put, List.setIfInBounds_toArray, List.set_cons_zero, List.set_cons_succ]
  refine wpAnyH_take (i := 4) (oi := { dst := some 20, op := _, type := _, pos := _, after := _, guard := _ }) (v := (.int .i64 (d : Int))) rfl (by kernel_rfl) (by kernel_rfl) (by kernel_rfl) (fun _ _ _ h => h) (Or.inl ⟨by rfl, fun w9 hS9 => by (clear hS9; go_simp; try (first | with_reducible rfl | assumption))⟩) (by assumption) ?_
  try simp only [Act.put, List.setIfInBounds_toArray, List.set_cons_zero, List.set_cons_succ]
  refine wpAnyH_take (i := 5) (oi := { dst := some 21, op := _, type := _, pos := _, after := _, guard := _ }) (v := (.int .i64 (48 + (d : Int)))) rfl (by kernel_rfl) (by kernel_rfl) (by kernel_rfl) (fun _ _ _ h => h) (Or.inl ⟨by rfl, fun w9 hS9 => by (clear hS9; go_simp; try (first | with_reducible rfl | assumption))⟩) (by assumption) ?_
  try simp only [Act.put, List.setIfInBounds_toArray, List.set_cons_zero, List.set_cons_succ]
  refine wpAnyH_take (i := 6) (oi := { dst := some 22, op := _, type := _, pos := _, after := _, guard := _ }) (v := (.int .u8 (48 + (d : Int)))) rfl (by kernel_rfl) (by kernel_rfl) (by kernel_rfl) (fun _ _ _ h => h) (Or.inl ⟨by rfl, fun w9 hS9 => by (clear hS9; go_simp; try (first | with_reducible rfl | assumption))⟩) (by assumption) ?_
  try simp only [Act.put, List.setIfInBounds_toArray, List.set_cons_zero, List.set_cons_succ]
  refine wpAnyH_ready (rs := [2, 7]) (by kernel_rfl) (by simp) ?_
  refine (AllReadyH.cons (o := { dst := some 18, op := _, type := _, pos := _, after := _, guard := _ }) rfl (fun K hK => ?_) (AllReadyH.cons (o := { dst := some 23, op := _, type := _, pos := _, after := _, guard := _ }) rfl (fun K hK => ?_) AllReadyH.nil))
  · go_simp
    refine (HC.out m0).mono ?_
    rintro e m1 ⟨s9, rfl, hs9, bN⟩
    replace B0 := hd9 (B0.out.trans (bN.mono B0.out.size))
    refine hK.out _ _ trivial (fun hx9 => ?_)
    clear hK K hx9 bN
    try simp only [Act.put, List.setIfInBounds_toArray, List.set_cons_zero, List.set_cons_succ]
    refine wpAnyH_ready (rs := [7]) (by kernel_rfl) (by simp) ?_
    refine (AllReadyH.cons (o := { dst := some 23, op := _, type := _, pos := _, after := _, guard := _ }) rfl (fun K hK => ?_) AllReadyH.nil)
    have bN : Below m1.heap.size m1 (m1.alloc (.cells #[.int .u8 (48 + (d : Int))] 5)) := (Below.refl _ _).alloc (Nat.le_refl _) _
    have R0' := rd_one m1 (48 + d)
    rw [show ((48 + d : Nat) : Int) = 48 + (d : Int) by omega] at R0'
    have R0 := hd9 R0'
    clear R0'
    replace B0 := hd9 (B0.out.trans (bN.mono B0.out.size))
    go_simp
    refine hK.out _ _ trivial (fun hx9 => ?_)
    clear hK K hx9 bN
    try simp only [Act.put, List.setIfInBounds_toArray, List.set_cons_zero, List.set_cons_succ]
    generalize m1.alloc (.cells #[.int .u8 (48 + (d : Int))] 5) = m2 at *
    generalize m1.heap.size = bb at *
    refine wpAnyH_ready (rs := [8]) (by kernel_rfl) (by simp) ?_
    refine (AllReadyH.cons (o := { dst := some 24, op := _, type := _, pos := _, after := _, guard := _ }) rfl (fun K hK => ?_) AllReadyH.nil)
    have hcv := conv_any R0.out
    go_simp
    refine hK.out _ _ trivial (fun hx9 => ?_)
    clear hK K hx9 hcv
    try simp only [Act.put, List.setIfInBounds_toArray, List.set_cons_zero, List.set_cons_succ]
    refine wpAnyH_take (i := 9) (oi := { dst := some 25, op := _, type := _, pos := _, after := _, guard := _ }) (v := (.string (s9 ++ strOfNums [48 + (d : Int)]))) rfl (by kernel_rfl) (by kernel_rfl) (by kernel_rfl) (fun _ _ _ h => h) (Or.inl ⟨by rfl, fun w9 hS9 => by (clear hS9; go_simp; try (first | with_reducible rfl | omega))⟩) (by assumption) ?_
    try simp only [Act.put, List.setIfInBounds_toArray, List.set_cons_zero, List.set_cons_succ]
    refine wpAnyH_take (i := 10) (oi := { dst := some 2, op := _, type := _, pos := _, after := _, guard := _ }) (v := (.string (s9 ++ strOfNums [48 + (d : Int)]))) rfl (by kernel_rfl) (by kernel_rfl) (by kernel_rfl) (fun _ _ _ h => h) (Or.inl ⟨by rfl, fun w9 hS9 => by (clear hS9; go_simp; try (first | with_reducible rfl | assumption))⟩) (by assumption) ?_
    try simp only [Act.put, List.setIfInBounds_toArray, List.set_cons_zero, List.set_cons_succ]
    refine wpAnyH_done (by kernel_rfl) ?_ _
    go_wp2
    go_ret
    refine ⟨_, rfl, ?_, B0.out⟩
    rw [ByteArray.size_append, hsn]
    omega
  · have bN : Below m0.heap.size m0 (m0.alloc (.cells #[.int .u8 (48 + (d : Int))] 5)) := (Below.refl _ _).alloc (Nat.le_refl _) _
    have R0' := rd_one m0 (48 + d)
    rw [show ((48 + d : Nat) : Int) = 48 + (d : Int) by omega] at R0'
    have R0 := hd9 R0'
    clear R0'
    replace B0 := hd9 (B0.out.trans (bN.mono B0.out.size))
    go_simp
    refine hK.out _ _ trivial (fun hx9 => ?_)
    clear hK K hx9 bN
    try simp only [Act.put, List.setIfInBounds_toArray, List.set_cons_zero, List.set_cons_succ]
    generalize m0.alloc (.cells #[.int .u8 (48 + (d : Int))] 5) = m4 at *
    generalize m0.heap.size = bb at *
    refine wpAnyH_ready (rs := [2, 8]) (by kernel_rfl) (by simp) ?_
    refine (AllReadyH.cons (o := { dst := some 18, op := _, type := _, pos := _, after := _, guard := _ }) rfl (fun K hK => ?_) (AllReadyH.cons (o := { dst := some 24, op := _, type := _, pos := _, after := _, guard := _ }) rfl (fun K hK => ?_) AllReadyH.nil))
    · go_simp
      refine (HC.out m4).mono ?_
      rintro e m5 ⟨s9, rfl, hs9, bN⟩
      replace B0 := hd9 (B0.out.trans (bN.mono B0.out.size))
      replace R0 := hd9 (R0.out.below bN)
      refine hK.out _ _ trivial (fun hx9 => ?_)
      clear hK K hx9 bN
      try simp only [Act.put, List.setIfInBounds_toArray, List.set_cons_zero, List.set_cons_succ]
      refine wpAnyH_ready (rs := [8]) (by kernel_rfl) (by simp) ?_
      refine (AllReadyH.cons (o := { dst := some 24, op := _, type := _, pos := _, after := _, guard := _ }) rfl (fun K hK => ?_) AllReadyH.nil)
      have hcv := conv_any R0.out
      go_simp
      refine hK.out _ _ trivial (fun hx9 => ?_)
      clear hK K hx9 hcv
      try simp only [Act.put, List.setIfInBounds_toArray, List.set_cons_zero, List.set_cons_succ]
      refine wpAnyH_take (i := 9) (oi := { dst := some 25, op := _, type := _, pos := _, after := _, guard := _ }) (v := (.string (s9 ++ strOfNums [48 + (d : Int)]))) rfl (by kernel_rfl) (by kernel_rfl) (by kernel_rfl) (fun _ _ _ h => h) (Or.inl ⟨by rfl, fun w9 hS9 => by (clear hS9; go_simp; try (first | with_reducible rfl | omega))⟩) (by assumption) ?_
      try simp only [Act.put, List.setIfInBounds_toArray, List.set_cons_zero, List.set_cons_succ]
      refine wpAnyH_take (i := 10) (oi := { dst := some 2, op := _, type := _, pos := _, after := _, guard := _ }) (v := (.string (s9 ++ strOfNums [48 + (d : Int)]))) rfl (by kernel_rfl) (by kernel_rfl) (by kernel_rfl) (fun _ _ _ h => h) (Or.inl ⟨by rfl, fun w9 hS9 => by (clear hS9; go_simp; try (first | with_reducible rfl | assumption))⟩) (by assumption) ?_
      try simp only [Act.put, List.setIfInBounds_toArray, List.set_cons_zero, List.set_cons_succ]
      refine wpAnyH_done (by kernel_rfl) ?_ _
      go_wp2
      go_ret
      refine ⟨_, rfl, ?_, B0.out⟩
      rw [ByteArray.size_append, hsn]
      omega
    · have hcv := conv_any R0.out
      go_simp
      refine hK.out _ _ trivial (fun hx9 => ?_)
      clear hK K hx9 hcv
      try simp only [Act.put, List.setIfInBounds_toArray, List.set_cons_zero, List.set_cons_succ]
      refine wpAnyH_ready (rs := [2]) (by kernel_rfl) (by simp) ?_
      refine (AllReadyH.cons (o := { dst := some 18, op := _, type := _, pos := _, after := _, guard := _ }) rfl (fun K hK => ?_) AllReadyH.nil)
      go_simp
      refine (HC.out m4).mono ?_
      rintro e m8 ⟨s9, rfl, hs9, bN⟩
      replace B0 := hd9 (B0.out.trans (bN.mono B0.out.size))
      refine hK.out _ _ trivial (fun hx9 => ?_)
      clear hK K hx9 bN
      try simp only [Act.put, List.setIfInBounds_toArray, List.set_cons_zero, List.set_cons_succ]
      refine wpAnyH_take (i := 9) (oi := { dst := some 25, op := _, type := _, pos := _, after := _, guard := _ }) (v := (.string (s9 ++ strOfNums [48 + (d : Int)]))) rfl (by kernel_rfl) (by kernel_rfl) (by kernel_rfl) (fun _ _ _ h => h) (Or.inl ⟨by rfl, fun w9 hS9 => by (clear hS9; go_simp; try (first | with_reducible rfl | omega))⟩) (by assumption) ?_
      try simp only [Act.put, List.setIfInBounds_toArray, List.set_cons_zero, List.set_cons_succ]
      refine wpAnyH_take (i := 10) (oi := { dst := some 2, op := _, type := _, pos := _, after := _, guard := _ }) (v := (.string (s9 ++ strOfNums [48 + (d : Int)]))) rfl (by kernel_rfl) (by kernel_rfl) (by kernel_rfl) (fun _ _ _ h => h) (Or.inl ⟨by rfl, fun w9 hS9 => by (clear hS9; go_simp; try (first | with_reducible rfl | assumption))⟩) (by assumption) ?_
      try simp only [Act.put, List.setIfInBounds_toArray, List.set_cons_zero, List.set_cons_succ]
      refine wpAnyH_done (by kernel_rfl) ?_ _
      go_wp2
      go_ret
      refine ⟨_, rfl, ?_, B0.out⟩
      rw [ByteArray.size_append, hsn]
      omega
theorem lwDec_any (w : World) (n : Nat) (hn : n < 100) :
    Calls Tryz.prog 52 #[.int .i64 (n : Int)] w fun e w' => ∃ s : ByteArray, e = .returned (.string s) ∧ s.size ≤ 64 ∧ Below w.heap.size w w' := by
  by_cases h : n < 10
  · exact (lwDec_one w n h).mono fun e w' ⟨s, h1, h2, h3⟩ => ⟨s, h1, by omega, h3⟩
  · have := lwDec_two w (n / 10) (n % 10) (by omega) (by omega) (by omega)
    rw [show 10 * ((n / 10 : Nat) : Int) + ((n % 10 : Nat) : Int) = (n : Int) by omega] at this
    exact this


/-- The path without the root's slash. -/
def preB (p : ByteArray) : ByteArray := if p.data.toList = [47] then ⟨#[]⟩ else p
end Go.Proofs.YtdiingonnddkcaaGreatDoor


