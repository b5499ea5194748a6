import Derived.Test.YtdiingonnddkcaaGreatDoorK09
import Derived.Test.YtdiingonnddkcaaGreatDoorK05
import Derived.Test.YtdiingonnddkcaaGreatDoorK06
import Derived.Test.YtdiingonnddkcaaGreatDoorK07
import Derived.Test.YtdiingonnddkcaaGreatDoorK08
namespace Go.Proofs.YtdiingonnddkcaaGreatDoor
open Go.RowKit Go.Shelf

/-- Is it the node with this path? -/
def isP (p : ByteArray) (n : Nd) : Bool := n.path.toList == p.toList
/-- Where the node with this path stands, or -1. -/
def fdV (ns : List Nd) (p : ByteArray) : Int := if ns.findIdx (isP p) < ns.length then ((ns.findIdx (isP p) : Nat) : Int) else -1
theorem fdV_at {ns : List Nd} {p : ByteArray} {k : Nat} (hk : k < ns.length) (h : isP p (nAt ns k) = true) (hn : ∀ i, i < k → isP p (nAt ns i) = false) : fdV ns p = (k : Int) := by
  have e : ns.findIdx (isP p) = k := by
    rw [List.findIdx_eq hk]
    refine ⟨by rw [← nAt_get hk]; exact h, fun j hj => ?_⟩
    have := hn j hj
    rwa [nAt_get (by omega)] at this
  unfold fdV
  rw [e, if_pos hk]
theorem fdV_none {ns : List Nd} {p : ByteArray} (hn : ∀ i, i < ns.length → isP p (nAt ns i) = false) : fdV ns p = -1 := by
  have e : ns.findIdx (isP p) = ns.length := by
    rw [List.findIdx_eq_length]
    intro x hx
    obtain ⟨i, hi, rfl⟩ := List.mem_iff_getElem.1 hx
    have := hn i hi
    rwa [nAt_get hi] at this
  unfold fdV
  rw [e, if_neg (Nat.lt_irrefl _)]

set_option maxHeartbeats 1000000 in
set_option maxRecDepth 100000 in
theorem l3Find_any (w : World) (v : Value) (ns : List Nd) (p : ByteArray) (h : RdN w v ns) (hn : ns.length ≤ 1000000) :
    Calls Tryz.prog 62 #[v, .string p] w fun e w' => e = .returned (.int .i64 (fdV ns p)) ∧ w' = w := by
  obtain ⟨ao, ca, rfl, _, _⟩ := h.len
  have HR : Hid (RdN w (.slice ao ns.length ca) ns) := h
  generalize hnn : ns.length = n at *
  have HP : Hid (ns.length = n) := hnn
  clear h hnn
  go_enter Tryz.func62, Tryz.ntmps62
  go_wp2
  go_loopw [5] (fun vk wr => ∃ k : Nat, k ≤ n ∧ vk = .int .i64 (k : Int) ∧ Hid (∀ i, i < k → isP p (nAt ns i) = false) ∧ wr = w) (fun i _ => n - (intOf i).toNat)
  case atStart => exact ⟨0, Nat.zero_le _, rfl, fun i hi => by omega, rfl⟩
  case round =>
    obtain ⟨k, hk, rfl, HN, rfl⟩ := hrel
    by_cases hlt : k < n
    · have hltI : (k : Int) < (n : Int) := by omega
      obtain ⟨b, o, hao, hb, hc⟩ : ∃ b o, ao = some ⟨b, o, none⟩ ∧ b < wr.heap.size ∧ CellsN wr b (o + k * 7) (nAt ns k) := by
        obtain ⟨ao', cap', e', -, -, h3⟩ := HR.out
        simp only [Value.slice.injEq] at e'
        obtain ⟨rfl, -, -⟩ := e'
        rcases h3 with h3 | ⟨b, o, rfl, hb, hc⟩
        · have := HP.out; rw [h3] at this; simp at this; omega
        · exact ⟨b, o, rfl, hb, hc k (by rw [HP.out]; exact hlt)⟩
      subst hao
      obtain ⟨c0, c1, c2, c3, c4, c5, c6⟩ := hc
      cases hA : ((nAt ns k).path.toList == p.toList) with
      | true =>
        have HF : Hid (fdV ns p = (k : Int)) := fdV_at (by rw [HP.out]; exact hlt) hA HN.out
        go_wp2
        go_ret
        exact ⟨by rw [HF.out]; rfl, rfl⟩
      | false =>
        have HN2 : Hid (∀ i, i < k + 1 → isP p (nAt ns i) = false) := by
          intro i hi
          by_cases e : i < k
          · exact HN.out i e
          · rw [show i = k by omega]; exact hA
        go_wp2
        exact ⟨⟨k + 1, by omega, by go_num, HN2, trivial⟩, by simp [intOf]; omega⟩
    · have hkn : k = n := by omega
      subst hkn
      have HF : Hid (fdV ns p = -1) := fdV_none (fun i hi => HN.out i (by rw [HP.out] at hi; exact hi))
      go_wp2
      go_ret
      exact ⟨by rw [HF.out]; rfl, rfl⟩


/-- One more, up to the greatest number. -/
def mor (v : Int) : Int := if v = 2147483647 then v else v + 1
/-- The nodes whose parent, if it is there, has lost or got a child. -/
def toN (ns : List Nd) (p : ByteArray) (z : Int) : List Nd :=
  if ns.findIdx (isP p) < ns.length then wiN ns { nAt ns (ns.findIdx (isP p)) with cver := mor (nAt ns (ns.findIdx (isP p))).cver, pz := z } else ns

/-- A row made since. -/
def New (w : World) (v : Value) : Prop := (∃ n c, v = .slice none n c) ∨ ∃ g n c, v = .slice (some ⟨g, 0, none⟩) n c ∧ w.heap.size ≤ g
def Fresh (w : World) (v v' : Value) : Prop := v' = v ∨ New w v'
theorem OwnN.new9 {e : TypeId} {w w' : World} {lo : Nat} {v : Value} {ns : List Nd} (h : OwnN e w' lo v ns) (hl : w.heap.size ≤ lo) : New w v := by
  rcases h.2 with ⟨rfl, -⟩ | ⟨g, cap, cur, rfl, hb, -⟩
  · exact .inl ⟨_, _, rfl⟩
  · exact .inr ⟨g, _, _, rfl, Nat.le_trans hl hb⟩
theorem Fresh.new {w w7 : World} {v7 v8 : Value} (f : Fresh w7 v7 v8) (h : New w v7) (hs : w.heap.size ≤ w7.heap.size) : New w v8 := by
  rcases f with rfl | f | ⟨g, n, c, rfl, hg⟩
  · exact h
  · exact .inl f
  · exact .inr ⟨g, n, c, rfl, Nat.le_trans hs hg⟩

set_option maxHeartbeats 1000000 in
set_option maxRecDepth 100000 in
theorem l3More_any (w : World) (x : Int) (h0 : -1 ≤ x) (h1 : x ≤ 2147483647) : Calls Tryz.prog 67 #[.int .i64 x] w fun e w' => e = .returned (.int .i64 (mor x)) ∧ w' = w := by
  by_cases e : x = 2147483647
  · subst e
    go_enter Tryz.func67, Tryz.ntmps67
    go_wp2
    go_ret
    exact ⟨rfl, rfl⟩
  · have hb : (x == 2147483647) = false := by simp [e]
    have HM : Hid (mor x = x + 1) := by show _ = _; unfold mor; rw [if_neg e]
    clear e
    go_enter Tryz.func67, Tryz.ntmps67
    go_wp2
    go_ret
    exact ⟨by rw [HM.out]; rfl, rfl⟩

set_option maxHeartbeats 1000000 in
set_option maxRecDepth 100000 in
theorem l3Touch_any (w : World) (v : Value) (ns : List Nd) (p : ByteArray) (z : Int) (h : RdN w v ns) (hn : ns.length ≤ 100000) (hok : ∀ k, k < ns.length → -1 ≤ (nAt ns k).cver ∧ (nAt ns k).cver ≤ 2147483647) :
    Calls Tryz.prog 65 #[v, .string p, .int .i64 z] w fun e w' => ∃ v', e = .returned v' ∧ RdN w' v' (toN ns p z) ∧ Fresh w v v' ∧ Below w.heap.size w w' := by
  obtain ⟨ao, ca, rfl, _, _⟩ := h.len
  have HR : Hid (RdN w (.slice ao ns.length ca) ns) := h
  have HO : Hid (∀ k, k < ns.length → -1 ≤ (nAt ns k).cver ∧ (nAt ns k).cver ≤ 2147483647) := hok
  clear h hok
  go_enter Tryz.func65, Tryz.ntmps65
  go_wp2_with fail
  refine (l3Find_any w _ ns p HR.out (by omega)).mono ?_
  rintro e w1 ⟨rfl, rfl⟩
  by_cases hf : ns.findIdx (isP p) < ns.length
  · have HT : Hid (toN ns p z = wiN ns { nAt ns (ns.findIdx (isP p)) with cver := mor (nAt ns (ns.findIdx (isP p))).cver, pz := z }) := by show _ = _; unfold toN; rw [if_pos hf]
    rw [show fdV ns p = ((ns.findIdx (isP p) : Nat) : Int) by unfold fdV; rw [if_pos hf]]
    generalize ns.findIdx (isP p) = k at *
    have hI : ¬ (k : Int) < 0 := by omega
    have hkI : (k : Int) < (ns.length : Int) := by omega
    obtain ⟨b, o, hao, hb, hc⟩ : ∃ b o, ao = some ⟨b, o, none⟩ ∧ b < w1.heap.size ∧ CellsN w1 b (o + k * 7) (nAt ns k) := by
      obtain ⟨ao', cap', e', -, -, h3⟩ := HR.out
      simp only [Value.slice.injEq] at e'
      obtain ⟨rfl, -, -⟩ := e'
      rcases h3 with h3 | ⟨b, o, rfl, hb, hc⟩
      · rw [h3] at hf; simp at hf
      · exact ⟨b, o, rfl, hb, hc k hf⟩
    subst hao
    obtain ⟨c0, c1, c2, c3, c4, c5, c6⟩ := hc
    have hcv : -1 ≤ (nAt ns k).cver ∧ (nAt ns k).cver ≤ 2147483647 := HO.out k hf
    generalize nAt ns k = m at *
    go_wp2_with fail
    refine (l3More_any _ m.cver hcv.1 hcv.2).mono ?_
    rintro e w2 ⟨rfl, rfl⟩
    go_wp2_with fail
    have ba : Below w1.heap.size w1 (w1.alloc (.cells #[.string m.path, .string m.data, .int .i64 m.ver, .int .i64 (mor m.cver), .int .i64 m.cz, .int .i64 m.mz, .int .i64 z] 42)) := (Below.refl _ _).alloc (Nat.le_refl _) _
    refine (with_any _ _ ns ⟨m.path, m.data, m.ver, mor m.cver, m.cz, m.mz, z⟩ (HR.out.below ba) (by omega)).mono ?_
    rintro e w3 ⟨v3, rfl, o3, b3⟩
    obtain ⟨a3, k3, hv3⟩ := o3.slice
    subst hv3
    have R3 : Hid (RdN w3 (.slice a3 (wiN ns ⟨m.path, m.data, m.ver, mor m.cver, m.cz, m.mz, z⟩).length k3) (toN ns p z)) := by rw [HT.out]; exact o3.rd
    have F3 : Hid (New w1 (.slice a3 (wiN ns ⟨m.path, m.data, m.ver, mor m.cver, m.cz, m.mz, z⟩).length k3)) := OwnN.new9 o3 (by simp)
    have B3 : Hid (Below w1.heap.size w1 w3) := ba.trans (b3.mono (by simp))
    clear o3 b3 ba HT c0 c1 c2 c3 c4 c5 c6
    go_wp2
    go_ret
    exact ⟨_, rfl, R3.out, .inr F3.out, B3.out⟩
  · have HT : Hid (toN ns p z = ns) := by show _ = _; unfold toN; rw [if_neg hf]
    rw [show fdV ns p = -1 by unfold fdV; rw [if_neg hf]]
    go_wp2
    go_ret
    exact ⟨_, rfl, by rw [HT.out]; exact HR.out, .inl rfl, Below.refl _ _⟩


/-- An operation. -/
structure Op5 where
  kind : Int
  path : ByteArray
  data : ByteArray
  ver : Int
  seq : Bool
def wfO (o : Op5) : Bool :=
  decide (1 ≤ o.kind) && decide (o.kind ≤ 4) && okPath o.path && decide (o.data.size ≤ 64) && (decide (o.kind = 1) || decide (o.kind = 3) || decide (o.data.size = 0)) &&
    (if o.kind = 1 then decide (o.ver = 0) && !(o.path.toList == [47]) else decide (-1 ≤ o.ver) && decide (o.ver ≤ 2147483647) && !o.seq && (!decide (o.kind = 2) || !(o.path.toList == [47])))

set_option maxHeartbeats 1000000 in
set_option maxRecDepth 100000 in
theorem l3Well_any (w : World) (o : Op5) (hp : o.path.size ≤ 1048576) (hd : o.data.size ≤ 1048576) :
    Calls Tryz.prog 60 #[.agg #[.int .i64 o.kind, .string o.path, .string o.data, .int .i64 o.ver, .bool o.seq]] w fun e w' => e = .returned (.bool (wfO o)) ∧ Below w.heap.size w w' := by
  obtain ⟨kind, path, data, ver, seq⟩ := o
  simp only at *
  have B0 : Hid (Below w.heap.size w (w.alloc (.cells #[.int .i64 kind, .string path, .string data, .int .i64 ver, .bool seq] 40))) := (Below.refl _ _).alloc (Nat.le_refl _) _
  by_cases h1 : kind < 1
  · have HW : Hid (wfO ⟨kind, path, data, ver, seq⟩ = false) := by show _ = _; unfold wfO; simp only [Bool.and_eq_false_iff, decide_eq_false_iff_not]; omega
    go_enter Tryz.func60, Tryz.ntmps60
    go_wp2
    go_ret
    exact ⟨by rw [HW.out]; rfl, B0.out⟩
  by_cases h4 : 4 < kind
  · have HW : Hid (wfO ⟨kind, path, data, ver, seq⟩ = false) := by show _ = _; unfold wfO; simp only [Bool.and_eq_false_iff, decide_eq_false_iff_not]; omega
    go_enter Tryz.func60, Tryz.ntmps60
    go_wp2
    go_ret
    exact ⟨by rw [HW.out]; rfl, B0.out⟩
  have C0 : Hid (∀ W, Below (w.alloc (.cells #[.int .i64 kind, .string path, .string data, .int .i64 ver, .bool seq] 40)).heap.size (w.alloc (.cells #[.int .i64 kind, .string path, .string data, .int .i64 ver, .bool seq] 40)) W → W.cell? ⟨w.heap.size, 0, none⟩ = some (.int .i64 kind) ∧ W.cell? ⟨w.heap.size, 1, none⟩ = some (.string path) ∧ W.cell? ⟨w.heap.size, 2, none⟩ = some (.string data) ∧ W.cell? ⟨w.heap.size, 3, none⟩ = some (.int .i64 ver) ∧ W.cell? ⟨w.heap.size, 4, none⟩ = some (.bool seq)) := by
    intro W hW
    have hl : w.heap.size < (w.alloc (.cells #[.int .i64 kind, .string path, .string data, .int .i64 ver, .bool seq] 40)).heap.size := by simp
    refine ⟨(hW.cell (p := ⟨w.heap.size, 0, none⟩) hl).trans (by go_simp), (hW.cell (p := ⟨w.heap.size, 1, none⟩) hl).trans (by go_simp), (hW.cell (p := ⟨w.heap.size, 2, none⟩) hl).trans (by go_simp), (hW.cell (p := ⟨w.heap.size, 3, none⟩) hl).trans (by go_simp), (hW.cell (p := ⟨w.heap.size, 4, none⟩) hl).trans (by go_simp)⟩
  go_enter Tryz.func60, Tryz.ntmps60
  go_wp2_with fail
  refine (specPath_any _ path hp).mono ?_
  rintro e w1 ⟨rfl, b1⟩
  obtain ⟨c0, c1, c2, c3, c4⟩ := C0.out w1 b1
  have B1 : Hid (Below w.heap.size w w1) := B0.out.trans (b1.mono (by simp))
  clear b1 C0 B0
  cases hpk : okPath path with
  | false =>
    have HW : Hid (wfO ⟨kind, path, data, ver, seq⟩ = false) := by show _ = _; unfold wfO; simp [hpk]
    go_wp2
    go_ret
    exact ⟨by rw [HW.out]; rfl, B1.out⟩
  | true =>
    have HPK : Hid (okPath path = true) := hpk
    clear hpk
    by_cases hds : 64 < data.size
    · have HW : Hid (wfO ⟨kind, path, data, ver, seq⟩ = false) := by show _ = _; unfold wfO; simp; omega
      have hdI : (64 : Int) < (data.size : Int) := by omega
      go_wp2
      go_ret
      exact ⟨by rw [HW.out]; rfl, B1.out⟩
    have hdI : ¬ (64 : Int) < (data.size : Int) := by omega
    have hk : kind = 1 ∨ kind = 2 ∨ kind = 3 ∨ kind = 4 := by omega
    clear h1 h4
    have hds' : data.size ≤ 64 := by omega
    have HDE : Hid ((data.toList == []) = decide (data.size = 0)) := by
      show _ = _
      have e : data.size = data.data.toList.length := by rw [Array.length_toList]; rfl
      rw [ByteArray.toList_eq, e]
      cases data.data.toList <;> simp
    rcases hk with rfl | rfl | rfl | rfl
    all_goals
      cases hps : (path.toList == [47]) <;> cases hdd : (data.toList == []) <;> go_wp2
    all_goals
      go_ret
      refine ⟨ret_b ?_, B1.out⟩
      have hpk := HPK.out
      have hde := HDE.out
      rw [hdd] at hde
      unfold wfO
      simp only [hpk, hps]
      simp_all <;> (intros; omega)

end Go.Proofs.YtdiingonnddkcaaGreatDoor
namespace Go.Proofs.YtdiingonnddkcaaGreatDoor
open Go.RowKit

/-- The version that is asked for. -/
def Sr.vers (s : Sr) : Int × Sr := if (s.next 3).1 = 0 then ((((s.next 3).2.next 3).1 : Int), ((s.next 3).2.next 3).2) else (-1, (s.next 3).2)
/-- A drawn operation. -/
def Sr.op (s : Sr) (ns : List Nd) : Op5 × Sr :=
  if (s.next 12).1 < 5 then (⟨1, ((s.next 12).2.near ns).1, ((s.next 12).2.near ns).2.data.1, 0, (((s.next 12).2.near ns).2.data.2.next 4).1 == 0⟩, (((s.next 12).2.near ns).2.data.2.next 4).2)
  else if (s.next 12).1 < 7 then (⟨2, ((s.next 12).2.vers.2.near ns).1, ⟨#[]⟩, (s.next 12).2.vers.1, false⟩, ((s.next 12).2.vers.2.near ns).2)
  else if (s.next 12).1 < 10 then (⟨3, ((s.next 12).2.vers.2.near ns).1, ((s.next 12).2.vers.2.near ns).2.data.1, (s.next 12).2.vers.1, false⟩, ((s.next 12).2.vers.2.near ns).2.data.2)
  else (⟨4, ((s.next 12).2.vers.2.near ns).1, ⟨#[]⟩, (s.next 12).2.vers.1, false⟩, ((s.next 12).2.vers.2.near ns).2)

/-- What a drawing of an operation holds besides its source. -/
def NbO (W : World) (v : Value) (w : World) : Prop :=
  w.cell? ⟨W.heap.size, 0, none⟩ = some v ∧ w.cell? ⟨W.heap.size + 1, 0, none⟩ = some (.int .i64 0) ∧ w.cell? ⟨W.heap.size + 1, 1, none⟩ = some (.string ⟨#[]⟩) ∧ w.cell? ⟨W.heap.size + 1, 2, none⟩ = some (.string ⟨#[]⟩) ∧ w.cell? ⟨W.heap.size + 1, 3, none⟩ = some (.int .i64 0) ∧ w.cell? ⟨W.heap.size + 1, 4, none⟩ = some (.bool false) ∧ (∀ j, w.frozen? ⟨W.heap.size + 1, j, none⟩ = false) ∧ W.heap.size + 2 ≤ w.heap.size
theorem NbO.tch {W w w' : World} {v : Value} {k : Nat} (h : NbO W v w) (t : Tch k w w') (hk : k < W.heap.size) : NbO W v w' := by
  obtain ⟨h0, h1, h2, h3, h4, h5, hf, hs⟩ := h
  have a := t.2 W.heap.size (by omega) (by omega)
  have b := t.2 (W.heap.size + 1) (by omega) (by omega)
  exact ⟨(World.cell?_of_block (w := w) (a := ⟨W.heap.size, 0, none⟩) a).trans h0, (World.cell?_of_block (w := w) (a := ⟨W.heap.size + 1, 0, none⟩) b).trans h1, (World.cell?_of_block (w := w) (a := ⟨W.heap.size + 1, 1, none⟩) b).trans h2, (World.cell?_of_block (w := w) (a := ⟨W.heap.size + 1, 2, none⟩) b).trans h3, (World.cell?_of_block (w := w) (a := ⟨W.heap.size + 1, 3, none⟩) b).trans h4, (World.cell?_of_block (w := w) (a := ⟨W.heap.size + 1, 4, none⟩) b).trans h5, fun j => (World.frozen?_of_block (w := w) b).trans (hf j), Nat.le_trans hs t.size⟩
theorem NbO.new (W : World) (v : Value) (t1 t2 : TypeId) : NbO W v ((W.alloc (.cells #[v] t1)).alloc (.cells #[.int .i64 0, .string ⟨#[]⟩, .string ⟨#[]⟩, .int .i64 0, .bool false] t2)) := by
  have e : (W.alloc (.cells #[v] t1)).heap.size = W.heap.size + 1 := by simp
  have h1 : ((W.alloc (.cells #[v] t1)).alloc (.cells #[.int .i64 0, .string ⟨#[]⟩, .string ⟨#[]⟩, .int .i64 0, .bool false] t2)).heap[W.heap.size + 1]? = some (.cells #[.int .i64 0, .string ⟨#[]⟩, .string ⟨#[]⟩, .int .i64 0, .bool false] t2) := by
    rw [← e]; exact heap_alloc_new _ _
  refine ⟨by go_simp, (cell_of h1 _).trans rfl, (cell_of h1 _).trans rfl, (cell_of h1 _).trans rfl, (cell_of h1 _).trans rfl, (cell_of h1 _).trans rfl, fun j => by go_simp, by simp⟩

set_option maxHeartbeats 4000000 in
set_option maxRecDepth 100000 in
theorem op_k (W : World) (k B : Nat) (s : Sr) (v : Value) (ns : List Nd) (h : SRX W k B s) (ho : RdN W v ns) (hlo : OffK k v) (hn : ns.length ≤ 1000000) (hps : ∀ i, i < ns.length → (nAt ns i).path.size ≤ 1000) :
    Calls Tryz.prog 55 #[.pointer (some ⟨k, 0, none⟩), .agg #[v]] W fun e w' => e = .returned (.agg #[.int .i64 (s.op ns).1.kind, .string (s.op ns).1.path, .string (s.op ns).1.data, .int .i64 (s.op ns).1.ver, .bool (s.op ns).1.seq]) ∧ SRX w' k B (s.op ns).2 ∧ Tch k W w' := by
  have hk1 := h.kB
  have hk2 := h.lt
  have B0 : Hid (Below W.heap.size W ((W.alloc (.cells #[v] 25)).alloc (.cells #[.int .i64 0, .string ⟨#[]⟩, .string ⟨#[]⟩, .int .i64 0, .bool false] 40))) := ((Below.refl _ _).alloc (Nat.le_refl _) _).alloc (by simp) _
  have S0 : Hid (SRX ((W.alloc (.cells #[v] 25)).alloc (.cells #[.int .i64 0, .string ⟨#[]⟩, .string ⟨#[]⟩, .int .i64 0, .bool false] 40)) k B s) := h.keep (B0.out.mono hk2)
  have T0 : Hid (Tch k W ((W.alloc (.cells #[v] 25)).alloc (.cells #[.int .i64 0, .string ⟨#[]⟩, .string ⟨#[]⟩, .int .i64 0, .bool false] 40))) := Tch.of B0.out
  have X0 : Hid (NbO W v ((W.alloc (.cells #[v] 25)).alloc (.cells #[.int .i64 0, .string ⟨#[]⟩, .string ⟨#[]⟩, .int .i64 0, .bool false] 40))) := NbO.new _ _ _ _
  have HO : Hid (RdN W v ns) := ho
  obtain ⟨av, cv, rfl⟩ : ∃ a c, v = .slice a ns.length c := by
    obtain ⟨a, c, h0, _⟩ := ho.len
    exact ⟨a, c, h0⟩
  have HLO : Hid (OffK k (.slice av ns.length cv)) := hlo
  have HPS : Hid (∀ i, i < ns.length → (nAt ns i).path.size ≤ 1000) := hps
  -- a box's end: what is stored, what is left
  have HEND : Hid (∀ (w' : World) (o : Op5) (q : Sr), SRX w' k B q → Tch k W w' → SRX (((((w'.setCell ⟨W.heap.size + 1, 0, none⟩ (.int .i64 o.kind)).setCell ⟨W.heap.size + 1, 1, none⟩ (.string o.path)).setCell ⟨W.heap.size + 1, 2, none⟩ (.string o.data)).setCell ⟨W.heap.size + 1, 3, none⟩ (.int .i64 o.ver)).setCell ⟨W.heap.size + 1, 4, none⟩ (.bool o.seq)) k B q ∧ Tch k W (((((w'.setCell ⟨W.heap.size + 1, 0, none⟩ (.int .i64 o.kind)).setCell ⟨W.heap.size + 1, 1, none⟩ (.string o.path)).setCell ⟨W.heap.size + 1, 2, none⟩ (.string o.data)).setCell ⟨W.heap.size + 1, 3, none⟩ (.int .i64 o.ver)).setCell ⟨W.heap.size + 1, 4, none⟩ (.bool o.seq))) := by
    intro w' o q hs ht
    have bS : Below W.heap.size w' (((((w'.setCell ⟨W.heap.size + 1, 0, none⟩ (.int .i64 o.kind)).setCell ⟨W.heap.size + 1, 1, none⟩ (.string o.path)).setCell ⟨W.heap.size + 1, 2, none⟩ (.string o.data)).setCell ⟨W.heap.size + 1, 3, none⟩ (.int .i64 o.ver)).setCell ⟨W.heap.size + 1, 4, none⟩ (.bool o.seq)) := by
      repeat (first | exact Below.refl _ _ | refine Below.setCell ?_ (by simp) _)
    exact ⟨hs.keep (bS.mono hk2), ht.then bS⟩
  obtain ⟨res, hres⟩ : ∃ res, res = s.op ns := ⟨_, rfl⟩
  have HR : Hid (s.op ns = res) := hres.symm
  rw [← hres]
  have hkW : k < W.heap.size := by omega
  clear h hres ho hps hlo
  unfold Sr.op at HR
  go_enter Tryz.func55, Tryz.ntmps55
  go_wp2_with fail
  generalize (W.alloc (.cells #[.slice av ns.length cv] 25)).alloc (.cells #[.int .i64 0, .string ⟨#[]⟩, .string ⟨#[]⟩, .int .i64 0, .bool false] 40) = w0 at *
  refine (next_x _ k B 12 s S0.out (by omega)).mono ?_
  rintro e w1 ⟨rfl, s1, t1⟩
  have hn1 := s.next_lt 12 (by omega)
  generalize (s.next 12).2 = r1 at *
  generalize (s.next 12).1 = n1 at *
  have S1 : Hid (SRX w1 k B r1) := s1
  have T1 : Hid (Tch k W w1) := T0.out.trans t1
  have X1 : Hid (NbO W (.slice av ns.length cv) w1) := X0.out.tch t1 hkW
  clear s1 t1 S0 T0 X0 B0
  by_cases h5 : n1 < 5
  · rw [if_pos h5] at HR
    have h5I : (n1 : Int) < 5 := by omega
    have x0 := X1.out.1
    go_wp2_with fail
    clear x0
    refine (near_k _ k B r1 _ ns S1.out (HO.out.tchK HLO.out T1.out) HLO.out hn HPS.out).mono ?_
    rintro e w2 ⟨rfl, s2, t2⟩
    generalize r1.near ns = p at *
    have S2 : Hid (SRX w2 k B p.2) := s2
    have T2 : Hid (Tch k W w2) := T1.out.trans t2
    have X2 : Hid (NbO W (.slice av ns.length cv) w2) := X1.out.tch t2 hkW
    clear s2 t2 S1 T1 X1
    go_wp2_with fail
    refine (data_x _ k B p.2 S2.out).mono ?_
    rintro e w3 ⟨rfl, s3, t3⟩
    generalize p.2.data = d at *
    have S3 : Hid (SRX w3 k B d.2) := s3
    have T3 : Hid (Tch k W w3) := T2.out.trans t3
    have X3 : Hid (NbO W (.slice av ns.length cv) w3) := X2.out.tch t3 hkW
    clear s3 t3 S2 T2 X2
    go_wp2_with fail
    refine (next_x _ k B 4 d.2 S3.out (by omega)).mono ?_
    rintro e w4 ⟨rfl, s4, t4⟩
    have hn4 := d.2.next_lt 4 (by omega)
    have F := fun o => HEND.out w4 o _ s4 (T3.out.trans t4)
    generalize (d.2.next 4).2 = r4 at *
    generalize (d.2.next 4).1 = n4 at *
    have X4 : Hid (NbO W (.slice av ns.length cv) w4) := X3.out.tch t4 hkW
    have HF : Hid (∀ o : Op5, SRX (((((w4.setCell ⟨W.heap.size + 1, 0, none⟩ (.int .i64 o.kind)).setCell ⟨W.heap.size + 1, 1, none⟩ (.string o.path)).setCell ⟨W.heap.size + 1, 2, none⟩ (.string o.data)).setCell ⟨W.heap.size + 1, 3, none⟩ (.int .i64 o.ver)).setCell ⟨W.heap.size + 1, 4, none⟩ (.bool o.seq)) k B r4 ∧ Tch k W (((((w4.setCell ⟨W.heap.size + 1, 0, none⟩ (.int .i64 o.kind)).setCell ⟨W.heap.size + 1, 1, none⟩ (.string o.path)).setCell ⟨W.heap.size + 1, 2, none⟩ (.string o.data)).setCell ⟨W.heap.size + 1, 3, none⟩ (.int .i64 o.ver)).setCell ⟨W.heap.size + 1, 4, none⟩ (.bool o.seq))) := F
    clear F s4 t4 S3 T3 X3
    have e4 : ((n4 : Int) == 0) = (n4 == 0) := by
      rw [Bool.eq_iff_iff, beq_iff_eq, beq_iff_eq]; omega
    obtain ⟨-, d0, d1, d2, d3, d4, df, dz⟩ := X4.out
    have f0 := df 0
    have f1 := df 1
    have f2 := df 2
    have f3 := df 3
    have f4 := df 4
    clear df
    go_wp2
    rw [← HR.out]
    exact bodyPost_ret (v := .agg #[.int .i64 (1), .string p.1, .string d.1, .int .i64 (0), .bool (n4 == 0)]) (by simp [results, Tryz.results55, go_sem, d0, d1, d2, d3, d4]) rfl ⟨rfl, HF.out ⟨1, p.1, d.1, 0, n4 == 0⟩⟩
  · rw [if_neg h5] at HR
    have h5I : ¬ (n1 : Int) < 5 := by omega
    go_wp2_with fail
    refine (next_x _ k B 3 r1 S1.out (by omega)).mono ?_
    rintro e w2 ⟨rfl, s2, t2⟩
    have hn2 := r1.next_lt 3 (by omega)
    unfold Sr.vers at HR
    generalize (r1.next 3).2 = r2 at *
    generalize (r1.next 3).1 = n2 at *
    have S2 : Hid (SRX w2 k B r2) := s2
    have T2 : Hid (Tch k W w2) := T1.out.trans t2
    have X2 : Hid (NbO W (.slice av ns.length cv) w2) := X1.out.tch t2 hkW
    clear s2 t2 S1 T1 X1
    by_cases h0 : n2 = 0
    · subst h0
      simp only [if_true] at HR
      go_wp2_with fail
      refine (next_x _ k B 3 r2 S2.out (by omega)).mono ?_
      rintro e w3 ⟨rfl, s3, t3⟩
      have hn3 := r2.next_lt 3 (by omega)
      generalize (r2.next 3).2 = r3 at *
      generalize (r2.next 3).1 = n3 at *
      have S3 : Hid (SRX w3 k B r3) := s3
      have T3 : Hid (Tch k W w3) := T2.out.trans t3
      have X3 : Hid (NbO W (.slice av ns.length cv) w3) := X2.out.tch t3 hkW
      clear s3 t3 S2 T2 X2
      by_cases h7 : n1 < 7
      · rw [if_pos h7] at HR
        have h7I : (n1 : Int) < 7 := by omega
        have x0 := X3.out.1
        go_wp2_with fail
        clear x0
        refine (near_k _ k B r3 _ ns S3.out (HO.out.tchK HLO.out T3.out) HLO.out hn HPS.out).mono ?_
        rintro e w4 ⟨rfl, s4, t4⟩
        generalize r3.near ns = p at *
        have S4 : Hid (SRX w4 k B p.2) := s4
        have T4 : Hid (Tch k W w4) := T3.out.trans t4
        have X4 : Hid (NbO W (.slice av ns.length cv) w4) := X3.out.tch t4 hkW
        clear s4 t4 S3 T3 X3
        have HF : Hid (∀ o : Op5, SRX (((((w4.setCell ⟨W.heap.size + 1, 0, none⟩ (.int .i64 o.kind)).setCell ⟨W.heap.size + 1, 1, none⟩ (.string o.path)).setCell ⟨W.heap.size + 1, 2, none⟩ (.string o.data)).setCell ⟨W.heap.size + 1, 3, none⟩ (.int .i64 o.ver)).setCell ⟨W.heap.size + 1, 4, none⟩ (.bool o.seq)) k B p.2 ∧ Tch k W (((((w4.setCell ⟨W.heap.size + 1, 0, none⟩ (.int .i64 o.kind)).setCell ⟨W.heap.size + 1, 1, none⟩ (.string o.path)).setCell ⟨W.heap.size + 1, 2, none⟩ (.string o.data)).setCell ⟨W.heap.size + 1, 3, none⟩ (.int .i64 o.ver)).setCell ⟨W.heap.size + 1, 4, none⟩ (.bool o.seq))) := fun o => HEND.out w4 o _ S4.out T4.out
        obtain ⟨-, d0, d1, d2, d3, d4, df, dz⟩ := X4.out
        have f0 := df 0
        have f1 := df 1
        have f2 := df 2
        have f3 := df 3
        have f4 := df 4
        clear df
        clear S4 T4 X4 HEND
        go_wp2
        rw [← HR.out]
        exact bodyPost_ret (v := .agg #[.int .i64 (2), .string p.1, .string ⟨#[]⟩, .int .i64 ((n3 : Int)), .bool (false)]) (by simp [results, Tryz.results55, go_sem, d0, d1, d2, d3, d4]) rfl ⟨rfl, HF.out ⟨2, p.1, ⟨#[]⟩, (n3 : Int), false⟩⟩
      rw [if_neg h7] at HR
      have h7I : ¬ (n1 : Int) < 7 := by omega
      by_cases h10 : n1 < 10
      · rw [if_pos h10] at HR
        have h10I : (n1 : Int) < 10 := by omega
        have x0 := X3.out.1
        go_wp2_with fail
        clear x0
        refine (near_k _ k B r3 _ ns S3.out (HO.out.tchK HLO.out T3.out) HLO.out hn HPS.out).mono ?_
        rintro e w4 ⟨rfl, s4, t4⟩
        generalize r3.near ns = p at *
        have S4 : Hid (SRX w4 k B p.2) := s4
        have T4 : Hid (Tch k W w4) := T3.out.trans t4
        have X4 : Hid (NbO W (.slice av ns.length cv) w4) := X3.out.tch t4 hkW
        clear s4 t4 S3 T3 X3
        go_wp2_with fail
        refine (data_x _ k B p.2 S4.out).mono ?_
        rintro e w5 ⟨rfl, s5, t5⟩
        generalize p.2.data = d at *
        have S5 : Hid (SRX w5 k B d.2) := s5
        have T5 : Hid (Tch k W w5) := T4.out.trans t5
        have X5 : Hid (NbO W (.slice av ns.length cv) w5) := X4.out.tch t5 hkW
        clear s5 t5 S4 T4 X4
        have HF : Hid (∀ o : Op5, SRX (((((w5.setCell ⟨W.heap.size + 1, 0, none⟩ (.int .i64 o.kind)).setCell ⟨W.heap.size + 1, 1, none⟩ (.string o.path)).setCell ⟨W.heap.size + 1, 2, none⟩ (.string o.data)).setCell ⟨W.heap.size + 1, 3, none⟩ (.int .i64 o.ver)).setCell ⟨W.heap.size + 1, 4, none⟩ (.bool o.seq)) k B d.2 ∧ Tch k W (((((w5.setCell ⟨W.heap.size + 1, 0, none⟩ (.int .i64 o.kind)).setCell ⟨W.heap.size + 1, 1, none⟩ (.string o.path)).setCell ⟨W.heap.size + 1, 2, none⟩ (.string o.data)).setCell ⟨W.heap.size + 1, 3, none⟩ (.int .i64 o.ver)).setCell ⟨W.heap.size + 1, 4, none⟩ (.bool o.seq))) := fun o => HEND.out w5 o _ S5.out T5.out
        obtain ⟨-, d0, d1, d2, d3, d4, df, dz⟩ := X5.out
        have f0 := df 0
        have f1 := df 1
        have f2 := df 2
        have f3 := df 3
        have f4 := df 4
        clear df
        clear S5 T5 X5 HEND
        go_wp2
        rw [← HR.out]
        exact bodyPost_ret (v := .agg #[.int .i64 (3), .string p.1, .string d.1, .int .i64 ((n3 : Int)), .bool (false)]) (by simp [results, Tryz.results55, go_sem, d0, d1, d2, d3, d4]) rfl ⟨rfl, HF.out ⟨3, p.1, d.1, (n3 : Int), false⟩⟩
      rw [if_neg h10] at HR
      have h10I : ¬ (n1 : Int) < 10 := by omega
      have x0 := X3.out.1
      go_wp2_with fail
      clear x0
      refine (near_k _ k B r3 _ ns S3.out (HO.out.tchK HLO.out T3.out) HLO.out hn HPS.out).mono ?_
      rintro e w4 ⟨rfl, s4, t4⟩
      generalize r3.near ns = p at *
      have S4 : Hid (SRX w4 k B p.2) := s4
      have T4 : Hid (Tch k W w4) := T3.out.trans t4
      have X4 : Hid (NbO W (.slice av ns.length cv) w4) := X3.out.tch t4 hkW
      clear s4 t4 S3 T3 X3
      have HF : Hid (∀ o : Op5, SRX (((((w4.setCell ⟨W.heap.size + 1, 0, none⟩ (.int .i64 o.kind)).setCell ⟨W.heap.size + 1, 1, none⟩ (.string o.path)).setCell ⟨W.heap.size + 1, 2, none⟩ (.string o.data)).setCell ⟨W.heap.size + 1, 3, none⟩ (.int .i64 o.ver)).setCell ⟨W.heap.size + 1, 4, none⟩ (.bool o.seq)) k B p.2 ∧ Tch k W (((((w4.setCell ⟨W.heap.size + 1, 0, none⟩ (.int .i64 o.kind)).setCell ⟨W.heap.size + 1, 1, none⟩ (.string o.path)).setCell ⟨W.heap.size + 1, 2, none⟩ (.string o.data)).setCell ⟨W.heap.size + 1, 3, none⟩ (.int .i64 o.ver)).setCell ⟨W.heap.size + 1, 4, none⟩ (.bool o.seq))) := fun o => HEND.out w4 o _ S4.out T4.out
      obtain ⟨-, d0, d1, d2, d3, d4, df, dz⟩ := X4.out
      have f0 := df 0
      have f1 := df 1
      have f2 := df 2
      have f3 := df 3
      have f4 := df 4
      clear df
      clear S4 T4 X4 HEND
      go_wp2
      rw [← HR.out]
      exact bodyPost_ret (v := .agg #[.int .i64 (4), .string p.1, .string ⟨#[]⟩, .int .i64 ((n3 : Int)), .bool (false)]) (by simp [results, Tryz.results55, go_sem, d0, d1, d2, d3, d4]) rfl ⟨rfl, HF.out ⟨4, p.1, ⟨#[]⟩, (n3 : Int), false⟩⟩
    · rw [if_neg h0] at HR
      have h0b : ((n2 : Int) == 0) = false := beq_eq_false_iff_ne.2 (by omega)
      by_cases h7 : n1 < 7
      · rw [if_pos h7] at HR
        have h7I : (n1 : Int) < 7 := by omega
        have x0 := X2.out.1
        go_wp2_with fail
        clear x0
        refine (near_k _ k B r2 _ ns S2.out (HO.out.tchK HLO.out T2.out) HLO.out hn HPS.out).mono ?_
        rintro e w3 ⟨rfl, s3, t3⟩
        generalize r2.near ns = p at *
        have S3 : Hid (SRX w3 k B p.2) := s3
        have T3 : Hid (Tch k W w3) := T2.out.trans t3
        have X3 : Hid (NbO W (.slice av ns.length cv) w3) := X2.out.tch t3 hkW
        clear s3 t3 S2 T2 X2
        have HF : Hid (∀ o : Op5, SRX (((((w3.setCell ⟨W.heap.size + 1, 0, none⟩ (.int .i64 o.kind)).setCell ⟨W.heap.size + 1, 1, none⟩ (.string o.path)).setCell ⟨W.heap.size + 1, 2, none⟩ (.string o.data)).setCell ⟨W.heap.size + 1, 3, none⟩ (.int .i64 o.ver)).setCell ⟨W.heap.size + 1, 4, none⟩ (.bool o.seq)) k B p.2 ∧ Tch k W (((((w3.setCell ⟨W.heap.size + 1, 0, none⟩ (.int .i64 o.kind)).setCell ⟨W.heap.size + 1, 1, none⟩ (.string o.path)).setCell ⟨W.heap.size + 1, 2, none⟩ (.string o.data)).setCell ⟨W.heap.size + 1, 3, none⟩ (.int .i64 o.ver)).setCell ⟨W.heap.size + 1, 4, none⟩ (.bool o.seq))) := fun o => HEND.out w3 o _ S3.out T3.out
        obtain ⟨-, d0, d1, d2, d3, d4, df, dz⟩ := X3.out
        have f0 := df 0
        have f1 := df 1
        have f2 := df 2
        have f3 := df 3
        have f4 := df 4
        clear df
        clear S3 T3 X3 HEND
        go_wp2
        rw [← HR.out]
        exact bodyPost_ret (v := .agg #[.int .i64 (2), .string p.1, .string ⟨#[]⟩, .int .i64 (-1), .bool (false)]) (by simp [results, Tryz.results55, go_sem, d0, d1, d2, d3, d4]) rfl ⟨rfl, HF.out ⟨2, p.1, ⟨#[]⟩, -1, false⟩⟩
      rw [if_neg h7] at HR
      have h7I : ¬ (n1 : Int) < 7 := by omega
      by_cases h10 : n1 < 10
      · rw [if_pos h10] at HR
        have h10I : (n1 : Int) < 10 := by omega
        have x0 := X2.out.1
        go_wp2_with fail
        clear x0
        refine (near_k _ k B r2 _ ns S2.out (HO.out.tchK HLO.out T2.out) HLO.out hn HPS.out).mono ?_
        rintro e w3 ⟨rfl, s3, t3⟩
        generalize r2.near ns = p at *
        have S3 : Hid (SRX w3 k B p.2) := s3
        have T3 : Hid (Tch k W w3) := T2.out.trans t3
        have X3 : Hid (NbO W (.slice av ns.length cv) w3) := X2.out.tch t3 hkW
        clear s3 t3 S2 T2 X2
        go_wp2_with fail
        refine (data_x _ k B p.2 S3.out).mono ?_
        rintro e w4 ⟨rfl, s4, t4⟩
        generalize p.2.data = d at *
        have S4 : Hid (SRX w4 k B d.2) := s4
        have T4 : Hid (Tch k W w4) := T3.out.trans t4
        have X4 : Hid (NbO W (.slice av ns.length cv) w4) := X3.out.tch t4 hkW
        clear s4 t4 S3 T3 X3
        have HF : Hid (∀ o : Op5, SRX (((((w4.setCell ⟨W.heap.size + 1, 0, none⟩ (.int .i64 o.kind)).setCell ⟨W.heap.size + 1, 1, none⟩ (.string o.path)).setCell ⟨W.heap.size + 1, 2, none⟩ (.string o.data)).setCell ⟨W.heap.size + 1, 3, none⟩ (.int .i64 o.ver)).setCell ⟨W.heap.size + 1, 4, none⟩ (.bool o.seq)) k B d.2 ∧ Tch k W (((((w4.setCell ⟨W.heap.size + 1, 0, none⟩ (.int .i64 o.kind)).setCell ⟨W.heap.size + 1, 1, none⟩ (.string o.path)).setCell ⟨W.heap.size + 1, 2, none⟩ (.string o.data)).setCell ⟨W.heap.size + 1, 3, none⟩ (.int .i64 o.ver)).setCell ⟨W.heap.size + 1, 4, none⟩ (.bool o.seq))) := fun o => HEND.out w4 o _ S4.out T4.out
        obtain ⟨-, d0, d1, d2, d3, d4, df, dz⟩ := X4.out
        have f0 := df 0
        have f1 := df 1
        have f2 := df 2
        have f3 := df 3
        have f4 := df 4
        clear df
        clear S4 T4 X4 HEND
        go_wp2
        rw [← HR.out]
        exact bodyPost_ret (v := .agg #[.int .i64 (3), .string p.1, .string d.1, .int .i64 (-1), .bool (false)]) (by simp [results, Tryz.results55, go_sem, d0, d1, d2, d3, d4]) rfl ⟨rfl, HF.out ⟨3, p.1, d.1, -1, false⟩⟩
      rw [if_neg h10] at HR
      have h10I : ¬ (n1 : Int) < 10 := by omega
      have x0 := X2.out.1
      go_wp2_with fail
      clear x0
      refine (near_k _ k B r2 _ ns S2.out (HO.out.tchK HLO.out T2.out) HLO.out hn HPS.out).mono ?_
      rintro e w3 ⟨rfl, s3, t3⟩
      generalize r2.near ns = p at *
      have S3 : Hid (SRX w3 k B p.2) := s3
      have T3 : Hid (Tch k W w3) := T2.out.trans t3
      have X3 : Hid (NbO W (.slice av ns.length cv) w3) := X2.out.tch t3 hkW
      clear s3 t3 S2 T2 X2
      have HF : Hid (∀ o : Op5, SRX (((((w3.setCell ⟨W.heap.size + 1, 0, none⟩ (.int .i64 o.kind)).setCell ⟨W.heap.size + 1, 1, none⟩ (.string o.path)).setCell ⟨W.heap.size + 1, 2, none⟩ (.string o.data)).setCell ⟨W.heap.size + 1, 3, none⟩ (.int .i64 o.ver)).setCell ⟨W.heap.size + 1, 4, none⟩ (.bool o.seq)) k B p.2 ∧ Tch k W (((((w3.setCell ⟨W.heap.size + 1, 0, none⟩ (.int .i64 o.kind)).setCell ⟨W.heap.size + 1, 1, none⟩ (.string o.path)).setCell ⟨W.heap.size + 1, 2, none⟩ (.string o.data)).setCell ⟨W.heap.size + 1, 3, none⟩ (.int .i64 o.ver)).setCell ⟨W.heap.size + 1, 4, none⟩ (.bool o.seq))) := fun o => HEND.out w3 o _ S3.out T3.out
      obtain ⟨-, d0, d1, d2, d3, d4, df, dz⟩ := X3.out
      have f0 := df 0
      have f1 := df 1
      have f2 := df 2
      have f3 := df 3
      have f4 := df 4
      clear df
      clear S3 T3 X3 HEND
      go_wp2
      rw [← HR.out]
      exact bodyPost_ret (v := .agg #[.int .i64 (4), .string p.1, .string ⟨#[]⟩, .int .i64 (-1), .bool (false)]) (by simp [results, Tryz.results55, go_sem, d0, d1, d2, d3, d4]) rfl ⟨rfl, HF.out ⟨4, p.1, ⟨#[]⟩, -1, false⟩⟩

theorem op_x (W : World) (k B lo : Nat) (s : Sr) (v : Value) (ns : List Nd) (h : SRX W k B s) (ho : OwnN 42 W lo v ns) (hlo : k < lo) (hn : ns.length ≤ 1000000) (hps : ∀ i, i < ns.length → (nAt ns i).path.size ≤ 1000) :
    Calls Tryz.prog 55 #[.pointer (some ⟨k, 0, none⟩), .agg #[v]] W fun e w' => e = .returned (.agg #[.int .i64 (s.op ns).1.kind, .string (s.op ns).1.path, .string (s.op ns).1.data, .int .i64 (s.op ns).1.ver, .bool (s.op ns).1.seq]) ∧ SRX w' k B (s.op ns).2 ∧ Tch k W w' := op_k W k B s v ns h ho.rd (OwnN.offK ho hlo) hn hps

end Go.Proofs.YtdiingonnddkcaaGreatDoor
namespace Go.Proofs.YtdiingonnddkcaaGreatDoor
open Go.RowKit Go.Shelf

/-- The children's names. -/
def chN (ns : List Nd) (p : ByteArray) : List Nd := ns.filter fun n => chB n.path p
def chL (ns : List Nd) (p : ByteArray) : List (List UInt8) := (chN ns p).map fun n => lastL n.path
def resC (ns : List Nd) (p : ByteArray) : List (List UInt8) := if okTree ns && okPath p then chL ns p else []
theorem chN_yes (ns : List Nd) (p : ByteArray) (k : Nat) (h : k < ns.length) (hc : chB (nAt ns k).path p = true) : chN (ns.take (k + 1)) p = chN (ns.take k) p ++ [nAt ns k] := by
  unfold chN
  rw [List.take_succ_eq_append_getElem h, List.filter_append, ← nAt_get h]
  simp [hc]
theorem chN_no (ns : List Nd) (p : ByteArray) (k : Nat) (h : k < ns.length) (hc : chB (nAt ns k).path p = false) : chN (ns.take (k + 1)) p = chN (ns.take k) p := by
  unfold chN
  rw [List.take_succ_eq_append_getElem h, List.filter_append, ← nAt_get h]
  simp [hc]
theorem chN_len (ns : List Nd) (p : ByteArray) : (chN ns p).length ≤ ns.length := List.length_filter_le _ _
theorem okNd_path {n : Nd} (h : okNd n = true) : okPath n.path = true := by
  unfold okNd at h
  simp only [Bool.and_eq_true] at h
  exact h.1.1.1.1.1.1
/-- A row of texts of the call's own. -/
def OwnS (w : World) (lo : Nat) (v : Value) (L : List (List UInt8)) : Prop := w.ownsRow lo 9 1 v L.length (L.map sV)
theorem OwnS.below {w w' : World} {lo : Nat} {v : Value} {L : List (List UInt8)} (h : OwnS w lo v L) (hb : Below w.heap.size w w') : OwnS w' lo v L := by
  refine ⟨h.1, ?_⟩
  rcases h.2 with hn | ⟨g, cap, cur, rfl, hbg, hgg, rest⟩
  · exact .inl hn
  · exact .inr ⟨g, cap, cur, rfl, hbg, by rw [hb.block g (Array.getElem?_eq_some_iff.1 hgg).1]; exact hgg, rest⟩
set_option maxHeartbeats 1000000 in
set_option maxRecDepth 100000 in
theorem implChildren_any (w : World) (v : Value) (ns : List Nd) (p : ByteArray) (h : RdN w v ns) (hsz : ∀ i, (nAt ns i).path.size ≤ 1048576 ∧ (nAt ns i).data.size ≤ 1048576) :
    Calls Tryz.prog 13 #[.agg #[v], .string p] w fun e w' => ∃ v', e = .returned v' ∧ OwnS w' w.heap.size v' (resC ns p) ∧ Below w.heap.size w w' := by
  obtain ⟨i0, hi, hz0, hz1, hz2⟩ := info_parts Tryz.infoT
  obtain ⟨ao, ca, rfl, _, _⟩ := h.len
  have HR : Hid (RdN w (.slice ao ns.length ca) ns) := h
  have HZ : Hid (∀ i, (nAt ns i).path.size ≤ 1048576 ∧ (nAt ns i).data.size ≤ 1048576) := hsz
  generalize hnn : ns.length = n at *
  have HP : Hid (ns.length = n) := hnn
  have B0 : Hid (Below w.heap.size w (w.alloc (.cells #[.slice ao n ca] 25))) := (Below.refl _ _).alloc (Nat.le_refl _) _
  have X0 : Hid (Boxed (w.alloc (.cells #[.slice ao n ca] 25)) w.heap.size 25 (.slice ao n ca)) := Boxed.new _ _ _
  clear h hsz hnn
  go_enter Tryz.func13, Tryz.ntmps13
  go_wp2_with fail
  generalize w.alloc (.cells #[.slice ao n ca] 25) = w0 at *
  refine (implTree_any _ _ ns (HR.out.below B0.out) HZ.out).mono ?_
  rintro e w1 ⟨rfl, b1⟩
  have B1 : Hid (Below w.heap.size w w1) := B0.out.trans (b1.mono B0.out.size)
  have X1 : Hid (Boxed w1 w.heap.size 25 (.slice ao n ca)) := boxed_below b1 X0.out
  clear b1 X0 B0
  by_cases hok : okTree ns = true
  rotate_left
  · have hok' : okTree ns = false := by simpa using hok
    have HT : Hid (resC ns p = []) := by show _ = _; unfold resC; rw [hok']; rfl
    rw [hok']
    clear hok hok'
    go_wp2
    go_ret
    exact ⟨_, rfl, (by rw [HT.out]; exact World.ownsRow_nil _ _ _ _), B1.out⟩
  rw [hok]
  go_wp2_with fail
  refine (implPath_any _ p).mono ?_
  rintro e w2 ⟨rfl, b2⟩
  have B2 : Hid (Below w.heap.size w w2) := B1.out.trans (b2.mono B1.out.size)
  have X2 : Hid (Boxed w2 w.heap.size 25 (.slice ao n ca)) := boxed_below b2 X1.out
  clear b2 X1 B1
  by_cases hpp : okPath p = true
  rotate_left
  · have hpp' : okPath p = false := by simpa using hpp
    have HT : Hid (resC ns p = []) := by show _ = _; unfold resC; rw [hpp']; simp
    rw [hpp']
    clear hpp hpp' hok
    go_wp2
    go_ret
    exact ⟨_, rfl, (by rw [HT.out]; exact World.ownsRow_nil _ _ _ _), B2.out⟩
  have hn : n ≤ 1000 := by have := okTree_len hok; rw [HP.out] at this; exact this
  have HT : Hid (resC ns p = chL ns p) := by show _ = _; unfold resC; rw [hok, hpp]; rfl
  have HOK : Hid (∀ k, k < n → okNd (nAt ns k) = true) := fun k hk => okTree_nd hok k (by rw [HP.out]; exact hk)
  rw [hpp]
  clear hok hpp
  have c0 := X2.out.cell
  go_wp2
  go_loopw [5, 19] (fun vo vk wr => ∃ k : Nat, k ≤ n ∧ vk = .int .i64 k ∧ Hid (OwnS wr w.heap.size vo (chL (ns.take k) p)) ∧ Hid (Below w.heap.size w wr)) (fun _ i _ => n - (intOf i).toNat)
  case atStart => exact ⟨0, Nat.zero_le _, rfl, World.ownsRow_nil _ _ _ _, B2⟩
  case round =>
    clear c0
    obtain ⟨k, hk, rfl, HW, HB⟩ := hrel
    have sB := HB.out.size
    by_cases hlt : k < n
    · have hltI : (k : Int) < (n : Int) := by omega
      obtain ⟨b, o, hao, hb, hc⟩ : ∃ b o, ao = some ⟨b, o, none⟩ ∧ b < w.heap.size ∧ CellsN w b (o + k * 7) (nAt ns k) := by
        obtain ⟨ao', cap', e', -, -, h3⟩ := HR.out
        simp only [Value.slice.injEq] at e'
        obtain ⟨rfl, -, -⟩ := e'
        rcases h3 with h3 | ⟨b, o, rfl, hb, hc⟩
        · have := HP.out; rw [h3] at this; simp at this; omega
        · exact ⟨b, o, rfl, hb, hc k (by rw [HP.out]; exact hlt)⟩
      subst hao
      obtain ⟨c0, c1, c2, c3, c4, c5, c6⟩ := hc.below HB.out hb
      have hok := HOK.out k hlt
      have hll : (chL (ns.take k) p).length ≤ 1000 := by
        unfold chL
        rw [List.length_map]
        have := chN_len (ns.take k) p
        rw [List.length_take] at this
        omega
      go_wp2_with fail
      clear c0 c1 c2 c3 c4 c5 c6
      have BA : Hid (Below wr.heap.size wr (wr.alloc (.cells #[.string (nAt ns k).path, .string (nAt ns k).data, .int .i64 (nAt ns k).ver, .int .i64 (nAt ns k).cver, .int .i64 (nAt ns k).cz, .int .i64 (nAt ns k).mz, .int .i64 (nAt ns k).pz] 42))) := (Below.refl _ _).alloc (Nat.le_refl _) _
      have EX : Hid (BoxN (wr.alloc (.cells #[.string (nAt ns k).path, .string (nAt ns k).data, .int .i64 (nAt ns k).ver, .int .i64 (nAt ns k).cver, .int .i64 (nAt ns k).cz, .int .i64 (nAt ns k).mz, .int .i64 (nAt ns k).pz] 42)) wr.heap.size (nAt ns k)) := BoxN.new _ _ _
      generalize wr.alloc (.cells #[.string (nAt ns k).path, .string (nAt ns k).data, .int .i64 (nAt ns k).ver, .int .i64 (nAt ns k).cver, .int .i64 (nAt ns k).cz, .int .i64 (nAt ns k).mz, .int .i64 (nAt ns k).pz] 42) = wA at *
      have OA : Hid (OwnS wA w.heap.size u5 (chL (ns.take k) p)) := HW.out.below BA.out
      have B3 : Hid (Below w.heap.size w wA) := HB.out.trans (BA.out.mono sB)
      clear HW HB BA
      have s3 := B3.out.size
      refine (isChild_any wA (nAt ns k).path p (okNd_path hok)).mono ?_
      rintro e w3 ⟨rfl, hw3⟩
      obtain rfl : wA = w3 := hw3.symm
      cases hcb : chB (nAt ns k).path p with
      | false =>
        have HS : Hid (chL (ns.take (k + 1)) p = chL (ns.take k) p) := by show _ = _; unfold chL; rw [chN_no ns p k (by rw [HP.out]; exact hlt) hcb]
        clear hcb
        go_wp2
        exact ⟨⟨k + 1, by omega, by go_num, (by rw [HS.out]; exact OA), B3⟩, by simp [intOf]; omega⟩
      | true =>
        have HS : Hid (chL (ns.take (k + 1)) p = chL (ns.take k) p ++ [lastL (nAt ns k).path]) := by show _ = _; unfold chL; rw [chN_yes ns p k (by rw [HP.out]; exact hlt) hcb, List.map_append]; rfl
        clear hcb
        have e0 := EX.out.c0
        go_wp2_with fail
        refine (lastName_any wA (nAt ns k).path (okNd_path hok)).mono ?_
        rintro e w4 ⟨rfl, hw4⟩
        obtain rfl : wA = w4 := hw4.symm
        generalize chL (ns.take k) p = Lk at *
        generalize lastL (nAt ns k).path = ln at *
        have OR : Hid (wA.ownsRow w.heap.size 9 1 u5 Lk.length (Lk.map sV)) := OA.out
        unfold sV
        go_wp2_with (at_builtin; go_must (refine wpList_append_own _ rfl _ _ 32 rfl w.heap.size 9 i0 (.string ByteArray.empty) 1 16 Tryz.underlying32 hi hz0 hz1 hz2 rfl (by decide) _ _ _ rfl (OR.out.alloc _) ⟨wA.heap.size, 0, none⟩ 1 1 [.string ⟨ln.toArray⟩] rfl rfl (cell_one_new _ _ _) (by intro u hu; simp at hu; subst hu; rfl) ?_ ?_ ?_ ?_))
        · unfold maxLen; omega
        · omega
        · simp; omega
        intro v5 w5 ho5 hg5 _
        have O5 : Hid (OwnS w5 w.heap.size v5 (chL (ns.take (k + 1)) p)) := by
          rw [HS.out]
          unfold OwnS
          rw [List.length_append, List.map_append]
          exact ho5
        have B5 : Hid (Below w.heap.size w w5) := (B3.out.alloc s3 _).grown hg5 (by simp; omega) (fun q hq => (World.ownsRow.lt OR.out q hq).1)
        clear ho5 hg5 OR OA B3 HS e0
        go_wp2
        exact ⟨⟨k + 1, by omega, by go_num, O5, B5⟩, by simp [intOf]; omega⟩
    · have hkn : k = n := by omega
      subst hkn
      go_wp2
      go_ret
      refine ⟨_, rfl, ?_, HB.out⟩
      have := HW.out
      rw [List.take_of_length_le (by rw [HP.out]; exact Nat.le_refl _)] at this
      rw [HT.out]; exact this


set_option maxHeartbeats 1000000 in
set_option maxRecDepth 100000 in
theorem l3Below_any (w : World) (v : Value) (ns : List Nd) (p : ByteArray) (h : RdN w v ns) (hn : ns.length ≤ 1000) (hok : ∀ k, k < ns.length → okNd (nAt ns k) = true) :
    Calls Tryz.prog 66 #[v, .string p] w fun e w' => ∃ v', e = .returned v' ∧ OwnN 42 w' w.heap.size v' (chN ns p) ∧ Below w.heap.size w w' := by
  obtain ⟨i0, hi, hz0, hz1, hz2⟩ := info_parts Tryz.infoN
  obtain ⟨ao, ca, rfl, _, _⟩ := h.len
  have HR : Hid (RdN w (.slice ao ns.length ca) ns) := h
  have HOK : Hid (∀ k, k < ns.length → okNd (nAt ns k) = true) := hok
  have O0 : Hid (OwnN 42 (w.alloc (.cells #[] 42)) w.heap.size (.slice (some ⟨w.heap.size, 0, none⟩) 0 0) (chN (ns.take 0) p)) := World.ownsRow_lit w #[] 0 (Nat.le_refl _) (Nat.zero_le _) rfl
  have B0 : Hid (Below w.heap.size w (w.alloc (.cells #[] 42))) := (Below.refl _ _).alloc (Nat.le_refl _) _
  generalize hnn : ns.length = n at *
  have HP : Hid (ns.length = n) := hnn
  clear h hok hnn
  go_enter Tryz.func66, Tryz.ntmps66
  go_wp2
  go_loopw [5, 6] (fun vo vk wr => ∃ k : Nat, k ≤ n ∧ vk = .int .i64 k ∧ Hid (OwnN 42 wr w.heap.size vo (chN (ns.take k) p)) ∧ Hid (Below w.heap.size w wr)) (fun _ i _ => n - (intOf i).toNat)
  case atStart => exact ⟨0, Nat.zero_le _, rfl, O0, B0⟩
  case round =>
    obtain ⟨k, hk, rfl, HW, HB⟩ := hrel
    have sB := HB.out.size
    by_cases hlt : k < n
    · have hltI : (k : Int) < (n : Int) := by omega
      obtain ⟨b, o, hao, hb, hc⟩ : ∃ b o, ao = some ⟨b, o, none⟩ ∧ b < w.heap.size ∧ CellsN w b (o + k * 7) (nAt ns k) := by
        obtain ⟨ao', cap', e', -, -, h3⟩ := HR.out
        simp only [Value.slice.injEq] at e'
        obtain ⟨rfl, -, -⟩ := e'
        rcases h3 with h3 | ⟨b, o, rfl, hb, hc⟩
        · have := HP.out; rw [h3] at this; simp at this; omega
        · exact ⟨b, o, rfl, hb, hc k (by rw [HP.out]; exact hlt)⟩
      subst hao
      have HCk : Hid (CellsN w b (o + k * 7) (nAt ns k)) := hc
      clear hc
      obtain ⟨c0, c1, c2, c3, c4, c5, c6⟩ := HCk.out.below HB.out hb
      have hok := HOK.out k hlt
      have hll : (chN (ns.take k) p).length ≤ 1000 := by
        have := chN_len (ns.take k) p
        rw [List.length_take] at this
        omega
      cases hA : ((nAt ns k).path.toList == [47]) with
      | true =>
        have HS : Hid (chN (ns.take (k + 1)) p = chN (ns.take k) p) := by show _ = _; exact chN_no ns p k (by rw [HP.out]; exact hlt) (by unfold chB; rw [hA]; rfl)
        go_wp2
        exact ⟨⟨k + 1, by omega, by go_num, (by rw [HS.out]; exact HW), HB⟩, by simp [intOf]; omega⟩
      | false =>
        go_wp2_with fail
        refine (l3Parent_any wr (nAt ns k).path (okNd_path hok)).mono ?_
        rintro e w3 ⟨rfl, b3⟩
        have O3 : Hid (OwnN 42 w3 w.heap.size u5 (chN (ns.take k) p)) := HW.out.below b3
        have B3 : Hid (Below w.heap.size w w3) := HB.out.trans (b3.mono sB)
        have s3 := B3.out.size
        clear c0 c1 c2 c3 c4 c5 c6 b3 HW HB
        obtain ⟨c0, c1, c2, c3, c4, c5, c6⟩ := HCk.out.below B3.out hb
        unfold sV
        cases hB : (parL (nAt ns k).path == p.toList) with
        | false =>
          have HS : Hid (chN (ns.take (k + 1)) p = chN (ns.take k) p) := by show _ = _; exact chN_no ns p k (by rw [HP.out]; exact hlt) (by unfold chB; rw [hA, hB]; rfl)
          go_wp2
          exact ⟨⟨k + 1, by omega, by go_num, (by rw [HS.out]; exact O3), B3⟩, by simp [intOf]; omega⟩
        | true =>
          have HS : Hid (chN (ns.take (k + 1)) p = chN (ns.take k) p ++ [nAt ns k]) := by show _ = _; exact chN_yes ns p k (by rw [HP.out]; exact hlt) (by unfold chB; rw [hA, hB]; rfl)
          generalize chN (ns.take k) p = Lk at *
          generalize nAt ns k = m at *
          have OR : Hid (w3.ownsRow w.heap.size 42 7 u5 Lk.length (nrow Lk)) := O3.out
          go_wp2_with (at_builtin; go_must (refine wpList_append_own _ rfl _ _ 23 rfl w.heap.size 42 i0 (.agg #[.string ByteArray.empty, .string ByteArray.empty, .int .i64 0, .int .i64 0, .int .i64 0, .int .i64 0, .int .i64 0]) 7 72 Tryz.underlying23 hi hz0 hz1 hz2 rfl (by decide) _ _ _ rfl (OR.out.alloc _) ⟨w3.heap.size, 0, none⟩ 1 1 (ndL m) rfl rfl (ndL_cells w3 m _) (ndL_one m) ?_ ?_ ?_ ?_))
          · unfold maxLen; omega
          · omega
          · simp; omega
          intro v5 w5 ho5 hg5 _
          have O5 : Hid (OwnN 42 w5 w.heap.size v5 (chN (ns.take (k + 1)) p)) := by
            rw [HS.out]
            unfold OwnN
            rw [List.length_append, nrow_one]
            exact ho5
          have B5 : Hid (Below w.heap.size w w5) := (B3.out.alloc s3 _).grown hg5 (by simp; omega) (fun q hq => (World.ownsRow.lt OR.out q hq).1)
          clear ho5 hg5 OR O3 B3 HS c0 c1 c2 c3 c4 c5 c6
          go_wp2
          exact ⟨⟨k + 1, by omega, by go_num, O5, B5⟩, by simp [intOf]; omega⟩
    · have hkn : k = n := by omega
      subst hkn
      go_wp2
      go_ret
      refine ⟨_, rfl, ?_, HB.out⟩
      have := HW.out
      rw [List.take_of_length_le (by rw [HP.out]; exact Nat.le_refl _)] at this
      exact this


/-- The parent's path. -/
def parB (s : ByteArray) : ByteArray := ⟨(parL s).toArray⟩
/-- The name of what is created. -/
def nameO (ns : List Nd) (o : Op5) : ByteArray := if o.seq then ⟨(o.path.data.toList ++ six 12 (nAt ns (ns.findIdx (isP (parB o.path)))).cver.toNat 6).toArray⟩ else o.path
/-- One operation: the code, the nodes behind it, the name. -/
def doO (ns : List Nd) (o : Op5) (z : Int) : Int × List Nd × ByteArray :=
  if !wfO o then (1, ns, ⟨#[]⟩)
  else if o.kind = 1 then
    if ¬ ns.findIdx (isP (parB o.path)) < ns.length then (2, ns, ⟨#[]⟩)
    else if !okPath (nameO ns o) then (1, ns, ⟨#[]⟩)
    else if ns.findIdx (isP (nameO ns o)) < ns.length then (3, ns, ⟨#[]⟩)
    else if ns.length = 1000 then (6, ns, ⟨#[]⟩)
    else (0, toN (wiN ns ⟨nameO ns o, o.data, 0, 0, z, z, z⟩) (parB o.path) z, nameO ns o)
  else if ¬ ns.findIdx (isP o.path) < ns.length then (2, ns, ⟨#[]⟩)
  else if o.ver ≠ -1 ∧ o.ver ≠ (nAt ns (ns.findIdx (isP o.path))).ver then (4, ns, ⟨#[]⟩)
  else if o.kind = 2 then
    if 0 < (chN ns o.path).length then (5, ns, ⟨#[]⟩) else (0, toN (woN ns o.path) (parB o.path) z, o.path)
  else if o.kind = 3 then (0, wiN ns { nAt ns (ns.findIdx (isP o.path)) with data := o.data, ver := mor (nAt ns (ns.findIdx (isP o.path))).ver, mz := z }, o.path)
  else (0, ns, o.path)

theorem stW_mem {n a y : Nd} {st : List Nd × Bool} (h : y ∈ (stW n st a).1) : y ∈ st.1 ∨ y = n ∨ y = a := by
  unfold stW at h
  dsimp only at h
  generalize (!st.2 && !(Op.bytesLess a.path.toList n.path.toList)) = c1 at h
  generalize (a.path.toList == n.path.toList) = c2 at h
  cases c1 <;> cases c2 <;> simp at h <;> grind
theorem wi_mem {ns : List Nd} {n m : Nd} (h : m ∈ wiN ns n) : m ∈ ns ∨ m = n := by
  have key : ∀ (l : List Nd) (st : List Nd × Bool), (∀ x ∈ st.1, x ∈ ns ∨ x = n) → (∀ x ∈ l, x ∈ ns) → ∀ x ∈ (l.foldl (stW n) st).1, x ∈ ns ∨ x = n := by
    intro l
    induction l with
    | nil => intro st h1 _ x hx; exact h1 x hx
    | cons a l ih =>
      intro st h1 h2 x hx
      refine ih (stW n st a) ?_ (fun y hy => h2 y (List.mem_cons_of_mem _ hy)) x hx
      intro y hy
      rcases stW_mem hy with h3 | h3 | h3
      · exact h1 y h3
      · exact .inr h3
      · exact .inl (h3 ▸ h2 a (List.mem_cons_self ..))
  unfold wiN wiF at h
  split at h
  · exact key ns ([], false) (fun x hx => by simp at hx) (fun x hx => hx) m h
  · rcases List.mem_append.1 h with h | h
    · exact key ns ([], false) (fun x hx => by simp at hx) (fun x hx => hx) m h
    · simp at h; exact .inr h
theorem cv_of {ns : List Nd} (h : ∀ k, k < ns.length → okNd (nAt ns k) = true) : ∀ m ∈ ns, -1 ≤ m.cver ∧ m.cver ≤ 2147483647 := by
  intro m hm
  obtain ⟨i, hi, rfl⟩ := List.mem_iff_getElem.1 hm
  have := h i hi
  rw [nAt_get hi] at this
  unfold okNd okS at this
  simp only [Bool.and_eq_true, decide_eq_true_eq] at this
  omega
theorem cv_at {ns : List Nd} (h : ∀ m ∈ ns, -1 ≤ m.cver ∧ m.cver ≤ 2147483647) : ∀ k, k < ns.length → -1 ≤ (nAt ns k).cver ∧ (nAt ns k).cver ≤ 2147483647 := by
  intro k hk
  rw [nAt_get hk]
  exact h _ (List.getElem_mem hk)

set_option maxHeartbeats 1000000 in
set_option maxRecDepth 100000 in
theorem l3Do_bad (w : World) (v : Value) (ns : List Nd) (o : Op5) (z : Int) (h : RdN w v ns) (hp : o.path.size ≤ 1048576) (hd : o.data.size ≤ 1048576) (hw : wfO o = false) :
    Calls Tryz.prog 32 #[v, .agg #[.int .i64 o.kind, .string o.path, .string o.data, .int .i64 o.ver, .bool o.seq], .int .i64 z] w fun e w' => ∃ v', e = .returned (.tuple #[.int .i64 (doO ns o z).1, v', .string (doO ns o z).2.2]) ∧ RdN w' v' (doO ns o z).2.1 ∧ Fresh w v v' ∧ Below w.heap.size w w' := by
  obtain ⟨ao, ca, rfl, _, _⟩ := h.len
  have HR : Hid (RdN w (.slice ao ns.length ca) ns) := h
  have HD : Hid (doO ns o z = (1, ns, ⟨#[]⟩)) := by show _ = _; unfold doO; rw [hw]; rfl
  have HW : Hid (wfO o = false) := hw
  have B0 : Hid (Below w.heap.size w (w.alloc (.cells #[.int .i64 o.kind, .string o.path, .string o.data, .int .i64 o.ver, .bool o.seq] 40))) := (Below.refl _ _).alloc (Nat.le_refl _) _
  clear h hw
  go_enter Tryz.func32, Tryz.ntmps32
  go_wp2_with fail
  refine (l3Well_any _ o hp hd).mono ?_
  rintro e w1 ⟨rfl, b1⟩
  rw [HW.out]
  have R1 : Hid (RdN w1 (.slice ao ns.length ca) ns) := HR.out.below (B0.out.trans (b1.mono B0.out.size))
  have B1 : Hid (Below w.heap.size w w1) := B0.out.trans (b1.mono B0.out.size)
  clear b1
  go_wp2
  rw [HD.out]
  exact bodyPost_ret (v := .tuple #[.int .i64 1, .slice ao ns.length ca, .string ⟨#[]⟩]) (by simp [results, Tryz.results32, go_sem]) rfl ⟨_, rfl, R1.out, .inl rfl, B1.out⟩

end Go.Proofs.YtdiingonnddkcaaGreatDoor


