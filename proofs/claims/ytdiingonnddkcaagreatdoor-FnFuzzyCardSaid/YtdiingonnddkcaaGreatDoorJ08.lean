import Derived.Test.YtdiingonnddkcaaGreatDoorJ07
import Derived.Test.YtdiingonnddkcaaGreatDoorJ04
import Derived.Test.YtdiingonnddkcaaGreatDoorJ05
import Derived.Test.YtdiingonnddkcaaGreatDoorJ06
import Derived.Test.YtdiingonnddkcaaGreatDoorJ02
namespace Go.Proofs.YtdiingonnddkcaaGreatDoor
open Go.RowKit Go.Shelf

/-- Is it the node with this path? -/
def isP (p : ByteArray) (n : Nd) : Bool := n.path.toList == p.toList
/-- Where the node with this path stands, or -1. -/
def fdV (ns : List Nd) (p : ByteArray) : Int := if ns.findIdx (isP p) < ns.length then ((ns.findIdx (isP p) : Nat) : Int) else -1
theorem fdV_at {ns : List Nd} {p : ByteArray} {k : Nat} (hk : k < ns.length) (h : isP p (nAt ns k) = true) (hn : ∀ i, i < k → isP p (nAt ns i) = false) : fdV ns p = (k : Int) := by
  have e : ns.findIdx (isP p) = k := by
    rw [List.findIdx_eq hk]
    refine ⟨by rw [← nAt_get hk]; exact h, fun j hj => ?_⟩
    have := hn j hj
    rwa [nAt_get (by omega)] at this
  unfold fdV
  rw [e, if_pos hk]
theorem fdV_none {ns : List Nd} {p : ByteArray} (hn : ∀ i, i < ns.length → isP p (nAt ns i) = false) : fdV ns p = -1 := by
  have e : ns.findIdx (isP p) = ns.length := by
    rw [List.findIdx_eq_length]
    intro x hx
    obtain ⟨i, hi, rfl⟩ := List.mem_iff_getElem.1 hx
    have := hn i hi
    rwa [nAt_get hi] at this
  unfold fdV
  rw [e, if_neg (Nat.lt_irrefl _)]

set_option maxHeartbeats 1000000 in
set_option maxRecDepth 100000 in
theorem l3Find_any (w : World) (v : Value) (ns : List Nd) (p : ByteArray) (h : RdN w v ns) (hn : ns.length ≤ 1000000) :
    Calls Tryz.prog 62 #[v, .string p] w fun e w' => e = .returned (.int .i64 (fdV ns p)) ∧ w' = w := by
  obtain ⟨ao, ca, rfl, _, _⟩ := h.len
  have HR : Hid (RdN w (.slice ao ns.length ca) ns) := h
  generalize hnn : ns.length = n at *
  have HP : Hid (ns.length = n) := hnn
  clear h hnn
  go_enter Tryz.func62, Tryz.ntmps62
  go_wp2
  go_loopw [5] (fun vk wr => ∃ k : Nat, k ≤ n ∧ vk = .int .i64 (k : Int) ∧ Hid (∀ i, i < k → isP p (nAt ns i) = false) ∧ wr = w) (fun i _ => n - (intOf i).toNat)
  case atStart => exact ⟨0, Nat.zero_le _, rfl, fun i hi => by omega, rfl⟩
  case round =>
    obtain ⟨k, hk, rfl, HN, rfl⟩ := hrel
    by_cases hlt : k < n
    · have hltI : (k : Int) < (n : Int) := by omega
      obtain ⟨b, o, hao, hb, hc⟩ : ∃ b o, ao = some ⟨b, o, none⟩ ∧ b < wr.heap.size ∧ CellsN wr b (o + k * 7) (nAt ns k) := by
        obtain ⟨ao', cap', e', -, -, h3⟩ := HR.out
        simp only [Value.slice.injEq] at e'
        obtain ⟨rfl, -, -⟩ := e'
        rcases h3 with h3 | ⟨b, o, rfl, hb, hc⟩
        · have := HP.out; rw [h3] at this; simp at this; omega
        · exact ⟨b, o, rfl, hb, hc k (by rw [HP.out]; exact hlt)⟩
      subst hao
      obtain ⟨c0, c1, c2, c3, c4, c5, c6⟩ := hc
      cases hA : ((nAt ns k).path.toList == p.toList) with
      | true =>
        have HF : Hid (fdV ns p = (k : Int)) := fdV_at (by rw [HP.out]; exact hlt) hA HN.out
        go_wp2
        go_ret
        exact ⟨by rw [HF.out]; rfl, rfl⟩
      | false =>
        have HN2 : Hid (∀ i, i < k + 1 → isP p (nAt ns i) = false) := by
          intro i hi
          by_cases e : i < k
          · exact HN.out i e
          · rw [show i = k by omega]; exact hA
        go_wp2
        exact ⟨⟨k + 1, by omega, by go_num, HN2, trivial⟩, by simp [intOf]; omega⟩
    · have hkn : k = n := by omega
      subst hkn
      have HF : Hid (fdV ns p = -1) := fdV_none (fun i hi => HN.out i (by rw [HP.out] at hi; exact hi))
      go_wp2
      go_ret
      exact ⟨by rw [HF.out]; rfl, rfl⟩


/-- One more, up to the greatest number. -/
def mor (v : Int) : Int := if v = 2147483647 then v else v + 1
/-- The nodes whose parent, if it is there, has lost or got a child. -/
def toN (ns : List Nd) (p : ByteArray) (z : Int) : List Nd :=
  if ns.findIdx (isP p) < ns.length then wiN ns { nAt ns (ns.findIdx (isP p)) with cver := mor (nAt ns (ns.findIdx (isP p))).cver, pz := z } else ns

/-- A row made since. -/
def New (w : World) (v : Value) : Prop := (∃ n c, v = .slice none n c) ∨ ∃ g n c, v = .slice (some ⟨g, 0, none⟩) n c ∧ w.heap.size ≤ g
def Fresh (w : World) (v v' : Value) : Prop := v' = v ∨ New w v'
theorem OwnN.new9 {e : TypeId} {w w' : World} {lo : Nat} {v : Value} {ns : List Nd} (h : OwnN e w' lo v ns) (hl : w.heap.size ≤ lo) : New w v := by
  rcases h.2 with ⟨rfl, -⟩ | ⟨g, cap, cur, rfl, hb, -⟩
  · exact .inl ⟨_, _, rfl⟩
  · exact .inr ⟨g, _, _, rfl, Nat.le_trans hl hb⟩
theorem Fresh.new {w w7 : World} {v7 v8 : Value} (f : Fresh w7 v7 v8) (h : New w v7) (hs : w.heap.size ≤ w7.heap.size) : New w v8 := by
  rcases f with rfl | f | ⟨g, n, c, rfl, hg⟩
  · exact h
  · exact .inl f
  · exact .inr ⟨g, n, c, rfl, Nat.le_trans hs hg⟩

set_option maxHeartbeats 1000000 in
set_option maxRecDepth 100000 in
theorem l3More_any (w : World) (x : Int) (h0 : -1 ≤ x) (h1 : x ≤ 2147483647) : Calls Tryz.prog 67 #[.int .i64 x] w fun e w' => e = .returned (.int .i64 (mor x)) ∧ w' = w := by
  by_cases e : x = 2147483647
  · subst e
    go_enter Tryz.func67, Tryz.ntmps67
    go_wp2
    go_ret
    exact ⟨rfl, rfl⟩
  · have hb : (x == 2147483647) = false := by simp [e]
    have HM : Hid (mor x = x + 1) := by show _ = _; unfold mor; rw [if_neg e]
    clear e
    go_enter Tryz.func67, Tryz.ntmps67
    go_wp2
    go_ret
    exact ⟨by rw [HM.out]; rfl, rfl⟩

set_option maxHeartbeats 1000000 in
set_option maxRecDepth 100000 in
theorem l3Touch_any (w : World) (v : Value) (ns : List Nd) (p : ByteArray) (z : Int) (h : RdN w v ns) (hn : ns.length ≤ 100000) (hok : ∀ k, k < ns.length → -1 ≤ (nAt ns k).cver ∧ (nAt ns k).cver ≤ 2147483647) :
    Calls Tryz.prog 65 #[v, .string p, .int .i64 z] w fun e w' => ∃ v', e = .returned v' ∧ RdN w' v' (toN ns p z) ∧ Fresh w v v' ∧ Below w.heap.size w w' := by
  obtain ⟨ao, ca, rfl, _, _⟩ := h.len
  have HR : Hid (RdN w (.slice ao ns.length ca) ns) := h
  have HO : Hid (∀ k, k < ns.length → -1 ≤ (nAt ns k).cver ∧ (nAt ns k).cver ≤ 2147483647) := hok
  clear h hok
  go_enter Tryz.func65, Tryz.ntmps65
  go_wp2_with fail
  refine (l3Find_any w _ ns p HR.out (by omega)).mono ?_
  rintro e w1 ⟨rfl, rfl⟩
  by_cases hf : ns.findIdx (isP p) < ns.length
  · have HT : Hid (toN ns p z = wiN ns { nAt ns (ns.findIdx (isP p)) with cver := mor (nAt ns (ns.findIdx (isP p))).cver, pz := z }) := by show _ = _; unfold toN; rw [if_pos hf]
    rw [show fdV ns p = ((ns.findIdx (isP p) : Nat) : Int) by unfold fdV; rw [if_pos hf]]
    generalize ns.findIdx (isP p) = k at *
    have hI : ¬ (k : Int) < 0 := by omega
    have hkI : (k : Int) < (ns.length : Int) := by omega
    obtain ⟨b, o, hao, hb, hc⟩ : ∃ b o, ao = some ⟨b, o, none⟩ ∧ b < w1.heap.size ∧ CellsN w1 b (o + k * 7) (nAt ns k) := by
      obtain ⟨ao', cap', e', -, -, h3⟩ := HR.out
      simp only [Value.slice.injEq] at e'
      obtain ⟨rfl, -, -⟩ := e'
      rcases h3 with h3 | ⟨b, o, rfl, hb, hc⟩
      · rw [h3] at hf; simp at hf
      · exact ⟨b, o, rfl, hb, hc k hf⟩
    subst hao
    obtain ⟨c0, c1, c2, c3, c4, c5, c6⟩ := hc
    have hcv : -1 ≤ (nAt ns k).cver ∧ (nAt ns k).cver ≤ 2147483647 := HO.out k hf
    generalize nAt ns k = m at *
    go_wp2_with fail
    refine (l3More_any _ m.cver hcv.1 hcv.2).mono ?_
    rintro e w2 ⟨rfl, rfl⟩
    go_wp2_with fail
    have ba : Below w1.heap.size w1 (w1.alloc (.cells #[.string m.path, .string m.data, .int .i64 m.ver, .int .i64 (mor m.cver), .int .i64 m.cz, .int .i64 m.mz, .int .i64 z] 42)) := (Below.refl _ _).alloc (Nat.le_refl _) _
    refine (with_any _ _ ns ⟨m.path, m.data, m.ver, mor m.cver, m.cz, m.mz, z⟩ (HR.out.below ba) (by omega)).mono ?_
    rintro e w3 ⟨v3, rfl, o3, b3⟩
    obtain ⟨a3, k3, hv3⟩ := o3.slice
    subst hv3
    have R3 : Hid (RdN w3 (.slice a3 (wiN ns ⟨m.path, m.data, m.ver, mor m.cver, m.cz, m.mz, z⟩).length k3) (toN ns p z)) := by rw [HT.out]; exact o3.rd
    have F3 : Hid (New w1 (.slice a3 (wiN ns ⟨m.path, m.data, m.ver, mor m.cver, m.cz, m.mz, z⟩).length k3)) := OwnN.new9 o3 (by simp)
    have B3 : Hid (Below w1.heap.size w1 w3) := ba.trans (b3.mono (by simp))
    clear o3 b3 ba HT c0 c1 c2 c3 c4 c5 c6
    go_wp2
    go_ret
    exact ⟨_, rfl, R3.out, .inr F3.out, B3.out⟩
  · have HT : Hid (toN ns p z = ns) := by show _ = _; unfold toN; rw [if_neg hf]
    rw [show fdV ns p = -1 by unfold fdV; rw [if_neg hf]]
    go_wp2
    go_ret
    exact ⟨_, rfl, by rw [HT.out]; exact HR.out, .inl rfl, Below.refl _ _⟩


/-- An operation. -/
structure Op5 where
  kind : Int
  path : ByteArray
  data : ByteArray
  ver : Int
  seq : Bool
def wfO (o : Op5) : Bool :=
  decide (1 ≤ o.kind) && decide (o.kind ≤ 4) && okPath o.path && decide (o.data.size ≤ 64) && (decide (o.kind = 1) || decide (o.kind = 3) || decide (o.data.size = 0)) &&
    (if o.kind = 1 then decide (o.ver = 0) && !(o.path.toList == [47]) else decide (-1 ≤ o.ver) && decide (o.ver ≤ 2147483647) && !o.seq && (!decide (o.kind = 2) || !(o.path.toList == [47])))

set_option maxHeartbeats 1000000 in
set_option maxRecDepth 100000 in
theorem l3Well_any (w : World) (o : Op5) (hp : o.path.size ≤ 1048576) (hd : o.data.size ≤ 1048576) :
    Calls Tryz.prog 60 #[.agg #[.int .i64 o.kind, .string o.path, .string o.data, .int .i64 o.ver, .bool o.seq]] w fun e w' => e = .returned (.bool (wfO o)) ∧ Below w.heap.size w w' := by
  obtain ⟨kind, path, data, ver, seq⟩ := o
  simp only at *
  have B0 : Hid (Below w.heap.size w (w.alloc (.cells #[.int .i64 kind, .string path, .string data, .int .i64 ver, .bool seq] 40))) := (Below.refl _ _).alloc (Nat.le_refl _) _
  by_cases h1 : kind < 1
  · have HW : Hid (wfO ⟨kind, path, data, ver, seq⟩ = false) := by show _ = _; unfold wfO; simp only [Bool.and_eq_false_iff, decide_eq_false_iff_not]; omega
    go_enter Tryz.func60, Tryz.ntmps60
    go_wp2
    go_ret
    exact ⟨by rw [HW.out]; rfl, B0.out⟩
  by_cases h4 : 4 < kind
  · have HW : Hid (wfO ⟨kind, path, data, ver, seq⟩ = false) := by show _ = _; unfold wfO; simp only [Bool.and_eq_false_iff, decide_eq_false_iff_not]; omega
    go_enter Tryz.func60, Tryz.ntmps60
    go_wp2
    go_ret
    exact ⟨by rw [HW.out]; rfl, B0.out⟩
  have C0 : Hid (∀ W, Below (w.alloc (.cells #[.int .i64 kind, .string path, .string data, .int .i64 ver, .bool seq] 40)).heap.size (w.alloc (.cells #[.int .i64 kind, .string path, .string data, .int .i64 ver, .bool seq] 40)) W → W.cell? ⟨w.heap.size, 0, none⟩ = some (.int .i64 kind) ∧ W.cell? ⟨w.heap.size, 1, none⟩ = some (.string path) ∧ W.cell? ⟨w.heap.size, 2, none⟩ = some (.string data) ∧ W.cell? ⟨w.heap.size, 3, none⟩ = some (.int .i64 ver) ∧ W.cell? ⟨w.heap.size, 4, none⟩ = some (.bool seq)) := by
    intro W hW
    have hl : w.heap.size < (w.alloc (.cells #[.int .i64 kind, .string path, .string data, .int .i64 ver, .bool seq] 40)).heap.size := by simp
    refine ⟨(hW.cell (p := ⟨w.heap.size, 0, none⟩) hl).trans (by go_simp), (hW.cell (p := ⟨w.heap.size, 1, none⟩) hl).trans (by go_simp), (hW.cell (p := ⟨w.heap.size, 2, none⟩) hl).trans (by go_simp), (hW.cell (p := ⟨w.heap.size, 3, none⟩) hl).trans (by go_simp), (hW.cell (p := ⟨w.heap.size, 4, none⟩) hl).trans (by go_simp)⟩
  go_enter Tryz.func60, Tryz.ntmps60
  go_wp2_with fail
  refine (specPath_any _ path hp).mono ?_
  rintro e w1 ⟨rfl, b1⟩
  obtain ⟨c0, c1, c2, c3, c4⟩ := C0.out w1 b1
  have B1 : Hid (Below w.heap.size w w1) := B0.out.trans (b1.mono (by simp))
  clear b1 C0 B0
  cases hpk : okPath path with
  | false =>
    have HW : Hid (wfO ⟨kind, path, data, ver, seq⟩ = false) := by show _ = _; unfold wfO; simp [hpk]
    go_wp2
    go_ret
    exact ⟨by rw [HW.out]; rfl, B1.out⟩
  | true =>
    have HPK : Hid (okPath path = true) := hpk
    clear hpk
    by_cases hds : 64 < data.size
    · have HW : Hid (wfO ⟨kind, path, data, ver, seq⟩ = false) := by show _ = _; unfold wfO; simp; omega
      have hdI : (64 : Int) < (data.size : Int) := by omega
      go_wp2
      go_ret
      exact ⟨by rw [HW.out]; rfl, B1.out⟩
    have hdI : ¬ (64 : Int) < (data.size : Int) := by omega
    have hk : kind = 1 ∨ kind = 2 ∨ kind = 3 ∨ kind = 4 := by omega
    clear h1 h4
    have hds' : data.size ≤ 64 := by omega
    have HDE : Hid ((data.toList == []) = decide (data.size = 0)) := by
      show _ = _
      have e : data.size = data.data.toList.length := by rw [Array.length_toList]; rfl
      rw [ByteArray.toList_eq, e]
      cases data.data.toList <;> simp
    rcases hk with rfl | rfl | rfl | rfl
    all_goals
      cases hps : (path.toList == [47]) <;> cases hdd : (data.toList == []) <;> go_wp2
    all_goals
      go_ret
      refine ⟨ret_b ?_, B1.out⟩
      have hpk := HPK.out
      have hde := HDE.out
      rw [hdd] at hde
      unfold wfO
      simp only [hpk, hps]
      simp_all <;> (intros; omega)


/-- The children's names. -/
def chN (ns : List Nd) (p : ByteArray) : List Nd := ns.filter fun n => chB n.path p
theorem chN_yes (ns : List Nd) (p : ByteArray) (k : Nat) (h : k < ns.length) (hc : chB (nAt ns k).path p = true) : chN (ns.take (k + 1)) p = chN (ns.take k) p ++ [nAt ns k] := by
  unfold chN
  rw [List.take_succ_eq_append_getElem h, List.filter_append, ← nAt_get h]
  simp [hc]
theorem chN_no (ns : List Nd) (p : ByteArray) (k : Nat) (h : k < ns.length) (hc : chB (nAt ns k).path p = false) : chN (ns.take (k + 1)) p = chN (ns.take k) p := by
  unfold chN
  rw [List.take_succ_eq_append_getElem h, List.filter_append, ← nAt_get h]
  simp [hc]
theorem chN_len (ns : List Nd) (p : ByteArray) : (chN ns p).length ≤ ns.length := List.length_filter_le _ _
theorem okNd_path {n : Nd} (h : okNd n = true) : okPath n.path = true := by
  unfold okNd at h
  simp only [Bool.and_eq_true] at h
  exact h.1.1.1.1.1.1
/-- A row of texts of the call's own. -/
def OwnS (w : World) (lo : Nat) (v : Value) (L : List (List UInt8)) : Prop := w.ownsRow lo 9 1 v L.length (L.map sV)

set_option maxHeartbeats 1000000 in
set_option maxRecDepth 100000 in
theorem l3Below_any (w : World) (v : Value) (ns : List Nd) (p : ByteArray) (h : RdN w v ns) (hn : ns.length ≤ 1000) (hok : ∀ k, k < ns.length → okNd (nAt ns k) = true) :
    Calls Tryz.prog 66 #[v, .string p] w fun e w' => ∃ v', e = .returned v' ∧ OwnN 42 w' w.heap.size v' (chN ns p) ∧ Below w.heap.size w w' := by
  obtain ⟨i0, hi, hz0, hz1, hz2⟩ := info_parts Tryz.infoN
  obtain ⟨ao, ca, rfl, _, _⟩ := h.len
  have HR : Hid (RdN w (.slice ao ns.length ca) ns) := h
  have HOK : Hid (∀ k, k < ns.length → okNd (nAt ns k) = true) := hok
  have O0 : Hid (OwnN 42 (w.alloc (.cells #[] 42)) w.heap.size (.slice (some ⟨w.heap.size, 0, none⟩) 0 0) (chN (ns.take 0) p)) := World.ownsRow_lit w #[] 0 (Nat.le_refl _) (Nat.zero_le _) rfl
  have B0 : Hid (Below w.heap.size w (w.alloc (.cells #[] 42))) := (Below.refl _ _).alloc (Nat.le_refl _) _
  generalize hnn : ns.length = n at *
  have HP : Hid (ns.length = n) := hnn
  clear h hok hnn
  go_enter Tryz.func66, Tryz.ntmps66
  go_wp2
  go_loopw [5, 6] (fun vo vk wr => ∃ k : Nat, k ≤ n ∧ vk = .int .i64 k ∧ Hid (OwnN 42 wr w.heap.size vo (chN (ns.take k) p)) ∧ Hid (Below w.heap.size w wr)) (fun _ i _ => n - (intOf i).toNat)
  case atStart => exact ⟨0, Nat.zero_le _, rfl, O0, B0⟩
  case round =>
    obtain ⟨k, hk, rfl, HW, HB⟩ := hrel
    have sB := HB.out.size
    by_cases hlt : k < n
    · have hltI : (k : Int) < (n : Int) := by omega
      obtain ⟨b, o, hao, hb, hc⟩ : ∃ b o, ao = some ⟨b, o, none⟩ ∧ b < w.heap.size ∧ CellsN w b (o + k * 7) (nAt ns k) := by
        obtain ⟨ao', cap', e', -, -, h3⟩ := HR.out
        simp only [Value.slice.injEq] at e'
        obtain ⟨rfl, -, -⟩ := e'
        rcases h3 with h3 | ⟨b, o, rfl, hb, hc⟩
        · have := HP.out; rw [h3] at this; simp at this; omega
        · exact ⟨b, o, rfl, hb, hc k (by rw [HP.out]; exact hlt)⟩
      subst hao
      have HCk : Hid (CellsN w b (o + k * 7) (nAt ns k)) := hc
      clear hc
      obtain ⟨c0, c1, c2, c3, c4, c5, c6⟩ := HCk.out.below HB.out hb
      have hok := HOK.out k hlt
      have hll : (chN (ns.take k) p).length ≤ 1000 := by
        have := chN_len (ns.take k) p
        rw [List.length_take] at this
        omega
      cases hA : ((nAt ns k).path.toList == [47]) with
      | true =>
        have HS : Hid (chN (ns.take (k + 1)) p = chN (ns.take k) p) := by show _ = _; exact chN_no ns p k (by rw [HP.out]; exact hlt) (by unfold chB; rw [hA]; rfl)
        go_wp2
        exact ⟨⟨k + 1, by omega, by go_num, (by rw [HS.out]; exact HW), HB⟩, by simp [intOf]; omega⟩
      | false =>
        go_wp2_with fail
        refine (l3Parent_any wr (nAt ns k).path (okNd_path hok)).mono ?_
        rintro e w3 ⟨rfl, b3⟩
        have O3 : Hid (OwnN 42 w3 w.heap.size u5 (chN (ns.take k) p)) := HW.out.below b3
        have B3 : Hid (Below w.heap.size w w3) := HB.out.trans (b3.mono sB)
        have s3 := B3.out.size
        clear c0 c1 c2 c3 c4 c5 c6 b3 HW HB
        obtain ⟨c0, c1, c2, c3, c4, c5, c6⟩ := HCk.out.below B3.out hb
        unfold sV
        cases hB : (parL (nAt ns k).path == p.toList) with
        | false =>
          have HS : Hid (chN (ns.take (k + 1)) p = chN (ns.take k) p) := by show _ = _; exact chN_no ns p k (by rw [HP.out]; exact hlt) (by unfold chB; rw [hA, hB]; rfl)
          go_wp2
          exact ⟨⟨k + 1, by omega, by go_num, (by rw [HS.out]; exact O3), B3⟩, by simp [intOf]; omega⟩
        | true =>
          have HS : Hid (chN (ns.take (k + 1)) p = chN (ns.take k) p ++ [nAt ns k]) := by show _ = _; exact chN_yes ns p k (by rw [HP.out]; exact hlt) (by unfold chB; rw [hA, hB]; rfl)
          generalize chN (ns.take k) p = Lk at *
          generalize nAt ns k = m at *
          have OR : Hid (w3.ownsRow w.heap.size 42 7 u5 Lk.length (nrow Lk)) := O3.out
          go_wp2_with (at_builtin; go_must (refine wpList_append_own _ rfl _ _ 23 rfl w.heap.size 42 i0 (.agg #[.string ByteArray.empty, .string ByteArray.empty, .int .i64 0, .int .i64 0, .int .i64 0, .int .i64 0, .int .i64 0]) 7 72 Tryz.underlying23 hi hz0 hz1 hz2 rfl (by decide) _ _ _ rfl (OR.out.alloc _) ⟨w3.heap.size, 0, none⟩ 1 1 (ndL m) rfl rfl (ndL_cells w3 m _) (ndL_one m) ?_ ?_ ?_ ?_))
          · unfold maxLen; omega
          · omega
          · simp; omega
          intro v5 w5 ho5 hg5 _
          have O5 : Hid (OwnN 42 w5 w.heap.size v5 (chN (ns.take (k + 1)) p)) := by
            rw [HS.out]
            unfold OwnN
            rw [List.length_append, nrow_one]
            exact ho5
          have B5 : Hid (Below w.heap.size w w5) := (B3.out.alloc s3 _).grown hg5 (by simp; omega) (fun q hq => (World.ownsRow.lt OR.out q hq).1)
          clear ho5 hg5 OR O3 B3 HS c0 c1 c2 c3 c4 c5 c6
          go_wp2
          exact ⟨⟨k + 1, by omega, by go_num, O5, B5⟩, by simp [intOf]; omega⟩
    · have hkn : k = n := by omega
      subst hkn
      go_wp2
      go_ret
      refine ⟨_, rfl, ?_, HB.out⟩
      have := HW.out
      rw [List.take_of_length_le (by rw [HP.out]; exact Nat.le_refl _)] at this
      exact this


/-- The parent's path. -/
def parB (s : ByteArray) : ByteArray := ⟨(parL s).toArray⟩
/-- The name of what is created. -/
def nameO (ns : List Nd) (o : Op5) : ByteArray := if o.seq then ⟨(o.path.data.toList ++ six 12 (nAt ns (ns.findIdx (isP (parB o.path)))).cver.toNat 6).toArray⟩ else o.path
/-- One operation: the code, the nodes behind it, the name. -/
def doO (ns : List Nd) (o : Op5) (z : Int) : Int × List Nd × ByteArray :=
  if !wfO o then (1, ns, ⟨#[]⟩)
  else if o.kind = 1 then
    if ¬ ns.findIdx (isP (parB o.path)) < ns.length then (2, ns, ⟨#[]⟩)
    else if !okPath (nameO ns o) then (1, ns, ⟨#[]⟩)
    else if ns.findIdx (isP (nameO ns o)) < ns.length then (3, ns, ⟨#[]⟩)
    else if ns.length = 1000 then (6, ns, ⟨#[]⟩)
    else (0, toN (wiN ns ⟨nameO ns o, o.data, 0, 0, z, z, z⟩) (parB o.path) z, nameO ns o)
  else if ¬ ns.findIdx (isP o.path) < ns.length then (2, ns, ⟨#[]⟩)
  else if o.ver ≠ -1 ∧ o.ver ≠ (nAt ns (ns.findIdx (isP o.path))).ver then (4, ns, ⟨#[]⟩)
  else if o.kind = 2 then
    if 0 < (chN ns o.path).length then (5, ns, ⟨#[]⟩) else (0, toN (woN ns o.path) (parB o.path) z, o.path)
  else if o.kind = 3 then (0, wiN ns { nAt ns (ns.findIdx (isP o.path)) with data := o.data, ver := mor (nAt ns (ns.findIdx (isP o.path))).ver, mz := z }, o.path)
  else (0, ns, o.path)

theorem stW_mem {n a y : Nd} {st : List Nd × Bool} (h : y ∈ (stW n st a).1) : y ∈ st.1 ∨ y = n ∨ y = a := by
  unfold stW at h
  dsimp only at h
  generalize (!st.2 && !(Op.bytesLess a.path.toList n.path.toList)) = c1 at h
  generalize (a.path.toList == n.path.toList) = c2 at h
  cases c1 <;> cases c2 <;> simp at h <;> grind
theorem wi_mem {ns : List Nd} {n m : Nd} (h : m ∈ wiN ns n) : m ∈ ns ∨ m = n := by
  have key : ∀ (l : List Nd) (st : List Nd × Bool), (∀ x ∈ st.1, x ∈ ns ∨ x = n) → (∀ x ∈ l, x ∈ ns) → ∀ x ∈ (l.foldl (stW n) st).1, x ∈ ns ∨ x = n := by
    intro l
    induction l with
    | nil => intro st h1 _ x hx; exact h1 x hx
    | cons a l ih =>
      intro st h1 h2 x hx
      refine ih (stW n st a) ?_ (fun y hy => h2 y (List.mem_cons_of_mem _ hy)) x hx
      intro y hy
      rcases stW_mem hy with h3 | h3 | h3
      · exact h1 y h3
      · exact .inr h3
      · exact .inl (h3 ▸ h2 a (List.mem_cons_self ..))
  unfold wiN wiF at h
  split at h
  · exact key ns ([], false) (fun x hx => by simp at hx) (fun x hx => hx) m h
  · rcases List.mem_append.1 h with h | h
    · exact key ns ([], false) (fun x hx => by simp at hx) (fun x hx => hx) m h
    · simp at h; exact .inr h
theorem cv_of {ns : List Nd} (h : ∀ k, k < ns.length → okNd (nAt ns k) = true) : ∀ m ∈ ns, -1 ≤ m.cver ∧ m.cver ≤ 2147483647 := by
  intro m hm
  obtain ⟨i, hi, rfl⟩ := List.mem_iff_getElem.1 hm
  have := h i hi
  rw [nAt_get hi] at this
  unfold okNd okS at this
  simp only [Bool.and_eq_true, decide_eq_true_eq] at this
  omega
theorem cv_at {ns : List Nd} (h : ∀ m ∈ ns, -1 ≤ m.cver ∧ m.cver ≤ 2147483647) : ∀ k, k < ns.length → -1 ≤ (nAt ns k).cver ∧ (nAt ns k).cver ≤ 2147483647 := by
  intro k hk
  rw [nAt_get hk]
  exact h _ (List.getElem_mem hk)

set_option maxHeartbeats 1000000 in
set_option maxRecDepth 100000 in
theorem l3Do_bad (w : World) (v : Value) (ns : List Nd) (o : Op5) (z : Int) (h : RdN w v ns) (hp : o.path.size ≤ 1048576) (hd : o.data.size ≤ 1048576) (hw : wfO o = false) :
    Calls Tryz.prog 32 #[v, .agg #[.int .i64 o.kind, .string o.path, .string o.data, .int .i64 o.ver, .bool o.seq], .int .i64 z] w fun e w' => ∃ v', e = .returned (.tuple #[.int .i64 (doO ns o z).1, v', .string (doO ns o z).2.2]) ∧ RdN w' v' (doO ns o z).2.1 ∧ Fresh w v v' ∧ Below w.heap.size w w' := by
  obtain ⟨ao, ca, rfl, _, _⟩ := h.len
  have HR : Hid (RdN w (.slice ao ns.length ca) ns) := h
  have HD : Hid (doO ns o z = (1, ns, ⟨#[]⟩)) := by show _ = _; unfold doO; rw [hw]; rfl
  have HW : Hid (wfO o = false) := hw
  have B0 : Hid (Below w.heap.size w (w.alloc (.cells #[.int .i64 o.kind, .string o.path, .string o.data, .int .i64 o.ver, .bool o.seq] 40))) := (Below.refl _ _).alloc (Nat.le_refl _) _
  clear h hw
  go_enter Tryz.func32, Tryz.ntmps32
  go_wp2_with fail
  refine (l3Well_any _ o hp hd).mono ?_
  rintro e w1 ⟨rfl, b1⟩
  rw [HW.out]
  have R1 : Hid (RdN w1 (.slice ao ns.length ca) ns) := HR.out.below (B0.out.trans (b1.mono B0.out.size))
  have B1 : Hid (Below w.heap.size w w1) := B0.out.trans (b1.mono B0.out.size)
  clear b1
  go_wp2
  rw [HD.out]
  exact bodyPost_ret (v := .tuple #[.int .i64 1, .slice ao ns.length ca, .string ⟨#[]⟩]) (by simp [results, Tryz.results32, go_sem]) rfl ⟨_, rfl, R1.out, .inl rfl, B1.out⟩

end Go.Proofs.YtdiingonnddkcaaGreatDoor
namespace Go.Proofs.YtdiingonnddkcaaGreatDoor
open Go.RowKit

/-- An effect. -/
structure Ef where
  del : Bool
  nd : Nd
def efL (e : Ef) : List Value := [.bool e.del, .string e.nd.path, .string e.nd.data, .int .i64 e.nd.ver, .int .i64 e.nd.cver, .int .i64 e.nd.cz, .int .i64 e.nd.mz, .int .i64 e.nd.pz]
def ef0 : Ef := ⟨false, nd0⟩
def eAt (ns : List Ef) (i : Nat) : Ef := ns.getD i ef0
theorem eAt_get {ns : List Ef} {i : Nat} (h : i < ns.length) : eAt ns i = ns[i] := by unfold eAt; simp [List.getD, h]

/-- The cells of an effect. -/
structure CellsE (w : World) (b p : Nat) (n : Ef) : Prop where
  c0 : w.cell? ⟨b, p, none⟩ = some (.bool n.del)
  c1 : w.cell? ⟨b, p + 1, none⟩ = some (.string n.nd.path)
  c2 : w.cell? ⟨b, p + 2, none⟩ = some (.string n.nd.data)
  c3 : w.cell? ⟨b, p + 3, none⟩ = some (.int .i64 n.nd.ver)
  c4 : w.cell? ⟨b, p + 4, none⟩ = some (.int .i64 n.nd.cver)
  c5 : w.cell? ⟨b, p + 5, none⟩ = some (.int .i64 n.nd.cz)
  c6 : w.cell? ⟨b, p + 6, none⟩ = some (.int .i64 n.nd.mz)
  c7 : w.cell? ⟨b, p + 7, none⟩ = some (.int .i64 n.nd.pz)
theorem CellsE.below {w w' : World} {m b p : Nat} {n : Ef} (h : CellsE w b p n) (hb : Below m w w') (hl : b < m) : CellsE w' b p n :=
  ⟨(hb.cell (p := ⟨b, _, none⟩) hl).trans h.c0, (hb.cell (p := ⟨b, _, none⟩) hl).trans h.c1, (hb.cell (p := ⟨b, _, none⟩) hl).trans h.c2, (hb.cell (p := ⟨b, _, none⟩) hl).trans h.c3, (hb.cell (p := ⟨b, _, none⟩) hl).trans h.c4, (hb.cell (p := ⟨b, _, none⟩) hl).trans h.c5, (hb.cell (p := ⟨b, _, none⟩) hl).trans h.c6, (hb.cell (p := ⟨b, _, none⟩) hl).trans h.c7⟩
/-- A slice of nodes that reads as ns. -/
def RdE (w : World) (v : Value) (ns : List Ef) : Prop :=
  ∃ ao cap, v = .slice ao ns.length cap ∧ ns.length ≤ cap ∧ cap ≤ maxLen ∧
    (ns = [] ∨ ∃ b off, ao = some ⟨b, off, none⟩ ∧ b < w.heap.size ∧ ∀ i, i < ns.length → CellsE w b (off + i * 8) (eAt ns i))
theorem RdE.len {w : World} {v : Value} {ns : List Ef} (h : RdE w v ns) : ∃ ao cap, v = .slice ao ns.length cap ∧ ns.length ≤ cap ∧ cap ≤ maxLen := by
  obtain ⟨ao, cap, h0, h1, h2, _⟩ := h
  exact ⟨ao, cap, h0, h1, h2⟩
theorem RdE.below {w w' : World} {v : Value} {ns : List Ef} (h : RdE w v ns) (hb : Below w.heap.size w w') : RdE w' v ns := by
  obtain ⟨ao, cap, rfl, h1, h2, h3⟩ := h
  refine ⟨ao, cap, rfl, h1, h2, ?_⟩
  rcases h3 with h3 | ⟨b, off, rfl, hlt, hc⟩
  · exact .inl h3
  · exact .inr ⟨b, off, rfl, Nat.lt_of_lt_of_le hlt hb.size, fun i hi => (hc i hi).below hb hlt⟩

/-! ### rows of nodes -/
def erow (ns : List Ef) : List Value := ns.flatMap efL
theorem erow_cons (n : Ef) (ns : List Ef) : erow (n :: ns) = efL n ++ erow ns := by simp [erow]
theorem erow_append (ns ms : List Ef) : erow (ns ++ ms) = erow ns ++ erow ms := by simp [erow]
theorem erow_get : ∀ (ns : List Ef) (i j : Nat), i < ns.length → j < 8 → (erow ns)[i * 8 + j]? = (efL (eAt ns i))[j]?
  | [], i, j, h, _ => by simp at h
  | n :: ns, 0, j, _, hj => by
    rw [erow_cons, Nat.zero_mul, Nat.zero_add, List.getElem?_append_left (by show j < 8; exact hj)]; rfl
  | n :: ns, i + 1, j, h, hj => by
    rw [erow_cons, List.getElem?_append_right (by show 8 ≤ _; omega), show (i + 1) * 8 + j - (efL n).length = i * 8 + j by show (i + 1) * 8 + j - 8 = _; omega, erow_get ns i j (by simpa using h) hj]
    rfl
/-- A slice of nodes of the call's own. -/
def OwnE (e : TypeId) (w : World) (lo : Nat) (v : Value) (ns : List Ef) : Prop := w.ownsRow lo e 8 v ns.length (erow ns)
theorem OwnE.rd {e : TypeId} {w : World} {lo : Nat} {v : Value} {ns : List Ef} (h : OwnE e w lo v ns) : RdE w v ns := by
  rcases h.2 with ⟨rfl, h0⟩ | ⟨g, cap, cur, rfl, hb, hg, hn, hm, hs, ht⟩
  · have : ns = [] := List.eq_nil_of_length_eq_zero h0
    subst this
    exact ⟨none, 0, rfl, Nat.le_refl _, Nat.zero_le _, .inl rfl⟩
  · refine ⟨_, cap, rfl, hn, hm, .inr ⟨g, 0, rfl, (Array.getElem?_eq_some_iff.1 hg).1, fun i hi => ?_⟩⟩
    have c : ∀ j, j < 8 → w.cell? ⟨g, 0 + (i * 8 + j), none⟩ = (efL (eAt ns i))[j]? := fun j hj => by
      have hh := erow_get ns i j hi hj
      have h9 : (efL (eAt ns i))[j]? = some ((efL (eAt ns i)).getD j undef) := by
        match j, hj with
        | 0, _ => rfl
        | 1, _ => rfl
        | 2, _ => rfl
        | 3, _ => rfl
        | 4, _ => rfl
        | 5, _ => rfl
        | 6, _ => rfl
        | 7, _ => rfl
      rw [h9] at hh
      have := World.ownsRow.cells h (g := g) rfl (i * 8 + j) _ hh
      rw [Addr.add_lit] at this
      rw [this, h9]
    exact ⟨c 0 (by omega), c 1 (by omega), c 2 (by omega), c 3 (by omega), c 4 (by omega), c 5 (by omega), c 6 (by omega), c 7 (by omega)⟩
theorem OwnE.below {e : TypeId} {w w' : World} {lo : Nat} {v : Value} {ns : List Ef} (h : OwnE e w lo v ns) (hb : Below w.heap.size w w') : OwnE e w' lo v ns := by
  refine ⟨h.1, ?_⟩
  rcases h.2 with hn | ⟨g, cap, cur, rfl, hbg, hgg, rest⟩
  · exact .inl hn
  · exact .inr ⟨g, cap, cur, rfl, hbg, by rw [hb.block g (Array.getElem?_eq_some_iff.1 hgg).1]; exact hgg, rest⟩
theorem OwnE.slice {e : TypeId} {w : World} {lo : Nat} {v : Value} {ns : List Ef} (h : OwnE e w lo v ns) : ∃ a c, v = .slice a ns.length c := by
  obtain ⟨a, c, h0, _⟩ := h.rd.len
  exact ⟨a, c, h0⟩


@[reducible] def CE8 (W : World) (b : Nat) (n : Ef) : Prop := W.cell? ⟨b, 0, none⟩ = some (.bool n.del) ∧ W.cell? ⟨b, 1, none⟩ = some (.string n.nd.path) ∧ W.cell? ⟨b, 2, none⟩ = some (.string n.nd.data) ∧ W.cell? ⟨b, 3, none⟩ = some (.int .i64 n.nd.ver) ∧ W.cell? ⟨b, 4, none⟩ = some (.int .i64 n.nd.cver) ∧ W.cell? ⟨b, 5, none⟩ = some (.int .i64 n.nd.cz) ∧ W.cell? ⟨b, 6, none⟩ = some (.int .i64 n.nd.mz) ∧ W.cell? ⟨b, 7, none⟩ = some (.int .i64 n.nd.pz)














/-- Nothing but a path. -/
def blank (n : Nd) : Bool := (n.data.toList == []) && (n.ver == 0) && (n.cver == 0) && (n.cz == 0) && (n.mz == 0) && (n.pz == 0)
def okEf (e : Ef) : Bool := okNd e.nd && (!e.del || blank e.nd)
theorem okEf_false {e : Ef} (h : e.del = false) : okEf e = okNd e.nd := by unfold okEf; rw [h]; simp
theorem okEf_true {e : Ef} (h : e.del = true) : okEf e = (okNd e.nd && blank e.nd) := by unfold okEf; rw [h]; simp

set_option maxHeartbeats 4000000 in
set_option maxRecDepth 100000 in
theorem validEffect_any (w : World) (n : Ef) (hd : n.nd.data.size ≤ 1048576) :
    Calls Tryz.prog 68 #[.agg #[.bool n.del, .string n.nd.path, .string n.nd.data, .int .i64 n.nd.ver, .int .i64 n.nd.cver, .int .i64 n.nd.cz, .int .i64 n.nd.mz, .int .i64 n.nd.pz]] w fun e w' => e = .returned (.bool (okEf n)) ∧ Below w.heap.size w w' := by
  have B0 : Hid (∀ o, Below w.heap.size w (w.alloc o)) := fun o => (Below.refl _ _).alloc (Nat.le_refl _) _
  cases hdel : n.del with
  | false =>
    have HE := hd9 (okEf_false hdel)
    go_enter Tryz.func68, Tryz.ntmps68
    go_wp2_with fail
    refine (implNode_any _ n.nd hd).mono ?_
    rintro e w1 ⟨rfl, b1⟩
    have B1 := hd9 ((B0.out _).trans (b1.mono (by simp)))
    clear b1
    go_wp2
    go_ret
    exact ⟨ret_b HE.out.symm, B1.out⟩
  | true =>
    have HE := hd9 (okEf_true hdel)
    clear hdel
    have hpp : (n.nd.path.toList == n.nd.path.toList) = true := by simp
    cases h_dat : (n.nd.data.toList == []) with
    | false =>
      have HN : Hid (okEf n = false) := by show _ = _; rw [HE.out]; unfold blank; rw [h_dat]; simp
      go_enter Tryz.func68, Tryz.ntmps68
      go_wp2_with fail
      go_ret
      exact ⟨ret_b HN.out.symm, B0.out _⟩
    | true =>
      cases h_ver : (n.nd.ver == 0) with
      | false =>
        have HN : Hid (okEf n = false) := by show _ = _; rw [HE.out]; unfold blank; rw [h_ver]; simp
        go_enter Tryz.func68, Tryz.ntmps68
        go_wp2_with fail
        go_ret
        exact ⟨ret_b HN.out.symm, B0.out _⟩
      | true =>
        cases h_cver : (n.nd.cver == 0) with
        | false =>
          have HN : Hid (okEf n = false) := by show _ = _; rw [HE.out]; unfold blank; rw [h_cver]; simp
          go_enter Tryz.func68, Tryz.ntmps68
          go_wp2_with fail
          go_ret
          exact ⟨ret_b HN.out.symm, B0.out _⟩
        | true =>
          cases h_cz : (n.nd.cz == 0) with
          | false =>
            have HN : Hid (okEf n = false) := by show _ = _; rw [HE.out]; unfold blank; rw [h_cz]; simp
            go_enter Tryz.func68, Tryz.ntmps68
            go_wp2_with fail
            go_ret
            exact ⟨ret_b HN.out.symm, B0.out _⟩
          | true =>
            cases h_mz : (n.nd.mz == 0) with
            | false =>
              have HN : Hid (okEf n = false) := by show _ = _; rw [HE.out]; unfold blank; rw [h_mz]; simp
              go_enter Tryz.func68, Tryz.ntmps68
              go_wp2_with fail
              go_ret
              exact ⟨ret_b HN.out.symm, B0.out _⟩
            | true =>
              cases h_pz : (n.nd.pz == 0) with
              | false =>
                have HN : Hid (okEf n = false) := by show _ = _; rw [HE.out]; unfold blank; rw [h_pz]; simp
                go_enter Tryz.func68, Tryz.ntmps68
                go_wp2_with fail
                go_ret
                exact ⟨ret_b HN.out.symm, B0.out _⟩
              | true =>
                have HY : Hid (okEf n = okNd n.nd) := by show _ = _; rw [HE.out]; unfold blank; rw [h_dat, h_ver, h_cver, h_cz, h_mz, h_pz]; simp
                go_enter Tryz.func68, Tryz.ntmps68
                go_wp2_with fail
                refine (implNode_any _ n.nd hd).mono ?_
                rintro e w1 ⟨rfl, b1⟩
                have B1 := hd9 ((B0.out _).trans (b1.mono (by simp)))
                clear b1
                go_wp2
                go_ret
                exact ⟨ret_b HY.out.symm, B1.out⟩

end Go.Proofs.YtdiingonnddkcaaGreatDoor


