import Derived.Test.YtdiingonnddkcaaGreatDoorJ07
import Derived.Test.YtdiingonnddkcaaGreatDoorJ05
namespace Go.Proofs.YtdiingonnddkcaaGreatDoor
open Go.RowKit

def badChain : List PanicEntry := [{ v := .iface 138 (.agg #[]), recovered := false }]

set_option maxHeartbeats 400000 in
set_option maxRecDepth 100000 in
theorem take_bad (w : World) (k n c m : Nat) (ao : Option Addr) (h0 : w.cell? ⟨k, 0, none⟩ = some (.slice ao n c)) (hm : n < m) :
    Calls Tryz.prog 77 #[.pointer (some ⟨k, 0, none⟩), .int .i64 m] w fun e w' => e = .panicked badChain ∧ w' = w := by
  have hI : (n : Int) < (m : Int) := by omega
  go_enter Tryz.func77, Tryz.ntmps77
  go_wp2
  exact ⟨rfl, rfl, rfl⟩

def TakePost (w : World) (k b o n c m : Nat) (e : Ending) (w' : World) : Prop := e = .returned (.slice (some ⟨b, o, none⟩) m c) ∧ ∃ o', (o' = o + m ∨ n = m) ∧ w' = w.setCell ⟨k, 0, none⟩ (.slice (some ⟨b, o', none⟩) (n - m) (c - m))

set_option maxHeartbeats 400000 in
set_option maxRecDepth 100000 in
theorem take_ok (w : World) (k b o n c m : Nat) (h0 : w.cell? ⟨k, 0, none⟩ = some (.slice (some ⟨b, o, none⟩) n c)) (hz : w.frozen? ⟨k, 0, none⟩ = false) (hm : m ≤ n) (hm0 : 0 < m) (hc : n ≤ c) :
    Calls Tryz.prog 77 #[.pointer (some ⟨k, 0, none⟩), .int .i64 m] w fun e w' => TakePost w k b o n c m e w' := by
  have hI : ¬ (n : Int) < (m : Int) := by omega
  by_cases hcm : c = m
  · subst hcm
    go_enter Tryz.func77, Tryz.ntmps77
    go_wp2
    go_ret
    exact ⟨rfl, o, .inr (by omega), by rw [Nat.sub_self, show n - c = 0 by omega]⟩
  · have hcm' : m < c := by omega
    go_enter Tryz.func77, Tryz.ntmps77
    go_wp2
    go_ret
    exact ⟨rfl, o + m, .inl rfl, rfl⟩

/-- A reader: what is left of the bytes, in the world from before. -/
def RS (w0 w : World) (k : Nat) (ys : List Int) : Prop :=
  w0.heap.size ≤ k ∧ k < w.heap.size ∧ w.frozen? ⟨k, 0, none⟩ = false ∧ Below w0.heap.size w0 w ∧ ∃ v, w.cell? ⟨k, 0, none⟩ = some v ∧ Rd .u8 w0 v ys

theorem RS.drewN {w0 w : World} {k : Nat} {ys : List Int} (h : RS w0 w k ys) (q : Nat) : RS w0 (w.drewN q) k ys :=
  ⟨h.1, h.2.1, h.2.2.1, h.2.2.2.1.trans ((below_drewN' w q).mono h.2.2.2.1.size), h.2.2.2.2⟩

theorem RS.keep {w0 w w' : World} {k B : Nat} {ys : List Int} (h : RS w0 w k ys) (hb : Below B w w') (hk : k < B) : RS w0 w' k ys := by
  obtain ⟨h1, h2, h3, h4, v, h5, h6⟩ := h
  exact ⟨h1, Nat.lt_of_lt_of_le h2 hb.size, (hb.frozen (p := ⟨k, 0, none⟩) hk).trans h3, h4.trans (hb.mono (by omega)), v, (hb.cell (p := ⟨k, 0, none⟩) hk).trans h5, h6⟩

theorem RS.set {w0 w : World} {k : Nat} {ys zs : List Int} {v : Value} (h : RS w0 w k ys) (hv : Rd .u8 w0 v zs) : RS w0 (w.setCell ⟨k, 0, none⟩ v) k zs := by
  obtain ⟨h1, h2, h3, h4, u, h5, h6⟩ := h
  refine ⟨h1, by simpa using h2, ?_, h4.setCell h1 _, v, World.cell?_setCell_same _ _ _ h5, hv⟩
  rw [World.frozen?_setCell]; exact h3

theorem Rd.split {k : IntKind} {w : World} {b o n c : Nat} {ys : List Int} (h : Rd k w (.slice (some ⟨b, o, none⟩) n c) ys) (m : Nat) (hm : m ≤ n) (hm0 : 0 < m) :
    Rd k w (.slice (some ⟨b, o, none⟩) m c) (ys.take m) ∧ ∀ o', (o' = o + m ∨ n = m) → Rd k w (.slice (some ⟨b, o', none⟩) (n - m) (c - m)) (ys.drop m) := by
  obtain ⟨ao, cap, e, h1, h2, h3⟩ := h
  simp only [Value.slice.injEq] at e
  obtain ⟨rfl, rfl, rfl⟩ := e
  rcases h3 with rfl | ⟨b', o', e', hb, hc⟩
  · simp at hm; omega
  · simp only [Option.some.injEq, Addr.mk.injEq, and_true] at e'
    obtain ⟨rfl, rfl⟩ := e'
    refine ⟨⟨some ⟨b, o, none⟩, c, by rw [List.length_take, Nat.min_eq_left hm], by rw [List.length_take]; omega, h2, .inr ⟨b, o, rfl, hb, fun i hi => ?_⟩⟩, fun o' ho' => ⟨some ⟨b, o', none⟩, c - m, by rw [List.length_drop], by rw [List.length_drop]; omega, by omega, ?_⟩⟩
    · rw [List.length_take] at hi
      rw [hc i (by omega)]
      simp [List.getD, List.getElem?_take_of_lt (show i < m by omega)]
    · rcases ho' with rfl | hnm
      · refine .inr ⟨b, o + m, rfl, hb, fun i hi => ?_⟩
        rw [List.length_drop] at hi
        rw [Nat.add_assoc, hc (m + i) (by omega)]
        simp [List.getD]
      · exact .inl (List.drop_eq_nil_of_le (by omega))

theorem take_any (w0 w : World) (k m : Nat) (ys : List Int) (h : RS w0 w k ys) (hm : m ≤ ys.length) (hm0 : 0 < m) :
    Calls Tryz.prog 77 #[.pointer (some ⟨k, 0, none⟩), .int .i64 m] w fun e w' => ∃ b o c v', e = .returned (.slice (some ⟨b, o, none⟩) m c) ∧ b < w0.heap.size ∧ (∀ i, i < m → w0.cell? ⟨b, o + i, none⟩ = some (.int .u8 (ys.getD i 0))) ∧ RS w0 w' k (ys.drop m) ∧ w' = w.setCell ⟨k, 0, none⟩ v' := by
  obtain ⟨h1, h2, h3, h4, v, h5, h6⟩ := h
  have h6' := h6
  obtain ⟨ao, c, rfl, g1, g2, g3⟩ := h6
  rcases g3 with rfl | ⟨b, o, rfl, hb, hc⟩
  · simp at hm; omega
  · refine (take_ok w k b o ys.length c m h5 h3 hm hm0 g1).mono ?_
    rintro e w' ⟨rfl, o', ho', rfl⟩
    exact ⟨b, o, c, _, rfl, hb, fun i hi => hc i (by omega), RS.set ⟨h1, h2, h3, h4, _, h5, h6'⟩ ((Rd.split h6' m hm hm0).2 o' ho'), rfl⟩

theorem take_none (w0 w : World) (k m : Nat) (ys : List Int) (h : RS w0 w k ys) (hm : ys.length < m) :
    Calls Tryz.prog 77 #[.pointer (some ⟨k, 0, none⟩), .int .i64 m] w fun e w' => e = .panicked badChain ∧ w' = w := by
  obtain ⟨-, -, -, -, v, h5, h6⟩ := h
  obtain ⟨ao, c, rfl, -, -, -⟩ := h6
  exact take_bad w k _ c m ao h5 hm

set_option maxHeartbeats 400000 in
set_option maxRecDepth 100000 in
theorem number_none (w0 w : World) (k m : Nat) (ys : List Int) (h : RS w0 w k ys) (hm : ys.length < m) :
    Calls Tryz.prog 44 #[.pointer (some ⟨k, 0, none⟩), .int .i64 m] w fun e w' => e = .panicked badChain ∧ w' = w := by
  have H := hd9 (take_none w0 w k m ys h hm)
  clear h hm
  go_enter Tryz.func44, Tryz.ntmps44
  go_wp2_with fail
  refine H.out.mono ?_
  rintro e w1 ⟨rfl, rfl⟩
  exact ⟨rfl, rfl, rfl⟩

set_option maxHeartbeats 400000 in
set_option maxRecDepth 100000 in
theorem number_any (w0 w : World) (k m : Nat) (ys : List Int) (h : RS w0 w k ys) (hm : m ≤ ys.length) (hm0 : 0 < m) (hm8 : m ≤ 8) (hby : Byt ys) :
    Calls Tryz.prog 44 #[.pointer (some ⟨k, 0, none⟩), .int .i64 m] w fun e w' => e = .returned (.int .i64 (wrap64 ((numB (ys.take m) : Nat) : Int))) ∧ RS w0 w' k (ys.drop m) ∧ ∃ v' q, w' = (w.setCell ⟨k, 0, none⟩ v').drewN q := by
  have H := hd9 (take_any w0 w k m ys h hm hm0)
  have HBY := hd9 hby
  have HM := hd9 hm
  clear h hby hm
  go_enter Tryz.func44, Tryz.ntmps44
  go_wp2_with fail
  refine H.out.mono ?_
  rintro e w1 ⟨b, o, c, v', rfl, hb, hc, hr, hw⟩
  have HC := hd9 hc
  have HR := hd9 hr
  have HW := hd9 hw
  clear hc hr hw
  go_wp2
  go_loopw [5, 12] (fun vn vi wr => ∃ (i : Nat) (z : Int), i ≤ m ∧ vi = .int .i64 i ∧ vn = .int .i64 z ∧ Hid (z = wrap64 ((numB (ys.take i) : Nat) : Int)) ∧ ∃ q, wr = w1.drewN q) (fun _ i _ => m - (intOf i).toNat)
  case atStart => exact ⟨0, 0, Nat.zero_le _, rfl, rfl, (by show (0 : Int) = _; unfold wrap64; rw [List.take_zero, numB_nil]; rfl), 0, rfl⟩
  case round =>
    obtain ⟨i, z, hi, rfl, rfl, HZ, q, rfl⟩ := hrel
    by_cases hlt : i < m
    · have hI : (i : Int) < (m : Int) := by omega
      obtain ⟨x, hx, hxe⟩ := byt_at HBY.out i
      have c1 : w1.cell? ⟨b, o + i, none⟩ = some (.int .u8 (x : Int)) := by rw [HR.out.2.2.2.1.cell (p := ⟨b, o + i, none⟩) hb, HC.out i hlt, hxe]
      have HXE := hd9 hxe
      have hxI : (x : Int) < 256 := by omega
      clear hxe
      have HN : Hid (bits .or .i64 (wrap64 (z * 256)) (x : Int) = wrap64 ((numB (ys.take (i + 1)) : Nat) : Int)) := by
        show _ = _
        have ht : ys.take (i + 1) = ys.take i ++ [(x : Int)] := by
          have hl : i < ys.length := by have := HM.out; omega
          have he := HXE.out
          simp only [List.getD, List.getElem?_eq_getElem hl, Option.getD_some] at he
          rw [List.take_succ_eq_append_getElem hl, he]
        rw [ht, numB_snoc, HZ.out, wrap64_shl, i64_join _ _ hx, Int.toNat_natCast]
      go_wp2
      exact ⟨⟨i + 1, _, by omega, by go_num, rfl, HN, q, rfl⟩, by simp [intOf]; omega⟩
    · have him : i = m := by omega
      subst him
      have HRQ := hd9 (HR.out.drewN q)
      have HWQ : Hid (∃ v' q', w1.drewN q = (w.setCell ⟨k, 0, none⟩ v').drewN q') := ⟨v', q, by rw [HW.out]⟩
      go_wp2
      go_ret
      exact ⟨ret_int HZ.out, HRQ.out, HWQ.out⟩


/-- A text at the head of bytes, and what is behind it. -/
def rdT : List Int → Option (ByteArray × List Int)
  | [] => none
  | y :: r => if y.toNat ≤ r.length then some (strOfNums (r.take y.toNat), r.drop y.toNat) else none
def num4 (ys : List Int) (i : Nat) : Int := ((numB ((ys.drop (4 * i)).take 4) : Nat) : Int)
/-- A node at the head of bytes, and what is behind it. -/
def rdNd (ys : List Int) : Option (Nd × List Int) :=
  match rdT ys with
  | none => none
  | some (p, r1) =>
    match rdT r1 with
    | none => none
    | some (d, r2) => if 20 ≤ r2.length then some (⟨p, d, num4 r2 0, num4 r2 1, num4 r2 2, num4 r2 3, num4 r2 4⟩, r2.drop 20) else none
theorem byt_drop {ys : List Int} (h : Byt ys) (n : Nat) : Byt (ys.drop n) := fun x hx => h x (List.mem_of_mem_drop hx)
theorem rdT_some {ys r : List Int} {s : ByteArray} (h : rdT ys = some (s, r)) : ∃ y t, ys = y :: t ∧ y.toNat ≤ t.length ∧ s = strOfNums (t.take y.toNat) ∧ r = t.drop y.toNat := by
  cases ys with
  | nil => simp [rdT] at h
  | cons y t =>
    simp only [rdT] at h
    by_cases hy : y.toNat ≤ t.length
    · rw [if_pos hy] at h
      simp only [Option.some.injEq, Prod.mk.injEq] at h
      exact ⟨y, t, rfl, hy, h.1.symm, h.2.symm⟩
    · rw [if_neg hy] at h; cases h
theorem rdT_byt {ys r : List Int} {s : ByteArray} (h : rdT ys = some (s, r)) (hb : Byt ys) : Byt r ∧ r.length < ys.length ∧ s.size < 256 := by
  obtain ⟨y, t, rfl, h1, rfl, rfl⟩ := rdT_some h
  refine ⟨fun x hx => hb x (List.mem_cons_of_mem _ (List.mem_of_mem_drop hx)), by simp; omega, ?_⟩
  have := hb y (by simp)
  rw [strOfNums_size, List.length_take]
  omega
theorem rdNd_byt {ys r : List Int} {n : Nd} (h : rdNd ys = some (n, r)) (hb : Byt ys) : Byt r ∧ r.length < ys.length ∧ n.path.size < 256 ∧ n.data.size < 256 := by
  unfold rdNd at h
  cases h1 : rdT ys with
  | none => rw [h1] at h; cases h
  | some q =>
    obtain ⟨p, r1⟩ := q
    rw [h1] at h
    simp only at h
    cases h2 : rdT r1 with
    | none => rw [h2] at h; cases h
    | some q2 =>
      obtain ⟨d, r2⟩ := q2
      rw [h2] at h
      simp only at h
      by_cases h3 : 20 ≤ r2.length
      · rw [if_pos h3] at h
        simp only [Option.some.injEq, Prod.mk.injEq] at h
        obtain ⟨rfl, rfl⟩ := h
        have b1 := rdT_byt h1 hb
        have b2 := rdT_byt h2 b1.1
        refine ⟨byt_drop b2.1 _, ?_, b1.2.2, b2.2.2⟩
        rw [List.length_drop]; omega
      · rw [if_neg h3] at h; cases h


set_option maxHeartbeats 400000 in
set_option maxRecDepth 100000 in
theorem take_zero (w : World) (k n c : Nat) (ao : Option Addr) (h0 : w.cell? ⟨k, 0, none⟩ = some (.slice ao n c)) (hz : w.frozen? ⟨k, 0, none⟩ = false) :
    Calls Tryz.prog 77 #[.pointer (some ⟨k, 0, none⟩), .int .i64 0] w fun e w' => e = .returned (.slice ao 0 c) ∧ w' = w.setCell ⟨k, 0, none⟩ (.slice ao n c) := by
  have hI : ¬ (n : Int) < 0 := by omega
  go_enter Tryz.func77, Tryz.ntmps77
  cases ao with
  | none =>
    go_wp2
    go_ret
    exact ⟨rfl, rfl⟩
  | some a =>
    go_wp2
    go_ret
    exact ⟨rfl, rfl⟩

theorem take_gen (w0 w : World) (k m : Nat) (ys : List Int) (h : RS w0 w k ys) (hm : m ≤ ys.length) :
    Calls Tryz.prog 77 #[.pointer (some ⟨k, 0, none⟩), .int .i64 m] w fun e w' => ∃ v1, e = .returned v1 ∧ Rd .u8 w0 v1 (ys.take m) ∧ RS w0 w' k (ys.drop m) ∧ w.grownBy w' (some k) := by
  have h' := h
  obtain ⟨h1, h2, h3, h4, v, h5, h6⟩ := h
  have h6' := h6
  obtain ⟨ao, c, rfl, g1, g2, g3⟩ := h6
  by_cases hm0 : m = 0
  · subst hm0
    refine (take_zero w k ys.length c ao h5 h3).mono ?_
    rintro e w' ⟨rfl, rfl⟩
    refine ⟨_, rfl, ⟨ao, c, by simp, Nat.zero_le _, g2, .inl (List.take_zero)⟩, ?_, grownBy_set _ _ _ _ _ (World.grownBy.refl _ _)⟩
    rw [List.drop_zero]
    exact RS.set h' h6'
  · rcases g3 with rfl | ⟨b, o, rfl, hb, hc⟩
    · simp at hm; omega
    · refine (take_ok w k b o ys.length c m h5 h3 hm (by omega) g1).mono ?_
      rintro e w' ⟨rfl, o', ho', rfl⟩
      have hs := Rd.split h6' m hm (by omega)
      exact ⟨_, rfl, hs.1, RS.set h' (hs.2 o' ho'), grownBy_set _ _ _ _ _ (World.grownBy.refl _ _)⟩

set_option maxHeartbeats 400000 in
set_option maxRecDepth 100000 in
theorem oneByte_any (w0 w : World) (k : Nat) (y : Int) (r : List Int) (h : RS w0 w k (y :: r)) :
    Calls Tryz.prog 78 #[.pointer (some ⟨k, 0, none⟩)] w fun e w' => e = .returned (.int .u8 y) ∧ RS w0 w' k r ∧ w.grownBy w' (some k) := by
  have H : Hid (Calls Tryz.prog 77 #[.pointer (some ⟨k, 0, none⟩), .int .i64 1] w fun e w' => ∃ b o c, e = .returned (.slice (some ⟨b, o, none⟩) 1 c) ∧ w'.cell? ⟨b, o, none⟩ = some (.int .u8 y) ∧ Hid (RS w0 w' k r) ∧ Hid (w.grownBy w' (some k))) := by
    refine (take_any w0 w k 1 (y :: r) h (by simp) (by omega)).mono ?_
    rintro e w' ⟨b, o, c, v', rfl, hb, hc, hr, rfl⟩
    have h0 := hc 0 (by omega)
    refine ⟨b, o, c, rfl, ?_, (by show RS _ _ _ _; simpa using hr), grownBy_set _ _ _ _ _ (World.grownBy.refl _ _)⟩
    rw [hr.2.2.2.1.cell (p := ⟨b, o, none⟩) hb]
    simpa using h0
  clear h
  go_enter Tryz.func78, Tryz.ntmps78
  go_wp2_with fail
  refine H.out.mono ?_
  rintro e w1 ⟨b, o, c, rfl, hc, hr, hg⟩
  go_wp2
  go_ret
  exact ⟨rfl, hr.out, hg.out⟩

set_option maxHeartbeats 400000 in
set_option maxRecDepth 100000 in
theorem oneByte_none (w0 w : World) (k : Nat) (h : RS w0 w k []) :
    Calls Tryz.prog 78 #[.pointer (some ⟨k, 0, none⟩)] w fun e w' => e = .panicked badChain ∧ w' = w := by
  have H : Hid (Calls Tryz.prog 77 #[.pointer (some ⟨k, 0, none⟩), .int .i64 1] w fun e w' => e = .panicked badChain ∧ w' = w) := take_none w0 w k 1 [] h (by simp)
  clear h
  go_enter Tryz.func78, Tryz.ntmps78
  go_wp2_with fail
  refine H.out.mono ?_
  rintro e w1 ⟨rfl, rfl⟩
  exact ⟨rfl, rfl, rfl⟩

def TxPost (w0 w : World) (k : Nat) (ys : List Int) (e : Ending) (w' : World) : Prop :=
  w.grownBy w' (some k) ∧ ((rdT ys = none ∧ e = .panicked badChain) ∨ ∃ s r, rdT ys = some (s, r) ∧ e = .returned (.string s) ∧ RS w0 w' k r)

set_option maxHeartbeats 400000 in
set_option maxRecDepth 100000 in
theorem text_any (w0 w : World) (k : Nat) (ys : List Int) (h : RS w0 w k ys) (hby : Byt ys) :
    Calls Tryz.prog 80 #[.pointer (some ⟨k, 0, none⟩)] w fun e w' => TxPost w0 w k ys e w' := by
  have HS := hd9 h
  clear h
  go_enter Tryz.func80, Tryz.ntmps80
  go_wp2_with fail
  cases ys with
  | nil =>
    refine (oneByte_none w0 w k HS.out).mono ?_
    rintro e w1 ⟨rfl, rfl⟩
    exact ⟨rfl, World.grownBy.refl _ _, .inl ⟨rfl, rfl⟩⟩
  | cons y r =>
    have hy := hby y (by simp)
    obtain ⟨m, rfl⟩ : ∃ m : Nat, y = (m : Int) := ⟨y.toNat, by omega⟩
    have hm : m < 256 := by omega
    clear hby hy
    refine (oneByte_any w0 w k m r HS.out).mono ?_
    rintro e w1 ⟨rfl, r1, g1⟩
    have R1 := hd9 r1
    have G1 := hd9 g1
    clear r1 g1 HS
    have hmI : (m : Int) < 256 := by omega
    go_wp2_with fail
    by_cases hl : m ≤ r.length
    · refine (take_gen w0 w1 k m r R1.out hl).mono ?_
      rintro e w2 ⟨v2, rfl, rd2, r2, g2⟩
      have hcv := conv_any (rd2.below r2.2.2.2.1)
      have HP : Hid (TxPost w0 w k ((m : Int) :: r) (.returned (.string (strOfNums (r.take m)))) w2) := by
        refine ⟨G1.out.trans g2, .inr ⟨_, _, ?_, rfl, r2⟩⟩
        simp only [rdT, Int.toNat_natCast]
        rw [if_pos hl]
      clear rd2 r2 g2 R1 G1
      go_wp2
      go_ret
      exact HP.out
    · refine (take_none w0 w1 k m r R1.out (by omega)).mono ?_
      rintro e w2 ⟨rfl, rfl⟩
      refine ⟨rfl, G1.out, .inl ⟨?_, rfl⟩⟩
      simp only [rdT, Int.toNat_natCast]
      rw [if_neg hl]


def stP (b p : Nat) : Value := .agg #[.pointer (some ⟨b, p + 2, none⟩), .pointer (some ⟨b, p + 3, none⟩), .pointer (some ⟨b, p + 4, none⟩), .pointer (some ⟨b, p + 5, none⟩), .pointer (some ⟨b, p + 6, none⟩)]

set_option maxHeartbeats 1000000 in
set_option maxRecDepth 100000 in
theorem stats_any (w : World) (b p : Nat) :
    Calls Tryz.prog 102 #[.pointer (some ⟨b, p, none⟩)] w fun e w' => e = .returned (stP b p) ∧ Below w.heap.size w w' := by
  go_enter Tryz.func102, Tryz.ntmps102
  go_wp2
  refine wp_region_held_drew (S := fun _ => True) (by kernel_rfl) (trivial) (fun hHeld => ?_)
  refine wpAnyH_take (i := 0) (oi := { dst := some 3, op := _, type := _, pos := _, after := _, guard := _ }) (v := (.pointer (some ⟨b, p, none⟩))) rfl (by kernel_rfl) (by kernel_rfl) (by kernel_rfl) (fun _ _ _ h => h) (Or.inl ⟨by rfl, ?hy1⟩) (by assumption) ?rest1
  case hy1 =>
    intro w9 hS9
    go_simp
  try simp only [Act.put, List.setIfInBounds_toArray, List.set_cons_zero, List.set_cons_succ]
  refine wpAnyH_take (i := 1) (oi := { dst := some 4, op := _, type := _, pos := _, after := _, guard := _ }) (v := (.pointer (some ⟨b, p, none⟩))) rfl (by kernel_rfl) (by kernel_rfl) (by kernel_rfl) (fun _ _ _ h => h) (Or.inl ⟨by rfl, ?hy2⟩) (by assumption) ?rest2
  case hy2 =>
    intro w9 hS9
    go_simp
  try simp only [Act.put, List.setIfInBounds_toArray, List.set_cons_zero, List.set_cons_succ]
  refine wpAnyH_take (i := 2) (oi := { dst := some 5, op := _, type := _, pos := _, after := _, guard := _ }) (v := (.pointer (some ⟨b, p, none⟩))) rfl (by kernel_rfl) (by kernel_rfl) (by kernel_rfl) (fun _ _ _ h => h) (Or.inl ⟨by rfl, ?hy3⟩) (by assumption) ?rest3
  case hy3 =>
    intro w9 hS9
    go_simp
  try simp only [Act.put, List.setIfInBounds_toArray, List.set_cons_zero, List.set_cons_succ]
  refine wpAnyH_take (i := 3) (oi := { dst := some 6, op := _, type := _, pos := _, after := _, guard := _ }) (v := (.pointer (some ⟨b, p + 2, none⟩))) rfl (by kernel_rfl) (by kernel_rfl) (by kernel_rfl) (fun _ _ _ h => h) (Or.inl ⟨by rfl, ?hy4⟩) (by assumption) ?rest4
  case hy4 =>
    intro w9 hS9
    go_simp
  try simp only [Act.put, List.setIfInBounds_toArray, List.set_cons_zero, List.set_cons_succ]
  refine wpAnyH_take (i := 4) (oi := { dst := some 7, op := _, type := _, pos := _, after := _, guard := _ }) (v := (.pointer (some ⟨b, p, none⟩))) rfl (by kernel_rfl) (by kernel_rfl) (by kernel_rfl) (fun _ _ _ h => h) (Or.inl ⟨by rfl, ?hy5⟩) (by assumption) ?rest5
  case hy5 =>
    intro w9 hS9
    go_simp
  try simp only [Act.put, List.setIfInBounds_toArray, List.set_cons_zero, List.set_cons_succ]
  refine wpAnyH_take (i := 5) (oi := { dst := some 8, op := _, type := _, pos := _, after := _, guard := _ }) (v := (.pointer (some ⟨b, p, none⟩))) rfl (by kernel_rfl) (by kernel_rfl) (by kernel_rfl) (fun _ _ _ h => h) (Or.inl ⟨by rfl, ?hy6⟩) (by assumption) ?rest6
  case hy6 =>
    intro w9 hS9
    go_simp
  try simp only [Act.put, List.setIfInBounds_toArray, List.set_cons_zero, List.set_cons_succ]
  refine wpAnyH_take (i := 6) (oi := { dst := some 9, op := _, type := _, pos := _, after := _, guard := _ }) (v := (.pointer (some ⟨b, p, none⟩))) rfl (by kernel_rfl) (by kernel_rfl) (by kernel_rfl) (fun _ _ _ h => h) (Or.inl ⟨by rfl, ?hy7⟩) (by assumption) ?rest7
  case hy7 =>
    intro w9 hS9
    go_simp
  try simp only [Act.put, List.setIfInBounds_toArray, List.set_cons_zero, List.set_cons_succ]
  refine wpAnyH_take (i := 7) (oi := { dst := some 10, op := _, type := _, pos := _, after := _, guard := _ }) (v := (.pointer (some ⟨b, p + 3, none⟩))) rfl (by kernel_rfl) (by kernel_rfl) (by kernel_rfl) (fun _ _ _ h => h) (Or.inl ⟨by rfl, ?hy8⟩) (by assumption) ?rest8
  case hy8 =>
    intro w9 hS9
    go_simp
  try simp only [Act.put, List.setIfInBounds_toArray, List.set_cons_zero, List.set_cons_succ]
  refine wpAnyH_take (i := 8) (oi := { dst := some 11, op := _, type := _, pos := _, after := _, guard := _ }) (v := (.pointer (some ⟨b, p, none⟩))) rfl (by kernel_rfl) (by kernel_rfl) (by kernel_rfl) (fun _ _ _ h => h) (Or.inl ⟨by rfl, ?hy9⟩) (by assumption) ?rest9
  case hy9 =>
    intro w9 hS9
    go_simp
  try simp only [Act.put, List.setIfInBounds_toArray, List.set_cons_zero, List.set_cons_succ]
  refine wpAnyH_take (i := 9) (oi := { dst := some 12, op := _, type := _, pos := _, after := _, guard := _ }) (v := (.pointer (some ⟨b, p, none⟩))) rfl (by kernel_rfl) (by kernel_rfl) (by kernel_rfl) (fun _ _ _ h => h) (Or.inl ⟨by rfl, ?hy10⟩) (by assumption) ?rest10
  case hy10 =>
    intro w9 hS9
    go_simp
  try simp only [Act.put, List.setIfInBounds_toArray, List.set_cons_zero, List.set_cons_succ]
  refine wpAnyH_take (i := 10) (oi := { dst := some 13, op := _, type := _, pos := _, after := _, guard := _ }) (v := (.pointer (some ⟨b, p, none⟩))) rfl (by kernel_rfl) (by kernel_rfl) (by kernel_rfl) (fun _ _ _ h => h) (Or.inl ⟨by rfl, ?hy11⟩) (by assumption) ?rest11
  case hy11 =>
    intro w9 hS9
    go_simp
  try simp only [Act.put, List.setIfInBounds_toArray, List.set_cons_zero, List.set_cons_succ]
  refine wpAnyH_take (i := 11) (oi := { dst := some 14, op := _, type := _, pos := _, after := _, guard := _ }) (v := (.pointer (some ⟨b, p + 4, none⟩))) rfl (by kernel_rfl) (by kernel_rfl) (by kernel_rfl) (fun _ _ _ h => h) (Or.inl ⟨by rfl, ?hy12⟩) (by assumption) ?rest12
  case hy12 =>
    intro w9 hS9
    go_simp
  try simp only [Act.put, List.setIfInBounds_toArray, List.set_cons_zero, List.set_cons_succ]
  refine wpAnyH_take (i := 12) (oi := { dst := some 15, op := _, type := _, pos := _, after := _, guard := _ }) (v := (.pointer (some ⟨b, p, none⟩))) rfl (by kernel_rfl) (by kernel_rfl) (by kernel_rfl) (fun _ _ _ h => h) (Or.inl ⟨by rfl, ?hy13⟩) (by assumption) ?rest13
  case hy13 =>
    intro w9 hS9
    go_simp
  try simp only [Act.put, List.setIfInBounds_toArray, List.set_cons_zero, List.set_cons_succ]
  refine wpAnyH_take (i := 13) (oi := { dst := some 16, op := _, type := _, pos := _, after := _, guard := _ }) (v := (.pointer (some ⟨b, p, none⟩))) rfl (by kernel_rfl) (by kernel_rfl) (by kernel_rfl) (fun _ _ _ h => h) (Or.inl ⟨by rfl, ?hy14⟩) (by assumption) ?rest14
  case hy14 =>
    intro w9 hS9
    go_simp
  try simp only [Act.put, List.setIfInBounds_toArray, List.set_cons_zero, List.set_cons_succ]
  refine wpAnyH_take (i := 14) (oi := { dst := some 17, op := _, type := _, pos := _, after := _, guard := _ }) (v := (.pointer (some ⟨b, p, none⟩))) rfl (by kernel_rfl) (by kernel_rfl) (by kernel_rfl) (fun _ _ _ h => h) (Or.inl ⟨by rfl, ?hy15⟩) (by assumption) ?rest15
  case hy15 =>
    intro w9 hS9
    go_simp
  try simp only [Act.put, List.setIfInBounds_toArray, List.set_cons_zero, List.set_cons_succ]
  refine wpAnyH_take (i := 15) (oi := { dst := some 18, op := _, type := _, pos := _, after := _, guard := _ }) (v := (.pointer (some ⟨b, p + 5, none⟩))) rfl (by kernel_rfl) (by kernel_rfl) (by kernel_rfl) (fun _ _ _ h => h) (Or.inl ⟨by rfl, ?hy16⟩) (by assumption) ?rest16
  case hy16 =>
    intro w9 hS9
    go_simp
  try simp only [Act.put, List.setIfInBounds_toArray, List.set_cons_zero, List.set_cons_succ]
  refine wpAnyH_take (i := 16) (oi := { dst := some 19, op := _, type := _, pos := _, after := _, guard := _ }) (v := (.pointer (some ⟨b, p, none⟩))) rfl (by kernel_rfl) (by kernel_rfl) (by kernel_rfl) (fun _ _ _ h => h) (Or.inl ⟨by rfl, ?hy17⟩) (by assumption) ?rest17
  case hy17 =>
    intro w9 hS9
    go_simp
  try simp only [Act.put, List.setIfInBounds_toArray, List.set_cons_zero, List.set_cons_succ]
  refine wpAnyH_take (i := 17) (oi := { dst := some 20, op := _, type := _, pos := _, after := _, guard := _ }) (v := (.pointer (some ⟨b, p, none⟩))) rfl (by kernel_rfl) (by kernel_rfl) (by kernel_rfl) (fun _ _ _ h => h) (Or.inl ⟨by rfl, ?hy18⟩) (by assumption) ?rest18
  case hy18 =>
    intro w9 hS9
    go_simp
  try simp only [Act.put, List.setIfInBounds_toArray, List.set_cons_zero, List.set_cons_succ]
  refine wpAnyH_take (i := 18) (oi := { dst := some 21, op := _, type := _, pos := _, after := _, guard := _ }) (v := (.pointer (some ⟨b, p, none⟩))) rfl (by kernel_rfl) (by kernel_rfl) (by kernel_rfl) (fun _ _ _ h => h) (Or.inl ⟨by rfl, ?hy19⟩) (by assumption) ?rest19
  case hy19 =>
    intro w9 hS9
    go_simp
  try simp only [Act.put, List.setIfInBounds_toArray, List.set_cons_zero, List.set_cons_succ]
  refine wpAnyH_take (i := 19) (oi := { dst := some 22, op := _, type := _, pos := _, after := _, guard := _ }) (v := (.pointer (some ⟨b, p + 6, none⟩))) rfl (by kernel_rfl) (by kernel_rfl) (by kernel_rfl) (fun _ _ _ h => h) (Or.inl ⟨by rfl, ?hy20⟩) (by assumption) ?rest20
  case hy20 =>
    intro w9 hS9
    go_simp
  try simp only [Act.put, List.setIfInBounds_toArray, List.set_cons_zero, List.set_cons_succ]
  refine wpAnyH_take (i := 20) (oi := { dst := some 23, op := _, type := _, pos := _, after := _, guard := _ }) (v := (stP b p)) rfl (by kernel_rfl) (by kernel_rfl) (by kernel_rfl) (fun _ _ _ h => h) (Or.inl ⟨by rfl, ?hy21⟩) (by assumption) ?rest21
  case hy21 =>
    intro w9 hS9
    go_simp
    rfl
  try simp only [Act.put, List.setIfInBounds_toArray, List.set_cons_zero, List.set_cons_succ]
  refine wpAnyH_ready (rs := [21]) (by kernel_rfl) (by simp) ?_
  refine AllReadyH.cons (o := { dst := none, op := _, type := _, pos := _, after := _, guard := _ }) rfl (fun K hK => ?_) AllReadyH.nil
  unfold stP
  go_simp
  refine hK.out _ _ trivial (fun hx9 => ?_)
  clear hK K hHeld hx9
  refine wpAnyH_done (by kernel_rfl) ?_ _
  go_wp2
  refine bodyPost_ret (v := stP b p) (by simp [results, Tryz.results102, go_sem, stP]) rfl ⟨rfl, ?_⟩
  exact ((Below.refl _ _).alloc (Nat.le_refl _) _).trans ((below_drewN' _ 1).mono (by simp))


/-- The cells of a box of another type are kept. -/
theorem KT.box {e t : TypeId} {w w' : World} {b : Nat} {A : Array Value} {f : Nat × Nat} (h : KT e w w') (hb : w.heap[b]? = some (.cells A t f)) (ht : t ≠ e) : w'.heap[b]? = some (.cells A t f) := by
  have hlt := (Array.getElem?_eq_some_iff.1 hb).1
  rw [h.2 b hlt (by rw [hb]; rintro ⟨cur, h⟩; injection h with h; injection h with _ h2; exact ht h2), hb]
/-- A node at the head of a box of its own. -/
def BxN (w : World) (b : Nat) (n : Nd) : Prop := (∃ A t f, w.heap[b]? = some (.cells A t f) ∧ t ≠ 5) ∧ CellsN w b 0 n
theorem BxN.keep {w w' : World} {b : Nat} {n : Nd} (h : BxN w b n) (hk : KT 5 w w') : BxN w' b n := by
  obtain ⟨⟨A, t, f, h1, h2⟩, h3⟩ := h
  have h4 := hk.box h1 h2
  have e : ∀ q, w'.cell? ⟨b, q, none⟩ = w.cell? ⟨b, q, none⟩ := fun q => World.cell?_of_block (a := ⟨b, q, none⟩) (by show w'.heap[b]? = w.heap[b]?; rw [h4, h1])
  exact ⟨⟨A, t, f, h4, h2⟩, (e _).trans h3.c0, (e _).trans h3.c1, (e _).trans h3.c2, (e _).trans h3.c3, (e _).trans h3.c4, (e _).trans h3.c5, (e _).trans h3.c6⟩
theorem BxN.below {w w' : World} {b : Nat} {n : Nd} (h : BxN w b n) (hk : Below w.heap.size w w') : BxN w' b n := h.keep ((KT.refl _ _).below hk)
theorem BxN.cells {w : World} {b : Nat} {n : Nd} (h : BxN w b n) : CellsN w b 0 n := h.2
theorem cell_of {w : World} {b : Nat} {A : Array Value} {t : TypeId} {f : Nat × Nat} (h : w.heap[b]? = some (.cells A t f)) (q : Nat) : w.cell? ⟨b, q, none⟩ = A[q]? := by simp [World.cell?, h]
theorem KT.cell {e t : TypeId} {w w' : World} {b : Nat} {A : Array Value} {f : Nat × Nat} (h : KT e w w') (hb : w.heap[b]? = some (.cells A t f)) (ht : t ≠ e) (q : Nat) : w'.cell? ⟨b, q, none⟩ = w.cell? ⟨b, q, none⟩ :=
  World.cell?_of_block (a := ⟨b, q, none⟩) (by show w'.heap[b]? = w.heap[b]?; rw [h.box hb ht, hb])

/-- The images of the first k of five numbers. -/
def stK (a b c d e k : Nat) : List Int := ([a, b, c, d, e].take k).flatMap fun z => bigR z 4
theorem stK_len (a b c d e k : Nat) : (stK a b c d e k).length ≤ 20 := by
  unfold stK
  match k with
  | 0 => simp
  | 1 => simp [bigR_len]
  | 2 => simp [bigR_len]
  | 3 => simp [bigR_len]
  | 4 => simp [bigR_len]
  | k + 5 => simp [bigR_len]
theorem stK_0 (a b c d e : Nat) : stK a b c d e 0 ++ bigR a 4 = stK a b c d e 1 := by simp [stK]
theorem stK_1 (a b c d e : Nat) : stK a b c d e 1 ++ bigR b 4 = stK a b c d e 2 := by simp [stK]
theorem stK_2 (a b c d e : Nat) : stK a b c d e 2 ++ bigR c 4 = stK a b c d e 3 := by simp [stK]
theorem stK_3 (a b c d e : Nat) : stK a b c d e 3 ++ bigR d 4 = stK a b c d e 4 := by simp [stK]
theorem stK_4 (a b c d e : Nat) : stK a b c d e 4 ++ bigR e 4 = stK a b c d e 5 := by simp [stK]

theorem ix_0 (W : World) (b : Nat) : (Instr.index 167 (.agg #[.pointer (some ⟨b, 2, none⟩), .pointer (some ⟨b, 3, none⟩), .pointer (some ⟨b, 4, none⟩), .pointer (some ⟨b, 5, none⟩), .pointer (some ⟨b, 6, none⟩)]) (.int .i64 0)).run Tryz.prog W = .ok (.pointer (some ⟨b, 2, none⟩)) W := by kernel_rfl

theorem ix_1 (W : World) (b : Nat) : (Instr.index 167 (.agg #[.pointer (some ⟨b, 2, none⟩), .pointer (some ⟨b, 3, none⟩), .pointer (some ⟨b, 4, none⟩), .pointer (some ⟨b, 5, none⟩), .pointer (some ⟨b, 6, none⟩)]) (.int .i64 1)).run Tryz.prog W = .ok (.pointer (some ⟨b, 3, none⟩)) W := by kernel_rfl

theorem ix_2 (W : World) (b : Nat) : (Instr.index 167 (.agg #[.pointer (some ⟨b, 2, none⟩), .pointer (some ⟨b, 3, none⟩), .pointer (some ⟨b, 4, none⟩), .pointer (some ⟨b, 5, none⟩), .pointer (some ⟨b, 6, none⟩)]) (.int .i64 2)).run Tryz.prog W = .ok (.pointer (some ⟨b, 4, none⟩)) W := by kernel_rfl

theorem ix_3 (W : World) (b : Nat) : (Instr.index 167 (.agg #[.pointer (some ⟨b, 2, none⟩), .pointer (some ⟨b, 3, none⟩), .pointer (some ⟨b, 4, none⟩), .pointer (some ⟨b, 5, none⟩), .pointer (some ⟨b, 6, none⟩)]) (.int .i64 3)).run Tryz.prog W = .ok (.pointer (some ⟨b, 5, none⟩)) W := by kernel_rfl

theorem ix_4 (W : World) (b : Nat) : (Instr.index 167 (.agg #[.pointer (some ⟨b, 2, none⟩), .pointer (some ⟨b, 3, none⟩), .pointer (some ⟨b, 4, none⟩), .pointer (some ⟨b, 5, none⟩), .pointer (some ⟨b, 6, none⟩)]) (.int .i64 4)).run Tryz.prog W = .ok (.pointer (some ⟨b, 6, none⟩)) W := by kernel_rfl

set_option maxHeartbeats 1000000 in
set_option maxRecDepth 100000 in
theorem encNode_any (w : World) (base : Nat) (v : Value) (xs : List Int) (b : Nat) (n : Nd) (h : Own .u8 5 w base v xs) (hb : base ≤ w.heap.size) (hl : xs.length ≤ 1000000) (hx : BxN w b n) (hn : okNd n = true) :
    Calls Tryz.prog 82 #[.pointer (some ⟨b, 0, none⟩), v] w fun e w' => ∃ v', e = .returned v' ∧ Own .u8 5 w' base v' (xs ++ nodeB n) ∧ Below base w w' ∧ KT 5 w w' := by
  obtain ⟨p1, p2, p3, p4, p5, p6, p7⟩ := okNd_all hn
  have HO : Hid (Own .u8 5 w base v xs) := h
  have HX : Hid (BxN w b n) := hx
  clear h hx hn
  obtain ⟨c0, c1, c2, c3, c4, c5, c6⟩ := HX.out.cells
  go_enter Tryz.func82, Tryz.ntmps82
  go_wp2_with fail
  refine (implText_any w base v xs n.path HO.out hb (by omega) (by omega)).mono ?_
  rintro e w1 ⟨v1, rfl, o1, b1, k1⟩
  have O1 : Hid (Own .u8 5 w1 base v1 (xs ++ txB n.path)) := o1
  have B1 : Hid (Below base w w1) := b1
  have X1 : Hid (BxN w1 b n) := HX.out.keep k1
  have K1 : Hid (KT 5 w w1) := k1
  have s1 := b1.size
  clear o1 b1 k1 c0 c1 c2 c3 c4 c5 c6
  obtain ⟨c0, c1, c2, c3, c4, c5, c6⟩ := X1.out.cells
  go_wp2_with fail
  refine (implText_any w1 base v1 _ n.data O1.out (by omega) (by rw [List.length_append, txB_len]; omega) (by omega)).mono ?_
  rintro e w2 ⟨v2, rfl, o2, b2, k2⟩
  have O2 : Hid (Own .u8 5 w2 base v2 (xs ++ txB n.path ++ txB n.data)) := o2
  have B2 : Hid (Below base w w2) := B1.out.trans b2
  have X2 : Hid (BxN w2 b n) := X1.out.keep k2
  have K2 : Hid (KT 5 w w2) := K1.out.trans k2
  have s2 := B2.out.size
  clear o2 b2 k2 c0 c1 c2 c3 c4 c5 c6 O1 X1 K1
  go_wp2_with fail
  refine (stats_any w2 b 0).mono ?_
  rintro e w3 ⟨rfl, b3⟩
  have O3 : Hid (Own .u8 5 w3 base v2 (xs ++ txB n.path ++ txB n.data)) := O2.out.below b3
  have B3 : Hid (Below base w w3) := B2.out.trans (b3.mono (by omega))
  have X3 : Hid (BxN w3 b n) := X2.out.below b3
  have K3 : Hid (KT 5 w w3) := K2.out.below b3
  clear b3 O2 X2 K2
  obtain ⟨z0, hz0⟩ : ∃ z : Nat, n.ver = (z : Int) := ⟨n.ver.toNat, by omega⟩
  obtain ⟨z1, hz1⟩ : ∃ z : Nat, n.cver = (z : Int) := ⟨n.cver.toNat, by omega⟩
  obtain ⟨z2, hz2⟩ : ∃ z : Nat, n.cz = (z : Int) := ⟨n.cz.toNat, by omega⟩
  obtain ⟨z3, hz3⟩ : ∃ z : Nat, n.mz = (z : Int) := ⟨n.mz.toNat, by omega⟩
  obtain ⟨z4, hz4⟩ : ∃ z : Nat, n.pz = (z : Int) := ⟨n.pz.toNat, by omega⟩
  have HZ : Hid (nodeB n = txB n.path ++ txB n.data ++ stK z0 z1 z2 z3 z4 5) := by
    show _ = _
    unfold nodeB stB stK
    simp [hz0, hz1, hz2, hz3, hz4]
  have HZ0 : Hid (n.ver = (z0 : Int)) := hz0
  have HZ1 : Hid (n.cver = (z1 : Int)) := hz1
  have HZ2 : Hid (n.cz = (z2 : Int)) := hz2
  have HZ3 : Hid (n.mz = (z3 : Int)) := hz3
  have HZ4 : Hid (n.pz = (z4 : Int)) := hz4
  have HL : Hid (∀ k, (xs ++ txB n.path ++ txB n.data ++ stK z0 z1 z2 z3 z4 k).length ≤ 1048576) := by
    intro k
    have := stK_len z0 z1 z2 z3 z4 k
    simp only [List.length_append, txB_len]
    omega
  clear hz0 hz1 hz2 hz3 hz4 p3 p4 p5 p6 p7
  obtain ⟨ys, hys⟩ : ∃ ys, ys = xs ++ txB n.path ++ txB n.data := ⟨_, rfl⟩
  have HYS : Hid (xs ++ nodeB n = ys ++ stK z0 z1 z2 z3 z4 5) := by show _ = _; rw [HZ.out, hys]; simp only [List.append_assoc]
  rw [← hys] at O3 HL
  clear hys HZ
  unfold stP
  go_wp2
  go_loopw [1, 23] (fun vi vk wr => ∃ k : Nat, k ≤ 5 ∧ vk = .int .i64 k ∧ Hid (Own .u8 5 wr base vi (ys ++ stK z0 z1 z2 z3 z4 k)) ∧ Hid (Below base w wr) ∧ Hid (KT 5 w wr) ∧ Hid (BxN wr b n)) (fun _ i _ => 5 - (intOf i).toNat)
  case atStart => exact ⟨0, by omega, rfl, by show Own _ _ _ _ _ _; unfold stK; simp; exact O3.out, B3, K3, X3⟩
  case round =>
    obtain ⟨k, hk, rfl, HW, HB, HK, HXr⟩ := hrel
    have sB := HB.out.size
    obtain ⟨-, -, c2, c3, c4, c5, c6⟩ := HXr.out.cells
    rw [HZ0.out] at c2
    rw [HZ1.out] at c3
    rw [HZ2.out] at c4
    rw [HZ3.out] at c5
    rw [HZ4.out] at c6
    rcases (show k = 0 ∨ k = 1 ∨ k = 2 ∨ k = 3 ∨ k = 4 ∨ k = 5 by omega) with rfl | rfl | rfl | rfl | rfl | rfl
    · have hix := fun W => ix_0 W b
      go_wp2_with fail
      clear hix
      refine (implNumber_any wr base _ _ z0 4 HW.out (by omega) (HL.out _) (by omega)).mono ?_
      rintro e w4 ⟨v4, rfl, o4, b4, k4⟩
      have O4 : Hid (Own .u8 5 w4 base v4 (ys ++ stK z0 z1 z2 z3 z4 1)) := by rw [List.append_assoc, stK_0] at o4; exact o4
      have B4 : Hid (Below base w w4) := HB.out.trans b4
      have K4 : Hid (KT 5 w w4) := HK.out.trans k4
      have X4 : Hid (BxN w4 b n) := HXr.out.keep k4
      clear o4 b4 k4 HW HB HK HXr c2 c3 c4 c5 c6
      go_wp2
      exact ⟨⟨1, by omega, rfl, O4, B4, K4, X4⟩, by simp [intOf]⟩
    · have hix := fun W => ix_1 W b
      go_wp2_with fail
      clear hix
      refine (implNumber_any wr base _ _ z1 4 HW.out (by omega) (HL.out _) (by omega)).mono ?_
      rintro e w4 ⟨v4, rfl, o4, b4, k4⟩
      have O4 : Hid (Own .u8 5 w4 base v4 (ys ++ stK z0 z1 z2 z3 z4 2)) := by rw [List.append_assoc, stK_1] at o4; exact o4
      have B4 : Hid (Below base w w4) := HB.out.trans b4
      have K4 : Hid (KT 5 w w4) := HK.out.trans k4
      have X4 : Hid (BxN w4 b n) := HXr.out.keep k4
      clear o4 b4 k4 HW HB HK HXr c2 c3 c4 c5 c6
      go_wp2
      exact ⟨⟨2, by omega, rfl, O4, B4, K4, X4⟩, by simp [intOf]⟩
    · have hix := fun W => ix_2 W b
      go_wp2_with fail
      clear hix
      refine (implNumber_any wr base _ _ z2 4 HW.out (by omega) (HL.out _) (by omega)).mono ?_
      rintro e w4 ⟨v4, rfl, o4, b4, k4⟩
      have O4 : Hid (Own .u8 5 w4 base v4 (ys ++ stK z0 z1 z2 z3 z4 3)) := by rw [List.append_assoc, stK_2] at o4; exact o4
      have B4 : Hid (Below base w w4) := HB.out.trans b4
      have K4 : Hid (KT 5 w w4) := HK.out.trans k4
      have X4 : Hid (BxN w4 b n) := HXr.out.keep k4
      clear o4 b4 k4 HW HB HK HXr c2 c3 c4 c5 c6
      go_wp2
      exact ⟨⟨3, by omega, rfl, O4, B4, K4, X4⟩, by simp [intOf]⟩
    · have hix := fun W => ix_3 W b
      go_wp2_with fail
      clear hix
      refine (implNumber_any wr base _ _ z3 4 HW.out (by omega) (HL.out _) (by omega)).mono ?_
      rintro e w4 ⟨v4, rfl, o4, b4, k4⟩
      have O4 : Hid (Own .u8 5 w4 base v4 (ys ++ stK z0 z1 z2 z3 z4 4)) := by rw [List.append_assoc, stK_3] at o4; exact o4
      have B4 : Hid (Below base w w4) := HB.out.trans b4
      have K4 : Hid (KT 5 w w4) := HK.out.trans k4
      have X4 : Hid (BxN w4 b n) := HXr.out.keep k4
      clear o4 b4 k4 HW HB HK HXr c2 c3 c4 c5 c6
      go_wp2
      exact ⟨⟨4, by omega, rfl, O4, B4, K4, X4⟩, by simp [intOf]⟩
    · have hix := fun W => ix_4 W b
      go_wp2_with fail
      clear hix
      refine (implNumber_any wr base _ _ z4 4 HW.out (by omega) (HL.out _) (by omega)).mono ?_
      rintro e w4 ⟨v4, rfl, o4, b4, k4⟩
      have O4 : Hid (Own .u8 5 w4 base v4 (ys ++ stK z0 z1 z2 z3 z4 5)) := by rw [List.append_assoc, stK_4] at o4; exact o4
      have B4 : Hid (Below base w w4) := HB.out.trans b4
      have K4 : Hid (KT 5 w w4) := HK.out.trans k4
      have X4 : Hid (BxN w4 b n) := HXr.out.keep k4
      clear o4 b4 k4 HW HB HK HXr c2 c3 c4 c5 c6
      go_wp2
      exact ⟨⟨5, by omega, rfl, O4, B4, K4, X4⟩, by simp [intOf]⟩
    · clear c2 c3 c4 c5 c6
      go_wp2
      go_ret
      exact ⟨_, rfl, (by rw [HYS.out]; exact HW.out), HB.out, HK.out⟩

end Go.Proofs.YtdiingonnddkcaaGreatDoor


