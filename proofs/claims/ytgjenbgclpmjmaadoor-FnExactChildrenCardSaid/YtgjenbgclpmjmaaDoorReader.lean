import Derived.Test.YtgjenbgclpmjmaaDoorNumMath
namespace Go.Proofs.YtgjenbgclpmjmaaDoor
open Go.RowKit

def badChain : List PanicEntry := [{ v := .iface 135 (.agg #[]), recovered := false }]

set_option maxHeartbeats 400000 in
set_option maxRecDepth 100000 in
theorem take_bad (w : World) (k n c m : Nat) (ao : Option Addr) (h0 : w.cell? ⟨k, 0, none⟩ = some (.slice ao n c)) (hm : n < m) :
    Calls Tryd.prog 109 #[.pointer (some ⟨k, 0, none⟩), .int .i64 m] w fun e w' => e = .panicked badChain ∧ w' = w := by
  have hI : (n : Int) < (m : Int) := by omega
  go_enter Tryd.func109, Tryd.ntmps109
  go_wp2
  exact ⟨rfl, rfl, rfl⟩

def TakePost (w : World) (k b o n c m : Nat) (e : Ending) (w' : World) : Prop := e = .returned (.slice (some ⟨b, o, none⟩) m c) ∧ ∃ o', (o' = o + m ∨ n = m) ∧ w' = w.setCell ⟨k, 0, none⟩ (.slice (some ⟨b, o', none⟩) (n - m) (c - m))

set_option maxHeartbeats 400000 in
set_option maxRecDepth 100000 in
theorem take_ok (w : World) (k b o n c m : Nat) (h0 : w.cell? ⟨k, 0, none⟩ = some (.slice (some ⟨b, o, none⟩) n c)) (hz : w.frozen? ⟨k, 0, none⟩ = false) (hm : m ≤ n) (hm0 : 0 < m) (hc : n ≤ c) :
    Calls Tryd.prog 109 #[.pointer (some ⟨k, 0, none⟩), .int .i64 m] w fun e w' => TakePost w k b o n c m e w' := by
  have hI : ¬ (n : Int) < (m : Int) := by omega
  by_cases hcm : c = m
  · subst hcm
    go_enter Tryd.func109, Tryd.ntmps109
    go_wp2
    go_ret
    exact ⟨rfl, o, .inr (by omega), by rw [Nat.sub_self, show n - c = 0 by omega]⟩
  · have hcm' : m < c := by omega
    go_enter Tryd.func109, Tryd.ntmps109
    go_wp2
    go_ret
    exact ⟨rfl, o + m, .inl rfl, rfl⟩

/-- A reader: what is left of the bytes, in the world from before. -/
def RS (w0 w : World) (k : Nat) (ys : List Int) : Prop :=
  w0.heap.size ≤ k ∧ k < w.heap.size ∧ w.frozen? ⟨k, 0, none⟩ = false ∧ Below w0.heap.size w0 w ∧ ∃ v, w.cell? ⟨k, 0, none⟩ = some v ∧ Rd .u8 w0 v ys

theorem RS.drewN {w0 w : World} {k : Nat} {ys : List Int} (h : RS w0 w k ys) (q : Nat) : RS w0 (w.drewN q) k ys :=
  ⟨h.1, h.2.1, h.2.2.1, h.2.2.2.1.trans ((below_drewN' w q).mono h.2.2.2.1.size), h.2.2.2.2⟩

theorem RS.keep {w0 w w' : World} {k B : Nat} {ys : List Int} (h : RS w0 w k ys) (hb : Below B w w') (hk : k < B) : RS w0 w' k ys := by
  obtain ⟨h1, h2, h3, h4, v, h5, h6⟩ := h
  exact ⟨h1, Nat.lt_of_lt_of_le h2 hb.size, (hb.frozen (p := ⟨k, 0, none⟩) hk).trans h3, h4.trans (hb.mono (by omega)), v, (hb.cell (p := ⟨k, 0, none⟩) hk).trans h5, h6⟩

theorem RS.set {w0 w : World} {k : Nat} {ys zs : List Int} {v : Value} (h : RS w0 w k ys) (hv : Rd .u8 w0 v zs) : RS w0 (w.setCell ⟨k, 0, none⟩ v) k zs := by
  obtain ⟨h1, h2, h3, h4, u, h5, h6⟩ := h
  refine ⟨h1, by simpa using h2, ?_, h4.setCell h1 _, v, World.cell?_setCell_same _ _ _ h5, hv⟩
  rw [World.frozen?_setCell]; exact h3

theorem Rd.split {k : IntKind} {w : World} {b o n c : Nat} {ys : List Int} (h : Rd k w (.slice (some ⟨b, o, none⟩) n c) ys) (m : Nat) (hm : m ≤ n) (hm0 : 0 < m) :
    Rd k w (.slice (some ⟨b, o, none⟩) m c) (ys.take m) ∧ ∀ o', (o' = o + m ∨ n = m) → Rd k w (.slice (some ⟨b, o', none⟩) (n - m) (c - m)) (ys.drop m) := by
  obtain ⟨ao, cap, e, h1, h2, h3⟩ := h
  simp only [Value.slice.injEq] at e
  obtain ⟨rfl, rfl, rfl⟩ := e
  rcases h3 with rfl | ⟨b', o', e', hb, hc⟩
  · simp at hm; omega
  · simp only [Option.some.injEq, Addr.mk.injEq, and_true] at e'
    obtain ⟨rfl, rfl⟩ := e'
    refine ⟨⟨some ⟨b, o, none⟩, c, by rw [List.length_take, Nat.min_eq_left hm], by rw [List.length_take]; omega, h2, .inr ⟨b, o, rfl, hb, fun i hi => ?_⟩⟩, fun o' ho' => ⟨some ⟨b, o', none⟩, c - m, by rw [List.length_drop], by rw [List.length_drop]; omega, by omega, ?_⟩⟩
    · rw [List.length_take] at hi
      rw [hc i (by omega)]
      simp [List.getD, List.getElem?_take_of_lt (show i < m by omega)]
    · rcases ho' with rfl | hnm
      · refine .inr ⟨b, o + m, rfl, hb, fun i hi => ?_⟩
        rw [List.length_drop] at hi
        rw [Nat.add_assoc, hc (m + i) (by omega)]
        simp [List.getD]
      · exact .inl (List.drop_eq_nil_of_le (by omega))

theorem take_any (w0 w : World) (k m : Nat) (ys : List Int) (h : RS w0 w k ys) (hm : m ≤ ys.length) (hm0 : 0 < m) :
    Calls Tryd.prog 109 #[.pointer (some ⟨k, 0, none⟩), .int .i64 m] w fun e w' => ∃ b o c v', e = .returned (.slice (some ⟨b, o, none⟩) m c) ∧ b < w0.heap.size ∧ (∀ i, i < m → w0.cell? ⟨b, o + i, none⟩ = some (.int .u8 (ys.getD i 0))) ∧ RS w0 w' k (ys.drop m) ∧ w' = w.setCell ⟨k, 0, none⟩ v' := by
  obtain ⟨h1, h2, h3, h4, v, h5, h6⟩ := h
  have h6' := h6
  obtain ⟨ao, c, rfl, g1, g2, g3⟩ := h6
  rcases g3 with rfl | ⟨b, o, rfl, hb, hc⟩
  · simp at hm; omega
  · refine (take_ok w k b o ys.length c m h5 h3 hm hm0 g1).mono ?_
    rintro e w' ⟨rfl, o', ho', rfl⟩
    exact ⟨b, o, c, _, rfl, hb, fun i hi => hc i (by omega), RS.set ⟨h1, h2, h3, h4, _, h5, h6'⟩ ((Rd.split h6' m hm hm0).2 o' ho'), rfl⟩

theorem take_none (w0 w : World) (k m : Nat) (ys : List Int) (h : RS w0 w k ys) (hm : ys.length < m) :
    Calls Tryd.prog 109 #[.pointer (some ⟨k, 0, none⟩), .int .i64 m] w fun e w' => e = .panicked badChain ∧ w' = w := by
  obtain ⟨-, -, -, -, v, h5, h6⟩ := h
  obtain ⟨ao, c, rfl, -, -, -⟩ := h6
  exact take_bad w k _ c m ao h5 hm

set_option maxHeartbeats 400000 in
set_option maxRecDepth 100000 in
theorem number_none (w0 w : World) (k m : Nat) (ys : List Int) (h : RS w0 w k ys) (hm : ys.length < m) :
    Calls Tryd.prog 73 #[.pointer (some ⟨k, 0, none⟩), .int .i64 m] w fun e w' => e = .panicked badChain ∧ w' = w := by
  have H : Hid (Calls Tryd.prog 109 #[.pointer (some ⟨k, 0, none⟩), .int .i64 m] w fun e w' => e = .panicked badChain ∧ w' = w) := take_none w0 w k m ys h hm
  clear h hm
  go_enter Tryd.func73, Tryd.ntmps73
  go_wp2_with fail
  refine H.out.mono ?_
  rintro e w1 ⟨rfl, rfl⟩
  exact ⟨rfl, rfl, rfl⟩

set_option maxHeartbeats 400000 in
set_option maxRecDepth 100000 in
theorem number_any (w0 w : World) (k m : Nat) (ys : List Int) (h : RS w0 w k ys) (hm : m ≤ ys.length) (hm0 : 0 < m) (hm8 : m ≤ 8) (hby : Byt ys) :
    Calls Tryd.prog 73 #[.pointer (some ⟨k, 0, none⟩), .int .i64 m] w fun e w' => e = .returned (.int .i64 (wrap64 ((numB (ys.take m) : Nat) : Int))) ∧ RS w0 w' k (ys.drop m) ∧ ∃ v' q, w' = (w.setCell ⟨k, 0, none⟩ v').drewN q := by
  have H : Hid (Calls Tryd.prog 109 #[.pointer (some ⟨k, 0, none⟩), .int .i64 m] w fun e w' => ∃ b o c v', e = .returned (.slice (some ⟨b, o, none⟩) m c) ∧ b < w0.heap.size ∧ (∀ i, i < m → w0.cell? ⟨b, o + i, none⟩ = some (.int .u8 (ys.getD i 0))) ∧ RS w0 w' k (ys.drop m) ∧ w' = w.setCell ⟨k, 0, none⟩ v') := take_any w0 w k m ys h hm hm0
  have HBY : Hid (Byt ys) := hby
  have HM : Hid (m ≤ ys.length) := hm
  clear h hby hm
  go_enter Tryd.func73, Tryd.ntmps73
  go_wp2_with fail
  refine H.out.mono ?_
  rintro e w1 ⟨b, o, c, v', rfl, hb, hc, hr, hw⟩
  have HC : Hid (∀ i, i < m → w0.cell? ⟨b, o + i, none⟩ = some (.int .u8 (ys.getD i 0))) := hc
  have HR : Hid (RS w0 w1 k (ys.drop m)) := hr
  have HW : Hid (w1 = w.setCell ⟨k, 0, none⟩ v') := hw
  clear hc hr hw
  go_wp2
  go_loopw [5, 12] (fun vn vi wr => ∃ (i : Nat) (z : Int), i ≤ m ∧ vi = .int .i64 i ∧ vn = .int .i64 z ∧ Hid (z = wrap64 ((numB (ys.take i) : Nat) : Int)) ∧ ∃ q, wr = w1.drewN q) (fun _ i _ => m - (intOf i).toNat)
  case atStart => exact ⟨0, 0, Nat.zero_le _, rfl, rfl, (by show (0 : Int) = _; unfold wrap64; rw [List.take_zero, numB_nil]; rfl), 0, rfl⟩
  case round =>
    obtain ⟨i, z, hi, rfl, rfl, HZ, q, rfl⟩ := hrel
    by_cases hlt : i < m
    · have hI : (i : Int) < (m : Int) := by omega
      obtain ⟨x, hx, hxe⟩ := byt_at HBY.out i
      have c1 : w1.cell? ⟨b, o + i, none⟩ = some (.int .u8 (x : Int)) := by rw [HR.out.2.2.2.1.cell (p := ⟨b, o + i, none⟩) hb, HC.out i hlt, hxe]
      have HXE : Hid (ys.getD i 0 = (x : Int)) := hxe
      have hxI : (x : Int) < 256 := by omega
      clear hxe
      have HN : Hid (bits .or .i64 (wrap64 (z * 256)) (x : Int) = wrap64 ((numB (ys.take (i + 1)) : Nat) : Int)) := by
        show _ = _
        have ht : ys.take (i + 1) = ys.take i ++ [(x : Int)] := by
          have hl : i < ys.length := by have := HM.out; omega
          have he := HXE.out
          simp only [List.getD, List.getElem?_eq_getElem hl, Option.getD_some] at he
          rw [List.take_succ_eq_append_getElem hl, he]
        rw [ht, numB_snoc, HZ.out, wrap64_shl, i64_join _ _ hx, Int.toNat_natCast]
      go_wp2
      exact ⟨⟨i + 1, _, by omega, by go_num, rfl, HN, q, rfl⟩, by simp [intOf]; omega⟩
    · have him : i = m := by omega
      subst him
      have HRQ : Hid (RS w0 (w1.drewN q) k (ys.drop i)) := HR.out.drewN q
      have HWQ : Hid (∃ v' q', w1.drewN q = (w.setCell ⟨k, 0, none⟩ v').drewN q') := ⟨v', q, by rw [HW.out]⟩
      go_wp2
      go_ret
      exact ⟨ret_int HZ.out, HRQ.out, HWQ.out⟩

end Go.Proofs.YtgjenbgclpmjmaaDoor
