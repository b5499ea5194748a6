import Derived.Test.YtajnihjdhhmefaaRecAt
import Derived.Test.YtajnihjdhhmefaaMarkDisk
namespace Go.Proofs.Ytajnihjdhhmefaa
open Go.RowKit

def pR (rs : List (List Int)) (i : Nat) : List Int := rs.getD i []
def uV (us : List Value) (i : Nat) : Value := us.getD i (.slice none 0 0)

/-- A slice of payloads, as it is read. -/
def RdP (w : World) (v : Value) (rs : List (List Int)) : Prop :=
  ∃ ao cap, v = .slice ao rs.length cap ∧ rs.length ≤ cap ∧ cap ≤ maxLen ∧
    (rs = [] ∨ ∃ b off, ao = some ⟨b, off, none⟩ ∧ b < w.heap.size ∧ ∀ i, i < rs.length →
      ∃ da c, w.cell? ⟨b, off + i, none⟩ = some (.slice da (pR rs i).length c) ∧ Rd .u8 w (.slice da (pR rs i).length c) (pR rs i))

theorem RdP.len {w : World} {v : Value} {rs : List (List Int)} (h : RdP w v rs) : ∃ ao cap, v = .slice ao rs.length cap ∧ rs.length ≤ cap ∧ cap ≤ maxLen := by
  obtain ⟨ao, cap, h0, h1, h2, _⟩ := h
  exact ⟨ao, cap, h0, h1, h2⟩

theorem RdP.below {w w' : World} {v : Value} {rs : List (List Int)} (h : RdP w v rs) (hb : Below w.heap.size w w') : RdP w' v rs := by
  obtain ⟨ao, cap, rfl, h1, h2, h3⟩ := h
  refine ⟨ao, cap, rfl, h1, h2, ?_⟩
  rcases h3 with h3 | ⟨b, off, rfl, hlt, hc⟩
  · exact .inl h3
  · refine .inr ⟨b, off, rfl, Nat.lt_of_lt_of_le hlt hb.size, fun i hi => ?_⟩
    obtain ⟨da, c, c2, r⟩ := hc i hi
    exact ⟨da, c, (hb.cell (p := ⟨b, off + i, none⟩) hlt).trans c2, r.below hb⟩

/-- A slice of payloads of the call's own, each payload in a row of its own. -/
def OwnP (w : World) (lo : Nat) (v : Value) (rs : List (List Int)) (us : List Value) : Prop :=
  w.ownsRow lo 32 1 v rs.length us ∧ (∀ i, i < rs.length → Own .u8 5 w lo (uV us i) (pR rs i)) ∧
  (∀ i j, i < rs.length → j < rs.length → i ≠ j → Ne2 (uV us i) (uV us j)) ∧ ∀ i, i < rs.length → Ne2 (uV us i) v

theorem OwnP.len {w : World} {lo : Nat} {v : Value} {rs : List (List Int)} {us : List Value} (h : OwnP w lo v rs us) : us.length = rs.length := by have := h.1.1; omega

theorem uV_get {us : List Value} {i : Nat} (h : i < us.length) : us[i]? = some (uV us i) := by unfold uV; simp [List.getD, h]

theorem OwnP.cell {w : World} {lo g n cap : Nat} {rs : List (List Int)} {us : List Value} (h : OwnP w lo (.slice (some ⟨g, 0, none⟩) n cap) rs us) (i : Nat) (hi : i < rs.length) : w.cell? ⟨g, i, none⟩ = some (uV us i) := by
  have e : n = rs.length := by
    rcases h.1.2 with ⟨h', _⟩ | ⟨g', c', cur, h', _⟩
    · simp at h'
    · simp only [Value.slice.injEq] at h'; exact h'.2.1
  have h1 := h.1
  subst e
  exact (World.ownsRow.cellAt h1 i (by omega)).trans (uV_get (by rw [h.len]; exact hi))

theorem OwnP.rd {w : World} {lo : Nat} {v : Value} {rs : List (List Int)} {us : List Value} (h : OwnP w lo v rs us) : RdP w v rs := by
  rcases h.1.2 with ⟨rfl, h0⟩ | ⟨g, cap, cur, rfl, hb, hg, hn, hm, hs, ht⟩
  · have : rs = [] := List.eq_nil_of_length_eq_zero h0
    subst this
    exact ⟨none, 0, rfl, Nat.le_refl _, Nat.zero_le _, .inl rfl⟩
  · refine ⟨_, cap, rfl, hn, hm, .inr ⟨g, 0, rfl, (Array.getElem?_eq_some_iff.1 hg).1, fun i hi => ?_⟩⟩
    have c1 := h.cell i hi
    have o1 := h.2.1 i hi
    obtain ⟨da, c, e⟩ := Own.slice o1
    rw [e] at c1 o1
    exact ⟨da, c, by rw [Nat.zero_add]; exact c1, o1.rd⟩

theorem ownsRow_below {w w' : World} {lo n z : Nat} {e : TypeId} {v : Value} {us : List Value} (ho : w.ownsRow lo e z v n us) (hb : Below w.heap.size w w') : w'.ownsRow lo e z v n us := by
  refine ⟨ho.1, ?_⟩
  rcases ho.2 with hn | ⟨g, cap, cur, rfl, hbg, hgg, rest⟩
  · exact .inl hn
  · exact .inr ⟨g, cap, cur, rfl, hbg, by rw [hb.block g (Array.getElem?_eq_some_iff.1 hgg).1]; exact hgg, rest⟩

theorem OwnP.below {w w' : World} {lo : Nat} {v : Value} {rs : List (List Int)} {us : List Value} (h : OwnP w lo v rs us) (hb : Below w.heap.size w w') : OwnP w' lo v rs us :=
  ⟨ownsRow_below h.1 hb, fun i hi => (h.2.1 i hi).below hb, h.2.2⟩

theorem OwnP.slice {w : World} {lo : Nat} {v : Value} {rs : List (List Int)} {us : List Value} (h : OwnP w lo v rs us) : ∃ a c, v = .slice a rs.length c := by
  obtain ⟨a, c, h0, _⟩ := h.rd.len
  exact ⟨a, c, h0⟩

/-- All its blocks lie below hi. -/
def LtP (hi : Nat) (v : Value) (rs : List (List Int)) (us : List Value) : Prop := (∀ g, v.ownBlock = some g → g < hi) ∧ ∀ i, i < rs.length → ∀ g, (uV us i).ownBlock = some g → g < hi
theorem OwnP.lt {w : World} {lo : Nat} {v : Value} {rs : List (List Int)} {us : List Value} (h : OwnP w lo v rs us) : LtP w.heap.size v rs us :=
  ⟨fun g e => (World.ownsRow.lt h.1 g e).2, fun i hi g e => ((h.2.1 i hi).lt g e).2⟩

theorem Within.ownP {lo hi : Nat} {a b : World} (h : Within lo hi a b) {B : Nat} {v : Value} {rs : List (List Int)} {us : List Value} (ho : OwnP a B v rs us)
    (hv : ∀ g, v.ownBlock = some g → g < lo ∨ hi ≤ g) (hd : ∀ i, i < rs.length → ∀ g, (uV us i).ownBlock = some g → g < lo ∨ hi ≤ g) : OwnP b B v rs us := by
  refine ⟨⟨ho.1.1, ?_⟩, fun i hi => h.own (ho.2.1 i hi) (hd i hi), ho.2.2⟩
  rcases ho.1.2 with hn | ⟨g, cap, cur, rfl, hbg, hgg, rest⟩
  · exact .inl hn
  · exact .inr ⟨g, cap, cur, rfl, hbg, by rw [h.block g (Array.getElem?_eq_some_iff.1 hgg).1 (hv g rfl)]; exact hgg, rest⟩

theorem Within.ownP' {lo hi : Nat} {a b : World} (h : Within lo hi a b) {B hB : Nat} {v : Value} {rs : List (List Int)} {us : List Value} (ho : OwnP a B v rs us) (hl : LtP hB v rs us) (hd : hB ≤ lo ∨ hi ≤ B) : OwnP b B v rs us :=
  h.ownP ho (fun g e => by have := (World.ownsRow.lt ho.1 g e).1; have := hl.1 g e; omega) (fun i hi g e => by have := ((ho.2.1 i hi).lt g e).1; have := hl.2 i hi g e; omega)

def totP (rs : List (List Int)) : Nat := (rs.map List.length).sum
theorem totP_succ (rs : List (List Int)) (i : Nat) (h : i < rs.length) : totP (rs.take (i + 1)) = totP (rs.take i) + (pR rs i).length := by
  unfold totP pR
  rw [List.take_succ_eq_append_getElem h, List.map_append, List.sum_append]
  simp [List.getD, h]
theorem totP_le (rs : List (List Int)) (i : Nat) : totP (rs.take i) ≤ totP rs := by
  unfold totP
  conv => rhs; rw [← List.take_append_drop i rs, List.map_append, List.sum_append]
  omega
/-- The mark at which payload i begins. -/
def kp (rs : List (List Int)) (k : Int) (i : Nat) : Int := k + totP (rs.take i)
theorem kp_succ (rs : List (List Int)) (k : Int) (i : Nat) (h : i < rs.length) : kp rs k (i + 1) = kp rs k i + (pR rs i).length := by unfold kp; rw [totP_succ rs i h]; omega
theorem kp_zero (rs : List (List Int)) (k : Int) : kp rs k 0 = k := by unfold kp; simp [totP]
def mkR (rs : List (List Int)) (k : Int) : List (List Int) := (List.range rs.length).map fun i => marks (kp rs k i) (pR rs i).length
theorem mkR_len (rs : List (List Int)) (k : Int) : (mkR rs k).length = rs.length := by simp [mkR]
theorem mkR_get (rs : List (List Int)) (k : Int) (i : Nat) (h : i < rs.length) : pR (mkR rs k) i = marks (kp rs k i) (pR rs i).length := by
  show (mkR rs k).getD i [] = _; unfold mkR; simp [List.getD, h]
def mR (rs : List (List Int)) (k0 : Int) (k i : Nat) : List Int := if i < k then marks (kp rs k0 i) (pR rs i).length else pR rs i

theorem rs_ext {ps qs : List (List Int)} (hl : ps.length = qs.length) (h : ∀ i, i < ps.length → pR ps i = pR qs i) : ps = qs := by
  apply List.ext_getElem hl
  intro i h1 h2
  have := h i h1
  unfold pR at this
  simpa only [List.getD, List.getElem?_eq_getElem h1, List.getElem?_eq_getElem h2, Option.getD_some] using this

set_option maxHeartbeats 1000000 in
set_option maxRecDepth 100000 in
theorem eqPayloadS_row (w : World) (b o b2 o2 n ca cb : Nat) (ps qs : List (List Int)) (hp : ps.length = n) (hq : qs.length = n) (hn : n ≤ 1048576) (hb : b < w.heap.size) (hb2 : b2 < w.heap.size)
    (hc : ∀ i, i < n → ∃ da c, w.cell? ⟨b, o + i, none⟩ = some (.slice da (pR ps i).length c) ∧ Rd .u8 w (.slice da (pR ps i).length c) (pR ps i))
    (hc2 : ∀ i, i < n → ∃ da c, w.cell? ⟨b2, o2 + i, none⟩ = some (.slice da (pR qs i).length c) ∧ Rd .u8 w (.slice da (pR qs i).length c) (pR qs i)) :
    Calls Try.prog 42 #[.slice (some ⟨b, o, none⟩) n ca, .slice (some ⟨b2, o2, none⟩) n cb] w fun e w' => e = .returned (.bool (decide (ps = qs))) ∧ Below w.heap.size w w' := by
  have HC : Hid (∀ i, i < n → ∃ da c, w.cell? ⟨b, o + i, none⟩ = some (.slice da (pR ps i).length c) ∧ Rd .u8 w (.slice da (pR ps i).length c) (pR ps i)) := hc
  have HC2 : Hid (∀ i, i < n → ∃ da c, w.cell? ⟨b2, o2 + i, none⟩ = some (.slice da (pR qs i).length c) ∧ Rd .u8 w (.slice da (pR qs i).length c) (pR qs i)) := hc2
  have HP : Hid (ps.length = n) := hp
  have HQ : Hid (qs.length = n) := hq
  clear hc hc2 hp hq
  have h1 : ((n : Int) != (n : Int)) = false := by simp
  go_enter Try.func42, Try.ntmps42
  go_wp2
  go_loopw [5] (fun i wr => ∃ k : Nat, k ≤ n ∧ i = .int .i64 k ∧ Hid (∀ i, i < k → pR ps i = pR qs i) ∧ Below w.heap.size w wr) (fun i _ => n - (intOf i).toNat)
  case atStart => exact ⟨0, Nat.zero_le _, rfl, fun i hi => by omega, Below.refl _ _⟩
  case round =>
    obtain ⟨k, hk, rfl, HT, hg⟩ := hrel
    by_cases hlt : k < n
    · obtain ⟨da, dc, e2, r⟩ := HC.out k hlt
      obtain ⟨da2, dc2, g2, r2⟩ := HC2.out k hlt
      have e2' := (hg.cell (p := ⟨b, o + k, none⟩) hb).trans e2
      have g2' := (hg.cell (p := ⟨b2, o2 + k, none⟩) hb2).trans g2
      have hltI : (k : Int) < (n : Int) := by omega
      have HE : Hid (∀ q, Calls Try.prog 73 #[.agg #[.slice da (pR ps k).length dc], .agg #[.slice da2 (pR qs k).length dc2]] (wr.drewN q) fun e w' => e = .returned (.bool (decide (pR ps k = pR qs k))) ∧ Below w.heap.size w w') := by
        intro q
        refine (eqPayload_any _ _ _ (pR ps k) (pR qs k) ((r.below hg).drewN q) ((r2.below hg).drewN q)).mono ?_
        rintro e w' ⟨rfl, b'⟩
        exact ⟨rfl, (hg.trans ((below_drewN' wr q).mono hg.size)).trans (b'.mono hg.size)⟩
      clear e2 g2 r r2 hg
      by_cases heq : pR ps k = pR qs k
      · have HQ1 : Hid (pR ps k = pR qs k) := heq
        have HD : Hid (decide (pR ps k = pR qs k) = true) := by show _ = _; rw [decide_eq_true_eq]; exact heq
        clear heq
        go_wp2
        go_region_with (go_at_call 73; refine (HE.out 1).mono ?_; rintro e w' ⟨rfl, b'⟩; rw [HD.out])
        all_goals
          have HB : Hid (Below w.heap.size w w') := b'
          clear b'
          go_wp2
          go_roundw
          case rel => exact ⟨k + 1, by omega, by go_num, (fun i hi => by by_cases e : i = k; (subst e; exact HQ1.out); exact HT.out i (by omega)), HB.out⟩
          case measure => simp [intOf]; omega
      · have HD : Hid (decide (pR ps k = pR qs k) = false) := by show _ = _; rw [decide_eq_false_iff_not]; exact heq
        have HN : Hid (decide (ps = qs) = false) := by show _ = _; rw [decide_eq_false_iff_not]; intro h; subst h; exact heq rfl
        clear heq
        go_wp2
        go_region_with (go_at_call 73; refine (HE.out 1).mono ?_; rintro e w' ⟨rfl, b'⟩; rw [HD.out])
        all_goals
          have HB : Hid (Below w.heap.size w w') := b'
          clear b'
          go_wp2
          go_ret
          exact ⟨ret_bool HN.out.symm, HB.out⟩
    · have HY : Hid (decide (ps = qs) = true) := by show _ = _; rw [decide_eq_true_eq]; exact rs_ext (by rw [HP.out, HQ.out]) (fun i hi => HT.out i (by rw [HP.out] at hi; omega))
      have HG : Hid (Below w.heap.size w wr) := hg
      clear hg
      go_wp2
      go_ret
      exact ⟨ret_bool HY.out.symm, HG.out⟩

set_option maxHeartbeats 400000 in
theorem eqPayloadS_len (w : World) (ao bo : Option Addr) (n m ca cb : Nat) (h : n ≠ m) :
    Calls Try.prog 42 #[.slice ao n ca, .slice bo m cb] w fun e w' => e = .returned (.bool false) ∧ w' = w := by
  have h1 : ((n : Int) != (m : Int)) = true := by rw [bne_iff_ne]; omega
  go_enter Try.func42, Try.ntmps42
  go_wp2
  go_ret
  exact ⟨rfl, rfl⟩

set_option maxHeartbeats 400000 in
theorem eqPayloadS_nil (w : World) (ao bo : Option Addr) (ca cb : Nat) :
    Calls Try.prog 42 #[.slice ao 0 ca, .slice bo 0 cb] w fun e w' => e = .returned (.bool true) ∧ w' = w := by
  go_enter Try.func42, Try.ntmps42
  go_wp2
  go_loop [5] (fun i => i = .int .i64 0) (fun _ => 0)
  case atStart => rfl
  case round =>
    subst hrel
    go_wp2
    go_ret
    exact ⟨rfl, rfl⟩

theorem eqPayloadS_any (w : World) (va vb : Value) (ps qs : List (List Int)) (ha : RdP w va ps) (hb : RdP w vb qs) (hn : ps.length ≤ 1048576) :
    Calls Try.prog 42 #[va, vb] w fun e w' => e = .returned (.bool (decide (ps = qs))) ∧ Below w.heap.size w w' := by
  obtain ⟨ao, ca, rfl, h1, h2, h3⟩ := ha
  obtain ⟨bo, cb, rfl, k1, k2, k3⟩ := hb
  by_cases hne : ps.length = qs.length
  · rcases h3 with rfl | ⟨b, o, rfl, hb, hc⟩
    · have hy : qs = [] := List.eq_nil_of_length_eq_zero hne.symm
      subst hy
      refine (eqPayloadS_nil w ao bo ca cb).mono ?_
      rintro e w' ⟨rfl, rfl⟩
      exact ⟨ret_bool (by simp), Below.refl _ _⟩
    · rcases k3 with rfl | ⟨b2, o2, rfl, hb2, hc2⟩
      · have hx : ps = [] := List.eq_nil_of_length_eq_zero hne
        subst hx
        refine (eqPayloadS_nil w _ bo ca cb).mono ?_
        rintro e w' ⟨rfl, rfl⟩
        exact ⟨ret_bool (by simp), Below.refl _ _⟩
      · rw [← hne] at hc2 ⊢
        exact eqPayloadS_row w b o b2 o2 ps.length ca cb ps qs rfl hne.symm hn hb hb2 hc hc2
  · refine (eqPayloadS_len w ao bo _ _ ca cb hne).mono ?_
    rintro e w' ⟨rfl, rfl⟩
    exact ⟨ret_bool (by symm; rw [decide_eq_false_iff_not]; intro h; exact hne (by rw [h])), Below.refl _ _⟩

end Go.Proofs.Ytajnihjdhhmefaa
