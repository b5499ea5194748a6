import Derived.Test.YtajnihjdhhmefaaEqDisk
import Derived.Test.YtajnihjdhhmefaaMarkE
namespace Go.Proofs.Ytajnihjdhhmefaa
open Go.RowKit

/-- Only blocks from lo to hi may have turned. -/
structure Within (lo hi : Nat) (w w' : World) : Prop where
  os : w'.os = w.os
  tape : w'.tape = w.tape
  output : w'.output = w.output
  size : w.heap.size ≤ w'.heap.size
  block : ∀ k, k < w.heap.size → (k < lo ∨ hi ≤ k) → w'.heap[k]? = w.heap[k]?

theorem Within.refl (lo hi : Nat) (w : World) : Within lo hi w w := ⟨rfl, rfl, rfl, Nat.le_refl _, fun _ _ _ => rfl⟩
theorem Within.trans {lo hi : Nat} {a b c : World} (h : Within lo hi a b) (k : Within lo hi b c) : Within lo hi a c :=
  ⟨k.os.trans h.os, k.tape.trans h.tape, k.output.trans h.output, Nat.le_trans h.size k.size, fun i hi hj => (k.block i (Nat.lt_of_lt_of_le hi h.size) hj).trans (h.block i hi hj)⟩
theorem Within.of_grown {lo hi : Nat} {a b : World} {row : Option Nat} (h : a.grownBy b row) (hr : ∀ g, row = some g → lo ≤ g ∧ g < hi) : Within lo hi a b :=
  ⟨h.os, h.tape, h.output, h.size, fun k hk hj => h.block k hk (fun e => by have := hr k e.symm; omega)⟩
theorem Within.of_below {lo hi : Nat} {a b : World} (h : Below a.heap.size a b) : Within lo hi a b := ⟨h.os, h.tape, h.output, h.size, fun k hk _ => h.block k hk⟩
theorem Within.setCell {lo hi g : Nat} (w : World) (h1 : lo ≤ g) (h2 : g < hi) (j : Nat) (u : Value) : Within lo hi w (w.setCell ⟨g, j, none⟩ u) :=
  Within.of_grown (grownBy_set w w g j u (World.grownBy.refl _ _)) (fun q e => by injection e with e; omega)
theorem Within.below {lo hi B : Nat} {a b c : World} (hb : Below B a b) (h : Within lo hi b c) (hB : B ≤ lo) (hs : B ≤ b.heap.size) : Below B a c :=
  ⟨h.os.trans hb.os, h.tape.trans hb.tape, h.output.trans hb.output, Nat.le_trans hb.size h.size, fun k hk => (h.block k (by omega) (.inl (by omega))).trans (hb.block k hk)⟩
theorem Within.own {lo hi : Nat} {a b : World} (h : Within lo hi a b) {k : IntKind} {e : TypeId} {B : Nat} {v : Value} {xs : List Int} (ho : Own k e a B v xs) (hv : ∀ g, v.ownBlock = some g → g < lo ∨ hi ≤ g) : Own k e b B v xs := by
  refine ⟨ho.1, ?_⟩
  rcases ho.2 with hn | ⟨g, cap, cur, rfl, hbg, hgg, rest⟩
  · exact .inl hn
  · exact .inr ⟨g, cap, cur, rfl, hbg, by rw [h.block g (Array.getElem?_eq_some_iff.1 hgg).1 (hv g rfl)]; exact hgg, rest⟩
theorem Within.ownW {lo hi : Nat} {a b : World} (h : Within lo hi a b) {e : TypeId} {B : Nat} {v : Value} {ps : List (Int × List Int)} {dv : Nat → Value} (ho : OwnW e a B v ps dv)
    (hv : ∀ g, v.ownBlock = some g → g < lo ∨ hi ≤ g) (hd : ∀ i, i < ps.length → ∀ g, (dv i).ownBlock = some g → g < lo ∨ hi ≤ g) : OwnW e b B v ps dv := by
  refine ⟨⟨ho.1.1, ?_⟩, fun i hi => (ho.2.1 i hi).elim fun _ h' => ⟨_, h.own h' (hd i hi)⟩, ho.2.2⟩
  rcases ho.1.2 with hn | ⟨g, cap, cur, rfl, hbg, hgg, rest⟩
  · exact .inl hn
  · exact .inr ⟨g, cap, cur, rfl, hbg, by rw [h.block g (Array.getElem?_eq_some_iff.1 hgg).1 (hv g rfl)]; exact hgg, rest⟩
theorem Within.box2 {lo hi : Nat} {a b : World} (h : Within lo hi a b) {q : Nat} {x y : Value} (hb : Box2 a q x y) (hq : q < lo ∨ hi ≤ q) : Box2 b q x y :=
  ⟨Nat.lt_of_lt_of_le hb.1 h.size, (World.cell?_of_block (w := a) (a := ⟨q, 0, none⟩) (h.block q hb.1 hq)).trans hb.2.1, (World.cell?_of_block (w := a) (a := ⟨q, 1, none⟩) (h.block q hb.1 hq)).trans hb.2.2⟩

/-- The mark of record i. -/
def ks (ps : List (Int × List Int)) (k : Int) (i : Nat) : Int := k + i + tot (ps.take i)
theorem ks_succ (ps : List (Int × List Int)) (k : Int) (i : Nat) (h : i < ps.length) : ks ps k (i + 1) = ks ps k i + 1 + (pD ps i).length := by
  unfold ks; rw [tot_take_succ ps i h]; omega
def mkP (ps : List (Int × List Int)) (k : Int) : List (Int × List Int) := (List.range ps.length).map fun i => (ks ps k i, marks (ks ps k i + 1) (pD ps i).length)
theorem mkP_len (ps : List (Int × List Int)) (k : Int) : (mkP ps k).length = ps.length := by simp [mkP]
theorem mkP_B (ps : List (Int × List Int)) (k : Int) (i : Nat) (h : i < ps.length) : pB (mkP ps k) i = ks ps k i := by unfold pB mkP; simp [List.getD, h]
theorem mkP_D (ps : List (Int × List Int)) (k : Int) (i : Nat) (h : i < ps.length) : pD (mkP ps k) i = marks (ks ps k i + 1) (pD ps i).length := by show ((mkP ps k).getD i (0, [])).2 = _; unfold mkP; simp [List.getD, h]

def mB (ps : List (Int × List Int)) (k0 : Int) (k i : Nat) : Int := if i < k then ks ps k0 i else pB ps i
def mD (ps : List (Int × List Int)) (k0 : Int) (k i : Nat) : List Int := if i < k then marks (ks ps k0 i + 1) (pD ps i).length else pD ps i

theorem tot_le (ps : List (Int × List Int)) (i : Nat) : tot (ps.take i) ≤ tot ps := by
  unfold tot
  conv => rhs; rw [← List.take_append_drop i ps, List.map_append, List.sum_append]
  omega

theorem rowW_setB {n k : Nat} {f f' : Nat → Int} {g : Nat → Value} (hk : k < n) (hf : ∀ i, i ≠ k → f i = f' i) : (rowW n f g).set (k * 2) (.int .i64 (f' k)) = rowW n f' g := by
  have h := rowW_set (n := n) (f := f) (f' := f') (g := g) (g' := g) hk hf (fun _ _ => rfl)
  rw [← h]
  apply List.ext_getElem?
  intro j
  by_cases e : k * 2 + 1 = j
  · subst e
    rw [List.getElem?_set_self (by simp [rowW_length]; omega), List.getElem?_set_ne (by omega), rowW_get _ _ _ _ (by omega), if_neg (by omega), show (k * 2 + 1) / 2 = k by omega]
  · rw [List.getElem?_set_ne (l := (rowW n f g).set (k * 2) (.int .i64 (f' k))) e]

set_option maxHeartbeats 1000000 in
set_option maxRecDepth 100000 in
theorem markWriteS_row (w : World) (lo hi g n cap : Nat) (ps : List (Int × List Int)) (dv : Nat → Value) (k0 : Int) (hp : ps.length = n) (ho : OwnW 71 w lo (.slice (some ⟨g, 0, none⟩) n cap) ps dv)
    (hg : g < hi) (hd : ∀ i, i < n → ∀ q, (dv i).ownBlock = some q → q < hi) (hk0 : 0 ≤ k0) (hk1 : k0 ≤ 4194304) (hn : n ≤ 1048576) (ht : tot ps ≤ 1048576) :
    Calls Try.prog 57 #[.slice (some ⟨g, 0, none⟩) n cap, .int .i64 k0] w fun e w' => e = .returned (.int .i64 (ks ps k0 n)) ∧ OwnW 71 w' lo (.slice (some ⟨g, 0, none⟩) n cap) (mkP ps k0) dv ∧ Within lo hi w w' ∧ (∀ q, q < w.heap.size → some q ≠ Value.ownBlock (.slice (some ⟨g, 0, none⟩) n cap) → (∀ i, i < n → (dv i).ownBlock ≠ some q) → w'.heap[q]? = w.heap[q]?) := by
  have hlo : lo ≤ g := (World.ownsRow.lt ho.1 g rfl).1
  have HP : Hid (ps.length = n) := hp
  have HD : Hid (∀ i, i < n → ∀ q, (dv i).ownBlock = some q → q < hi) := hd
  have HO : Hid (OwnW 71 w lo (.slice (some ⟨g, 0, none⟩) n cap) ps dv) := ho
  clear hd ho hp
  go_enter Try.func57, Try.ntmps57
  go_wp2
  go_loopw [1, 5] (fun kk i wr => ∃ k : Nat, k ≤ n ∧ i = .int .i64 k ∧ kk = .int .i64 (ks ps k0 k) ∧ wr.ownsRow lo 71 2 (.slice (some ⟨g, 0, none⟩) n cap) n (rowW n (mB ps k0 k) dv) ∧ Hid (∀ i, i < n → OwnB wr lo (dv i) (mD ps k0 k i)) ∧ Within lo hi w wr ∧ Hid (∀ q, q < w.heap.size → some q ≠ Value.ownBlock (.slice (some ⟨g, 0, none⟩) n cap) → (∀ i, i < n → (dv i).ownBlock ≠ some q) → wr.heap[q]? = w.heap[q]?)) (fun _ i _ => n - (intOf i).toNat)
  case atStart => exact ⟨0, Nat.zero_le _, rfl, (by unfold ks; simp [tot]), (by have := HO.out.1; rw [HP.out] at this; exact this), (fun i hi => HO.out.2.1 i (by rw [HP.out]; exact hi)), Within.refl _ _ _, fun _ _ _ _ => rfl⟩
  case round =>
    obtain ⟨k, hk, rfl, rfl, hr, HI, hw, HF⟩ := hrel
    by_cases hlt : k < n
    · have hltI : (k : Int) < (n : Int) := by omega
      have f0 := World.ownsRow.frozenAt hr (k * 2)
      have d0 := (World.ownsRow.cellAt hr (k * 2) (by omega)).trans (rowW_get n _ _ (k * 2) (by omega))
      have d1 := (World.ownsRow.cellAt hr (k * 2 + 1) (by omega)).trans (rowW_get n _ _ (k * 2 + 1) (by omega))
      rw [if_neg (by omega), show (k * 2 + 1) / 2 = k by omega] at d1
      obtain ⟨x0, d0⟩ : ∃ x, wr.cell? ⟨g, k * 2, none⟩ = some x := ⟨_, d0⟩
      have hb1 := tot_le ps k
      have hkk : 0 ≤ ks ps k0 k ∧ ks ps k0 k ≤ 6291457 := by unfold ks; omega
      have HKS : Hid (ks ps k0 (k + 1) = ks ps k0 k + 1 + (pD ps k).length) := ks_succ ps k0 k (by rw [HP.out]; exact hlt)
      have hlen : (pD ps k).length ≤ 1048576 := by
        have h1 := tot_take_succ ps k (by rw [HP.out]; exact hlt)
        have h2 := tot_le ps (k + 1)
        omega
      have HR : Hid (wr.ownsRow lo 71 2 (.slice (some ⟨g, 0, none⟩) n cap) n (rowW n (mB ps k0 k) dv)) := hr
      have HW : Hid (Within lo hi w wr) := hw
      have OK : Hid (OwnB wr lo (dv k) (pD ps k)) := by have := HI.out k hlt; unfold mD at this; rw [if_neg (by omega)] at this; exact this
      have NE : Hid (∀ i, i < n → (dv i).ownBlock = none ∨ (dv i).ownBlock ≠ some g) := fun i hi => by have := HO.out.2.2.2 i (by rw [HP.out]; exact hi); exact this
      obtain ⟨da, dc, hdk⟩ := OK.out.slice
      rw [hdk] at d1
      clear hr hw hb1
      generalize hkx : ks ps k0 k = kx at *
      have HKX : Hid (ks ps k0 k = kx) := hkx
      clear hkx
      go_wp2_with fail
      have OK2 : Hid (OwnB (wr.setCell ⟨g, k * 2, none⟩ (.int .i64 kx)) lo (.slice da (pD ps k).length dc) (pD ps k)) := by
        have h1 := OK.out.setAt (j := k * 2) (u := .int .i64 kx) (NE.out k hlt); rw [hdk] at h1; exact h1
      refine (markByteB_any _ lo _ (pD ps k) (kx + 1) OK2.out (by omega) (by omega) (by omega)).mono ?_
      rintro e w2 ⟨rfl, o2, g2⟩
      have HDK : Hid (dv k = .slice da (pD ps k).length dc) := hdk
      have O2 : Hid (OwnB w2 lo (.slice da (pD ps k).length dc) (marks (kx + 1) (pD ps k).length)) := o2
      have G2 : Hid ((wr.setCell ⟨g, k * 2, none⟩ (.int .i64 kx)).grownBy w2 (Value.ownBlock (.slice da (pD ps k).length dc))) := g2
      clear o2 g2 OK OK2 d0 d1 f0 hdk
      have S : Hid (w2.ownsRow lo 71 2 (.slice (some ⟨g, 0, none⟩) n cap) n (rowW n (mB ps k0 (k + 1)) dv) ∧ (∀ i, i < n → OwnB w2 lo (dv i) (mD ps k0 (k + 1) i)) ∧ Within lo hi w w2 ∧ (∀ q, q < w.heap.size → some q ≠ Value.ownBlock (.slice (some ⟨g, 0, none⟩) n cap) → (∀ i, i < n → (dv i).ownBlock ≠ some q) → w2.heap[q]? = w.heap[q]?)) := by
        have nek := NE.out k hlt
        rw [HDK.out] at nek
        have r1 := (World.ownsRow.stored HR.out (k * 2) (.int .i64 kx)).1
        rw [show Value.int .i64 kx = .int .i64 (mB ps k0 (k + 1) k) by unfold mB; rw [if_pos (by omega), HKX.out], rowW_setB hlt (by intro i hi; unfold mB; by_cases h : i < k; (rw [if_pos h, if_pos (by omega)]); (rw [if_neg h, if_neg (by omega)]))] at r1
        refine ⟨World.ownsRow.kept (by rw [show mB ps k0 (k + 1) k = kx by unfold mB; rw [if_pos (by omega), HKX.out]] at r1; exact r1) G2.out ?_, fun i hi => ?_, (HW.out.trans (Within.setCell wr hlo hg _ _)).trans (Within.of_grown G2.out (fun q hq => ⟨(O2.out.lt q hq).1, HD.out k hlt q (by rw [HDK.out]; exact hq)⟩)), fun q hq hn1 hn2 => ?_⟩
        · right
          rcases nek with h | h
          · rw [h]; simp [Value.ownBlock]
          · exact fun e => h e.symm
        · by_cases e : i = k
          · subst e
            unfold mD
            rw [if_pos (by omega), HDK.out, HKX.out]
            exact O2.out
          · have h1 : OwnB (wr.setCell ⟨g, k * 2, none⟩ (.int .i64 kx)) lo (dv i) (mD ps k0 k i) := (HI.out i hi).setAt (NE.out i hi)
            have h2 : mD ps k0 (k + 1) i = mD ps k0 k i := by unfold mD; by_cases h : i < k; (rw [if_pos h, if_pos (by omega)]); (rw [if_neg h, if_neg (by omega)])
            rw [h2]
            have ne := HO.out.2.2.1 i k (by rw [HP.out]; exact hi) (by rw [HP.out]; exact hlt) e
            unfold Ne2 at ne
            rw [HDK.out] at ne
            exact h1.other G2.out ne
        · have e1 : (wr.setCell ⟨g, k * 2, none⟩ (.int .i64 kx)).heap[q]? = wr.heap[q]? := Below.heap_setCell _ _ _ _ (fun e => hn1 (by simp [Value.ownBlock, e]))
          rw [G2.out.block q (by have := HW.out.size; simp; omega) (fun e => hn2 k hlt (by rw [HDK.out]; exact e.symm)), e1]
          exact HF.out q hq hn1 hn2
      clear HI HR HW O2 G2
      go_wp2
      go_roundw
      case rel => exact ⟨k + 1, by omega, by go_num, (by rw [HKS.out]), S.out.1, S.out.2.1, S.out.2.2.1, S.out.2.2.2⟩
      case measure => simp [intOf]; omega
    · have hkn : k = n := by omega
      subst hkn
      have FIN : Hid (OwnW 71 wr lo (.slice (some ⟨g, 0, none⟩) k cap) (mkP ps k0) dv ∧ Within lo hi w wr) := by
        refine ⟨⟨?_, fun i hi => ?_, fun i j hi hj => HO.out.2.2.1 i j (by rw [mkP_len] at hi; exact hi) (by rw [mkP_len] at hj; exact hj), fun i hi => HO.out.2.2.2 i (by rw [mkP_len] at hi; exact hi)⟩, hw⟩
        · rw [mkP_len, HP.out, rowW_congr (f' := mB ps k0 k) (g' := dv) (fun i hi => by rw [mkP_B ps k0 i (by rw [HP.out]; exact hi)]; unfold mB; rw [if_pos hi]) (fun _ _ => rfl)]
          exact hr
        · rw [mkP_len, HP.out] at hi
          have := HI.out i hi
          unfold mD at this
          rw [if_pos hi] at this
          rw [mkP_D ps k0 i (by rw [HP.out]; exact hi)]
          exact this
      clear hr hw HI
      go_wp2
      go_ret
      exact ⟨rfl, FIN.out.1, FIN.out.2, HF.out⟩

theorem markWriteS_any (w : World) (lo hi : Nat) (v : Value) (ps : List (Int × List Int)) (dv : Nat → Value) (k0 : Int) (ho : OwnW 71 w lo v ps dv)
    (hg : ∀ g, v.ownBlock = some g → g < hi) (hd : ∀ i, i < ps.length → ∀ q, (dv i).ownBlock = some q → q < hi) (hk0 : 0 ≤ k0) (hk1 : k0 ≤ 4194304) (hn : ps.length ≤ 1048576) (ht : tot ps ≤ 1048576) :
    Calls Try.prog 57 #[v, .int .i64 k0] w fun e w' => e = .returned (.int .i64 (ks ps k0 ps.length)) ∧ OwnW 71 w' lo v (mkP ps k0) dv ∧ Within lo hi w w' ∧ (∀ q, q < w.heap.size → some q ≠ v.ownBlock → (∀ i, i < ps.length → (dv i).ownBlock ≠ some q) → w'.heap[q]? = w.heap[q]?) := by
  rcases ho.1.2 with ⟨rfl, h0⟩ | ⟨g, cap, cur, rfl, _⟩
  · have : ps = [] := List.eq_nil_of_length_eq_zero h0
    subst this
    refine (markWriteS_nil w none 0 k0).mono ?_
    rintro e w' ⟨rfl, rfl⟩
    exact ⟨ret_int (by unfold ks; simp [tot]), ho, Within.refl _ _ _, fun _ _ _ _ => rfl⟩
  · exact markWriteS_row w lo hi g ps.length cap ps dv k0 rfl ho (hg g rfl) hd hk0 hk1 hn ht

set_option maxHeartbeats 1000000 in
set_option maxRecDepth 100000 in
theorem heldWriteS_row (w : World) (b o n cap : Nat) (ps : List (Int × List Int)) (k0 : Int) (hp : ps.length = n)
    (hc : ∀ i, i < n → w.cell? ⟨b, o + i * 2, none⟩ = some (.int .i64 (pB (mkP ps k0) i)) ∧ ∃ da c, w.cell? ⟨b, o + i * 2 + 1, none⟩ = some (.slice da (pD (mkP ps k0) i).length c) ∧ Rd .u8 w (.slice da (pD (mkP ps k0) i).length c) (pD (mkP ps k0) i))
    (hk0 : 0 ≤ k0) (hk1 : k0 ≤ 4194304) (hn : n ≤ 1048576) (ht : tot ps ≤ 1048576) :
    Calls Try.prog 61 #[.slice (some ⟨b, o, none⟩) n cap, .int .i64 k0] w fun e w' => e = .returned (.int .i64 (ks ps k0 n)) ∧ w' = w := by
  have HC : Hid (∀ i, i < n → w.cell? ⟨b, o + i * 2, none⟩ = some (.int .i64 (ks ps k0 i)) ∧ ∃ da c, w.cell? ⟨b, o + i * 2 + 1, none⟩ = some (.slice da (pD ps i).length c) ∧ Rd .u8 w (.slice da (pD ps i).length c) (marks (ks ps k0 i + 1) (pD ps i).length)) := by
    intro i hi
    have := hc i hi
    rw [mkP_B ps k0 i (by omega), mkP_D ps k0 i (by omega), marks_length] at this
    exact this
  have HP : Hid (ps.length = n) := hp
  clear hc hp
  go_enter Try.func61, Try.ntmps61
  go_wp2
  go_loop [1, 5] (fun kk i => ∃ k : Nat, k ≤ n ∧ i = .int .i64 k ∧ kk = .int .i64 (ks ps k0 k)) (fun _ i => n - (intOf i).toNat)
  case atStart => exact ⟨0, Nat.zero_le _, rfl, by unfold ks; simp [tot]⟩
  case round =>
    obtain ⟨k, hk, rfl, rfl⟩ := hrel
    by_cases hlt : k < n
    · have hltI : (k : Int) < (n : Int) := by omega
      obtain ⟨c1, da, dc, c2, r⟩ := HC.out k hlt
      have hb1 := tot_le ps k
      have hkk : 0 ≤ ks ps k0 k ∧ ks ps k0 k ≤ 6291457 := by unfold ks; omega
      have HKS : Hid (ks ps k0 (k + 1) = ks ps k0 k + 1 + (pD ps k).length) := ks_succ ps k0 k (by rw [HP.out]; exact hlt)
      have hlen : (pD ps k).length ≤ 1048576 := by
        have h1 := tot_take_succ ps k (by rw [HP.out]; exact hlt)
        have h2 := tot_le ps (k + 1)
        omega
      have RR : Hid (Rd .u8 w (.slice da (pD ps k).length dc) (marks (ks ps k0 k + 1) (pD ps k).length)) := r
      clear r hb1
      generalize ks ps k0 k = kx at *
      have t : (kx != kx) = false := by simp
      go_wp2_with fail
      refine (heldByteS_any _ _ (pD ps k).length (kx + 1) RR.out (by omega) (by omega) (by omega)).mono ?_
      rintro e w2 ⟨rfl, hw⟩
      subst hw
      have t2 : ¬ kx + 1 + ((pD ps k).length : Int) < 0 := by omega
      go_wp2
      go_round
      case rel => exact ⟨k + 1, by omega, by go_num, (by rw [HKS.out])⟩
      case measure => simp [intOf]; omega
    · have hkn : k = n := by omega
      subst hkn
      go_wp2
      go_ret
      exact ⟨rfl, rfl⟩

theorem heldWriteS_any (w : World) (v : Value) (ps : List (Int × List Int)) (k0 : Int) (h : RdW w v (mkP ps k0)) (hk0 : 0 ≤ k0) (hk1 : k0 ≤ 4194304) (hn : ps.length ≤ 1048576) (ht : tot ps ≤ 1048576) :
    Calls Try.prog 61 #[v, .int .i64 k0] w fun e w' => e = .returned (.int .i64 (ks ps k0 ps.length)) ∧ w' = w := by
  obtain ⟨ao, cap, rfl, k1, k2, k3⟩ := h
  rw [mkP_len] at *
  rcases k3 with h0 | ⟨b, o, rfl, hb, hc⟩
  · have h1 : ps.length = 0 := by have := congrArg List.length h0; rw [mkP_len] at this; simpa using this
    rw [h1]
    refine (heldWriteS_nil w ao cap k0).mono ?_
    rintro e w' ⟨rfl, rfl⟩
    exact ⟨ret_int (by unfold ks; simp [tot]), rfl⟩
  · exact heldWriteS_row w b o ps.length cap ps k0 rfl hc hk0 hk1 hn ht

/-- A disk of the call's own: its bytes in blocks from lo to mid, its records from mid to hi. -/
structure OwnD (w : World) (lo hi : Nat) (vd vp : Value) (dur : List Int) (ps : List (Int × List Int)) (dv : Nat → Value) : Prop where
  d : Own .u8 5 w lo vd dur
  p : OwnW 71 w lo vp ps dv
  dlt : ∀ g, vd.ownBlock = some g → g < hi
  plt : ∀ g, vp.ownBlock = some g → g < hi
  qlt : ∀ i, i < ps.length → ∀ g, (dv i).ownBlock = some g → g < hi
  dp : Ne2 vp vd
  dq : ∀ i, i < ps.length → Ne2 (dv i) vd

theorem OwnD.within {w w' : World} {lo hi l h : Nat} {vd vp : Value} {dur : List Int} {ps : List (Int × List Int)} {dv : Nat → Value} (ho : OwnD w lo hi vd vp dur ps dv) (hw : Within l h w w') (hd : hi ≤ l ∨ h ≤ lo) : OwnD w' lo hi vd vp dur ps dv :=
  ⟨hw.own ho.d (fun g hg => by have := (ho.d.lt g hg).1; have := ho.dlt g hg; omega),
   hw.ownW ho.p (fun g hg => by have := (World.ownsRow.lt ho.p.1 g hg).1; have := ho.plt g hg; omega) (fun i hi g hg => by have := ((ho.p.2.1 i hi).lt g hg).1; have := ho.qlt i hi g hg; omega),
   ho.dlt, ho.plt, ho.qlt, ho.dp, ho.dq⟩
theorem OwnD.below {w w' : World} {lo hi : Nat} {vd vp : Value} {dur : List Int} {ps : List (Int × List Int)} {dv : Nat → Value} (ho : OwnD w lo hi vd vp dur ps dv) (hb : Below w.heap.size w w') : OwnD w' lo hi vd vp dur ps dv :=
  ⟨ho.d.below hb, ho.p.below hb, ho.dlt, ho.plt, ho.qlt, ho.dp, ho.dq⟩

set_option maxHeartbeats 400000 in
theorem markDisk_any (w : World) (lo hi : Nat) (vd vp : Value) (dur : List Int) (ps : List (Int × List Int)) (dv : Nat → Value) (k : Int) (ho : OwnD w lo hi vd vp dur ps dv) (hhi : hi ≤ w.heap.size) (hk0 : 0 ≤ k) (hk1 : k ≤ 2097152) (hl : dur.length ≤ 1048576) (hn : ps.length ≤ 1048576) (ht : tot ps ≤ 1048576) :
    Calls Try.prog 27 #[.agg #[vd, vp], .int .i64 k] w fun e w' => e = .returned (.int .i64 (ks ps (k + dur.length) ps.length)) ∧ OwnD w' lo hi vd vp (marks k dur.length) (mkP ps (k + dur.length)) dv ∧ Within lo hi w w' := by
  have BA : Hid (Below w.heap.size w (w.alloc (.cells #[vd, vp] 45))) := (Below.refl _ _).alloc (Nat.le_refl _) _
  have HO : Hid (OwnD (w.alloc (.cells #[vd, vp] 45)) lo hi vd vp dur ps dv) := ho.below BA.out
  have X0 : Hid (Box2 (w.alloc (.cells #[vd, vp] 45)) w.heap.size vd vp) := Box2.new _ _ _ _
  clear ho
  go_enter Try.func27, Try.ntmps27
  go_wp2_with fail
  generalize w.alloc (.cells #[vd, vp] 45) = w0 at *
  refine (markByteS_any _ lo _ dur k HO.out.d hk0 (by omega) (by omega)).mono ?_
  rintro e w1 ⟨rfl, o1, g1⟩
  have W1 : Hid (Within lo hi w0 w1) := Within.of_grown g1 (fun q hq => ⟨(HO.out.d.lt q hq).1, HO.out.dlt q hq⟩)
  have O1 : Hid (Own .u8 5 w1 lo vd (marks k dur.length)) := o1
  have P1 : Hid (OwnW 71 w1 lo vp ps dv) := ⟨World.ownsRow.kept HO.out.p.1 g1 HO.out.dp, fun i hi => (HO.out.p.2.1 i hi).other g1 (HO.out.dq i hi), HO.out.p.2.2⟩
  have X1 : Hid (Box2 w1 w.heap.size vd vp) := W1.out.box2 X0.out (.inr hhi)
  obtain ⟨z1, c0, c1⟩ := X1.out
  clear o1 g1
  go_wp2_with fail
  refine (markWriteS_any _ lo hi _ ps dv (k + dur.length) P1.out HO.out.plt HO.out.qlt (by omega) (by omega) hn ht).mono ?_
  rintro e w2 ⟨rfl, o2, g2, f2⟩
  have FIN : Hid (OwnD w2 lo hi vd vp (marks k dur.length) (mkP ps (k + dur.length)) dv ∧ Within lo hi w w2) := by
    refine ⟨⟨?_, o2, HO.out.dlt, HO.out.plt, fun i hi => HO.out.qlt i (by rw [mkP_len] at hi; exact hi), HO.out.dp, fun i hi => HO.out.dq i (by rw [mkP_len] at hi; exact hi)⟩, ((Within.of_below BA.out).trans W1.out).trans g2⟩
    refine ⟨O1.out.1, ?_⟩
    rcases O1.out.2 with hn | ⟨g, cap, cur, hv, hbg, hgg, rest⟩
    · exact .inl hn
    · refine .inr ⟨g, cap, cur, hv, hbg, ?_, rest⟩
      have hb : vd.ownBlock = some g := by rw [hv]; rfl
      rw [f2 g (Array.getElem?_eq_some_iff.1 hgg).1 ?_ ?_]
      · exact hgg
      · rcases HO.out.dp with h | h
        · rw [h]; simp
        · rw [← hb]; exact fun e => h e.symm
      · intro i hi
        rcases HO.out.dq i hi with h | h
        · rw [h]; simp
        · rw [← hb]; exact h
  clear o2 g2 f2
  go_wp2
  go_ret
  exact ⟨rfl, FIN.out.1, FIN.out.2⟩

set_option maxHeartbeats 400000 in
theorem heldDisk_any (w : World) (vd vp : Value) (dl : Nat) (ps : List (Int × List Int)) (k : Int) (h : Rd .u8 w vd (marks k dl)) (hp : RdW w vp (mkP ps (k + dl))) (hk0 : 0 ≤ k) (hk1 : k ≤ 2097152) (hl : dl ≤ 1048576) (hn : ps.length ≤ 1048576) (ht : tot ps ≤ 1048576) :
    Calls Try.prog 30 #[.agg #[vd, vp], .int .i64 k] w fun e w' => e = .returned (.int .i64 (ks ps (k + dl) ps.length)) ∧ Below w.heap.size w w' := by
  have BA : Hid (Below w.heap.size w (w.alloc (.cells #[vd, vp] 45))) := (Below.refl _ _).alloc (Nat.le_refl _) _
  have HR : Hid (Rd .u8 (w.alloc (.cells #[vd, vp] 45)) vd (marks k dl)) := h.below BA.out
  have HP : Hid (RdW (w.alloc (.cells #[vd, vp] 45)) vp (mkP ps (k + dl))) := hp.below BA.out
  clear h hp
  go_enter Try.func30, Try.ntmps30
  go_wp2_with fail
  refine (heldByteS_any _ _ dl k HR.out hk0 (by omega) (by omega)).mono ?_
  rintro e w1 ⟨rfl, hw⟩
  subst hw
  have h0 : ¬ (k + (dl : Int)) < 0 := by omega
  go_wp2_with fail
  refine (heldWriteS_any _ _ ps (k + dl) HP.out (by omega) (by omega) hn ht).mono ?_
  rintro e w2 ⟨rfl, hw⟩
  subst hw
  have h1 : ¬ ks ps (k + dl) ps.length < 0 := by unfold ks; omega
  go_wp2
  go_ret
  exact ⟨rfl, BA.out⟩

end Go.Proofs.Ytajnihjdhhmefaa
