import Derived.Test.YtajnihjdhhmefaaDiskTo
namespace Go.Proofs.Ytajnihjdhhmefaa
open Go.RowKit

theorem Try.infoW : (Try.prog.info? 71).map (fun i => (i.zero, i.size, i.bytes)) = some (some (.agg #[.int .i64 0, .slice none 0 0]), 2, 32) := by kernel_rfl

/-- Of the first k records. -/
def pBk (ps : List (Int × List Int)) (k i : Nat) : Int := if i < k then pB ps i else 0
def dvk (dv : Nat → Value) (k i : Nat) : Value := if i < k then dv i else .slice none 0 0
def dvSet (dv : Nat → Value) (k : Nat) (v : Value) (i : Nat) : Value := if i = k then v else dv i

theorem rowW_step {n k : Nat} (ps : List (Int × List Int)) (dv : Nat → Value) (v : Value) (hk : k < n) :
    ((rowW n (pBk ps k) (dvk dv k)).set (k * 2) (.int .i64 (pB ps k))).set (k * 2 + 1) v = rowW n (pBk ps (k + 1)) (dvk (dvSet dv k v) (k + 1)) := by
  have h := rowW_set (n := n) (f := pBk ps k) (f' := pBk ps (k + 1)) (g := dvk dv k) (g' := dvk (dvSet dv k v) (k + 1)) hk
    (by intro i hi; unfold pBk; by_cases h : i < k
        · rw [if_pos h, if_pos (by omega)]
        · rw [if_neg h, if_neg (by omega)])
    (by intro i hi; unfold dvk dvSet; by_cases h : i < k
        · rw [if_pos h, if_pos (by omega), if_neg hi]
        · rw [if_neg h, if_neg (by omega)])
  rw [show pBk ps (k + 1) k = pB ps k from if_pos (by omega), show dvk (dvSet dv k v) (k + 1) k = v by unfold dvk dvSet; rw [if_pos (by omega), if_pos rfl]] at h
  exact h

theorem toWriteS_step {w2 w : World} {n k B lo : Nat} (ps : List (Int × List Int)) (dv : Nat → Value) {v : Value} (hk : k < n)
    (ho : w2.ownsRow lo 71 2 (.slice (some ⟨lo, 0, none⟩) n n) n (rowW n (pBk ps k) (dvk dv k))) (hB : lo < B)
    (h1 : ∀ i, i < k → Own .u8 5 w2 (lo + 1) (dv i) (pD ps i)) (h2 : ∀ i j, i < k → j < k → i ≠ j → Ne2 (dv i) (dv j)) (h3 : ∀ i, i < k → ∀ g, (dv i).ownBlock = some g → g < B)
    (h4 : Own .u8 5 w2 B v (pD ps k)) (hb : Below lo w w2) :
    ((w2.setCell ⟨lo, k * 2, none⟩ (.int .i64 (pB ps k))).setCell ⟨lo, k * 2 + 1, none⟩ v).ownsRow lo 71 2 (.slice (some ⟨lo, 0, none⟩) n n) n (rowW n (pBk ps (k + 1)) (dvk (dvSet dv k v) (k + 1))) ∧
    ((∀ i, i < k + 1 → Own .u8 5 ((w2.setCell ⟨lo, k * 2, none⟩ (.int .i64 (pB ps k))).setCell ⟨lo, k * 2 + 1, none⟩ v) (lo + 1) (dvSet dv k v i) (pD ps i)) ∧
      (∀ i j, i < k + 1 → j < k + 1 → i ≠ j → Ne2 (dvSet dv k v i) (dvSet dv k v j))) ∧
    Below lo w ((w2.setCell ⟨lo, k * 2, none⟩ (.int .i64 (pB ps k))).setCell ⟨lo, k * 2 + 1, none⟩ v) := by
  have ne : ∀ {x : Value} {q : List Int}, Own .u8 5 w2 (lo + 1) x q → x.ownBlock = none ∨ x.ownBlock ≠ some lo := by
    intro x q h
    cases hv : x.ownBlock with
    | none => exact .inl rfl
    | some g => exact .inr (fun e => by have := (h.lt g hv).1; simp at e; omega)
  refine ⟨?_, ⟨fun i hi => ?_, fun i j hi hj hne => ?_⟩, (hb.setCell (Nat.le_refl _) _).setCell (Nat.le_refl _) _⟩
  · have s1 := (World.ownsRow.stored ho (k * 2) (.int .i64 (pB ps k))).1
    have s2 := (World.ownsRow.stored s1 (k * 2 + 1) v).1
    rw [rowW_step ps dv v hk] at s2
    exact s2
  · unfold dvSet
    by_cases e : i = k
    · subst e
      rw [if_pos rfl]
      have h5 := h4.mono (show lo + 1 ≤ B by omega)
      exact (h5.setAt (ne h5)).setAt (ne h5)
    · rw [if_neg e]
      have h5 := h1 i (by omega)
      exact (h5.setAt (ne h5)).setAt (ne h5)
  · unfold dvSet Ne2
    by_cases ei : i = k
    · rw [if_pos ei, if_neg (show ¬ j = k by omega)]
      cases hv : v.ownBlock with
      | none => exact .inl rfl
      | some g => exact .inr (fun e => by have a := (h4.lt g hv).1; have b := h3 j (by omega) g e.symm; omega)
    · rw [if_neg ei]
      by_cases ej : j = k
      · rw [if_pos ej]
        cases hv : (dv i).ownBlock with
        | none => exact .inl rfl
        | some g => exact .inr (fun e => by have a := (h4.lt g e.symm).1; have b := h3 i (by omega) g hv; omega)
      · rw [if_neg ej]
        exact h2 i j (by omega) (by omega) hne

set_option maxHeartbeats 800000 in
set_option maxRecDepth 100000 in
theorem toWriteS_row (w : World) (b o n cap : Nat) (ps : List (Int × List Int)) (hp : ps.length = n) (hb : b < w.heap.size)
    (hc : ∀ i, i < n → w.cell? ⟨b, o + i * 2, none⟩ = some (.int .i64 (pB ps i)) ∧ ∃ da c, w.cell? ⟨b, o + i * 2 + 1, none⟩ = some (.slice da (pD ps i).length c) ∧ Rd .u8 w (.slice da (pD ps i).length c) (pD ps i))
    (hn : n ≤ 1048576) (hd : ∀ i, (pD ps i).length ≤ 1048576) :
    Calls Try.prog 50 #[.slice (some ⟨b, o, none⟩) n cap] w fun e w' => ∃ v' dv, e = .returned v' ∧ OwnW 71 w' w.heap.size v' ps dv ∧ Below w.heap.size w w' := by
  obtain ⟨i0, hi, hz0, hz1, hz2⟩ := info_parts Try.infoW
  have HC : Hid (∀ i, i < n → w.cell? ⟨b, o + i * 2, none⟩ = some (.int .i64 (pB ps i)) ∧ ∃ da c, w.cell? ⟨b, o + i * 2 + 1, none⟩ = some (.slice da (pD ps i).length c) ∧ Rd .u8 w (.slice da (pD ps i).length c) (pD ps i)) := hc
  have HP : Hid (ps.length = n) := hp
  have HD : Hid (∀ i, (pD ps i).length ≤ 1048576) := hd
  clear hc hp hd
  go_enter Try.func50, Try.ntmps50
  go_wp2_with (at_make; go_must (refine wpList_make_full _ rfl _ _ 43 rfl w.heap.size 71 i0 (.agg #[.int .i64 0, .slice none 0 0]) 2 Try.underlying43 hi hz0 hz1 _ _ _ _ n rfl rfl rfl rfl ?b2 ?b3 ?b4 ?_))
  case b2 => rw [hz2]; omega
  case b3 => unfold maxLen; omega
  case b4 => exact Nat.le_refl _
  intro w1 hown hgrow
  have HO : Hid (w1.ownsRow w.heap.size 71 2 (.slice (some ⟨w.heap.size, 0, none⟩) n n) n (rowW n (pBk ps 0) (dvk (fun _ => .slice none 0 0) 0))) := by
    have e : rowW n (pBk ps 0) (dvk (fun _ => .slice none 0 0) 0) = rowW n (fun _ => 0) (fun _ => .slice none 0 0) := rowW_congr (fun _ _ => rfl) (fun _ _ => rfl)
    show World.ownsRow _ _ _ _ _ _ _
    rw [e, ← rowW_zero]
    exact hown
  have HG : Hid (Below w.heap.size w w1) := (Below.refl _ _).grown hgrow (Nat.le_refl _) (by simp)
  have z1 : w.heap.size < w1.heap.size := by have := (World.ownsRow.lt HO.out w.heap.size rfl).2; exact this
  clear hown hgrow hi hz0 hz1 hz2
  go_wp2
  go_loopw [4] (fun i wr => ∃ (k : Nat) (dv : Nat → Value), k ≤ n ∧ i = .int .i64 k ∧ wr.ownsRow w.heap.size 71 2 (.slice (some ⟨w.heap.size, 0, none⟩) n n) n (rowW n (pBk ps k) (dvk dv k)) ∧
      Hid ((∀ i, i < k → Own .u8 5 wr (w.heap.size + 1) (dv i) (pD ps i)) ∧ (∀ i j, i < k → j < k → i ≠ j → Ne2 (dv i) (dv j))) ∧ Below w.heap.size w wr) (fun i _ => n - (intOf i).toNat)
  case atStart => exact ⟨0, fun _ => .slice none 0 0, Nat.zero_le _, rfl, HO.out, ⟨fun i hi => by omega, fun i j hi => by omega⟩, HG.out⟩
  case round =>
    obtain ⟨k, dv, hk, rfl, ho, HI, hg⟩ := hrel
    by_cases hlt : k < n
    · obtain ⟨c1, da, dc, c2, r⟩ := HC.out k hlt
      have hltI : (k : Int) < (n : Int) := by omega
      have c1' := (hg.cell (p := ⟨b, o + k * 2, none⟩) hb).trans c1
      have c2' := (hg.cell (p := ⟨b, o + k * 2 + 1, none⟩) hb).trans c2
      have HR : Hid (Rd .u8 wr (.slice da (pD ps k).length dc) (pD ps k)) := r.below hg
      have HGr : Hid (Below w.heap.size w wr) := hg
      have HOr : Hid (wr.ownsRow w.heap.size 71 2 (.slice (some ⟨w.heap.size, 0, none⟩) n n) n (rowW n (pBk ps k) (dvk dv k))) := ho
      have zr : w.heap.size < wr.heap.size := (World.ownsRow.lt ho w.heap.size rfl).2
      clear c1 c2 r hg ho
      go_wp2_with fail
      refine (toWrite_any _ _ _ (pD ps k) HR.out (by have := HD.out k; omega)).mono ?_
      rintro e w2 ⟨v2, rfl, o2, b2⟩
      obtain ⟨a2, cc2, rfl⟩ := o2.slice
      have O2 : Hid (Own .u8 5 w2 wr.heap.size (.slice a2 (pD ps k).length cc2) (pD ps k)) := o2
      have HO2 : w2.ownsRow w.heap.size 71 2 (.slice (some ⟨w.heap.size, 0, none⟩) n n) n (rowW n (pBk ps k) (dvk dv k)) :=
        World.ownsRow.kept HOr.out (row := none) ⟨b2.os, b2.tape, b2.output, b2.size, fun k hk _ => b2.block k hk⟩ (.inr (by simp [Value.ownBlock]))
      have f0 := World.ownsRow.frozenAt HO2 (k * 2)
      have f1 := World.ownsRow.frozenAt HO2 (k * 2 + 1)
      have d0 := (World.ownsRow.cellAt HO2 (k * 2) (by omega)).trans (rowW_get n _ _ (k * 2) (by omega))
      have d1 := (World.ownsRow.cellAt HO2 (k * 2 + 1) (by omega)).trans (rowW_get n _ _ (k * 2 + 1) (by omega))
      obtain ⟨x0, d0⟩ : ∃ x, w2.cell? ⟨w.heap.size, k * 2, none⟩ = some x := ⟨_, d0⟩
      obtain ⟨x1, d1⟩ : ∃ x, w2.cell? ⟨w.heap.size, k * 2 + 1, none⟩ = some x := ⟨_, d1⟩
      have HO3 : Hid (w2.ownsRow w.heap.size 71 2 (.slice (some ⟨w.heap.size, 0, none⟩) n n) n (rowW n (pBk ps k) (dvk dv k))) := HO2
      have HI2 : Hid ((∀ i, i < k → Own .u8 5 w2 (w.heap.size + 1) (dv i) (pD ps i)) ∧ (∀ i, i < k → ∀ g, (dv i).ownBlock = some g → g < wr.heap.size)) :=
        ⟨fun i hi => (HI.out.1 i hi).below b2, fun i hi g hg => ((HI.out.1 i hi).lt g hg).2⟩
      have HG2 : Hid (Below w.heap.size w w2) := HGr.out.trans (b2.mono HGr.out.size)
      clear o2 b2 HO2 c1' c2' HOr
      have S : Hid (((w2.setCell ⟨w.heap.size, k * 2, none⟩ (.int .i64 (pB ps k))).setCell ⟨w.heap.size, k * 2 + 1, none⟩ (.slice a2 (pD ps k).length cc2)).ownsRow w.heap.size 71 2 (.slice (some ⟨w.heap.size, 0, none⟩) n n) n (rowW n (pBk ps (k + 1)) (dvk (dvSet dv k (.slice a2 (pD ps k).length cc2)) (k + 1))) ∧
          ((∀ i, i < k + 1 → Own .u8 5 ((w2.setCell ⟨w.heap.size, k * 2, none⟩ (.int .i64 (pB ps k))).setCell ⟨w.heap.size, k * 2 + 1, none⟩ (.slice a2 (pD ps k).length cc2)) (w.heap.size + 1) (dvSet dv k (.slice a2 (pD ps k).length cc2) i) (pD ps i)) ∧
            (∀ i j, i < k + 1 → j < k + 1 → i ≠ j → Ne2 (dvSet dv k (.slice a2 (pD ps k).length cc2) i) (dvSet dv k (.slice a2 (pD ps k).length cc2) j))) ∧
          Below w.heap.size w ((w2.setCell ⟨w.heap.size, k * 2, none⟩ (.int .i64 (pB ps k))).setCell ⟨w.heap.size, k * 2 + 1, none⟩ (.slice a2 (pD ps k).length cc2))) :=
        toWriteS_step ps dv hlt HO3.out (by omega) HI2.out.1 HI.out.2 HI2.out.2 O2.out HG2.out
      clear HO3 HI2 HI O2 HG2
      go_wp2
      go_roundw
      case rel => exact ⟨k + 1, dvSet dv k (.slice a2 (pD ps k).length cc2), by omega, by go_num, S.out.1, S.out.2.1, S.out.2.2⟩
      case measure => simp [intOf]; omega
    · have hkn : k = n := by omega
      subst hkn
      go_wp2
      go_ret
      refine ⟨_, dv, rfl, ⟨?_, fun i hi => ((HI.out.1 i (by rw [HP.out] at hi; exact hi)).mono (by omega)).b, fun i j hi hj hne => HI.out.2 i j (by rw [HP.out] at hi; exact hi) (by rw [HP.out] at hj; exact hj) hne, fun i hi => ?_⟩, hg⟩
      · rw [HP.out]
        have e : rowW k (pBk ps k) (dvk dv k) = rowW k (pB ps) dv := rowW_congr (fun i hi => if_pos hi) (fun i hi => if_pos hi)
        rw [← e]
        exact ho
      · have h1 := HI.out.1 i (by rw [HP.out] at hi; exact hi)
        unfold Ne2
        cases hv : (dv i).ownBlock with
        | none => exact .inl rfl
        | some q => exact .inr (fun e => by have := (h1.lt q hv).1; simp [Value.ownBlock] at e; omega)

set_option maxHeartbeats 400000 in
theorem toWriteS_nil (w : World) (ao : Option Addr) (cap : Nat) :
    Calls Try.prog 50 #[.slice ao 0 cap] w fun e w' => ∃ v' dv, e = .returned v' ∧ OwnW 71 w' w.heap.size v' [] dv ∧ Below w.heap.size w w' := by
  obtain ⟨i0, hi, hz0, hz1, hz2⟩ := info_parts Try.infoW
  go_enter Try.func50, Try.ntmps50
  go_wp2_with (at_make; go_must (refine wpList_make_full _ rfl _ _ 43 rfl w.heap.size 71 i0 (.agg #[.int .i64 0, .slice none 0 0]) 2 Try.underlying43 hi hz0 hz1 _ _ _ _ 0 rfl rfl rfl rfl ?b2 ?b3 ?b4 ?_))
  case b2 => rw [hz2]; omega
  case b3 => unfold maxLen; omega
  case b4 => exact Nat.le_refl _
  intro w1 hown hgrow
  have HO : Hid (w1.ownsRow w.heap.size 71 2 (.slice (some ⟨w.heap.size, 0, none⟩) 0 0) 0 []) := by
    have e := rowW_zero 0
    rw [Nat.zero_mul] at e
    rw [e] at hown
    exact hown
  have HG : Hid (Below w.heap.size w w1) := (Below.refl _ _).grown hgrow (Nat.le_refl _) (by simp)
  clear hown hgrow
  go_wp2
  go_rounds 1
  go_ret
  exact ⟨_, fun _ => .slice none 0 0, rfl, ⟨HO.out, fun i hi => absurd hi (Nat.not_lt_zero _), fun i j hi => absurd hi (Nat.not_lt_zero _), fun i hi => absurd hi (Nat.not_lt_zero _)⟩, HG.out⟩

theorem toWriteS_any (w : World) (v : Value) (ps : List (Int × List Int)) (h : RdW w v ps) (hn : ps.length ≤ 1048576) (hd : ∀ i, (pD ps i).length ≤ 1048576) :
    Calls Try.prog 50 #[v] w fun e w' => ∃ v' dv, e = .returned v' ∧ OwnW 71 w' w.heap.size v' ps dv ∧ Below w.heap.size w w' := by
  obtain ⟨ao, cap, rfl, k1, k2, k3⟩ := h
  rcases k3 with rfl | ⟨b, o, rfl, hb, hc⟩
  · exact toWriteS_nil w ao cap
  · exact toWriteS_row w b o ps.length cap ps rfl hb hc hn hd

theorem OwnW.slice {e : TypeId} {w : World} {lo : Nat} {v : Value} {ps : List (Int × List Int)} {dv : Nat → Value} (h : OwnW e w lo v ps dv) : ∃ a c, v = .slice a ps.length c := by
  obtain ⟨a, c, h0, _⟩ := h.rd.len
  exact ⟨a, c, h0⟩

theorem OwnW.setBelow {e : TypeId} {w : World} {lo : Nat} {v : Value} {ps : List (Int × List Int)} {dv : Nat → Value} (h : OwnW e w lo v ps dv) {a : Addr} (ha : a.block < lo) (u : Value) : OwnW e (w.setCell a u) lo v ps dv :=
  ⟨ownsRow_setCell_below h.1 ha u, fun i hi => (h.2.1 i hi).setBelow ha u, h.2.2⟩

set_option maxHeartbeats 800000 in
set_option maxRecDepth 100000 in
theorem toDisk_any (w : World) (vd vp : Value) (dur : List Int) (ps : List (Int × List Int)) (h : Rd .u8 w vd dur) (hp : RdW w vp ps) (hl : dur.length ≤ 1048576) (hn : ps.length ≤ 1048576) (hd : ∀ i, (pD ps i).length ≤ 1048576) :
    Calls Try.prog 24 #[.agg #[vd, vp]] w fun e w' => ∃ va ca vb cb dv mid, e = .returned (.agg #[.slice va dur.length ca, .slice vb ps.length cb]) ∧ Own .u8 5 w' w.heap.size (.slice va dur.length ca) dur ∧
      (∀ g, Value.ownBlock (.slice va dur.length ca) = some g → g < mid) ∧ OwnW 71 w' mid (.slice vb ps.length cb) ps dv ∧ w.heap.size ≤ mid ∧ Below w.heap.size w w' := by
  obtain ⟨ao, cap, rfl, k1, k2⟩ := h.len
  obtain ⟨bo, capb, rfl, k3, k4⟩ := hp.len
  have HB : Hid (∀ o1 o2 o3, Below w.heap.size w (((w.alloc o1).alloc o2).alloc o3)) := fun o1 o2 o3 => (((Below.refl _ _).alloc (Nat.le_refl _) _).alloc (by simp) _).alloc (by simp; omega) _
  have HR : Hid (Rd .u8 w (.slice ao dur.length cap) dur) := h
  have HP : Hid (RdW w (.slice bo ps.length capb) ps) := hp
  clear h hp
  go_enter Try.func24, Try.ntmps24
  go_wp2_with fail
  refine (toByteS_any _ _ dur (HR.out.below (HB.out _ _ _)) (by omega)).mono ?_
  rintro e w1 ⟨v1, rfl, o1, b1⟩
  obtain ⟨a1, c1, rfl⟩ := o1.slice
  have cA1 : w1.cell? ⟨w.heap.size, 1, none⟩ = some (.slice bo ps.length capb) := (b1.cell (p := ⟨w.heap.size, 1, none⟩) (by simp; omega)).trans (by go_simp)
  have cR0 : w1.cell? ⟨w.heap.size + 1, 0, none⟩ = some (.slice none 0 0) := (b1.cell (p := ⟨w.heap.size + 1, 0, none⟩) (by simp)).trans (by go_simp)
  have cR1 : w1.cell? ⟨w.heap.size + 1, 1, none⟩ = some (.slice none 0 0) := (b1.cell (p := ⟨w.heap.size + 1, 1, none⟩) (by simp)).trans (by go_simp)
  have fR0 : w1.frozen? ⟨w.heap.size + 1, 0, none⟩ = false := (b1.frozen (p := ⟨w.heap.size + 1, 0, none⟩) (by simp)).trans (by go_simp)
  have fR1 : w1.frozen? ⟨w.heap.size + 1, 1, none⟩ = false := (b1.frozen (p := ⟨w.heap.size + 1, 1, none⟩) (by simp)).trans (by go_simp)
  have cO0 : w1.cell? ⟨w.heap.size + 2, 0, none⟩ = some (.slice none 0 0) := (b1.cell (p := ⟨w.heap.size + 2, 0, none⟩) (by simp)).trans (by go_simp)
  have cO1 : w1.cell? ⟨w.heap.size + 2, 1, none⟩ = some (.slice none 0 0) := (b1.cell (p := ⟨w.heap.size + 2, 1, none⟩) (by simp)).trans (by go_simp)
  have fO0 : w1.frozen? ⟨w.heap.size + 2, 0, none⟩ = false := (b1.frozen (p := ⟨w.heap.size + 2, 0, none⟩) (by simp)).trans (by go_simp)
  have fO1 : w1.frozen? ⟨w.heap.size + 2, 1, none⟩ = false := (b1.frozen (p := ⟨w.heap.size + 2, 1, none⟩) (by simp)).trans (by go_simp)
  have O1 : Hid (Own .u8 5 w1 (w.heap.size + 3) (.slice a1 dur.length c1) dur) := by have := o1; simp at this; exact this
  have z1 : w.heap.size + 3 ≤ w1.heap.size := by have := b1.size; simp at this; omega
  have B1 : Hid (Below w.heap.size w w1) := (HB.out _ _ _).trans (b1.mono (by simp; omega))
  clear o1 b1
  go_wp2_with fail
  have BS : Hid (Below w.heap.size w (w1.setCell ⟨w.heap.size + 2, 0, none⟩ (.slice a1 dur.length c1))) := B1.out.setCell (by simp) _
  have OS : Hid (Own .u8 5 (w1.setCell ⟨w.heap.size + 2, 0, none⟩ (.slice a1 dur.length c1)) (w.heap.size + 3) (.slice a1 dur.length c1) dur) := O1.out.setBelow (by simp) _
  have zS : (w1.setCell ⟨w.heap.size + 2, 0, none⟩ (.slice a1 dur.length c1)).heap.size = w1.heap.size := by simp
  have sR0 : (w1.setCell ⟨w.heap.size + 2, 0, none⟩ (.slice a1 dur.length c1)).cell? ⟨w.heap.size + 1, 0, none⟩ = some (.slice none 0 0) := by go_simp
  have sR1 : (w1.setCell ⟨w.heap.size + 2, 0, none⟩ (.slice a1 dur.length c1)).cell? ⟨w.heap.size + 1, 1, none⟩ = some (.slice none 0 0) := by go_simp
  have sO0 : (w1.setCell ⟨w.heap.size + 2, 0, none⟩ (.slice a1 dur.length c1)).cell? ⟨w.heap.size + 2, 0, none⟩ = some (.slice a1 dur.length c1) := by go_simp
  have sO1 : (w1.setCell ⟨w.heap.size + 2, 0, none⟩ (.slice a1 dur.length c1)).cell? ⟨w.heap.size + 2, 1, none⟩ = some (.slice none 0 0) := by go_simp
  have gR0 : (w1.setCell ⟨w.heap.size + 2, 0, none⟩ (.slice a1 dur.length c1)).frozen? ⟨w.heap.size + 1, 0, none⟩ = false := by go_simp
  have gR1 : (w1.setCell ⟨w.heap.size + 2, 0, none⟩ (.slice a1 dur.length c1)).frozen? ⟨w.heap.size + 1, 1, none⟩ = false := by go_simp
  have gO1 : (w1.setCell ⟨w.heap.size + 2, 0, none⟩ (.slice a1 dur.length c1)).frozen? ⟨w.heap.size + 2, 1, none⟩ = false := by go_simp
  generalize w1.setCell ⟨w.heap.size + 2, 0, none⟩ (.slice a1 dur.length c1) = ws at *
  refine (toWriteS_any _ _ ps (HP.out.below BS.out) hn hd).mono ?_
  rintro e w2 ⟨v2, dv, rfl, o2, b2⟩
  obtain ⟨a2, c2, rfl⟩ := o2.slice
  have z2 := b2.size
  have tR0 := (b2.cell (p := ⟨w.heap.size + 1, 0, none⟩) (by simp; omega)).trans sR0
  have tR1 := (b2.cell (p := ⟨w.heap.size + 1, 1, none⟩) (by simp; omega)).trans sR1
  have tO0 := (b2.cell (p := ⟨w.heap.size + 2, 0, none⟩) (by simp; omega)).trans sO0
  have tO1 := (b2.cell (p := ⟨w.heap.size + 2, 1, none⟩) (by simp; omega)).trans sO1
  have hR0 := (b2.frozen (p := ⟨w.heap.size + 1, 0, none⟩) (by simp; omega)).trans gR0
  have hR1 := (b2.frozen (p := ⟨w.heap.size + 1, 1, none⟩) (by simp; omega)).trans gR1
  have hO1 := (b2.frozen (p := ⟨w.heap.size + 2, 1, none⟩) (by simp; omega)).trans gO1
  have OD : Hid (Own .u8 5 w2 (w.heap.size + 3) (.slice a1 dur.length c1) dur) := OS.out.below b2
  have LT : Hid (∀ g, Value.ownBlock (.slice a1 dur.length c1) = some g → g < ws.heap.size) := fun g hg => (OS.out.lt g hg).2
  have OP : Hid (OwnW 71 w2 ws.heap.size (.slice a2 ps.length c2) ps dv) := o2
  have B2 : Hid (Below w.heap.size w w2) := BS.out.trans (b2.mono BS.out.size)
  clear o2 b2 sR0 sR1 sO0 sO1 gR0 gR1 gO1 cA1 cR0 cR1 fR0 fR1 cO0 cO1 fO0 fO1 OS O1 BS
  go_wp2
  refine bodyPost_ret (v := .agg #[.slice a1 dur.length c1, .slice a2 ps.length c2]) (by simp [results, Try.results24, go_sem, tR0, tR1]) rfl ⟨a1, c1, a2, c2, dv, ws.heap.size, rfl, ?_, LT.out, ?_, by omega, ?_⟩
  · refine Own.mono ?_ (show w.heap.size ≤ w.heap.size + 3 by omega)
    repeat (first | exact OD.out | refine Own.setBelow ?_ (by simp; try omega) _)
  · repeat (first | exact OP.out | refine OwnW.setBelow ?_ (by simp; omega) _)
  · repeat (first | exact B2.out | refine Below.setCell ?_ (by simp; try omega) _)

end Go.Proofs.Ytajnihjdhhmefaa
