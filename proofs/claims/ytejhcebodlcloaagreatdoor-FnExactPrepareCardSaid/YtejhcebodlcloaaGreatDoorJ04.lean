import Derived.Test.YtejhcebodlcloaaGreatDoorJ03
import Derived.Deep.RegionWith
namespace Go.Proofs.YtejhcebodlcloaaGreatDoor
open Go.RowKit

/-- What is left of a sum. -/
def szr (left : Int) (a : Nat) : Int := if left < (a : Int) then -1 else left - (a : Int)
theorem szr_neg {left : Int} {a : Nat} (h : left < (a : Int)) : szr left a = -1 := if_pos h
theorem szr_pos {left : Int} {a : Nat} (h : ¬ left < (a : Int)) : szr left a = left - (a : Int) := if_neg h
theorem ret_i {a b : Int} (h : a = b) : Ending.returned (.int .i64 a) = .returned (.int .i64 b) := by rw [h]

set_option maxHeartbeats 1000000 in
set_option maxRecDepth 100000 in
theorem szNode_any (w : World) (n : Nd) (left : Int) (hp : n.path.size ≤ maxLen) (hd : n.data.size ≤ maxLen) (h0 : 0 ≤ left) (h1 : left ≤ 1048576) :
    Calls Tryz.prog 40 #[.agg #[.string n.path, .string n.data, .int .i64 n.ver, .int .i64 n.cver, .int .i64 n.cz, .int .i64 n.mz, .int .i64 n.pz], .int .i64 left] w fun e w' => e = .returned (.int .i64 (szr left (n.path.size + n.data.size))) ∧ Below w.heap.size w w' := by
  unfold maxLen at hp hd
  have B0 : Hid (∀ o, Below w.heap.size w (w.alloc o)) := fun o => (Below.refl _ _).alloc (Nat.le_refl _) _
  by_cases h : left < n.path.size
  · have h2 : left - (n.path.size : Int) < 0 := by omega
    have HE : Hid (szr left (n.path.size + n.data.size) = -1) := szr_neg (by omega)
    go_enter Tryz.func40, Tryz.ntmps40
    go_wp2
    go_ret
    exact ⟨ret_i HE.out.symm, B0.out _⟩
  · have h2 : ¬ left - (n.path.size : Int) < 0 := by omega
    by_cases h3 : left < n.path.size + n.data.size
    · have h4 : left - (n.path.size : Int) - (n.data.size : Int) < 0 := by omega
      have HE : Hid (szr left (n.path.size + n.data.size) = -1) := szr_neg (by omega)
      go_enter Tryz.func40, Tryz.ntmps40
      go_wp2
      go_ret
      exact ⟨ret_i HE.out.symm, B0.out _⟩
    · have h4 : ¬ left - (n.path.size : Int) - (n.data.size : Int) < 0 := by omega
      have HE : Hid (szr left (n.path.size + n.data.size) = left - n.path.size - n.data.size) := by show _ = _; rw [szr_pos (by omega)]; omega
      go_enter Tryz.func40, Tryz.ntmps40
      go_wp2
      go_ret
      exact ⟨ret_i HE.out.symm, B0.out _⟩

set_option maxHeartbeats 1000000 in
set_option maxRecDepth 100000 in
theorem szNodeS_row (w : World) (b o n cap : Nat) (ns : List Nd) (hp : ns.length = n) (hn : n ≤ maxLen) (hb : b < w.heap.size) (hsz : ∀ i, (nAt ns i).path.size ≤ maxLen ∧ (nAt ns i).data.size ≤ maxLen)
    (hc : ∀ i, i < n → CellsN w b (o + i * 7) (nAt ns i)) (left : Int) (h0 : 0 ≤ left) (h1 : left ≤ 1048576) :
    Calls Tryz.prog 17 #[.slice (some ⟨b, o, none⟩) n cap, .int .i64 left] w fun e w' => ∃ r : Int, e = .returned (.int .i64 r) ∧ (r < 0 ∨ r + n + totN ns = left) ∧ Below w.heap.size w w' := by
  have HC : Hid (∀ i, i < n → CellsN w b (o + i * 7) (nAt ns i)) := hc
  have HP : Hid (ns.length = n) := hp
  have HZ : Hid (∀ i, (nAt ns i).path.size ≤ maxLen ∧ (nAt ns i).data.size ≤ maxLen) := hsz
  clear hc hp hsz
  unfold maxLen at hn
  by_cases hl : left < n
  · have h2 : left - (n : Int) < 0 := by omega
    go_enter Tryz.func17, Tryz.ntmps17
    go_wp2
    go_ret
    exact ⟨-1, rfl, .inl (by omega), Below.refl _ _⟩
  · have h2 : ¬ left - (n : Int) < 0 := by omega
    go_enter Tryz.func17, Tryz.ntmps17
    go_wp2
    go_loopw [1, 5] (fun l i wr => ∃ (k : Nat) (L : Int), k ≤ n ∧ i = .int .i64 k ∧ 0 ≤ L ∧ L ≤ 1048576 ∧ l = .int .i64 L ∧ Hid (L + n + totN (ns.take k) = left) ∧ Hid (Below w.heap.size w wr)) (fun _ i _ => n - (intOf i).toNat)
    case atStart => exact ⟨0, left - n, Nat.zero_le _, rfl, by omega, by omega, rfl, (by show _ = _; simp [totN]), Below.refl _ _⟩
    case round =>
      obtain ⟨k, L, hk, rfl, hL0, hL1, rfl, HE, HG⟩ := hrel
      by_cases hlt : k < n
      · have hltI : (k : Int) < (n : Int) := by omega
        obtain ⟨c0, c1, c2, c3, c4, c5, c6⟩ := (HC.out k hlt).below HG.out hb
        have HTS : Hid (totN (ns.take (k + 1)) = totN (ns.take k) + ((nAt ns k).path.size + (nAt ns k).data.size)) := totN_take_succ ns k (by rw [HP.out]; exact hlt)
        have sg := HG.out.size
        go_wp2_with fail
        refine (szNode_any _ (nAt ns k) L (HZ.out k).1 (HZ.out k).2 hL0 hL1).mono ?_
        rintro e w1 ⟨rfl, b1⟩
        have HG1 : Hid (Below w.heap.size w w1) := HG.out.trans (b1.mono sg)
        clear b1 c0 c1 c2 c3 c4 c5 c6
        obtain ⟨hz1, hz2⟩ := HZ.out k
        unfold maxLen at hz1 hz2
        by_cases hneg : L < (((nAt ns k).path.size + (nAt ns k).data.size : Nat) : Int)
        · rw [szr_neg hneg]
          clear hneg
          go_wp2
          go_ret
          exact ⟨-1, rfl, .inl (by omega), HG1.out⟩
        · rw [szr_pos hneg]
          obtain ⟨L2, hL2⟩ : ∃ L2 : Int, L2 = L - (((nAt ns k).path.size + (nAt ns k).data.size : Nat) : Int) := ⟨_, rfl⟩
          have HL2 : Hid (L2 = L - (((nAt ns k).path.size + (nAt ns k).data.size : Nat) : Int)) := hL2
          rw [← hL2]
          have h3 : ¬ L2 < 0 := by omega
          have h4 : L2 ≤ 1048576 := by omega
          clear hL2 hneg
          go_wp2
          go_roundw
          case rel => exact ⟨k + 1, L2, by omega, by go_num, by omega, by omega, rfl, (by show _ = _; rw [HTS.out]; have := HE.out; have := HL2.out; omega), HG1⟩
          case measure => simp [intOf]; omega
      · go_wp2
        go_ret
        exact ⟨L, rfl, .inr (by have := HE.out; rw [totN_all ns k (by rw [HP.out]; omega)] at this; exact this), HG.out⟩

set_option maxHeartbeats 400000 in
theorem szNodeS_nil (w : World) (ao : Option Addr) (cap : Nat) (left : Int) (h0 : 0 ≤ left) (h1 : left ≤ 1048576) :
    Calls Tryz.prog 17 #[.slice ao 0 cap, .int .i64 left] w fun e w' => e = .returned (.int .i64 left) ∧ w' = w := by
  have h2 : ¬ left < 0 := by omega
  go_enter Tryz.func17, Tryz.ntmps17
  go_wp2
  go_rounds 1
  go_ret
  exact ⟨by simp, rfl⟩

theorem szNodeS_any (w : World) (v : Value) (ns : List Nd) (h : RdN w v ns) (hsz : ∀ i, (nAt ns i).path.size ≤ maxLen ∧ (nAt ns i).data.size ≤ maxLen) (left : Int) (h0 : 0 ≤ left) (h1 : left ≤ 1048576) :
    Calls Tryz.prog 17 #[v, .int .i64 left] w fun e w' => ∃ r : Int, e = .returned (.int .i64 r) ∧ (r < 0 ∨ r + ns.length + totN ns = left) ∧ Below w.heap.size w w' := by
  obtain ⟨ao, cap, rfl, k1, k2, k3⟩ := h
  rcases k3 with rfl | ⟨b, o, rfl, hb, hc⟩
  · refine (szNodeS_nil w ao cap left h0 h1).mono ?_
    rintro e w' ⟨rfl, rfl⟩
    exact ⟨left, rfl, .inr (by simp [totN]), Below.refl _ _⟩
  · exact szNodeS_row w b o ns.length cap ns rfl (by omega) hb hsz hc left h0 h1

set_option maxHeartbeats 400000 in
theorem szTree_any (w : World) (v : Value) (ns : List Nd) (h : RdN w v ns) (hsz : ∀ i, (nAt ns i).path.size ≤ maxLen ∧ (nAt ns i).data.size ≤ maxLen) (left : Int) (h0 : 0 ≤ left) (h1 : left ≤ 1048576) :
    Calls Tryz.prog 4 #[.agg #[v], .int .i64 left] w fun e w' => ∃ r : Int, e = .returned (.int .i64 r) ∧ (r < 0 ∨ r + ns.length + totN ns = left) ∧ Below w.heap.size w w' := by
  have B0 : Hid (Below w.heap.size w (w.alloc (.cells #[v] 24))) := (Below.refl _ _).alloc (Nat.le_refl _) _
  obtain ⟨ao, cap, rfl, k1, k2⟩ := h.len
  have HR : Hid (RdN (w.alloc (.cells #[.slice ao ns.length cap] 24)) (.slice ao ns.length cap) ns) := h.below B0.out
  clear h
  go_enter Tryz.func4, Tryz.ntmps4
  go_wp2_with fail
  refine (szNodeS_any _ _ ns HR.out hsz left h0 h1).mono ?_
  rintro e w1 ⟨r, rfl, hr, b1⟩
  have B1 : Hid (Below w.heap.size w w1) := B0.out.trans (b1.mono (by simp))
  have hr2 : r ≤ 1048576 := by omega
  have HRR : Hid (r < 0 ∨ r + ns.length + totN ns = left) := hr
  clear b1 hr
  by_cases hneg : r < 0
  · go_wp2
    go_ret
    exact ⟨-1, rfl, .inl (by omega), B1.out⟩
  · go_wp2
    go_ret
    exact ⟨r, rfl, HRR.out, B1.out⟩


theorem Tryz.infoN : (Tryz.prog.info? 70).map (fun i => (i.zero, i.size, i.bytes)) = some (some (.agg #[.string ByteArray.empty, .string ByteArray.empty, .int .i64 0, .int .i64 0, .int .i64 0, .int .i64 0, .int .i64 0]), 7, 72) := by kernel_rfl

set_option maxHeartbeats 1000000 in
set_option maxRecDepth 100000 in
theorem toNode_any (w : World) (n : Nd) :
    Calls Tryz.prog 53 #[.agg #[.string n.path, .string n.data, .int .i64 n.ver, .int .i64 n.cver, .int .i64 n.cz, .int .i64 n.mz, .int .i64 n.pz]] w fun e w' =>
      e = .returned (.agg #[.string n.path, .string n.data, .int .i64 n.ver, .int .i64 n.cver, .int .i64 n.cz, .int .i64 n.mz, .int .i64 n.pz]) ∧ Below w.heap.size w w' := by
  have HB : Hid (∀ o1 o2 o3, Below w.heap.size w (((w.alloc o1).alloc o2).alloc o3)) := fun o1 o2 o3 => (((Below.refl _ _).alloc (Nat.le_refl _) _).alloc (by simp) _).alloc (by simp; omega) _
  go_enter Tryz.func53, Tryz.ntmps53
  go_wp2
  refine bodyPost_ret (v := .agg #[.string n.path, .string n.data, .int .i64 n.ver, .int .i64 n.cver, .int .i64 n.cz, .int .i64 n.mz, .int .i64 n.pz]) (by simp [results, Tryz.results53, go_sem]) rfl ⟨rfl, HB.out _ _ _⟩

theorem nstored {w : World} {lo g n cap : Nat} {e : TypeId} {ms : List Nd} (ho : w.ownsRow lo e 7 (.slice (some ⟨g, 0, none⟩) n cap) n (nrow ms)) (k : Nat) (hk : k < ms.length) (m : Nd) :
    (((((((w.setCell ⟨g, k * 7, none⟩ (.string m.path)).setCell ⟨g, k * 7 + 1, none⟩ (.string m.data)).setCell ⟨g, k * 7 + 2, none⟩ (.int .i64 m.ver)).setCell ⟨g, k * 7 + 3, none⟩ (.int .i64 m.cver)).setCell ⟨g, k * 7 + 4, none⟩ (.int .i64 m.cz)).setCell ⟨g, k * 7 + 5, none⟩ (.int .i64 m.mz)).setCell ⟨g, k * 7 + 6, none⟩ (.int .i64 m.pz)).ownsRow lo e 7 (.slice (some ⟨g, 0, none⟩) n cap) n (nrow (ms.set k m)) := by
  have s0 := (World.ownsRow.stored ho (k * 7) (.string m.path)).1
  have s1 := (World.ownsRow.stored s0 (k * 7 + 1) (.string m.data)).1
  have s2 := (World.ownsRow.stored s1 (k * 7 + 2) (.int .i64 m.ver)).1
  have s3 := (World.ownsRow.stored s2 (k * 7 + 3) (.int .i64 m.cver)).1
  have s4 := (World.ownsRow.stored s3 (k * 7 + 4) (.int .i64 m.cz)).1
  have s5 := (World.ownsRow.stored s4 (k * 7 + 5) (.int .i64 m.mz)).1
  have s6 := (World.ownsRow.stored s5 (k * 7 + 6) (.int .i64 m.pz)).1
  rw [← nrow_set ms k m hk]
  exact s6

set_option maxHeartbeats 2000000 in
set_option maxRecDepth 100000 in
theorem toNodeS_row (w : World) (b o n cap : Nat) (ns : List Nd) (hp : ns.length = n) (hb : b < w.heap.size) (hc : ∀ i, i < n → CellsN w b (o + i * 7) (nAt ns i)) (hn : n ≤ 1048576) :
    Calls Tryz.prog 22 #[.slice (some ⟨b, o, none⟩) n cap] w fun e w' => ∃ v', e = .returned v' ∧ OwnN 70 w' w.heap.size v' ns ∧ Below w.heap.size w w' := by
  obtain ⟨i0, hi, hz0, hz1, hz2⟩ := info_parts Tryz.infoN
  have HC : Hid (∀ i, i < n → CellsN w b (o + i * 7) (nAt ns i)) := hc
  have HP : Hid (ns.length = n) := hp
  clear hc hp
  go_enter Tryz.func22, Tryz.ntmps22
  go_wp2_with (at_make; go_must (refine wpList_make_full _ rfl _ _ 37 rfl w.heap.size 70 i0 (.agg #[.string ByteArray.empty, .string ByteArray.empty, .int .i64 0, .int .i64 0, .int .i64 0, .int .i64 0, .int .i64 0]) 7 Tryz.underlying37 hi hz0 hz1 _ _ _ _ n rfl rfl rfl rfl ?b2 ?b3 ?b4 ?_))
  case b2 => rw [hz2]; omega
  case b3 => unfold maxLen; omega
  case b4 => exact Nat.le_refl _
  intro w1 hown hgrow
  have HO : Hid (w1.ownsRow w.heap.size 70 7 (.slice (some ⟨w.heap.size, 0, none⟩) n n) n (nrow (mixN ns 0))) := by
    show World.ownsRow _ _ _ _ _ _ _
    rw [mixN_zero, HP.out, ← nrow_zero]
    exact hown
  have HG : Hid (Below w.heap.size w w1) := (Below.refl _ _).grown hgrow (Nat.le_refl _) (by simp)
  clear hown hgrow hi hz0 hz1 hz2
  go_wp2
  go_loopw [4] (fun i wr => ∃ k : Nat, k ≤ n ∧ i = .int .i64 k ∧ Hid (wr.ownsRow w.heap.size 70 7 (.slice (some ⟨w.heap.size, 0, none⟩) n n) n (nrow (mixN ns k))) ∧ Hid (Below w.heap.size w wr)) (fun i _ => n - (intOf i).toNat)
  case atStart => exact ⟨0, Nat.zero_le _, rfl, HO, HG⟩
  case round =>
    obtain ⟨k, hk, rfl, HOr, HGr⟩ := hrel
    by_cases hlt : k < n
    · have hltI : (k : Int) < (n : Int) := by omega
      obtain ⟨c0, c1, c2, c3, c4, c5, c6⟩ := (HC.out k hlt).below HGr.out hb
      go_wp2_with fail
      refine (toNode_any _ (nAt ns k)).mono ?_
      rintro e w2 ⟨rfl, b2⟩
      have HO2 : w2.ownsRow w.heap.size 70 7 (.slice (some ⟨w.heap.size, 0, none⟩) n n) n (nrow (mixN ns k)) :=
        World.ownsRow.kept HOr.out (row := none) ⟨b2.os, b2.tape, b2.output, b2.size, fun k hk _ => b2.block k hk⟩ (.inr (by simp [Value.ownBlock]))
      have hml : (mixN ns k).length = n := by rw [mixN_len ns k (by rw [HP.out]; exact hk), HP.out]
      have hrd := (show OwnN 70 w2 w.heap.size (.slice (some ⟨w.heap.size, 0, none⟩) n n) (mixN ns k) by unfold OwnN; rw [hml]; exact HO2).rd
      have hD : CellsN w2 w.heap.size (k * 7) (nAt (mixN ns k) k) := by
        obtain ⟨ao', cap', e', -, -, h3⟩ := hrd
        rcases h3 with h3 | ⟨b', off', rfl, -, hc'⟩
        · rw [h3] at hml; simp at hml; omega
        · simp only [Value.slice.injEq, Option.some.injEq, Addr.mk.injEq] at e'
          obtain ⟨⟨rfl, rfl, -⟩, -, -⟩ := e'
          have := hc' k (by rw [hml]; exact hlt)
          rwa [Nat.zero_add] at this
      obtain ⟨d0, d1, d2, d3, d4, d5, d6⟩ := hD
      have f0 := World.ownsRow.frozenAt HO2 (k * 7)
      have f1 := World.ownsRow.frozenAt HO2 (k * 7 + 1)
      have f2 := World.ownsRow.frozenAt HO2 (k * 7 + 2)
      have f3 := World.ownsRow.frozenAt HO2 (k * 7 + 3)
      have f4 := World.ownsRow.frozenAt HO2 (k * 7 + 4)
      have f5 := World.ownsRow.frozenAt HO2 (k * 7 + 5)
      have f6 := World.ownsRow.frozenAt HO2 (k * 7 + 6)
      have HG2 : Hid (Below w.heap.size w w2) := HGr.out.trans (b2.mono HGr.out.size)
      have zw2 : w.heap.size < w2.heap.size := (World.ownsRow.lt HO2 w.heap.size rfl).2
      have S : Hid _ := nstored HO2 k (by rw [hml]; exact hlt) (nAt ns k)
      have HMS : Hid ((mixN ns k).set k (nAt ns k) = mixN ns (k + 1)) := mixN_set ns k (by rw [HP.out]; exact hlt)
      clear b2 HO2 c0 c1 c2 c3 c4 c5 c6 HOr hml hrd
      go_wp2
      go_roundw
      case rel => exact ⟨k + 1, by omega, by go_num, (by show World.ownsRow _ _ _ _ _ _ _; rw [← HMS.out]; exact S.out), ((((((HG2.out.setCell (Nat.le_refl _) _).setCell (Nat.le_refl _) _).setCell (Nat.le_refl _) _).setCell (Nat.le_refl _) _).setCell (Nat.le_refl _) _).setCell (Nat.le_refl _) _).setCell (Nat.le_refl _) _⟩
      case measure => simp [intOf]; omega
    · have hkn : k = n := by omega
      subst hkn
      go_wp2
      go_ret
      refine ⟨_, rfl, ?_, HGr.out⟩
      unfold OwnN
      have := HOr.out
      rw [← HP.out, mixN_all] at this
      rw [← HP.out]; exact this

set_option maxHeartbeats 400000 in
theorem toNodeS_nil (w : World) (ao : Option Addr) (cap : Nat) :
    Calls Tryz.prog 22 #[.slice ao 0 cap] w fun e w' => ∃ v', e = .returned v' ∧ OwnN 70 w' w.heap.size v' [] ∧ Below w.heap.size w w' := by
  obtain ⟨i0, hi, hz0, hz1, hz2⟩ := info_parts Tryz.infoN
  go_enter Tryz.func22, Tryz.ntmps22
  go_wp2_with (at_make; go_must (refine wpList_make_full _ rfl _ _ 37 rfl w.heap.size 70 i0 (.agg #[.string ByteArray.empty, .string ByteArray.empty, .int .i64 0, .int .i64 0, .int .i64 0, .int .i64 0, .int .i64 0]) 7 Tryz.underlying37 hi hz0 hz1 _ _ _ _ 0 rfl rfl rfl rfl ?b2 ?b3 ?b4 ?_))
  case b2 => rw [hz2]; omega
  case b3 => unfold maxLen; omega
  case b4 => exact Nat.le_refl _
  intro w1 hown hgrow
  have HO : Hid (w1.ownsRow w.heap.size 70 7 (.slice (some ⟨w.heap.size, 0, none⟩) 0 0) 0 []) := by
    have e := nrow_zero 0
    rw [Nat.zero_mul] at e
    rw [e] at hown
    exact hown
  have HG : Hid (Below w.heap.size w w1) := (Below.refl _ _).grown hgrow (Nat.le_refl _) (by simp)
  clear hown hgrow
  go_wp2
  go_rounds 1
  go_ret
  exact ⟨_, rfl, HO.out, HG.out⟩

theorem toNodeS_any (w : World) (v : Value) (ns : List Nd) (h : RdN w v ns) (hn : ns.length ≤ 1048576) :
    Calls Tryz.prog 22 #[v] w fun e w' => ∃ v', e = .returned v' ∧ OwnN 70 w' w.heap.size v' ns ∧ Below w.heap.size w w' := by
  obtain ⟨ao, cap, rfl, k1, k2, k3⟩ := h
  rcases k3 with rfl | ⟨b, o, rfl, hb, hc⟩
  · exact toNodeS_nil w ao cap
  · exact toNodeS_row w b o ns.length cap ns rfl hb hc hn


theorem OwnN.setBelow {e : TypeId} {w : World} {lo : Nat} {v : Value} {ns : List Nd} (h : OwnN e w lo v ns) {a : Addr} (ha : a.block < lo) (u : Value) : OwnN e (w.setCell a u) lo v ns := ownsRow_setCell_below h ha u

set_option maxHeartbeats 1000000 in
set_option maxRecDepth 100000 in
theorem toTree_any (w : World) (v : Value) (ns : List Nd) (h : RdN w v ns) (hn : ns.length ≤ 1048576) :
    Calls Tryz.prog 7 #[.agg #[v]] w fun e w' => ∃ a c, e = .returned (.agg #[.slice a ns.length c]) ∧ OwnN 70 w' w.heap.size (.slice a ns.length c) ns ∧ Below w.heap.size w w' := by
  obtain ⟨ao, cap, rfl, k1, k2⟩ := h.len
  have HB : Hid (∀ o1 o2 o3, Below w.heap.size w (((w.alloc o1).alloc o2).alloc o3)) := fun o1 o2 o3 => (((Below.refl _ _).alloc (Nat.le_refl _) _).alloc (by simp) _).alloc (by simp; omega) _
  have HR : Hid (RdN w (.slice ao ns.length cap) ns) := h
  clear h
  go_enter Tryz.func7, Tryz.ntmps7
  go_wp2_with fail
  refine (toNodeS_any _ _ ns (HR.out.below (HB.out _ _ _)) hn).mono ?_
  rintro e w1 ⟨v1, rfl, o1, b1⟩
  obtain ⟨a1, c1, rfl⟩ := o1.slice
  have cR : w1.cell? ⟨w.heap.size + 1, 0, none⟩ = some (.slice none 0 0) := (b1.cell (p := ⟨w.heap.size + 1, 0, none⟩) (by simp)).trans (by go_simp)
  have fR : w1.frozen? ⟨w.heap.size + 1, 0, none⟩ = false := (b1.frozen (p := ⟨w.heap.size + 1, 0, none⟩) (by simp)).trans (by go_simp)
  have cO : w1.cell? ⟨w.heap.size + 2, 0, none⟩ = some (.slice none 0 0) := (b1.cell (p := ⟨w.heap.size + 2, 0, none⟩) (by simp)).trans (by go_simp)
  have fO : w1.frozen? ⟨w.heap.size + 2, 0, none⟩ = false := (b1.frozen (p := ⟨w.heap.size + 2, 0, none⟩) (by simp)).trans (by go_simp)
  have O1 : Hid (OwnN 70 w1 (w.heap.size + 3) (.slice a1 ns.length c1) ns) := by have := o1; simp at this; exact this
  have z1 : w.heap.size + 3 ≤ w1.heap.size := by have := b1.size; simp at this; omega
  have B1 : Hid (Below w.heap.size w w1) := (HB.out _ _ _).trans (b1.mono (by simp; omega))
  clear o1 b1
  go_wp2
  refine bodyPost_ret (v := .agg #[.slice a1 ns.length c1]) (by simp [results, Tryz.results7, go_sem, cR]) rfl ⟨a1, c1, rfl, ?_, ?_⟩
  · refine OwnN.mono ?_ (show w.heap.size ≤ w.heap.size + 3 by omega)
    repeat (first | exact O1.out | refine OwnN.setBelow ?_ (by simp; try omega) _)
  · repeat (first | exact B1.out | refine Below.setCell ?_ (by simp; try omega) _)

set_option maxHeartbeats 1000000 in
set_option maxRecDepth 100000 in
theorem eqNode_same (w : World) (n : Nd) :
    Calls Tryz.prog 60 #[.agg #[.string n.path, .string n.data, .int .i64 n.ver, .int .i64 n.cver, .int .i64 n.cz, .int .i64 n.mz, .int .i64 n.pz], .agg #[.string n.path, .string n.data, .int .i64 n.ver, .int .i64 n.cver, .int .i64 n.cz, .int .i64 n.mz, .int .i64 n.pz]] w fun e w' => e = .returned (.bool true) ∧ Below w.heap.size w w' := by
  have HB : Hid (∀ o1 o2, Below w.heap.size w ((w.alloc o1).alloc o2)) := fun o1 o2 => ((Below.refl _ _).alloc (Nat.le_refl _) _).alloc (by simp) _
  go_enter Tryz.func60, Tryz.ntmps60
  go_wp2
  go_ret
  exact ⟨rfl, HB.out _ _⟩

set_option maxHeartbeats 1000000 in
set_option maxRecDepth 100000 in
theorem eqNodeS_row (w : World) (b o b2 o2 n ca cb : Nat) (ns : List Nd) (hn : n ≤ 1048576) (hb : b < w.heap.size) (hb2 : b2 < w.heap.size)
    (hc : ∀ i, i < n → CellsN w b (o + i * 7) (nAt ns i)) (hc2 : ∀ i, i < n → CellsN w b2 (o2 + i * 7) (nAt ns i)) :
    Calls Tryz.prog 32 #[.slice (some ⟨b, o, none⟩) n ca, .slice (some ⟨b2, o2, none⟩) n cb] w fun e w' => e = .returned (.bool true) ∧ Below w.heap.size w w' := by
  have HC := hd9 hc
  have HC2 := hd9 hc2
  clear hc hc2
  have h1 : ((n : Int) != (n : Int)) = false := by simp
  go_enter Tryz.func32, Tryz.ntmps32
  go_wp2
  go_loopw [5] (fun i wr => ∃ k : Nat, k ≤ n ∧ i = .int .i64 k ∧ Hid (Below w.heap.size w wr)) (fun i _ => n - (intOf i).toNat)
  case atStart => exact ⟨0, Nat.zero_le _, rfl, Below.refl _ _⟩
  case round =>
    obtain ⟨k, hk, rfl, HG⟩ := hrel
    by_cases hlt : k < n
    · obtain ⟨c0, c1, c2, c3, c4, c5, c6⟩ := (HC.out k hlt).below HG.out hb
      obtain ⟨d0, d1, d2, d3, d4, d5, d6⟩ := (HC2.out k hlt).below HG.out hb2
      have hltI : (k : Int) < (n : Int) := by omega
      have HE : Hid (∀ q, Calls Tryz.prog 60 #[.agg #[.string (nAt ns k).path, .string (nAt ns k).data, .int .i64 (nAt ns k).ver, .int .i64 (nAt ns k).cver, .int .i64 (nAt ns k).cz, .int .i64 (nAt ns k).mz, .int .i64 (nAt ns k).pz], .agg #[.string (nAt ns k).path, .string (nAt ns k).data, .int .i64 (nAt ns k).ver, .int .i64 (nAt ns k).cver, .int .i64 (nAt ns k).cz, .int .i64 (nAt ns k).mz, .int .i64 (nAt ns k).pz]] (wr.drewN q) fun e w' => e = .returned (.bool true) ∧ Below w.heap.size w w') := by
        intro q
        refine (eqNode_same _ (nAt ns k)).mono ?_
        rintro e w' ⟨rfl, b'⟩
        exact ⟨rfl, (HG.out.trans ((below_drewN' wr q).mono HG.out.size)).trans (b'.mono HG.out.size)⟩
      go_wp2
      go_region_with (go_at_call 60; refine (HE.out 1).mono ?_; rintro e w' ⟨rfl, b'⟩)
      all_goals
        have HB := hd9 b'
        clear b'
        go_wp2
        go_roundw
        case rel => exact ⟨k + 1, by omega, by go_num, HB⟩
        case measure => simp [intOf]; omega
    · go_wp2
      go_ret
      exact ⟨rfl, HG.out⟩

set_option maxHeartbeats 400000 in
theorem eqNodeS_nil (w : World) (ao bo : Option Addr) (ca cb : Nat) :
    Calls Tryz.prog 32 #[.slice ao 0 ca, .slice bo 0 cb] w fun e w' => e = .returned (.bool true) ∧ w' = w := by
  go_enter Tryz.func32, Tryz.ntmps32
  go_wp2
  go_rounds 1
  go_ret
  exact ⟨rfl, rfl⟩

theorem eqNodeS_same (w : World) (va vb : Value) (ns : List Nd) (ha : RdN w va ns) (hb : RdN w vb ns) (hn : ns.length ≤ 1048576) :
    Calls Tryz.prog 32 #[va, vb] w fun e w' => e = .returned (.bool true) ∧ Below w.heap.size w w' := by
  obtain ⟨ao, ca, rfl, h1, h2, h3⟩ := ha
  obtain ⟨bo, cb, rfl, k1, k2, k3⟩ := hb
  rcases h3 with rfl | ⟨b, o, rfl, hb, hc⟩
  · refine (eqNodeS_nil w ao bo ca cb).mono ?_
    rintro e w' ⟨rfl, rfl⟩
    exact ⟨rfl, Below.refl _ _⟩
  · rcases k3 with rfl | ⟨b2, o2, rfl, hb2, hc2⟩
    · refine (eqNodeS_nil w _ bo ca cb).mono ?_
      rintro e w' ⟨rfl, rfl⟩
      exact ⟨rfl, Below.refl _ _⟩
    · exact eqNodeS_row w b o b2 o2 ns.length ca cb ns hn hb hb2 hc hc2

set_option maxHeartbeats 400000 in
theorem eqTree_same (w : World) (va vb : Value) (ns : List Nd) (ha : RdN w va ns) (hb : RdN w vb ns) (hn : ns.length ≤ 1048576) :
    Calls Tryz.prog 11 #[.agg #[va], .agg #[vb]] w fun e w' => e = .returned (.bool true) ∧ Below w.heap.size w w' := by
  have B0 : Hid (Below w.heap.size w ((w.alloc (.cells #[va] 39)).alloc (.cells #[vb] 39))) := ((Below.refl _ _).alloc (Nat.le_refl _) _).alloc (by simp) _
  have RA := hd9 (ha.below B0.out)
  have RB := hd9 (hb.below B0.out)
  clear ha hb
  go_enter Tryz.func11, Tryz.ntmps11
  go_wp2_with fail
  refine (eqNodeS_same _ _ _ ns RA.out RB.out hn).mono ?_
  rintro e w1 ⟨rfl, b1⟩
  have B1 := hd9 (B0.out.trans (b1.mono (by simp; omega)))
  clear b1
  go_wp2
  go_ret
  exact ⟨rfl, B1.out⟩

end Go.Proofs.YtejhcebodlcloaaGreatDoor


