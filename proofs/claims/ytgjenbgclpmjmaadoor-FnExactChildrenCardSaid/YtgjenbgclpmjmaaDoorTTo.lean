import Derived.Test.YtgjenbgclpmjmaaDoorTSz
namespace Go.Proofs.YtgjenbgclpmjmaaDoor
open Go.RowKit

theorem Tryd.infoN : (Tryd.prog.info? 81).map (fun i => (i.zero, i.size, i.bytes)) = some (some (.agg #[.string ByteArray.empty, .string ByteArray.empty, .int .i64 0, .int .i64 0, .int .i64 0, .int .i64 0, .int .i64 0]), 7, 72) := by kernel_rfl

set_option maxHeartbeats 1000000 in
set_option maxRecDepth 100000 in
theorem toNode_any (w : World) (n : Nd) :
    Calls Tryd.prog 102 #[.agg #[.string n.path, .string n.data, .int .i64 n.ver, .int .i64 n.cver, .int .i64 n.cz, .int .i64 n.mz, .int .i64 n.pz]] w fun e w' =>
      e = .returned (.agg #[.string n.path, .string n.data, .int .i64 n.ver, .int .i64 n.cver, .int .i64 n.cz, .int .i64 n.mz, .int .i64 n.pz]) ∧ Below w.heap.size w w' := by
  have HB : Hid (∀ o1 o2 o3, Below w.heap.size w (((w.alloc o1).alloc o2).alloc o3)) := fun o1 o2 o3 => (((Below.refl _ _).alloc (Nat.le_refl _) _).alloc (by simp) _).alloc (by simp; omega) _
  go_enter Tryd.func102, Tryd.ntmps102
  go_wp2
  refine bodyPost_ret (v := .agg #[.string n.path, .string n.data, .int .i64 n.ver, .int .i64 n.cver, .int .i64 n.cz, .int .i64 n.mz, .int .i64 n.pz]) (by simp [results, Tryd.results102, go_sem]) rfl ⟨rfl, HB.out _ _ _⟩

theorem nstored {w : World} {lo g n cap : Nat} {e : TypeId} {ms : List Nd} (ho : w.ownsRow lo e 7 (.slice (some ⟨g, 0, none⟩) n cap) n (nrow ms)) (k : Nat) (hk : k < ms.length) (m : Nd) :
    (((((((w.setCell ⟨g, k * 7, none⟩ (.string m.path)).setCell ⟨g, k * 7 + 1, none⟩ (.string m.data)).setCell ⟨g, k * 7 + 2, none⟩ (.int .i64 m.ver)).setCell ⟨g, k * 7 + 3, none⟩ (.int .i64 m.cver)).setCell ⟨g, k * 7 + 4, none⟩ (.int .i64 m.cz)).setCell ⟨g, k * 7 + 5, none⟩ (.int .i64 m.mz)).setCell ⟨g, k * 7 + 6, none⟩ (.int .i64 m.pz)).ownsRow lo e 7 (.slice (some ⟨g, 0, none⟩) n cap) n (nrow (ms.set k m)) := by
  have s0 := (World.ownsRow.stored ho (k * 7) (.string m.path)).1
  have s1 := (World.ownsRow.stored s0 (k * 7 + 1) (.string m.data)).1
  have s2 := (World.ownsRow.stored s1 (k * 7 + 2) (.int .i64 m.ver)).1
  have s3 := (World.ownsRow.stored s2 (k * 7 + 3) (.int .i64 m.cver)).1
  have s4 := (World.ownsRow.stored s3 (k * 7 + 4) (.int .i64 m.cz)).1
  have s5 := (World.ownsRow.stored s4 (k * 7 + 5) (.int .i64 m.mz)).1
  have s6 := (World.ownsRow.stored s5 (k * 7 + 6) (.int .i64 m.pz)).1
  rw [← nrow_set ms k m hk]
  exact s6

set_option maxHeartbeats 2000000 in
set_option maxRecDepth 100000 in
theorem toNodeS_row (w : World) (b o n cap : Nat) (ns : List Nd) (hp : ns.length = n) (hb : b < w.heap.size) (hc : ∀ i, i < n → CellsN w b (o + i * 7) (nAt ns i)) (hn : n ≤ 1048576) :
    Calls Tryd.prog 59 #[.slice (some ⟨b, o, none⟩) n cap] w fun e w' => ∃ v', e = .returned v' ∧ OwnN 81 w' w.heap.size v' ns ∧ Below w.heap.size w w' := by
  obtain ⟨i0, hi, hz0, hz1, hz2⟩ := info_parts Tryd.infoN
  have HC : Hid (∀ i, i < n → CellsN w b (o + i * 7) (nAt ns i)) := hc
  have HP : Hid (ns.length = n) := hp
  clear hc hp
  go_enter Tryd.func59, Tryd.ntmps59
  go_wp2_with (at_make; go_must (refine wpList_make_full _ rfl _ _ 28 rfl w.heap.size 81 i0 (.agg #[.string ByteArray.empty, .string ByteArray.empty, .int .i64 0, .int .i64 0, .int .i64 0, .int .i64 0, .int .i64 0]) 7 Tryd.underlying28 hi hz0 hz1 _ _ _ _ n rfl rfl rfl rfl ?b2 ?b3 ?b4 ?_))
  case b2 => rw [hz2]; omega
  case b3 => unfold maxLen; omega
  case b4 => exact Nat.le_refl _
  intro w1 hown hgrow
  have HO : Hid (w1.ownsRow w.heap.size 81 7 (.slice (some ⟨w.heap.size, 0, none⟩) n n) n (nrow (mixN ns 0))) := by
    show World.ownsRow _ _ _ _ _ _ _
    rw [mixN_zero, HP.out, ← nrow_zero]
    exact hown
  have HG : Hid (Below w.heap.size w w1) := (Below.refl _ _).grown hgrow (Nat.le_refl _) (by simp)
  clear hown hgrow hi hz0 hz1 hz2
  go_wp2
  go_loopw [4] (fun i wr => ∃ k : Nat, k ≤ n ∧ i = .int .i64 k ∧ Hid (wr.ownsRow w.heap.size 81 7 (.slice (some ⟨w.heap.size, 0, none⟩) n n) n (nrow (mixN ns k))) ∧ Hid (Below w.heap.size w wr)) (fun i _ => n - (intOf i).toNat)
  case atStart => exact ⟨0, Nat.zero_le _, rfl, HO, HG⟩
  case round =>
    obtain ⟨k, hk, rfl, HOr, HGr⟩ := hrel
    by_cases hlt : k < n
    · have hltI : (k : Int) < (n : Int) := by omega
      obtain ⟨c0, c1, c2, c3, c4, c5, c6⟩ := (HC.out k hlt).below HGr.out hb
      go_wp2_with fail
      refine (toNode_any _ (nAt ns k)).mono ?_
      rintro e w2 ⟨rfl, b2⟩
      have HO2 : w2.ownsRow w.heap.size 81 7 (.slice (some ⟨w.heap.size, 0, none⟩) n n) n (nrow (mixN ns k)) :=
        World.ownsRow.kept HOr.out (row := none) ⟨b2.os, b2.tape, b2.output, b2.size, fun k hk _ => b2.block k hk⟩ (.inr (by simp [Value.ownBlock]))
      have hml : (mixN ns k).length = n := by rw [mixN_len ns k (by rw [HP.out]; exact hk), HP.out]
      have hrd := (show OwnN 81 w2 w.heap.size (.slice (some ⟨w.heap.size, 0, none⟩) n n) (mixN ns k) by unfold OwnN; rw [hml]; exact HO2).rd
      have hD : CellsN w2 w.heap.size (k * 7) (nAt (mixN ns k) k) := by
        obtain ⟨ao', cap', e', -, -, h3⟩ := hrd
        rcases h3 with h3 | ⟨b', off', rfl, -, hc'⟩
        · rw [h3] at hml; simp at hml; omega
        · simp only [Value.slice.injEq, Option.some.injEq, Addr.mk.injEq] at e'
          obtain ⟨⟨rfl, rfl, -⟩, -, -⟩ := e'
          have := hc' k (by rw [hml]; exact hlt)
          rwa [Nat.zero_add] at this
      obtain ⟨d0, d1, d2, d3, d4, d5, d6⟩ := hD
      have f0 := World.ownsRow.frozenAt HO2 (k * 7)
      have f1 := World.ownsRow.frozenAt HO2 (k * 7 + 1)
      have f2 := World.ownsRow.frozenAt HO2 (k * 7 + 2)
      have f3 := World.ownsRow.frozenAt HO2 (k * 7 + 3)
      have f4 := World.ownsRow.frozenAt HO2 (k * 7 + 4)
      have f5 := World.ownsRow.frozenAt HO2 (k * 7 + 5)
      have f6 := World.ownsRow.frozenAt HO2 (k * 7 + 6)
      have HG2 : Hid (Below w.heap.size w w2) := HGr.out.trans (b2.mono HGr.out.size)
      have zw2 : w.heap.size < w2.heap.size := (World.ownsRow.lt HO2 w.heap.size rfl).2
      have S : Hid _ := nstored HO2 k (by rw [hml]; exact hlt) (nAt ns k)
      have HMS : Hid ((mixN ns k).set k (nAt ns k) = mixN ns (k + 1)) := mixN_set ns k (by rw [HP.out]; exact hlt)
      clear b2 HO2 c0 c1 c2 c3 c4 c5 c6 HOr hml hrd
      go_wp2
      go_roundw
      case rel => exact ⟨k + 1, by omega, by go_num, (by show World.ownsRow _ _ _ _ _ _ _; rw [← HMS.out]; exact S.out), ((((((HG2.out.setCell (Nat.le_refl _) _).setCell (Nat.le_refl _) _).setCell (Nat.le_refl _) _).setCell (Nat.le_refl _) _).setCell (Nat.le_refl _) _).setCell (Nat.le_refl _) _).setCell (Nat.le_refl _) _⟩
      case measure => simp [intOf]; omega
    · have hkn : k = n := by omega
      subst hkn
      go_wp2
      go_ret
      refine ⟨_, rfl, ?_, HGr.out⟩
      unfold OwnN
      have := HOr.out
      rw [← HP.out, mixN_all] at this
      rw [← HP.out]; exact this

set_option maxHeartbeats 400000 in
theorem toNodeS_nil (w : World) (ao : Option Addr) (cap : Nat) :
    Calls Tryd.prog 59 #[.slice ao 0 cap] w fun e w' => ∃ v', e = .returned v' ∧ OwnN 81 w' w.heap.size v' [] ∧ Below w.heap.size w w' := by
  obtain ⟨i0, hi, hz0, hz1, hz2⟩ := info_parts Tryd.infoN
  go_enter Tryd.func59, Tryd.ntmps59
  go_wp2_with (at_make; go_must (refine wpList_make_full _ rfl _ _ 28 rfl w.heap.size 81 i0 (.agg #[.string ByteArray.empty, .string ByteArray.empty, .int .i64 0, .int .i64 0, .int .i64 0, .int .i64 0, .int .i64 0]) 7 Tryd.underlying28 hi hz0 hz1 _ _ _ _ 0 rfl rfl rfl rfl ?b2 ?b3 ?b4 ?_))
  case b2 => rw [hz2]; omega
  case b3 => unfold maxLen; omega
  case b4 => exact Nat.le_refl _
  intro w1 hown hgrow
  have HO : Hid (w1.ownsRow w.heap.size 81 7 (.slice (some ⟨w.heap.size, 0, none⟩) 0 0) 0 []) := by
    have e := nrow_zero 0
    rw [Nat.zero_mul] at e
    rw [e] at hown
    exact hown
  have HG : Hid (Below w.heap.size w w1) := (Below.refl _ _).grown hgrow (Nat.le_refl _) (by simp)
  clear hown hgrow
  go_wp2
  go_rounds 1
  go_ret
  exact ⟨_, rfl, HO.out, HG.out⟩

theorem toNodeS_any (w : World) (v : Value) (ns : List Nd) (h : RdN w v ns) (hn : ns.length ≤ 1048576) :
    Calls Tryd.prog 59 #[v] w fun e w' => ∃ v', e = .returned v' ∧ OwnN 81 w' w.heap.size v' ns ∧ Below w.heap.size w w' := by
  obtain ⟨ao, cap, rfl, k1, k2, k3⟩ := h
  rcases k3 with rfl | ⟨b, o, rfl, hb, hc⟩
  · exact toNodeS_nil w ao cap
  · exact toNodeS_row w b o ns.length cap ns rfl hb hc hn

end Go.Proofs.YtgjenbgclpmjmaaDoor
