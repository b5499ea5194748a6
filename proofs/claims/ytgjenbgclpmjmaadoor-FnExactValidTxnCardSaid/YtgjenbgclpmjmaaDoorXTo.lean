import Derived.Test.YtgjenbgclpmjmaaDoorXSz
namespace Go.Proofs.YtgjenbgclpmjmaaDoor
open Go.RowKit

theorem Tryd.infoE : (Tryd.prog.info? 86).map (fun i => (i.zero, i.size, i.bytes)) = some (some (.agg #[.bool false, .string ByteArray.empty, .string ByteArray.empty, .int .i64 0, .int .i64 0, .int .i64 0, .int .i64 0, .int .i64 0]), 8, 80) := by kernel_rfl

set_option maxHeartbeats 2000000 in
set_option maxRecDepth 100000 in
theorem toEffect_any (w : World) (n : Ef) :
    Calls Tryd.prog 107 #[.agg #[.bool n.del, .string n.nd.path, .string n.nd.data, .int .i64 n.nd.ver, .int .i64 n.nd.cver, .int .i64 n.nd.cz, .int .i64 n.nd.mz, .int .i64 n.nd.pz]] w fun e w' => e = .returned (.agg #[.bool n.del, .string n.nd.path, .string n.nd.data, .int .i64 n.nd.ver, .int .i64 n.nd.cver, .int .i64 n.nd.cz, .int .i64 n.nd.mz, .int .i64 n.nd.pz]) ∧ Below w.heap.size w w' := by
  have HB : Hid (∀ o1 o2 o3 o4 o5 o6, Below w.heap.size w ((((((w.alloc o1).alloc o2).alloc o3).alloc o4).alloc o5).alloc o6)) := fun o1 o2 o3 o4 o5 o6 => ((((((Below.refl _ _).alloc (Nat.le_refl _) _).alloc (by simp) _).alloc (by simp; omega) _).alloc (by simp; omega) _).alloc (by simp; omega) _).alloc (by simp; omega) _
  go_enter Tryd.func107, Tryd.ntmps107
  go_wp2
  refine bodyPost_ret (v := .agg #[.bool n.del, .string n.nd.path, .string n.nd.data, .int .i64 n.nd.ver, .int .i64 n.nd.cver, .int .i64 n.nd.cz, .int .i64 n.nd.mz, .int .i64 n.nd.pz]) (by simp [results, Tryd.results107, go_sem]) rfl ⟨rfl, HB.out _ _ _ _ _ _⟩

theorem estored {w : World} {lo g n cap : Nat} {e : TypeId} {ms : List Ef} (ho : w.ownsRow lo e 8 (.slice (some ⟨g, 0, none⟩) n cap) n (erow ms)) (k : Nat) (hk : k < ms.length) (m : Ef) :
    ((((((((w.setCell ⟨g, k * 8, none⟩ (.bool m.del)).setCell ⟨g, k * 8 + 1, none⟩ (.string m.nd.path)).setCell ⟨g, k * 8 + 2, none⟩ (.string m.nd.data)).setCell ⟨g, k * 8 + 3, none⟩ (.int .i64 m.nd.ver)).setCell ⟨g, k * 8 + 4, none⟩ (.int .i64 m.nd.cver)).setCell ⟨g, k * 8 + 5, none⟩ (.int .i64 m.nd.cz)).setCell ⟨g, k * 8 + 6, none⟩ (.int .i64 m.nd.mz)).setCell ⟨g, k * 8 + 7, none⟩ (.int .i64 m.nd.pz)).ownsRow lo e 8 (.slice (some ⟨g, 0, none⟩) n cap) n (erow (ms.set k m)) := by
  have s0 := (World.ownsRow.stored ho (k * 8) (.bool m.del)).1
  have s1 := (World.ownsRow.stored s0 (k * 8 + 1) (.string m.nd.path)).1
  have s2 := (World.ownsRow.stored s1 (k * 8 + 2) (.string m.nd.data)).1
  have s3 := (World.ownsRow.stored s2 (k * 8 + 3) (.int .i64 m.nd.ver)).1
  have s4 := (World.ownsRow.stored s3 (k * 8 + 4) (.int .i64 m.nd.cver)).1
  have s5 := (World.ownsRow.stored s4 (k * 8 + 5) (.int .i64 m.nd.cz)).1
  have s6 := (World.ownsRow.stored s5 (k * 8 + 6) (.int .i64 m.nd.mz)).1
  have s7 := (World.ownsRow.stored s6 (k * 8 + 7) (.int .i64 m.nd.pz)).1
  rw [← erow_set ms k m hk]
  exact s7

set_option maxHeartbeats 2000000 in
set_option maxRecDepth 100000 in
theorem toEffectS_row (w : World) (b o n cap : Nat) (ns : List Ef) (hp : ns.length = n) (hb : b < w.heap.size) (hc : ∀ i, i < n → CellsE w b (o + i * 8) (eAt ns i)) (hn : n ≤ 1048576) :
    Calls Tryd.prog 64 #[.slice (some ⟨b, o, none⟩) n cap] w fun e w' => ∃ v', e = .returned v' ∧ OwnE 86 w' w.heap.size v' ns ∧ Below w.heap.size w w' := by
  obtain ⟨i0, hi, hz0, hz1, hz2⟩ := info_parts Tryd.infoE
  have HC : Hid (∀ i, i < n → CellsE w b (o + i * 8) (eAt ns i)) := hc
  have HP : Hid (ns.length = n) := hp
  clear hc hp
  go_enter Tryd.func64, Tryd.ntmps64
  go_wp2_with (at_make; go_must (refine wpList_make_full _ rfl _ _ 39 rfl w.heap.size 86 i0 (.agg #[.bool false, .string ByteArray.empty, .string ByteArray.empty, .int .i64 0, .int .i64 0, .int .i64 0, .int .i64 0, .int .i64 0]) 8 Tryd.underlying39 hi hz0 hz1 _ _ _ _ n rfl rfl rfl rfl ?b2 ?b3 ?b4 ?_))
  case b2 => rw [hz2]; omega
  case b3 => unfold maxLen; omega
  case b4 => exact Nat.le_refl _
  intro w1 hown hgrow
  have HO : Hid (w1.ownsRow w.heap.size 86 8 (.slice (some ⟨w.heap.size, 0, none⟩) n n) n (erow (mixE ns 0))) := by
    show World.ownsRow _ _ _ _ _ _ _
    rw [mixE_zero, HP.out, ← erow_zero]
    exact hown
  have HG : Hid (Below w.heap.size w w1) := (Below.refl _ _).grown hgrow (Nat.le_refl _) (by simp)
  clear hown hgrow hi hz0 hz1 hz2
  go_wp2
  go_loopw [4] (fun i wr => ∃ k : Nat, k ≤ n ∧ i = .int .i64 k ∧ Hid (wr.ownsRow w.heap.size 86 8 (.slice (some ⟨w.heap.size, 0, none⟩) n n) n (erow (mixE ns k))) ∧ Hid (Below w.heap.size w wr)) (fun i _ => n - (intOf i).toNat)
  case atStart => exact ⟨0, Nat.zero_le _, rfl, HO, HG⟩
  case round =>
    obtain ⟨k, hk, rfl, HOr, HGr⟩ := hrel
    by_cases hlt : k < n
    · have hltI : (k : Int) < (n : Int) := by omega
      obtain ⟨c0, c1, c2, c3, c4, c5, c6, c7⟩ := (HC.out k hlt).below HGr.out hb
      go_wp2_with fail
      refine (toEffect_any _ (eAt ns k)).mono ?_
      rintro e w2 ⟨rfl, b2⟩
      have HO2 : w2.ownsRow w.heap.size 86 8 (.slice (some ⟨w.heap.size, 0, none⟩) n n) n (erow (mixE ns k)) :=
        World.ownsRow.kept HOr.out (row := none) ⟨b2.os, b2.tape, b2.output, b2.size, fun k hk _ => b2.block k hk⟩ (.inr (by simp [Value.ownBlock]))
      have hml : (mixE ns k).length = n := by rw [mixE_len ns k (by rw [HP.out]; exact hk), HP.out]
      have hrd := (show OwnE 86 w2 w.heap.size (.slice (some ⟨w.heap.size, 0, none⟩) n n) (mixE ns k) by unfold OwnE; rw [hml]; exact HO2).rd
      have hD : CellsE w2 w.heap.size (k * 8) (eAt (mixE ns k) k) := by
        obtain ⟨ao', cap', e', -, -, h3⟩ := hrd
        rcases h3 with h3 | ⟨b', off', rfl, -, hc'⟩
        · rw [h3] at hml; simp at hml; omega
        · simp only [Value.slice.injEq, Option.some.injEq, Addr.mk.injEq] at e'
          obtain ⟨⟨rfl, rfl, -⟩, -, -⟩ := e'
          have := hc' k (by rw [hml]; exact hlt)
          rwa [Nat.zero_add] at this
      obtain ⟨d0, d1, d2, d3, d4, d5, d6, d7⟩ := hD
      have f0 := World.ownsRow.frozenAt HO2 (k * 8)
      have f1 := World.ownsRow.frozenAt HO2 (k * 8 + 1)
      have f2 := World.ownsRow.frozenAt HO2 (k * 8 + 2)
      have f3 := World.ownsRow.frozenAt HO2 (k * 8 + 3)
      have f4 := World.ownsRow.frozenAt HO2 (k * 8 + 4)
      have f5 := World.ownsRow.frozenAt HO2 (k * 8 + 5)
      have f6 := World.ownsRow.frozenAt HO2 (k * 8 + 6)
      have f7 := World.ownsRow.frozenAt HO2 (k * 8 + 7)
      have HG2 : Hid (Below w.heap.size w w2) := HGr.out.trans (b2.mono HGr.out.size)
      have zw2 : w.heap.size < w2.heap.size := (World.ownsRow.lt HO2 w.heap.size rfl).2
      have S : Hid _ := estored HO2 k (by rw [hml]; exact hlt) (eAt ns k)
      have HMS : Hid ((mixE ns k).set k (eAt ns k) = mixE ns (k + 1)) := mixE_set ns k (by rw [HP.out]; exact hlt)
      clear b2 HO2 c0 c1 c2 c3 c4 c5 c6 c7 HOr hml hrd
      go_wp2
      go_roundw
      case rel => exact ⟨k + 1, by omega, by go_num, (by show World.ownsRow _ _ _ _ _ _ _; rw [← HMS.out]; exact S.out), (((((((HG2.out.setCell (Nat.le_refl _) _).setCell (Nat.le_refl _) _).setCell (Nat.le_refl _) _).setCell (Nat.le_refl _) _).setCell (Nat.le_refl _) _).setCell (Nat.le_refl _) _).setCell (Nat.le_refl _) _).setCell (Nat.le_refl _) _⟩
      case measure => simp [intOf]; omega
    · have hkn : k = n := by omega
      subst hkn
      go_wp2
      go_ret
      refine ⟨_, rfl, ?_, HGr.out⟩
      unfold OwnE
      have := HOr.out
      rw [← HP.out, mixE_all] at this
      rw [← HP.out]; exact this

set_option maxHeartbeats 400000 in
theorem toEffectS_nil (w : World) (ao : Option Addr) (cap : Nat) :
    Calls Tryd.prog 64 #[.slice ao 0 cap] w fun e w' => ∃ v', e = .returned v' ∧ OwnE 86 w' w.heap.size v' [] ∧ Below w.heap.size w w' := by
  obtain ⟨i0, hi, hz0, hz1, hz2⟩ := info_parts Tryd.infoE
  go_enter Tryd.func64, Tryd.ntmps64
  go_wp2_with (at_make; go_must (refine wpList_make_full _ rfl _ _ 39 rfl w.heap.size 86 i0 (.agg #[.bool false, .string ByteArray.empty, .string ByteArray.empty, .int .i64 0, .int .i64 0, .int .i64 0, .int .i64 0, .int .i64 0]) 8 Tryd.underlying39 hi hz0 hz1 _ _ _ _ 0 rfl rfl rfl rfl ?b2 ?b3 ?b4 ?_))
  case b2 => rw [hz2]; omega
  case b3 => unfold maxLen; omega
  case b4 => exact Nat.le_refl _
  intro w1 hown hgrow
  have HO : Hid (w1.ownsRow w.heap.size 86 8 (.slice (some ⟨w.heap.size, 0, none⟩) 0 0) 0 []) := by
    have e := erow_zero 0
    rw [Nat.zero_mul] at e
    rw [e] at hown
    exact hown
  have HG : Hid (Below w.heap.size w w1) := (Below.refl _ _).grown hgrow (Nat.le_refl _) (by simp)
  clear hown hgrow
  go_wp2
  go_rounds 1
  go_ret
  exact ⟨_, rfl, HO.out, HG.out⟩

theorem toEffectS_any (w : World) (v : Value) (ns : List Ef) (h : RdE w v ns) (hn : ns.length ≤ 1048576) :
    Calls Tryd.prog 64 #[v] w fun e w' => ∃ v', e = .returned v' ∧ OwnE 86 w' w.heap.size v' ns ∧ Below w.heap.size w w' := by
  obtain ⟨ao, cap, rfl, k1, k2, k3⟩ := h
  rcases k3 with rfl | ⟨b, o, rfl, hb, hc⟩
  · exact toEffectS_nil w ao cap
  · exact toEffectS_row w b o ns.length cap ns rfl hb hc hn

theorem OwnE.setBelow {e : TypeId} {w : World} {lo : Nat} {v : Value} {ns : List Ef} (h : OwnE e w lo v ns) {a : Addr} (ha : a.block < lo) (u : Value) : OwnE e (w.setCell a u) lo v ns := ownsRow_setCell_below h ha u

set_option maxHeartbeats 1000000 in
set_option maxRecDepth 100000 in
theorem toTxn_any (w : World) (z : Int) (v : Value) (ns : List Ef) (h : RdE w v ns) (hn : ns.length ≤ 1048576) :
    Calls Tryd.prog 21 #[.agg #[.int .i64 z, v]] w fun e w' => ∃ a c, e = .returned (.agg #[.int .i64 z, .slice a ns.length c]) ∧ OwnE 86 w' w.heap.size (.slice a ns.length c) ns ∧ Below w.heap.size w w' := by
  obtain ⟨ao, cap, rfl, k1, k2⟩ := h.len
  have HB : Hid (∀ o1 o2 o3, Below w.heap.size w (((w.alloc o1).alloc o2).alloc o3)) := fun o1 o2 o3 => (((Below.refl _ _).alloc (Nat.le_refl _) _).alloc (by simp) _).alloc (by simp; omega) _
  have HR : Hid (RdE w (.slice ao ns.length cap) ns) := h
  clear h
  go_enter Tryd.func21, Tryd.ntmps21
  go_wp2_with fail
  refine (toEffectS_any _ _ ns (HR.out.below (HB.out _ _ _)) hn).mono ?_
  rintro e w1 ⟨v1, rfl, o1, b1⟩
  obtain ⟨a1, c1, rfl⟩ := o1.slice
  have cR0 : w1.cell? ⟨w.heap.size + 1, 0, none⟩ = some (.int .i64 0) := (b1.cell (p := ⟨w.heap.size + 1, 0, none⟩) (by simp)).trans (by go_simp)
  have fR0 : w1.frozen? ⟨w.heap.size + 1, 0, none⟩ = false := (b1.frozen (p := ⟨w.heap.size + 1, 0, none⟩) (by simp)).trans (by go_simp)
  have cR : w1.cell? ⟨w.heap.size + 1, 1, none⟩ = some (.slice none 0 0) := (b1.cell (p := ⟨w.heap.size + 1, 1, none⟩) (by simp)).trans (by go_simp)
  have fR : w1.frozen? ⟨w.heap.size + 1, 1, none⟩ = false := (b1.frozen (p := ⟨w.heap.size + 1, 1, none⟩) (by simp)).trans (by go_simp)
  have cO0 : w1.cell? ⟨w.heap.size + 2, 0, none⟩ = some (.int .i64 z) := (b1.cell (p := ⟨w.heap.size + 2, 0, none⟩) (by simp)).trans (by go_simp)
  have cO : w1.cell? ⟨w.heap.size + 2, 1, none⟩ = some (.slice none 0 0) := (b1.cell (p := ⟨w.heap.size + 2, 1, none⟩) (by simp)).trans (by go_simp)
  have fO : w1.frozen? ⟨w.heap.size + 2, 1, none⟩ = false := (b1.frozen (p := ⟨w.heap.size + 2, 1, none⟩) (by simp)).trans (by go_simp)
  have O1 : Hid (OwnE 86 w1 (w.heap.size + 3) (.slice a1 ns.length c1) ns) := by have := o1; simp at this; exact this
  have z1 : w.heap.size + 3 ≤ w1.heap.size := by have := b1.size; simp at this; omega
  have B1 : Hid (Below w.heap.size w w1) := (HB.out _ _ _).trans (b1.mono (by simp; omega))
  clear o1 b1
  go_wp2
  refine bodyPost_ret (v := .agg #[.int .i64 z, .slice a1 ns.length c1]) (by simp [results, Tryd.results21, go_sem, cR0, cR]) rfl ⟨a1, c1, rfl, ?_, ?_⟩
  · refine OwnE.mono ?_ (show w.heap.size ≤ w.heap.size + 3 by omega)
    repeat (first | exact O1.out | refine OwnE.setBelow ?_ (by simp; try omega) _)
  · repeat (first | exact B1.out | refine Below.setCell ?_ (by simp; try omega) _)

end Go.Proofs.YtgjenbgclpmjmaaDoor
