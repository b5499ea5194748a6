import Derived.Test.YtoljmlhnbmeloaaTabMath
import Derived.Test.YtoljmlhnbmeloaaTorn
import Derived.Deep.RegionHeld3
namespace Go.Proofs.Ytoljmlhnbmeloaa
open Go.RowKit

/-- A table of the call's own: its struct lies in block tb, its map in block mb. -/
structure Tab (w : World) (lo tb mb : Nat) (v : Value) (rs : List (Int × List Int)) : Prop where
  box : BoxF w tb v (.map (some mb))
  rows : w.ownsRow lo 111 65 v rs.length (rowT rs)
  map : ∃ D : DataW Unit, w.ownsMap Try.prog 2 (plainElem Try.prog 3) mb rs.length D ∧ MF D rs
  full : ∀ i, i < rs.length → (pD rs i).length = 64
  apart : ∀ i j, i < rs.length → j < rs.length → pB rs i = pB rs j → i = j
  lot : lo ≤ tb
  lom : lo ≤ mb
  ne : tb ≠ mb
  vt : v.ownBlock ≠ some tb
  vm : v.ownBlock ≠ some mb

theorem Tab.below {w w' : World} {lo tb mb : Nat} {v : Value} {rs : List (Int × List Int)} (h : Tab w lo tb mb v rs) (hb : Below w.heap.size w w') : Tab w' lo tb mb v rs := by
  have G : w.grownBy w' none := ⟨hb.os, hb.tape, hb.output, hb.size, fun q hq _ => hb.block q hq⟩
  obtain ⟨D, hD, hM⟩ := h.map
  refine ⟨h.box.below hb, World.ownsRow.kept h.rows G ?_, ⟨D, hD.kept G (by simp), hM⟩, h.full, h.apart, h.lot, h.lom, h.ne, h.vt, h.vm⟩
  cases v.ownBlock with
  | none => exact .inl rfl
  | some q => exact .inr (by simp)

theorem lawK : Maps.Keyed Try.prog 2 := Maps.int_keyed Try.underlying2
theorem zeroInt (w : World) : (zeroValue 3).run Try.prog w = .ok (.int .i64 0) w := by kernel_rfl
theorem infoT : (Try.prog.info? 111).map (fun i => (i.size, i.bytes)) = some (65, 72) := by kernel_rfl

set_option maxHeartbeats 400000 in
theorem newTable_any (w : World) : Calls Try.prog 77 #[] w fun e w' => e = .returned (.pointer (some ⟨w.heap.size + 1, 0, none⟩)) ∧ Tab w' w.heap.size (w.heap.size + 1) w.heap.size (.slice none 0 0) [] ∧ Below w.heap.size w w' := by
  have hmm := @run_makeMap Try.prog
  go_enter Try.func77, Try.ntmps77
  go_wp2
  go_ret
  have B1 : Below w.heap.size w (w.alloc (.map #[] 0)) := (Below.refl _ _).alloc (Nat.le_refl _) _
  have hbx := BoxF.new (w.alloc (.map #[] 0)) (.slice none 0 0) (.map (some w.heap.size)) 109
  rw [World.size_alloc] at hbx
  refine ⟨rfl, ⟨hbx, World.ownsRow_nil _ _ _ _, ⟨.map [], (World.ownsMap_made w Try.prog _ _).alloc _, ⟨fun x => ⟨fun h => by simp [Maps.has] at h, fun ⟨i, hi, _⟩ => by simp at hi⟩, fun i hi => by simp at hi⟩⟩, fun i hi => by simp at hi, fun i j hi => by simp at hi, by omega, Nat.le_refl _, by omega, by simp [Value.ownBlock], by simp [Value.ownBlock]⟩, B1.alloc B1.size _⟩

theorem range_new (w : World) (cs : Array Value) (t : TypeId) : (w.alloc (.cells cs t)).rangeAt w.heap.size 0 cs.toList := by
  intro j v hv
  rw [Nat.zero_add, cell_of_row _ _ j cs t (0, 0) (heap_alloc_new w _)]
  simpa using hv

theorem range_second (w : World) (o : Obj) (cs : Array Value) (t : TypeId) : ((w.alloc o).alloc (.cells cs t)).rangeAt (w.heap.size + 1) 0 cs.toList := by
  have := range_new (w.alloc o) cs t
  rwa [World.size_alloc] at this

theorem Tab.form {w : World} {lo tb mb : Nat} {v : Value} {rs : List (Int × List Int)} (h : Tab w lo tb mb v rs) (h0 : 0 < rs.length) : ∃ g cap, v = .slice (some ⟨g, 0, none⟩) rs.length cap ∧ lo ≤ g ∧ g < w.heap.size ∧ rs.length ≤ cap ∧ cap ≤ maxLen := by
  rcases h.rows.2 with ⟨-, h1⟩ | ⟨g, cap, cur, rfl, hb, hg, h2, h3, -⟩
  · omega
  · exact ⟨g, cap, rfl, hb, (Array.getElem?_eq_some_iff.1 hg).1, h2, h3⟩

theorem Tab.range {w : World} {lo tb mb g cap i : Nat} {rs : List (Int × List Int)} (h : Tab w lo tb mb (.slice (some ⟨g, 0, none⟩) rs.length cap) rs) (hi : i < rs.length) : w.rangeAt g (i * 65 + 1) ((pD rs i).map (Value.int .u8)) := by
  intro j u hu
  have hj : j < 64 := by have := (List.getElem?_eq_some_iff.1 hu).1; simpa [h.full i hi] using this
  rw [World.ownsRow.cellAt h.rows (i * 65 + 1 + j) (by omega)]
  exact rowT_val rs i hi h.full j u hu

set_option maxHeartbeats 1000000 in
set_option maxRecDepth 100000 in
theorem get_yes (w : World) (lo tb mb : Nat) (v : Value) (rs : List (Int × List Int)) (x : Int) (i : Nat) (ht : Tab w lo tb mb v rs) (hi : i < rs.length) (hx : pB rs i = x) (hwx : (Lit.int .i64 x).wf = true) :
    Calls Try.prog 51 #[.pointer (some ⟨tb, 0, none⟩), .int .i64 x] w fun e w' => e = .returned (.tuple #[.agg ((pD rs i).map (Value.int .u8)).toArray, .bool true]) ∧ Below w.heap.size w w' := by
  obtain ⟨g, cap, rfl, hg1, hg2, hc1, hc2⟩ := ht.form (by omega)
  obtain ⟨D, hD, hM⟩ := ht.map
  obtain ⟨⟨zt, c0, c1⟩, -⟩ := ht.box
  have HT : Hid (Tab w lo tb mb (.slice (some ⟨g, 0, none⟩) rs.length cap) rs) := ht
  have HD : Hid (w.ownsMap Try.prog 2 (plainElem Try.prog 3) mb rs.length D) := hD
  have hhas : Maps.has D (.int .i64 x) = true := (hM.1 x).2 ⟨i, hi, hx⟩
  have HAT : Hid (∀ z, D.atKey (.int .i64 x) z = .lit (.int .i64 i)) := by intro z; rw [← hx]; exact hM.2 i hi z
  have hkey := Maps.keyOf_int_mk (P := Try.prog) Try.underlying2 hwx
  obtain ⟨V, hV⟩ : ∃ V, V = (pD rs i).map (Value.int .u8) := ⟨_, rfl⟩
  have RG : Hid (w.rangeAt g (i * 65 + 1) V) := by rw [hV]; exact ht.range hi
  have HVL : Hid (V.length = 64) := by rw [hV]; show _ = _; rw [List.length_map]; exact ht.full i hi
  have HV1 : Hid (∀ v ∈ V, v.oneCell' = true) := by rw [hV]; exact ints_oneCell _ _
  rw [← hV]
  have hiI : (i : Int) < (rs.length : Int) := by omega
  unfold maxLen at hc2
  generalize hn : rs.length = n at *
  clear ht hD hM hx hV hn
  go_enter Try.func51, Try.ntmps51
  go_wp2_with (at_lookup; refine wpList_lookup_own_ok_int _ rfl _ _ 107 rfl 2 3 .i64 lawK Try.underlying107 Try.underlying3 (zeroInt _) mb n D rfl (HD.out.alloc _) _ _ rfl hkey ?_)
  intro c hat hwc
  obtain rfl : c = (i : Int) := by have := HAT.out (.lit (.int .i64 0)); rw [hat] at this; simpa using this
  go_wp2_with (first | (refine wpList_load_mid rfl 75 _ rfl g (i * 65 + 1) rfl V _ (World.rangeAt_alloc RG.out _) Try.underlying75 rfl (sizeA _ HVL.out) ?_) | (refine wpList_store_mid rfl 75 _ _ rfl w.heap.size 0 V.toArray rfl rfl ?s1 ?s2 ?s3 ?_))
  case s1 =>
    have e : V.toArray.size = 64 := by rw [List.size_toArray]; exact HVL.out
    rw [e]
    exact there_new _ _ _ _ rfl
  case s2 => rw [List.size_toArray]; exact sizeA _ HVL.out
  case s3 => exact all_oneCell_toArray HV1.out
  refine bodyPost_ret (v := .tuple #[.agg V.toArray, .bool true]) ?_ rfl ⟨rfl, ?_⟩
  · have LV : ∀ cs : Array Value, cs.size = 64 → (loadVar 75 ⟨w.heap.size, 0, none⟩).run Try.prog ((w.alloc (.cells cs 75)).setCells w.heap.size 0 V) = .ok (.agg V.toArray) ((w.alloc (.cells cs 75)).setCells w.heap.size 0 V) := fun cs hcs =>
      run_loadVar_mid (P := Try.prog) _ w.heap.size 0 75 _ _ (World.rangeAt_setCells_same _ _ _ _ (there_new _ _ _ _ (by rw [HVL.out, hcs]))) Try.underlying75 rfl (sizeA _ HVL.out)
    simp [results, Try.results51, asAddr, LV]
  · exact below_setCells (Nat.le_refl _) _ _ _ ((Below.refl _ _).alloc (Nat.le_refl _) _)

set_option maxHeartbeats 1000000 in
set_option maxRecDepth 100000 in
theorem get_no (w : World) (lo tb mb : Nat) (v : Value) (rs : List (Int × List Int)) (x : Int) (ht : Tab w lo tb mb v rs) (hno : ∀ i, i < rs.length → pB rs i ≠ x) (hwx : (Lit.int .i64 x).wf = true) :
    Calls Try.prog 51 #[.pointer (some ⟨tb, 0, none⟩), .int .i64 x] w fun e w' => e = .returned (.tuple #[.agg (List.replicate 64 (Value.int .u8 0)).toArray, .bool false]) ∧ Below w.heap.size w w' := by
  obtain ⟨D, hD, hM⟩ := ht.map
  obtain ⟨⟨zt, c0, c1⟩, -⟩ := ht.box
  have HD : Hid (w.ownsMap Try.prog 2 (plainElem Try.prog 3) mb rs.length D) := hD
  have hhas : Maps.has D (.int .i64 x) = false := by
    cases h : Maps.has D (.int .i64 x) with
    | false => rfl
    | true => obtain ⟨i, hi, e⟩ := (hM.1 x).1 h; exact absurd e (hno i hi)
  have hkey := Maps.keyOf_int_mk (P := Try.prog) Try.underlying2 hwx
  obtain ⟨V, hV⟩ : ∃ V, V = List.replicate 64 (Value.int .u8 0) := ⟨_, rfl⟩
  have HVL : Hid (V.length = 64) := by rw [hV]; show _ = _; simp
  have HV1 : Hid (∀ v ∈ V, v.oneCell' = true) := by rw [hV]; intro u hu; rw [List.mem_replicate] at hu; rw [hu.2]; rfl
  have HVE : Hid (V = List.replicate 64 (Value.int .u8 0)) := hV
  rw [← hV]
  clear ht hD hM hno hV
  go_enter Try.func51, Try.ntmps51
  go_wp2_with (at_lookup; refine wpList_lookup_own_ok_int _ rfl _ _ 107 rfl 2 3 .i64 lawK Try.underlying107 Try.underlying3 (zeroInt _) mb rs.length D rfl (HD.out.alloc _) _ _ rfl hkey ?_)
  intro c hat hwc
  go_wp2_with (first | (refine wpList_load_mid rfl 75 _ rfl (w.heap.size + 1) 0 rfl V _ ?r1 Try.underlying75 rfl (sizeA _ HVL.out) ?_) | (refine wpList_store_mid rfl 75 _ _ rfl w.heap.size 0 V.toArray rfl rfl ?s1 ?s2 ?s3 ?_))
  case r1 => rw [HVE.out]; exact range_second _ _ _ _
  case s1 =>
    have e : V.toArray.size = 64 := by rw [List.size_toArray]; exact HVL.out
    rw [e]
    exact World.there_alloc (there_new _ _ _ _ rfl) _
  case s2 => rw [List.size_toArray]; exact sizeA _ HVL.out
  case s3 => exact all_oneCell_toArray HV1.out
  refine bodyPost_ret (v := .tuple #[.agg V.toArray, .bool false]) ?_ rfl ⟨rfl, ?_⟩
  · have LV : ∀ (cs : Array Value) (o : Obj), cs.size = 64 → (loadVar 75 ⟨w.heap.size, 0, none⟩).run Try.prog (((w.alloc (.cells cs 75)).alloc o).setCells w.heap.size 0 V) = .ok (.agg V.toArray) (((w.alloc (.cells cs 75)).alloc o).setCells w.heap.size 0 V) := fun cs o hcs =>
      run_loadVar_mid (P := Try.prog) _ w.heap.size 0 75 _ _ (World.rangeAt_setCells_same _ _ _ _ (World.there_alloc (there_new _ _ _ _ (by rw [HVL.out, hcs])) _)) Try.underlying75 rfl (sizeA _ HVL.out)
    simp [results, Try.results51, asAddr, LV]
  · exact below_setCells (Nat.le_refl _) _ _ _ (((Below.refl _ _).alloc (Nat.le_refl _) _).alloc (by simp) _)

end Go.Proofs.Ytoljmlhnbmeloaa
