import Derived.Test.YtajnihjdhhmefaaSpecRead2
import Derived.Laws.Cover3
import Derived.Deep.MidRow
namespace Go.Proofs.Ytajnihjdhhmefaa
open Go.RowKit

theorem there_new (w : World) (cs : Array Value) (t : TypeId) (n : Nat) (hn : cs.size = n) : (w.alloc (.cells cs t)).there w.heap.size 0 n := by
  intro j hj
  subst hn
  rw [Nat.zero_add]
  have h := cell_of_row (w.alloc (.cells cs t)) w.heap.size j cs t (0, 0) (heap_alloc_new w _)
  refine ⟨by rw [h]; simp [hj], by simp⟩

theorem below_setCells {B b : Nat} {w : World} (hB : B ≤ b) : ∀ (vs : List Value) (o : Nat) (w' : World), Below B w w' → Below B w (w'.setCells b o vs)
  | [], _, _, h => h
  | v :: vs, o, w', h => below_setCells hB vs (o + 1) (w'.setCell ⟨b, o, none⟩ v) (h.setCell hB v)

set_option maxHeartbeats 400000 in
set_option maxRecDepth 100000 in
theorem blockAt_any (w : World) (blk o dl ca b : Nat) (dur : List Int) (hd : Rd .u8 w (.slice (some ⟨blk, o, none⟩) dl ca) dur) (hdl : dur.length = dl) (hb : (b + 1) * 64 ≤ dl) (_hd1 : dl ≤ 1048576) :
    Calls Try.prog 55 #[.slice (some ⟨blk, o, none⟩) dl ca, .int .i64 b] w fun e w' => e = .returned (.agg (((dur.drop (b * 64)).take 64).map (Value.int .u8)).toArray) ∧ Below w.heap.size w w' := by
  have HD : Hid (Rd .u8 w (.slice (some ⟨blk, o, none⟩) dl ca) dur) := hd
  have hca : dl ≤ ca ∧ ca ≤ maxLen := by
    obtain ⟨ao, c', e, h1, h2⟩ := HD.out.len
    simp only [Value.slice.injEq] at e
    obtain ⟨_, e2, rfl⟩ := e
    omega
  obtain ⟨hca1, hca2⟩ := hca
  unfold maxLen at hca2
  have hge : 64 ≤ dl - b * 64 := by omega
  have hlt : ¬ dl - b * 64 < 64 := by omega
  have hat : ∀ W, (Instr.arrayAt 75 (.slice (some ⟨blk, o + b * 64, none⟩) (dl - b * 64) (ca - b * 64))).run Try.prog W = .ok (.pointer (some ⟨blk, o + b * 64, none⟩)) W := fun W => run_arrayAt W 75 _ 64 _ _ _ Try.underlying75 hge
  have hsz : (Try.prog.info? 75).map (·.size) = some (((dur.drop (b * 64)).take 64).map (Value.int .u8)).length := by
    rw [List.length_map, List.length_take, List.length_drop, show min 64 (dur.length - b * 64) = 64 by omega]
    kernel_rfl
  have hrg : w.rangeAt blk (o + b * 64) (((dur.drop (b * 64)).take 64).map (Value.int .u8)) := by
    obtain ⟨ao, cap', e, h1, h2, h3⟩ := hd
    simp only [Value.slice.injEq] at e
    obtain ⟨rfl, hl, rfl⟩ := e
    rcases h3 with rfl | ⟨b', o', e, hb', hc⟩
    · simp at hdl; omega
    · injection e with e
      injection e with e1 e2 _
      subst e1; subst e2
      intro j u hu
      have hj : j < 64 := by have := (List.getElem?_eq_some_iff.1 hu).1; simp at this; omega
      have := hc (b * 64 + j) (by omega)
      rw [Nat.add_assoc, this]
      simp [List.getElem?_drop, hj] at hu
      obtain ⟨y, hy, rfl⟩ := hu
      simp [List.getD, hy]
  have HSZ : Hid ((Try.prog.info? 75).map (·.size) = some (((dur.drop (b * 64)).take 64).map (Value.int .u8)).length) := hsz
  have HRG : Hid (w.rangeAt blk (o + b * 64) (((dur.drop (b * 64)).take 64).map (Value.int .u8))) := hrg
  clear hsz hrg
  clear hd
  go_enter Try.func55, Try.ntmps55
  go_wp2_with (first | (refine wpList_load_mid rfl 75 _ rfl blk (o + b * 64) rfl (((dur.drop (b * 64)).take 64).map (Value.int .u8)) _ (World.rangeAt_alloc HRG.out _) Try.underlying75 rfl HSZ.out ?_) | (refine wpList_store_mid rfl 75 _ _ rfl w.heap.size 0 (((dur.drop (b * 64)).take 64).map (Value.int .u8)).toArray rfl rfl ?s1 ?s2 ?s3 ?_))
  case s1 => exact there_new _ _ _ _ (by have h : (((dur.drop (b * 64)).take 64).map (Value.int .u8)).toArray.size = 64 := by { rw [List.size_toArray, List.length_map, List.length_take, List.length_drop]; omega }
                                         rw [h]; rfl)
  case s2 => rw [List.size_toArray]; exact HSZ.out
  case s3 => exact all_oneCell_toArray (ints_oneCell _ _)
  have hlen : (((dur.drop (b * 64)).take 64).map (Value.int .u8)).length = 64 := by rw [List.length_map, List.length_take, List.length_drop]; omega
  refine bodyPost_ret (v := .agg (((dur.drop (b * 64)).take 64).map (Value.int .u8)).toArray) ?_ rfl ⟨rfl, ?_⟩
  · have LV : ∀ cs : Array Value, cs.size = 64 → (loadVar 75 ⟨w.heap.size, 0, none⟩).run Try.prog ((w.alloc (.cells cs 75)).setCells w.heap.size 0 (((dur.drop (b * 64)).take 64).map (Value.int .u8))) = .ok (.agg (((dur.drop (b * 64)).take 64).map (Value.int .u8)).toArray) ((w.alloc (.cells cs 75)).setCells w.heap.size 0 (((dur.drop (b * 64)).take 64).map (Value.int .u8))) := fun cs hcs =>
      run_loadVar_mid (P := Try.prog) _ w.heap.size 0 75 _ _ (World.rangeAt_setCells_same _ _ _ _ (there_new _ _ _ _ (by rw [hlen, hcs]))) Try.underlying75 rfl HSZ.out
    simp [results, Try.results55, Act.put, asAddr, -List.map_take, -List.map_drop]
    exact LV _ rfl
  · exact below_setCells (Nat.le_refl _) _ _ _ ((Below.refl _ _).alloc (Nat.le_refl _) _)

end Go.Proofs.Ytajnihjdhhmefaa
