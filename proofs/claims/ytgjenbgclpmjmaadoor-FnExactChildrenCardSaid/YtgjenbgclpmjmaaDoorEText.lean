import Derived.Test.YtgjenbgclpmjmaaDoorENum
import Derived.Test.YtgjenbgclpmjmaaDoorConv
import Derived.Test.YtgjenbgclpmjmaaDoorStepOwn
import Derived.Test.YtgjenbgclpmjmaaDoorTNode
import Derived.Lib.AppendStr
namespace Go.Proofs.YtgjenbgclpmjmaaDoor
open Go.RowKit

/-- The bytes of a text. -/
def strN (s : ByteArray) : List Int := s.data.toList.map fun b => (b.toNat : Int)
theorem strN_len (s : ByteArray) : (strN s).length = s.size := by unfold strN; rw [List.length_map, Array.length_toList]; rfl
theorem strN_cells (s : ByteArray) : Lib.strCells s = (strN s).map (Value.int .u8) := by unfold Lib.strCells strN; rw [List.map_map]; rfl
/-- The image of a text. -/
def txB (s : ByteArray) : List Int := [(s.size : Int)] ++ strN s
theorem txB_len (s : ByteArray) : (txB s).length = 1 + s.size := by unfold txB; rw [List.length_append, strN_len]; rfl

/-- What a conversion of a text to bytes leaves. -/
theorem conv_str (w : World) (s : ByteArray) :
    ∃ cap W, (convert 9 45 (.string s)).run Tryd.prog w = .ok (.slice (some ⟨w.heap.size, 0, none⟩) s.size cap) W ∧ Below w.heap.size w W ∧ w.heap.size < W.heap.size ∧
      (∀ j u, ((strN s).map (Value.int .u8))[j]? = some u → W.cell? ((⟨w.heap.size, 0, none⟩ : Addr).add j) = some u) := by
  have hr := Lib.run_convert_string_bytes (P := Tryd.prog) w 9 45 5 s Tryd.underlying9 Tryd.underlying45 Tryd.underlying5
  have hsz := Lib.bytesWorld_size w 5 s
  refine ⟨_, _, hr, ⟨rfl, rfl, rfl, by omega, fun k hk => Lib.bytesWorld_at_old w _ _ k hk⟩, by omega, ?_⟩
  intro j u hj
  have hlt : j < s.size := by
    have := (List.getElem?_eq_some_iff.1 hj).1
    rw [List.length_map, strN_len] at this; exact this
  rw [Addr.add_lit, Nat.zero_add, Lib.bytesWorld_cell w 5 s j hlt, ← hj]
  unfold strN
  have h2 : j < s.data.toList.length := by rw [Array.length_toList]; exact hlt
  rw [List.getElem?_map, List.getElem?_map, List.getElem?_eq_getElem h2]
  simp [List.getD, Array.getElem?_eq_getElem (show j < s.data.size from hlt)]

set_option maxHeartbeats 1000000 in
set_option maxRecDepth 100000 in
theorem implText_any (w : World) (base : Nat) (v : Value) (xs : List Int) (s : ByteArray) (h : Own .u8 5 w base v xs) (hb : base ≤ w.heap.size) (hl : xs.length ≤ 1048576) (hs : s.size < 256) :
    Calls Tryd.prog 117 #[v, .string s] w fun e w' => ∃ v', e = .returned v' ∧ Own .u8 5 w' base v' (xs ++ txB s) ∧ Below base w w' ∧ KT 5 w w' := by
  obtain ⟨i0, hi, hz0, hz1, hz2⟩ := info_parts Tryd.infoB
  have HO : Hid (w.ownsRow base 5 1 v xs.length (xs.map (Value.int .u8))) := h
  clear h
  go_enter Tryd.func117, Tryd.ntmps117
  go_wp2_with (at_builtin; go_must (refine wpList_append_own _ rfl _ _ 45 rfl base 5 i0 (.int .u8 0) 1 1 Tryd.underlying45 hi hz0 hz1 hz2 rfl (by decide) _ _ _ rfl (World.ownsRow.alloc HO.out _) ⟨w.heap.size, 0, none⟩ 1 1 [.int .u8 (s.size : Int)] rfl rfl (cell_one_new _ _ _) (by intro u hu; simp at hu; subst hu; rfl) ?c3 ?c4 ?c5 ?_))
  case c3 => unfold maxLen; omega
  case c4 => omega
  case c5 => simp; omega
  intro v2 w2 ho2 hg2 _
  have O2 : Hid (w2.ownsRow base 5 1 v2 (xs.length + 1) ((xs ++ [(s.size : Int)]).map (Value.int .u8))) := by
    rw [List.map_append]; exact ho2
  have B2 : Hid (Below base w w2) := ((Below.refl _ _).alloc hb _).grown hg2 (by simp; omega) (fun q hq => (World.ownsRow.lt HO.out q hq).1)
  have K2 : Hid (KT 5 w w2) := ((KT.refl _ _).alloc _).grown (HO.out.alloc _) hg2
  have s2 := B2.out.size
  clear ho2 hg2
  go_wp2_with (at_builtin; go_must (refine Lib.wpList_append_own_string _ rfl _ _ 45 9 rfl base 5 i0 Tryd.underlying45 Tryd.underlying9 hi hz0 hz1 hz2 _ _ _ rfl O2.out s rfl ?d3 ?d4 ?d5 ?_))
  case d3 => unfold maxLen; omega
  case d4 => omega
  case d5 => omega
  intro v3 w3 ho3 hg3 _
  have O3 : Hid (Own .u8 5 w3 base v3 (xs ++ txB s)) := by
    refine own_of (q := xs.length + 1 + s.size) (ys := xs ++ txB s) (by rw [List.length_append, txB_len]; omega) rfl ?_
    rw [strN_cells] at ho3
    rw [List.map_append]; exact ho3
  have B3 : Hid (Below base w w3) := B2.out.grown hg3 (by omega) (fun q hq => (World.ownsRow.lt O2.out q hq).1)
  have K3 : Hid (KT 5 w w3) := K2.out.grown O2.out hg3
  clear ho3 hg3
  go_wp2
  go_ret
  exact ⟨_, rfl, O3.out, B3.out, K3.out⟩

set_option maxHeartbeats 1000000 in
set_option maxRecDepth 100000 in
theorem specText_any (w : World) (s : ByteArray) (hs : s.size < 256) :
    Calls Tryd.prog 89 #[.string s] w fun e w' => ∃ v', e = .returned v' ∧ Own .u8 5 w' w.heap.size v' (txB s) ∧ Below w.heap.size w w' := by
  obtain ⟨i0, hi, hz0, hz1, hz2⟩ := info_parts Tryd.infoB
  go_enter Tryd.func89, Tryd.ntmps89
  obtain ⟨cap, W, hr, b, z, c⟩ := conv_str (w.alloc (.cells #[.int .u8 (s.size : Int)] 5)) s
  have O1 : Own .u8 5 (w.alloc (.cells #[.int .u8 (s.size : Int)] 5)) w.heap.size (.slice (some ⟨w.heap.size, 0, none⟩) 1 1) [(s.size : Int)] := World.ownsRow_lit w #[.int .u8 (s.size : Int)] 1 (by simp) (by unfold maxLen; omega) rfl
  have O2 : Hid (W.ownsRow w.heap.size 5 1 (.slice (some ⟨w.heap.size, 0, none⟩) 1 1) 1 ([(s.size : Int)].map (Value.int .u8))) := O1.below b
  have B0 : Hid (Below w.heap.size w W) := ((Below.refl _ _).alloc (Nat.le_refl _) _).trans (b.mono (by simp))
  have HC : Hid (∀ j u, ((strN s).map (Value.int .u8))[j]? = some u → W.cell? ((⟨(w.alloc (.cells #[.int .u8 (s.size : Int)] 5)).heap.size, 0, none⟩ : Addr).add j) = some u) := c
  have s0 := B0.out.size
  clear O1 b c z
  go_wp2_with (at_builtin; go_must (refine wpList_append_own _ rfl _ _ 45 rfl w.heap.size 5 i0 (.int .u8 0) 1 1 Tryd.underlying45 hi hz0 hz1 hz2 rfl (by decide) _ _ _ rfl O2.out _ s.size cap ((strN s).map (Value.int .u8)) rfl ?c1 ?c0 ?c2 ?c3 ?c4 ?c5 ?_))
  case c0 => intro j u hj; have := HC.out j u hj; rwa [World.size_alloc] at this
  case c1 => rw [List.length_map, strN_len, Nat.mul_one]
  case c2 => intro u hu; obtain ⟨x, -, rfl⟩ := List.mem_map.1 hu; rfl
  case c3 => unfold maxLen; omega
  case c4 => omega
  case c5 => omega
  intro v2 w2 ho2 hg2 _
  have O3 : Hid (Own .u8 5 w2 w.heap.size v2 (txB s)) := by
    refine own_of (q := 1 + s.size) (ys := txB s) (by rw [txB_len]) rfl ?_
    unfold txB
    rw [List.map_append]; exact ho2
  have B3 : Hid (Below w.heap.size w w2) := B0.out.grown hg2 (by omega) (fun q hq => (World.ownsRow.lt O2.out q hq).1)
  clear ho2 hg2 hr HC
  go_wp2
  go_ret
  exact ⟨_, rfl, O3.out, B3.out⟩

end Go.Proofs.YtgjenbgclpmjmaaDoor
