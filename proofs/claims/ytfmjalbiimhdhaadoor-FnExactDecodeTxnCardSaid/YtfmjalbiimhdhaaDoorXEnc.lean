import Derived.Test.YtfmjalbiimhdhaaDoorETree
import Derived.Test.YtfmjalbiimhdhaaDoorXTxn
namespace Go.Proofs.YtfmjalbiimhdhaaDoor
open Go.RowKit Go.Shelf

/-- The image of an effect. -/
def mkB (e : Ef) : Int := if e.del then 2 else 1
def effB (e : Ef) : List Int := if e.del then [2] ++ txB e.nd.path else [1] ++ nodeB e.nd
def effsB (es : List Ef) : List Int := es.flatMap effB
def txnB (z : Int) (es : List Ef) : List Int := if okTxn z es then bigR z.toNat 4 ++ bigR es.length 2 ++ effsB es else []
theorem okEf_nd' {e : Ef} (h : okEf e = true) : okNd e.nd = true := by
  unfold okEf at h
  simp only [Bool.and_eq_true] at h
  exact h.1
theorem effB_len {e : Ef} (h : okEf e = true) : (effB e).length ≤ 189 ∧ 0 < (effB e).length := by
  have h1 := okNd_all (okEf_nd' h)
  unfold effB
  split
  · rw [List.length_append, txB_len]; simp; omega
  · rw [List.length_append, nodeB_len]; simp; omega
theorem effsB_succ (es : List Ef) (k : Nat) (h : k < es.length) : effsB (es.take k) ++ effB (eAt es k) = effsB (es.take (k + 1)) := by
  unfold effsB
  rw [List.take_succ_eq_append_getElem h, List.flatMap_append, eAt_get h]
  simp
theorem effsB_all (es : List Ef) (k : Nat) (h : es.length ≤ k) : effsB (es.take k) = effsB es := by rw [List.take_of_length_le h]
theorem effsB_len {es : List Ef} (h : ∀ k, k < es.length → okEf (eAt es k) = true) : ∀ k, k ≤ es.length → (effsB (es.take k)).length ≤ k * 189
  | 0, _ => by simp [effsB]
  | k + 1, hk => by
    have h1 := effsB_len h k (by omega)
    have h2 := effB_len (h k (by omega))
    rw [← effsB_succ es k (by omega), List.length_append]
    omega
theorem okTxn_all {z : Int} {es : List Ef} (h : okTxn z es = true) : 1 ≤ z ∧ z ≤ 2147483647 ∧ es.length ≤ 1000 ∧ ∀ k, k < es.length → okEf (eAt es k) = true := by
  unfold okTxn okEs at h
  simp only [Bool.and_eq_true, decide_eq_true_eq] at h
  refine ⟨h.1.1.1, h.1.1.2, h.1.2, fun k hk => ?_⟩
  have := List.all_eq_true.1 h.2 k (by simpa using hk)
  unfold okEAt at this
  simp only [Bool.and_eq_true] at this
  exact this.1
theorem txnB_len (z : Int) (es : List Ef) : (txnB z es).length ≤ 189006 := by
  unfold txnB
  split
  · rename_i h
    obtain ⟨-, -, h1, h2⟩ := okTxn_all h
    have h3 := effsB_len h2 es.length (Nat.le_refl _)
    rw [effsB_all es _ (Nat.le_refl _)] at h3
    simp only [List.length_append, bigR_len]
    omega
  · simp

/-- An effect's image in a box of its own. -/
def BxE (w : World) (b : Nat) (e : Ef) : Prop := BxN w b e.nd ∧ w.cell? ⟨b, 7, none⟩ = some (.int .u8 (mkB e))
theorem BxE.keep {w w' : World} {b : Nat} {e : Ef} (h : BxE w b e) (hk : KT 5 w w') : BxE w' b e := by
  obtain ⟨A, t, f, h1, h2⟩ := h.1.1
  exact ⟨h.1.keep hk, (hk.cell h1 h2 7).trans h.2⟩

set_option maxHeartbeats 1000000 in
set_option maxRecDepth 100000 in
theorem imageOf_any (w : World) (e : Ef) :
    Calls Tryd.prog 86 #[.agg #[.bool e.del, .string e.nd.path, .string e.nd.data, .int .i64 e.nd.ver, .int .i64 e.nd.cver, .int .i64 e.nd.cz, .int .i64 e.nd.mz, .int .i64 e.nd.pz]] w fun r w' =>
      r = .returned (.agg #[.string e.nd.path, .string e.nd.data, .int .i64 e.nd.ver, .int .i64 e.nd.cver, .int .i64 e.nd.cz, .int .i64 e.nd.mz, .int .i64 e.nd.pz, .int .u8 (mkB e)]) ∧ Below w.heap.size w w' := by
  have HB : Hid (∀ o1 o2, Below w.heap.size w ((w.alloc o1).alloc o2)) := fun o1 o2 => ((Below.refl _ _).alloc (Nat.le_refl _) _).alloc (by simp) _
  go_enter Tryd.func86, Tryd.ntmps86
  obtain ⟨del, nd⟩ := e
  cases del with
  | true =>
    go_wp2
    refine bodyPost_ret (v := .agg #[.string nd.path, .string nd.data, .int .i64 nd.ver, .int .i64 nd.cver, .int .i64 nd.cz, .int .i64 nd.mz, .int .i64 nd.pz, .int .u8 2]) (by simp [results, Tryd.results86, go_sem]) rfl ⟨rfl, HB.out _ _⟩
  | false =>
    go_wp2
    refine bodyPost_ret (v := .agg #[.string nd.path, .string nd.data, .int .i64 nd.ver, .int .i64 nd.cver, .int .i64 nd.cz, .int .i64 nd.mz, .int .i64 nd.pz, .int .u8 1]) (by simp [results, Tryd.results86, go_sem]) rfl ⟨rfl, HB.out _ _⟩

set_option maxHeartbeats 1000000 in
set_option maxRecDepth 100000 in
theorem encEff_any (w : World) (base : Nat) (v : Value) (xs : List Int) (b : Nat) (n : Ef) (h : Own .u8 5 w base v xs) (hb : base ≤ w.heap.size) (hl : xs.length ≤ 900000) (hx : BxE w b n) (hn : okEf n = true) :
    Calls Tryd.prog 87 #[.pointer (some ⟨b, 0, none⟩), v] w fun e w' => ∃ v', e = .returned v' ∧ Own .u8 5 w' base v' (xs ++ effB n) ∧ Below base w w' ∧ KT 5 w w' := by
  obtain ⟨i0, hi, hz0, hz1, hz2⟩ := info_parts Tryd.infoB
  have hnd := okEf_nd' hn
  have hpz := (okNd_all hnd).1
  have HN : Hid (okNd n.nd = true) := hnd
  have HX : Hid (BxE w b n) := hx
  have HO : Hid (w.ownsRow base 5 1 v xs.length (xs.map (Value.int .u8))) := h
  have HE : Hid ((n.del = true ∧ mkB n = 2 ∧ effB n = [2] ++ txB n.nd.path) ∨ (n.del = false ∧ mkB n = 1 ∧ effB n = [1] ++ nodeB n.nd)) := by
    show _ ∨ _
    unfold mkB effB
    cases n.del with
    | true => exact .inl ⟨rfl, rfl, rfl⟩
    | false => exact .inr ⟨rfl, rfl, rfl⟩
  clear h hx hn hnd
  have c7 := HX.out.2
  rcases HE.out with ⟨-, e2, e3⟩ | ⟨-, e2, e3⟩
  · have HE3 : Hid (effB n = [2] ++ txB n.nd.path) := e3
    have HE2 : Hid (mkB n = 2) := e2
    rw [e2] at c7
    clear e2 e3 HE
    go_enter Tryd.func87, Tryd.ntmps87
    go_wp2_with (at_builtin; go_must (refine wpList_append_own _ rfl _ _ 44 rfl base 5 i0 (.int .u8 0) 1 1 Tryd.underlying44 hi hz0 hz1 hz2 rfl (by decide) _ _ _ rfl (World.ownsRow.alloc HO.out _) ⟨w.heap.size, 0, none⟩ 1 1 [.int .u8 2] rfl rfl (cell_one_new _ _ _) (by intro u hu; simp at hu; subst hu; rfl) ?c3 ?c4 ?c5 ?_))
    case c3 => unfold maxLen; omega
    case c4 => omega
    case c5 => simp; omega
    intro v2 w2 ho2 hg2 _
    have O2 : Hid (Own .u8 5 w2 base v2 (xs ++ [2])) := by
      refine own_of (q := xs.length + 1) (ys := xs ++ [2]) (by simp) rfl ?_
      rw [List.map_append]; exact ho2
    have B2 : Hid (Below base w w2) := ((Below.refl _ _).alloc hb _).grown hg2 (by simp; omega) (fun q hq => (World.ownsRow.lt HO.out q hq).1)
    have K2 : Hid (KT 5 w w2) := ((KT.refl _ _).alloc _).grown (HO.out.alloc _) hg2
    have X2 : Hid (BxE w2 b n) := HX.out.keep K2.out
    have s2 := B2.out.size
    clear ho2 hg2 c7
    have c7 := X2.out.2
    rw [HE2.out] at c7
    obtain ⟨d0, -, -, -, -, -, -⟩ := X2.out.1.2
    go_wp2_with fail
    refine (implText_any w2 base v2 _ n.nd.path O2.out (by omega) (by simp; omega) (by omega)).mono ?_
    rintro e w3 ⟨v3, rfl, o3, b3, k3⟩
    have O3 : Hid (Own .u8 5 w3 base v3 (xs ++ effB n)) := by rw [HE3.out, ← List.append_assoc]; exact o3
    have B3 : Hid (Below base w w3) := B2.out.trans b3
    have K3 : Hid (KT 5 w w3) := K2.out.trans k3
    clear o3 b3 k3 O2 X2 d0 c7
    go_wp2
    go_ret
    exact ⟨_, rfl, O3.out, B3.out, K3.out⟩
  · have HE3 : Hid (effB n = [1] ++ nodeB n.nd) := e3
    have HE2 : Hid (mkB n = 1) := e2
    rw [e2] at c7
    clear e2 e3 HE
    go_enter Tryd.func87, Tryd.ntmps87
    go_wp2_with (at_builtin; go_must (refine wpList_append_own _ rfl _ _ 44 rfl base 5 i0 (.int .u8 0) 1 1 Tryd.underlying44 hi hz0 hz1 hz2 rfl (by decide) _ _ _ rfl (World.ownsRow.alloc HO.out _) ⟨w.heap.size, 0, none⟩ 1 1 [.int .u8 1] rfl rfl (cell_one_new _ _ _) (by intro u hu; simp at hu; subst hu; rfl) ?f3 ?f4 ?f5 ?_))
    case f3 => unfold maxLen; omega
    case f4 => omega
    case f5 => simp; omega
    intro v2 w2 ho2 hg2 _
    have O2 : Hid (Own .u8 5 w2 base v2 (xs ++ [1])) := by
      refine own_of (q := xs.length + 1) (ys := xs ++ [1]) (by simp) rfl ?_
      rw [List.map_append]; exact ho2
    have B2 : Hid (Below base w w2) := ((Below.refl _ _).alloc hb _).grown hg2 (by simp; omega) (fun q hq => (World.ownsRow.lt HO.out q hq).1)
    have K2 : Hid (KT 5 w w2) := ((KT.refl _ _).alloc _).grown (HO.out.alloc _) hg2
    have X2 : Hid (BxE w2 b n) := HX.out.keep K2.out
    have s2 := B2.out.size
    clear ho2 hg2 c7
    have c7 := X2.out.2
    rw [HE2.out] at c7
    go_wp2_with fail
    refine (encNode_any w2 base v2 _ b n.nd O2.out (by omega) (by simp; omega) X2.out.1 HN.out).mono ?_
    rintro e w3 ⟨v3, rfl, o3, b3, k3⟩
    have O3 : Hid (Own .u8 5 w3 base v3 (xs ++ effB n)) := by rw [HE3.out, ← List.append_assoc]; exact o3
    have B3 : Hid (Below base w w3) := B2.out.trans b3
    have K3 : Hid (KT 5 w w3) := K2.out.trans k3
    clear o3 b3 k3 O2 X2 c7
    go_wp2
    go_ret
    exact ⟨_, rfl, O3.out, B3.out, K3.out⟩

end Go.Proofs.YtfmjalbiimhdhaaDoor
