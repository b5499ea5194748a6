import Derived.Test.YtmjliomhhgahkaaGreatDoorJ03
namespace Go.Proofs.YtmjliomhhgahkaaGreatDoor
open Go.RowKit Go.Shelf

set_option linter.unusedSimpArgs false in
set_option maxRecDepth 100000 in
set_option maxHeartbeats 8000000 in
theorem l6Op_nil (w : World) (ao : Option Addr) (cap : Nat) : Calls Tryz.prog 14 #[.slice ao 0 cap] w fun e w' => OpP w [] e w' := by
  have bA : Below w.heap.size w (w.alloc (.cells #[.int .i64 0, .string ⟨#[]⟩, .string ⟨#[]⟩, .int .i64 0, .bool false] 41)) := (Below.refl _ _).alloc (Nat.le_refl _) _
  have BA := hd9 bA
  have X := hd9 (St.new w #[.int .i64 0, .string ⟨#[]⟩, .string ⟨#[]⟩, .int .i64 0, .bool false] 41)
  clear bA
  go_enter Tryz.func14, Tryz.ntmps14
  go_wp2_with fail
  generalize w.alloc (.cells #[.int .i64 0, .string ⟨#[]⟩, .string ⟨#[]⟩, .int .i64 0, .bool false] 41) = w1 at *
  go_loopw [4] (fun v4 wr => v4 = .int .i64 0 ∧ wr = w1) (fun _ _ => 0)
  case atStart => exact ⟨rfl, rfl⟩
  case round =>
    obtain ⟨rfl, rfl⟩ := hrel
    have x0 := X.out.fz
    have y0 := X.out.cl 0 _ rfl
    have y1 := X.out.cl 1 _ rfl
    have y2 := X.out.cl 2 _ rfl
    have y3 := X.out.cl 3 _ rfl
    have y4 := X.out.cl 4 _ rfl
    go_wp2_with fail
    obtain ⟨b9, x9⟩ := op_box BA.out X.out ⟨0, ⟨#[]⟩, ⟨#[]⟩, 0, false⟩
    have d0 := x9.cl 0 _ rfl
    have d1 := x9.cl 1 _ rfl
    have d2 := x9.cl 2 _ rfl
    have d3 := x9.cl 3 _ rfl
    have d4 := x9.cl 4 _ rfl
    exact bodyPost_ret (v := .tuple #[opV ⟨0, ⟨#[]⟩, ⟨#[]⟩, 0, false⟩, .bool false]) (by simp [results, Tryz.results14, go_sem, opV, d0, d1, d2, d3, d4]) rfl (OpP.no rfl b9)
def SzB (L : List ByteArray) : Prop := ∀ i, (bAt L i).size ≤ 1048576
theorem l6Op_any (w : World) (v : Value) (L : List ByteArray) (h : RdB w v L) (hsz : SzB L) : Calls Tryz.prog 14 #[v] w fun e w' => OpP w L e w' := by
  obtain ⟨ao, cap, rfl, h1, h2, h3⟩ := h
  by_cases h0 : 0 < L.length
  · rcases h3 with h3 | ⟨b, o, rfl, hb, hc⟩
    · rw [h3] at h0; simp at h0
    · exact l6Op_row w b o cap L h0 h1 h2 hsz hc hb
  · have hn : L = [] := List.eq_nil_of_length_eq_zero (by omega)
    subst hn
    exact l6Op_nil w ao cap
/-- Numbers of fields. -/
def numsO : List ByteArray → Option (List Int)
  | [] => some []
  | b :: L => match numO b.data.toList with | none => none | some v => (numsO L).map fun r => v :: r
theorem numsO_snoc : ∀ (L : List ByteArray) (b : ByteArray), numsO (L ++ [b]) = match numsO L with | none => none | some r => (numO b.data.toList).map fun v => r ++ [v]
  | [], b => by simp only [List.nil_append, numsO]; cases numO b.data.toList <;> rfl
  | a :: L, b => by
    simp only [List.cons_append, numsO, numsO_snoc L b]
    cases numO a.data.toList with
    | none => rfl
    | some x =>
      cases numsO L with
      | none => rfl
      | some r => cases numO b.data.toList <;> rfl
theorem numsO_pre {L : List ByteArray} : ∀ {k : Nat}, numsO (L.take k) = none → numsO L = none := by
  intro k h
  rw [← List.take_append_drop k L]
  generalize L.take k = A at *
  generalize L.drop k = B at *
  induction A with
  | nil => simp [numsO] at h
  | cons a A ih =>
    simp only [List.cons_append, numsO] at h ⊢
    cases hx : numO a.data.toList with
    | none => rfl
    | some x =>
      rw [hx] at h
      cases hy : numsO A with
      | none => rw [ih hy]; rfl
      | some r => rw [hy] at h; cases h
theorem numsO_len : ∀ {L : List ByteArray} {r : List Int}, numsO L = some r → r.length = L.length
  | [], r, h => by injection h with h; rw [← h]; rfl
  | a :: L, r, h => by
    simp only [numsO] at h
    cases hx : numO a.data.toList with
    | none => rw [hx] at h; cases h
    | some x =>
      rw [hx] at h
      cases hy : numsO L with
      | none => rw [hy] at h; cases h
      | some q =>
        rw [hy] at h
        injection h with h
        rw [← h, List.length_cons, numsO_len hy, List.length_cons]
def NumsP (w : World) (L : List ByteArray) (e : Ending) (w' : World) : Prop := ∃ (vo : Value) (ns : List Int) (ok : Bool), e = .returned (.tuple #[vo, .bool ok]) ∧ Own .i64 2 w' w.heap.size vo ns ∧ ns.length ≤ L.length ∧ Below w.heap.size w w' ∧ ok = ((numsO L).isSome && decide (L.length ≤ 2000)) ∧ ∀ x, numsO L = some x → ns = x
theorem Tryz.infoI9 : (Tryz.prog.info? 2).map (fun i => (i.zero, i.size, i.bytes)) = some (some (.int .i64 0), 1, 8) := by kernel_rfl

set_option linter.unusedSimpArgs false in
set_option maxRecDepth 100000 in
set_option maxHeartbeats 8000000 in
theorem l6Nums_row (w : World) (b o cap : Nat) (L : List ByteArray) (hL : 0 < L.length) (hLc : L.length ≤ cap) (hc : cap ≤ maxLen) (hL1 : L.length ≤ 1048577) (hsz : SzB L) (hcl : ∀ i, i < L.length → w.cell? ⟨b, o + i, none⟩ = some (.string (bAt L i))) (hb : b < w.heap.size) :
    Calls Tryz.prog 15 #[.slice (some ⟨b, o, none⟩) L.length cap] w fun e w' => NumsP w L e w' := by
  obtain ⟨iq, hiq, hq0, hqs, hqb⟩ := info_parts Tryz.infoI9
  unfold maxLen at hc
  have B0 : Hid (Below w.heap.size w (w.alloc (.cells #[] 2))) := (Below.refl _ _).alloc (Nat.le_refl _) _
  have O0 : Hid (Own .i64 2 (w.alloc (.cells #[] 2)) w.heap.size (.slice (some ⟨w.heap.size, 0, none⟩) 0 0) []) := by
    have := World.ownsRow_lit (base := w.heap.size) (e := 2) (size := 1) w #[] 0 (Nat.le_refl _) (by decide) rfl
    show World.ownsRow _ _ _ _ _ _ _
    simpa using this
  have HCL := hd9 hcl
  have HSZ := hd9 hsz
  clear hcl hsz
  go_enter Tryz.func15, Tryz.ntmps15
  go_wp2_with fail
  generalize w.alloc (.cells #[] 2) = w1 at *
  go_loopw [4, 5] (fun v4 v5 wr => ∃ (i g co : Nat) (ns : List Int), v4 = .slice (some ⟨g, 0, none⟩) i co ∧ v5 = .int .i64 (i : Int) ∧ i ≤ L.length ∧ Hid (ns.length = i) ∧ Hid (Own .i64 2 wr w.heap.size (.slice (some ⟨g, 0, none⟩) i co) ns) ∧ Hid (Below w.heap.size w wr) ∧ Hid (numsO (L.take i) = some ns)) (fun _ i _ => L.length - (intOf i).toNat)
  case atStart => exact ⟨0, w.heap.size, 0, [], rfl, rfl, Nat.zero_le _, rfl, O0, B0, rfl⟩
  case round =>
    obtain ⟨i, g, co, ns, rfl, rfl, hi, HL, HO, HB, HN⟩ := hrel
    clear O0 B0
    have sB := HB.out.size
    by_cases hlt : i < L.length
    · have hltI : (i : Int) < (L.length : Int) := by omega
      have c0 := (HB.out.cell (p := ⟨b, o + i, none⟩) hb).trans (HCL.out i hlt)
      have z0 := HSZ.out i
      have htk : numsO (L.take (i + 1)) = (numO (bAt L i).data.toList).map fun v => ns ++ [v] := by
        rw [List.take_add_one, List.getElem?_eq_getElem hlt, bAt_get hlt]
        show numsO (L.take i ++ [L[i]]) = _
        rw [numsO_snoc, HN.out]
      have HTK := hd9 htk
      clear htk
      generalize bAt L i = f at *
      go_wp2_with fail
      refine (l6Number_any 1048576 f wr z0 (Nat.le_refl _)).mono ?_
      rintro e w2 ⟨vv, ok, rfl, b2, hok, hvv⟩
      have O2 : Hid (Own .i64 2 w2 w.heap.size (.slice (some ⟨g, 0, none⟩) i co) ns) := by
        have := HO.out
        exact ⟨this.1, this.2.imp id fun ⟨g, cap, cur, e1, e2, hg, r⟩ => ⟨g, cap, cur, e1, e2, (b2.block _ (Array.getElem?_eq_some_iff.1 hg).1).trans hg, r⟩⟩
      have B2 := hd9 (HB.out.trans (b2.mono HB.out.size))
      have s2 := B2.out.size
      have HQ := hd9 (And.intro hok hvv)
      clear b2 hok hvv HO HB c0
      cases ok with
      | false =>
        have hno : numsO L = none := by
          refine numsO_pre (k := i + 1) ?_
          rw [HTK.out]
          cases hx : numO f.data.toList with
          | none => rfl
          | some x => have := HQ.out.1; rw [hx] at this; cases this
        have HNO := hd9 hno
        clear hno HTK HQ HN
        go_wp2_with fail
        go_ret2
        exact ⟨_, ns, false, rfl, O2.out, by rw [HL.out]; omega, B2.out, by rw [HNO.out]; rfl, fun x hx => by rw [HNO.out] at hx; cases hx⟩
      | true =>
        have hsome : numsO (L.take (i + 1)) = some (ns ++ [vv]) := by
          rw [HTK.out]
          obtain ⟨x, hx⟩ := Option.isSome_iff_exists.1 HQ.out.1.symm
          rw [hx, HQ.out.2 x hx]
          rfl
        have HN2 := hd9 hsome
        have OR : Hid (w2.ownsRow w.heap.size 2 1 (.slice (some ⟨g, 0, none⟩) i co) i (ns.map (Value.int .i64))) := by
          have h9 := O2.out
          unfold Own at h9
          rw [HL.out] at h9
          exact h9
        clear hsome HTK HQ HN O2
        go_wp2_with (at_builtin; go_must (refine wpList_append_lies _ rfl _ _ 26 rfl w.heap.size 2 iq (.int .i64 0) 1 8 Tryz.underlying26 hiq hq0 hqs hqb rfl (by decide) _ _ _ rfl (OR.out.alloc _) ⟨w2.heap.size, 0, none⟩ 1 1 [.int .i64 vv] rfl rfl (cell_one_new _ _ _) (by intro u hu; simp at hu; subst hu; rfl) (by decide) ?c3 ?c4 ?c5 _ rfl ?_))
        case c3 => unfold maxLen; omega
        case c4 => omega
        case c5 => first | omega | (simp; omega)
        intro g5 k5 w5 ho5 hg5 hat5 hlt5
        have O5 : Hid (Own .i64 2 w5 w.heap.size (.slice (some ⟨g5, 0, none⟩) (i + 1) k5) (ns ++ [vv])) := by
          unfold Own
          rw [List.length_append, HL.out, List.map_append]
          exact ho5
        have B5 : Hid (Below w.heap.size w w5) := (B2.out.alloc s2 _).grown hg5 (by simp; omega) (fun q hq => (World.ownsRow.lt OR.out q hq).1)
        clear ho5 hg5 hat5 hlt5 OR B2
        go_wp2_with fail
        exact ⟨⟨i + 1, g5, k5, ns ++ [vv], rfl, by go_num, hlt, by show _ = _; rw [List.length_append, HL.out]; rfl, O5, B5, HN2⟩, by simp [intOf]; omega⟩
    · have hltI : ¬ (i : Int) < (L.length : Int) := by omega
      have hin : i = L.length := by omega
      have hfull : numsO L = some ns := by
        have := HN.out
        rwa [List.take_of_length_le (by omega)] at this
      have HF := hd9 hfull
      clear hfull HN hin
      have hdd : decide (((L.length : Nat) : Int) ≤ 2000) = decide (L.length ≤ 2000) := by
        by_cases h9 : L.length ≤ 2000
        · rw [decide_eq_true h9, decide_eq_true (by omega)]
        · rw [decide_eq_false h9, decide_eq_false (by omega)]
      have HDD := hd9 hdd
      clear hdd
      go_wp2_with fail
      go_ret2
      refine ⟨_, ns, decide (L.length ≤ 2000), ?_, HO.out, by rw [HL.out]; omega, HB.out, by rw [HF.out]; rfl, fun x hx => by rw [HF.out] at hx; injection hx⟩
      show Ending.returned (.tuple #[.slice (some ⟨g, 0, none⟩) i co, .bool (decide (((L.length : Nat) : Int) ≤ 2000))]) = _
      rw [HDD.out]

set_option linter.unusedSimpArgs false in
set_option maxRecDepth 100000 in
set_option maxHeartbeats 8000000 in
theorem l6Nums_nil (w : World) (ao : Option Addr) (cap : Nat) : Calls Tryz.prog 15 #[.slice ao 0 cap] w fun e w' => NumsP w [] e w' := by
  have B0 : Hid (Below w.heap.size w (w.alloc (.cells #[] 2))) := (Below.refl _ _).alloc (Nat.le_refl _) _
  have O0 : Hid (Own .i64 2 (w.alloc (.cells #[] 2)) w.heap.size (.slice (some ⟨w.heap.size, 0, none⟩) 0 0) []) := by
    have := World.ownsRow_lit (base := w.heap.size) (e := 2) (size := 1) w #[] 0 (Nat.le_refl _) (by decide) rfl
    show World.ownsRow _ _ _ _ _ _ _
    simpa using this
  go_enter Tryz.func15, Tryz.ntmps15
  go_wp2_with fail
  generalize w.alloc (.cells #[] 2) = w1 at *
  go_loopw [4, 5] (fun v4 v5 wr => v4 = .slice (some ⟨w.heap.size, 0, none⟩) 0 0 ∧ v5 = .int .i64 0 ∧ wr = w1) (fun _ _ _ => 0)
  case atStart => exact ⟨rfl, rfl, rfl⟩
  case round =>
    obtain ⟨rfl, rfl, rfl⟩ := hrel
    go_wp2_with fail
    go_ret2
    exact ⟨_, [], true, rfl, O0.out, Nat.le_refl _, B0.out, rfl, fun x hx => by injection hx⟩
theorem l6Nums_any (w : World) (v : Value) (L : List ByteArray) (h : RdB w v L) (hL1 : L.length ≤ 1048577) (hsz : SzB L) : Calls Tryz.prog 15 #[v] w fun e w' => NumsP w L e w' := by
  obtain ⟨ao, cap, rfl, h1, h2, h3⟩ := h
  by_cases h0 : 0 < L.length
  · rcases h3 with h3 | ⟨b, o, rfl, hb, hc⟩
    · rw [h3] at h0; simp at h0
    · exact l6Nums_row w b o cap L h0 h1 h2 hL1 hsz hc hb
  · have hn : L = [] := List.eq_nil_of_length_eq_zero (by omega)
    subst hn
    exact l6Nums_nil w ao cap


theorem bAt_take {L : List ByteArray} {e i : Nat} (h : i < e) : bAt (L.take e) i = bAt L i := by
  unfold bAt
  simp [List.getD, h]
theorem bAt_drop (L : List ByteArray) (e i : Nat) : bAt (L.drop e) i = bAt L (e + i) := by
  unfold bAt
  simp [List.getD, List.getElem?_drop]
theorem SzB.take {L : List ByteArray} (h : SzB L) (e : Nat) : SzB (L.take e) := fun i => by
  by_cases hi : i < e
  · rw [bAt_take hi]; exact h i
  · unfold bAt
    rw [List.getD, List.getElem?_eq_none (by rw [List.length_take]; omega)]
    exact Nat.zero_le _
theorem SzB.drop {L : List ByteArray} (h : SzB L) (e : Nat) : SzB (L.drop e) := fun i => by rw [bAt_drop]; exact h _
theorem rdB_sub {w : World} {B o n c : Nat} {L : List ByteArray} (h : RdB w (.slice (some ⟨B, o, none⟩) n c) L) (a m : Nat) (ham : a + m ≤ n) : RdB w (.slice (some ⟨B, o + a, none⟩) m (c - a)) ((L.drop a).take m) := by
  obtain ⟨ao, cap, e, h1, h2, h3⟩ := h
  simp only [Value.slice.injEq] at e
  obtain ⟨rfl, rfl, rfl⟩ := e
  have hl : ((L.drop a).take m).length = m := by rw [List.length_take, List.length_drop]; omega
  refine ⟨_, _, by rw [hl], by omega, by omega, ?_⟩
  rcases h3 with rfl | ⟨b', o', e', hb, hc⟩
  · exact .inl (by simp)
  · injection e' with e'
    injection e' with e1 e2
    subst e1 e2
    refine .inr ⟨_, _, rfl, hb, fun i hi => ?_⟩
    rw [hl] at hi
    rw [Nat.add_assoc, hc (a + i) (by omega), bAt_take hi, bAt_drop]
/-- Operations between the semicolons. -/
def opsO : Nat → List ByteArray → Option (List Op5)
  | 0, _ => none
  | n + 1, L => match opO (L.take (L.findIdx isSemi)) with
    | none => none
    | some o => if L.findIdx isSemi < L.length then (opsO n (L.drop (L.findIdx isSemi + 1))).map fun r => o :: r else some [o]
theorem opsO_none {n : Nat} {L : List ByteArray} (h : opO (L.take (L.findIdx isSemi)) = none) : opsO (n + 1) L = none := by simp only [opsO, h]
theorem opsO_end {n : Nat} {L : List ByteArray} {o : Op5} (h : opO (L.take (L.findIdx isSemi)) = some o) (h2 : ¬ L.findIdx isSemi < L.length) : opsO (n + 1) L = some [o] := by simp only [opsO, h, if_neg h2]
theorem opsO_more {n : Nat} {L : List ByteArray} {o : Op5} (h : opO (L.take (L.findIdx isSemi)) = some o) (h2 : L.findIdx isSemi < L.length) : opsO (n + 1) L = (opsO n (L.drop (L.findIdx isSemi + 1))).map fun r => o :: r := by simp only [opsO, h, if_pos h2]
def OpsP (w : World) (n : Nat) (L : List ByteArray) (e : Ending) (w' : World) : Prop := ∃ (vo : Value) (os : List Op5) (ok : Bool), e = .returned (.tuple #[vo, .bool ok]) ∧ OwnO 41 w' w.heap.size vo os ∧ 1 ≤ os.length ∧ os.length ≤ L.length + 1 ∧ Below w.heap.size w w' ∧ ok = (opsO n L).isSome ∧ ∀ x, opsO n L = some x → os = x
theorem ownO_one (W : World) (lo : Nat) (hl : lo ≤ W.heap.size) (o : Op5) : OwnO 41 (W.alloc (.cells #[.int .i64 o.kind, .string o.path, .string o.data, .int .i64 o.ver, .bool o.seq] 41)) lo (.slice (some ⟨W.heap.size, 0, none⟩) 1 1) [o] :=
  World.ownsRow_lit (base := lo) (e := 41) (size := 5) W #[.int .i64 o.kind, .string o.path, .string o.data, .int .i64 o.ver, .bool o.seq] 1 hl (by decide) rfl
theorem orow_one9 (os : List Op5) : ∀ u ∈ orow os, u.oneCell' = true := by
  intro u hu
  unfold orow at hu
  obtain ⟨o, -, ho⟩ := List.mem_flatMap.1 hu
  unfold opL at ho
  simp only [List.mem_cons, List.not_mem_nil, or_false] at ho
  rcases ho with rfl | rfl | rfl | rfl | rfl <;> rfl
theorem Tryz.infoOp9 : (Tryz.prog.info? 41).map (fun i => (i.zero, i.size, i.bytes)) = some (some (.agg #[.int .i64 0, .string ByteArray.empty, .string ByteArray.empty, .int .i64 0, .bool false]), 5, 56) := by kernel_rfl
theorem add_at9 (g j : Nat) : (⟨g, 0, none⟩ : Addr).add j = ⟨g, j, none⟩ := by
  simp [Addr.add]
  exact fun h => h.symm
theorem OwnO.cells9 {w : World} {lo : Nat} {v : Value} {os : List Op5} (h : OwnO 41 w lo v os) (h0 : 1 ≤ os.length) : ∃ g c, v = .slice (some ⟨g, 0, none⟩) os.length c ∧ g < w.heap.size ∧ ∀ (j : Nat) (u : Value), (orow os)[j]? = some u → w.cell? ((⟨g, 0, none⟩ : Addr).add j) = some u := by
  have h' := h
  rcases h.2 with ⟨-, h9⟩ | ⟨g, cap, cur, rfl, h1, h2, h3, h4, h5, h6⟩
  · omega
  · refine ⟨g, cap, rfl, (Array.getElem?_eq_some_iff.1 h2).1, fun j u hj => ?_⟩
    have hl : j < os.length * 5 := by
      have := (List.getElem?_eq_some_iff.1 hj).1
      rwa [orow_length] at this
    have := World.ownsRow.cellAt h' j hl
    rw [hj] at this
    rw [add_at9]
    exact this
theorem findIdx_at {L : List ByteArray} {e : Nat} (he : e ≤ L.length) (h1 : ∀ j, j < e → isSemi (bAt L j) = false) (h2 : e = L.length ∨ isSemi (bAt L e) = true) : L.findIdx isSemi = e := by
  by_cases h3 : e = L.length
  · rw [List.findIdx_eq_length.2, h3]
    intro x hx
    obtain ⟨j, hj, e9⟩ := List.getElem_of_mem hx
    have := h1 j (by omega)
    rw [bAt_get hj, e9] at this
    exact this
  · have hl : e < L.length := by omega
    rw [List.findIdx_eq hl]
    refine ⟨by rw [← bAt_get hl]; exact h2.resolve_left h3, fun j hj => ?_⟩
    have := h1 j hj
    rw [bAt_get (by omega)] at this
    exact this

set_option linter.unusedSimpArgs false in
set_option maxRecDepth 100000 in
set_option maxHeartbeats 8000000 in
theorem l6Ops_row (n : Nat) (ih : ∀ (w : World) (v : Value) (L : List ByteArray), RdB w v L → SzB L → L.length < n → L.length ≤ 1048577 → Calls Tryz.prog 13 #[v] w fun e w' => OpsP w n L e w')
    (w : World) (b o cap : Nat) (L : List ByteArray) (hL : 0 < L.length) (hLc : L.length ≤ cap) (hc : cap ≤ maxLen) (hL1 : L.length ≤ 1048577) (hLn : L.length < n + 1) (hsz : SzB L) (hR : RdB w (.slice (some ⟨b, o, none⟩) L.length cap) L) (hcl : ∀ i, i < L.length → w.cell? ⟨b, o + i, none⟩ = some (.string (bAt L i))) (hb : b < w.heap.size) :
    Calls Tryz.prog 13 #[.slice (some ⟨b, o, none⟩) L.length cap] w fun e w' => OpsP w (n + 1) L e w' := by
  obtain ⟨iq, hiq, hq0, hqs, hqb⟩ := info_parts Tryz.infoOp9
  unfold maxLen at hc
  have HCL := hd9 hcl
  have HSZ := hd9 hsz
  have HR := hd9 hR
  have HI := hd9 ih
  clear hcl hsz hR ih
  go_enter Tryz.func13, Tryz.ntmps13
  go_wp2_with fail
  go_loopw [4] (fun v4 wr => ∃ e : Nat, v4 = .int .i64 (e : Int) ∧ e ≤ L.length ∧ wr = w ∧ Hid (∀ j, j < e → isSemi (bAt L j) = false)) (fun i _ => L.length - (intOf i).toNat)
  case atStart => exact ⟨0, rfl, Nat.zero_le _, rfl, fun j hj => absurd hj (Nat.not_lt_zero _)⟩
  case round =>
    obtain ⟨e, rfl, he, rfl, HA⟩ := hrel
    by_cases hmore : e < L.length ∧ isSemi (bAt L e) = false
    · obtain ⟨hlt, hse⟩ := hmore
      have hltI : (e : Int) < (L.length : Int) := by omega
      have c0 := HCL.out e hlt
      have hsq : ((bAt L e).toList == [59]) = false := hse
      have HA2 : Hid (∀ j, j < e + 1 → isSemi (bAt L j) = false) := fun j hj => by
        by_cases e9 : j < e
        · exact HA.out j e9
        · rw [show j = e by omega]; exact hse
      clear hse HA
      generalize bAt L e = f at *
      go_wp2_with fail
      exact ⟨⟨e + 1, by go_num, hlt, trivial, HA2⟩, by simp [intOf]; omega⟩
    · have hfi : L.findIdx isSemi = e := findIdx_at he HA.out (by
        by_cases h9 : e = L.length
        · exact .inl h9
        · refine .inr ?_
          cases hx : isSemi (bAt L e) with
          | true => rfl
          | false => exact absurd ⟨by omega, hx⟩ hmore)
      have HFI := hd9 hfi
      have R1 := rdB_sub HR.out 0 e (by omega)
      rw [List.drop_zero, Nat.add_zero, Nat.sub_zero] at R1
      have HO := hd9 (l6Op_any wr _ (L.take e) R1 (HSZ.out.take e))
      clear R1 hfi
      by_cases hend : e = L.length
      · have hltI : ¬ (e : Int) < (L.length : Int) := by omega
        have heB : (((e : Nat) : Int) == ((L.length : Nat) : Int)) = true := beq_iff_eq.2 (by omega)
        have HEN := hd9 hend
        clear hmore hend
        go_wp2_with fail
        refine HO.out.mono ?_
        rintro e9 w2 ⟨oo, ok, rfl, b2, hok, hoo⟩
        have HQ := hd9 (And.intro hok hoo)
        have B2 := hd9 b2
        clear HO hok hoo b2
        have s2 := B2.out.size
        cases ok with
        | false =>
          have hno : opsO (n + 1) L = none := opsO_none (by
            rw [HFI.out]
            cases hx : opO (L.take e) with
            | none => rfl
            | some x => have := HQ.out.1; rw [hx] at this; cases this)
          have HNO := hd9 hno
          clear hno HQ
          unfold opV
          go_wp2_with fail
          have O9 := ownO_one (w2.alloc (.cells #[.int .i64 oo.kind, .string oo.path, .string oo.data, .int .i64 oo.ver, .bool oo.seq] 41)) wr.heap.size (by simp; omega) oo
          rw [show (w2.alloc (.cells #[.int .i64 oo.kind, .string oo.path, .string oo.data, .int .i64 oo.ver, .bool oo.seq] 41)).heap.size = w2.heap.size + 1 by simp] at O9
          have B9 := (B2.out.alloc s2 (.cells #[.int .i64 oo.kind, .string oo.path, .string oo.data, .int .i64 oo.ver, .bool oo.seq] 41)).alloc (by simp; omega) (.cells #[.int .i64 oo.kind, .string oo.path, .string oo.data, .int .i64 oo.ver, .bool oo.seq] 41)
          go_ret2
          exact ⟨_, [oo], false, rfl, O9, Nat.le_refl _, by simp, B9, by rw [HNO.out]; rfl, fun x hx => by rw [HNO.out] at hx; cases hx⟩
        | true =>
          have hso : opsO (n + 1) L = some [oo] := by
            obtain ⟨x, hx⟩ := Option.isSome_iff_exists.1 HQ.out.1.symm
            refine opsO_end (by rw [HFI.out, hx, HQ.out.2 x hx]) ?_
            rw [HFI.out, HEN.out]; exact Nat.lt_irrefl _
          have HSO := hd9 hso
          clear hso HQ
          unfold opV
          go_wp2_with fail
          have O9 := ownO_one (w2.alloc (.cells #[.int .i64 oo.kind, .string oo.path, .string oo.data, .int .i64 oo.ver, .bool oo.seq] 41)) wr.heap.size (by simp; omega) oo
          rw [show (w2.alloc (.cells #[.int .i64 oo.kind, .string oo.path, .string oo.data, .int .i64 oo.ver, .bool oo.seq] 41)).heap.size = w2.heap.size + 1 by simp] at O9
          have B9 := (B2.out.alloc s2 (.cells #[.int .i64 oo.kind, .string oo.path, .string oo.data, .int .i64 oo.ver, .bool oo.seq] 41)).alloc (by simp; omega) (.cells #[.int .i64 oo.kind, .string oo.path, .string oo.data, .int .i64 oo.ver, .bool oo.seq] 41)
          go_ret2
          exact ⟨_, [oo], true, rfl, O9, Nat.le_refl _, by simp, B9, by rw [HSO.out]; rfl, fun x hx => by rw [HSO.out] at hx; injection hx⟩
      · have hlt : e < L.length := by omega
        have hltI : (e : Int) < (L.length : Int) := by omega
        have heB : (((e : Nat) : Int) == ((L.length : Nat) : Int)) = false := beq_false_of_ne (by omega)
        have c0 := HCL.out e hlt
        have hsq : ((bAt L e).toList == [59]) = true := by
          cases hx : isSemi (bAt L e) with
          | true => exact hx
          | false => exact absurd ⟨hlt, hx⟩ hmore
        clear hmore hend
        generalize bAt L e = f at *
        go_wp2_with fail
        refine HO.out.mono ?_
        rintro e9 w2 ⟨oo, ok, rfl, b2, hok, hoo⟩
        have HQ := hd9 (And.intro hok hoo)
        have B2 := hd9 b2
        clear HO hok hoo b2
        have s2 := B2.out.size
        cases ok with
        | false =>
          have hno : opsO (n + 1) L = none := opsO_none (by
            rw [HFI.out]
            cases hx : opO (L.take e) with
            | none => rfl
            | some x => have := HQ.out.1; rw [hx] at this; cases this)
          have HNO := hd9 hno
          clear hno HQ
          unfold opV
          go_wp2_with fail
          have O9 := ownO_one (w2.alloc (.cells #[.int .i64 oo.kind, .string oo.path, .string oo.data, .int .i64 oo.ver, .bool oo.seq] 41)) wr.heap.size (by simp; omega) oo
          rw [show (w2.alloc (.cells #[.int .i64 oo.kind, .string oo.path, .string oo.data, .int .i64 oo.ver, .bool oo.seq] 41)).heap.size = w2.heap.size + 1 by simp] at O9
          have B9 := (B2.out.alloc s2 (.cells #[.int .i64 oo.kind, .string oo.path, .string oo.data, .int .i64 oo.ver, .bool oo.seq] 41)).alloc (by simp; omega) (.cells #[.int .i64 oo.kind, .string oo.path, .string oo.data, .int .i64 oo.ver, .bool oo.seq] 41)
          go_ret2
          exact ⟨_, [oo], false, rfl, O9, Nat.le_refl _, by simp, B9, by rw [HNO.out]; rfl, fun x hx => by rw [HNO.out] at hx; cases hx⟩
        | true =>
          have hmo : opsO (n + 1) L = (opsO n (L.drop (e + 1))).map fun r => oo :: r := by
            obtain ⟨x, hx⟩ := Option.isSome_iff_exists.1 HQ.out.1.symm
            have := opsO_more (n := n) (L := L) (o := oo) (by rw [HFI.out, hx, HQ.out.2 x hx]) (by rw [HFI.out]; exact hlt)
            rwa [HFI.out] at this
          have HMO := hd9 hmo
          have b3 : Below w2.heap.size w2 (w2.alloc (.cells #[.int .i64 oo.kind, .string oo.path, .string oo.data, .int .i64 oo.ver, .bool oo.seq] 41)) := (Below.refl _ _).alloc (Nat.le_refl _) _
          have X3 := hd9 (St.new w2 #[.int .i64 oo.kind, .string oo.path, .string oo.data, .int .i64 oo.ver, .bool oo.seq] 41)
          have B3 := hd9 (B2.out.trans (b3.mono B2.out.size))
          have R3 := hd9 (HR.out.below B3.out)
          clear hmo HQ b3 c0 hsq
          unfold opV
          by_cases hcap : e + 1 < cap
          · have hcI : ¬ (e + 1 = cap) := by omega
            have hLe : ((e : Nat) : Int) + 1 ≤ ((L.length : Nat) : Int) := by omega
            have R4 := rdB_sub R3.out (e + 1) (L.length - (e + 1)) (by omega)
            rw [List.take_of_length_le (by rw [List.length_drop]; exact Nat.le_refl _)] at R4
            have HC := hd9 (HI.out _ _ (L.drop (e + 1)) R4 (HSZ.out.drop _) (by rw [List.length_drop]; omega) (by rw [List.length_drop]; omega))
            clear R4
            go_wp2_with fail
            refine HC.out.mono ?_
            rintro e9 w4 ⟨vo, os, ok2, rfl, o4, hl1, hl2, b4, hok2, hos⟩
            obtain ⟨gr, cr, rfl, hgr, hnw⟩ := o4.cells9 hl1
            have B4 := hd9 (B3.out.trans (b4.mono B3.out.size))
            have s4 := B4.out.size
            have x4 := X3.out.below b4
            have y0 := x4.cl 0 _ rfl
            have y1 := x4.cl 1 _ rfl
            have y2 := x4.cl 2 _ rfl
            have y3 := x4.cl 3 _ rfl
            have y4 := x4.cl 4 _ rfl
            have LT : Hid ((w4.alloc (.cells #[.int .i64 oo.kind, .string oo.path, .string oo.data, .int .i64 oo.ver, .bool oo.seq] 41)).ownsRow wr.heap.size 41 5 (.slice (some ⟨w4.heap.size, 0, none⟩) 1 1) 1 (opL oo)) := ownO_one w4 wr.heap.size s4 oo
            have bA : Below w4.heap.size w4 (w4.alloc (.cells #[.int .i64 oo.kind, .string oo.path, .string oo.data, .int .i64 oo.ver, .bool oo.seq] 41)) := (Below.refl _ _).alloc (Nat.le_refl _) _
            have HNW : Hid (∀ (j : Nat) (u : Value), (orow os)[j]? = some u → (w4.alloc (.cells #[.int .i64 oo.kind, .string oo.path, .string oo.data, .int .i64 oo.ver, .bool oo.seq] 41)).cell? ((⟨gr, 0, none⟩ : Addr).add j) = some u) := fun j u hj => (bA.cell (p := (⟨gr, 0, none⟩ : Addr).add j) (by rw [add_at9]; exact hgr)).trans (hnw j u hj)
            have HQ2 := hd9 (And.intro hok2 hos)
            rw [List.length_drop] at hl2
            clear hok2 hos x4 o4 b4 bA hnw B3 X3 R3 HC
            go_wp2_with (at_builtin; go_must (refine wpList_append_lies _ rfl _ _ 23 rfl wr.heap.size 41 iq (.agg #[.int .i64 0, .string ByteArray.empty, .string ByteArray.empty, .int .i64 0, .bool false]) 5 56 Tryz.underlying23 hiq hq0 hqs hqb rfl (by decide) _ _ _ rfl LT.out ⟨gr, 0, none⟩ os.length cr (orow os) rfl (orow_length os) HNW.out (orow_one9 os) hl1 ?c3 ?c4 ?c5 _ rfl ?_))
            case c3 => unfold maxLen; omega
            case c4 => omega
            case c5 => first | omega | (simp; omega)
            intro g5 k5 w5 ho5 hg5 hat5 hlt5
            have O5 : Hid (OwnO 41 w5 wr.heap.size (.slice (some ⟨g5, 0, none⟩) (1 + os.length) k5) (oo :: os)) := by
              unfold OwnO
              rw [List.length_cons, Nat.add_comm os.length 1, orow_cons]
              exact ho5
            have B5 : Hid (Below wr.heap.size wr w5) := (B4.out.alloc s4 _).grown hg5 (by simp; omega) (fun q hq => (World.ownsRow.lt LT.out q hq).1)
            clear ho5 hg5 hat5 hlt5 LT HNW B4 y0 y1 y2 y3 y4
            go_wp2_with fail
            go_ret2
            refine ⟨_, oo :: os, ok2, rfl, O5.out, by simp, by simp; omega, B5.out, ?_, ?_⟩
            · rw [HMO.out, HQ2.out.1]
              cases opsO n (L.drop (e + 1)) <;> rfl
            · intro x hx
              rw [HMO.out] at hx
              cases hy : opsO n (L.drop (e + 1)) with
              | none => rw [hy] at hx; cases hx
              | some q =>
                rw [hy] at hx
                injection hx with hx
                rw [← hx, HQ2.out.2 q hy]
          · have hcI : e + 1 = cap := by omega
            have hz : L.drop (e + 1) = [] := List.drop_of_length_le (by omega)
            have R4 : RdB (w2.alloc (.cells #[.int .i64 oo.kind, .string oo.path, .string oo.data, .int .i64 oo.ver, .bool oo.seq] 41)) (.slice (some ⟨b, o, none⟩) 0 0) (L.drop (e + 1)) := by
              rw [hz]
              exact ⟨_, 0, rfl, Nat.le_refl _, Nat.zero_le _, .inl rfl⟩
            have HC := hd9 (HI.out _ _ (L.drop (e + 1)) R4 (HSZ.out.drop _) (by rw [List.length_drop]; omega) (by rw [List.length_drop]; omega))
            have hLe : e + 1 = L.length := by omega
            clear R4 hz
            go_wp2_with fail
            clear hcI hLe
            refine HC.out.mono ?_
            rintro e9 w4 ⟨vo, os, ok2, rfl, o4, hl1, hl2, b4, hok2, hos⟩
            obtain ⟨gr, cr, rfl, hgr, hnw⟩ := o4.cells9 hl1
            have B4 := hd9 (B3.out.trans (b4.mono B3.out.size))
            have s4 := B4.out.size
            have x4 := X3.out.below b4
            have y0 := x4.cl 0 _ rfl
            have y1 := x4.cl 1 _ rfl
            have y2 := x4.cl 2 _ rfl
            have y3 := x4.cl 3 _ rfl
            have y4 := x4.cl 4 _ rfl
            have LT : Hid ((w4.alloc (.cells #[.int .i64 oo.kind, .string oo.path, .string oo.data, .int .i64 oo.ver, .bool oo.seq] 41)).ownsRow wr.heap.size 41 5 (.slice (some ⟨w4.heap.size, 0, none⟩) 1 1) 1 (opL oo)) := ownO_one w4 wr.heap.size s4 oo
            have bA : Below w4.heap.size w4 (w4.alloc (.cells #[.int .i64 oo.kind, .string oo.path, .string oo.data, .int .i64 oo.ver, .bool oo.seq] 41)) := (Below.refl _ _).alloc (Nat.le_refl _) _
            have HNW : Hid (∀ (j : Nat) (u : Value), (orow os)[j]? = some u → (w4.alloc (.cells #[.int .i64 oo.kind, .string oo.path, .string oo.data, .int .i64 oo.ver, .bool oo.seq] 41)).cell? ((⟨gr, 0, none⟩ : Addr).add j) = some u) := fun j u hj => (bA.cell (p := (⟨gr, 0, none⟩ : Addr).add j) (by rw [add_at9]; exact hgr)).trans (hnw j u hj)
            have HQ2 := hd9 (And.intro hok2 hos)
            rw [List.length_drop] at hl2
            clear hok2 hos x4 o4 b4 bA hnw B3 X3 R3 HC
            go_wp2_with (at_builtin; go_must (refine wpList_append_lies _ rfl _ _ 23 rfl wr.heap.size 41 iq (.agg #[.int .i64 0, .string ByteArray.empty, .string ByteArray.empty, .int .i64 0, .bool false]) 5 56 Tryz.underlying23 hiq hq0 hqs hqb rfl (by decide) _ _ _ rfl LT.out ⟨gr, 0, none⟩ os.length cr (orow os) rfl (orow_length os) HNW.out (orow_one9 os) hl1 ?c3 ?c4 ?c5 _ rfl ?_))
            case c3 => unfold maxLen; omega
            case c4 => omega
            case c5 => first | omega | (simp; omega)
            intro g5 k5 w5 ho5 hg5 hat5 hlt5
            have O5 : Hid (OwnO 41 w5 wr.heap.size (.slice (some ⟨g5, 0, none⟩) (1 + os.length) k5) (oo :: os)) := by
              unfold OwnO
              rw [List.length_cons, Nat.add_comm os.length 1, orow_cons]
              exact ho5
            have B5 : Hid (Below wr.heap.size wr w5) := (B4.out.alloc s4 _).grown hg5 (by simp; omega) (fun q hq => (World.ownsRow.lt LT.out q hq).1)
            clear ho5 hg5 hat5 hlt5 LT HNW B4 y0 y1 y2 y3 y4
            go_wp2_with fail
            go_ret2
            refine ⟨_, oo :: os, ok2, rfl, O5.out, by simp, by simp; omega, B5.out, ?_, ?_⟩
            · rw [HMO.out, HQ2.out.1]
              cases opsO n (L.drop (e + 1)) <;> rfl
            · intro x hx
              rw [HMO.out] at hx
              cases hy : opsO n (L.drop (e + 1)) with
              | none => rw [hy] at hx; cases hx
              | some q =>
                rw [hy] at hx
                injection hx with hx
                rw [← hx, HQ2.out.2 q hy]

set_option linter.unusedSimpArgs false in
set_option maxRecDepth 100000 in
set_option maxHeartbeats 8000000 in
theorem l6Ops_nil (n : Nat) (wr : World) (ao : Option Addr) (cap : Nat) : Calls Tryz.prog 13 #[.slice ao 0 cap] wr fun e w' => OpsP wr (n + 1) [] e w' := by
  have HO : Hid (∀ a c, Calls Tryz.prog 14 #[.slice a 0 c] wr fun e w' => OpP wr [] e w') := fun a c => l6Op_nil wr a c
  go_enter Tryz.func13, Tryz.ntmps13
  go_wp2_with fail
  go_loopw [4] (fun v4 w9 => v4 = .int .i64 0 ∧ w9 = wr) (fun _ _ => 0)
  case atStart => exact ⟨rfl, rfl⟩
  case round =>
    obtain ⟨rfl, hw⟩ := hrel
    subst hw
    go_wp2_with fail
    refine (HO.out _ _).mono ?_
    rintro e9 w2 ⟨oo, ok, rfl, b2, hok, -⟩
    obtain rfl : ok = false := hok
    have B2 := hd9 b2
    have s2 := b2.size
    clear HO b2
    unfold opV
    go_wp2_with fail
    have O9 := ownO_one (w2.alloc (.cells #[.int .i64 oo.kind, .string oo.path, .string oo.data, .int .i64 oo.ver, .bool oo.seq] 41)) _ (Nat.le_trans s2 (by simp)) oo
    rw [show (w2.alloc (.cells #[.int .i64 oo.kind, .string oo.path, .string oo.data, .int .i64 oo.ver, .bool oo.seq] 41)).heap.size = w2.heap.size + 1 by simp] at O9
    have B9 := (B2.out.alloc s2 (.cells #[.int .i64 oo.kind, .string oo.path, .string oo.data, .int .i64 oo.ver, .bool oo.seq] 41)).alloc (by simp; omega) (.cells #[.int .i64 oo.kind, .string oo.path, .string oo.data, .int .i64 oo.ver, .bool oo.seq] 41)
    go_ret2
    exact ⟨_, [oo], false, rfl, O9, Nat.le_refl _, by simp, B9, rfl, fun x hx => by cases hx⟩
theorem l6Ops_any : ∀ (n : Nat) (w : World) (v : Value) (L : List ByteArray), RdB w v L → SzB L → L.length < n → L.length ≤ 1048577 → Calls Tryz.prog 13 #[v] w fun e w' => OpsP w n L e w'
  | 0, w, v, L, _, _, h, _ => absurd h (Nat.not_lt_zero _)
  | n + 1, w, v, L, h, hsz, hn, hl => by
    have h' := h
    obtain ⟨ao, cap, rfl, h1, h2, h3⟩ := h
    by_cases h0 : 0 < L.length
    · rcases h3 with h3 | ⟨b, o, rfl, hb, hc⟩
      · rw [h3] at h0; simp at h0
      · exact l6Ops_row n (l6Ops_any n) w b o cap L h0 h1 h2 hl hn hsz h' hc hb
    · have hnl : L = [] := List.eq_nil_of_length_eq_zero (by omega)
      subst hnl
      exact l6Ops_nil n w ao cap


set_option linter.unusedSimpArgs false in
set_option maxRecDepth 100000 in
set_option maxHeartbeats 8000000 in
theorem idxF_row (w : World) (g cap : Nat) (L : List ByteArray) (hL : 0 < L.length) (hLc : L.length ≤ cap) (hc : cap ≤ maxLen) (hcl : ∀ i, i < L.length → w.cell? ⟨g, i, none⟩ = some (.string (bAt L i))) (hg : g < w.heap.size) :
    Calls Tryz.prog 31 #[.slice (some ⟨g, 0, none⟩) L.length cap, .func (.func 19) #[] #[]] w fun e w' => ∃ i : Int, e = .returned (.int .i64 i) ∧ decide (0 ≤ i) = !(L.all goodB) ∧ Below w.heap.size w w' := by
  unfold maxLen at hc
  have HCL := hd9 hcl
  clear hcl
  go_enter Tryz.func31, Tryz.ntmps31
  go_wp2_with fail
  go_loopw [8] (fun v8 wr => ∃ i : Nat, v8 = .int .i64 (i : Int) ∧ i ≤ L.length ∧ Hid (Below w.heap.size w wr) ∧ Hid (∀ j, j < i → goodB (bAt L j) = true)) (fun i _ => L.length - (intOf i).toNat)
  case atStart => exact ⟨0, rfl, Nat.zero_le _, Below.refl _ _, fun j hj => absurd hj (Nat.not_lt_zero _)⟩
  case round =>
    obtain ⟨i, rfl, hi, HB, HA⟩ := hrel
    by_cases hlt : i < L.length
    · have hltI : (i : Int) < (L.length : Int) := by omega
      have c0 := (HB.out.cell (p := ⟨g, i, none⟩) hg).trans (HCL.out i hlt)
      have EM : Hid (goodB (bAt L i) = false → L.all goodB = false) := fun h9 => by
        rw [List.all_eq_false]
        exact ⟨_, List.getElem_mem hlt, by rw [← bAt_get hlt, h9]; decide⟩
      have HNX : Hid (goodB (bAt L i) = true → ∀ j, j < i + 1 → goodB (bAt L j) = true) := fun h9 j hj => by
        by_cases e : j < i
        · exact HA.out j e
        · rw [show j = i by omega]; exact h9
      clear HA
      generalize bAt L i = f at *
      go_wp2_with fail
      refine (isNoField_any wr f).mono ?_
      rintro e w1 ⟨rfl, b1⟩
      have B1 := hd9 (HB.out.trans (b1.mono HB.out.size))
      clear b1 HB c0
      cases hgd : goodB f with
      | false =>
        have HE := hd9 (EM.out hgd)
        clear EM HNX hgd
        go_wp2_with fail
        go_ret
        exact ⟨(i : Int), rfl, by rw [HE.out, decide_eq_true (by omega)]; rfl, B1.out⟩
      | true =>
        have HN := hd9 (HNX.out hgd)
        clear EM HNX hgd
        go_wp2_with fail
        exact ⟨⟨i + 1, by go_num, hlt, B1, HN⟩, by simp [intOf]; omega⟩
    · have hltI : ¬ (i : Int) < (L.length : Int) := by omega
      have hall : L.all goodB = true := by
        rw [List.all_eq_true]
        intro x hx
        obtain ⟨j, hj, e⟩ := List.getElem_of_mem hx
        have := HA.out j (by omega)
        rw [bAt_get hj, e] at this
        exact this
      have HALL := hd9 hall
      clear hall HA
      go_wp2_with fail
      go_ret
      exact ⟨-1, rfl, by rw [HALL.out]; rfl, HB.out⟩
set_option linter.unusedSimpArgs false in
set_option maxRecDepth 100000 in
theorem contF_row (w : World) (g cap : Nat) (L : List ByteArray) (hL : 0 < L.length) (hLc : L.length ≤ cap) (hc : cap ≤ maxLen) (hcl : ∀ i, i < L.length → w.cell? ⟨g, i, none⟩ = some (.string (bAt L i))) (hg : g < w.heap.size) :
    Calls Tryz.prog 18 #[.slice (some ⟨g, 0, none⟩) L.length cap, .func (.func 19) #[] #[]] w fun e w' => e = .returned (.bool (!(L.all goodB))) ∧ Below w.heap.size w w' := by
  have HI := hd9 (idxF_row w g cap L hL hLc hc hcl hg)
  clear hcl
  go_enter Tryz.func18, Tryz.ntmps18
  go_wp2_with fail
  refine HI.out.mono ?_
  rintro e w1 ⟨i, rfl, hi, b1⟩
  have B1 := hd9 b1
  have HD := hd9 hi
  clear b1 hi HI
  go_wp2_with fail
  go_ret
  exact ⟨by rw [← HD.out]; rfl, B1.out⟩

def NumsQ (w : World) (L : List ByteArray) (e : Ending) (w' : World) : Prop := ∃ (vo : Value) (ns : List Int) (ok : Bool), e = .returned (.tuple #[vo, .bool ok]) ∧ Own .i64 2 w' w.heap.size vo ns ∧ Below w.heap.size w w' ∧ ok = (numsO L).isSome ∧ ∀ x, numsO L = some x → ns = x
set_option linter.unusedSimpArgs false in
set_option maxRecDepth 100000 in
set_option maxHeartbeats 8000000 in
theorem parseNumbers_row (w : World) (b o cap : Nat) (L : List ByteArray) (hL : 0 < L.length) (hLc : L.length ≤ cap) (hc : cap ≤ maxLen) (hL1 : L.length ≤ 1048577) (hsz : SzB L) (hcl : ∀ i, i < L.length → w.cell? ⟨b, o + i, none⟩ = some (.string (bAt L i))) (hb : b < w.heap.size) {m : Int} {te : TypeId} {pe : Value} (hg : PlG w m te pe) :
    Calls Tryz.prog 55 #[.slice (some ⟨b, o, none⟩) L.length cap] w fun e w' => NumsQ w L e w' := by
  obtain ⟨iq, hiq, hq0, hqs, hqb⟩ := info_parts Tryz.infoI9
  unfold maxLen at hc
  have HCL := hd9 hcl
  have HSZ := hd9 hsz
  have HG := hd9 hg
  clear hcl hsz hg
  go_enter Tryz.func55, Tryz.ntmps55
  go_wp2_with fail
  go_loopw [4, 11] (fun v4 v11 wr => ∃ (i : Nat) (a : Option Addr) (co : Nat) (ns : List Int), v4 = .slice a i co ∧ v11 = .int .i64 (i : Int) ∧ i ≤ L.length ∧ Hid (ns.length = i) ∧ Hid (Own .i64 2 wr w.heap.size (.slice a i co) ns) ∧ Hid (Below w.heap.size w wr) ∧ Hid (numsO (L.take i) = some ns)) (fun _ i _ => L.length - (intOf i).toNat)
  case atStart => exact ⟨0, none, 0, [], rfl, rfl, Nat.zero_le _, rfl, World.ownsRow_nil _ _ _ _, Below.refl _ _, rfl⟩
  case round =>
    obtain ⟨i, a, co, ns, rfl, rfl, hi, HL, HO, HB, HN⟩ := hrel
    have sB := HB.out.size
    by_cases hlt : i < L.length
    · have hltI : (i : Int) < (L.length : Int) := by omega
      have c0 := (HB.out.cell (p := ⟨b, o + i, none⟩) hb).trans (HCL.out i hlt)
      have z0 := HSZ.out i
      have htk : numsO (L.take (i + 1)) = (numO (bAt L i).data.toList).map fun v => ns ++ [v] := by
        rw [List.take_add_one, List.getElem?_eq_getElem hlt, bAt_get hlt]
        show numsO (L.take i ++ [L[i]]) = _
        rw [numsO_snoc, HN.out]
      have HTK := hd9 htk
      clear htk
      generalize bAt L i = f at *
      go_wp2_with fail
      refine (parseNumber_any f wr z0 (HG.out.later HB.out)).mono ?_
      rintro e w2 ⟨vv, ok, rfl, b2, hok, hvv⟩
      have O2 : Hid (Own .i64 2 w2 w.heap.size (.slice a i co) ns) := by
        have := HO.out
        exact ⟨this.1, this.2.imp id fun ⟨g, cap, cur, e1, e2, hg, r⟩ => ⟨g, cap, cur, e1, e2, (b2.block _ (Array.getElem?_eq_some_iff.1 hg).1).trans hg, r⟩⟩
      have B2 := hd9 (HB.out.trans (b2.mono HB.out.size))
      have s2 := B2.out.size
      have HQ := hd9 (And.intro hok hvv)
      clear b2 hok hvv HO HB c0
      cases ok with
      | false =>
        have hno : numsO L = none := by
          refine numsO_pre (k := i + 1) ?_
          rw [HTK.out]
          cases hx : numO f.data.toList with
          | none => rfl
          | some x => have := HQ.out.1; rw [hx] at this; cases this
        have HNO := hd9 hno
        clear hno HTK HQ HN
        go_wp2_with fail
        go_ret2
        exact ⟨_, [], false, rfl, World.ownsRow_nil _ _ _ _, B2.out, by rw [HNO.out]; rfl, fun x hx => by rw [HNO.out] at hx; cases hx⟩
      | true =>
        have hsome : numsO (L.take (i + 1)) = some (ns ++ [vv]) := by
          rw [HTK.out]
          obtain ⟨x, hx⟩ := Option.isSome_iff_exists.1 HQ.out.1.symm
          rw [hx, HQ.out.2 x hx]
          rfl
        have HN2 := hd9 hsome
        have OR : Hid (w2.ownsRow w.heap.size 2 1 (.slice a i co) i (ns.map (Value.int .i64))) := by
          have h9 := O2.out
          unfold Own at h9
          rw [HL.out] at h9
          exact h9
        clear hsome HTK HQ HN O2
        go_wp2_with (at_builtin; go_must (refine wpList_append_lies _ rfl _ _ 26 rfl w.heap.size 2 iq (.int .i64 0) 1 8 Tryz.underlying26 hiq hq0 hqs hqb rfl (by decide) _ _ _ rfl (OR.out.alloc _) ⟨w2.heap.size, 0, none⟩ 1 1 [.int .i64 vv] rfl rfl (cell_one_new _ _ _) (by intro u hu; simp at hu; subst hu; rfl) (by decide) ?c3 ?c4 ?c5 _ rfl ?_))
        case c3 => unfold maxLen; omega
        case c4 => omega
        case c5 => first | omega | (simp; omega)
        intro g5 k5 w5 ho5 hg5 hat5 hlt5
        have O5 : Hid (Own .i64 2 w5 w.heap.size (.slice (some ⟨g5, 0, none⟩) (i + 1) k5) (ns ++ [vv])) := by
          unfold Own
          rw [List.length_append, HL.out, List.map_append]
          exact ho5
        have B5 : Hid (Below w.heap.size w w5) := (B2.out.alloc s2 _).grown hg5 (by simp; omega) (fun q hq => (World.ownsRow.lt OR.out q hq).1)
        clear ho5 hg5 hat5 hlt5 OR B2
        go_wp2_with fail
        exact ⟨⟨i + 1, some ⟨g5, 0, none⟩, k5, ns ++ [vv], rfl, by go_num, hlt, by show _ = _; rw [List.length_append, HL.out]; rfl, O5, B5, HN2⟩, by simp [intOf]; omega⟩
    · have hltI : ¬ (i : Int) < (L.length : Int) := by omega
      have hfull : numsO L = some ns := by
        have := HN.out
        rwa [List.take_of_length_le (by omega)] at this
      have HF := hd9 hfull
      clear hfull HN
      go_wp2_with fail
      go_ret2
      exact ⟨_, ns, true, rfl, HO.out, HB.out, by rw [HF.out]; rfl, fun x hx => by rw [HF.out] at hx; injection hx⟩

set_option linter.unusedSimpArgs false in
set_option maxRecDepth 100000 in
set_option maxHeartbeats 8000000 in
theorem parseNumbers_nil (w : World) (ao : Option Addr) (cap : Nat) : Calls Tryz.prog 55 #[.slice ao 0 cap] w fun e w' => NumsQ w [] e w' := by
  go_enter Tryz.func55, Tryz.ntmps55
  go_wp2_with fail
  go_loopw [4, 11] (fun v4 v11 wr => v4 = .slice none 0 0 ∧ v11 = .int .i64 0 ∧ wr = w) (fun _ _ _ => 0)
  case atStart => exact ⟨rfl, rfl, rfl⟩
  case round =>
    obtain ⟨rfl, rfl, rfl⟩ := hrel
    go_wp2_with fail
    go_ret2
    exact ⟨_, [], true, rfl, World.ownsRow_nil _ _ _ _, Below.refl _ _, rfl, fun x hx => by injection hx⟩
theorem parseNumbers_any (w : World) (v : Value) (L : List ByteArray) (h : RdB w v L) (hL1 : L.length ≤ 1048577) (hsz : SzB L) {m : Int} {te : TypeId} {pe : Value} (hg : PlG w m te pe) : Calls Tryz.prog 55 #[v] w fun e w' => NumsQ w L e w' := by
  obtain ⟨ao, cap, rfl, h1, h2, h3⟩ := h
  by_cases h0 : 0 < L.length
  · rcases h3 with h3 | ⟨b, o, rfl, hb, hc⟩
    · rw [h3] at h0; simp at h0
    · exact parseNumbers_row w b o cap L h0 h1 h2 hL1 hsz hc hb hg
  · have hn : L = [] := List.eq_nil_of_length_eq_zero (by omega)
    subst hn
    exact parseNumbers_nil w ao cap

end Go.Proofs.YtmjliomhhgahkaaGreatDoor


