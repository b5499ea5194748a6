import Derived.Test.YtcopcegamadkgaaDoorJ04
import Derived.Deep.QuietTactic
import Derived.Deep.RegionHeld3
import Derived.Test.YtcopcegamadkgaaDoorJ01
import Derived.Test.YtcopcegamadkgaaDoorJ03
import Derived.Test.YtcopcegamadkgaaDoorJ02
import Derived.Laws.Cover1
namespace Go.Proofs.YtcopcegamadkgaaDoor
open Go.RowKit Go.Shelf

set_option maxHeartbeats 1000000 in
set_option maxRecDepth 100000 in
theorem l3Below_any (w : World) (v : Value) (ns : List Nd) (p : ByteArray) (h : RdN w v ns) (hn : ns.length ≤ 1000) (hok : ∀ k, k < ns.length → okNd (nAt ns k) = true) :
    Calls Tryd.prog 165 #[v, .string p] w fun e w' => ∃ v', e = .returned v' ∧ OwnN 84 w' w.heap.size v' (chN ns p) ∧ Below w.heap.size w w' := by
  obtain ⟨i0, hi, hz0, hz1, hz2⟩ := info_parts Tryd.infoN
  obtain ⟨ao, ca, rfl, _, _⟩ := h.len
  have HR : Hid (RdN w (.slice ao ns.length ca) ns) := h
  have HOK : Hid (∀ k, k < ns.length → okNd (nAt ns k) = true) := hok
  have O0 : Hid (OwnN 84 (w.alloc (.cells #[] 84)) w.heap.size (.slice (some ⟨w.heap.size, 0, none⟩) 0 0) (chN (ns.take 0) p)) := World.ownsRow_lit w #[] 0 (Nat.le_refl _) (Nat.zero_le _) rfl
  have B0 : Hid (Below w.heap.size w (w.alloc (.cells #[] 84))) := (Below.refl _ _).alloc (Nat.le_refl _) _
  generalize hnn : ns.length = n at *
  have HP : Hid (ns.length = n) := hnn
  clear h hok hnn
  go_enter Tryd.func165, Tryd.ntmps165
  go_wp2
  go_loopw [5, 6] (fun vo vk wr => ∃ k : Nat, k ≤ n ∧ vk = .int .i64 k ∧ Hid (OwnN 84 wr w.heap.size vo (chN (ns.take k) p)) ∧ Hid (Below w.heap.size w wr)) (fun _ i _ => n - (intOf i).toNat)
  case atStart => exact ⟨0, Nat.zero_le _, rfl, O0, B0⟩
  case round =>
    obtain ⟨k, hk, rfl, HW, HB⟩ := hrel
    have sB := HB.out.size
    by_cases hlt : k < n
    · have hltI : (k : Int) < (n : Int) := by omega
      obtain ⟨b, o, hao, hb, hc⟩ : ∃ b o, ao = some ⟨b, o, none⟩ ∧ b < w.heap.size ∧ CellsN w b (o + k * 7) (nAt ns k) := by
        obtain ⟨ao', cap', e', -, -, h3⟩ := HR.out
        simp only [Value.slice.injEq] at e'
        obtain ⟨rfl, -, -⟩ := e'
        rcases h3 with h3 | ⟨b, o, rfl, hb, hc⟩
        · have := HP.out; rw [h3] at this; simp at this; omega
        · exact ⟨b, o, rfl, hb, hc k (by rw [HP.out]; exact hlt)⟩
      subst hao
      have HCk : Hid (CellsN w b (o + k * 7) (nAt ns k)) := hc
      clear hc
      obtain ⟨c0, c1, c2, c3, c4, c5, c6⟩ := HCk.out.below HB.out hb
      have hok := HOK.out k hlt
      have hll : (chN (ns.take k) p).length ≤ 1000 := by
        have := chN_len (ns.take k) p
        rw [List.length_take] at this
        omega
      cases hA : ((nAt ns k).path.toList == [47]) with
      | true =>
        have HS : Hid (chN (ns.take (k + 1)) p = chN (ns.take k) p) := by show _ = _; exact chN_no ns p k (by rw [HP.out]; exact hlt) (by unfold chB; rw [hA]; rfl)
        go_wp2
        exact ⟨⟨k + 1, by omega, by go_num, (by rw [HS.out]; exact HW), HB⟩, by simp [intOf]; omega⟩
      | false =>
        go_wp2_with fail
        refine (l3Parent_any wr (nAt ns k).path (okNd_path hok)).mono ?_
        rintro e w3 ⟨rfl, b3⟩
        have O3 : Hid (OwnN 84 w3 w.heap.size u5 (chN (ns.take k) p)) := HW.out.below b3
        have B3 : Hid (Below w.heap.size w w3) := HB.out.trans (b3.mono sB)
        have s3 := B3.out.size
        clear c0 c1 c2 c3 c4 c5 c6 b3 HW HB
        obtain ⟨c0, c1, c2, c3, c4, c5, c6⟩ := HCk.out.below B3.out hb
        unfold sV
        cases hB : (parL (nAt ns k).path == p.toList) with
        | false =>
          have HS : Hid (chN (ns.take (k + 1)) p = chN (ns.take k) p) := by show _ = _; exact chN_no ns p k (by rw [HP.out]; exact hlt) (by unfold chB; rw [hA, hB]; rfl)
          go_wp2
          exact ⟨⟨k + 1, by omega, by go_num, (by rw [HS.out]; exact O3), B3⟩, by simp [intOf]; omega⟩
        | true =>
          have HS : Hid (chN (ns.take (k + 1)) p = chN (ns.take k) p ++ [nAt ns k]) := by show _ = _; exact chN_yes ns p k (by rw [HP.out]; exact hlt) (by unfold chB; rw [hA, hB]; rfl)
          generalize chN (ns.take k) p = Lk at *
          generalize nAt ns k = m at *
          have OR : Hid (w3.ownsRow w.heap.size 84 7 u5 Lk.length (nrow Lk)) := O3.out
          go_wp2_with (at_builtin; go_must (refine wpList_append_own _ rfl _ _ 34 rfl w.heap.size 84 i0 (.agg #[.string ByteArray.empty, .string ByteArray.empty, .int .i64 0, .int .i64 0, .int .i64 0, .int .i64 0, .int .i64 0]) 7 72 Tryd.underlying34 hi hz0 hz1 hz2 rfl (by decide) _ _ _ rfl (OR.out.alloc _) ⟨w3.heap.size, 0, none⟩ 1 1 (ndL m) rfl rfl (ndL_cells w3 m _) (ndL_one m) ?_ ?_ ?_ ?_))
          · unfold maxLen; omega
          · omega
          · simp; omega
          intro v5 w5 ho5 hg5 _
          have O5 : Hid (OwnN 84 w5 w.heap.size v5 (chN (ns.take (k + 1)) p)) := by
            rw [HS.out]
            unfold OwnN
            rw [List.length_append, nrow_one]
            exact ho5
          have B5 : Hid (Below w.heap.size w w5) := (B3.out.alloc s3 _).grown hg5 (by simp; omega) (fun q hq => (World.ownsRow.lt OR.out q hq).1)
          clear ho5 hg5 OR O3 B3 HS c0 c1 c2 c3 c4 c5 c6
          go_wp2
          exact ⟨⟨k + 1, by omega, by go_num, O5, B5⟩, by simp [intOf]; omega⟩
    · have hkn : k = n := by omega
      subst hkn
      go_wp2
      go_ret
      refine ⟨_, rfl, ?_, HB.out⟩
      have := HW.out
      rw [List.take_of_length_le (by rw [HP.out]; exact Nat.le_refl _)] at this
      exact this

end Go.Proofs.YtcopcegamadkgaaDoor

namespace Go.Proofs.YtcopcegamadkgaaDoor
open Go.RowKit Go.Shelf

/-- The parent's path. -/
def parB (s : ByteArray) : ByteArray := ⟨(parL s).toArray⟩
/-- The name of what is created. -/
def nameO (ns : List Nd) (o : Op5) : ByteArray := if o.seq then ⟨(o.path.data.toList ++ six 12 (nAt ns (ns.findIdx (isP (parB o.path)))).cver.toNat 6).toArray⟩ else o.path
/-- One operation: the code, the nodes behind it, the name. -/
def doO (ns : List Nd) (o : Op5) (z : Int) : Int × List Nd × ByteArray :=
  if !wfO o then (1, ns, ⟨#[]⟩)
  else if o.kind = 1 then
    if ¬ ns.findIdx (isP (parB o.path)) < ns.length then (2, ns, ⟨#[]⟩)
    else if !okPath (nameO ns o) then (1, ns, ⟨#[]⟩)
    else if ns.findIdx (isP (nameO ns o)) < ns.length then (3, ns, ⟨#[]⟩)
    else if ns.length = 1000 then (6, ns, ⟨#[]⟩)
    else (0, toN (wiN ns ⟨nameO ns o, o.data, 0, 0, z, z, z⟩) (parB o.path) z, nameO ns o)
  else if ¬ ns.findIdx (isP o.path) < ns.length then (2, ns, ⟨#[]⟩)
  else if o.ver ≠ -1 ∧ o.ver ≠ (nAt ns (ns.findIdx (isP o.path))).ver then (4, ns, ⟨#[]⟩)
  else if o.kind = 2 then
    if 0 < (chN ns o.path).length then (5, ns, ⟨#[]⟩) else (0, toN (woN ns o.path) (parB o.path) z, o.path)
  else if o.kind = 3 then (0, wiN ns { nAt ns (ns.findIdx (isP o.path)) with data := o.data, ver := mor (nAt ns (ns.findIdx (isP o.path))).ver, mz := z }, o.path)
  else (0, ns, o.path)

theorem stW_mem {n a y : Nd} {st : List Nd × Bool} (h : y ∈ (stW n st a).1) : y ∈ st.1 ∨ y = n ∨ y = a := by
  unfold stW at h
  dsimp only at h
  generalize (!st.2 && !(Op.bytesLess a.path.toList n.path.toList)) = c1 at h
  generalize (a.path.toList == n.path.toList) = c2 at h
  cases c1 <;> cases c2 <;> simp at h <;> grind
theorem wi_mem {ns : List Nd} {n m : Nd} (h : m ∈ wiN ns n) : m ∈ ns ∨ m = n := by
  have key : ∀ (l : List Nd) (st : List Nd × Bool), (∀ x ∈ st.1, x ∈ ns ∨ x = n) → (∀ x ∈ l, x ∈ ns) → ∀ x ∈ (l.foldl (stW n) st).1, x ∈ ns ∨ x = n := by
    intro l
    induction l with
    | nil => intro st h1 _ x hx; exact h1 x hx
    | cons a l ih =>
      intro st h1 h2 x hx
      refine ih (stW n st a) ?_ (fun y hy => h2 y (List.mem_cons_of_mem _ hy)) x hx
      intro y hy
      rcases stW_mem hy with h3 | h3 | h3
      · exact h1 y h3
      · exact .inr h3
      · exact .inl (h3 ▸ h2 a (List.mem_cons_self ..))
  unfold wiN wiF at h
  split at h
  · exact key ns ([], false) (fun x hx => by simp at hx) (fun x hx => hx) m h
  · rcases List.mem_append.1 h with h | h
    · exact key ns ([], false) (fun x hx => by simp at hx) (fun x hx => hx) m h
    · simp at h; exact .inr h
theorem cv_of {ns : List Nd} (h : ∀ k, k < ns.length → okNd (nAt ns k) = true) : ∀ m ∈ ns, -1 ≤ m.cver ∧ m.cver ≤ 2147483647 := by
  intro m hm
  obtain ⟨i, hi, rfl⟩ := List.mem_iff_getElem.1 hm
  have := h i hi
  rw [nAt_get hi] at this
  unfold okNd okS at this
  simp only [Bool.and_eq_true, decide_eq_true_eq] at this
  omega
theorem cv_at {ns : List Nd} (h : ∀ m ∈ ns, -1 ≤ m.cver ∧ m.cver ≤ 2147483647) : ∀ k, k < ns.length → -1 ≤ (nAt ns k).cver ∧ (nAt ns k).cver ≤ 2147483647 := by
  intro k hk
  rw [nAt_get hk]
  exact h _ (List.getElem_mem hk)

set_option maxHeartbeats 1000000 in
set_option maxRecDepth 100000 in
theorem l3Do_bad (w : World) (v : Value) (ns : List Nd) (o : Op5) (z : Int) (h : RdN w v ns) (hp : o.path.size ≤ 1048576) (hd : o.data.size ≤ 1048576) (hw : wfO o = false) :
    Calls Tryd.prog 146 #[v, .agg #[.int .i64 o.kind, .string o.path, .string o.data, .int .i64 o.ver, .bool o.seq], .int .i64 z] w fun e w' => ∃ v', e = .returned (.tuple #[.int .i64 (doO ns o z).1, v', .string (doO ns o z).2.2]) ∧ RdN w' v' (doO ns o z).2.1 ∧ Fresh w v v' ∧ Below w.heap.size w w' := by
  obtain ⟨ao, ca, rfl, _, _⟩ := h.len
  have HR : Hid (RdN w (.slice ao ns.length ca) ns) := h
  have HD : Hid (doO ns o z = (1, ns, ⟨#[]⟩)) := by show _ = _; unfold doO; rw [hw]; rfl
  have HW : Hid (wfO o = false) := hw
  have B0 : Hid (Below w.heap.size w (w.alloc (.cells #[.int .i64 o.kind, .string o.path, .string o.data, .int .i64 o.ver, .bool o.seq] 176))) := (Below.refl _ _).alloc (Nat.le_refl _) _
  clear h hw
  go_enter Tryd.func146, Tryd.ntmps146
  go_wp2_with fail
  refine (l3Well_any _ o hp hd).mono ?_
  rintro e w1 ⟨rfl, b1⟩
  rw [HW.out]
  have R1 : Hid (RdN w1 (.slice ao ns.length ca) ns) := HR.out.below (B0.out.trans (b1.mono B0.out.size))
  have B1 : Hid (Below w.heap.size w w1) := B0.out.trans (b1.mono B0.out.size)
  clear b1
  go_wp2
  rw [HD.out]
  exact bodyPost_ret (v := .tuple #[.int .i64 1, .slice ao ns.length ca, .string ⟨#[]⟩]) (by simp [results, Tryd.results146, go_sem]) rfl ⟨_, rfl, R1.out, .inl rfl, B1.out⟩

end Go.Proofs.YtcopcegamadkgaaDoor

namespace Go.Proofs.YtcopcegamadkgaaDoor
open Go.RowKit Go.Shelf

/-- A local operation. -/
structure BoxO (w : World) (B : Nat) (o : Op5) : Prop where
  lt : B < w.heap.size
  c0 : w.cell? ⟨B, 0, none⟩ = some (.int .i64 o.kind)
  c1 : w.cell? ⟨B, 1, none⟩ = some (.string o.path)
  c2 : w.cell? ⟨B, 2, none⟩ = some (.string o.data)
  c3 : w.cell? ⟨B, 3, none⟩ = some (.int .i64 o.ver)
  c4 : w.cell? ⟨B, 4, none⟩ = some (.bool o.seq)
theorem BoxO.new (w : World) (o : Op5) (t : TypeId) : BoxO (w.alloc (.cells #[.int .i64 o.kind, .string o.path, .string o.data, .int .i64 o.ver, .bool o.seq] t)) w.heap.size o :=
  ⟨by simp, by simp, by simp, by simp, by simp, by simp⟩
theorem BoxO.below {w w' : World} {B : Nat} {o : Op5} (h : BoxO w B o) (hb : Below w.heap.size w w') : BoxO w' B o :=
  ⟨Nat.lt_of_lt_of_le h.lt hb.size, (hb.cell (p := ⟨B, _, none⟩) h.lt).trans h.c0, (hb.cell (p := ⟨B, _, none⟩) h.lt).trans h.c1, (hb.cell (p := ⟨B, _, none⟩) h.lt).trans h.c2, (hb.cell (p := ⟨B, _, none⟩) h.lt).trans h.c3, (hb.cell (p := ⟨B, _, none⟩) h.lt).trans h.c4⟩
/-- What is known when an operation is done. -/
def DoPost (w : World) (v : Value) (ns : List Nd) (o : Op5) (z : Int) (e : Ending) (w' : World) : Prop := ∃ v', e = .returned (.tuple #[.int .i64 (doO ns o z).1, v', .string (doO ns o z).2.2]) ∧ RdN w' v' (doO ns o z).2.1 ∧ Fresh w v v' ∧ Below w.heap.size w w'
theorem wiN_len (ns : List Nd) (n : Nd) : (wiN ns n).length ≤ 2 * ns.length + 1 := by
  have := wiF_len ns n ns.length
  rw [List.take_length] at this
  unfold wiN
  split
  · omega
  · simp; omega
theorem wfO_path {o : Op5} (h : wfO o = true) : okPath o.path = true ∧ o.data.size ≤ 64 := by
  unfold wfO at h
  simp only [Bool.and_eq_true, decide_eq_true_eq] at h
  exact ⟨h.1.1.1.2, h.1.1.2⟩

set_option maxHeartbeats 2000000 in
set_option maxRecDepth 100000 in
theorem l3Do_create (w : World) (v : Value) (ns : List Nd) (o : Op5) (z : Int) (h : RdN w v ns) (hn : ns.length ≤ 1000) (hok : ∀ k, k < ns.length → okNd (nAt ns k) = true) (hp : o.path.size ≤ 1048576) (hd : o.data.size ≤ 1048576) (hw : wfO o = true) (hk : o.kind = 1) :
    Calls Tryd.prog 146 #[v, .agg #[.int .i64 o.kind, .string o.path, .string o.data, .int .i64 o.ver, .bool o.seq], .int .i64 z] w fun e w' => DoPost w v ns o z e w' := by
  obtain ⟨ao, ca, rfl, _, _⟩ := h.len
  have HR : Hid (RdN w (.slice ao ns.length ca) ns) := h
  have HO : Hid (∀ k, k < ns.length → okNd (nAt ns k) = true) := hok
  have HW : Hid (wfO o = true) := hw
  have hkb : (o.kind == 1) = true := by simp [hk]
  have HD : Hid (doO ns o z = if ¬ ns.findIdx (isP (parB o.path)) < ns.length then (2, ns, ⟨#[]⟩)
    else if !okPath (nameO ns o) then (1, ns, ⟨#[]⟩)
    else if ns.findIdx (isP (nameO ns o)) < ns.length then (3, ns, ⟨#[]⟩)
    else if ns.length = 1000 then (6, ns, ⟨#[]⟩)
    else (0, toN (wiN ns ⟨nameO ns o, o.data, 0, 0, z, z, z⟩) (parB o.path) z, nameO ns o)) := by show _ = _; unfold doO; rw [hw, if_pos hk]; rfl
  have HPP := (wfO_path hw).1
  have B0 : Hid (Below w.heap.size w (w.alloc (.cells #[.int .i64 o.kind, .string o.path, .string o.data, .int .i64 o.ver, .bool o.seq] 176))) := (Below.refl _ _).alloc (Nat.le_refl _) _
  have X0 : Hid (BoxO (w.alloc (.cells #[.int .i64 o.kind, .string o.path, .string o.data, .int .i64 o.ver, .bool o.seq] 176)) w.heap.size o) := BoxO.new _ _ _
  have HPK : Hid (okPath o.path = true) := HPP
  clear h hw hok hk HPP
  go_enter Tryd.func146, Tryd.ntmps146
  go_wp2_with fail
  generalize w.alloc (.cells #[.int .i64 o.kind, .string o.path, .string o.data, .int .i64 o.ver, .bool o.seq] 176) = w0 at *
  refine (l3Well_any _ o hp hd).mono ?_
  rintro e w1 ⟨rfl, b1⟩
  rw [HW.out]
  have B1 : Hid (Below w.heap.size w w1) := B0.out.trans (b1.mono B0.out.size)
  have X1 : Hid (BoxO w1 w.heap.size o) := X0.out.below b1
  clear b1 B0 X0
  obtain ⟨xl, c0, c1, c2, c3, c4⟩ := X1.out
  go_wp2_with fail
  refine (l3Parent_any _ o.path HPK.out).mono ?_
  rintro e w2 ⟨rfl, b2⟩
  have B2 : Hid (Below w.heap.size w w2) := B1.out.trans (b2.mono B1.out.size)
  have X2 : Hid (BoxO w2 w.heap.size o) := X1.out.below b2
  clear b2 B1 X1 xl c0 c1 c2 c3 c4
  go_wp2_with fail
  rw [show sV (parL o.path) = .string (parB o.path) from rfl]
  generalize hpb : parB o.path = pb at *
  have HPB : Hid (parB o.path = pb) := hpb
  clear hpb
  refine (l3Find_any w2 _ ns pb (HR.out.below B2.out) (by omega)).mono ?_
  rintro e w3 ⟨rfl, rfl⟩
  by_cases hf : ns.findIdx (isP pb) < ns.length
  rotate_left
  · rw [if_pos hf] at HD
    rw [show fdV ns pb = -1 by unfold fdV; rw [if_neg hf]]
    clear hf
    go_wp2
    exact bodyPost_ret (v := .tuple #[.int .i64 2, .slice ao ns.length ca, .string ⟨#[]⟩]) (by simp [results, Tryd.results146, go_sem]) rfl ⟨_, by rw [HD.out], by rw [HD.out]; exact HR.out.below B2.out, .inl rfl, B2.out⟩
  rw [if_neg (by simpa using hf)] at HD
  rw [show fdV ns pb = ((ns.findIdx (isP pb) : Nat) : Int) by unfold fdV; rw [if_pos hf]]
  have HNM : Hid (nameO ns o = if o.seq then ⟨(o.path.data.toList ++ six 12 (nAt ns (ns.findIdx (isP pb))).cver.toNat 6).toArray⟩ else o.path) := by show _ = _; unfold nameO; rw [HPB.out]
  generalize ns.findIdx (isP pb) = k at *
  have hI : ¬ (k : Int) < 0 := by omega
  have hkI : (k : Int) < (ns.length : Int) := by omega
  obtain ⟨b, oo, hao, hb, hc⟩ : ∃ b o, ao = some ⟨b, o, none⟩ ∧ b < w.heap.size ∧ CellsN w b (o + k * 7) (nAt ns k) := by
    obtain ⟨ao', cap', e', -, -, h3⟩ := HR.out
    simp only [Value.slice.injEq] at e'
    obtain ⟨rfl, -, -⟩ := e'
    rcases h3 with h3 | ⟨b, o, rfl, hb, hc⟩
    · rw [h3] at hf; simp at hf
    · exact ⟨b, o, rfl, hb, hc k hf⟩
  subst hao
  have hcvk := cv_at (cv_of HO.out) k hf
  have hcv0 : 0 ≤ (nAt ns k).cver := by
    have := HO.out k hf
    unfold okNd okS at this
    simp only [Bool.and_eq_true, decide_eq_true_eq] at this
    omega
  obtain ⟨a0, a1, a2, a3, a4, a5, a6⟩ := hc.below B2.out hb
  generalize nAt ns k = m at *
  clear hc
  obtain ⟨xl, c0, c1, c2, c3, c4⟩ := X2.out
  cases hsq : o.seq with
  | false =>
    rw [hsq] at c4
    have HNE : Hid (nameO ns o = o.path) := by show _ = _; rw [HNM.out, hsq]; rfl
    clear a0 a1 a2 a4 a5 a6
    go_wp2_with fail
    clear xl c0 c1 c2 c3 c4 a3
    have B4 : Hid (Below w.heap.size w w3) := B2.out
    have X4 : Hid (BoxO w3 w.heap.size o) := X2.out
    have hns : o.path.size ≤ 1000000 := by have := okPath_size HPK.out; omega
    clear B2 X2 HNM
    rw [HNE.out] at HD
    generalize o.path = nm at *
    refine (specPath_any w3 nm (by omega)).mono ?_
    rintro e w5 ⟨rfl, b5⟩
    have B5 : Hid (Below w.heap.size w w5) := B4.out.trans (b5.mono B4.out.size)
    have X5 : Hid (BoxO w5 w.heap.size o) := X4.out.below b5
    clear b5 B4 X4
    cases hok2 : okPath nm with
    | false =>
      rw [hok2] at HD
      clear hok2
      go_wp2
      exact bodyPost_ret (v := .tuple #[.int .i64 1, .slice (some ⟨b, oo, none⟩) ns.length ca, .string ⟨#[]⟩]) (by simp [results, Tryd.results146, go_sem]) rfl ⟨_, by rw [HD.out]; rfl, by rw [HD.out]; exact HR.out.below B5.out, .inl rfl, B5.out⟩
    | true =>
      rw [hok2] at HD
      clear hok2
      go_wp2_with fail
      refine (l3Find_any w5 _ ns nm (HR.out.below B5.out) (by omega)).mono ?_
      rintro e w6 ⟨rfl, rfl⟩
      by_cases hg : ns.findIdx (isP nm) < ns.length
      · have hgI : (0 : Int) ≤ ((ns.findIdx (isP nm) : Nat) : Int) := by omega
        rw [show fdV ns nm = ((ns.findIdx (isP nm) : Nat) : Int) by unfold fdV; rw [if_pos hg]]
        simp only [Bool.not_true, Bool.false_eq_true, if_false] at HD
        rw [if_pos hg] at HD
        generalize ns.findIdx (isP nm) = g at *
        go_wp2
        exact bodyPost_ret (v := .tuple #[.int .i64 3, .slice (some ⟨b, oo, none⟩) ns.length ca, .string ⟨#[]⟩]) (by simp [results, Tryd.results146, go_sem]) rfl ⟨_, by rw [HD.out], by rw [HD.out]; exact HR.out.below B5.out, .inl rfl, B5.out⟩
      · rw [show fdV ns nm = -1 by unfold fdV; rw [if_neg hg]]
        simp only [Bool.not_true, Bool.false_eq_true, if_false] at HD
        rw [if_neg hg] at HD
        clear hg
        by_cases h1000 : ns.length = 1000
        · rw [if_pos h1000] at HD
          have hlb : ((ns.length : Int) == 1000) = true := by simp; omega
          clear h1000
          go_wp2
          exact bodyPost_ret (v := .tuple #[.int .i64 6, .slice (some ⟨b, oo, none⟩) ns.length ca, .string ⟨#[]⟩]) (by simp [results, Tryd.results146, go_sem]) rfl ⟨_, by rw [HD.out], by rw [HD.out]; exact HR.out.below B5.out, .inl rfl, B5.out⟩
        · rw [if_neg h1000] at HD
          have hlb : ((ns.length : Int) == 1000) = false := by simp; omega
          clear h1000
          obtain ⟨xl, c0, c1, c2, c3, c4⟩ := X5.out
          go_wp2_with fail
          clear xl c0 c1 c2 c3 c4
          have ba : Below w6.heap.size w6 (w6.alloc (.cells #[.string nm, .string o.data, .int .i64 0, .int .i64 0, .int .i64 z, .int .i64 z, .int .i64 z] 84)) := (Below.refl _ _).alloc (Nat.le_refl _) _
          have B6 : Hid (Below w.heap.size w (w6.alloc (.cells #[.string nm, .string o.data, .int .i64 0, .int .i64 0, .int .i64 z, .int .i64 z, .int .i64 z] 84))) := B5.out.trans (ba.mono B5.out.size)
          clear ba
          generalize w6.alloc (.cells #[.string nm, .string o.data, .int .i64 0, .int .i64 0, .int .i64 z, .int .i64 z, .int .i64 z] 84) = w6' at *
          refine (with_any _ _ ns ⟨nm, o.data, 0, 0, z, z, z⟩ (HR.out.below B6.out) (by omega)).mono ?_
          rintro e w7 ⟨v7, rfl, o7, b7⟩
          obtain ⟨a7, k7, hv7⟩ := o7.slice
          subst hv7
          have hwl := wiN_len ns ⟨nm, o.data, 0, 0, z, z, z⟩
          have HCV : Hid (∀ k, k < (wiN ns ⟨nm, o.data, 0, 0, z, z, z⟩).length → -1 ≤ (nAt (wiN ns ⟨nm, o.data, 0, 0, z, z, z⟩) k).cver ∧ (nAt (wiN ns ⟨nm, o.data, 0, 0, z, z, z⟩) k).cver ≤ 2147483647) := cv_at (fun m hm => by
            rcases wi_mem hm with h9 | h9
            · exact cv_of HO.out m h9
            · rw [h9]; simp)
          have R7 : Hid (RdN w7 (.slice a7 (wiN ns ⟨nm, o.data, 0, 0, z, z, z⟩).length k7) (wiN ns ⟨nm, o.data, 0, 0, z, z, z⟩)) := o7.rd
          have F7 : Hid (New w (.slice a7 (wiN ns ⟨nm, o.data, 0, 0, z, z, z⟩).length k7)) := OwnN.new9 o7 B6.out.size
          have B7 : Hid (Below w.heap.size w w7) := B6.out.trans (b7.mono B6.out.size)
          clear o7 b7 B6 B5 X5
          generalize wiN ns ⟨nm, o.data, 0, 0, z, z, z⟩ = WN at *
          go_wp2_with fail
          refine (l3Touch_any w7 _ WN pb z R7.out (by omega) HCV.out).mono ?_
          rintro e w8 ⟨v8, rfl, r8, f8, b8⟩
          obtain ⟨a8, k8, hv8, -, -⟩ := r8.len
          subst hv8
          have R8 : Hid (RdN w8 (.slice a8 (toN WN pb z).length k8) (toN WN pb z)) := r8
          have F8 : Hid (New w (.slice a8 (toN WN pb z).length k8)) := f8.new F7.out B7.out.size
          have B8 : Hid (Below w.heap.size w w8) := B7.out.trans (b8.mono B7.out.size)
          clear r8 f8 b8 B7 R7 F7 HCV
          go_wp2
          exact bodyPost_ret (v := .tuple #[.int .i64 0, .slice a8 (toN WN pb z).length k8, .string nm]) (by simp [results, Tryd.results146, go_sem]) rfl ⟨_, by rw [HD.out], by rw [HD.out]; exact R8.out, .inr F8.out, B8.out⟩
  | true =>
    rw [hsq] at c4
    obtain ⟨cvn, hcvn⟩ : ∃ n : Nat, m.cver = (n : Int) := ⟨m.cver.toNat, by omega⟩
    rw [hcvn] at a3
    clear a0 a1 a2 a4 a5 a6
    have h10 : cvn < 10 ^ 11 := by
      have : (10 : Nat) ^ 11 = 100000000000 := by decide
      omega
    go_wp2_with fail
    refine (l3Six_any 11 w3 cvn 6 (by omega) h10 (by omega) (by decide) (by omega) (by omega)).mono ?_
    rintro e w4 ⟨rfl, b4⟩
    have h6 := six_len 12 cvn 6
    have hps := okPath_size HPK.out
    have HNE : Hid (nameO ns o = o.path ++ ⟨(six 12 cvn 6).toArray⟩) := by
      show _ = _
      rw [HNM.out, hsq, hcvn]
      apply ByteArray.ext
      simp [ByteArray.data_append]
    have hsz : (o.path ++ (⟨(six 12 cvn 6).toArray⟩ : ByteArray)).size ≤ 1000000 := by
      rw [ByteArray.size_append]
      have : (⟨(six 12 cvn 6).toArray⟩ : ByteArray).size = (six 12 cvn 6).length := by simp [ByteArray.size]
      omega
    have B4 : Hid (Below w.heap.size w w4) := B2.out.trans (b4.mono B2.out.size)
    have X4 : Hid (BoxO w4 w.heap.size o) := X2.out.below b4
    clear b4 B2 X2 HNM xl c0 c1 c2 c3 c4 a3 h10
    have e66 : (6 : Int).toNat = 6 := rfl
    rw [e66]
    clear e66
    generalize six 12 cvn 6 = SX at *
    have hlS : o.path.size + SX.length ≤ 9223372036854775807 := by omega
    go_wp2_with fail
    rw [HNE.out] at HD
    clear HNE
    have hns := hsz
    clear hsz hlS
    generalize o.path ++ (⟨SX.toArray⟩ : ByteArray) = nm at *
    refine (specPath_any w4 nm (by omega)).mono ?_
    rintro e w5 ⟨rfl, b5⟩
    have B5 : Hid (Below w.heap.size w w5) := B4.out.trans (b5.mono B4.out.size)
    have X5 : Hid (BoxO w5 w.heap.size o) := X4.out.below b5
    clear b5 B4 X4
    cases hok2 : okPath nm with
    | false =>
      rw [hok2] at HD
      clear hok2
      go_wp2
      exact bodyPost_ret (v := .tuple #[.int .i64 1, .slice (some ⟨b, oo, none⟩) ns.length ca, .string ⟨#[]⟩]) (by simp [results, Tryd.results146, go_sem]) rfl ⟨_, by rw [HD.out]; rfl, by rw [HD.out]; exact HR.out.below B5.out, .inl rfl, B5.out⟩
    | true =>
      rw [hok2] at HD
      clear hok2
      go_wp2_with fail
      refine (l3Find_any w5 _ ns nm (HR.out.below B5.out) (by omega)).mono ?_
      rintro e w6 ⟨rfl, rfl⟩
      by_cases hg : ns.findIdx (isP nm) < ns.length
      · have hgI : (0 : Int) ≤ ((ns.findIdx (isP nm) : Nat) : Int) := by omega
        rw [show fdV ns nm = ((ns.findIdx (isP nm) : Nat) : Int) by unfold fdV; rw [if_pos hg]]
        simp only [Bool.not_true, Bool.false_eq_true, if_false] at HD
        rw [if_pos hg] at HD
        generalize ns.findIdx (isP nm) = g at *
        go_wp2
        exact bodyPost_ret (v := .tuple #[.int .i64 3, .slice (some ⟨b, oo, none⟩) ns.length ca, .string ⟨#[]⟩]) (by simp [results, Tryd.results146, go_sem]) rfl ⟨_, by rw [HD.out], by rw [HD.out]; exact HR.out.below B5.out, .inl rfl, B5.out⟩
      · rw [show fdV ns nm = -1 by unfold fdV; rw [if_neg hg]]
        simp only [Bool.not_true, Bool.false_eq_true, if_false] at HD
        rw [if_neg hg] at HD
        clear hg
        by_cases h1000 : ns.length = 1000
        · rw [if_pos h1000] at HD
          have hlb : ((ns.length : Int) == 1000) = true := by simp; omega
          clear h1000
          go_wp2
          exact bodyPost_ret (v := .tuple #[.int .i64 6, .slice (some ⟨b, oo, none⟩) ns.length ca, .string ⟨#[]⟩]) (by simp [results, Tryd.results146, go_sem]) rfl ⟨_, by rw [HD.out], by rw [HD.out]; exact HR.out.below B5.out, .inl rfl, B5.out⟩
        · rw [if_neg h1000] at HD
          have hlb : ((ns.length : Int) == 1000) = false := by simp; omega
          clear h1000
          obtain ⟨xl, c0, c1, c2, c3, c4⟩ := X5.out
          go_wp2_with fail
          clear xl c0 c1 c2 c3 c4
          have ba : Below w6.heap.size w6 (w6.alloc (.cells #[.string nm, .string o.data, .int .i64 0, .int .i64 0, .int .i64 z, .int .i64 z, .int .i64 z] 84)) := (Below.refl _ _).alloc (Nat.le_refl _) _
          have B6 : Hid (Below w.heap.size w (w6.alloc (.cells #[.string nm, .string o.data, .int .i64 0, .int .i64 0, .int .i64 z, .int .i64 z, .int .i64 z] 84))) := B5.out.trans (ba.mono B5.out.size)
          clear ba
          generalize w6.alloc (.cells #[.string nm, .string o.data, .int .i64 0, .int .i64 0, .int .i64 z, .int .i64 z, .int .i64 z] 84) = w6' at *
          refine (with_any _ _ ns ⟨nm, o.data, 0, 0, z, z, z⟩ (HR.out.below B6.out) (by omega)).mono ?_
          rintro e w7 ⟨v7, rfl, o7, b7⟩
          obtain ⟨a7, k7, hv7⟩ := o7.slice
          subst hv7
          have hwl := wiN_len ns ⟨nm, o.data, 0, 0, z, z, z⟩
          have HCV : Hid (∀ k, k < (wiN ns ⟨nm, o.data, 0, 0, z, z, z⟩).length → -1 ≤ (nAt (wiN ns ⟨nm, o.data, 0, 0, z, z, z⟩) k).cver ∧ (nAt (wiN ns ⟨nm, o.data, 0, 0, z, z, z⟩) k).cver ≤ 2147483647) := cv_at (fun m hm => by
            rcases wi_mem hm with h9 | h9
            · exact cv_of HO.out m h9
            · rw [h9]; simp)
          have R7 : Hid (RdN w7 (.slice a7 (wiN ns ⟨nm, o.data, 0, 0, z, z, z⟩).length k7) (wiN ns ⟨nm, o.data, 0, 0, z, z, z⟩)) := o7.rd
          have F7 : Hid (New w (.slice a7 (wiN ns ⟨nm, o.data, 0, 0, z, z, z⟩).length k7)) := OwnN.new9 o7 B6.out.size
          have B7 : Hid (Below w.heap.size w w7) := B6.out.trans (b7.mono B6.out.size)
          clear o7 b7 B6 B5 X5
          generalize wiN ns ⟨nm, o.data, 0, 0, z, z, z⟩ = WN at *
          go_wp2_with fail
          refine (l3Touch_any w7 _ WN pb z R7.out (by omega) HCV.out).mono ?_
          rintro e w8 ⟨v8, rfl, r8, f8, b8⟩
          obtain ⟨a8, k8, hv8, -, -⟩ := r8.len
          subst hv8
          have R8 : Hid (RdN w8 (.slice a8 (toN WN pb z).length k8) (toN WN pb z)) := r8
          have F8 : Hid (New w (.slice a8 (toN WN pb z).length k8)) := f8.new F7.out B7.out.size
          have B8 : Hid (Below w.heap.size w w8) := B7.out.trans (b8.mono B7.out.size)
          clear r8 f8 b8 B7 R7 F7 HCV
          go_wp2
          exact bodyPost_ret (v := .tuple #[.int .i64 0, .slice a8 (toN WN pb z).length k8, .string nm]) (by simp [results, Tryd.results146, go_sem]) rfl ⟨_, by rw [HD.out], by rw [HD.out]; exact R8.out, .inr F8.out, B8.out⟩

end Go.Proofs.YtcopcegamadkgaaDoor

namespace Go.Proofs.YtcopcegamadkgaaDoor
open Go.RowKit Go.Shelf

set_option maxHeartbeats 2000000 in
set_option maxRecDepth 100000 in
theorem l3Do_check (w : World) (v : Value) (ns : List Nd) (o : Op5) (z : Int) (h : RdN w v ns) (hn : ns.length ≤ 1000) (hp : o.path.size ≤ 1048576) (hd : o.data.size ≤ 1048576) (hw : wfO o = true) (hk : o.kind = 4) :
    Calls Tryd.prog 146 #[v, .agg #[.int .i64 o.kind, .string o.path, .string o.data, .int .i64 o.ver, .bool o.seq], .int .i64 z] w fun e w' => DoPost w v ns o z e w' := by
  obtain ⟨ao, ca, rfl, _, _⟩ := h.len
  have HR : Hid (RdN w (.slice ao ns.length ca) ns) := h
  have HW : Hid (wfO o = true) := hw
  have hk1 : (o.kind == 1) = false := by simp [hk]
  have hk2 : (o.kind == 2) = false := by simp [hk]
  have hk3 : (o.kind == 3) = false := by simp [hk]
  have HD : Hid (doO ns o z = if ¬ ns.findIdx (isP o.path) < ns.length then (2, ns, ⟨#[]⟩)
    else if o.ver ≠ -1 ∧ o.ver ≠ (nAt ns (ns.findIdx (isP o.path))).ver then (4, ns, ⟨#[]⟩)
    else (0, ns, o.path)) := by
    show _ = _
    unfold doO
    rw [hw, if_neg (by simp), if_neg (by omega), if_neg (show ¬ o.kind = 2 by omega), if_neg (show ¬ o.kind = 3 by omega)]
  have B0 : Hid (Below w.heap.size w (w.alloc (.cells #[.int .i64 o.kind, .string o.path, .string o.data, .int .i64 o.ver, .bool o.seq] 176))) := (Below.refl _ _).alloc (Nat.le_refl _) _
  have X0 : Hid (BoxO (w.alloc (.cells #[.int .i64 o.kind, .string o.path, .string o.data, .int .i64 o.ver, .bool o.seq] 176)) w.heap.size o) := BoxO.new _ _ _
  clear h hw hk
  go_enter Tryd.func146, Tryd.ntmps146
  go_wp2_with fail
  generalize w.alloc (.cells #[.int .i64 o.kind, .string o.path, .string o.data, .int .i64 o.ver, .bool o.seq] 176) = w0 at *
  refine (l3Well_any _ o hp hd).mono ?_
  rintro e w1 ⟨rfl, b1⟩
  rw [HW.out]
  have B1 : Hid (Below w.heap.size w w1) := B0.out.trans (b1.mono B0.out.size)
  have X1 : Hid (BoxO w1 w.heap.size o) := X0.out.below b1
  clear b1 B0 X0
  obtain ⟨xl, c0, c1, c2, c3, c4⟩ := X1.out
  go_wp2_with fail
  clear xl c0 c1 c2 c3 c4
  refine (l3Find_any w1 _ ns o.path (HR.out.below B1.out) (by omega)).mono ?_
  rintro e w3 ⟨rfl, rfl⟩
  by_cases hf : ns.findIdx (isP o.path) < ns.length
  rotate_left
  · rw [if_pos hf] at HD
    rw [show fdV ns o.path = -1 by unfold fdV; rw [if_neg hf]]
    clear hf
    go_wp2
    exact bodyPost_ret (v := .tuple #[.int .i64 2, .slice ao ns.length ca, .string ⟨#[]⟩]) (by simp [results, Tryd.results146, go_sem]) rfl ⟨_, by rw [HD.out], by rw [HD.out]; exact HR.out.below B1.out, .inl rfl, B1.out⟩
  rw [if_neg (by simpa using hf)] at HD
  rw [show fdV ns o.path = ((ns.findIdx (isP o.path) : Nat) : Int) by unfold fdV; rw [if_pos hf]]
  generalize ns.findIdx (isP o.path) = k at *
  have hI : ¬ (k : Int) < 0 := by omega
  have hkI : (k : Int) < (ns.length : Int) := by omega
  obtain ⟨b, oo, hao, hb, hc⟩ : ∃ b o, ao = some ⟨b, o, none⟩ ∧ b < w.heap.size ∧ CellsN w b (o + k * 7) (nAt ns k) := by
    obtain ⟨ao', cap', e', -, -, h3⟩ := HR.out
    simp only [Value.slice.injEq] at e'
    obtain ⟨rfl, -, -⟩ := e'
    rcases h3 with h3 | ⟨b, o, rfl, hb, hc⟩
    · rw [h3] at hf; simp at hf
    · exact ⟨b, o, rfl, hb, hc k hf⟩
  subst hao
  obtain ⟨a0, a1, a2, a3, a4, a5, a6⟩ := hc.below B1.out hb
  generalize nAt ns k = m at *
  clear hc a0 a1 a3 a4 a5 a6
  obtain ⟨xl, c0, c1, c2, c3, c4⟩ := X1.out
  by_cases hv : o.ver ≠ -1 ∧ o.ver ≠ m.ver
  · rw [if_pos hv] at HD
    have hv1 : (o.ver != -1) = true := by simpa using hv.1
    have hv2 : (o.ver != m.ver) = true := by simpa using hv.2
    clear hv
    go_wp2
    go_quiet (fail)
    have BQ : Hid (Below w.heap.size w (w3.drewN nq)) := B1.out.trans ((below_drewN' w3 nq).mono B1.out.size)
    go_wp2
    exact bodyPost_ret (v := .tuple #[.int .i64 4, .slice (some ⟨b, oo, none⟩) ns.length ca, .string ⟨#[]⟩]) (by simp [results, Tryd.results146, go_sem]) rfl ⟨_, by rw [HD.out], by rw [HD.out]; exact HR.out.below BQ.out, .inl rfl, BQ.out⟩
  rw [if_neg hv] at HD
  have hcase : (o.ver != -1) = false ∨ ((o.ver != -1) = true ∧ (o.ver != m.ver) = false) := by
    by_cases e1 : o.ver = -1
    · exact .inl (by simp [e1])
    · by_cases e2 : o.ver = m.ver
      · exact .inr ⟨by simp [e1], by simp [e2]⟩
      · exact absurd ⟨e1, e2⟩ hv
  clear hv
  rcases hcase with hv1 | ⟨hv1, hv2⟩
  all_goals
    go_wp2
    go_quiet (fail)
    have BQ : Hid (Below w.heap.size w (w3.drewN nq)) := B1.out.trans ((below_drewN' w3 nq).mono B1.out.size)
    have XQ : Hid (BoxO (w3.drewN nq) w.heap.size o) := X1.out.below (below_drewN' w3 nq)
    clear xl c0 c1 c2 c3 c4 a2
    generalize w3.drewN nq = wq at *
    obtain ⟨xl, c0, c1, c2, c3, c4⟩ := XQ.out
    go_wp2
    go_quiet (fail)
    have BZ : Hid (Below w.heap.size w (wq.drewN nq)) := BQ.out.trans ((below_drewN' wq nq).mono BQ.out.size)
    go_wp2
    exact bodyPost_ret (v := .tuple #[.int .i64 0, .slice (some ⟨b, oo, none⟩) ns.length ca, .string o.path]) (by simp [results, Tryd.results146, go_sem]) rfl ⟨_, by rw [HD.out], by rw [HD.out]; exact HR.out.below BZ.out, .inl rfl, BZ.out⟩

end Go.Proofs.YtcopcegamadkgaaDoor

namespace Go.Proofs.YtcopcegamadkgaaDoor
open Go.RowKit Go.Shelf

set_option maxHeartbeats 2000000 in
set_option maxRecDepth 100000 in
theorem l3Do_set (w : World) (v : Value) (ns : List Nd) (o : Op5) (z : Int) (h : RdN w v ns) (hn : ns.length ≤ 1000) (hok : ∀ k, k < ns.length → okNd (nAt ns k) = true) (hp : o.path.size ≤ 1048576) (hd : o.data.size ≤ 1048576) (hw : wfO o = true) (hk : o.kind = 3) :
    Calls Tryd.prog 146 #[v, .agg #[.int .i64 o.kind, .string o.path, .string o.data, .int .i64 o.ver, .bool o.seq], .int .i64 z] w fun e w' => DoPost w v ns o z e w' := by
  obtain ⟨ao, ca, rfl, _, _⟩ := h.len
  have HR : Hid (RdN w (.slice ao ns.length ca) ns) := h
  have HW : Hid (wfO o = true) := hw
  have hk1 : (o.kind == 1) = false := by simp [hk]
  have hk2 : (o.kind == 2) = false := by simp [hk]
  have hk3 : (o.kind == 3) = true := by simp [hk]
  have HOK : Hid (∀ k, k < ns.length → okNd (nAt ns k) = true) := hok
  have HD : Hid (doO ns o z = if ¬ ns.findIdx (isP o.path) < ns.length then (2, ns, ⟨#[]⟩)
    else if o.ver ≠ -1 ∧ o.ver ≠ (nAt ns (ns.findIdx (isP o.path))).ver then (4, ns, ⟨#[]⟩)
    else (0, wiN ns { nAt ns (ns.findIdx (isP o.path)) with data := o.data, ver := mor (nAt ns (ns.findIdx (isP o.path))).ver, mz := z }, o.path)) := by
    show _ = _
    unfold doO
    rw [hw, if_neg (by simp), if_neg (by omega), if_neg (show ¬ o.kind = 2 by omega), if_pos hk]
  have B0 : Hid (Below w.heap.size w (w.alloc (.cells #[.int .i64 o.kind, .string o.path, .string o.data, .int .i64 o.ver, .bool o.seq] 176))) := (Below.refl _ _).alloc (Nat.le_refl _) _
  have X0 : Hid (BoxO (w.alloc (.cells #[.int .i64 o.kind, .string o.path, .string o.data, .int .i64 o.ver, .bool o.seq] 176)) w.heap.size o) := BoxO.new _ _ _
  clear h hw hk hok
  go_enter Tryd.func146, Tryd.ntmps146
  go_wp2_with fail
  generalize w.alloc (.cells #[.int .i64 o.kind, .string o.path, .string o.data, .int .i64 o.ver, .bool o.seq] 176) = w0 at *
  refine (l3Well_any _ o hp hd).mono ?_
  rintro e w1 ⟨rfl, b1⟩
  rw [HW.out]
  have B1 : Hid (Below w.heap.size w w1) := B0.out.trans (b1.mono B0.out.size)
  have X1 : Hid (BoxO w1 w.heap.size o) := X0.out.below b1
  clear b1 B0 X0
  obtain ⟨xl, c0, c1, c2, c3, c4⟩ := X1.out
  go_wp2_with fail
  clear xl c0 c1 c2 c3 c4
  refine (l3Find_any w1 _ ns o.path (HR.out.below B1.out) (by omega)).mono ?_
  rintro e w3 ⟨rfl, rfl⟩
  by_cases hf : ns.findIdx (isP o.path) < ns.length
  rotate_left
  · rw [if_pos hf] at HD
    rw [show fdV ns o.path = -1 by unfold fdV; rw [if_neg hf]]
    clear hf
    go_wp2
    exact bodyPost_ret (v := .tuple #[.int .i64 2, .slice ao ns.length ca, .string ⟨#[]⟩]) (by simp [results, Tryd.results146, go_sem]) rfl ⟨_, by rw [HD.out], by rw [HD.out]; exact HR.out.below B1.out, .inl rfl, B1.out⟩
  rw [if_neg (by simpa using hf)] at HD
  rw [show fdV ns o.path = ((ns.findIdx (isP o.path) : Nat) : Int) by unfold fdV; rw [if_pos hf]]
  generalize ns.findIdx (isP o.path) = k at *
  have hI : ¬ (k : Int) < 0 := by omega
  have hkI : (k : Int) < (ns.length : Int) := by omega
  obtain ⟨b, oo, hao, hb, hc⟩ : ∃ b o, ao = some ⟨b, o, none⟩ ∧ b < w.heap.size ∧ CellsN w b (o + k * 7) (nAt ns k) := by
    obtain ⟨ao', cap', e', -, -, h3⟩ := HR.out
    simp only [Value.slice.injEq] at e'
    obtain ⟨rfl, -, -⟩ := e'
    rcases h3 with h3 | ⟨b, o, rfl, hb, hc⟩
    · rw [h3] at hf; simp at hf
    · exact ⟨b, o, rfl, hb, hc k hf⟩
  subst hao
  obtain ⟨a0, a1, a2, a3, a4, a5, a6⟩ := hc.below B1.out hb
  have HC : Hid (CellsN w b (oo + k * 7) (nAt ns k)) := hc
  have hvr : -1 ≤ (nAt ns k).ver ∧ (nAt ns k).ver ≤ 2147483647 := by
    have := HOK.out k hf
    unfold okNd okS at this
    simp only [Bool.and_eq_true, decide_eq_true_eq] at this
    omega
  generalize nAt ns k = m at *
  clear hc a0 a1 a3 a4 a5 a6
  obtain ⟨xl, c0, c1, c2, c3, c4⟩ := X1.out
  by_cases hv : o.ver ≠ -1 ∧ o.ver ≠ m.ver
  · rw [if_pos hv] at HD
    have hv1 : (o.ver != -1) = true := by simpa using hv.1
    have hv2 : (o.ver != m.ver) = true := by simpa using hv.2
    clear hv
    go_wp2
    go_quiet (fail)
    have BQ : Hid (Below w.heap.size w (w3.drewN nq)) := B1.out.trans ((below_drewN' w3 nq).mono B1.out.size)
    go_wp2
    exact bodyPost_ret (v := .tuple #[.int .i64 4, .slice (some ⟨b, oo, none⟩) ns.length ca, .string ⟨#[]⟩]) (by simp [results, Tryd.results146, go_sem]) rfl ⟨_, by rw [HD.out], by rw [HD.out]; exact HR.out.below BQ.out, .inl rfl, BQ.out⟩
  rw [if_neg hv] at HD
  have hcase : (o.ver != -1) = false ∨ ((o.ver != -1) = true ∧ (o.ver != m.ver) = false) := by
    by_cases e1 : o.ver = -1
    · exact .inl (by simp [e1])
    · by_cases e2 : o.ver = m.ver
      · exact .inr ⟨by simp [e1], by simp [e2]⟩
      · exact absurd ⟨e1, e2⟩ hv
  clear hv
  rcases hcase with hv1 | ⟨hv1, hv2⟩
  · go_wp2
    go_quiet (fail)
    have BQ : Hid (Below w.heap.size w (w3.drewN nq)) := B1.out.trans ((below_drewN' w3 nq).mono B1.out.size)
    have XQ : Hid (BoxO (w3.drewN nq) w.heap.size o) := X1.out.below (below_drewN' w3 nq)
    clear xl c0 c1 c2 c3 c4 a2
    generalize w3.drewN nq = wq at *
    obtain ⟨xl, c0, c1, c2, c3, c4⟩ := XQ.out
    obtain ⟨a0, a1, a2, a3, a4, a5, a6⟩ := HC.out.below BQ.out hb
    go_wp2_with fail
    refine (l3More_any _ m.ver hvr.1 hvr.2).mono ?_
    rintro e w9 ⟨rfl, rfl⟩
    go_wp2_with fail
    have ba : Below wq.heap.size wq (wq.alloc (.cells #[.string m.path, .string o.data, .int .i64 (mor m.ver), .int .i64 m.cver, .int .i64 m.cz, .int .i64 z, .int .i64 m.pz] 84)) := (Below.refl _ _).alloc (Nat.le_refl _) _
    have XA : Hid (BoxO (wq.alloc (.cells #[.string m.path, .string o.data, .int .i64 (mor m.ver), .int .i64 m.cver, .int .i64 m.cz, .int .i64 z, .int .i64 m.pz] 84)) w.heap.size o ∧ BoxN (wq.alloc (.cells #[.string m.path, .string o.data, .int .i64 (mor m.ver), .int .i64 m.cver, .int .i64 m.cz, .int .i64 z, .int .i64 m.pz] 84)) wq.heap.size ⟨m.path, o.data, mor m.ver, m.cver, m.cz, z, m.pz⟩) := ⟨XQ.out.below ba, BoxN.new wq ⟨m.path, o.data, mor m.ver, m.cver, m.cz, z, m.pz⟩ _⟩
    have BA : Hid (Below w.heap.size w (wq.alloc (.cells #[.string m.path, .string o.data, .int .i64 (mor m.ver), .int .i64 m.cver, .int .i64 m.cz, .int .i64 z, .int .i64 m.pz] 84))) := BQ.out.trans (ba.mono BQ.out.size)
    clear ba xl c0 c1 c2 c3 c4 a0 a1 a2 a3 a4 a5 a6 XQ BQ
    generalize wq.alloc (.cells #[.string m.path, .string o.data, .int .i64 (mor m.ver), .int .i64 m.cver, .int .i64 m.cz, .int .i64 z, .int .i64 m.pz] 84) = wn at *
    generalize wq.heap.size = Bn at *
    refine wp_region_held_drew (S := fun W => BoxO W w.heap.size o ∧ BoxN W Bn ⟨m.path, o.data, mor m.ver, m.cver, m.cz, z, m.pz⟩) (by kernel_rfl) (⟨XA.out.1.below (below_drewN' wn 1), XA.out.2.below (below_drewN' wn 1)⟩) (fun hHeld => ?_)
    have BD : Hid (Below w.heap.size w wn.drew) := BA.out.trans ((below_drewN' wn 1).mono BA.out.size)
    clear XA BA
    generalize wn.drew = G0 at *
    refine wpAnyH_take (i := 0) (oi := { dst := some 128, op := _, type := _, pos := _, after := _, guard := _ }) (v := (.slice (some ⟨b, oo, none⟩) ns.length ca)) rfl (by kernel_rfl) (by kernel_rfl) (by kernel_rfl) (fun _ _ _ h => h) (Or.inl ⟨by rfl, ?hy1⟩) (by assumption) ?rest1
    case hy1 =>
      intro w9 hS9
      go_simp
    try simp only [Act.put, List.setIfInBounds_toArray, List.set_cons_zero, List.set_cons_succ]
    refine wpAnyH_take (i := 1) (oi := { dst := some 129, op := _, type := _, pos := _, after := _, guard := _ }) (v := (.agg #[.string m.path, .string o.data, .int .i64 (mor m.ver), .int .i64 m.cver, .int .i64 m.cz, .int .i64 z, .int .i64 m.pz])) rfl (by kernel_rfl) (by kernel_rfl) (by kernel_rfl) (fun _ _ _ h => h) (Or.inl ⟨by rfl, ?hy2⟩) (by assumption) ?rest2
    case hy2 =>
      intro w9 hS9
      obtain ⟨zl, z0, z1, z2, z3, z4, z5, z6⟩ := hS9.2
      go_simp
    try simp only [Act.put, List.setIfInBounds_toArray, List.set_cons_zero, List.set_cons_succ]
    refine wpAnyH_take (i := 3) (oi := { dst := some 131, op := _, type := _, pos := _, after := _, guard := _ }) (v := (.pointer (some ⟨w.heap.size, 1, none⟩))) rfl (by kernel_rfl) (by kernel_rfl) (by kernel_rfl) (fun _ _ _ h => h) (Or.inl ⟨by rfl, ?hy3⟩) (by assumption) ?rest3
    case hy3 =>
      intro w9 hS9
      go_simp
    try simp only [Act.put, List.setIfInBounds_toArray, List.set_cons_zero, List.set_cons_succ]
    refine wpAnyH_take (i := 4) (oi := { dst := some 132, op := _, type := _, pos := _, after := _, guard := _ }) (v := (.string o.path)) rfl (by kernel_rfl) (by kernel_rfl) (by kernel_rfl) (fun _ _ _ h => h) (Or.inl ⟨by rfl, ?hy4⟩) (by assumption) ?rest4
    case hy4 =>
      intro w9 hS9
      have y1 := hS9.1.c1
      go_simp
    try simp only [Act.put, List.setIfInBounds_toArray, List.set_cons_zero, List.set_cons_succ]
    refine wpAnyH_ready (rs := [2]) (by kernel_rfl) (by simp) ?_
    refine AllReadyH.cons (o := { dst := some 130, op := _, type := _, pos := _, after := _, guard := _ }) rfl (fun K hK => ?_) AllReadyH.nil
    go_simp
    refine (with_any G0 _ ns ⟨m.path, o.data, mor m.ver, m.cver, m.cz, z, m.pz⟩ (HR.out.below BD.out) (by omega)).mono ?_
    rintro e G1 ⟨v7, rfl, o7, bA⟩
    obtain ⟨a7, k7, hv7⟩ := o7.slice
    subst hv7
    have A2 : _ ∧ _ := ⟨hHeld.1.below bA, hHeld.2.below bA⟩
    refine hK.out _ _ (A2) (fun hx9 => ?_)
    clear hK K hHeld hx9
    have hHeld := A2
    try simp only [Act.put, List.setIfInBounds_toArray, List.set_cons_zero, List.set_cons_succ]
    refine wpAnyH_take (i := 5) (oi := { dst := some 6, op := _, type := _, pos := _, after := _, guard := _ }) (v := (.int .i64 0)) rfl (by kernel_rfl) (by kernel_rfl) (by kernel_rfl) (fun _ _ _ h => h) (Or.inl ⟨by rfl, ?hy5⟩) (by assumption) ?rest5
    case hy5 =>
      intro w9 hS9
      go_simp
    try simp only [Act.put, List.setIfInBounds_toArray, List.set_cons_zero, List.set_cons_succ]
    refine wpAnyH_take (i := 6) (oi := { dst := some 7, op := _, type := _, pos := _, after := _, guard := _ }) (v := (.slice a7 (wiN ns ⟨m.path, o.data, mor m.ver, m.cver, m.cz, z, m.pz⟩).length k7)) rfl (by kernel_rfl) (by kernel_rfl) (by kernel_rfl) (fun _ _ _ h => h) (Or.inl ⟨by rfl, ?hy6⟩) (by assumption) ?rest6
    case hy6 =>
      intro w9 hS9
      go_simp
    try simp only [Act.put, List.setIfInBounds_toArray, List.set_cons_zero, List.set_cons_succ]
    refine wpAnyH_take (i := 7) (oi := { dst := some 8, op := _, type := _, pos := _, after := _, guard := _ }) (v := (.string o.path)) rfl (by kernel_rfl) (by kernel_rfl) (by kernel_rfl) (fun _ _ _ h => h) (Or.inl ⟨by rfl, ?hy7⟩) (by assumption) ?rest7
    case hy7 =>
      intro w9 hS9
      go_simp
    try simp only [Act.put, List.setIfInBounds_toArray, List.set_cons_zero, List.set_cons_succ]
    refine wpAnyH_done (by kernel_rfl) ?_ _
    clear hHeld
    have R7 : Hid (RdN G1 (.slice a7 (wiN ns ⟨m.path, o.data, mor m.ver, m.cver, m.cz, z, m.pz⟩).length k7) (wiN ns ⟨m.path, o.data, mor m.ver, m.cver, m.cz, z, m.pz⟩)) := o7.rd
    have BZ : Hid (Below w.heap.size w G1) := BD.out.trans (bA.mono BD.out.size)
    have F7 : Hid (New w (.slice a7 (wiN ns ⟨m.path, o.data, mor m.ver, m.cver, m.cz, z, m.pz⟩).length k7)) := OwnN.new9 o7 BD.out.size
    clear A2 o7 bA BD
    go_wp2
    exact bodyPost_ret (v := .tuple #[.int .i64 0, .slice a7 (wiN ns ⟨m.path, o.data, mor m.ver, m.cver, m.cz, z, m.pz⟩).length k7, .string o.path]) (by simp [results, Tryd.results146, go_sem]) rfl ⟨_, by rw [HD.out], by rw [HD.out]; exact R7.out, .inr F7.out, BZ.out⟩
  · go_wp2
    go_quiet (fail)
    have BQ : Hid (Below w.heap.size w (w3.drewN nq)) := B1.out.trans ((below_drewN' w3 nq).mono B1.out.size)
    have XQ : Hid (BoxO (w3.drewN nq) w.heap.size o) := X1.out.below (below_drewN' w3 nq)
    clear xl c0 c1 c2 c3 c4 a2
    generalize w3.drewN nq = wq at *
    obtain ⟨xl, c0, c1, c2, c3, c4⟩ := XQ.out
    obtain ⟨a0, a1, a2, a3, a4, a5, a6⟩ := HC.out.below BQ.out hb
    go_wp2_with fail
    refine (l3More_any _ m.ver hvr.1 hvr.2).mono ?_
    rintro e w9 ⟨rfl, rfl⟩
    go_wp2_with fail
    have ba : Below wq.heap.size wq (wq.alloc (.cells #[.string m.path, .string o.data, .int .i64 (mor m.ver), .int .i64 m.cver, .int .i64 m.cz, .int .i64 z, .int .i64 m.pz] 84)) := (Below.refl _ _).alloc (Nat.le_refl _) _
    have XA : Hid (BoxO (wq.alloc (.cells #[.string m.path, .string o.data, .int .i64 (mor m.ver), .int .i64 m.cver, .int .i64 m.cz, .int .i64 z, .int .i64 m.pz] 84)) w.heap.size o ∧ BoxN (wq.alloc (.cells #[.string m.path, .string o.data, .int .i64 (mor m.ver), .int .i64 m.cver, .int .i64 m.cz, .int .i64 z, .int .i64 m.pz] 84)) wq.heap.size ⟨m.path, o.data, mor m.ver, m.cver, m.cz, z, m.pz⟩) := ⟨XQ.out.below ba, BoxN.new wq ⟨m.path, o.data, mor m.ver, m.cver, m.cz, z, m.pz⟩ _⟩
    have BA : Hid (Below w.heap.size w (wq.alloc (.cells #[.string m.path, .string o.data, .int .i64 (mor m.ver), .int .i64 m.cver, .int .i64 m.cz, .int .i64 z, .int .i64 m.pz] 84))) := BQ.out.trans (ba.mono BQ.out.size)
    clear ba xl c0 c1 c2 c3 c4 a0 a1 a2 a3 a4 a5 a6 XQ BQ
    generalize wq.alloc (.cells #[.string m.path, .string o.data, .int .i64 (mor m.ver), .int .i64 m.cver, .int .i64 m.cz, .int .i64 z, .int .i64 m.pz] 84) = wn at *
    generalize wq.heap.size = Bn at *
    refine wp_region_held_drew (S := fun W => BoxO W w.heap.size o ∧ BoxN W Bn ⟨m.path, o.data, mor m.ver, m.cver, m.cz, z, m.pz⟩) (by kernel_rfl) (⟨XA.out.1.below (below_drewN' wn 1), XA.out.2.below (below_drewN' wn 1)⟩) (fun hHeld => ?_)
    have BD : Hid (Below w.heap.size w wn.drew) := BA.out.trans ((below_drewN' wn 1).mono BA.out.size)
    clear XA BA
    generalize wn.drew = G0 at *
    refine wpAnyH_take (i := 0) (oi := { dst := some 128, op := _, type := _, pos := _, after := _, guard := _ }) (v := (.slice (some ⟨b, oo, none⟩) ns.length ca)) rfl (by kernel_rfl) (by kernel_rfl) (by kernel_rfl) (fun _ _ _ h => h) (Or.inl ⟨by rfl, ?hyb1⟩) (by assumption) ?restb1
    case hyb1 =>
      intro w9 hS9
      go_simp
    try simp only [Act.put, List.setIfInBounds_toArray, List.set_cons_zero, List.set_cons_succ]
    refine wpAnyH_take (i := 1) (oi := { dst := some 129, op := _, type := _, pos := _, after := _, guard := _ }) (v := (.agg #[.string m.path, .string o.data, .int .i64 (mor m.ver), .int .i64 m.cver, .int .i64 m.cz, .int .i64 z, .int .i64 m.pz])) rfl (by kernel_rfl) (by kernel_rfl) (by kernel_rfl) (fun _ _ _ h => h) (Or.inl ⟨by rfl, ?hyb2⟩) (by assumption) ?restb2
    case hyb2 =>
      intro w9 hS9
      obtain ⟨zl, z0, z1, z2, z3, z4, z5, z6⟩ := hS9.2
      go_simp
    try simp only [Act.put, List.setIfInBounds_toArray, List.set_cons_zero, List.set_cons_succ]
    refine wpAnyH_take (i := 3) (oi := { dst := some 131, op := _, type := _, pos := _, after := _, guard := _ }) (v := (.pointer (some ⟨w.heap.size, 1, none⟩))) rfl (by kernel_rfl) (by kernel_rfl) (by kernel_rfl) (fun _ _ _ h => h) (Or.inl ⟨by rfl, ?hyb3⟩) (by assumption) ?restb3
    case hyb3 =>
      intro w9 hS9
      go_simp
    try simp only [Act.put, List.setIfInBounds_toArray, List.set_cons_zero, List.set_cons_succ]
    refine wpAnyH_take (i := 4) (oi := { dst := some 132, op := _, type := _, pos := _, after := _, guard := _ }) (v := (.string o.path)) rfl (by kernel_rfl) (by kernel_rfl) (by kernel_rfl) (fun _ _ _ h => h) (Or.inl ⟨by rfl, ?hyb4⟩) (by assumption) ?restb4
    case hyb4 =>
      intro w9 hS9
      have y1 := hS9.1.c1
      go_simp
    try simp only [Act.put, List.setIfInBounds_toArray, List.set_cons_zero, List.set_cons_succ]
    refine wpAnyH_ready (rs := [2]) (by kernel_rfl) (by simp) ?_
    refine AllReadyH.cons (o := { dst := some 130, op := _, type := _, pos := _, after := _, guard := _ }) rfl (fun K hK => ?_) AllReadyH.nil
    go_simp
    refine (with_any G0 _ ns ⟨m.path, o.data, mor m.ver, m.cver, m.cz, z, m.pz⟩ (HR.out.below BD.out) (by omega)).mono ?_
    rintro e G1 ⟨v7, rfl, o7, bA⟩
    obtain ⟨a7, k7, hv7⟩ := o7.slice
    subst hv7
    have A2 : _ ∧ _ := ⟨hHeld.1.below bA, hHeld.2.below bA⟩
    refine hK.out _ _ (A2) (fun hx9 => ?_)
    clear hK K hHeld hx9
    have hHeld := A2
    try simp only [Act.put, List.setIfInBounds_toArray, List.set_cons_zero, List.set_cons_succ]
    refine wpAnyH_take (i := 5) (oi := { dst := some 6, op := _, type := _, pos := _, after := _, guard := _ }) (v := (.int .i64 0)) rfl (by kernel_rfl) (by kernel_rfl) (by kernel_rfl) (fun _ _ _ h => h) (Or.inl ⟨by rfl, ?hyb5⟩) (by assumption) ?restb5
    case hyb5 =>
      intro w9 hS9
      go_simp
    try simp only [Act.put, List.setIfInBounds_toArray, List.set_cons_zero, List.set_cons_succ]
    refine wpAnyH_take (i := 6) (oi := { dst := some 7, op := _, type := _, pos := _, after := _, guard := _ }) (v := (.slice a7 (wiN ns ⟨m.path, o.data, mor m.ver, m.cver, m.cz, z, m.pz⟩).length k7)) rfl (by kernel_rfl) (by kernel_rfl) (by kernel_rfl) (fun _ _ _ h => h) (Or.inl ⟨by rfl, ?hyb6⟩) (by assumption) ?restb6
    case hyb6 =>
      intro w9 hS9
      go_simp
    try simp only [Act.put, List.setIfInBounds_toArray, List.set_cons_zero, List.set_cons_succ]
    refine wpAnyH_take (i := 7) (oi := { dst := some 8, op := _, type := _, pos := _, after := _, guard := _ }) (v := (.string o.path)) rfl (by kernel_rfl) (by kernel_rfl) (by kernel_rfl) (fun _ _ _ h => h) (Or.inl ⟨by rfl, ?hyb7⟩) (by assumption) ?restb7
    case hyb7 =>
      intro w9 hS9
      go_simp
    try simp only [Act.put, List.setIfInBounds_toArray, List.set_cons_zero, List.set_cons_succ]
    refine wpAnyH_done (by kernel_rfl) ?_ _
    clear hHeld
    have R7 : Hid (RdN G1 (.slice a7 (wiN ns ⟨m.path, o.data, mor m.ver, m.cver, m.cz, z, m.pz⟩).length k7) (wiN ns ⟨m.path, o.data, mor m.ver, m.cver, m.cz, z, m.pz⟩)) := o7.rd
    have BZ : Hid (Below w.heap.size w G1) := BD.out.trans (bA.mono BD.out.size)
    have F7 : Hid (New w (.slice a7 (wiN ns ⟨m.path, o.data, mor m.ver, m.cver, m.cz, z, m.pz⟩).length k7)) := OwnN.new9 o7 BD.out.size
    clear A2 o7 bA BD
    go_wp2
    exact bodyPost_ret (v := .tuple #[.int .i64 0, .slice a7 (wiN ns ⟨m.path, o.data, mor m.ver, m.cver, m.cz, z, m.pz⟩).length k7, .string o.path]) (by simp [results, Tryd.results146, go_sem]) rfl ⟨_, by rw [HD.out], by rw [HD.out]; exact R7.out, .inr F7.out, BZ.out⟩

end Go.Proofs.YtcopcegamadkgaaDoor

namespace Go.Proofs.YtcopcegamadkgaaDoor
open Go.RowKit Go.Shelf

set_option maxHeartbeats 2000000 in
set_option maxRecDepth 100000 in
theorem l3Do_delete (w : World) (v : Value) (ns : List Nd) (o : Op5) (z : Int) (h : RdN w v ns) (hn : ns.length ≤ 1000) (hok : ∀ k, k < ns.length → okNd (nAt ns k) = true) (hp : o.path.size ≤ 1048576) (hd : o.data.size ≤ 1048576) (hw : wfO o = true) (hk : o.kind = 2) :
    Calls Tryd.prog 146 #[v, .agg #[.int .i64 o.kind, .string o.path, .string o.data, .int .i64 o.ver, .bool o.seq], .int .i64 z] w fun e w' => DoPost w v ns o z e w' := by
  obtain ⟨ao, ca, rfl, _, _⟩ := h.len
  have HR : Hid (RdN w (.slice ao ns.length ca) ns) := h
  have HW : Hid (wfO o = true) := hw
  have hk1 : (o.kind == 1) = false := by simp [hk]
  have hk2 : (o.kind == 2) = true := by simp [hk]
  have HOK : Hid (∀ k, k < ns.length → okNd (nAt ns k) = true) := hok
  have HPK : Hid (okPath o.path = true) := (wfO_path hw).1
  have HD : Hid (doO ns o z = if ¬ ns.findIdx (isP o.path) < ns.length then (2, ns, ⟨#[]⟩)
    else if o.ver ≠ -1 ∧ o.ver ≠ (nAt ns (ns.findIdx (isP o.path))).ver then (4, ns, ⟨#[]⟩)
    else if 0 < (chN ns o.path).length then (5, ns, ⟨#[]⟩) else (0, toN (woN ns o.path) (parB o.path) z, o.path)) := by
    show _ = _
    unfold doO
    rw [hw, if_neg (by simp), if_neg (show ¬ o.kind = 1 by omega), if_pos hk]
  have B0 : Hid (Below w.heap.size w (w.alloc (.cells #[.int .i64 o.kind, .string o.path, .string o.data, .int .i64 o.ver, .bool o.seq] 176))) := (Below.refl _ _).alloc (Nat.le_refl _) _
  have X0 : Hid (BoxO (w.alloc (.cells #[.int .i64 o.kind, .string o.path, .string o.data, .int .i64 o.ver, .bool o.seq] 176)) w.heap.size o) := BoxO.new _ _ _
  clear h hw hk hok
  go_enter Tryd.func146, Tryd.ntmps146
  go_wp2_with fail
  generalize w.alloc (.cells #[.int .i64 o.kind, .string o.path, .string o.data, .int .i64 o.ver, .bool o.seq] 176) = w0 at *
  refine (l3Well_any _ o hp hd).mono ?_
  rintro e w1 ⟨rfl, b1⟩
  rw [HW.out]
  have B1 : Hid (Below w.heap.size w w1) := B0.out.trans (b1.mono B0.out.size)
  have X1 : Hid (BoxO w1 w.heap.size o) := X0.out.below b1
  clear b1 B0 X0
  obtain ⟨xl, c0, c1, c2, c3, c4⟩ := X1.out
  go_wp2_with fail
  clear xl c0 c1 c2 c3 c4
  refine (l3Find_any w1 _ ns o.path (HR.out.below B1.out) (by omega)).mono ?_
  rintro e w3 ⟨rfl, rfl⟩
  by_cases hf : ns.findIdx (isP o.path) < ns.length
  rotate_left
  · rw [if_pos hf] at HD
    rw [show fdV ns o.path = -1 by unfold fdV; rw [if_neg hf]]
    clear hf
    go_wp2
    exact bodyPost_ret (v := .tuple #[.int .i64 2, .slice ao ns.length ca, .string ⟨#[]⟩]) (by simp [results, Tryd.results146, go_sem]) rfl ⟨_, by rw [HD.out], by rw [HD.out]; exact HR.out.below B1.out, .inl rfl, B1.out⟩
  rw [if_neg (by simpa using hf)] at HD
  rw [show fdV ns o.path = ((ns.findIdx (isP o.path) : Nat) : Int) by unfold fdV; rw [if_pos hf]]
  generalize ns.findIdx (isP o.path) = k at *
  have hI : ¬ (k : Int) < 0 := by omega
  have hkI : (k : Int) < (ns.length : Int) := by omega
  obtain ⟨b, oo, hao, hb, hc⟩ : ∃ b o, ao = some ⟨b, o, none⟩ ∧ b < w.heap.size ∧ CellsN w b (o + k * 7) (nAt ns k) := by
    obtain ⟨ao', cap', e', -, -, h3⟩ := HR.out
    simp only [Value.slice.injEq] at e'
    obtain ⟨rfl, -, -⟩ := e'
    rcases h3 with h3 | ⟨b, o, rfl, hb, hc⟩
    · rw [h3] at hf; simp at hf
    · exact ⟨b, o, rfl, hb, hc k hf⟩
  subst hao
  obtain ⟨a0, a1, a2, a3, a4, a5, a6⟩ := hc.below B1.out hb
  generalize nAt ns k = m at *
  clear hc a0 a1 a3 a4 a5 a6
  obtain ⟨xl, c0, c1, c2, c3, c4⟩ := X1.out
  by_cases hv : o.ver ≠ -1 ∧ o.ver ≠ m.ver
  · rw [if_pos hv] at HD
    have hv1 : (o.ver != -1) = true := by simpa using hv.1
    have hv2 : (o.ver != m.ver) = true := by simpa using hv.2
    clear hv
    go_wp2
    go_quiet (fail)
    have BQ : Hid (Below w.heap.size w (w3.drewN nq)) := B1.out.trans ((below_drewN' w3 nq).mono B1.out.size)
    go_wp2
    exact bodyPost_ret (v := .tuple #[.int .i64 4, .slice (some ⟨b, oo, none⟩) ns.length ca, .string ⟨#[]⟩]) (by simp [results, Tryd.results146, go_sem]) rfl ⟨_, by rw [HD.out], by rw [HD.out]; exact HR.out.below BQ.out, .inl rfl, BQ.out⟩
  rw [if_neg hv] at HD
  have hcase : (o.ver != -1) = false ∨ ((o.ver != -1) = true ∧ (o.ver != m.ver) = false) := by
    by_cases e1 : o.ver = -1
    · exact .inl (by simp [e1])
    · by_cases e2 : o.ver = m.ver
      · exact .inr ⟨by simp [e1], by simp [e2]⟩
      · exact absurd ⟨e1, e2⟩ hv
  clear hv
  rcases hcase with hv1 | ⟨hv1, hv2⟩
  · go_wp2
    go_quiet (fail)
    have BQ : Hid (Below w.heap.size w (w3.drewN nq)) := B1.out.trans ((below_drewN' w3 nq).mono B1.out.size)
    have XQ : Hid (BoxO (w3.drewN nq) w.heap.size o) := X1.out.below (below_drewN' w3 nq)
    clear xl c0 c1 c2 c3 c4 a2
    generalize w3.drewN nq = wq at *
    obtain ⟨xl, c0, c1, c2, c3, c4⟩ := XQ.out
    go_wp2_with fail
    refine (l3Below_any wq _ ns o.path (HR.out.below BQ.out) hn HOK.out).mono ?_
    rintro e w9 ⟨v9, rfl, o9, b9⟩
    obtain ⟨a9, k9, hv9⟩ := o9.slice
    subst hv9
    have B9 : Hid (Below w.heap.size w w9) := BQ.out.trans (b9.mono BQ.out.size)
    have X9 : Hid (BoxO w9 w.heap.size o) := XQ.out.below b9
    clear b9 o9 BQ XQ xl c0 c1 c2 c3 c4
    by_cases hch : 0 < (chN ns o.path).length
    · rw [if_pos hch] at HD
      have hchI : (0 : Int) < ((chN ns o.path).length : Int) := by omega
      go_wp2
      exact bodyPost_ret (v := .tuple #[.int .i64 5, .slice (some ⟨b, oo, none⟩) ns.length ca, .string ⟨#[]⟩]) (by simp [results, Tryd.results146, go_sem]) rfl ⟨_, by rw [HD.out], by rw [HD.out]; exact HR.out.below B9.out, .inl rfl, B9.out⟩
    rw [if_neg hch] at HD
    have hchI : ¬ (0 : Int) < ((chN ns o.path).length : Int) := by omega
    go_wp2_with fail
    refine wp_region_held_drew (S := fun W => BoxO W w.heap.size o) (by kernel_rfl) (X9.out.below (below_drewN' w9 1)) (fun hHeld => ?_)
    have BD : Hid (Below w.heap.size w w9.drew) := B9.out.trans ((below_drewN' w9 1).mono B9.out.size)
    clear X9 B9
    generalize w9.drew = G0 at *
    refine wpAnyH_take (i := 0) (oi := { dst := some 101, op := _, type := _, pos := _, after := _, guard := _ }) (v := (.slice (some ⟨b, oo, none⟩) ns.length ca)) rfl (by kernel_rfl) (by kernel_rfl) (by kernel_rfl) (fun _ _ _ h => h) (Or.inl ⟨by rfl, ?hy1⟩) (by assumption) ?rest1
    case hy1 =>
      intro w9 hS9
      go_simp
    try simp only [Act.put, List.setIfInBounds_toArray, List.set_cons_zero, List.set_cons_succ]
    refine wpAnyH_take (i := 1) (oi := { dst := some 102, op := _, type := _, pos := _, after := _, guard := _ }) (v := (.pointer (some ⟨w.heap.size, 1, none⟩))) rfl (by kernel_rfl) (by kernel_rfl) (by kernel_rfl) (fun _ _ _ h => h) (Or.inl ⟨by rfl, ?hy2⟩) (by assumption) ?rest2
    case hy2 =>
      intro w9 hS9
      go_simp
    try simp only [Act.put, List.setIfInBounds_toArray, List.set_cons_zero, List.set_cons_succ]
    refine wpAnyH_take (i := 2) (oi := { dst := some 103, op := _, type := _, pos := _, after := _, guard := _ }) (v := (.string o.path)) rfl (by kernel_rfl) (by kernel_rfl) (by kernel_rfl) (fun _ _ _ h => h) (Or.inl ⟨by rfl, ?hy3⟩) (by assumption) ?rest3
    case hy3 =>
      intro w9 hS9
      have y1 := hS9.c1
      go_simp
    try simp only [Act.put, List.setIfInBounds_toArray, List.set_cons_zero, List.set_cons_succ]
    refine wpAnyH_take (i := 4) (oi := { dst := some 105, op := _, type := _, pos := _, after := _, guard := _ }) (v := (.pointer (some ⟨w.heap.size, 1, none⟩))) rfl (by kernel_rfl) (by kernel_rfl) (by kernel_rfl) (fun _ _ _ h => h) (Or.inl ⟨by rfl, ?hy4⟩) (by assumption) ?rest4
    case hy4 =>
      intro w9 hS9
      go_simp
    try simp only [Act.put, List.setIfInBounds_toArray, List.set_cons_zero, List.set_cons_succ]
    refine wpAnyH_take (i := 5) (oi := { dst := some 106, op := _, type := _, pos := _, after := _, guard := _ }) (v := (.string o.path)) rfl (by kernel_rfl) (by kernel_rfl) (by kernel_rfl) (fun _ _ _ h => h) (Or.inl ⟨by rfl, ?hy5⟩) (by assumption) ?rest5
    case hy5 =>
      intro w9 hS9
      have y1 := hS9.c1
      go_simp
    try simp only [Act.put, List.setIfInBounds_toArray, List.set_cons_zero, List.set_cons_succ]
    refine wpAnyH_take (i := 7) (oi := { dst := some 108, op := _, type := _, pos := _, after := _, guard := _ }) (v := (.int .i64 z)) rfl (by kernel_rfl) (by kernel_rfl) (by kernel_rfl) (fun _ _ _ h => h) (Or.inl ⟨by rfl, ?hy6⟩) (by assumption) ?rest6
    case hy6 =>
      intro w9 hS9
      go_simp
    try simp only [Act.put, List.setIfInBounds_toArray, List.set_cons_zero, List.set_cons_succ]
    refine wpAnyH_take (i := 9) (oi := { dst := some 110, op := _, type := _, pos := _, after := _, guard := _ }) (v := (.pointer (some ⟨w.heap.size, 1, none⟩))) rfl (by kernel_rfl) (by kernel_rfl) (by kernel_rfl) (fun _ _ _ h => h) (Or.inl ⟨by rfl, ?hy7⟩) (by assumption) ?rest7
    case hy7 =>
      intro w9 hS9
      go_simp
    try simp only [Act.put, List.setIfInBounds_toArray, List.set_cons_zero, List.set_cons_succ]
    refine wpAnyH_take (i := 10) (oi := { dst := some 111, op := _, type := _, pos := _, after := _, guard := _ }) (v := (.string o.path)) rfl (by kernel_rfl) (by kernel_rfl) (by kernel_rfl) (fun _ _ _ h => h) (Or.inl ⟨by rfl, ?hy8⟩) (by assumption) ?rest8
    case hy8 =>
      intro w9 hS9
      have y1 := hS9.c1
      go_simp
    try simp only [Act.put, List.setIfInBounds_toArray, List.set_cons_zero, List.set_cons_succ]
    refine wpAnyH_ready (rs := [3]) (by kernel_rfl) (by simp) ?_
    refine AllReadyH.cons (o := { dst := some 104, op := _, type := _, pos := _, after := _, guard := _ }) rfl (fun K hK => ?_) AllReadyH.nil
    go_simp
    refine (without_any G0 _ ns o.path (HR.out.below BD.out) (by omega)).mono ?_
    rintro e G1 ⟨v7, rfl, o7, bA⟩
    obtain ⟨a7, k7, hv7⟩ := o7.slice
    subst hv7
    have R7 := o7.rd
    have F7 : New w (.slice a7 (woN ns o.path).length k7) := OwnN.new9 o7 BD.out.size
    have A2 := BoxO.below hHeld bA
    have BE : Hid (Below w.heap.size w G1) := BD.out.trans (bA.mono BD.out.size)
    clear o7 bA
    refine hK.out _ _ (A2) (fun hx9 => ?_)
    clear hK K hHeld hx9
    have hHeld := A2
    try simp only [Act.put, List.setIfInBounds_toArray, List.set_cons_zero, List.set_cons_succ]
    refine wpAnyH_ready (rs := [6]) (by kernel_rfl) (by simp) ?_
    refine AllReadyH.cons (o := { dst := some 107, op := _, type := _, pos := _, after := _, guard := _ }) rfl (fun K hK => ?_) AllReadyH.nil
    go_simp
    refine (l3Parent_any G1 o.path HPK.out).mono ?_
    rintro e G2 ⟨rfl, bA⟩
    have A3 := A2.below bA
    replace R7 := R7.below bA
    have BF : Hid (Below w.heap.size w G2) := BE.out.trans (bA.mono BE.out.size)
    clear bA
    refine hK.out _ _ (A3) (fun hx9 => ?_)
    clear hK K hHeld hx9
    have hHeld := A3
    try simp only [Act.put, List.setIfInBounds_toArray, List.set_cons_zero, List.set_cons_succ]
    refine wpAnyH_ready (rs := [8]) (by kernel_rfl) (by simp) ?_
    refine AllReadyH.cons (o := { dst := some 109, op := _, type := _, pos := _, after := _, guard := _ }) rfl (fun K hK => ?_) AllReadyH.nil
    go_simp
    refine (l3Touch_any G2 _ (woN ns o.path) (parB o.path) z R7 (by have := woN_len ns o.path; omega) (cv_at (fun m hm => cv_of HOK.out m (List.mem_filter.1 hm).1))).mono ?_
    rintro e G3 ⟨v8, rfl, r8, f8, bA⟩
    obtain ⟨a8, k8, hv8, -, -⟩ := r8.len
    subst hv8
    have A4 := A3.below bA
    have BG : Hid (Below w.heap.size w G3) := BF.out.trans (bA.mono BF.out.size)
    clear bA
    refine hK.out _ _ (A4) (fun hx9 => ?_)
    clear hK K hHeld hx9
    have hHeld := A4
    try simp only [Act.put, List.setIfInBounds_toArray, List.set_cons_zero, List.set_cons_succ]
    refine wpAnyH_take (i := 11) (oi := { dst := some 6, op := _, type := _, pos := _, after := _, guard := _ }) (v := (.int .i64 0)) rfl (by kernel_rfl) (by kernel_rfl) (by kernel_rfl) (fun _ _ _ h => h) (Or.inl ⟨by rfl, ?hy9⟩) (by assumption) ?rest9
    case hy9 =>
      intro w9 hS9
      go_simp
    try simp only [Act.put, List.setIfInBounds_toArray, List.set_cons_zero, List.set_cons_succ]
    refine wpAnyH_take (i := 12) (oi := { dst := some 7, op := _, type := _, pos := _, after := _, guard := _ }) (v := (.slice a8 (toN (woN ns o.path) (parB o.path) z).length k8)) rfl (by kernel_rfl) (by kernel_rfl) (by kernel_rfl) (fun _ _ _ h => h) (Or.inl ⟨by rfl, ?hy10⟩) (by assumption) ?rest10
    case hy10 =>
      intro w9 hS9
      go_simp
    try simp only [Act.put, List.setIfInBounds_toArray, List.set_cons_zero, List.set_cons_succ]
    refine wpAnyH_take (i := 13) (oi := { dst := some 8, op := _, type := _, pos := _, after := _, guard := _ }) (v := (.string o.path)) rfl (by kernel_rfl) (by kernel_rfl) (by kernel_rfl) (fun _ _ _ h => h) (Or.inl ⟨by rfl, ?hy11⟩) (by assumption) ?rest11
    case hy11 =>
      intro w9 hS9
      go_simp
    try simp only [Act.put, List.setIfInBounds_toArray, List.set_cons_zero, List.set_cons_succ]
    refine wpAnyH_done (by kernel_rfl) ?_ _
    clear hHeld
    have R8 : Hid (RdN G3 (.slice a8 (toN (woN ns o.path) (parB o.path) z).length k8) (toN (woN ns o.path) (parB o.path) z)) := r8
    have F8 : Hid (New w (.slice a8 (toN (woN ns o.path) (parB o.path) z).length k8)) := f8.new F7 BF.out.size
    clear A2 A3 A4 R7 F7 f8 r8 BD BE BF
    go_wp2
    exact bodyPost_ret (v := .tuple #[.int .i64 0, .slice a8 (toN (woN ns o.path) (parB o.path) z).length k8, .string o.path]) (by simp [results, Tryd.results146, go_sem]) rfl ⟨_, by rw [HD.out], by rw [HD.out]; exact R8.out, .inr F8.out, BG.out⟩
  · go_wp2
    go_quiet (fail)
    have BQ : Hid (Below w.heap.size w (w3.drewN nq)) := B1.out.trans ((below_drewN' w3 nq).mono B1.out.size)
    have XQ : Hid (BoxO (w3.drewN nq) w.heap.size o) := X1.out.below (below_drewN' w3 nq)
    clear xl c0 c1 c2 c3 c4 a2
    generalize w3.drewN nq = wq at *
    obtain ⟨xl, c0, c1, c2, c3, c4⟩ := XQ.out
    go_wp2_with fail
    refine (l3Below_any wq _ ns o.path (HR.out.below BQ.out) hn HOK.out).mono ?_
    rintro e w9 ⟨v9, rfl, o9, b9⟩
    obtain ⟨a9, k9, hv9⟩ := o9.slice
    subst hv9
    have B9 : Hid (Below w.heap.size w w9) := BQ.out.trans (b9.mono BQ.out.size)
    have X9 : Hid (BoxO w9 w.heap.size o) := XQ.out.below b9
    clear b9 o9 BQ XQ xl c0 c1 c2 c3 c4
    by_cases hch : 0 < (chN ns o.path).length
    · rw [if_pos hch] at HD
      have hchI : (0 : Int) < ((chN ns o.path).length : Int) := by omega
      go_wp2
      exact bodyPost_ret (v := .tuple #[.int .i64 5, .slice (some ⟨b, oo, none⟩) ns.length ca, .string ⟨#[]⟩]) (by simp [results, Tryd.results146, go_sem]) rfl ⟨_, by rw [HD.out], by rw [HD.out]; exact HR.out.below B9.out, .inl rfl, B9.out⟩
    rw [if_neg hch] at HD
    have hchI : ¬ (0 : Int) < ((chN ns o.path).length : Int) := by omega
    go_wp2_with fail
    refine wp_region_held_drew (S := fun W => BoxO W w.heap.size o) (by kernel_rfl) (X9.out.below (below_drewN' w9 1)) (fun hHeld => ?_)
    have BD : Hid (Below w.heap.size w w9.drew) := B9.out.trans ((below_drewN' w9 1).mono B9.out.size)
    clear X9 B9
    generalize w9.drew = G0 at *
    refine wpAnyH_take (i := 0) (oi := { dst := some 101, op := _, type := _, pos := _, after := _, guard := _ }) (v := (.slice (some ⟨b, oo, none⟩) ns.length ca)) rfl (by kernel_rfl) (by kernel_rfl) (by kernel_rfl) (fun _ _ _ h => h) (Or.inl ⟨by rfl, ?hyb1⟩) (by assumption) ?restb1
    case hyb1 =>
      intro w9 hS9
      go_simp
    try simp only [Act.put, List.setIfInBounds_toArray, List.set_cons_zero, List.set_cons_succ]
    refine wpAnyH_take (i := 1) (oi := { dst := some 102, op := _, type := _, pos := _, after := _, guard := _ }) (v := (.pointer (some ⟨w.heap.size, 1, none⟩))) rfl (by kernel_rfl) (by kernel_rfl) (by kernel_rfl) (fun _ _ _ h => h) (Or.inl ⟨by rfl, ?hyb2⟩) (by assumption) ?restb2
    case hyb2 =>
      intro w9 hS9
      go_simp
    try simp only [Act.put, List.setIfInBounds_toArray, List.set_cons_zero, List.set_cons_succ]
    refine wpAnyH_take (i := 2) (oi := { dst := some 103, op := _, type := _, pos := _, after := _, guard := _ }) (v := (.string o.path)) rfl (by kernel_rfl) (by kernel_rfl) (by kernel_rfl) (fun _ _ _ h => h) (Or.inl ⟨by rfl, ?hyb3⟩) (by assumption) ?restb3
    case hyb3 =>
      intro w9 hS9
      have y1 := hS9.c1
      go_simp
    try simp only [Act.put, List.setIfInBounds_toArray, List.set_cons_zero, List.set_cons_succ]
    refine wpAnyH_take (i := 4) (oi := { dst := some 105, op := _, type := _, pos := _, after := _, guard := _ }) (v := (.pointer (some ⟨w.heap.size, 1, none⟩))) rfl (by kernel_rfl) (by kernel_rfl) (by kernel_rfl) (fun _ _ _ h => h) (Or.inl ⟨by rfl, ?hyb4⟩) (by assumption) ?restb4
    case hyb4 =>
      intro w9 hS9
      go_simp
    try simp only [Act.put, List.setIfInBounds_toArray, List.set_cons_zero, List.set_cons_succ]
    refine wpAnyH_take (i := 5) (oi := { dst := some 106, op := _, type := _, pos := _, after := _, guard := _ }) (v := (.string o.path)) rfl (by kernel_rfl) (by kernel_rfl) (by kernel_rfl) (fun _ _ _ h => h) (Or.inl ⟨by rfl, ?hyb5⟩) (by assumption) ?restb5
    case hyb5 =>
      intro w9 hS9
      have y1 := hS9.c1
      go_simp
    try simp only [Act.put, List.setIfInBounds_toArray, List.set_cons_zero, List.set_cons_succ]
    refine wpAnyH_take (i := 7) (oi := { dst := some 108, op := _, type := _, pos := _, after := _, guard := _ }) (v := (.int .i64 z)) rfl (by kernel_rfl) (by kernel_rfl) (by kernel_rfl) (fun _ _ _ h => h) (Or.inl ⟨by rfl, ?hyb6⟩) (by assumption) ?restb6
    case hyb6 =>
      intro w9 hS9
      go_simp
    try simp only [Act.put, List.setIfInBounds_toArray, List.set_cons_zero, List.set_cons_succ]
    refine wpAnyH_take (i := 9) (oi := { dst := some 110, op := _, type := _, pos := _, after := _, guard := _ }) (v := (.pointer (some ⟨w.heap.size, 1, none⟩))) rfl (by kernel_rfl) (by kernel_rfl) (by kernel_rfl) (fun _ _ _ h => h) (Or.inl ⟨by rfl, ?hyb7⟩) (by assumption) ?restb7
    case hyb7 =>
      intro w9 hS9
      go_simp
    try simp only [Act.put, List.setIfInBounds_toArray, List.set_cons_zero, List.set_cons_succ]
    refine wpAnyH_take (i := 10) (oi := { dst := some 111, op := _, type := _, pos := _, after := _, guard := _ }) (v := (.string o.path)) rfl (by kernel_rfl) (by kernel_rfl) (by kernel_rfl) (fun _ _ _ h => h) (Or.inl ⟨by rfl, ?hyb8⟩) (by assumption) ?restb8
    case hyb8 =>
      intro w9 hS9
      have y1 := hS9.c1
      go_simp
    try simp only [Act.put, List.setIfInBounds_toArray, List.set_cons_zero, List.set_cons_succ]
    refine wpAnyH_ready (rs := [3]) (by kernel_rfl) (by simp) ?_
    refine AllReadyH.cons (o := { dst := some 104, op := _, type := _, pos := _, after := _, guard := _ }) rfl (fun K hK => ?_) AllReadyH.nil
    go_simp
    refine (without_any G0 _ ns o.path (HR.out.below BD.out) (by omega)).mono ?_
    rintro e G1 ⟨v7, rfl, o7, bA⟩
    obtain ⟨a7, k7, hv7⟩ := o7.slice
    subst hv7
    have R7 := o7.rd
    have F7 : New w (.slice a7 (woN ns o.path).length k7) := OwnN.new9 o7 BD.out.size
    have A2 := BoxO.below hHeld bA
    have BE : Hid (Below w.heap.size w G1) := BD.out.trans (bA.mono BD.out.size)
    clear o7 bA
    refine hK.out _ _ (A2) (fun hx9 => ?_)
    clear hK K hHeld hx9
    have hHeld := A2
    try simp only [Act.put, List.setIfInBounds_toArray, List.set_cons_zero, List.set_cons_succ]
    refine wpAnyH_ready (rs := [6]) (by kernel_rfl) (by simp) ?_
    refine AllReadyH.cons (o := { dst := some 107, op := _, type := _, pos := _, after := _, guard := _ }) rfl (fun K hK => ?_) AllReadyH.nil
    go_simp
    refine (l3Parent_any G1 o.path HPK.out).mono ?_
    rintro e G2 ⟨rfl, bA⟩
    have A3 := A2.below bA
    replace R7 := R7.below bA
    have BF : Hid (Below w.heap.size w G2) := BE.out.trans (bA.mono BE.out.size)
    clear bA
    refine hK.out _ _ (A3) (fun hx9 => ?_)
    clear hK K hHeld hx9
    have hHeld := A3
    try simp only [Act.put, List.setIfInBounds_toArray, List.set_cons_zero, List.set_cons_succ]
    refine wpAnyH_ready (rs := [8]) (by kernel_rfl) (by simp) ?_
    refine AllReadyH.cons (o := { dst := some 109, op := _, type := _, pos := _, after := _, guard := _ }) rfl (fun K hK => ?_) AllReadyH.nil
    go_simp
    refine (l3Touch_any G2 _ (woN ns o.path) (parB o.path) z R7 (by have := woN_len ns o.path; omega) (cv_at (fun m hm => cv_of HOK.out m (List.mem_filter.1 hm).1))).mono ?_
    rintro e G3 ⟨v8, rfl, r8, f8, bA⟩
    obtain ⟨a8, k8, hv8, -, -⟩ := r8.len
    subst hv8
    have A4 := A3.below bA
    have BG : Hid (Below w.heap.size w G3) := BF.out.trans (bA.mono BF.out.size)
    clear bA
    refine hK.out _ _ (A4) (fun hx9 => ?_)
    clear hK K hHeld hx9
    have hHeld := A4
    try simp only [Act.put, List.setIfInBounds_toArray, List.set_cons_zero, List.set_cons_succ]
    refine wpAnyH_take (i := 11) (oi := { dst := some 6, op := _, type := _, pos := _, after := _, guard := _ }) (v := (.int .i64 0)) rfl (by kernel_rfl) (by kernel_rfl) (by kernel_rfl) (fun _ _ _ h => h) (Or.inl ⟨by rfl, ?hyb9⟩) (by assumption) ?restb9
    case hyb9 =>
      intro w9 hS9
      go_simp
    try simp only [Act.put, List.setIfInBounds_toArray, List.set_cons_zero, List.set_cons_succ]
    refine wpAnyH_take (i := 12) (oi := { dst := some 7, op := _, type := _, pos := _, after := _, guard := _ }) (v := (.slice a8 (toN (woN ns o.path) (parB o.path) z).length k8)) rfl (by kernel_rfl) (by kernel_rfl) (by kernel_rfl) (fun _ _ _ h => h) (Or.inl ⟨by rfl, ?hyb10⟩) (by assumption) ?restb10
    case hyb10 =>
      intro w9 hS9
      go_simp
    try simp only [Act.put, List.setIfInBounds_toArray, List.set_cons_zero, List.set_cons_succ]
    refine wpAnyH_take (i := 13) (oi := { dst := some 8, op := _, type := _, pos := _, after := _, guard := _ }) (v := (.string o.path)) rfl (by kernel_rfl) (by kernel_rfl) (by kernel_rfl) (fun _ _ _ h => h) (Or.inl ⟨by rfl, ?hyb11⟩) (by assumption) ?restb11
    case hyb11 =>
      intro w9 hS9
      go_simp
    try simp only [Act.put, List.setIfInBounds_toArray, List.set_cons_zero, List.set_cons_succ]
    refine wpAnyH_done (by kernel_rfl) ?_ _
    clear hHeld
    have R8 : Hid (RdN G3 (.slice a8 (toN (woN ns o.path) (parB o.path) z).length k8) (toN (woN ns o.path) (parB o.path) z)) := r8
    have F8 : Hid (New w (.slice a8 (toN (woN ns o.path) (parB o.path) z).length k8)) := f8.new F7 BF.out.size
    clear A2 A3 A4 R7 F7 f8 r8 BD BE BF
    go_wp2
    exact bodyPost_ret (v := .tuple #[.int .i64 0, .slice a8 (toN (woN ns o.path) (parB o.path) z).length k8, .string o.path]) (by simp [results, Tryd.results146, go_sem]) rfl ⟨_, by rw [HD.out], by rw [HD.out]; exact R8.out, .inr F8.out, BG.out⟩

end Go.Proofs.YtcopcegamadkgaaDoor

namespace Go.Proofs.YtcopcegamadkgaaDoor
open Go.RowKit Go.Shelf

theorem wfO_kind {o : Op5} (h : wfO o = true) : o.kind = 1 ∨ o.kind = 2 ∨ o.kind = 3 ∨ o.kind = 4 := by
  unfold wfO at h
  simp only [Bool.and_eq_true, decide_eq_true_eq] at h
  omega
/-- One operation of the model, whatever it is. -/
theorem l3Do_any (w : World) (v : Value) (ns : List Nd) (o : Op5) (z : Int) (h : RdN w v ns) (hn : ns.length ≤ 1000) (hok : ∀ k, k < ns.length → okNd (nAt ns k) = true) (hp : o.path.size ≤ 1048576) (hd : o.data.size ≤ 1048576) :
    Calls Tryd.prog 146 #[v, .agg #[.int .i64 o.kind, .string o.path, .string o.data, .int .i64 o.ver, .bool o.seq], .int .i64 z] w fun e w' => DoPost w v ns o z e w' := by
  cases hw : wfO o with
  | false => exact l3Do_bad w v ns o z h hp hd hw
  | true =>
    rcases wfO_kind hw with hk | hk | hk | hk
    · exact l3Do_create w v ns o z h hn hok hp hd hw hk
    · exact l3Do_delete w v ns o z h hn hok hp hd hw hk
    · exact l3Do_set w v ns o z h hn hok hp hd hw hk
    · exact l3Do_check w v ns o z h hn hp hd hw hk

end Go.Proofs.YtcopcegamadkgaaDoor

namespace Go.Proofs.YtcopcegamadkgaaDoor
open Go.RowKit

/-- An effect. -/
structure Ef where
  del : Bool
  nd : Nd
def efL (e : Ef) : List Value := [.bool e.del, .string e.nd.path, .string e.nd.data, .int .i64 e.nd.ver, .int .i64 e.nd.cver, .int .i64 e.nd.cz, .int .i64 e.nd.mz, .int .i64 e.nd.pz]
def ef0 : Ef := ⟨false, nd0⟩
def eAt (ns : List Ef) (i : Nat) : Ef := ns.getD i ef0
theorem eAt_get {ns : List Ef} {i : Nat} (h : i < ns.length) : eAt ns i = ns[i] := by unfold eAt; simp [List.getD, h]

/-- The cells of an effect. -/
structure CellsE (w : World) (b p : Nat) (n : Ef) : Prop where
  c0 : w.cell? ⟨b, p, none⟩ = some (.bool n.del)
  c1 : w.cell? ⟨b, p + 1, none⟩ = some (.string n.nd.path)
  c2 : w.cell? ⟨b, p + 2, none⟩ = some (.string n.nd.data)
  c3 : w.cell? ⟨b, p + 3, none⟩ = some (.int .i64 n.nd.ver)
  c4 : w.cell? ⟨b, p + 4, none⟩ = some (.int .i64 n.nd.cver)
  c5 : w.cell? ⟨b, p + 5, none⟩ = some (.int .i64 n.nd.cz)
  c6 : w.cell? ⟨b, p + 6, none⟩ = some (.int .i64 n.nd.mz)
  c7 : w.cell? ⟨b, p + 7, none⟩ = some (.int .i64 n.nd.pz)
theorem CellsE.below {w w' : World} {m b p : Nat} {n : Ef} (h : CellsE w b p n) (hb : Below m w w') (hl : b < m) : CellsE w' b p n :=
  ⟨(hb.cell (p := ⟨b, _, none⟩) hl).trans h.c0, (hb.cell (p := ⟨b, _, none⟩) hl).trans h.c1, (hb.cell (p := ⟨b, _, none⟩) hl).trans h.c2, (hb.cell (p := ⟨b, _, none⟩) hl).trans h.c3, (hb.cell (p := ⟨b, _, none⟩) hl).trans h.c4, (hb.cell (p := ⟨b, _, none⟩) hl).trans h.c5, (hb.cell (p := ⟨b, _, none⟩) hl).trans h.c6, (hb.cell (p := ⟨b, _, none⟩) hl).trans h.c7⟩
theorem CellsE.nd {w : World} {b p : Nat} {n : Ef} (h : CellsE w b p n) : CellsN w b (p + 1) n.nd := ⟨h.c1, h.c2, h.c3, h.c4, h.c5, h.c6, h.c7⟩

/-- A slice of nodes that reads as ns. -/
def RdE (w : World) (v : Value) (ns : List Ef) : Prop :=
  ∃ ao cap, v = .slice ao ns.length cap ∧ ns.length ≤ cap ∧ cap ≤ maxLen ∧
    (ns = [] ∨ ∃ b off, ao = some ⟨b, off, none⟩ ∧ b < w.heap.size ∧ ∀ i, i < ns.length → CellsE w b (off + i * 8) (eAt ns i))
theorem RdE.len {w : World} {v : Value} {ns : List Ef} (h : RdE w v ns) : ∃ ao cap, v = .slice ao ns.length cap ∧ ns.length ≤ cap ∧ cap ≤ maxLen := by
  obtain ⟨ao, cap, h0, h1, h2, _⟩ := h
  exact ⟨ao, cap, h0, h1, h2⟩
theorem RdE.below {w w' : World} {v : Value} {ns : List Ef} (h : RdE w v ns) (hb : Below w.heap.size w w') : RdE w' v ns := by
  obtain ⟨ao, cap, rfl, h1, h2, h3⟩ := h
  refine ⟨ao, cap, rfl, h1, h2, ?_⟩
  rcases h3 with h3 | ⟨b, off, rfl, hlt, hc⟩
  · exact .inl h3
  · exact .inr ⟨b, off, rfl, Nat.lt_of_lt_of_le hlt hb.size, fun i hi => (hc i hi).below hb hlt⟩

/-! ### rows of nodes -/
def erow (ns : List Ef) : List Value := ns.flatMap efL
theorem erow_cons (n : Ef) (ns : List Ef) : erow (n :: ns) = efL n ++ erow ns := by simp [erow]
theorem erow_append (ns ms : List Ef) : erow (ns ++ ms) = erow ns ++ erow ms := by simp [erow]
theorem erow_get : ∀ (ns : List Ef) (i j : Nat), i < ns.length → j < 8 → (erow ns)[i * 8 + j]? = (efL (eAt ns i))[j]?
  | [], i, j, h, _ => by simp at h
  | n :: ns, 0, j, _, hj => by
    rw [erow_cons, Nat.zero_mul, Nat.zero_add, List.getElem?_append_left (by show j < 8; exact hj)]; rfl
  | n :: ns, i + 1, j, h, hj => by
    rw [erow_cons, List.getElem?_append_right (by show 8 ≤ _; omega), show (i + 1) * 8 + j - (efL n).length = i * 8 + j by show (i + 1) * 8 + j - 8 = _; omega, erow_get ns i j (by simpa using h) hj]
    rfl
/-- A slice of nodes of the call's own. -/
def OwnE (e : TypeId) (w : World) (lo : Nat) (v : Value) (ns : List Ef) : Prop := w.ownsRow lo e 8 v ns.length (erow ns)
theorem OwnE.rd {e : TypeId} {w : World} {lo : Nat} {v : Value} {ns : List Ef} (h : OwnE e w lo v ns) : RdE w v ns := by
  rcases h.2 with ⟨rfl, h0⟩ | ⟨g, cap, cur, rfl, hb, hg, hn, hm, hs, ht⟩
  · have : ns = [] := List.eq_nil_of_length_eq_zero h0
    subst this
    exact ⟨none, 0, rfl, Nat.le_refl _, Nat.zero_le _, .inl rfl⟩
  · refine ⟨_, cap, rfl, hn, hm, .inr ⟨g, 0, rfl, (Array.getElem?_eq_some_iff.1 hg).1, fun i hi => ?_⟩⟩
    have c : ∀ j, j < 8 → w.cell? ⟨g, 0 + (i * 8 + j), none⟩ = (efL (eAt ns i))[j]? := fun j hj => by
      have hh := erow_get ns i j hi hj
      have h9 : (efL (eAt ns i))[j]? = some ((efL (eAt ns i)).getD j undef) := by
        match j, hj with
        | 0, _ => rfl
        | 1, _ => rfl
        | 2, _ => rfl
        | 3, _ => rfl
        | 4, _ => rfl
        | 5, _ => rfl
        | 6, _ => rfl
        | 7, _ => rfl
      rw [h9] at hh
      have := World.ownsRow.cells h (g := g) rfl (i * 8 + j) _ hh
      rw [Addr.add_lit] at this
      rw [this, h9]
    exact ⟨c 0 (by omega), c 1 (by omega), c 2 (by omega), c 3 (by omega), c 4 (by omega), c 5 (by omega), c 6 (by omega), c 7 (by omega)⟩
theorem OwnE.below {e : TypeId} {w w' : World} {lo : Nat} {v : Value} {ns : List Ef} (h : OwnE e w lo v ns) (hb : Below w.heap.size w w') : OwnE e w' lo v ns := by
  refine ⟨h.1, ?_⟩
  rcases h.2 with hn | ⟨g, cap, cur, rfl, hbg, hgg, rest⟩
  · exact .inl hn
  · exact .inr ⟨g, cap, cur, rfl, hbg, by rw [hb.block g (Array.getElem?_eq_some_iff.1 hgg).1]; exact hgg, rest⟩
theorem OwnE.mono {e : TypeId} {w : World} {lo lo' : Nat} {v : Value} {ns : List Ef} (h : OwnE e w lo v ns) (hl : lo' ≤ lo) : OwnE e w lo' v ns := by
  refine ⟨h.1, ?_⟩
  rcases h.2 with hn | ⟨g, cap, cur, rfl, hbg, rest⟩
  · exact .inl hn
  · exact .inr ⟨g, cap, cur, rfl, Nat.le_trans hl hbg, rest⟩
theorem OwnE.slice {e : TypeId} {w : World} {lo : Nat} {v : Value} {ns : List Ef} (h : OwnE e w lo v ns) : ∃ a c, v = .slice a ns.length c := by
  obtain ⟨a, c, h0, _⟩ := h.rd.len
  exact ⟨a, c, h0⟩


end Go.Proofs.YtcopcegamadkgaaDoor

namespace Go.Proofs.YtcopcegamadkgaaDoor
open Go.RowKit

theorem OwnE.setBelow {e : TypeId} {w : World} {lo : Nat} {v : Value} {ns : List Ef} (h : OwnE e w lo v ns) {a : Addr} (ha : a.block < lo) (u : Value) : OwnE e (w.setCell a u) lo v ns := ownsRow_setCell_below h ha u


end Go.Proofs.YtcopcegamadkgaaDoor

namespace Go.Proofs.YtcopcegamadkgaaDoor
open Go.RowKit

/-- Nothing but a path. -/
def blank (n : Nd) : Bool := (n.data.toList == []) && (n.ver == 0) && (n.cver == 0) && (n.cz == 0) && (n.mz == 0) && (n.pz == 0)
def okEf (e : Ef) : Bool := okNd e.nd && (!e.del || blank e.nd)
theorem okEf_false {e : Ef} (h : e.del = false) : okEf e = okNd e.nd := by unfold okEf; rw [h]; simp
theorem okEf_true {e : Ef} (h : e.del = true) : okEf e = (okNd e.nd && blank e.nd) := by unfold okEf; rw [h]; simp

end Go.Proofs.YtcopcegamadkgaaDoor

namespace Go.Proofs.YtcopcegamadkgaaDoor
open Go.RowKit

/-- A local effect. -/
structure BoxE (w : World) (B : Nat) (n : Ef) : Prop where
  lt : B < w.heap.size
  c0 : w.cell? ⟨B, 0, none⟩ = some (.bool n.del)
  c1 : w.cell? ⟨B, 1, none⟩ = some (.string n.nd.path)
  c2 : w.cell? ⟨B, 2, none⟩ = some (.string n.nd.data)
  c3 : w.cell? ⟨B, 3, none⟩ = some (.int .i64 n.nd.ver)
  c4 : w.cell? ⟨B, 4, none⟩ = some (.int .i64 n.nd.cver)
  c5 : w.cell? ⟨B, 5, none⟩ = some (.int .i64 n.nd.cz)
  c6 : w.cell? ⟨B, 6, none⟩ = some (.int .i64 n.nd.mz)
  c7 : w.cell? ⟨B, 7, none⟩ = some (.int .i64 n.nd.pz)
theorem BoxE.new (w : World) (n : Ef) (t : TypeId) : BoxE (w.alloc (.cells #[.bool n.del, .string n.nd.path, .string n.nd.data, .int .i64 n.nd.ver, .int .i64 n.nd.cver, .int .i64 n.nd.cz, .int .i64 n.nd.mz, .int .i64 n.nd.pz] t)) w.heap.size n :=
  ⟨by simp, by simp, by simp, by simp, by simp, by simp, by simp, by simp, by simp⟩
theorem BoxE.below {w w' : World} {B : Nat} {n : Ef} (h : BoxE w B n) (hb : Below w.heap.size w w') : BoxE w' B n :=
  ⟨Nat.lt_of_lt_of_le h.lt hb.size, (hb.cell (p := ⟨B, _, none⟩) h.lt).trans h.c0, (hb.cell (p := ⟨B, _, none⟩) h.lt).trans h.c1, (hb.cell (p := ⟨B, _, none⟩) h.lt).trans h.c2, (hb.cell (p := ⟨B, _, none⟩) h.lt).trans h.c3, (hb.cell (p := ⟨B, _, none⟩) h.lt).trans h.c4, (hb.cell (p := ⟨B, _, none⟩) h.lt).trans h.c5, (hb.cell (p := ⟨B, _, none⟩) h.lt).trans h.c6, (hb.cell (p := ⟨B, _, none⟩) h.lt).trans h.c7⟩
theorem BoxE.all {w : World} {B : Nat} {n : Ef} (h : BoxE w B n) : w.cell? ⟨B, 0, none⟩ = some (.bool n.del) ∧ w.cell? ⟨B, 1, none⟩ = some (.string n.nd.path) ∧ w.cell? ⟨B, 2, none⟩ = some (.string n.nd.data) ∧ w.cell? ⟨B, 3, none⟩ = some (.int .i64 n.nd.ver) ∧ w.cell? ⟨B, 4, none⟩ = some (.int .i64 n.nd.cver) ∧ w.cell? ⟨B, 5, none⟩ = some (.int .i64 n.nd.cz) ∧ w.cell? ⟨B, 6, none⟩ = some (.int .i64 n.nd.mz) ∧ w.cell? ⟨B, 7, none⟩ = some (.int .i64 n.nd.pz) := ⟨h.c0, h.c1, h.c2, h.c3, h.c4, h.c5, h.c6, h.c7⟩

def okEAt (ns : List Ef) (k : Nat) : Bool := okEf (eAt ns k) && (decide (k = 0) || ltP (eAt ns (k - 1)).nd.path (eAt ns k).nd.path)
def okEs (ns : List Ef) : Bool := (List.range ns.length).all (okEAt ns)
def okTxn (z : Int) (ns : List Ef) : Bool := decide (1 ≤ z) && decide (z ≤ 2147483647) && decide (ns.length ≤ 1000) && okEs ns
theorem es_no {ns : List Ef} {k : Nat} (h : k < ns.length) (hn : okEAt ns k = false) : okEs ns = false := by
  unfold okEs; rw [List.all_eq_false]; exact ⟨k, List.mem_range.2 h, by rw [hn]; simp⟩
theorem es_yes {ns : List Ef} (h : ∀ k, k < ns.length → okEAt ns k = true) : okEs ns = true := by
  unfold okEs; rw [List.all_eq_true]; exact fun k hk => h k (List.mem_range.1 hk)
theorem okEAt_zero (ns : List Ef) : okEAt ns 0 = okEf (eAt ns 0) := by unfold okEAt; simp
theorem okEAt_succ (ns : List Ef) (j : Nat) : okEAt ns (j + 1) = (okEf (eAt ns (j + 1)) && ltP (eAt ns j).nd.path (eAt ns (j + 1)).nd.path) := by unfold okEAt; simp
theorem okEf_nd {n : Ef} (h : okNd n.nd = false) : okEf n = false := by unfold okEf; rw [h]; rfl

end Go.Proofs.YtcopcegamadkgaaDoor

namespace Go.Proofs.YtcopcegamadkgaaDoor
open Go.RowKit

theorem less_trans : ∀ x y z : List UInt8, Op.bytesLess x y = true → Op.bytesLess y z = true → Op.bytesLess x z = true
  | [], [], _ => by simp [Op.bytesLess]
  | _ :: _, [], _ => by simp [Op.bytesLess]
  | _, _ :: _, [] => by simp [Op.bytesLess]
  | [], _ :: _, _ :: _ => by simp [Op.bytesLess]
  | a :: x, b :: y, c :: z => by
    unfold Op.bytesLess
    intro h1 h2
    have ih := less_trans x y z
    simp only [Bool.or_eq_true, Bool.and_eq_true, decide_eq_true_eq, beq_iff_eq] at h1 h2 ⊢
    rcases h1 with h1 | ⟨rfl, h1⟩
    · rcases h2 with h2 | ⟨rfl, h2⟩
      · exact .inl (UInt8.lt_trans h1 h2)
      · exact .inl h1
    · rcases h2 with h2 | ⟨rfl, h2⟩
      · exact .inl h2
      · exact .inr ⟨rfl, ih h1 h2⟩
theorem ltP_trans {a b c : ByteArray} (h1 : ltP a b = true) (h2 : ltP b c = true) : ltP a c = true := less_trans _ _ _ h1 h2
theorem ltP_ne {a b : ByteArray} (h : ltP a b = true) : (a.toList == b.toList) = false := by
  have := (ltP_yes h).2
  rw [Bool.eq_false_iff] at this ⊢
  intro e
  exact this (by rw [beq_iff_eq] at e ⊢; exact e.symm)
theorem ltP_gt_ne {a b : ByteArray} (h : ltP b a = true) : (a.toList == b.toList) = false := (ltP_yes h).2
theorem ltP_asymm {a b : ByteArray} (h : ltP a b = true) : ltP b a = false := (ltP_yes h).1
theorem ltP_total {a b : ByteArray} (h : ltP a b = false) (hne : (a.toList == b.toList) = false) : ltP b a = true := by
  rcases ltP_no h with h1 | ⟨_, h1⟩
  · exact h1
  · rw [beq_iff_eq] at h1
    rw [h1] at hne
    simp at hne
theorem cmpP_eq (a b : ByteArray) : (cmpP a b == 0) = (a.toList == b.toList) := by
  have h : cmpP a b = 0 ↔ a.toList = b.toList := by
    unfold cmpP
    rw [cmp_eq0, ByteArray.toList_eq, ByteArray.toList_eq]
  rw [Bool.eq_iff_iff, beq_iff_eq, beq_iff_eq]
  exact h

/-- Paths ascend. -/
def Asc (ns : List Nd) : Prop := ns.Pairwise fun a b => ltP a.path b.path = true
def AscE (es : List Ef) : Prop := es.Pairwise fun a b => ltP a.nd.path b.nd.path = true
theorem asc_of {α : Type} (f : α → ByteArray) : ∀ (l : List α), (∀ j (h : j + 1 < l.length), ltP (f l[j]) (f l[j+1]) = true) → l.Pairwise fun a b => ltP (f a) (f b) = true
  | [], _ => List.Pairwise.nil
  | [a], _ => by simp
  | a :: b :: l, h => by
    have ih := asc_of f (b :: l) (fun j hj => h (j + 1) (by simp at hj ⊢; omega))
    refine List.Pairwise.cons (fun c hc => ?_) ih
    have hab : ltP (f a) (f b) = true := h 0 (by simp)
    rcases List.mem_cons.1 hc with rfl | hc
    · exact hab
    · exact ltP_trans hab ((List.pairwise_cons.1 ih).1 c hc)
theorem okTree_asc {ns : List Nd} (h : okTree ns = true) : Asc ns := by
  unfold okTree okSorted at h
  simp only [Bool.and_eq_true, List.all_eq_true, List.mem_range] at h
  refine asc_of (fun n => n.path) ns fun j hj => ?_
  have := h.2 (j + 1) hj
  rw [okAt_succ] at this
  simp only [Bool.and_eq_true] at this
  have h2 := this.2
  rw [nAt_get (show j < ns.length by omega), nAt_get hj] at h2
  exact h2
theorem okEs_asc {es : List Ef} (h : okEs es = true) : AscE es := by
  unfold okEs at h
  simp only [List.all_eq_true, List.mem_range] at h
  refine asc_of (fun n => n.nd.path) es fun j hj => ?_
  have := h (j + 1) hj
  rw [okEAt_succ] at this
  simp only [Bool.and_eq_true] at this
  have h2 := this.2
  rw [eAt_get (show j < es.length by omega), eAt_get hj] at h2
  exact h2
theorem okTxn_es {z : Int} {es : List Ef} (h : okTxn z es = true) : okEs es = true ∧ es.length ≤ 1000 := by
  unfold okTxn at h
  simp only [Bool.and_eq_true, decide_eq_true_eq] at h
  exact ⟨h.2, h.1.2⟩

/-! ### the place of a path -/
def plc (r : List Nd) (p : ByteArray) : Nat := (r.takeWhile fun m => ltP m.path p).length
def skp (r : List Nd) (p : ByteArray) : Nat := if fnd r p (plc r p) then 1 else 0
theorem plc_take (r : List Nd) (p : ByteArray) : r.take (plc r p) = r.takeWhile fun m => ltP m.path p := by
  unfold plc
  induction r with
  | nil => rfl
  | cons a r ih =>
    rw [List.takeWhile_cons]
    split
    · simp [ih]
    · simp
theorem plc_drop (r : List Nd) (p : ByteArray) : r.drop (plc r p) = r.dropWhile fun m => ltP m.path p := by
  unfold plc
  induction r with
  | nil => rfl
  | cons a r ih =>
    rw [List.takeWhile_cons, List.dropWhile_cons]
    split
    · simp [ih]
    · simp
theorem plc_le (r : List Nd) (p : ByteArray) : plc r p ≤ r.length := by
  have := congrArg List.length (plc_take r p)
  rw [List.length_take] at this
  unfold plc at this ⊢
  omega
theorem tw_lt (r : List Nd) (p : ByteArray) : ∀ a ∈ r.take (plc r p), ltP a.path p = true := by
  rw [plc_take]
  induction r with
  | nil => simp
  | cons b r ih =>
    rw [List.takeWhile_cons]
    split
    · rename_i hb
      intro a ha
      rcases List.mem_cons.1 ha with rfl | ha
      · exact hb
      · exact ih a ha
    · simp
theorem dw_not : ∀ (r : List Nd) (p : ByteArray), Asc r → ∀ a ∈ r.drop (plc r p), ltP a.path p = false := by
  intro r p h a ha
  rw [plc_drop] at ha
  induction r with
  | nil => simp at ha
  | cons b r ih =>
    rw [List.dropWhile_cons] at ha
    split at ha
    · exact ih (List.pairwise_cons.1 h).2 ha
    · rename_i hb
      have hb' : ltP b.path p = false := by simpa using hb
      rcases List.mem_cons.1 ha with rfl | ha
      · exact hb'
      · have hba := (List.pairwise_cons.1 h).1 a ha
        cases hc : ltP a.path p with
        | false => rfl
        | true => rw [ltP_trans hba hc] at hb'; exact absurd hb' (by simp)
theorem asc_drop {r : List Nd} (h : Asc r) (k : Nat) : Asc (r.drop k) := List.Pairwise.sublist (List.drop_sublist k r) h

/-- What stays of a row that begins at or behind a path. -/
theorem wo_high (D : List Nd) (p : ByteArray) (h : Asc D) (hn : ∀ a ∈ D, ltP a.path p = false) : woN D p = D.drop (if (decide (0 < D.length) && ((nAt D 0).path.toList == p.toList)) then 1 else 0) := by
  cases D with
  | nil => rfl
  | cons b D =>
    have hr : ∀ a ∈ D, (a.path.toList == p.toList) = false := by
      intro a ha
      have h1 := (List.pairwise_cons.1 h).1 a ha
      have h2 := hn b (by simp)
      cases hc : a.path.toList == p.toList with
      | false => rfl
      | true =>
        rw [beq_iff_eq] at hc
        unfold ltP at h1 h2
        rw [hc] at h1
        rw [h1] at h2
        exact absurd h2 (by simp)
    have hf : woN D p = D := by
      unfold woN
      rw [List.filter_eq_self]
      intro a ha
      rw [hr a ha]
      rfl
    have e0 : nAt (b :: D) 0 = b := rfl
    rw [e0]
    unfold woN at hf ⊢
    rw [List.filter_cons]
    cases hc : b.path.toList == p.toList with
    | true => simp [hf]
    | false => simp [hf]
theorem skp_eq (r : List Nd) (p : ByteArray) : skp r p = if (decide (0 < (r.drop (plc r p)).length) && ((nAt (r.drop (plc r p)) 0).path.toList == p.toList)) then 1 else 0 := by
  unfold skp fnd
  rw [cmpP_eq, List.length_drop]
  have e : nAt (r.drop (plc r p)) 0 = nAt r (plc r p) := by unfold nAt; simp [List.getD]
  rw [e]
  have e2 : decide (plc r p < r.length) = decide (0 < r.length - plc r p) := by rw [decide_eq_decide]; omega
  rw [e2]
theorem skp_le (r : List Nd) (p : ByteArray) : skp r p ≤ 1 ∧ plc r p + skp r p ≤ r.length := by
  have h := plc_le r p
  rw [skp_eq]
  split
  · rename_i hc
    simp only [Bool.and_eq_true, decide_eq_true_eq, List.length_drop] at hc
    omega
  · omega
theorem wo_drop (r : List Nd) (p : ByteArray) (h : Asc r) : woN (r.drop (plc r p)) p = r.drop (plc r p + skp r p) := by
  rw [wo_high _ p (asc_drop h _) (dw_not r p h), ← skp_eq, List.drop_drop]
theorem wo_low (A : List Nd) (p : ByteArray) (h : ∀ a ∈ A, ltP a.path p = true) : woN A p = A := by
  unfold woN
  rw [List.filter_eq_self]
  intro a ha
  rw [ltP_ne (h a ha)]
  rfl
theorem wo_append (A B : List Nd) (p : ByteArray) : woN (A ++ B) p = woN A p ++ woN B p := by unfold woN; rw [List.filter_append]
theorem wo_all (A r : List Nd) (p : ByteArray) (hA : ∀ a ∈ A, ltP a.path p = true) (h : Asc r) : woN (A ++ r) p = A ++ r.take (plc r p) ++ r.drop (plc r p + skp r p) := by
  conv => lhs; rw [← List.take_append_drop (plc r p) r]
  rw [wo_append, wo_append, wo_low A p hA, wo_low _ p (tw_lt r p), wo_drop r p h, List.append_assoc]

theorem wi_low (n : Nd) : ∀ (A X : List Nd), (∀ a ∈ A, ltP a.path n.path = true) → A.foldl (stW n) (X, false) = (X ++ A, false)
  | [], X, _ => by simp
  | a :: A, X, h => by
    have ha := h a (by simp)
    have e : stW n (X, false) a = (X ++ [a], false) := by
      have h1 : Op.bytesLess a.path.toList n.path.toList = true := ha
      unfold stW
      rw [ltP_ne ha, h1]
      rfl
    rw [List.foldl_cons, e, wi_low n A _ (fun b hb => h b (List.mem_cons_of_mem _ hb))]
    simp
theorem wi_done (n : Nd) : ∀ (A X : List Nd), (A.foldl (stW n) (X, true)) = (X ++ woN A n.path, true)
  | [], X => by simp [woN]
  | a :: A, X => by
    have e : stW n (X, true) a = (X ++ woN [a] n.path, true) := by
      unfold stW woN
      rw [List.filter_cons]
      cases hc : a.path.toList == n.path.toList <;> simp
    rw [List.foldl_cons, e, wi_done n A, show a :: A = [a] ++ A from rfl, wo_append, List.append_assoc]
theorem wi_high (n : Nd) (D X : List Nd) (hn : ∀ a ∈ D, ltP a.path n.path = false) :
    (let f := D.foldl (stW n) (X, false); if f.2 then f.1 else f.1 ++ [n]) = X ++ n :: woN D n.path := by
  cases D with
  | nil => simp [woN]
  | cons b D =>
    have hb : Op.bytesLess b.path.toList n.path.toList = false := hn b (by simp)
    have e : stW n (X, false) b = (X ++ n :: woN [b] n.path, true) := by
      unfold stW woN
      rw [hb, List.filter_cons]
      cases hc : b.path.toList == n.path.toList <;> simp
    have e2 : (b :: D).foldl (stW n) (X, false) = (X ++ n :: woN (b :: D) n.path, true) := by
      rw [List.foldl_cons, e, wi_done, show b :: D = [b] ++ D from rfl, wo_append]
      simp
    simp only [e2, if_true]
theorem wi_all (A r : List Nd) (n : Nd) (hA : ∀ a ∈ A, ltP a.path n.path = true) (h : Asc r) : wiN (A ++ r) n = A ++ r.take (plc r n.path) ++ n :: r.drop (plc r n.path + skp r n.path) := by
  unfold wiN wiF
  conv => lhs; rw [← List.take_append_drop (plc r n.path) r]
  rw [← List.append_assoc, List.foldl_append, wi_low n (A ++ r.take (plc r n.path)) [] (by
    intro a ha
    rcases List.mem_append.1 ha with ha | ha
    · exact hA a ha
    · exact tw_lt r _ a ha)]
  have := wi_high n (r.drop (plc r n.path)) ([] ++ (A ++ r.take (plc r n.path))) (dw_not r _ h)
  simp only at this
  rw [this, wo_drop r _ h]
  simp

/-! ### one effect, all effects -/
def apS (st : List Nd × List Nd) (e : Ef) : List Nd × List Nd :=
  (st.1 ++ st.2.take (plc st.2 e.nd.path) ++ (if e.del then [] else [e.nd]), st.2.drop (plc st.2 e.nd.path + skp st.2 e.nd.path))
def apI (ns : List Nd) (es : List Ef) : List Nd × List Nd := es.foldl apS ([], ns)
def apQ (ns : List Nd) (e : Ef) : List Nd := if e.del then woN ns e.nd.path else wiN ns e.nd
def apL (ns : List Nd) (es : List Ef) : List Nd := es.foldl apQ ns
theorem apS_apQ (st : List Nd × List Nd) (e : Ef) (hA : ∀ a ∈ st.1, ltP a.path e.nd.path = true) (h : Asc st.2) : apQ (st.1 ++ st.2) e = (apS st e).1 ++ (apS st e).2 := by
  unfold apQ apS
  cases e.del with
  | true => simp [wo_all _ _ _ hA h]
  | false => simp [wi_all _ _ _ hA h]
theorem ap_eq : ∀ (es : List Ef) (st : List Nd × List Nd), AscE es → (∀ a ∈ st.1, ∀ e ∈ es, ltP a.path e.nd.path = true) → Asc st.2 →
    (es.foldl apS st).1 ++ (es.foldl apS st).2 = es.foldl apQ (st.1 ++ st.2)
  | [], _, _, _, _ => rfl
  | e :: es, st, h, hA, hr => by
    have h' := List.pairwise_cons.1 h
    rw [List.foldl_cons, List.foldl_cons, apS_apQ st e (fun a ha => hA a ha e (by simp)) hr]
    refine ap_eq es (apS st e) h'.2 (fun a ha f hf => ?_) (asc_drop hr _)
    have hef := h'.1 f hf
    unfold apS at ha
    rcases List.mem_append.1 ha with ha | ha
    · rcases List.mem_append.1 ha with ha | ha
      · exact hA a ha f (List.mem_cons_of_mem _ hf)
      · exact ltP_trans (tw_lt _ _ a ha) hef
    · split at ha
      · simp at ha
      · rw [List.mem_singleton] at ha
        rw [ha]
        exact hef
theorem apI_eq {ns : List Nd} {es : List Ef} (h : Asc ns) (he : AscE es) : (apI ns es).1 ++ (apI ns es).2 = apL ns es := ap_eq es ([], ns) he (fun a ha => by simp at ha) h
theorem apI_succ (ns : List Nd) (es : List Ef) (k : Nat) (h : k < es.length) : apI ns (es.take (k + 1)) = apS (apI ns (es.take k)) (eAt es k) := by
  unfold apI
  rw [List.take_succ_eq_append_getElem h, List.foldl_append, eAt_get h]
  rfl
theorem apL_succ (ns : List Nd) (es : List Ef) (k : Nat) (h : k < es.length) : apL ns (es.take (k + 1)) = apQ (apL ns (es.take k)) (eAt es k) := by
  unfold apL
  rw [List.take_succ_eq_append_getElem h, List.foldl_append, eAt_get h]
  rfl
theorem apS_len (st : List Nd × List Nd) (e : Ef) : (apS st e).1.length + (apS st e).2.length ≤ st.1.length + st.2.length + 1 := by
  unfold apS
  have h := plc_le st.2 e.nd.path
  simp only [List.length_append, List.length_take, List.length_drop]
  split <;> simp <;> omega
theorem apI_len : ∀ (ns : List Nd) (es : List Ef) (k : Nat), (apI ns (es.take k)).1.length + (apI ns (es.take k)).2.length ≤ ns.length + k
  | ns, es, 0 => by simp [apI]
  | ns, es, k + 1 => by
    have ih := apI_len ns es k
    by_cases h : k < es.length
    · rw [apI_succ ns es k h]
      have := apS_len (apI ns (es.take k)) (eAt es k)
      omega
    · rw [List.take_of_length_le (by omega)] at ih ⊢
      omega
theorem ascE_take {es : List Ef} (h : AscE es) (k : Nat) : AscE (es.take k) := List.Pairwise.sublist (List.take_sublist k es) h
theorem apL_len {ns : List Nd} {es : List Ef} (h : Asc ns) (he : AscE es) (k : Nat) : (apL ns (es.take k)).length ≤ ns.length + k := by
  rw [← apI_eq h (ascE_take he k), List.length_append]
  exact apI_len ns es k
/-- The nodes behind a transaction. -/
def resA (ns : List Nd) (z : Int) (es : List Ef) : List Nd := if okTree ns && okTxn z es then apL ns es else []
theorem wo_empty {ns : List Nd} (h : ∀ k, k < ns.length → okNd (nAt ns k) = true) (p : ByteArray) (hp : p.toList = []) : woN ns p = ns := by
  unfold woN
  rw [List.filter_eq_self]
  intro a ha
  obtain ⟨k, hk, e⟩ := List.getElem_of_mem ha
  have hn := h k hk
  rw [nAt_get hk, e] at hn
  have hpath : okPath a.path = true := by
    unfold okNd at hn
    simp only [Bool.and_eq_true] at hn
    exact hn.1.1.1.1.1.1
  have : ¬ a.path.toList = [] := by
    intro hc
    have hd : a.path.data.toList = [] := by rw [← ByteArray.toList_eq]; exact hc
    have hs : a.path.size = 0 := by
      have := congrArg List.length hd
      simpa using this
    by_cases h47 : a.path.data.toList = [47]
    · rw [hd] at h47; simp at h47
    · rw [okPath_not h47] at hpath
      simp only [Bool.and_eq_true, decide_eq_true_eq] at hpath
      omega
  rw [hp]
  cases hc : a.path.toList == [] with
  | false => rfl
  | true => rw [beq_iff_eq] at hc; exact absurd hc this

end Go.Proofs.YtcopcegamadkgaaDoor

namespace Go.Proofs.YtcopcegamadkgaaDoor
open Go.RowKit Go.Shelf

theorem asc_wo {ns : List Nd} (h : Asc ns) (p : ByteArray) : Asc (woN ns p) := List.Pairwise.sublist List.filter_sublist h
theorem ltP_irr (p : ByteArray) : ltP p p = false := by
  cases h : ltP p p with
  | false => rfl
  | true => have := ltP_ne h; simp at this
theorem wi_form {ns : List Nd} (n : Nd) (h : Asc ns) : wiN ns n = ns.take (plc ns n.path) ++ n :: ns.drop (plc ns n.path + skp ns n.path) := by
  have := wi_all [] ns n (fun a ha => by simp at ha) h
  simpa using this
theorem dw_gt {ns : List Nd} (h : Asc ns) (p : ByteArray) : ∀ a ∈ ns.drop (plc ns p + skp ns p), ltP p a.path = true ∧ (a.path.toList == p.toList) = false := by
  intro a ha
  rw [← wo_drop ns p h] at ha
  obtain ⟨h1, h2⟩ := List.mem_filter.1 ha
  have h3 : (a.path.toList == p.toList) = false := by simpa using h2
  exact ⟨ltP_total (dw_not ns p h a h1) h3, h3⟩
theorem asc_wi {ns : List Nd} (h : Asc ns) (n : Nd) : Asc (wiN ns n) := by
  rw [wi_form n h]
  unfold Asc
  rw [List.pairwise_append, List.pairwise_cons]
  refine ⟨List.Pairwise.sublist (List.take_sublist _ _) h, ⟨fun a ha => (dw_gt h n.path a ha).1, List.Pairwise.sublist (List.drop_sublist _ _) h⟩, ?_⟩
  intro a ha b hb
  have h1 := tw_lt ns n.path a ha
  rcases List.mem_cons.1 hb with rfl | hb
  · exact h1
  · exact ltP_trans h1 (dw_gt h n.path b hb).1
theorem wi_len9 {ns : List Nd} (h : Asc ns) (n : Nd) : (wiN ns n).length = ns.length + 1 - skp ns n.path := by
  have := skp_le ns n.path
  rw [wi_form n h]
  simp only [List.length_append, List.length_cons, List.length_take, List.length_drop]
  have := plc_le ns n.path
  omega
theorem skp_one {ns : List Nd} (h : Asc ns) {p : ByteArray} (hf : ∃ a ∈ ns, (a.path.toList == p.toList) = true) : skp ns p = 1 := by
  obtain ⟨a, ha, he⟩ := hf
  have h1 := skp_le ns p
  by_cases h0 : skp ns p = 0
  · exfalso
    rw [← List.take_append_drop (plc ns p) ns] at ha
    rcases List.mem_append.1 ha with ha | ha
    · have := ltP_ne (tw_lt ns p a ha)
      rw [this] at he; cases he
    · have := (dw_gt h p a (by rw [h0]; exact ha)).2
      rw [this] at he; cases he
  · omega
theorem found_mem {ns : List Nd} {p : ByteArray} (h : ns.findIdx (isP p) < ns.length) : nAt ns (ns.findIdx (isP p)) ∈ ns ∧ ((nAt ns (ns.findIdx (isP p))).path.toList == p.toList) = true := by
  rw [nAt_get h]
  exact ⟨List.getElem_mem h, List.findIdx_getElem (w := h)⟩

/-- A tree that is sound. -/
def Snd (ns : List Nd) : Prop := Asc ns ∧ (∀ n ∈ ns, okNd n = true) ∧ ns.length ≤ 1000
theorem okTree_snd {ns : List Nd} : okTree ns = true ↔ Snd ns := by
  constructor
  · intro h
    refine ⟨okTree_asc h, ?_, okTree_len h⟩
    intro n hn
    obtain ⟨i, hi, rfl⟩ := List.mem_iff_getElem.1 hn
    have := okTree_nd h i hi
    rwa [nAt_get hi] at this
  · rintro ⟨h1, h2, h3⟩
    unfold okTree
    rw [decide_eq_true h3, Bool.true_and]
    refine sorted_yes fun k hk => ?_
    cases k with
    | zero => rw [okAt_zero, nAt_get hk]; exact h2 _ (List.getElem_mem hk)
    | succ k =>
      rw [okAt_succ, nAt_get hk, nAt_get (show k < ns.length by omega), h2 _ (List.getElem_mem hk), Bool.true_and]
      exact List.pairwise_iff_getElem.1 h1 k (k + 1) (by omega) hk (by omega)
theorem Snd.wo {ns : List Nd} (h : Snd ns) (p : ByteArray) : Snd (woN ns p) :=
  ⟨asc_wo h.1 p, fun n hn => h.2.1 n (List.mem_filter.1 hn).1, Nat.le_trans (List.length_filter_le ..) h.2.2⟩
theorem Snd.wi {ns : List Nd} (h : Snd ns) {n : Nd} (hn : okNd n = true) (hl : ns.length < 1000 ∨ ∃ a ∈ ns, (a.path.toList == n.path.toList) = true) : Snd (wiN ns n) := by
  refine ⟨asc_wi h.1 n, fun m hm => ?_, ?_⟩
  · rcases wi_mem hm with h1 | rfl
    · exact h.2.1 m h1
    · exact hn
  · rw [wi_len9 h.1 n]
    have := h.2.2
    rcases hl with hl | hl
    · omega
    · rw [skp_one h.1 hl]; omega
theorem okS_mor {v : Int} (h : okS v = true) : okS (mor v) = true := by
  unfold okS mor at *
  simp only [Bool.and_eq_true, decide_eq_true_eq] at *
  split <;> omega
theorem Snd.touch {ns : List Nd} (h : Snd ns) (p : ByteArray) {z : Int} (hz : okS z = true) : Snd (toN ns p z) := by
  unfold toN
  split
  · rename_i hf
    obtain ⟨h1, h2⟩ := found_mem hf
    refine h.wi ?_ (.inr ⟨_, h1, by simp⟩)
    have h3 := h.2.1 _ h1
    unfold okNd at h3 ⊢
    simp only [Bool.and_eq_true] at h3 ⊢
    obtain ⟨⟨⟨⟨⟨⟨a1, a2⟩, a3⟩, a4⟩, a5⟩, a6⟩, a7⟩ := h3
    exact ⟨⟨⟨⟨⟨⟨a1, a2⟩, a3⟩, okS_mor a4⟩, a5⟩, a6⟩, hz⟩
  · exact h
theorem doO_snd {ns : List Nd} (h : Snd ns) (o : Op5) {z : Int} (hz : okS z = true) : Snd (doO ns o z).2.1 := by
  unfold doO
  split
  · exact h
  rename_i hw
  have hw' : wfO o = true := by simpa using hw
  have hd : o.data.size ≤ 64 := by
    unfold wfO at hw'
    simp only [Bool.and_eq_true, decide_eq_true_eq] at hw'
    exact hw'.1.1.2
  split
  · split
    · exact h
    split
    · exact h
    rename_i hp
    split
    · exact h
    split
    · exact h
    rename_i hl
    refine Snd.touch (h.wi ?_ (.inl (by have := h.2.2; omega))) _ hz
    have hp' : okPath (nameO ns o) = true := by simpa using hp
    unfold okNd
    simp only [Bool.and_eq_true, decide_eq_true_eq]
    exact ⟨⟨⟨⟨⟨⟨hp', hd⟩, by decide⟩, by decide⟩, hz⟩, hz⟩, hz⟩
  · split
    · exact h
    rename_i hf
    split
    · exact h
    split
    · split
      · exact h
      · exact (h.wo _).touch _ hz
    split
    · obtain ⟨h1, h2⟩ := found_mem (show ns.findIdx (isP o.path) < ns.length by omega)
      refine h.wi ?_ (.inr ⟨_, h1, by simp⟩)
      have h3 := h.2.1 _ h1
      unfold okNd at h3 ⊢
      simp only [Bool.and_eq_true, decide_eq_true_eq] at h3 ⊢
      obtain ⟨⟨⟨⟨⟨⟨a1, a2⟩, a3⟩, a4⟩, a5⟩, a6⟩, a7⟩ := h3
      exact ⟨⟨⟨⟨⟨⟨a1, hd⟩, okS_mor a3⟩, a4⟩, a5⟩, hz⟩, a7⟩
    · exact h

end Go.Proofs.YtcopcegamadkgaaDoor

namespace Go.Proofs.YtcopcegamadkgaaDoor
open Go.RowKit Go.Shelf

/-- What takes one list of nodes to the other. -/
def delE (a : Nd) : Ef := ⟨true, { nd0 with path := a.path }⟩
def putE (b : Nd) : Ef := ⟨false, b⟩
/-- The equality of two nodes, as the program asks for it. -/
def eqNd (a b : Nd) : Bool := (a.path.toList == b.path.toList) && ((a.data.toList == b.data.toList) && ((a.ver == b.ver) && ((a.cver == b.cver) && ((a.cz == b.cz) && ((a.mz == b.mz) && (a.pz == b.pz))))))
def dif : List Nd → List Nd → List Ef
  | [], now => now.map putE
  | a :: was, [] => (a :: was).map delE
  | a :: was, b :: now =>
    if ltP b.path a.path then putE b :: dif (a :: was) now
    else if ltP a.path b.path then delE a :: dif was (b :: now)
    else if eqNd a b then dif was now else putE b :: dif was now
theorem dif_len (A B : List Nd) : (dif A B).length ≤ A.length + B.length := by
  fun_induction dif A B <;> simp_all <;> omega
theorem drop_nAt {A : List Nd} {i : Nat} (h : i < A.length) : A.drop i = nAt A i :: A.drop (i + 1) := by rw [nAt_get h]; exact (List.drop_eq_getElem_cons h)
theorem dif_nil (A B : List Nd) (i j : Nat) (hi : A.length ≤ i) (hj : j < B.length) : dif (A.drop i) (B.drop j) = putE (nAt B j) :: dif (A.drop i) (B.drop (j + 1)) := by
  rw [List.drop_of_length_le hi, drop_nAt hj]
  simp [dif]
theorem dif_del (A B : List Nd) (i j : Nat) (hi : i < A.length) (hj : B.length ≤ j) : dif (A.drop i) (B.drop j) = delE (nAt A i) :: dif (A.drop (i + 1)) (B.drop j) := by
  rw [List.drop_of_length_le hj, drop_nAt hi]
  cases h : A.drop (i + 1) with
  | nil => simp [dif]
  | cons a l => simp [dif]
theorem dif_lt (A B : List Nd) (i j : Nat) (hi : i < A.length) (hj : j < B.length) (h : ltP (nAt B j).path (nAt A i).path = true) : dif (A.drop i) (B.drop j) = putE (nAt B j) :: dif (A.drop i) (B.drop (j + 1)) := by
  rw [drop_nAt hi, drop_nAt hj, dif, if_pos h]
theorem dif_gt (A B : List Nd) (i j : Nat) (hi : i < A.length) (hj : j < B.length) (h : ltP (nAt B j).path (nAt A i).path = false) (h2 : ltP (nAt A i).path (nAt B j).path = true) : dif (A.drop i) (B.drop j) = delE (nAt A i) :: dif (A.drop (i + 1)) (B.drop j) := by
  rw [drop_nAt hi, drop_nAt hj, dif, if_neg (by simp [h]), if_pos h2]
theorem dif_eq (A B : List Nd) (i j : Nat) (hi : i < A.length) (hj : j < B.length) (h : ltP (nAt B j).path (nAt A i).path = false) (h2 : ltP (nAt A i).path (nAt B j).path = false) : dif (A.drop i) (B.drop j) = (if eqNd (nAt A i) (nAt B j) then [] else [putE (nAt B j)]) ++ dif (A.drop (i + 1)) (B.drop (j + 1)) := by
  rw [drop_nAt hi, drop_nAt hj, dif, if_neg (by simp [h]), if_neg (by simp [h2])]
  split <;> rfl
theorem erowP_one (ns : List Ef) (n : Ef) : erow (ns ++ [n]) = erow ns ++ efL n := by rw [erow_append]; simp [erow]
theorem efLP_cells (w : World) (n : Ef) (t : TypeId) : ∀ j u, (efL n)[j]? = some u → (w.alloc (.cells #[.bool n.del, .string n.nd.path, .string n.nd.data, .int .i64 n.nd.ver, .int .i64 n.nd.cver, .int .i64 n.nd.cz, .int .i64 n.nd.mz, .int .i64 n.nd.pz] t)).cell? ((⟨w.heap.size, 0, none⟩ : Addr).add j) = some u := by
  intro j u hj
  rw [Addr.add_lit, Nat.zero_add, cell_of (heap_alloc_new w _) j, ← hj]
  simp [efL]
theorem efLP_one (n : Ef) : ∀ u ∈ efL n, u.oneCell' = true := by
  intro u hu
  simp only [efL, List.mem_cons, List.mem_nil_iff, or_false] at hu
  rcases hu with rfl | rfl | rfl | rfl | rfl | rfl | rfl | rfl <;> rfl
theorem Tryd.infoEP : (Tryd.prog.info? 157).map (fun i => (i.zero, i.size, i.bytes)) = some (some (.agg #[.bool false, .string ByteArray.empty, .string ByteArray.empty, .int .i64 0, .int .i64 0, .int .i64 0, .int .i64 0, .int .i64 0]), 8, 80) := by kernel_rfl
/-- One effect more. -/
theorem OwnE.snocP {W w5 w : World} {vo v5 : Value} {acc : List Ef} {f : Ef} {ob : Obj} (ho : OwnE 157 W w.heap.size vo acc) (hb : Below w.heap.size w W) (ho5 : w5.ownsRow w.heap.size 157 8 v5 (acc.length + 1) (erow acc ++ efL f)) (hg5 : (W.alloc ob).grownBy w5 vo.ownBlock) : OwnE 157 w5 w.heap.size v5 (acc ++ [f]) ∧ Below w.heap.size w w5 := by
  refine ⟨?_, (hb.alloc hb.size _).grown hg5 (by have := hb.size; simp; omega) (fun q hq => (World.ownsRow.lt ho q hq).1)⟩
  unfold OwnE
  rw [List.length_append, erowP_one]
  exact ho5

set_option maxHeartbeats 4000000 in
set_option maxRecDepth 100000 in
theorem l3Diff_any (w : World) (va vb : Value) (Al Bl : List Nd) (ha : RdN w va Al) (hb : RdN w vb Bl) (hna : Al.length ≤ 1000) (hnb : Bl.length ≤ 1000) :
    Calls Tryd.prog 147 #[va, vb] w fun e w' => ∃ v', e = .returned v' ∧ OwnE 157 w' w.heap.size v' (dif Al Bl) ∧ Below w.heap.size w w' := by
  obtain ⟨i0, hi0, hz0, hz1, hz2⟩ := info_parts Tryd.infoEP
  obtain ⟨ao, ca, rfl, _, _⟩ := ha.len
  obtain ⟨bo, cb, rfl, _, _⟩ := hb.len
  have HA : Hid (RdN w (.slice ao Al.length ca) Al) := ha
  have HB' : Hid (RdN w (.slice bo Bl.length cb) Bl) := hb
  have hdl := dif_len Al Bl
  clear ha hb
  go_enter Tryd.func147, Tryd.ntmps147
  have O0 : Hid (OwnE 157 (w.alloc (.cells #[] 157)) w.heap.size (.slice (some ⟨w.heap.size, 0, none⟩) 0 0) []) := World.ownsRow_lit w #[] 0 (Nat.le_refl _) (Nat.zero_le _) rfl
  have B0 : Hid (Below w.heap.size w (w.alloc (.cells #[] 157))) := (Below.refl _ _).alloc (Nat.le_refl _) _
  have HCA : Hid (∀ i, i < Al.length → ∃ b o, ao = some ⟨b, o, none⟩ ∧ b < w.heap.size ∧ CellsN w b (o + i * 7) (nAt Al i)) := by
    intro i hia
    obtain ⟨ao', cap', e', -, -, h3⟩ := HA.out
    simp only [Value.slice.injEq] at e'
    obtain ⟨rfl, -, -⟩ := e'
    rcases h3 with h3 | ⟨b, o, rfl, hb, hc⟩
    · rw [h3] at hia; simp at hia
    · exact ⟨b, o, rfl, hb, hc i hia⟩
  have HCB : Hid (∀ i, i < Bl.length → ∃ b o, bo = some ⟨b, o, none⟩ ∧ b < w.heap.size ∧ CellsN w b (o + i * 7) (nAt Bl i)) := by
    intro i hia
    obtain ⟨ao', cap', e', -, -, h3⟩ := HB'.out
    simp only [Value.slice.injEq] at e'
    obtain ⟨rfl, -, -⟩ := e'
    rcases h3 with h3 | ⟨b, o, rfl, hb, hc⟩
    · rw [h3] at hia; simp at hia
    · exact ⟨b, o, rfl, hb, hc i hia⟩
  clear HA HB'
  go_wp2
  go_loopw [5, 6, 7] (fun vo vi vj wr => ∃ (i j : Nat) (acc : List Ef), i ≤ Al.length ∧ j ≤ Bl.length ∧ vi = .int .i64 (i : Int) ∧ vj = .int .i64 (j : Int) ∧ Hid (acc ++ dif (Al.drop i) (Bl.drop j) = dif Al Bl) ∧ Hid (OwnE 157 wr w.heap.size vo acc) ∧ Hid (Below w.heap.size w wr)) (fun _ i j _ => (Al.length - (intOf i).toNat) + (Bl.length - (intOf j).toNat))
  case atStart => exact ⟨0, 0, [], Nat.zero_le _, Nat.zero_le _, rfl, rfl, rfl, O0, B0⟩
  case round =>
    clear O0 B0
    obtain ⟨i, j, acc, hi, hj, rfl, rfl, HD, HO, HB⟩ := hrel
    have sB := HB.out.size
    have hacc : acc.length ≤ 2000 := by
      have := congrArg List.length HD.out
      rw [List.length_append] at this
      omega
    by_cases hia : i < Al.length
    · have hiaI : (i : Int) < (Al.length : Int) := by omega
      have hieq : ((i : Int) == (Al.length : Int)) = false := beq_eq_false_iff_ne.2 (by omega)
      obtain ⟨ab, ai, hao, hab, hac⟩ := HCA.out i hia
      subst hao
      obtain ⟨a0, a1, a2, a3, a4, a5, a6⟩ := hac.below HB.out hab
      have HAC : Hid (CellsN w ab (ai + i * 7) (nAt Al i)) := hac
      clear hac
      by_cases hjb : j < Bl.length
      · have hjbI : (j : Int) < (Bl.length : Int) := by omega
        have hjeq : ((j : Int) == (Bl.length : Int)) = false := beq_eq_false_iff_ne.2 (by omega)
        obtain ⟨bb, bi, hbo, hbb, hbc⟩ := HCB.out j hjb
        subst hbo
        obtain ⟨c0, c1, c2, c3, c4, c5, c6⟩ := hbc.below HB.out hbb
        have HBC : Hid (CellsN w bb (bi + j * 7) (nAt Bl j)) := hbc
        clear hbc
        cases hl1 : ltP (nAt Bl j).path (nAt Al i).path with
        | true =>
          have HD2 : Hid (acc ++ [putE (nAt Bl j)] ++ dif (Al.drop i) (Bl.drop (j + 1)) = dif Al Bl) := by
            show _ = _
            rw [← HD.out, dif_lt Al Bl i j hia hjb hl1, List.append_assoc]
            rfl
          have hless : Op.bytesLess (nAt Bl j).path.toList (nAt Al i).path.toList = true := hl1
          generalize nAt Bl j = nb at *
          generalize nAt Al i = na at *
          clear HD
          go_wp2
          go_quiet (fail)
          have HO9 : Hid (OwnE 157 (wr.drewN nq) w.heap.size u5 acc) := HO.out.below (below_drewN' wr nq)
          have HB9 : Hid (Below w.heap.size w (wr.drewN nq)) := HB.out.trans ((below_drewN' wr nq).mono sB)
          go_wp2_with (at_builtin; go_must (refine wpList_append_own _ rfl _ _ 104 rfl w.heap.size 157 i0 (.agg #[.bool false, .string ByteArray.empty, .string ByteArray.empty, .int .i64 0, .int .i64 0, .int .i64 0, .int .i64 0, .int .i64 0]) 8 80 Tryd.underlying104 hi0 hz0 hz1 hz2 rfl (by decide) _ _ _ rfl (HO9.out.alloc _) ⟨(wr.drewN nq).heap.size, 0, none⟩ 1 1 (efL (putE nb)) rfl rfl (efLP_cells _ _ _) (efLP_one _) ?_ ?_ ?_ ?_))
          · unfold maxLen; omega
          · omega
          · simp; omega
          intro v5 w5 ho5 hg5 _
          obtain ⟨o5, b5⟩ := HO9.out.snocP HB9.out ho5 hg5
          have O5 : Hid (OwnE 157 w5 w.heap.size v5 (acc ++ [putE nb])) := o5
          have B5 : Hid (Below w.heap.size w w5) := b5
          clear o5 b5 ho5 hg5 HO HB HO9 HB9 a0 a1 a2 a3 a4 a5 a6 c0 c1 c2 c3 c4 c5 c6
          go_wp2
          exact ⟨⟨i, j + 1, _, by omega, by omega, by go_num, by go_num, HD2, O5, B5⟩, by simp [intOf]; omega⟩
        | false =>
          have hless : Op.bytesLess (nAt Bl j).path.toList (nAt Al i).path.toList = false := hl1
          cases hl2 : ltP (nAt Al i).path (nAt Bl j).path with
          | true =>
            have HD2 : Hid (acc ++ [delE (nAt Al i)] ++ dif (Al.drop (i + 1)) (Bl.drop j) = dif Al Bl) := by
              show _ = _
              rw [← HD.out, dif_gt Al Bl i j hia hjb hl1 hl2, List.append_assoc]
              rfl
            have hless2 : Op.bytesLess (nAt Al i).path.toList (nAt Bl j).path.toList = true := hl2
            generalize nAt Bl j = nb at *
            generalize nAt Al i = na at *
            clear HD hl1 hl2
            go_wp2
            go_quiet (fail)
            have HO1 : Hid (OwnE 157 (wr.drewN nq) w.heap.size u5 acc) := HO.out.below (below_drewN' wr nq)
            have HB1 : Hid (Below w.heap.size w (wr.drewN nq)) := HB.out.trans ((below_drewN' wr nq).mono sB)
            clear a0 a1 a2 a3 a4 a5 a6 c0 c1 c2 c3 c4 c5 c6 HO HB sB
            generalize wr.drewN nq = w7 at *
            have sB := HB1.out.size
            obtain ⟨a0, a1, a2, a3, a4, a5, a6⟩ := HAC.out.below HB1.out hab
            obtain ⟨c0, c1, c2, c3, c4, c5, c6⟩ := HBC.out.below HB1.out hbb
            go_wp2
            go_quiet (fail)
            have HO9 : Hid (OwnE 157 (w7.drewN nq) w.heap.size u5 acc) := HO1.out.below (below_drewN' w7 nq)
            have HB9 : Hid (Below w.heap.size w (w7.drewN nq)) := HB1.out.trans ((below_drewN' w7 nq).mono sB)
            go_wp2_with (at_builtin; go_must (refine wpList_append_own _ rfl _ _ 104 rfl w.heap.size 157 i0 (.agg #[.bool false, .string ByteArray.empty, .string ByteArray.empty, .int .i64 0, .int .i64 0, .int .i64 0, .int .i64 0, .int .i64 0]) 8 80 Tryd.underlying104 hi0 hz0 hz1 hz2 rfl (by decide) _ _ _ rfl (HO9.out.alloc _) ⟨(w7.drewN nq).heap.size, 0, none⟩ 1 1 (efL (delE na)) rfl rfl (efLP_cells _ _ _) (efLP_one _) ?_ ?_ ?_ ?_))
            · unfold maxLen; omega
            · omega
            · simp; omega
            intro v5 w5 ho5 hg5 _
            obtain ⟨o5, b5⟩ := HO9.out.snocP HB9.out ho5 hg5
            have O5 : Hid (OwnE 157 w5 w.heap.size v5 (acc ++ [delE na])) := o5
            have B5 : Hid (Below w.heap.size w w5) := b5
            clear o5 b5 ho5 hg5 HO1 HB1 HO9 HB9 a0 a1 a2 a3 a4 a5 a6 c0 c1 c2 c3 c4 c5 c6
            go_wp2
            exact ⟨⟨i + 1, j, _, by omega, by omega, by go_num, by go_num, HD2, O5, B5⟩, by simp [intOf]; omega⟩
          | false =>
            have hless2 : Op.bytesLess (nAt Al i).path.toList (nAt Bl j).path.toList = false := hl2
            have HD1 := dif_eq Al Bl i j hia hjb hl1 hl2
            have HD3 : Hid (acc ++ (if eqNd (nAt Al i) (nAt Bl j) then [] else [putE (nAt Bl j)]) ++ dif (Al.drop (i + 1)) (Bl.drop (j + 1)) = dif Al Bl) := by
              show _ = _
              rw [← HD.out, HD1, List.append_assoc]
            generalize nAt Bl j = nb at *
            generalize nAt Al i = na at *
            clear HD hl1 hl2 HD1
            go_wp2
            go_quiet (fail)
            have HO1 : Hid (OwnE 157 (wr.drewN nq) w.heap.size u5 acc) := HO.out.below (below_drewN' wr nq)
            have HB1 : Hid (Below w.heap.size w (wr.drewN nq)) := HB.out.trans ((below_drewN' wr nq).mono sB)
            clear a0 a1 a2 a3 a4 a5 a6 c0 c1 c2 c3 c4 c5 c6 HO HB sB
            generalize wr.drewN nq = w7 at *
            have sB := HB1.out.size
            obtain ⟨a0, a1, a2, a3, a4, a5, a6⟩ := HAC.out.below HB1.out hab
            obtain ⟨c0, c1, c2, c3, c4, c5, c6⟩ := HBC.out.below HB1.out hbb
            go_wp2
            go_quiet (fail)
            have HO2 : Hid (OwnE 157 (w7.drewN nq) w.heap.size u5 acc) := HO1.out.below (below_drewN' w7 nq)
            have HB2 : Hid (Below w.heap.size w (w7.drewN nq)) := HB1.out.trans ((below_drewN' w7 nq).mono sB)
            clear a0 a1 a2 a3 a4 a5 a6 c0 c1 c2 c3 c4 c5 c6 HO1 HB1 sB
            generalize w7.drewN nq = w8 at *
            have sB := HB2.out.size
            obtain ⟨a0, a1, a2, a3, a4, a5, a6⟩ := HAC.out.below HB2.out hab
            obtain ⟨c0, c1, c2, c3, c4, c5, c6⟩ := HBC.out.below HB2.out hbb
            go_wp2
            cases e0 : (na.path.toList == nb.path.toList) with
            | false =>
              have HD2 : Hid (acc ++ [putE nb] ++ dif (Al.drop (i + 1)) (Bl.drop (j + 1)) = dif Al Bl) := by
                have h9 := HD3.out
                rw [if_neg (by unfold eqNd; rw [e0]; simp)] at h9
                exact h9
              clear HD3
              go_quiet (fail)
              have HO9 : Hid (OwnE 157 (w8.drewN nq) w.heap.size u5 acc) := HO2.out.below (below_drewN' w8 nq)
              have HB9 : Hid (Below w.heap.size w (w8.drewN nq)) := HB2.out.trans ((below_drewN' w8 nq).mono sB)
              go_wp2_with (at_builtin; go_must (refine wpList_append_own _ rfl _ _ 104 rfl w.heap.size 157 i0 (.agg #[.bool false, .string ByteArray.empty, .string ByteArray.empty, .int .i64 0, .int .i64 0, .int .i64 0, .int .i64 0, .int .i64 0]) 8 80 Tryd.underlying104 hi0 hz0 hz1 hz2 rfl (by decide) _ _ _ rfl (HO9.out.alloc _) ⟨(w8.drewN nq).heap.size, 0, none⟩ 1 1 (efL (putE nb)) rfl rfl (efLP_cells _ _ _) (efLP_one _) ?_ ?_ ?_ ?_))
              · unfold maxLen; omega
              · omega
              · simp; omega
              intro v5 w5 ho5 hg5 _
              obtain ⟨o5, b5⟩ := HO9.out.snocP HB9.out ho5 hg5
              have O5 : Hid (OwnE 157 w5 w.heap.size v5 (acc ++ [putE nb])) := o5
              have B5 : Hid (Below w.heap.size w w5) := b5
              clear o5 b5 ho5 hg5 HO2 HB2 HO9 HB9 a0 a1 a2 a3 a4 a5 a6 c0 c1 c2 c3 c4 c5 c6
              go_wp2
              exact ⟨⟨i + 1, j + 1, _, by omega, by omega, by go_num, by go_num, HD2, O5, B5⟩, by simp [intOf]; omega⟩
            | true =>
              cases e1 : (na.data.toList == nb.data.toList) with
              | false =>
                have HD2 : Hid (acc ++ [putE nb] ++ dif (Al.drop (i + 1)) (Bl.drop (j + 1)) = dif Al Bl) := by
                  have h9 := HD3.out
                  rw [if_neg (by unfold eqNd; rw [e0, e1]; simp)] at h9
                  exact h9
                clear HD3
                go_quiet (fail)
                have HO9 : Hid (OwnE 157 (w8.drewN nq) w.heap.size u5 acc) := HO2.out.below (below_drewN' w8 nq)
                have HB9 : Hid (Below w.heap.size w (w8.drewN nq)) := HB2.out.trans ((below_drewN' w8 nq).mono sB)
                go_wp2_with (at_builtin; go_must (refine wpList_append_own _ rfl _ _ 104 rfl w.heap.size 157 i0 (.agg #[.bool false, .string ByteArray.empty, .string ByteArray.empty, .int .i64 0, .int .i64 0, .int .i64 0, .int .i64 0, .int .i64 0]) 8 80 Tryd.underlying104 hi0 hz0 hz1 hz2 rfl (by decide) _ _ _ rfl (HO9.out.alloc _) ⟨(w8.drewN nq).heap.size, 0, none⟩ 1 1 (efL (putE nb)) rfl rfl (efLP_cells _ _ _) (efLP_one _) ?_ ?_ ?_ ?_))
                · unfold maxLen; omega
                · omega
                · simp; omega
                intro v5 w5 ho5 hg5 _
                obtain ⟨o5, b5⟩ := HO9.out.snocP HB9.out ho5 hg5
                have O5 : Hid (OwnE 157 w5 w.heap.size v5 (acc ++ [putE nb])) := o5
                have B5 : Hid (Below w.heap.size w w5) := b5
                clear o5 b5 ho5 hg5 HO2 HB2 HO9 HB9 a0 a1 a2 a3 a4 a5 a6 c0 c1 c2 c3 c4 c5 c6
                go_wp2
                exact ⟨⟨i + 1, j + 1, _, by omega, by omega, by go_num, by go_num, HD2, O5, B5⟩, by simp [intOf]; omega⟩
              | true =>
                cases e2 : (na.ver == nb.ver) with
                | false =>
                  have HD2 : Hid (acc ++ [putE nb] ++ dif (Al.drop (i + 1)) (Bl.drop (j + 1)) = dif Al Bl) := by
                    have h9 := HD3.out
                    rw [if_neg (by unfold eqNd; rw [e0, e1, e2]; simp)] at h9
                    exact h9
                  clear HD3
                  go_quiet (fail)
                  have HO9 : Hid (OwnE 157 (w8.drewN nq) w.heap.size u5 acc) := HO2.out.below (below_drewN' w8 nq)
                  have HB9 : Hid (Below w.heap.size w (w8.drewN nq)) := HB2.out.trans ((below_drewN' w8 nq).mono sB)
                  go_wp2_with (at_builtin; go_must (refine wpList_append_own _ rfl _ _ 104 rfl w.heap.size 157 i0 (.agg #[.bool false, .string ByteArray.empty, .string ByteArray.empty, .int .i64 0, .int .i64 0, .int .i64 0, .int .i64 0, .int .i64 0]) 8 80 Tryd.underlying104 hi0 hz0 hz1 hz2 rfl (by decide) _ _ _ rfl (HO9.out.alloc _) ⟨(w8.drewN nq).heap.size, 0, none⟩ 1 1 (efL (putE nb)) rfl rfl (efLP_cells _ _ _) (efLP_one _) ?_ ?_ ?_ ?_))
                  · unfold maxLen; omega
                  · omega
                  · simp; omega
                  intro v5 w5 ho5 hg5 _
                  obtain ⟨o5, b5⟩ := HO9.out.snocP HB9.out ho5 hg5
                  have O5 : Hid (OwnE 157 w5 w.heap.size v5 (acc ++ [putE nb])) := o5
                  have B5 : Hid (Below w.heap.size w w5) := b5
                  clear o5 b5 ho5 hg5 HO2 HB2 HO9 HB9 a0 a1 a2 a3 a4 a5 a6 c0 c1 c2 c3 c4 c5 c6
                  go_wp2
                  exact ⟨⟨i + 1, j + 1, _, by omega, by omega, by go_num, by go_num, HD2, O5, B5⟩, by simp [intOf]; omega⟩
                | true =>
                  cases e3 : (na.cver == nb.cver) with
                  | false =>
                    have HD2 : Hid (acc ++ [putE nb] ++ dif (Al.drop (i + 1)) (Bl.drop (j + 1)) = dif Al Bl) := by
                      have h9 := HD3.out
                      rw [if_neg (by unfold eqNd; rw [e0, e1, e2, e3]; simp)] at h9
                      exact h9
                    clear HD3
                    go_quiet (fail)
                    have HO9 : Hid (OwnE 157 (w8.drewN nq) w.heap.size u5 acc) := HO2.out.below (below_drewN' w8 nq)
                    have HB9 : Hid (Below w.heap.size w (w8.drewN nq)) := HB2.out.trans ((below_drewN' w8 nq).mono sB)
                    go_wp2_with (at_builtin; go_must (refine wpList_append_own _ rfl _ _ 104 rfl w.heap.size 157 i0 (.agg #[.bool false, .string ByteArray.empty, .string ByteArray.empty, .int .i64 0, .int .i64 0, .int .i64 0, .int .i64 0, .int .i64 0]) 8 80 Tryd.underlying104 hi0 hz0 hz1 hz2 rfl (by decide) _ _ _ rfl (HO9.out.alloc _) ⟨(w8.drewN nq).heap.size, 0, none⟩ 1 1 (efL (putE nb)) rfl rfl (efLP_cells _ _ _) (efLP_one _) ?_ ?_ ?_ ?_))
                    · unfold maxLen; omega
                    · omega
                    · simp; omega
                    intro v5 w5 ho5 hg5 _
                    obtain ⟨o5, b5⟩ := HO9.out.snocP HB9.out ho5 hg5
                    have O5 : Hid (OwnE 157 w5 w.heap.size v5 (acc ++ [putE nb])) := o5
                    have B5 : Hid (Below w.heap.size w w5) := b5
                    clear o5 b5 ho5 hg5 HO2 HB2 HO9 HB9 a0 a1 a2 a3 a4 a5 a6 c0 c1 c2 c3 c4 c5 c6
                    go_wp2
                    exact ⟨⟨i + 1, j + 1, _, by omega, by omega, by go_num, by go_num, HD2, O5, B5⟩, by simp [intOf]; omega⟩
                  | true =>
                    cases e4 : (na.cz == nb.cz) with
                    | false =>
                      have HD2 : Hid (acc ++ [putE nb] ++ dif (Al.drop (i + 1)) (Bl.drop (j + 1)) = dif Al Bl) := by
                        have h9 := HD3.out
                        rw [if_neg (by unfold eqNd; rw [e0, e1, e2, e3, e4]; simp)] at h9
                        exact h9
                      clear HD3
                      go_quiet (fail)
                      have HO9 : Hid (OwnE 157 (w8.drewN nq) w.heap.size u5 acc) := HO2.out.below (below_drewN' w8 nq)
                      have HB9 : Hid (Below w.heap.size w (w8.drewN nq)) := HB2.out.trans ((below_drewN' w8 nq).mono sB)
                      go_wp2_with (at_builtin; go_must (refine wpList_append_own _ rfl _ _ 104 rfl w.heap.size 157 i0 (.agg #[.bool false, .string ByteArray.empty, .string ByteArray.empty, .int .i64 0, .int .i64 0, .int .i64 0, .int .i64 0, .int .i64 0]) 8 80 Tryd.underlying104 hi0 hz0 hz1 hz2 rfl (by decide) _ _ _ rfl (HO9.out.alloc _) ⟨(w8.drewN nq).heap.size, 0, none⟩ 1 1 (efL (putE nb)) rfl rfl (efLP_cells _ _ _) (efLP_one _) ?_ ?_ ?_ ?_))
                      · unfold maxLen; omega
                      · omega
                      · simp; omega
                      intro v5 w5 ho5 hg5 _
                      obtain ⟨o5, b5⟩ := HO9.out.snocP HB9.out ho5 hg5
                      have O5 : Hid (OwnE 157 w5 w.heap.size v5 (acc ++ [putE nb])) := o5
                      have B5 : Hid (Below w.heap.size w w5) := b5
                      clear o5 b5 ho5 hg5 HO2 HB2 HO9 HB9 a0 a1 a2 a3 a4 a5 a6 c0 c1 c2 c3 c4 c5 c6
                      go_wp2
                      exact ⟨⟨i + 1, j + 1, _, by omega, by omega, by go_num, by go_num, HD2, O5, B5⟩, by simp [intOf]; omega⟩
                    | true =>
                      cases e5 : (na.mz == nb.mz) with
                      | false =>
                        have HD2 : Hid (acc ++ [putE nb] ++ dif (Al.drop (i + 1)) (Bl.drop (j + 1)) = dif Al Bl) := by
                          have h9 := HD3.out
                          rw [if_neg (by unfold eqNd; rw [e0, e1, e2, e3, e4, e5]; simp)] at h9
                          exact h9
                        clear HD3
                        go_quiet (fail)
                        have HO9 : Hid (OwnE 157 (w8.drewN nq) w.heap.size u5 acc) := HO2.out.below (below_drewN' w8 nq)
                        have HB9 : Hid (Below w.heap.size w (w8.drewN nq)) := HB2.out.trans ((below_drewN' w8 nq).mono sB)
                        go_wp2_with (at_builtin; go_must (refine wpList_append_own _ rfl _ _ 104 rfl w.heap.size 157 i0 (.agg #[.bool false, .string ByteArray.empty, .string ByteArray.empty, .int .i64 0, .int .i64 0, .int .i64 0, .int .i64 0, .int .i64 0]) 8 80 Tryd.underlying104 hi0 hz0 hz1 hz2 rfl (by decide) _ _ _ rfl (HO9.out.alloc _) ⟨(w8.drewN nq).heap.size, 0, none⟩ 1 1 (efL (putE nb)) rfl rfl (efLP_cells _ _ _) (efLP_one _) ?_ ?_ ?_ ?_))
                        · unfold maxLen; omega
                        · omega
                        · simp; omega
                        intro v5 w5 ho5 hg5 _
                        obtain ⟨o5, b5⟩ := HO9.out.snocP HB9.out ho5 hg5
                        have O5 : Hid (OwnE 157 w5 w.heap.size v5 (acc ++ [putE nb])) := o5
                        have B5 : Hid (Below w.heap.size w w5) := b5
                        clear o5 b5 ho5 hg5 HO2 HB2 HO9 HB9 a0 a1 a2 a3 a4 a5 a6 c0 c1 c2 c3 c4 c5 c6
                        go_wp2
                        exact ⟨⟨i + 1, j + 1, _, by omega, by omega, by go_num, by go_num, HD2, O5, B5⟩, by simp [intOf]; omega⟩
                      | true =>
                        cases e6 : (na.pz == nb.pz) with
                        | false =>
                          have HD2 : Hid (acc ++ [putE nb] ++ dif (Al.drop (i + 1)) (Bl.drop (j + 1)) = dif Al Bl) := by
                            have h9 := HD3.out
                            rw [if_neg (by unfold eqNd; rw [e0, e1, e2, e3, e4, e5, e6]; simp)] at h9
                            exact h9
                          clear HD3
                          go_quiet (fail)
                          have HO9 : Hid (OwnE 157 (w8.drewN nq) w.heap.size u5 acc) := HO2.out.below (below_drewN' w8 nq)
                          have HB9 : Hid (Below w.heap.size w (w8.drewN nq)) := HB2.out.trans ((below_drewN' w8 nq).mono sB)
                          go_wp2_with (at_builtin; go_must (refine wpList_append_own _ rfl _ _ 104 rfl w.heap.size 157 i0 (.agg #[.bool false, .string ByteArray.empty, .string ByteArray.empty, .int .i64 0, .int .i64 0, .int .i64 0, .int .i64 0, .int .i64 0]) 8 80 Tryd.underlying104 hi0 hz0 hz1 hz2 rfl (by decide) _ _ _ rfl (HO9.out.alloc _) ⟨(w8.drewN nq).heap.size, 0, none⟩ 1 1 (efL (putE nb)) rfl rfl (efLP_cells _ _ _) (efLP_one _) ?_ ?_ ?_ ?_))
                          · unfold maxLen; omega
                          · omega
                          · simp; omega
                          intro v5 w5 ho5 hg5 _
                          obtain ⟨o5, b5⟩ := HO9.out.snocP HB9.out ho5 hg5
                          have O5 : Hid (OwnE 157 w5 w.heap.size v5 (acc ++ [putE nb])) := o5
                          have B5 : Hid (Below w.heap.size w w5) := b5
                          clear o5 b5 ho5 hg5 HO2 HB2 HO9 HB9 a0 a1 a2 a3 a4 a5 a6 c0 c1 c2 c3 c4 c5 c6
                          go_wp2
                          exact ⟨⟨i + 1, j + 1, _, by omega, by omega, by go_num, by go_num, HD2, O5, B5⟩, by simp [intOf]; omega⟩
                        | true =>
                          have HD2 : Hid (acc ++ dif (Al.drop (i + 1)) (Bl.drop (j + 1)) = dif Al Bl) := by
                            have h9 := HD3.out
                            rw [if_pos (by unfold eqNd; rw [e0, e1, e2, e3, e4, e5, e6]; rfl), List.append_nil] at h9
                            exact h9
                          clear HD3
                          go_quiet (fail)
                          have HO9 : Hid (OwnE 157 (w8.drewN nq) w.heap.size u5 acc) := HO2.out.below (below_drewN' w8 nq)
                          have HB9 : Hid (Below w.heap.size w (w8.drewN nq)) := HB2.out.trans ((below_drewN' w8 nq).mono sB)
                          clear HO2 HB2
                          go_wp2
                          exact ⟨⟨i + 1, j + 1, _, by omega, by omega, by go_num, by go_num, HD2, HO9, HB9⟩, by simp [intOf]; omega⟩
      · have hjeq : ((j : Int) == (Bl.length : Int)) = true := by simp; omega
        have hjbI : ¬ (j : Int) < (Bl.length : Int) := by omega
        have HD2 : Hid (acc ++ [delE (nAt Al i)] ++ dif (Al.drop (i + 1)) (Bl.drop j) = dif Al Bl) := by
          show _ = _
          rw [← HD.out, dif_del Al Bl i j hia (by omega), List.append_assoc]
          rfl
        generalize nAt Al i = na at *
        clear HD
        go_wp2
        go_quiet (fail)
        have HO1 : Hid (OwnE 157 (wr.drewN nq) w.heap.size u5 acc) := HO.out.below (below_drewN' wr nq)
        have HB1 : Hid (Below w.heap.size w (wr.drewN nq)) := HB.out.trans ((below_drewN' wr nq).mono sB)
        clear a0 a1 a2 a3 a4 a5 a6 HO HB sB
        generalize wr.drewN nq = w7 at *
        have sB := HB1.out.size
        obtain ⟨a0, a1, a2, a3, a4, a5, a6⟩ := HAC.out.below HB1.out hab
        go_wp2
        go_quiet (fail)
        have HO9 : Hid (OwnE 157 (w7.drewN nq) w.heap.size u5 acc) := HO1.out.below (below_drewN' w7 nq)
        have HB9 : Hid (Below w.heap.size w (w7.drewN nq)) := HB1.out.trans ((below_drewN' w7 nq).mono sB)
        go_wp2_with (at_builtin; go_must (refine wpList_append_own _ rfl _ _ 104 rfl w.heap.size 157 i0 (.agg #[.bool false, .string ByteArray.empty, .string ByteArray.empty, .int .i64 0, .int .i64 0, .int .i64 0, .int .i64 0, .int .i64 0]) 8 80 Tryd.underlying104 hi0 hz0 hz1 hz2 rfl (by decide) _ _ _ rfl (HO9.out.alloc _) ⟨(w7.drewN nq).heap.size, 0, none⟩ 1 1 (efL (delE na)) rfl rfl (efLP_cells _ _ _) (efLP_one _) ?_ ?_ ?_ ?_))
        · unfold maxLen; omega
        · omega
        · simp; omega
        intro v5 w5 ho5 hg5 _
        obtain ⟨o5, b5⟩ := HO9.out.snocP HB9.out ho5 hg5
        have O5 : Hid (OwnE 157 w5 w.heap.size v5 (acc ++ [delE na])) := o5
        have B5 : Hid (Below w.heap.size w w5) := b5
        clear o5 b5 ho5 hg5 HO1 HB1 HO9 HB9 a0 a1 a2 a3 a4 a5 a6
        go_wp2
        exact ⟨⟨i + 1, j, _, by omega, by omega, by go_num, by go_num, HD2, O5, B5⟩, by simp [intOf]; omega⟩
    · have hieq : ((i : Int) == (Al.length : Int)) = true := by simp; omega
      have hiaI : ¬ (i : Int) < (Al.length : Int) := by omega
      by_cases hjb : j < Bl.length
      · have hjbI : (j : Int) < (Bl.length : Int) := by omega
        obtain ⟨bb, bi, hbo, hbb, hbc⟩ := HCB.out j hjb
        subst hbo
        obtain ⟨c0, c1, c2, c3, c4, c5, c6⟩ := hbc.below HB.out hbb
        clear hbc
        have HD2 : Hid (acc ++ [putE (nAt Bl j)] ++ dif (Al.drop i) (Bl.drop (j + 1)) = dif Al Bl) := by
          show _ = _
          rw [← HD.out, dif_nil Al Bl i j (by omega) hjb, List.append_assoc]
          rfl
        generalize nAt Bl j = nb at *
        clear HD
        go_wp2
        go_quiet (fail)
        have HO9 : Hid (OwnE 157 (wr.drewN nq) w.heap.size u5 acc) := HO.out.below (below_drewN' wr nq)
        have HB9 : Hid (Below w.heap.size w (wr.drewN nq)) := HB.out.trans ((below_drewN' wr nq).mono sB)
        go_wp2_with (at_builtin; go_must (refine wpList_append_own _ rfl _ _ 104 rfl w.heap.size 157 i0 (.agg #[.bool false, .string ByteArray.empty, .string ByteArray.empty, .int .i64 0, .int .i64 0, .int .i64 0, .int .i64 0, .int .i64 0]) 8 80 Tryd.underlying104 hi0 hz0 hz1 hz2 rfl (by decide) _ _ _ rfl (HO9.out.alloc _) ⟨(wr.drewN nq).heap.size, 0, none⟩ 1 1 (efL (putE nb)) rfl rfl (efLP_cells _ _ _) (efLP_one _) ?_ ?_ ?_ ?_))
        · unfold maxLen; omega
        · omega
        · simp; omega
        intro v5 w5 ho5 hg5 _
        obtain ⟨o5, b5⟩ := HO9.out.snocP HB9.out ho5 hg5
        have O5 : Hid (OwnE 157 w5 w.heap.size v5 (acc ++ [putE nb])) := o5
        have B5 : Hid (Below w.heap.size w w5) := b5
        clear o5 b5 ho5 hg5 HO HB HO9 HB9 c0 c1 c2 c3 c4 c5 c6
        go_wp2
        exact ⟨⟨i, j + 1, _, by omega, by omega, by go_num, by go_num, HD2, O5, B5⟩, by simp [intOf]; omega⟩
      · have HF : Hid (acc = dif Al Bl) := by
          have := HD.out
          rw [List.drop_of_length_le (by omega), List.drop_of_length_le (by omega)] at this
          show _ = _
          simpa [dif] using this
        have hjbI : ¬ (j : Int) < (Bl.length : Int) := by omega
        go_wp2
        go_ret
        exact ⟨_, rfl, by rw [← HF.out]; exact HO.out, HB.out⟩

end Go.Proofs.YtcopcegamadkgaaDoor

