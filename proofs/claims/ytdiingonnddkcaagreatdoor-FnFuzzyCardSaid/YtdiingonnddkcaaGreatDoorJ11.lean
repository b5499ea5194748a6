import Derived.Test.YtdiingonnddkcaaGreatDoorJ10
import Derived.Test.YtdiingonnddkcaaGreatDoorJ04
import Derived.Laws.CopyRow
import Derived.Laws.AppendOwn
import Derived.Test.YtdiingonnddkcaaGreatDoorJ07
import Derived.Test.YtdiingonnddkcaaGreatDoorJ08
namespace Go.Proofs.YtdiingonnddkcaaGreatDoor
open Go.RowKit Go.Shelf

set_option linter.unusedSimpArgs false in
set_option maxHeartbeats 2000000 in
set_option maxRecDepth 100000 in
theorem count_none (w : World) (D lo : Nat) (z : Int) (v : Value) (ns : List Nd) (s : ByteArray) (h : Df w D lo z v ns) (hs : okPath s = true) (hl : ¬ ns.findIdx (isP (parB s)) < ns.length) :
    Calls Tryz.prog 109 #[.pointer (some ⟨D, 0, none⟩), .string s] w fun e w' => e = .returned (.tuple #[]) ∧ Below w.heap.size w w' := by
  have hlt := h.s.lt
  have HP : Hid (∀ W, Calls Tryz.prog 75 #[.string s] W fun e w' => e = .returned (.string (parB s)) ∧ w' = W) := fun W => parentPath_any W s hs
  have HF : Hid (∀ W, Below w.heap.size w W → Calls Tryz.prog 35 #[v, .string (parB s)] W fun e w' => e = .returned (.tuple #[.int .i64 (plc ns (parB s) : Int), .bool false]) ∧ Below W.heap.size W w') := fun W hW => by
    have h9 := find9 W v ns (parB s) (h.o.below hW).rd h.n
    rw [decide_eq_false hl] at h9
    exact h9
  have D1 : Hid (Df w.drew D lo z v ns) := h.below (below_drewN' w 1)
  have B1 : Hid (Below w.heap.size w w.drew) := below_drewN' w 1
  clear h hs hl
  generalize parB s = p at *
  go_enter Tryz.func109, Tryz.ntmps109
  go_wp2_with fail
  refine wp_region_held_drew (S := fun W => W.cell? ⟨D, 0, none⟩ = some v) (by kernel_rfl) (D1.out.s.cl 0 _ rfl) (fun hHeld => ?_)
  generalize w.drew = w1 at *
  iterate 5 (refine tkI9 ?_ (by kernel_rfl) (fun _ => id) hHeld ?_ ?_; rotate_left; · intro w9 hS9; go_simp; try with_reducible rfl)
  refine rdA9 5 rfl (by kernel_rfl) (fun K hK => ?_)
  go_simp
  refine (HP.out _).mono ?_
  rintro e w2 ⟨rfl, rfl⟩
  clear hHeld
  refine hK.out _ _ (D1.out.s.cl 0 _ rfl) (fun hHeld => ?_)
  clear hK K
  refine rdA9 6 rfl (by kernel_rfl) (fun K hK => ?_)
  go_simp
  refine (HF.out _ B1.out).mono ?_
  rintro e w2 ⟨rfl, b2⟩
  have B2 := hd9 (B1.out.trans (b2.mono B1.out.size))
  have D2 := hd9 (D1.out.below b2)
  clear hHeld b2
  refine hK.out _ _ (D2.out.s.cl 0 _ rfl) (fun hHeld => ?_)
  clear hK K
  iterate 5 (refine tkI9 ?_ (by kernel_rfl) (fun _ => id) hHeld ?_ ?_; rotate_left; · intro w9 hS9; clear hS9; go_simp; try with_reducible rfl)
  refine wpAnyH_done (by kernel_rfl) ?_ _
  simp only [Act.put, sT9, sZ9, sS9]
  clear hHeld HF HP
  go_wp2_with fail
  exact bodyPost_ret (v := .tuple #[]) (by simp [results, Tryz.results109, go_sem]) rfl ⟨rfl, B2.out⟩

theorem Tw.setRow {w w' : World} {b g j : Nat} {o' : Option Nat} {x : Value} (h : Tw w b (some g) w' o') : Tw w b (some g) (w'.setCell ⟨g, j, none⟩ x) o' := by
  refine ⟨h.os, h.tape, h.output, by simpa using h.size, fun q hq hb ho => ?_, h.own⟩
  rw [Below.heap_setCell w' ⟨g, j, none⟩ x q (fun e => ho (by rw [e]))]
  exact h.block q hq hb ho
theorem nAt_set {ns : List Nd} {k : Nat} {m : Nd} (h : k < ns.length) : nAt (ns.set k m) k = m := by
  rw [nAt_get (by rw [List.length_set]; exact h)]
  simp
/-- What countChild leaves behind. -/
def CntPost (w : World) (D lo : Nat) (z : Int) (v : Value) (ns : List Nd) (p : ByteArray) (e : Ending) (w' : World) : Prop :=
  e = .returned (.tuple #[]) ∧ Df w' D lo z v (toN ns p z) ∧ Tw w D v.ownBlock w' v.ownBlock

set_option linter.unusedSimpArgs false in
set_option maxHeartbeats 2000000 in
set_option maxRecDepth 100000 in
theorem count_some (w : World) (D lo : Nat) (z : Int) (v : Value) (ns : List Nd) (s : ByteArray) (h : Df w D lo z v ns) (hs : okPath s = true) (hz : okS z = true) (hl : ns.findIdx (isP (parB s)) < ns.length) :
    Calls Tryz.prog 109 #[.pointer (some ⟨D, 0, none⟩), .string s] w (CntPost w D lo z v ns (parB s)) := by
  have hlt := h.s.lt
  have HP : Hid (∀ W, Calls Tryz.prog 75 #[.string s] W fun e w' => e = .returned (.string (parB s)) ∧ w' = W) := fun W => parentPath_any W s hs
  have HF : Hid (∀ W, Below w.heap.size w W → Calls Tryz.prog 35 #[v, .string (parB s)] W fun e w' => e = .returned (.tuple #[.int .i64 (ns.findIdx (isP (parB s)) : Int), .bool true]) ∧ Below W.heap.size W w') := fun W hW => by
    have h9 := find9 W v ns (parB s) (h.o.below hW).rd h.n
    rw [decide_eq_true hl, (idx_some h.n.1 hl).2] at h9
    exact h9
  have D1 : Hid (Df w.drew D lo z v ns) := h.below (below_drewN' w 1)
  have B1 : Hid (Below w.heap.size w w.drew) := below_drewN' w 1
  have HTO := hd9 (to_set (z := z) h.n.1 hl)
  have HZ := hd9 hz
  clear h hs hz
  generalize parB s = p at *
  obtain ⟨I, hI⟩ : ∃ I, I = ns.findIdx (isP p) := ⟨_, rfl⟩
  rw [← hI] at HF hl HTO
  clear hI
  have hL : (I : Int) < (ns.length : Int) := by omega
  have hg0 : (0 : Int) ≤ (I : Int) := by omega
  go_enter Tryz.func109, Tryz.ntmps109
  go_wp2_with fail
  refine wp_region_held_drew (S := fun W => W.cell? ⟨D, 0, none⟩ = some v) (by kernel_rfl) (D1.out.s.cl 0 _ rfl) (fun hHeld => ?_)
  generalize w.drew = w1 at *
  iterate 5 (refine tkI9 ?_ (by kernel_rfl) (fun _ => id) hHeld ?_ ?_; rotate_left; · intro w9 hS9; go_simp; try with_reducible rfl)
  refine rdA9 5 rfl (by kernel_rfl) (fun K hK => ?_)
  go_simp
  refine (HP.out _).mono ?_
  rintro e w2 ⟨rfl, rfl⟩
  clear hHeld
  refine hK.out _ _ (D1.out.s.cl 0 _ rfl) (fun hHeld => ?_)
  clear hK K
  refine rdA9 6 rfl (by kernel_rfl) (fun K hK => ?_)
  go_simp
  refine (HF.out _ B1.out).mono ?_
  rintro e w2 ⟨rfl, b2⟩
  have B2 := hd9 (B1.out.trans (b2.mono B1.out.size))
  have D2 := hd9 (D1.out.below b2)
  clear hHeld b2
  refine hK.out _ _ (D2.out.s.cl 0 _ rfl) (fun hHeld => ?_)
  clear hK K
  iterate 5 (refine tkI9 ?_ (by kernel_rfl) (fun _ => id) hHeld ?_ ?_; rotate_left; · intro w9 hS9; clear hS9; go_simp; try with_reducible rfl)
  refine wpAnyH_done (by kernel_rfl) ?_ _
  simp only [Act.put, sT9, sZ9, sS9]
  clear hHeld HF HP
  obtain ⟨g, gc, hv, hlo, hgl, hce⟩ := D2.out.o.at hl
  subst hv
  have c0 := D2.out.s.cl 0 _ rfl
  have c1 := D2.out.s.cl 1 _ rfl
  have k3 := (hce I hl).all.2.2.2.1
  have k6 := (hce I hl).all.2.2.2.2.2.2
  have f3 : w2.frozen? ⟨g, I * 7 + 3, none⟩ = false := World.ownsRow.frozenAt D2.out.o _
  have f6 : w2.frozen? ⟨g, I * 7 + 6, none⟩ = false := World.ownsRow.frozenAt D2.out.o _
  have hgD : g ≠ D := fun e => D2.out.ne (by rw [e]; rfl)
  have hcv : 0 ≤ (nAt ns I).cver ∧ (nAt ns I).cver ≤ 2147483647 := by
    have := D2.out.n.2.1 (nAt ns I) (by rw [nAt_get hl]; exact List.getElem_mem hl)
    have := okNd_all this
    omega
  have HOM : Hid (∀ W, Calls Tryz.prog 114 #[.int .i64 (nAt ns I).cver] W fun e w' => e = .returned (.int .i64 (mor (nAt ns I).cver)) ∧ w' = W) := fun W => oneMore_any W _ hcv
  clear hce hcv
  go_wp2_with (go_at_call 114; refine (HOM.out _).mono ?_; rintro e w' ⟨rfl, rfl⟩)
  have p1 := (D2.out.o.put (k := I) (f := 3) (u := .int .i64 (mor (nAt ns I).cver)) (m := { nAt ns I with cver := mor (nAt ns I).cver }) hl (by omega) rfl).1
  have p2 := (p1.put (k := I) (f := 6) (u := .int .i64 z) (m := { nAt ns I with cver := mor (nAt ns I).cver, pz := z }) (by rw [List.length_set]; exact hl) (by omega) (by rw [nAt_set hl]; rfl)).1
  rw [List.set_set] at p2
  simp only [List.length_set] at p2
  have T2 := ((Tw.ofBelow B2.out D (some g)).setRow (j := I * 7 + 3) (x := .int .i64 (mor (nAt ns I).cver))).setRow (j := I * 7 + 6) (x := .int .i64 z)
  have S2 := (D2.out.s.other (c := g) (j := I * 7 + 3) (x := .int .i64 (mor (nAt ns I).cver)) hgD.symm).other (c := g) (j := I * 7 + 6) (x := .int .i64 z) hgD.symm
  refine bodyPost_ret (v := .tuple #[]) (by simp [results, Tryz.results109, go_sem]) rfl ⟨rfl, ⟨S2, ?_, D2.out.ne, D2.out.n.touch p HZ.out⟩, T2⟩
  rw [HTO.out]
  exact p2


/-- What a judge answers. -/
def JV (d : Int × List Nd × ByteArray) : Array Value := if d.1 = 0 then #[.string d.2.2, .nilIface] else #[.string ByteArray.empty, flt d.1]
/-- What a judge leaves behind. -/
def JP (w : World) (D lo : Nat) (z : Int) (v : Value) (d : Int × List Nd × ByteArray) (e : Ending) (w' : World) : Prop :=
  ∃ v', e = .returned (.tuple (JV d)) ∧ Df w' D lo z v' d.2.1 ∧ Tw w D v.ownBlock w' v'.ownBlock

theorem chk_JV {ns : List Nd} {o : Op5} {z : Int} (hw : wfO o = true) (hk : o.kind = 4) : JV (doO ns o z) = chkV ns o ∧ (doO ns o z).2.1 = ns := by
  have e : doO ns o z = if ¬ ns.findIdx (isP o.path) < ns.length then (2, ns, ⟨#[]⟩) else if o.ver ≠ -1 ∧ o.ver ≠ (nAt ns (ns.findIdx (isP o.path))).ver then (4, ns, ⟨#[]⟩) else (0, ns, o.path) := by
    unfold doO
    rw [hw, if_neg (show ¬ (!true) = true by decide), if_neg (show ¬ o.kind = 1 by omega), if_neg (show ¬ o.kind = 2 by omega), if_neg (show ¬ o.kind = 3 by omega)]
  rw [e]
  unfold chkV
  split
  · exact ⟨rfl, rfl⟩
  split
  · exact ⟨rfl, rfl⟩
  exact ⟨rfl, rfl⟩
/-- 'check' as a judge. -/
theorem check_judge (w : World) (D lo : Nat) (z : Int) (v : Value) (ns : List Nd) (o : Op5) (h : Df w D lo z v ns) (hw : wfO o = true) (hk : o.kind = 4) :
    Calls Tryz.prog 95 #[.pointer (some ⟨D, 0, none⟩), .agg #[.int .i64 o.kind, .string o.path, .string o.data, .int .i64 o.ver, .bool o.seq]] w (JP w D lo z v (doO ns o z)) := by
  refine (check_any w D lo z v ns o h).mono ?_
  rintro e w' ⟨rfl, b⟩
  obtain ⟨e1, e2⟩ := chk_JV (z := z) hw hk (ns := ns)
  exact ⟨v, by rw [e1], by rw [e2]; exact h.below b, Tw.ofBelow b _ _⟩
/-- What is set, in its place. -/
theorem se_set {ns : List Nd} (h : Asc ns) {p : ByteArray} (hl : ns.findIdx (isP p) < ns.length) (d : ByteArray) (u z : Int) : wiN ns { nAt ns (ns.findIdx (isP p)) with data := d, ver := u, mz := z } = ns.set (ns.findIdx (isP p)) { nAt ns (ns.findIdx (isP p)) with data := d, ver := u, mz := z } := by
  have hp := isP_of (found_mem hl).2
  rw [wi_set h (by show ns.findIdx (isP (nAt ns (ns.findIdx (isP p))).path) < _; rw [hp]; exact hl)]
  show ns.set (ns.findIdx (isP (nAt ns (ns.findIdx (isP p))).path)) _ = _
  rw [hp]
theorem set_bad {ns : List Nd} {o : Op5} {z : Int} (hw : wfO o = true) (hk : o.kind = 3 ∨ o.kind = 2) {c : Int} (hc : c ≠ 0) (hv : wanV ns o = #[.int .i64 0, flt c]) : doO ns o z = (c, ns, ⟨#[]⟩) := by
  unfold wanV at hv
  unfold doO
  rw [hw, if_neg (by simp), if_neg (by omega)]
  split at hv
  · rename_i h1
    rw [if_pos h1]
    simp [flt] at hv
    rw [hv]
  · rename_i h1
    rw [if_neg h1]
    split at hv
    · rename_i h2
      rw [if_pos h2]
      simp [flt] at hv
      rw [hv]
    · simp [flt] at hv
theorem set_good {ns : List Nd} {o : Op5} {z : Int} (hw : wfO o = true) (hk : o.kind = 3) {I : Nat} (hs : Asc ns) (hv : wanV ns o = #[.int .i64 (I : Int), .nilIface]) : I < ns.length ∧ doO ns o z = (0, ns.set I { nAt ns I with data := o.data, ver := mor (nAt ns I).ver, mz := z }, o.path) := by
  unfold wanV at hv
  unfold doO
  rw [hw, if_neg (by simp), if_neg (by omega)]
  split at hv
  · simp [flt] at hv
  · rename_i h1
    rw [if_neg h1]
    split at hv
    · simp [flt] at hv
    · rename_i h2
      rw [if_neg h2, if_neg (by omega), if_pos hk]
      have hI : ns.findIdx (isP o.path) = I := by simp at hv; omega
      have hl : ns.findIdx (isP o.path) < ns.length := by omega
      rw [se_set hs hl, hI]
      exact ⟨by omega, rfl⟩

set_option linter.unusedSimpArgs false in
set_option maxHeartbeats 2000000 in
set_option maxRecDepth 100000 in
theorem set_judge (w : World) (D lo : Nat) (z : Int) (v : Value) (ns : List Nd) (o : Op5) (h : Df w D lo z v ns) (hw : wfO o = true) (hk : o.kind = 3) (hz : okS z = true) :
    Calls Tryz.prog 94 #[.pointer (some ⟨D, 0, none⟩), .agg #[.int .i64 o.kind, .string o.path, .string o.data, .int .i64 o.ver, .bool o.seq]] w (JP w D lo z v (doO ns o z)) := by
  have B0 : Hid (Below w.heap.size w (w.alloc (.cells #[.int .i64 o.kind, .string o.path, .string o.data, .int .i64 o.ver, .bool o.seq] 40))) := (Below.refl _ _).alloc (Nat.le_refl _) _
  have XO : Hid (St (w.alloc (.cells #[.int .i64 o.kind, .string o.path, .string o.data, .int .i64 o.ver, .bool o.seq] 40)) w.heap.size [.int .i64 o.kind, .string o.path, .string o.data, .int .i64 o.ver, .bool o.seq]) := St.new _ _ _
  have XD := hd9 (h.below B0.out)
  have hlt := h.s.lt
  have HS := hd9 (doO_snd h.n o hz)
  have HLT : Hid (∀ q, v.ownBlock = some q → lo ≤ q ∧ q < w.heap.size) := World.ownsRow.lt h.o
  have HW : Hid (∀ W, Below w.heap.size w W → Calls Tryz.prog 110 #[.pointer (some ⟨D, 0, none⟩), .agg #[.int .i64 o.kind, .string o.path, .string o.data, .int .i64 o.ver, .bool o.seq]] W fun e w' => e = .returned (.tuple (wanV ns o)) ∧ Below W.heap.size W w') := fun W hW => wanted_any W D lo z v ns o (h.below hW)
  have HV : Hid ((∃ c : Int, c ≠ 0 ∧ wanV ns o = #[.int .i64 0, flt c]) ∨ ∃ I : Nat, wanV ns o = #[.int .i64 (I : Int), .nilIface]) := by
    unfold wanV
    split
    · exact .inl ⟨2, by omega, rfl⟩
    · split
      · exact .inl ⟨4, by omega, rfl⟩
      · exact .inr ⟨_, rfl⟩
  have HB : Hid (∀ c : Int, c ≠ 0 → wanV ns o = #[.int .i64 0, flt c] → doO ns o z = (c, ns, ⟨#[]⟩)) := fun c hc hv => set_bad hw (.inl hk) hc hv
  have HG : Hid (∀ I : Nat, wanV ns o = #[.int .i64 (I : Int), .nilIface] → I < ns.length ∧ doO ns o z = (0, ns.set I { nAt ns I with data := o.data, ver := mor (nAt ns I).ver, mz := z }, o.path)) := fun I hv => set_good hw hk h.n.1 hv
  clear h hw hk hz
  go_enter Tryz.func94, Tryz.ntmps94
  go_wp2_with fail
  generalize w.alloc _ = w0 at *
  refine (HW.out _ B0.out).mono ?_
  rintro e w1 ⟨rfl, b1⟩
  have B1 := hd9 (B0.out.trans (b1.mono B0.out.size))
  have X1 := hd9 (XO.out.below b1)
  have D1 := hd9 (XD.out.below b1)
  clear b1 B0 XO HW XD
  rcases HV.out with ⟨c, hc, e1⟩ | ⟨I, e1⟩
  · have HE := hd9 (HB.out c hc e1)
    rw [e1]
    clear e1 HV HB HG HS
    unfold flt
    go_wp2_with fail
    rw [HE.out]
    refine bodyPost_ret (v := .tuple #[.string ByteArray.empty, flt c]) (by simp [results, Tryz.results94, go_sem, flt]; try rfl) rfl ⟨v, ?_, D1.out, Tw.ofBelow B1.out _ _⟩
    unfold JV
    rw [if_neg hc]
  · obtain ⟨hl, e2⟩ := HG.out I e1
    have HE := hd9 e2
    rw [e1]
    clear e1 e2 HV HB HG
    have hL : (I : Int) < (ns.length : Int) := by omega
    have hg0 : (0 : Int) ≤ (I : Int) := by omega
    obtain ⟨g, gc, hv, hlo, hgl, hce⟩ := D1.out.o.at hl
    subst hv
    have c0 := D1.out.s.cl 0 _ rfl
    have c1 := D1.out.s.cl 1 _ rfl
    have x1 := X1.out.cl 1 _ rfl
    have x2 := X1.out.cl 2 _ rfl
    have k1 := (hce I hl).all.2.1
    have k2 := (hce I hl).all.2.2.1
    have k5 := (hce I hl).all.2.2.2.2.2.1
    have f1 : w1.frozen? ⟨g, I * 7 + 1, none⟩ = false := World.ownsRow.frozenAt D1.out.o _
    have f2 : w1.frozen? ⟨g, I * 7 + 2, none⟩ = false := World.ownsRow.frozenAt D1.out.o _
    have f5 : w1.frozen? ⟨g, I * 7 + 5, none⟩ = false := World.ownsRow.frozenAt D1.out.o _
    have hgD : g ≠ D := fun e => D1.out.ne (by rw [e]; rfl)
    have hgw : g < w.heap.size := (HLT.out g rfl).2
    have hvr : 0 ≤ (nAt ns I).ver ∧ (nAt ns I).ver ≤ 2147483647 := by
      have := D1.out.n.2.1 (nAt ns I) (by rw [nAt_get hl]; exact List.getElem_mem hl)
      have := okNd_all this
      omega
    have HOM : Hid (∀ W, Calls Tryz.prog 114 #[.int .i64 (nAt ns I).ver] W fun e w' => e = .returned (.int .i64 (mor (nAt ns I).ver)) ∧ w' = W) := fun W => oneMore_any W _ hvr
    clear hce hvr
    go_wp2_with (go_at_call 114; refine (HOM.out _).mono ?_; rintro e w' ⟨rfl, rfl⟩)
    have p1 := (D1.out.o.put (k := I) (f := 1) (u := .string o.data) (m := { nAt ns I with data := o.data }) hl (by omega) rfl).1
    have p2 := (p1.put (k := I) (f := 2) (u := .int .i64 (mor (nAt ns I).ver)) (m := { nAt ns I with data := o.data, ver := mor (nAt ns I).ver }) (by rw [List.length_set]; exact hl) (by omega) (by rw [nAt_set hl]; rfl)).1
    rw [List.set_set] at p2
    have p3 := (p2.put (k := I) (f := 5) (u := .int .i64 z) (m := { nAt ns I with data := o.data, ver := mor (nAt ns I).ver, mz := z }) (by rw [List.length_set]; exact hl) (by omega) (by rw [nAt_set hl]; rfl)).1
    rw [List.set_set] at p3
    simp only [List.length_set] at p3
    have T2 := (((Tw.ofBelow B1.out D (some g)).setRow (j := I * 7 + 1) (x := .string o.data)).setRow (j := I * 7 + 2) (x := .int .i64 (mor (nAt ns I).ver))).setRow (j := I * 7 + 5) (x := .int .i64 z)
    have S2 := ((D1.out.s.other (c := g) (j := I * 7 + 1) (x := .string o.data) hgD.symm).other (c := g) (j := I * 7 + 2) (x := .int .i64 (mor (nAt ns I).ver)) hgD.symm).other (c := g) (j := I * 7 + 5) (x := .int .i64 z) hgD.symm
    have HN := HS.out
    rw [HE.out] at HN ⊢
    exact bodyPost_ret (v := .tuple #[.string o.path, .nilIface]) (by simp [results, Tryz.results94, go_sem]) rfl ⟨_, rfl, ⟨S2, p3, D1.out.ne, HN⟩, T2⟩


set_option maxHeartbeats 1000000 in
set_option maxRecDepth 100000 in
theorem rem1_any (w : World) (c : Nat) (m : Nd) (p : ByteArray) (hs : okPath m.path = true) (hc : c < w.heap.size) (ho : w.cell? ⟨c, 1, none⟩ = some (.string p)) :
    Calls Tryz.prog 112 #[.agg #[.string m.path, .string m.data, .int .i64 m.ver, .int .i64 m.cver, .int .i64 m.cz, .int .i64 m.mz, .int .i64 m.pz], .pointer (some ⟨c, 0, none⟩)] w fun e w' => e = .returned (.bool (chB m.path p)) ∧ Below w.heap.size w w' := by
  have B0 : Hid (∀ ob, Below w.heap.size w (w.alloc ob)) := fun ob => (Below.refl _ _).alloc (Nat.le_refl _) _
  have HCH : Hid (∀ W, Calls Tryz.prog 40 #[.string m.path, .string p] W fun e w' => e = .returned (.bool (chB m.path p)) ∧ w' = W) := fun W => isChild_any W _ _ hs
  have c1 := (World.cell?_alloc_lt w (.cells #[.string m.path, .string m.data, .int .i64 m.ver, .int .i64 m.cver, .int .i64 m.cz, .int .i64 m.mz, .int .i64 m.pz] 42) ⟨c, 1, none⟩ hc).trans ho
  clear hs ho
  go_enter Tryz.func112, Tryz.ntmps112
  go_wp2_with fail
  refine (HCH.out _).mono ?_
  rintro e w1 ⟨rfl, rfl⟩
  go_wp2_with fail
  exact bodyPost_ret (v := .bool (chB m.path p)) (by simp [results, Tryz.results112, go_sem]) rfl ⟨rfl, B0.out _⟩

set_option maxHeartbeats 1000000 in
set_option maxRecDepth 100000 in
theorem idxF_row (w : World) (b n cap c : Nat) (ns : List Nd) (p : ByteArray) (hp : ns.length = n) (hn : n ≤ 1000) (hb : b < w.heap.size) (hc : ∀ i, i < n → CellsN w b (i * 7) (nAt ns i)) (hok : ∀ m ∈ ns, okPath m.path = true) (hcl : c < w.heap.size) (ho : w.cell? ⟨c, 1, none⟩ = some (.string p)) :
    Calls Tryz.prog 123 #[.slice (some ⟨b, 0, none⟩) n cap, .func (.func 112) #[] #[.pointer (some ⟨c, 0, none⟩)]] w fun e w' => (∃ r : Int, e = .returned (.int .i64 r) ∧ decide (r ≥ 0) = ns.any (fun m => chB m.path p)) ∧ Below w.heap.size w w' := by
  have HC := hd9 hc
  have HP := hd9 hp
  have HO := hd9 ho
  have HOK : Hid (∀ i, i < n → okPath (nAt ns i).path = true) := fun i hi => hok _ (by rw [nAt_get (by omega)]; exact List.getElem_mem _)
  clear hc hp ho hok
  go_enter Tryz.func123, Tryz.ntmps123
  go_wp2
  go_loopw [8] (fun vi wr => ∃ i : Nat, i ≤ n ∧ vi = .int .i64 i ∧ Hid (∀ k, k < i → chB (nAt ns k).path p = false) ∧ Hid (Below w.heap.size w wr)) (fun i _ => n - (intOf i).toNat)
  case atStart => exact ⟨0, Nat.zero_le _, rfl, fun k hk => by omega, Below.refl _ _⟩
  case round =>
    obtain ⟨i, hi, rfl, HK, HB⟩ := hrel
    by_cases hlt : i < n
    · have hltI : (i : Int) < (n : Int) := by omega
      obtain ⟨c0, c1, c2, c3, c4, c5, c6⟩ := (HC.out i hlt).below HB.out hb
      have HR := hd9 (rem1_any wr c (nAt ns i) p (HOK.out i hlt) (Nat.lt_of_lt_of_le hcl HB.out.size) ((HB.out.cell (p := ⟨c, 1, none⟩) hcl).trans HO.out))
      go_wp2_with fail
      refine HR.out.mono ?_
      rintro e w1 ⟨rfl, b1⟩
      have B1 := hd9 (HB.out.trans (b1.mono HB.out.size))
      clear b1 c0 c1 c2 c3 c4 c5 c6 HB HR
      cases hx : chB (nAt ns i).path p with
      | true =>
        have HX : Hid (ns.any (fun m => chB m.path p) = true) := by
          show _ = _
          rw [List.any_eq_true]
          exact ⟨nAt ns i, by rw [nAt_get (by rw [HP.out]; exact hlt)]; exact List.getElem_mem _, hx⟩
        clear hx
        go_wp2
        refine bodyPost_ret (v := .int .i64 (i : Int)) (by simp [results, Tryz.results123, go_sem]) rfl ⟨⟨_, rfl, by rw [HX.out]; simp⟩, B1.out⟩
      | false =>
        have HX := hd9 hx
        clear hx
        go_wp2
        exact ⟨⟨i + 1, by omega, by go_num, fun k hk => if e : k = i then e ▸ HX.out else HK.out k (by omega), B1⟩, by simp [intOf]; omega⟩
    · have hin : i = n := by omega
      subst hin
      have HX : Hid (ns.any (fun m => chB m.path p) = false) := by
        show _ = _
        rw [List.any_eq_false]
        intro m hm
        obtain ⟨k, hk, rfl⟩ := List.mem_iff_getElem.1 hm
        have := HK.out k (by rw [← HP.out]; exact hk)
        rw [nAt_get hk] at this
        simp [this]
      go_wp2
      refine bodyPost_ret (v := .int .i64 (-1)) (by simp [results, Tryz.results123, go_sem]) rfl ⟨⟨_, rfl, by rw [HX.out]; rfl⟩, HB.out⟩

set_option maxHeartbeats 1000000 in
set_option maxRecDepth 100000 in
theorem conF_row (w : World) (b n cap c : Nat) (ns : List Nd) (p : ByteArray) (hp : ns.length = n) (hn : n ≤ 1000) (hb : b < w.heap.size) (hc : ∀ i, i < n → CellsN w b (i * 7) (nAt ns i)) (hok : ∀ m ∈ ns, okPath m.path = true) (hcl : c < w.heap.size) (ho : w.cell? ⟨c, 1, none⟩ = some (.string p)) :
    Calls Tryz.prog 111 #[.slice (some ⟨b, 0, none⟩) n cap, .func (.func 112) #[] #[.pointer (some ⟨c, 0, none⟩)]] w fun e w' => e = .returned (.bool (ns.any (fun m => chB m.path p))) ∧ Below w.heap.size w w' := by
  have H := hd9 (idxF_row w b n cap c ns p hp hn hb hc hok hcl ho)
  clear hc ho hok hp
  go_enter Tryz.func111, Tryz.ntmps111
  go_wp2_with fail
  refine H.out.mono ?_
  rintro e w1 ⟨⟨r, rfl, hr⟩, b1⟩
  have B1 := hd9 b1
  have HR := hd9 hr
  clear b1 hr H
  go_wp2_with fail
  exact bodyPost_ret (v := .bool (decide (r ≥ 0))) (by simp [results, Tryz.results111, go_sem]) rfl ⟨by rw [HR.out], B1.out⟩


section
variable {P : Program} {w : World}
/-- 'copy' within rows, elements of any size. -/
theorem run_copy7 (dT sT ty elem : TypeId) (i : TypeInfo) (g o dLen dCap : Nat) (a : Addr) (sLen sCap : Nat) (cur : Array Value) (t : TypeId) (cs : List Value) (hu : P.underlying dT = some (.slice elem)) (hi : P.info? elem = some i) (hg : w.heap[g]? = some (.cells cur t (0, 0))) (hn : cs.length = Nat.min sLen dLen * i.size)
    (hsrc : ∀ j v, cs[j]? = some v → w.cell? (a.add j) = some v) (hfit : o + cs.length ≤ cur.size) (h1 : ∀ v ∈ cs, v.oneCell' = true) :
    (Builtin.copy_ #[dT, sT] ty #[.slice (some ⟨g, o, none⟩) dLen dCap, .slice (some a) sLen sCap]).run P w = .ok (goInt (Nat.min sLen dLen)) (w.setRow g (cur.toList.take o ++ cs ++ cur.toList.drop (o + cs.length)).toArray) := by
  have hf := run_firstCells_some (P := P) w i.size (Nat.min sLen dLen) a sLen sCap cs hn hsrc
  have hst := run_storeCells_at P g o t cs 0 cur w hg (by simpa using hfit) h1
  simp only [Nat.add_zero] at hst
  simp [Builtin.copy_, run_underlying hu, sizeOf, typeInfo, hi, Builtin.lenOf, hf, hst]
theorem wp_append7 {o : Oper} {a : Act} {K : Act → World → Prop} {Q : Exit → Act → World → Prop} (s x : Operand) (t tn : TypeId) (ho : o.op = .call { callee := .builtin .append, args := #[s, x], argTypes := #[t, tn] }) (vs vx : Value) (hs : a.eval s = vs) (hx : a.eval x = vx)
    (v' : Value) (w' : World) (hr : (Builtin.append_ #[t, tn] o.type #[vs, vx]).run P w = .ok v' w') (h : K (a.put o.dst v') w') : o.wp P a w K Q := by
  unfold Oper.wp execOp
  simp only [ho, resolve, invoke, builtin, Sem.run_bind, Sem.run_pure, Result.andThen_ok, List.map_toArray, List.map_cons, List.map_nil, hs, hx, hr]
  exact h
/-- 'append(s[:i], make(..)...)' where there is no room. -/
theorem run_append_zeros7 (t tn ty e : TypeId) (i : TypeInfo) (z : Value) (k kn : IntKind) (ht : P.underlying t = some (.slice e)) (htn : P.underlying tn = some (.int kn)) (hi : P.info? e = some i) (hz : i.zero = some z)
    (g n cap m : Nat) (xs : List Value) (hl : xs.length = n * i.size) (hxs : ∀ j u, xs[j]? = some u → w.cell? ((⟨g, 0, none⟩ : Addr).add j) = some u) (h0 : 0 < m) (hs : 0 < i.size) (hroom : cap < n + m) (h63 : n + m ≤ 1000000) (hb : i.bytes ≤ 1000) :
    (Builtin.append_ #[t, tn] ty #[.slice (some ⟨g, 0, none⟩) n cap, .int k m]).run P w =
      .ok (.slice (some ⟨w.heap.size, 0, none⟩) (n + m) (grownCap w (n + m) cap e)) (w.drew.alloc (.cells (xs.toArray ++ Builtin.zeroCells z.cells m ++ Builtin.zeroCells z.cells (grownCap w (n + m) cap e - (n + m))) e)) := by
  have hw : IntKind.i64.wrap (m : Int) = m := by rw [IntKind.wrap_i64]; omega
  have hm : m ≠ 0 := by omega
  have hneg : ¬ ((m : Int) < 0) := by omega
  have hmb : m * i.bytes ≤ 1000000 * 1000 := Nat.mul_le_mul (by omega) hb
  have h48i : ¬ (281474976710656 < (m : Int) * (i.bytes : Int)) := by rw [← Int.natCast_mul]; omega
  have hcap : ¬ n + m ≤ cap := by omega
  have hfit : Builtin.nextslicecap (n + m) cap * i.bytes ≤ 281474976710656 := growslice_fits (by omega) (Nat.le_trans (Nat.mul_le_mul h63 hb) (by omega))
  have h48 : ¬ (281474976710656 < Builtin.nextslicecap (n + m) cap * i.bytes) := by omega
  have h63'' : ¬ (9223372036854775807 < (n : Int) + (m : Int)) := by omega
  have hns : ¬ (m * i.size = 0) := Nat.mul_ne_zero hm (by omega)
  have hf := run_firstCells_some (P := P) w.drew i.size n ⟨g, 0, none⟩ n cap xs hl hxs
  simp [Builtin.append_, run_underlying ht, run_underlying htn, sizeOf, typeInfo, zeroValue, hi, hz, asInt, asIntOf, hw, hneg, hns, h63'', h48, h48i, hcap, Question.forced, hf, newRow, grownCap]
/-- 'clear' of a part of a row. -/
theorem run_clear7 (t ty e : TypeId) (i : TypeInfo) (z : Value) (ht : P.underlying t = some (.slice e)) (hi : P.info? e = some i) (hz : i.zero = some z) (g of n c : Nat) (h0 : 0 < n) (cur : Array Value) (tt : TypeId) (hg : w.heap[g]? = some (.cells cur tt (0, 0))) (cs : List Value) (hcs : (Builtin.zeroCells z.cells n).toList = cs) (hfit : of + cs.length ≤ cur.size) (h1 : ∀ v ∈ cs, v.oneCell' = true) :
    (Builtin.clear_ #[t] ty #[.slice (some ⟨g, of, none⟩) n c]).run P w = .ok (.tuple #[]) (w.setRow g (cur.toList.take of ++ cs ++ cur.toList.drop (of + cs.length)).toArray) := by
  have hst := run_storeCells_at P g of tt cs 0 cur w hg (by simpa using hfit) h1
  simp only [Nat.add_zero] at hst
  obtain ⟨k, rfl⟩ : ∃ k, n = k + 1 := ⟨n - 1, by omega⟩
  simp [Builtin.clear_, run_underlying ht, zeroValue, typeInfo, hi, hz, hcs, hst]
theorem wp_copyR {o : Oper} {a : Act} {K : Act → World → Prop} {Q : Exit → Act → World → Prop} (d s : Operand) (dT sT : TypeId) (ho : o.op = .call { callee := .builtin .copy, args := #[d, s], argTypes := #[dT, sT] }) (vd vs : Value) (hd : a.eval d = vd) (hs : a.eval s = vs)
    (v' : Value) (w' : World) (hr : (Builtin.copy_ #[dT, sT] o.type #[vd, vs]).run P w = .ok v' w') (h : K (a.put o.dst v') w') : o.wp P a w K Q := by
  unfold Oper.wp execOp
  simp only [ho, resolve, invoke, builtin, Sem.run_bind, Sem.run_pure, Result.andThen_ok, List.map_toArray, List.map_cons, List.map_nil, hd, hs, hr]
  exact h
theorem wpList_copyR {ops : Array Oper} {rest : List Oper} {o : Oper} {a : Act} {Q : Exit → Act → World → Prop} (hgd : o.guard = none) (d s : Operand) (dT sT : TypeId) (ho : o.op = .call { callee := .builtin .copy, args := #[d, s], argTypes := #[dT, sT] }) (vd vs : Value) (hd : a.eval d = vd) (hs : a.eval s = vs)
    (v' : Value) (w' : World) (hr : (Builtin.copy_ #[dT, sT] o.type #[vd, vs]).run P w = .ok v' w') (h : wpList P ops Q rest (a.put o.dst v') w') : wpList P ops Q (o :: rest) a w :=
  wpList_plain hgd fun _ hK => wp_copyR d s dT sT ho vd vs hd hs v' w' hr (hK _ _ h)
theorem wpList_clear7 {ops : Array Oper} {rest : List Oper} {o : Oper} {a : Act} {Q : Exit → Act → World → Prop} (hgd : o.guard = none) (x : Operand) (t : TypeId) (ho : o.op = .call { callee := .builtin .clear, args := #[x], argTypes := #[t] }) (vx : Value) (hx : a.eval x = vx)
    (v' : Value) (w' : World) (hr : (Builtin.clear_ #[t] o.type #[vx]).run P w = .ok v' w') (h : wpList P ops Q rest (a.put o.dst v') w') : wpList P ops Q (o :: rest) a w :=
  wpList_plain hgd fun _ hK => by
    unfold Oper.wp execOp
    simp only [ho, resolve, invoke, builtin, Sem.run_bind, Sem.run_pure, Result.andThen_ok, List.map_toArray, List.map_cons, List.map_nil, hx, hr]
    exact hK _ _ h
end

/-- The cells of no node. -/
theorem zero7 : (Builtin.zeroCells (Value.agg #[.string ByteArray.empty, .string ByteArray.empty, .int .i64 0, .int .i64 0, .int .i64 0, .int .i64 0, .int .i64 0]).cells 1).toList = ndL nd0 := by kernel_rfl
theorem ndL_one7 (m : Nd) : ∀ u ∈ ndL m, u.oneCell' = true := by
  intro u hu
  simp [ndL] at hu
  rcases hu with rfl | rfl | rfl | rfl | rfl | rfl | rfl <;> rfl
theorem nrow_one7 (R : List Nd) : ∀ u ∈ nrow R, u.oneCell' = true := by
  intro u hu
  obtain ⟨m, -, hm⟩ := List.mem_flatMap.1 hu
  exact ndL_one7 m u hm
theorem below_setRow9 {B g : Nat} {w0 w : World} (hb : Below B w0 w) (hBg : B ≤ g) (cs : Array Value) : Below B w0 (w.setRow g cs) :=
  hb.trans ⟨rfl, rfl, rfl, by simp [World.setRow], fun k hk => setRow_other w g k cs (by omega)⟩
theorem Tw.row {w w' : World} {b g : Nat} {o' : Option Nat} {cs : Array Value} (h : Tw w b (some g) w' o') : Tw w b (some g) (w'.setRow g cs) o' := by
  refine ⟨h.os, h.tape, h.output, by simpa [World.setRow] using h.size, fun q hq hb ho => ?_, h.own⟩
  rw [setRow_other w' g q cs (fun e => ho (by rw [e]))]
  exact h.block q hq hb ho
/-- A row of nodes, and what lies behind them in its block. -/
theorem OwnN.row9 {w : World} {lo g c : Nat} {ns : List Nd} (h : OwnN 42 w lo (.slice (some ⟨g, 0, none⟩) ns.length c) ns) : lo ≤ g ∧ ns.length ≤ c ∧ c ≤ maxLen ∧ ∃ X : List Value, w.heap[g]? = some (.cells (nrow ns ++ X).toArray 42 (0, 0)) ∧ (nrow ns ++ X).length = c * 7 := by
  rcases h.2 with ⟨h', _⟩ | ⟨g', cap', cur, h', hbg, hg, hnc, hcm, hcs, htake⟩
  · simp at h'
  · simp only [Value.slice.injEq, Option.some.injEq, Addr.mk.injEq, and_true, true_and] at h'
    obtain ⟨rfl, rfl⟩ := h'
    have e : nrow ns ++ cur.toList.drop (ns.length * 7) = cur.toList := by rw [← htake]; exact List.take_append_drop _ _
    refine ⟨hbg, hnc, hcm, cur.toList.drop (ns.length * 7), ?_, ?_⟩
    · rw [e, Array.toArray_toList]; exact hg
    · rw [e, Array.length_toList]; exact hcs
theorem OwnN.of9 {w : World} {lo g c : Nat} {ns : List Nd} {X : List Value} (hlo : lo ≤ g) (hc : ns.length ≤ c) (hm : c ≤ maxLen) (hg : w.heap[g]? = some (.cells (nrow ns ++ X).toArray 42 (0, 0))) (hl : (nrow ns ++ X).length = c * 7) : OwnN 42 w lo (.slice (some ⟨g, 0, none⟩) ns.length c) ns := by
  refine ⟨nrow_length ns, .inr ⟨g, c, _, rfl, hlo, hg, hc, hm, by simpa using hl, ?_⟩⟩
  rw [← nrow_length ns]
  simp


set_option linter.unusedSimpArgs false in
set_option maxHeartbeats 2000000 in
set_option maxRecDepth 100000 in
theorem delete_any (w : World) (lo g c : Nat) (ns : List Nd) (I : Nat) (h : OwnN 42 w lo (.slice (some ⟨g, 0, none⟩) ns.length c) ns) (hI : I < ns.length) (hn : ns.length ≤ 1000) :
    Calls Tryz.prog 113 #[.slice (some ⟨g, 0, none⟩) ns.length c, .int .i64 (I : Int), .int .i64 ((I : Int) + 1)] w fun e w' => e = .returned (.slice (some ⟨g, 0, none⟩) (ns.eraseIdx I).length c) ∧ OwnN 42 w' lo (.slice (some ⟨g, 0, none⟩) (ns.eraseIdx I).length c) (ns.eraseIdx I) ∧ ∀ b, Tw w b (some g) w' (some g) := by
  obtain ⟨i0, hi, hz0, hz1, hz2⟩ := info_parts Tryz.infoN
  obtain ⟨hlo, hnc, hcm, X, hg, hX⟩ := h.row9
  have hI0 : (0 : Int) ≤ (I : Int) := by omega
  have hI1 : (I : Int) ≤ (I : Int) + 1 := by omega
  have hI2 : (I : Int) + 1 ≤ (ns.length : Int) := by omega
  have hI3 : (ns.length : Int) ≤ (c : Int) := by omega
  have hne : ¬ (I : Int) = (I : Int) + 1 := by omega
  go_enter Tryz.func113, Tryz.ntmps113
  go_wp2_with fail
  have HG := hd9 hg
  have HX := hd9 hX
  clear hg hX h
  refine wp_region_held_drew (S := fun W => True) (by kernel_rfl) trivial (fun hHeld => ?_)
  have D1 : Hid (Below w.heap.size w w.drew) := below_drewN' w 1
  generalize w.drew = w1 at *
  have hIc : I ≤ c := by omega
  have h01 : (0 : Int) ≤ (I : Int) + 1 := by omega
  obtain ⟨ad, had⟩ : ∃ ad : Addr, (if c = I + 1 then some (⟨g, 0, none⟩ : Addr) else some ⟨g, (I + 1) * 7, none⟩) = some ad := by split <;> exact ⟨_, rfl⟩
  iterate 5 (refine tkI9 ?_ (by kernel_rfl) (fun _ => id) hHeld ?_ ?_; rotate_left; · intro w9 hS9; clear hS9; go_simp; try with_reducible rfl)
  refine tkI9 (.slice (some ad) (ns.length - (I + 1)) (c - (I + 1))) (by kernel_rfl) (fun _ => id) hHeld ?_ ?_
  · intro w9 hS9; clear hS9; go_simp
  refine rdA9 6 rfl (by kernel_rfl) (fun K hK => ?_)
  rw [if_pos (by kernel_rfl)]
  have HNS : Hid (nrow ns = nrow (ns.take I) ++ (ndL (nAt ns I) ++ nrow (ns.drop (I + 1)))) := by
    show _ = _
    rw [← nrow_cons, ← nrow_append, nAt_get hI, ← List.drop_eq_getElem_cons hI, List.take_append_drop]
  have HLA : Hid ((nrow (ns.take I)).length = I * 7) := by show _ = _; rw [nrow_length, List.length_take]; omega
  have HLB : Hid ((nrow (ns.drop (I + 1))).length = (ns.length - (I + 1)) * 7) := by show _ = _; rw [nrow_length, List.length_drop]
  have hr := run_append_room (P := Tryz.prog) w1 23 23 42 i0 Tryz.underlying23 hi g I c _ (D1.out.block g (Array.getElem?_eq_some_iff.1 HG.out).1 ▸ HG.out) ad (ns.length - (I + 1)) (c - (I + 1)) (nrow (ns.drop (I + 1))) (by rw [hz1]; exact HLB.out) ?h1 ?h2 (by omega) ?h3
  case h1 =>
    intro j u hu
    have hg1 := (D1.out.block g (Array.getElem?_eq_some_iff.1 HG.out).1).trans HG.out
    by_cases hc : c = I + 1
    · have := (List.getElem?_eq_some_iff.1 hu).1
      rw [HLB.out] at this
      omega
    · rw [if_neg hc] at had
      obtain rfl := Option.some.inj had
      rw [Addr.add_lit, cell_of_row w1 g _ _ _ (0, 0) hg1, List.getElem?_toArray, HNS.out, List.append_assoc, List.getElem?_append_right (by rw [HLA.out]; omega), HLA.out, List.append_assoc, List.getElem?_append_right (by show (ndL _).length ≤ _; rw [show (ndL (nAt ns I)).length = 7 from rfl]; omega), show (ndL (nAt ns I)).length = 7 from rfl, show (I + 1) * 7 + j - I * 7 - 7 = j by omega, List.getElem?_append_left (List.getElem?_eq_some_iff.1 hu).1]
      exact hu
  case h2 => exact nrow_one7 _
  case h3 =>
    have := HX.out
    rw [HLB.out, hz1, List.size_toArray]
    omega
  refine wp_append7 (.tmp 22) (.tmp 25) _ _ (by kernel_rfl) _ _ (by kernel_rfl) (by kernel_rfl) _ _ hr ?_
  refine hK.out _ _ trivial (fun hHeld => ?_)
  clear hK K
  have HG1 := setRow_heap w1 g _ (List.toArray (nrow (ns.take I) ++ nrow (ns.drop (I + 1)) ++ (nrow ns ++ X).drop ((ns.length - 1) * 7))) 42 (0, 0) (D1.out.block g (Array.getElem?_eq_some_iff.1 HG.out).1 ▸ HG.out)
  have T1 : Hid (∀ b, Tw w b (some g) (w1.setRow g (List.toArray (nrow (ns.take I) ++ nrow (ns.drop (I + 1)) ++ (nrow ns ++ X).drop ((ns.length - 1) * 7)))) (some g)) := fun b => (Tw.ofBelow D1.out b (some g)).row
  have hcur : (List.take (I * i0.size) (nrow ns ++ X).toArray.toList ++ nrow (List.drop (I + 1) ns) ++ List.drop (I * i0.size + (nrow (List.drop (I + 1) ns)).length) (nrow ns ++ X).toArray.toList) = nrow (ns.take I) ++ nrow (ns.drop (I + 1)) ++ (nrow ns ++ X).drop ((ns.length - 1) * 7) := by
    rw [hz1, HLB.out, show I * 7 + (ns.length - (I + 1)) * 7 = (ns.length - 1) * 7 by omega]
    congr 2
    rw [HNS.out, List.append_assoc, List.take_append_of_le_length (by rw [HLA.out]; omega), ← HLA.out, List.take_length]
  rw [hcur]
  clear hcur hr
  generalize w1.setRow g _ = w2 at *
  have hle : I + (ns.length - (I + 1)) = ns.length - 1 := by omega
  rw [hle]
  iterate 1 (refine tkI9 ?_ (by kernel_rfl) (fun _ => id) hHeld ?_ ?_; rotate_left; · intro w9 hS9; clear hS9; go_simp; try with_reducible rfl)
  refine wpAnyH_done (by kernel_rfl) ?_ _
  simp only [Act.put, sT9, sZ9, sS9]
  clear hHeld
  obtain ⟨L, hL⟩ : ∃ L, ns.length = L + 1 := ⟨ns.length - 1, by omega⟩
  have HLS := hd9 hL
  rw [hL] at hn hnc hI3 HG1 HLB ⊢
  have hL1 : (L + 1 - 1) = L := by omega
  rw [hL1] at HG1 ⊢
  have h02 : (0 : Int) ≤ (L : Int) := by omega
  have h03 : (L : Int) ≤ (L : Int) + 1 := by omega
  have hcL : ¬ c = L := by omega
  have HLX : Hid ((nrow (ns.take I) ++ nrow (ns.drop (I + 1))).length = L * 7) := by show _ = _; rw [List.length_append, HLA.out, HLB.out]; omega
  have hcl := run_clear7 (P := Tryz.prog) (w := w2) 23 0 42 i0 _ Tryz.underlying23 hi hz0 g (L * 7) 1 (c - L) (by omega) _ 42 HG1 _ zero7 ?h4 (ndL_one7 _)
  case h4 =>
    have := HX.out
    rw [List.size_toArray, List.length_append, HLX.out, List.length_drop]
    show L * 7 + 7 ≤ _
    omega
  clear hL hL1
  have HR3 : Hid (∀ R : List Value, List.take (L * 7) (nrow (ns.take I) ++ (nrow (ns.drop (I + 1)) ++ R)) = nrow (ns.eraseIdx I)) := fun R => by
    rw [← List.append_assoc, ← HLX.out, List.take_left, ← nrow_append, List.eraseIdx_eq_take_drop_succ]
  have HEL : Hid ((ns.eraseIdx I).length = L) := by show _ = _; rw [List.length_eraseIdx, if_pos hI, HLS.out]; omega
  have HG2 := hd9 HG1
  clear HG1
  go_wp2_with (at_builtin; go_must (refine wpList_clear7 _ rfl _ _ rfl _ _ hcl ?_))
  refine bodyPost_ret (v := .slice (some ⟨g, 0, none⟩) L c) (by simp [results, Tryz.results113, go_sem]) rfl ⟨by rw [HEL.out], ?_, fun b => (T1.out b).row⟩
  refine OwnN.of9 (X := ndL nd0 ++ List.drop (L * 7 + (ndL nd0).length) (nrow (ns.take I) ++ (nrow (ns.drop (I + 1)) ++ List.drop (L * 7) (nrow ns ++ X)))) hlo (by rw [HEL.out]; omega) hcm ?_ ?_
  · rw [← HR3.out]
    exact setRow_heap w2 g _ _ _ _ HG2.out
  · have := HX.out
    have h9 := HLX.out
    rw [List.length_append] at this h9
    rw [List.length_append, nrow_length, HEL.out, List.length_append, List.length_drop, List.length_append, List.length_append, List.length_drop, List.length_append, show (ndL nd0).length = 7 from rfl]
    omega


/-- A local operation. -/
structure BoxO (w : World) (B : Nat) (o : Op5) : Prop where
  lt : B < w.heap.size
  c0 : w.cell? ⟨B, 0, none⟩ = some (.int .i64 o.kind)
  c1 : w.cell? ⟨B, 1, none⟩ = some (.string o.path)
  c2 : w.cell? ⟨B, 2, none⟩ = some (.string o.data)
  c3 : w.cell? ⟨B, 3, none⟩ = some (.int .i64 o.ver)
  c4 : w.cell? ⟨B, 4, none⟩ = some (.bool o.seq)
theorem BoxO.new (w : World) (o : Op5) (t : TypeId) : BoxO (w.alloc (.cells #[.int .i64 o.kind, .string o.path, .string o.data, .int .i64 o.ver, .bool o.seq] t)) w.heap.size o :=
  ⟨by simp, by simp, by simp, by simp, by simp, by simp⟩
theorem BoxO.below {w w' : World} {B : Nat} {o : Op5} (h : BoxO w B o) (hb : Below w.heap.size w w') : BoxO w' B o :=
  ⟨Nat.lt_of_lt_of_le h.lt hb.size, (hb.cell (p := ⟨B, _, none⟩) h.lt).trans h.c0, (hb.cell (p := ⟨B, _, none⟩) h.lt).trans h.c1, (hb.cell (p := ⟨B, _, none⟩) h.lt).trans h.c2, (hb.cell (p := ⟨B, _, none⟩) h.lt).trans h.c3, (hb.cell (p := ⟨B, _, none⟩) h.lt).trans h.c4⟩
/-- What is known when an operation is done. -/
def DoPost (w : World) (v : Value) (ns : List Nd) (o : Op5) (z : Int) (e : Ending) (w' : World) : Prop := ∃ v', e = .returned (.tuple #[.int .i64 (doO ns o z).1, v', .string (doO ns o z).2.2]) ∧ RdN w' v' (doO ns o z).2.1 ∧ Fresh w v v' ∧ Below w.heap.size w w'
theorem wiN_len (ns : List Nd) (n : Nd) : (wiN ns n).length ≤ 2 * ns.length + 1 := by
  have := wiF_len ns n ns.length
  rw [List.take_length] at this
  unfold wiN
  split
  · omega
  · simp; omega
theorem wfO_path {o : Op5} (h : wfO o = true) : okPath o.path = true ∧ o.data.size ≤ 64 := by
  unfold wfO at h
  simp only [Bool.and_eq_true, decide_eq_true_eq] at h
  exact ⟨h.1.1.1.2, h.1.1.2⟩

set_option maxHeartbeats 2000000 in
set_option maxRecDepth 100000 in
theorem l3Do_create (w : World) (v : Value) (ns : List Nd) (o : Op5) (z : Int) (h : RdN w v ns) (hn : ns.length ≤ 1000) (hok : ∀ k, k < ns.length → okNd (nAt ns k) = true) (hp : o.path.size ≤ 1048576) (hd : o.data.size ≤ 1048576) (hw : wfO o = true) (hk : o.kind = 1) :
    Calls Tryz.prog 32 #[v, .agg #[.int .i64 o.kind, .string o.path, .string o.data, .int .i64 o.ver, .bool o.seq], .int .i64 z] w fun e w' => DoPost w v ns o z e w' := by
  obtain ⟨ao, ca, rfl, _, _⟩ := h.len
  have HR : Hid (RdN w (.slice ao ns.length ca) ns) := h
  have HO : Hid (∀ k, k < ns.length → okNd (nAt ns k) = true) := hok
  have HW : Hid (wfO o = true) := hw
  have hkb : (o.kind == 1) = true := by simp [hk]
  have HD : Hid (doO ns o z = if ¬ ns.findIdx (isP (parB o.path)) < ns.length then (2, ns, ⟨#[]⟩)
    else if !okPath (nameO ns o) then (1, ns, ⟨#[]⟩)
    else if ns.findIdx (isP (nameO ns o)) < ns.length then (3, ns, ⟨#[]⟩)
    else if ns.length = 1000 then (6, ns, ⟨#[]⟩)
    else (0, toN (wiN ns ⟨nameO ns o, o.data, 0, 0, z, z, z⟩) (parB o.path) z, nameO ns o)) := by show _ = _; unfold doO; rw [hw, if_pos hk]; rfl
  have HPP := (wfO_path hw).1
  have B0 : Hid (Below w.heap.size w (w.alloc (.cells #[.int .i64 o.kind, .string o.path, .string o.data, .int .i64 o.ver, .bool o.seq] 40))) := (Below.refl _ _).alloc (Nat.le_refl _) _
  have X0 : Hid (BoxO (w.alloc (.cells #[.int .i64 o.kind, .string o.path, .string o.data, .int .i64 o.ver, .bool o.seq] 40)) w.heap.size o) := BoxO.new _ _ _
  have HPK : Hid (okPath o.path = true) := HPP
  clear h hw hok hk HPP
  go_enter Tryz.func32, Tryz.ntmps32
  go_wp2_with fail
  generalize w.alloc (.cells #[.int .i64 o.kind, .string o.path, .string o.data, .int .i64 o.ver, .bool o.seq] 40) = w0 at *
  refine (l3Well_any _ o hp hd).mono ?_
  rintro e w1 ⟨rfl, b1⟩
  rw [HW.out]
  have B1 : Hid (Below w.heap.size w w1) := B0.out.trans (b1.mono B0.out.size)
  have X1 : Hid (BoxO w1 w.heap.size o) := X0.out.below b1
  clear b1 B0 X0
  obtain ⟨xl, c0, c1, c2, c3, c4⟩ := X1.out
  go_wp2_with fail
  refine (l3Parent_any _ o.path HPK.out).mono ?_
  rintro e w2 ⟨rfl, b2⟩
  have B2 : Hid (Below w.heap.size w w2) := B1.out.trans (b2.mono B1.out.size)
  have X2 : Hid (BoxO w2 w.heap.size o) := X1.out.below b2
  clear b2 B1 X1 xl c0 c1 c2 c3 c4
  go_wp2_with fail
  rw [show sV (parL o.path) = .string (parB o.path) from rfl]
  generalize hpb : parB o.path = pb at *
  have HPB : Hid (parB o.path = pb) := hpb
  clear hpb
  refine (l3Find_any w2 _ ns pb (HR.out.below B2.out) (by omega)).mono ?_
  rintro e w3 ⟨rfl, rfl⟩
  by_cases hf : ns.findIdx (isP pb) < ns.length
  rotate_left
  · rw [if_pos hf] at HD
    rw [show fdV ns pb = -1 by unfold fdV; rw [if_neg hf]]
    clear hf
    go_wp2
    exact bodyPost_ret (v := .tuple #[.int .i64 2, .slice ao ns.length ca, .string ⟨#[]⟩]) (by simp [results, Tryz.results32, go_sem]) rfl ⟨_, by rw [HD.out], by rw [HD.out]; exact HR.out.below B2.out, .inl rfl, B2.out⟩
  rw [if_neg (by simpa using hf)] at HD
  rw [show fdV ns pb = ((ns.findIdx (isP pb) : Nat) : Int) by unfold fdV; rw [if_pos hf]]
  have HNM : Hid (nameO ns o = if o.seq then ⟨(o.path.data.toList ++ six 12 (nAt ns (ns.findIdx (isP pb))).cver.toNat 6).toArray⟩ else o.path) := by show _ = _; unfold nameO; rw [HPB.out]
  generalize ns.findIdx (isP pb) = k at *
  have hI : ¬ (k : Int) < 0 := by omega
  have hkI : (k : Int) < (ns.length : Int) := by omega
  obtain ⟨b, oo, hao, hb, hc⟩ : ∃ b o, ao = some ⟨b, o, none⟩ ∧ b < w.heap.size ∧ CellsN w b (o + k * 7) (nAt ns k) := by
    obtain ⟨ao', cap', e', -, -, h3⟩ := HR.out
    simp only [Value.slice.injEq] at e'
    obtain ⟨rfl, -, -⟩ := e'
    rcases h3 with h3 | ⟨b, o, rfl, hb, hc⟩
    · rw [h3] at hf; simp at hf
    · exact ⟨b, o, rfl, hb, hc k hf⟩
  subst hao
  have hcvk := cv_at (cv_of HO.out) k hf
  have hcv0 : 0 ≤ (nAt ns k).cver := by
    have := HO.out k hf
    unfold okNd okS at this
    simp only [Bool.and_eq_true, decide_eq_true_eq] at this
    omega
  obtain ⟨a0, a1, a2, a3, a4, a5, a6⟩ := hc.below B2.out hb
  generalize nAt ns k = m at *
  clear hc
  obtain ⟨xl, c0, c1, c2, c3, c4⟩ := X2.out
  cases hsq : o.seq with
  | false =>
    rw [hsq] at c4
    have HNE : Hid (nameO ns o = o.path) := by show _ = _; rw [HNM.out, hsq]; rfl
    clear a0 a1 a2 a4 a5 a6
    go_wp2_with fail
    clear xl c0 c1 c2 c3 c4 a3
    have B4 : Hid (Below w.heap.size w w3) := B2.out
    have X4 : Hid (BoxO w3 w.heap.size o) := X2.out
    have hns : o.path.size ≤ 1000000 := by have := okPath_size HPK.out; omega
    clear B2 X2 HNM
    rw [HNE.out] at HD
    generalize o.path = nm at *
    refine (specPath_any w3 nm (by omega)).mono ?_
    rintro e w5 ⟨rfl, b5⟩
    have B5 : Hid (Below w.heap.size w w5) := B4.out.trans (b5.mono B4.out.size)
    have X5 : Hid (BoxO w5 w.heap.size o) := X4.out.below b5
    clear b5 B4 X4
    cases hok2 : okPath nm with
    | false =>
      rw [hok2] at HD
      clear hok2
      go_wp2
      exact bodyPost_ret (v := .tuple #[.int .i64 1, .slice (some ⟨b, oo, none⟩) ns.length ca, .string ⟨#[]⟩]) (by simp [results, Tryz.results32, go_sem]) rfl ⟨_, by rw [HD.out]; rfl, by rw [HD.out]; exact HR.out.below B5.out, .inl rfl, B5.out⟩
    | true =>
      rw [hok2] at HD
      clear hok2
      go_wp2_with fail
      refine (l3Find_any w5 _ ns nm (HR.out.below B5.out) (by omega)).mono ?_
      rintro e w6 ⟨rfl, rfl⟩
      by_cases hg : ns.findIdx (isP nm) < ns.length
      · have hgI : (0 : Int) ≤ ((ns.findIdx (isP nm) : Nat) : Int) := by omega
        rw [show fdV ns nm = ((ns.findIdx (isP nm) : Nat) : Int) by unfold fdV; rw [if_pos hg]]
        simp only [Bool.not_true, Bool.false_eq_true, if_false] at HD
        rw [if_pos hg] at HD
        generalize ns.findIdx (isP nm) = g at *
        go_wp2
        exact bodyPost_ret (v := .tuple #[.int .i64 3, .slice (some ⟨b, oo, none⟩) ns.length ca, .string ⟨#[]⟩]) (by simp [results, Tryz.results32, go_sem]) rfl ⟨_, by rw [HD.out], by rw [HD.out]; exact HR.out.below B5.out, .inl rfl, B5.out⟩
      · rw [show fdV ns nm = -1 by unfold fdV; rw [if_neg hg]]
        simp only [Bool.not_true, Bool.false_eq_true, if_false] at HD
        rw [if_neg hg] at HD
        clear hg
        by_cases h1000 : ns.length = 1000
        · rw [if_pos h1000] at HD
          have hlb : ((ns.length : Int) == 1000) = true := by simp; omega
          clear h1000
          go_wp2
          exact bodyPost_ret (v := .tuple #[.int .i64 6, .slice (some ⟨b, oo, none⟩) ns.length ca, .string ⟨#[]⟩]) (by simp [results, Tryz.results32, go_sem]) rfl ⟨_, by rw [HD.out], by rw [HD.out]; exact HR.out.below B5.out, .inl rfl, B5.out⟩
        · rw [if_neg h1000] at HD
          have hlb : ((ns.length : Int) == 1000) = false := by simp; omega
          clear h1000
          obtain ⟨xl, c0, c1, c2, c3, c4⟩ := X5.out
          go_wp2_with fail
          clear xl c0 c1 c2 c3 c4
          have ba : Below w6.heap.size w6 (w6.alloc (.cells #[.string nm, .string o.data, .int .i64 0, .int .i64 0, .int .i64 z, .int .i64 z, .int .i64 z] 42)) := (Below.refl _ _).alloc (Nat.le_refl _) _
          have B6 : Hid (Below w.heap.size w (w6.alloc (.cells #[.string nm, .string o.data, .int .i64 0, .int .i64 0, .int .i64 z, .int .i64 z, .int .i64 z] 42))) := B5.out.trans (ba.mono B5.out.size)
          clear ba
          generalize w6.alloc (.cells #[.string nm, .string o.data, .int .i64 0, .int .i64 0, .int .i64 z, .int .i64 z, .int .i64 z] 42) = w6' at *
          refine (with_any _ _ ns ⟨nm, o.data, 0, 0, z, z, z⟩ (HR.out.below B6.out) (by omega)).mono ?_
          rintro e w7 ⟨v7, rfl, o7, b7⟩
          obtain ⟨a7, k7, hv7⟩ := o7.slice
          subst hv7
          have hwl := wiN_len ns ⟨nm, o.data, 0, 0, z, z, z⟩
          have HCV : Hid (∀ k, k < (wiN ns ⟨nm, o.data, 0, 0, z, z, z⟩).length → -1 ≤ (nAt (wiN ns ⟨nm, o.data, 0, 0, z, z, z⟩) k).cver ∧ (nAt (wiN ns ⟨nm, o.data, 0, 0, z, z, z⟩) k).cver ≤ 2147483647) := cv_at (fun m hm => by
            rcases wi_mem hm with h9 | h9
            · exact cv_of HO.out m h9
            · rw [h9]; simp)
          have R7 : Hid (RdN w7 (.slice a7 (wiN ns ⟨nm, o.data, 0, 0, z, z, z⟩).length k7) (wiN ns ⟨nm, o.data, 0, 0, z, z, z⟩)) := o7.rd
          have F7 : Hid (New w (.slice a7 (wiN ns ⟨nm, o.data, 0, 0, z, z, z⟩).length k7)) := OwnN.new9 o7 B6.out.size
          have B7 : Hid (Below w.heap.size w w7) := B6.out.trans (b7.mono B6.out.size)
          clear o7 b7 B6 B5 X5
          generalize wiN ns ⟨nm, o.data, 0, 0, z, z, z⟩ = WN at *
          go_wp2_with fail
          refine (l3Touch_any w7 _ WN pb z R7.out (by omega) HCV.out).mono ?_
          rintro e w8 ⟨v8, rfl, r8, f8, b8⟩
          obtain ⟨a8, k8, hv8, -, -⟩ := r8.len
          subst hv8
          have R8 : Hid (RdN w8 (.slice a8 (toN WN pb z).length k8) (toN WN pb z)) := r8
          have F8 : Hid (New w (.slice a8 (toN WN pb z).length k8)) := f8.new F7.out B7.out.size
          have B8 : Hid (Below w.heap.size w w8) := B7.out.trans (b8.mono B7.out.size)
          clear r8 f8 b8 B7 R7 F7 HCV
          go_wp2
          exact bodyPost_ret (v := .tuple #[.int .i64 0, .slice a8 (toN WN pb z).length k8, .string nm]) (by simp [results, Tryz.results32, go_sem]) rfl ⟨_, by rw [HD.out], by rw [HD.out]; exact R8.out, .inr F8.out, B8.out⟩
  | true =>
    rw [hsq] at c4
    obtain ⟨cvn, hcvn⟩ : ∃ n : Nat, m.cver = (n : Int) := ⟨m.cver.toNat, by omega⟩
    rw [hcvn] at a3
    clear a0 a1 a2 a4 a5 a6
    have h10 : cvn < 10 ^ 11 := by
      have : (10 : Nat) ^ 11 = 100000000000 := by decide
      omega
    go_wp2_with fail
    refine (l3Six_any 11 w3 cvn 6 (by omega) h10 (by omega) (by decide) (by omega) (by omega)).mono ?_
    rintro e w4 ⟨rfl, b4⟩
    have h6 := six_len 12 cvn 6
    have hps := okPath_size HPK.out
    have HNE : Hid (nameO ns o = o.path ++ ⟨(six 12 cvn 6).toArray⟩) := by
      show _ = _
      rw [HNM.out, hsq, hcvn]
      apply ByteArray.ext
      simp [ByteArray.data_append]
    have hsz : (o.path ++ (⟨(six 12 cvn 6).toArray⟩ : ByteArray)).size ≤ 1000000 := by
      rw [ByteArray.size_append]
      have : (⟨(six 12 cvn 6).toArray⟩ : ByteArray).size = (six 12 cvn 6).length := by simp [ByteArray.size]
      omega
    have B4 : Hid (Below w.heap.size w w4) := B2.out.trans (b4.mono B2.out.size)
    have X4 : Hid (BoxO w4 w.heap.size o) := X2.out.below b4
    clear b4 B2 X2 HNM xl c0 c1 c2 c3 c4 a3 h10
    have e66 : (6 : Int).toNat = 6 := rfl
    rw [e66]
    clear e66
    generalize six 12 cvn 6 = SX at *
    have hlS : o.path.size + SX.length ≤ 9223372036854775807 := by omega
    go_wp2_with fail
    rw [HNE.out] at HD
    clear HNE
    have hns := hsz
    clear hsz hlS
    generalize o.path ++ (⟨SX.toArray⟩ : ByteArray) = nm at *
    refine (specPath_any w4 nm (by omega)).mono ?_
    rintro e w5 ⟨rfl, b5⟩
    have B5 : Hid (Below w.heap.size w w5) := B4.out.trans (b5.mono B4.out.size)
    have X5 : Hid (BoxO w5 w.heap.size o) := X4.out.below b5
    clear b5 B4 X4
    cases hok2 : okPath nm with
    | false =>
      rw [hok2] at HD
      clear hok2
      go_wp2
      exact bodyPost_ret (v := .tuple #[.int .i64 1, .slice (some ⟨b, oo, none⟩) ns.length ca, .string ⟨#[]⟩]) (by simp [results, Tryz.results32, go_sem]) rfl ⟨_, by rw [HD.out]; rfl, by rw [HD.out]; exact HR.out.below B5.out, .inl rfl, B5.out⟩
    | true =>
      rw [hok2] at HD
      clear hok2
      go_wp2_with fail
      refine (l3Find_any w5 _ ns nm (HR.out.below B5.out) (by omega)).mono ?_
      rintro e w6 ⟨rfl, rfl⟩
      by_cases hg : ns.findIdx (isP nm) < ns.length
      · have hgI : (0 : Int) ≤ ((ns.findIdx (isP nm) : Nat) : Int) := by omega
        rw [show fdV ns nm = ((ns.findIdx (isP nm) : Nat) : Int) by unfold fdV; rw [if_pos hg]]
        simp only [Bool.not_true, Bool.false_eq_true, if_false] at HD
        rw [if_pos hg] at HD
        generalize ns.findIdx (isP nm) = g at *
        go_wp2
        exact bodyPost_ret (v := .tuple #[.int .i64 3, .slice (some ⟨b, oo, none⟩) ns.length ca, .string ⟨#[]⟩]) (by simp [results, Tryz.results32, go_sem]) rfl ⟨_, by rw [HD.out], by rw [HD.out]; exact HR.out.below B5.out, .inl rfl, B5.out⟩
      · rw [show fdV ns nm = -1 by unfold fdV; rw [if_neg hg]]
        simp only [Bool.not_true, Bool.false_eq_true, if_false] at HD
        rw [if_neg hg] at HD
        clear hg
        by_cases h1000 : ns.length = 1000
        · rw [if_pos h1000] at HD
          have hlb : ((ns.length : Int) == 1000) = true := by simp; omega
          clear h1000
          go_wp2
          exact bodyPost_ret (v := .tuple #[.int .i64 6, .slice (some ⟨b, oo, none⟩) ns.length ca, .string ⟨#[]⟩]) (by simp [results, Tryz.results32, go_sem]) rfl ⟨_, by rw [HD.out], by rw [HD.out]; exact HR.out.below B5.out, .inl rfl, B5.out⟩
        · rw [if_neg h1000] at HD
          have hlb : ((ns.length : Int) == 1000) = false := by simp; omega
          clear h1000
          obtain ⟨xl, c0, c1, c2, c3, c4⟩ := X5.out
          go_wp2_with fail
          clear xl c0 c1 c2 c3 c4
          have ba : Below w6.heap.size w6 (w6.alloc (.cells #[.string nm, .string o.data, .int .i64 0, .int .i64 0, .int .i64 z, .int .i64 z, .int .i64 z] 42)) := (Below.refl _ _).alloc (Nat.le_refl _) _
          have B6 : Hid (Below w.heap.size w (w6.alloc (.cells #[.string nm, .string o.data, .int .i64 0, .int .i64 0, .int .i64 z, .int .i64 z, .int .i64 z] 42))) := B5.out.trans (ba.mono B5.out.size)
          clear ba
          generalize w6.alloc (.cells #[.string nm, .string o.data, .int .i64 0, .int .i64 0, .int .i64 z, .int .i64 z, .int .i64 z] 42) = w6' at *
          refine (with_any _ _ ns ⟨nm, o.data, 0, 0, z, z, z⟩ (HR.out.below B6.out) (by omega)).mono ?_
          rintro e w7 ⟨v7, rfl, o7, b7⟩
          obtain ⟨a7, k7, hv7⟩ := o7.slice
          subst hv7
          have hwl := wiN_len ns ⟨nm, o.data, 0, 0, z, z, z⟩
          have HCV : Hid (∀ k, k < (wiN ns ⟨nm, o.data, 0, 0, z, z, z⟩).length → -1 ≤ (nAt (wiN ns ⟨nm, o.data, 0, 0, z, z, z⟩) k).cver ∧ (nAt (wiN ns ⟨nm, o.data, 0, 0, z, z, z⟩) k).cver ≤ 2147483647) := cv_at (fun m hm => by
            rcases wi_mem hm with h9 | h9
            · exact cv_of HO.out m h9
            · rw [h9]; simp)
          have R7 : Hid (RdN w7 (.slice a7 (wiN ns ⟨nm, o.data, 0, 0, z, z, z⟩).length k7) (wiN ns ⟨nm, o.data, 0, 0, z, z, z⟩)) := o7.rd
          have F7 : Hid (New w (.slice a7 (wiN ns ⟨nm, o.data, 0, 0, z, z, z⟩).length k7)) := OwnN.new9 o7 B6.out.size
          have B7 : Hid (Below w.heap.size w w7) := B6.out.trans (b7.mono B6.out.size)
          clear o7 b7 B6 B5 X5
          generalize wiN ns ⟨nm, o.data, 0, 0, z, z, z⟩ = WN at *
          go_wp2_with fail
          refine (l3Touch_any w7 _ WN pb z R7.out (by omega) HCV.out).mono ?_
          rintro e w8 ⟨v8, rfl, r8, f8, b8⟩
          obtain ⟨a8, k8, hv8, -, -⟩ := r8.len
          subst hv8
          have R8 : Hid (RdN w8 (.slice a8 (toN WN pb z).length k8) (toN WN pb z)) := r8
          have F8 : Hid (New w (.slice a8 (toN WN pb z).length k8)) := f8.new F7.out B7.out.size
          have B8 : Hid (Below w.heap.size w w8) := B7.out.trans (b8.mono B7.out.size)
          clear r8 f8 b8 B7 R7 F7 HCV
          go_wp2
          exact bodyPost_ret (v := .tuple #[.int .i64 0, .slice a8 (toN WN pb z).length k8, .string nm]) (by simp [results, Tryz.results32, go_sem]) rfl ⟨_, by rw [HD.out], by rw [HD.out]; exact R8.out, .inr F8.out, B8.out⟩

end Go.Proofs.YtdiingonnddkcaaGreatDoor


