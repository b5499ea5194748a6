import Derived.Test.YtmgolinleiahpaaJ03
import Derived.Test.YtmgolinleiahpaaJ01
import Derived.Test.YtmgolinleiahpaaJ02
import Derived.Deep.RegionHeld3
namespace Go.Proofs.Ytmgolinleiahpaa
open Go.RowKit

theorem step_make {P : Program} {ops : Array Oper} {o : Oper} {a : Act} {w : World} {K : Act → World → Prop} {Q : Exit → Act → World → Prop} {E : Prop}
    (hg : o.guard = none) (l c : Operand) (t : TypeId) (hop : o.op = Op.makeSlice t l c)
    (base : Nat) (e : TypeId) (i : TypeInfo) (z : Value) (size : Nat) (h1 : P.underlying t = some (.slice e)) (h2 : P.info? e = some i) (h3 : i.zero = some z) (h4 : i.size = size)
    (kl kc : IntKind) (L C : Int) (n : Nat) (hl : a.eval l = .int kl L) (hc : a.eval c = .int kc C) (hL : L = (n : Int)) (hC : C = (n : Int)) (b2 : i.bytes * n ≤ 281474976710656) (b3 : n ≤ maxLen) (b4 : base ≤ w.heap.size)
    (hK : ∀ w', w'.ownsRow base e size (.slice (some ⟨w.heap.size, 0, none⟩) n n) n (madeCells z.cells (n * size)).toList → w.grownBy w' none → K (a.put o.dst (.slice (some ⟨w.heap.size, 0, none⟩) n n)) w') :
    if Region.wanted o (yielded ops a.tmps) = true then Oper.wp P o a w K Q else E := by
  have hw : Region.wanted o (yielded ops a.tmps) = true := by simp [Region.wanted, hg]
  rw [if_pos hw]
  obtain ⟨w', hrun, r1, r2⟩ := run_make_full (P := P) w base t e i z size h1 h2 h3 h4 kl kc n b2 b3 b4
  subst hL
  subst hC
  unfold Oper.wp
  simp [execOp, hop, hl, hc, hrun, Result.andThen]
  exact hK w' r1 r2
theorem made_zeros {w : World} {base g n : Nat} (h : w.ownsRow base 5 1 (.slice (some ⟨g, 0, none⟩) n n) n (madeCells (Value.int .u8 0).cells (n * 1)).toList) : Own .u8 5 w base (.slice (some ⟨g, 0, none⟩) n n) (zeros n) := own_zeros (by rw [Nat.mul_one] at h; exact h)

theorem ne2_new {u u1 v : Value} {n : Nat} (h : Ne2 u u1) (hlt : ∀ g, u.ownBlock = some g → g < n) (hv : v.ownBlock = u1.ownBlock ∨ ∀ g, v.ownBlock = some g → n ≤ g) : Ne2 u v := by
  unfold Ne2 at *
  cases e : u.ownBlock with
  | none => exact .inl rfl
  | some g =>
    right
    intro e2
    rcases hv with hv | hv
    · rcases h with h | h
      · rw [e] at h; cases h
      · exact h (by rw [e, e2, hv])
    · have h1 := hlt g e
      have h2 := hv g e2.symm
      omega
theorem BoxF.put0 {w : World} {b : Nat} {x y : Value} (h : BoxF w b x y) (u : Value) : BoxF (w.setCell ⟨b, 0, none⟩ u) b u y := by
  obtain ⟨⟨h1, h2, h3⟩, h4, h5⟩ := h
  exact ⟨⟨by simpa using h1, World.cell?_setCell_same _ _ _ h2, (World.cell?_setCell_other _ _ _ _ (by simp)).trans h3⟩, by rw [World.frozen?_setCell]; exact h4, by rw [World.frozen?_setCell]; exact h5⟩
theorem BoxF.put1 {w : World} {b : Nat} {x y : Value} (h : BoxF w b x y) (u : Value) : BoxF (w.setCell ⟨b, 1, none⟩ u) b x u := by
  obtain ⟨⟨h1, h2, h3⟩, h4, h5⟩ := h
  exact ⟨⟨by simpa using h1, (World.cell?_setCell_other _ _ _ _ (by simp)).trans h2, World.cell?_setCell_same _ _ _ h3⟩, by rw [World.frozen?_setCell]; exact h4, by rw [World.frozen?_setCell]; exact h5⟩
theorem BoxF.off1 {w : World} {b c j : Nat} {x y : Value} (h : BoxF w b x y) (hne : b ≠ c) (u : Value) : BoxF (w.setCell ⟨c, j, none⟩ u) b x y := by
  obtain ⟨⟨h1, h2, h3⟩, h4, h5⟩ := h
  have e : ∀ i, (w.setCell ⟨c, j, none⟩ u).cell? ⟨b, i, none⟩ = w.cell? ⟨b, i, none⟩ := fun i => World.cell?_setCell_other _ _ _ _ (by intro e; injection e with e; exact hne (by first | exact e | exact e.symm))
  exact ⟨⟨by simpa using h1, (e 0).trans h2, (e 1).trans h3⟩, by rw [World.frozen?_setCell]; exact h4, by rw [World.frozen?_setCell]; exact h5⟩

/-- Another durable list. -/
theorem GS.durs {W w w3 : World} {k B Bd : Nat} {u1 u2 v : Value} {dv : Nat → Value} {q : Dk × Sr} {dur : List Int} (h : GS W k B Bd u1 u2 dv q w) (ho : Own .u8 5 w3 (W.heap.size + 1) v dur) (hg : w.grownBy w3 u1.ownBlock) (hv : v.ownBlock = u1.ownBlock ∨ ∀ g, v.ownBlock = some g → w.heap.size ≤ g) :
    GS W k B Bd v u2 dv ((dur, q.1.2), q.2) (w3.setCell ⟨Bd, 0, none⟩ v) := by
  have h1 := h.src.kB
  have h2 := h.bW
  have h3 := h.hB
  have h4 := h.bx.1.1
  have h5 := h.r.1.1
  have hs := hg.size
  have hb : Below (W.heap.size + 1) w w3 := (Below.refl _ _).grown hg h5 (fun g e => (h.own.d.lt g e).1)
  have e1 : v.ownBlock ≠ some Bd := by
    intro e
    rcases hv with hv | hv
    · exact h.o1 (by rw [← hv]; exact e)
    · have := hv Bd e; omega
  have x3 : BoxF w3 Bd u1 u2 := h.bx.other hg (fun e => h.o1 e.symm)
  have o3 : OwnD w3 (W.heap.size + 1) w3.heap.size v u2 dur q.1.2 dv :=
    ⟨ho, ⟨World.ownsRow.kept h.own.p.1 hg h.own.dp, fun i hi => (h.own.p.2.1 i hi).other hg (h.own.dq i hi), h.own.p.2.2⟩, fun g e => (ho.lt g e).2, fun g e => Nat.lt_of_lt_of_le (h.own.plt g e) hs, fun i hi g e => Nat.lt_of_lt_of_le (h.own.qlt i hi g e) hs,
      ne2_new h.own.dp h.own.plt hv, fun i hi => ne2_new (h.own.dq i hi) (h.own.qlt i hi) hv⟩
  have eb : Below Bd w3 (w3.setCell ⟨Bd, 0, none⟩ v) := (Below.refl Bd w3).setCell (p := ⟨Bd, 0, none⟩) (Nat.le_refl Bd) _
  refine ⟨h.hB, h.bW, (h.r.belowB hb (Nat.lt_succ_self _)).off1 (by omega) _, x3.put0 v, (o3.setOff (B := Bd) e1 h.o2 h.o3).mono (Nat.le_refl _) (by simp), e1, h.o2, h.o3, ?_, ?_⟩
  · exact (h.src.keep (hb.mono (by omega))).keep (eb.mono (by omega))
  · exact (h.tch.then (hb.mono (by omega))).then (eb.mono (by omega))
/-- One pending write more. -/
theorem GS.snoc {W w w' w4 : World} {k B Bd g cap n : Nat} {u1 u2 v : Value} {dv : Nat → Value} {q : Dk × Sr} {x : Int} {xs : List Int} {ob : Obj} (h : GS W k B Bd u1 u2 dv q w) (hn : q.1.2.length = n) (bw : Below w.heap.size w w') (o' : Own .u8 5 w' w.heap.size v xs)
    (ho4 : w4.ownsRow (W.heap.size + 1) 42 2 (.slice (some ⟨g, 0, none⟩) (n + 1) cap) (n + 1) (rowW n (pB q.1.2) dv ++ [.int .i64 x, v])) (hg4 : (w'.alloc ob).grownBy w4 u2.ownBlock) (hat : u2.ownBlock = some g ∨ g = w'.heap.size + 1) :
    GS W k B Bd u1 (.slice (some ⟨g, 0, none⟩) (n + 1) cap) (dvSet dv n v) ((q.1.1, q.1.2 ++ [(x, xs)]), q.2) (w4.setCell ⟨Bd, 1, none⟩ (.slice (some ⟨g, 0, none⟩) (n + 1) cap)) := by
  have h1 := h.src.kB
  have h2 := h.bW
  have h3 := h.hB
  have h4 := h.bx.1.1
  have h5 := h.r.1.1
  have hs := bw.size
  have hsa : (w'.alloc ob).heap.size = w'.heap.size + 1 := by simp
  have ba : Below w.heap.size w (w'.alloc ob) := bw.alloc hs _
  have hb : Below (W.heap.size + 1) w w4 := (ba.mono h5).grown hg4 (by omega) (fun g e => (World.ownsRow.lt h.own.p.1 g e).1)
  have o4 := ownD_snoc h.own (Nat.le_refl _) h5 hn bw o' ho4 hg4 hat
  have x4 : BoxF w4 Bd u1 u2 := (h.bx.below ba).other hg4 (fun e => h.o2 e.symm)
  have e2 : Value.ownBlock (.slice (some ⟨g, 0, none⟩) (n + 1) cap) ≠ some Bd := by
    intro e
    simp only [Value.ownBlock, Option.some.injEq] at e
    rcases hat with hat | hat
    · exact h.o2 (by rw [hat, e])
    · omega
  have e3 : ∀ i, i < (q.1.2 ++ [(x, xs)]).length → (dvSet dv n v i).ownBlock ≠ some Bd := by
    intro i hi e
    unfold dvSet at e
    split at e
    · have := (o'.lt Bd e).1; omega
    · rw [List.length_append] at hi
      exact h.o3 i (by simp at hi; omega) e
  have eb : Below Bd w4 (w4.setCell ⟨Bd, 1, none⟩ (.slice (some ⟨g, 0, none⟩) (n + 1) cap)) := (Below.refl Bd w4).setCell (p := ⟨Bd, 1, none⟩) (Nat.le_refl Bd) _
  refine ⟨h.hB, h.bW, (h.r.belowB hb (Nat.lt_succ_self _)).off1 (by omega) _, x4.put1 _, (o4.setOff (B := Bd) h.o1 e2 e3).mono (Nat.le_refl _) (by simp), h.o1, e2, e3, ?_, ?_⟩
  · exact (h.src.keep (hb.mono (by omega))).keep (eb.mono (by omega))
  · exact (h.tch.then (hb.mono (by omega))).then (eb.mono (by omega))

/-- The drawn disk. -/
def Sr.dk (q : Dk × Sr) : Dk × Sr :=
  if (q.2.next 30).1 = 0 then ((q.1.1 ++ [1], q.1.2), (q.2.next 30).2)
  else if (q.2.next 30).1 = 1 then (([], q.1.2), (q.2.next 30).2)
  else if (q.2.next 30).1 = 2 then ((zeros ((300 + ((q.2.next 30).2.next 2).1) * 64), q.1.2), ((q.2.next 30).2.next 2).2)
  else if (q.2.next 30).1 = 3 then ((q.1.1, q.1.2 ++ [((((q.2.next 30).2.next 2).1 : Int) * 9, zeros (63 + (((q.2.next 30).2.next 2).2.next 3).1))]), (((q.2.next 30).2.next 2).2.next 3).2)
  else if (q.2.next 30).1 = 4 then ((q.1.1, q.1.2 ++ [(-1, zeros 64)]), (q.2.next 30).2)
  else if (q.2.next 30).1 = 5 then ((q.1.1, q.1.2 ++ List.replicate (1999 + ((q.2.next 30).2.next 3).1 - q.1.2.length) (0, zeros 64)), ((q.2.next 30).2.next 3).2)
  else (q.1, (q.2.next 30).2)
def Sr.disk (s : Sr) : Dk × Sr := Sr.dk s.good
/-- How many writes are pending in the box. -/
def pLen (w : World) (Bd : Nat) : Nat := match w.cell? ⟨Bd, 1, none⟩ with | some (.slice _ n _) => n | _ => 0
theorem pLen_of {w : World} {Bd n c : Nat} {x : Value} {a : Option Addr} (h : BoxF w Bd x (.slice a n c)) : pLen w Bd = n := by unfold pLen; rw [h.1.2.2]
theorem next_size (s : Sr) (n : Nat) : (s.next n).2.size = s.size := by
  unfold Sr.next
  split
  · rfl
  · split <;> rfl
theorem fill_size (s : Sr) : s.fill.2.size = s.size := by simp only [Sr.fill, next_size]
theorem good1_size (q : Dk × Sr) : ∀ i, (good1 q i).2.size = q.2.size
  | 0 => rfl
  | i + 1 => by
    unfold good1
    split
    · simp only [fill_size, next_size, good1_size q i]
    · simp only [next_size, good1_size q i]
theorem good_sm (s : Sr) (hs : s.size ≤ 7) : Sm s.good.1 320 10 := by
  have h1 := s.next_lt 5 (by omega)
  have hz : Sm ((zeros ((1 + (s.next 5).1) * 64), []) : Dk) 320 0 := ⟨by rw [zeros_len]; omega, Nat.le_refl _, fun i => by simp [pD]⟩
  have h2 : Sm s.good1.1 320 (0 + (1 + (s.next 5).1)) := good1_sm ((zeros ((1 + (s.next 5).1) * 64), []), (s.next 5).2) 320 0 hz (1 + (s.next 5).1)
  have h4 : s.good1.2.size ≤ 7 := by
    unfold Sr.good1
    rw [good1_size, next_size]
    exact hs
  have h3 := s.good1.2.next_lt (3 + s.good1.2.size) (by omega)
  have h5 : Sm (syK s.good1.1) 320 0 := h2.sync
  exact (good2_sm (1 + (s.next 5).1) (syK s.good1.1, (s.good1.2.next (3 + s.good1.2.size)).2) 320 0 h5 (s.good1.2.next (3 + s.good1.2.size)).1).mono (by omega)

/-- What is known of the drawn disk. -/
def DkPost (W : World) (k B : Nat) (s : Sr) (e : Ending) (w' : World) : Prop := ∃ u1 u2 dv, e = .returned (.agg #[u1, u2]) ∧ OwnD w' W.heap.size w'.heap.size u1 u2 s.disk.1.1 s.disk.1.2 dv ∧ SRX w' k B s.disk.2 ∧ Tch k W w'

set_option linter.unusedSimpArgs false in
set_option maxHeartbeats 4000000 in
set_option maxRecDepth 100000 in
theorem disk_x (W : World) (k B : Nat) (s : Sr) (h : SRX W k B s) :
    Calls Try.prog 39 #[.pointer (some ⟨k, 0, none⟩)] W fun e w' => DkPost W k B s e w' := by
  obtain ⟨i1, hi1, hy0, hy1, hy2⟩ := info_parts Try.infoB
  obtain ⟨i0, hi, hz0, hz1, hz2⟩ := info_parts Try.infoW
  have hkB := h.kB
  have hBW := h.lt
  have HSM : Hid (Sm s.good.1 320 10) := good_sm s h.sz.2
  have HA : Hid (SRX (W.alloc (.cells #[.slice none 0 0, .slice none 0 0] 32)) k B s) := h.keep ((Below.refl _ _).alloc h.lt _)
  have BA : Hid (Below W.heap.size W (W.alloc (.cells #[.slice none 0 0, .slice none 0 0] 32))) := (Below.refl _ _).alloc (Nat.le_refl _) _
  have RA : Hid (BoxF (W.alloc (.cells #[.slice none 0 0, .slice none 0 0] 32)) W.heap.size (.slice none 0 0) (.slice none 0 0)) := BoxF.new _ _ _ _
  have zA : (W.alloc (.cells #[.slice none 0 0, .slice none 0 0] 32)).heap.size = W.heap.size + 1 := by simp
  clear h
  go_enter Try.func39, Try.ntmps39
  go_wp2_with fail
  generalize W.alloc (.cells #[.slice none 0 0, .slice none 0 0] 32) = wA at *
  refine (good_x _ k B s HA.out).mono ?_
  rintro e w1 ⟨u1, u2, dv, rfl, od, s1, t1⟩
  have HD : Hid (s.disk = Sr.dk s.good) := rfl
  generalize s.good = q at *
  obtain ⟨a1, c1, hv1⟩ := od.d.slice
  obtain ⟨a2, c2, hv2⟩ := od.p.slice
  subst hv1 hv2
  obtain ⟨Bd, hBd⟩ : ∃ Bd, Bd = w1.heap.size := ⟨_, rfl⟩
  have z1 := t1.size
  have ba : Below w1.heap.size w1 (w1.alloc (.cells #[.slice a1 q.1.1.length c1, .slice a2 q.1.2.length c2] 32)) := (Below.refl _ _).alloc (Nat.le_refl _) _
  have G0 : Hid (GS W k B Bd (.slice a1 q.1.1.length c1) (.slice a2 q.1.2.length c2) dv q (w1.alloc (.cells #[.slice a1 q.1.1.length c1, .slice a2 q.1.2.length c2] 32))) := by
    rw [hBd]
    refine ⟨by omega, hBW, (RA.out.tch t1 (by omega)).below ba, BoxF.new _ _ _ _, (od.below ba).mono (by omega) (by simp), fun e => ?_, fun e => ?_, fun i hi e => ?_, s1.keep (ba.mono (by omega)), ((Tch.of BA.out).trans t1).then (ba.mono (by omega))⟩
    · have := od.dlt _ e; omega
    · have := od.plt _ e; omega
    · have := od.qlt i hi _ e; omega
  clear ba od s1 t1 RA BA HA
  go_wp2_with fail
  rw [← hBd]
  generalize w1.alloc (.cells #[.slice a1 q.1.1.length c1, .slice a2 q.1.2.length c2] 32) = w2 at *
  clear hBd z1 zA
  refine (next_x _ k B 30 _ G0.out.src (by omega)).mono ?_
  rintro e w3 ⟨rfl, sf, tf⟩
  have G1 : Hid (GS W k B Bd (.slice a1 q.1.1.length c1) (.slice a2 q.1.2.length c2) dv (q.1, (q.2.next 30).2) w3) := G0.out.next sf tf
  have hDK : Sr.dk q = Sr.dk q := rfl
  rw [Sr.dk] at hDK
  have HDK : Hid (s.disk = _) := HD.out.trans hDK.symm
  clear hDK
  clear sf tf G0 HD
  obtain ⟨d, s0⟩ := q
  obtain ⟨dur, ps⟩ := d
  simp only at *
  generalize hmm : (s0.next 30).1 = m at *
  generalize (s0.next 30).2 = t at *
  clear hmm
  obtain ⟨hd1, hd2, hd3⟩ := HSM.out
  simp only at hd1 hd2
  have HD3 : Hid (∀ i, (pD ps i).length ≤ 64) := hd3
  clear hd3 HSM
  have z3 := G1.out.r.1.1
  have TAIL : Hid (∀ v1 v2 dv2 w, GS W k B Bd v1 v2 dv2 s.disk w → DkPost W k B s (.returned (.agg #[v1, v2])) ((w.setCell ⟨W.heap.size, 0, none⟩ v1).setCell ⟨W.heap.size, 1, none⟩ v2)) := by
    intro v1 v2 dv2 w hG
    have eb : Below W.heap.size w ((w.setCell ⟨W.heap.size, 0, none⟩ v1).setCell ⟨W.heap.size, 1, none⟩ v2) := ((Below.refl W.heap.size w).setCell (p := ⟨W.heap.size, 0, none⟩) (Nat.le_refl _) _).setCell (p := ⟨W.heap.size, 1, none⟩) (Nat.le_refl _) _
    exact ⟨_, _, _, rfl, (hG.own.below2 (Nat.lt_succ_self _)).mono (Nat.le_succ _) (by simp), hG.src.keep (eb.mono hG.bW), hG.tch.then eb⟩
  by_cases h0 : m = 0
  · subst h0
    have HE : Hid (s.disk = ((dur ++ [1], ps), t)) := by show _ = _; rw [HDK.out]; rfl
    clear HDK
    go_upto_region 4 with fail
    go_cut [] from 12 to 16 (fun wx => ∃ v1 v2 dv2, Hid (GS W k B Bd v1 v2 dv2 s.disk wx))
    case first =>
      obtain ⟨⟨zb, cb0, cb1⟩, fb0, fb1⟩ := G1.out.bx
      go_wp2_with (at_builtin; go_must (refine wpList_append_lies _ rfl _ _ 29 rfl (W.heap.size + 1) 5 i1 (.int .u8 0) 1 1 Try.underlying29 hi1 hy0 hy1 hy2 rfl (by decide) (.slice a1 dur.length c1) dur.length (dur.map (Value.int .u8)) rfl (G1.out.own.d.alloc _) ⟨w3.heap.size, 0, none⟩ 1 1 [.int .u8 1] rfl rfl (cell_one_new _ _ _) (by intro u hu; simp at hu; subst hu; rfl) (by omega) ?c3 ?c4 ?c5 (w3.heap.size + 1) (by simp) ?_))
      case c3 => unfold maxLen; omega
      case c4 => omega
      case c5 => first | omega | (simp; omega)
      intro g4 cap4 w4 ho4 hg4 hat4 hlt4
      have GE1 := G1.out.durs (v := .slice (some ⟨g4, 0, none⟩) (dur.length + 1) cap4) (dur := dur ++ [1]) (by show World.ownsRow _ _ _ _ _ _ _; rw [List.length_append, List.map_append]; exact ho4) (World.grownBy.trans (World.grownBy_alloc w3 _ _) hg4) (by rcases hat4 with e | e; exact .inl e.symm; exact .inr (fun g hg => by simp only [Value.ownBlock, Option.some.injEq] at hg; omega))
      have GE : Hid (GS W k B Bd (.slice (some ⟨g4, 0, none⟩) (dur.length + 1) cap4) (.slice a2 ps.length c2) dv s.disk (w4.setCell ⟨Bd, 0, none⟩ (.slice (some ⟨g4, 0, none⟩) (dur.length + 1) cap4))) := by rw [HE.out]; exact GE1
      obtain ⟨⟨xb, xb0, xb1⟩, xf0, xf1⟩ := (G1.out.bx.below ((Below.refl _ _).alloc (Nat.le_refl _) (.cells #[.int .u8 1] 5))).other hg4 (fun e => G1.out.o1 e.symm)
      clear zb cb0 cb1 fb0 fb1 GE1 G1 ho4 hg4 hat4 hlt4 HE
      go_wp2_with fail
      go_meet
      exact ⟨_, _, _, GE⟩
    case rest =>
      obtain ⟨v1, v2, dv2, GE⟩ := hcut
      obtain ⟨x1, y1, hx1⟩ := GE.out.own.d.slice
      obtain ⟨x2, y2, hx2⟩ := GE.out.own.p.slice
      subst hx1 hx2
      obtain ⟨⟨zb, cb0, cb1⟩, fb0, fb1⟩ := GE.out.bx
      obtain ⟨⟨rb, rb0, rb1⟩, fr0, fr1⟩ := GE.out.r
      go_wp2
      exact bodyPost_ret (v := .agg #[.slice x1 _ y1, .slice x2 _ y2]) (by simp [results, Try.results39, go_sem, rb0, rb1]) rfl (TAIL.out _ _ _ _ GE.out)
  by_cases h1 : m = 1
  · subst h1
    have HE : Hid (s.disk = (([], ps), t)) := by show _ = _; rw [HDK.out]; rfl
    clear HDK
    go_upto_region 6 with fail
    go_cut [] from 19 to 20 (fun wx => ∃ v1 v2 dv2, Hid (GS W k B Bd v1 v2 dv2 s.disk wx))
    case first =>
      obtain ⟨⟨zb, cb0, cb1⟩, fb0, fb1⟩ := G1.out.bx
      have OL : Own .u8 5 (w3.alloc (.cells #[] 5)) (W.heap.size + 1) (.slice (some ⟨w3.heap.size, 0, none⟩) 0 0) [] := World.ownsRow_lit w3 #[] 0 z3 (Nat.zero_le _) rfl
      have GE1 := G1.out.durs OL (World.grownBy_alloc w3 _ _) (.inr (fun g hg => by simp only [Value.ownBlock, Option.some.injEq] at hg; omega))
      rw [World.setCell_alloc_past _ _ _ _ zb] at GE1
      have GE : Hid (GS W k B Bd (.slice (some ⟨w3.heap.size, 0, none⟩) 0 0) (.slice a2 ps.length c2) dv s.disk ((w3.setCell ⟨Bd, 0, none⟩ (.slice (some ⟨w3.heap.size, 0, none⟩) 0 0)).alloc (.cells #[] 5))) := by rw [HE.out]; exact GE1
      clear GE1 OL G1 HE
      go_wp2_with fail
      go_meet
      exact ⟨_, _, _, GE⟩
    case rest =>
      obtain ⟨v1, v2, dv2, GE⟩ := hcut
      obtain ⟨x1, y1, hx1⟩ := GE.out.own.d.slice
      obtain ⟨x2, y2, hx2⟩ := GE.out.own.p.slice
      subst hx1 hx2
      obtain ⟨⟨zb, cb0, cb1⟩, fb0, fb1⟩ := GE.out.bx
      obtain ⟨⟨rb, rb0, rb1⟩, fr0, fr1⟩ := GE.out.r
      go_wp2
      exact bodyPost_ret (v := .agg #[.slice x1 _ y1, .slice x2 _ y2]) (by simp [results, Try.results39, go_sem, rb0, rb1]) rfl (TAIL.out _ _ _ _ GE.out)
  by_cases h2 : m = 2
  · subst h2
    have HE : Hid (s.disk = ((zeros ((300 + (t.next 2).1) * 64), ps), (t.next 2).2)) := by show _ = _; rw [HDK.out]; rfl
    clear HDK
    go_upto_region 8 with fail
    go_cut [] from 23 to 28 (fun wx => ∃ v1 v2 dv2, Hid (GS W k B Bd v1 v2 dv2 s.disk wx))
    case first =>
      go_wp2_with fail
      refine (next_x _ k B 2 _ G1.out.src (by omega)).mono ?_
      rintro e w4 ⟨rfl, sf, tf⟩
      have hn2 := t.next_lt 2 (by omega)
      have G2 : Hid (GS W k B Bd (.slice a1 dur.length c1) (.slice a2 ps.length c2) dv ((dur, ps), (t.next 2).2) w4) := G1.out.next sf tf
      have z4 := G2.out.r.1.1
      clear sf tf G1
      go_wp2_with (at_make; go_must (refine wpList_make_full _ rfl _ _ 29 rfl (W.heap.size + 1) 5 i1 (.int .u8 0) 1 Try.underlying29 hi1 hy0 hy1 _ _ _ _ ((300 + (t.next 2).1) * 64) rfl rfl ?m1 ?m2 ?m3 ?m4 ?m5 ?_))
      case m1 => omega
      case m2 => omega
      case m3 => rw [hy2]; omega
      case m4 => unfold maxLen; omega
      case m5 => omega
      intro w5 om gm
      have GE1 := G2.out.durs (v := .slice (some ⟨w4.heap.size, 0, none⟩) ((300 + (t.next 2).1) * 64) ((300 + (t.next 2).1) * 64)) (own_zeros om) ⟨gm.os, gm.tape, gm.output, gm.size, fun j hj _ => gm.block j hj (by simp)⟩ (.inr (fun g hg => by simp only [Value.ownBlock, Option.some.injEq] at hg; omega))
      have GE : Hid (GS W k B Bd (.slice (some ⟨w4.heap.size, 0, none⟩) ((300 + (t.next 2).1) * 64) ((300 + (t.next 2).1) * 64)) (.slice a2 ps.length c2) dv s.disk (w5.setCell ⟨Bd, 0, none⟩ (.slice (some ⟨w4.heap.size, 0, none⟩) ((300 + (t.next 2).1) * 64) ((300 + (t.next 2).1) * 64)))) := by rw [HE.out]; exact GE1
      obtain ⟨⟨zb, cb0, cb1⟩, fb0, fb1⟩ := G2.out.bx.other gm (by simp)
      clear GE1 om gm G2 HE
      go_wp2_with fail
      go_meet
      exact ⟨_, _, _, GE⟩
    case rest =>
      obtain ⟨v1, v2, dv2, GE⟩ := hcut
      obtain ⟨x1, y1, hx1⟩ := GE.out.own.d.slice
      obtain ⟨x2, y2, hx2⟩ := GE.out.own.p.slice
      subst hx1 hx2
      obtain ⟨⟨zb, cb0, cb1⟩, fb0, fb1⟩ := GE.out.bx
      obtain ⟨⟨rb, rb0, rb1⟩, fr0, fr1⟩ := GE.out.r
      go_wp2
      exact bodyPost_ret (v := .agg #[.slice x1 _ y1, .slice x2 _ y2]) (by simp [results, Try.results39, go_sem, rb0, rb1]) rfl (TAIL.out _ _ _ _ GE.out)
  by_cases h3 : m = 3
  · subst h3
    have HE : Hid (s.disk = ((dur, ps ++ [(((t.next 2).1 : Int) * 9, zeros (63 + ((t.next 2).2.next 3).1))]), ((t.next 2).2.next 3).2)) := by show _ = _; rw [HDK.out]; rfl
    clear HDK
    have HN : Hid (∀ v1 v2 dv2 w, GS W k B Bd v1 v2 dv2 ((dur, ps ++ [(((t.next 2).1 : Int) * 9, zeros (63 + ((t.next 2).2.next 3).1))]), ((t.next 2).2.next 3).2) w → GS W k B Bd v1 v2 dv2 s.disk w) := fun v1 v2 dv2 w hh => by rw [HE.out]; exact hh
    go_upto_region 10 with fail
    go_cut [] from 31 to 43 (fun wx => ∃ v1 v2 dv2, Hid (GS W k B Bd v1 v2 dv2 s.disk wx))
    case first =>
      have G := G1.out
      have hnum1 : ps.length + 1 ≤ maxLen := by unfold maxLen; omega
      have hnum2 : (ps.length + 1) * 32 ≤ 140737488355328 := by omega
      clear G1 HE
      have hkBd : Bd ≠ k := by have := G.hB; omega
      refine wp_region_held_drew (S := fun _ => True) (by kernel_rfl) trivial (fun hHeld => ?_)
      replace G := G.later (below_drewN' w3 1)
      change GS W k B Bd _ _ _ _ w3.drew at G
      have XB := G.bx
      generalize w3.drew = P0 at *
      refine wpAnyH_take (i := 0) (oi := { dst := some 31, op := _, type := _, pos := _, after := _, guard := _ }) (v := (.pointer (some ⟨Bd, 1, none⟩))) rfl (by kernel_rfl) (by kernel_rfl) (by kernel_rfl) (fun _ _ _ h => h) (Or.inl ⟨by rfl, ?hy6⟩) (by assumption) ?rest6
      case hy6 =>
        intro w9 hS9
        go_simp
      try simp only [Act.put, List.setIfInBounds_toArray, List.set_cons_zero, List.set_cons_succ]
      refine wpAnyH_take (i := 2) (oi := { dst := some 33, op := _, type := _, pos := _, after := _, guard := _ }) (v := (.pointer (some ⟨k, 0, none⟩))) rfl (by kernel_rfl) (by kernel_rfl) (by kernel_rfl) (fun _ _ _ h => h) (Or.inl ⟨by rfl, ?hy7⟩) (by assumption) ?rest7
      case hy7 =>
        intro w9 hS9
        go_simp
      try simp only [Act.put, List.setIfInBounds_toArray, List.set_cons_zero, List.set_cons_succ]
      refine wpAnyH_take (i := 5) (oi := { dst := some 36, op := _, type := _, pos := _, after := _, guard := _ }) (v := (.pointer (some ⟨k, 0, none⟩))) rfl (by kernel_rfl) (by kernel_rfl) (by kernel_rfl) (fun _ _ _ h => h) (Or.inl ⟨by rfl, ?hy8⟩) (by assumption) ?rest8
      case hy8 =>
        intro w9 hS9
        go_simp
      try simp only [Act.put, List.setIfInBounds_toArray, List.set_cons_zero, List.set_cons_succ]
      refine wpAnyH_ready (rs := [1, 3]) (by kernel_rfl) (by simp) ?_
      refine (AllReadyH.cons (o := { dst := some 32, op := _, type := _, pos := _, after := _, guard := _ }) rfl (fun K hK => ?_) (AllReadyH.cons (o := { dst := some 34, op := _, type := _, pos := _, after := _, guard := _ }) rfl (fun K hK => ?_) AllReadyH.nil))
      · obtain ⟨⟨zb, cb0, cb1⟩, -⟩ := id XB
        go_simp
        clear zb cb0 cb1
        refine hK.out _ _ trivial (fun hx9 => ?_)
        clear hK K hx9
        try simp only [Act.put, List.setIfInBounds_toArray, List.set_cons_zero, List.set_cons_succ]
        refine wpAnyH_ready (rs := [3]) (by kernel_rfl) (by simp) ?_
        refine (AllReadyH.cons (o := { dst := some 34, op := _, type := _, pos := _, after := _, guard := _ }) rfl (fun K hK => ?_) AllReadyH.nil)
        go_simp
        refine (next_x P0 k B 2 _ G.src (by omega)).mono ?_
        rintro e P1 ⟨rfl, sf, tf⟩
        replace G := G.next sf tf
        replace XB := XB.tch tf (by omega)
        have hlt_a := Sr.next_lt t 2 (by omega)
        clear sf tf
        refine hK.out _ _ trivial (fun hx9 => ?_)
        clear hK K hx9
        try simp only [Act.put, List.setIfInBounds_toArray, List.set_cons_zero, List.set_cons_succ]
        refine wpAnyH_take (i := 4) (oi := { dst := some 35, op := _, type := _, pos := _, after := _, guard := _ }) (v := (.int .i64 (((t.next 2).1 : Int) * 9))) rfl (by kernel_rfl) (by kernel_rfl) (by kernel_rfl) (fun _ _ _ h => h) (Or.inl ⟨by rfl, ?hy9⟩) (by assumption) ?rest9
        case hy9 =>
          intro w9 hS9
          go_simp
          rw [IntKind.wrap_i64]
          omega
        try simp only [Act.put, List.setIfInBounds_toArray, List.set_cons_zero, List.set_cons_succ]
        refine wpAnyH_ready (rs := [6]) (by kernel_rfl) (by simp) ?_
        refine (AllReadyH.cons (o := { dst := some 37, op := _, type := _, pos := _, after := _, guard := _ }) rfl (fun K hK => ?_) AllReadyH.nil)
        go_simp
        refine (next_x P1 k B 3 _ G.src (by omega)).mono ?_
        rintro e P2 ⟨rfl, sf, tf⟩
        replace G := G.next sf tf
        replace XB := XB.tch tf (by omega)
        have hlt_b := Sr.next_lt (t.next 2).2 3 (by omega)
        clear sf tf
        refine hK.out _ _ trivial (fun hx9 => ?_)
        clear hK K hx9
        try simp only [Act.put, List.setIfInBounds_toArray, List.set_cons_zero, List.set_cons_succ]
        refine wpAnyH_take (i := 7) (oi := { dst := some 38, op := _, type := _, pos := _, after := _, guard := _ }) (v := (.int .i64 (63 + (((t.next 2).2.next 3).1 : Int)))) rfl (by kernel_rfl) (by kernel_rfl) (by kernel_rfl) (fun _ _ _ h => h) (Or.inl ⟨by rfl, ?hy10⟩) (by assumption) ?rest10
        case hy10 =>
          intro w9 hS9
          go_simp
          rw [IntKind.wrap_i64]
          omega
        try simp only [Act.put, List.setIfInBounds_toArray, List.set_cons_zero, List.set_cons_succ]
        refine wpAnyH_ready (rs := [8]) (by kernel_rfl) (by simp) ?_
        refine (AllReadyH.cons (o := { dst := some 39, op := _, type := _, pos := _, after := _, guard := _ }) rfl (fun K hK => ?_) AllReadyH.nil)
        refine step_make rfl _ _ 29 rfl P2.heap.size 5 i1 (.int .u8 0) 1 Try.underlying29 hi1 hy0 hy1 _ _ _ _ (63 + ((t.next 2).2.next 3).1) rfl rfl (by omega) (by omega) (by rw [hy2]; omega) (by unfold maxLen; omega) (Nat.le_refl _) ?_
        intro P3 om gm
        have OM := made_zeros om
        have BM : Below P2.heap.size P2 P3 := (Below.refl _ _).grown gm (Nat.le_refl _) (fun q hq => by cases hq)
        clear om gm
        replace XB := XB.below BM
        refine hK.out _ _ trivial (fun hx9 => ?_)
        clear hK K hx9
        try simp only [Act.put, List.setIfInBounds_toArray, List.set_cons_zero, List.set_cons_succ]
        refine wpAnyH_take (i := 9) (oi := { dst := some 40, op := _, type := _, pos := _, after := _, guard := _ }) (v := (.agg #[.int .i64 (((t.next 2).1 : Int) * 9), .slice (some ⟨P2.heap.size, 0, none⟩) (63 + ((t.next 2).2.next 3).1) (63 + ((t.next 2).2.next 3).1)])) rfl (by kernel_rfl) (by kernel_rfl) (by kernel_rfl) (fun _ _ _ h => h) (Or.inl ⟨by rfl, ?hy11⟩) (by assumption) ?rest11
        case hy11 =>
          intro w9 hS9
          go_simp
        try simp only [Act.put, List.setIfInBounds_toArray, List.set_cons_zero, List.set_cons_succ]
        refine wpAnyH_ready (rs := [10]) (by kernel_rfl) (by simp) ?_
        refine (AllReadyH.cons (o := { dst := some 41, op := _, type := _, pos := _, after := _, guard := _ }) rfl (fun K hK => ?_) AllReadyH.nil)
        go_simp
        refine hK.out _ _ trivial (fun hx9 => ?_)
        clear hK K hx9
        try simp only [Act.put, List.setIfInBounds_toArray, List.set_cons_zero, List.set_cons_succ]
        refine wpAnyH_ready (rs := [11]) (by kernel_rfl) (by simp) ?_
        refine (AllReadyH.cons (o := { dst := some 42, op := _, type := _, pos := _, after := _, guard := _ }) rfl (fun K hK => ?_) AllReadyH.nil)
        refine step_append_lies _ (by rfl) _ _ _ (by rfl) (W.heap.size + 1) 42 i0 _ 2 32 Try.underlying30 hi hz0 hz1 hz2 rfl (by omega) (.slice a2 ps.length c2) ps.length (rowW (ps.length) (pB ps) dv) (by rfl) ((G.own.p.below BM).1.alloc _) ⟨P3.heap.size, 0, none⟩ 1 1 [.int .i64 (((t.next 2).1 : Int) * 9), _] (by rfl) (by rfl) (cell_two_new _ _ _ _) (by intro u hu; simp at hu; rcases hu with rfl | rfl <;> rfl) (by omega) hnum1 hnum2 (by have := BM.size; have := G.r.1.1; simp; omega) (P3.heap.size + 1) (by simp) ?_
        intro g4 cap4 P4 ho4 hg4 hat4 hlt4
        replace XB := (XB.below ((Below.refl _ _).alloc (Nat.le_refl _) _)).other hg4 (fun e => G.o2 e.symm)
        have GP := G.snoc rfl BM OM ho4 hg4 hat4
        refine hK.out _ _ trivial (fun hx9 => ?_)
        clear hK K hx9
        try simp only [Act.put, List.setIfInBounds_toArray, List.set_cons_zero, List.set_cons_succ]
        refine wpAnyH_take (i := 12) (oi := { dst := some 43, op := _, type := _, pos := _, after := _, guard := _ }) (v := (.pointer (some ⟨Bd, 1, none⟩))) rfl (by kernel_rfl) (by kernel_rfl) (by kernel_rfl) (fun _ _ _ h => h) (Or.inl ⟨by rfl, ?hy12⟩) (by assumption) ?rest12
        case hy12 =>
          intro w9 hS9
          go_simp
        try simp only [Act.put, List.setIfInBounds_toArray, List.set_cons_zero, List.set_cons_succ]
        refine wpAnyH_ready (rs := [13]) (by kernel_rfl) (by simp) ?_
        refine (AllReadyH.cons (o := { dst := none, op := _, type := _, pos := _, after := _, guard := _ }) rfl (fun K hK => ?_) AllReadyH.nil)
        obtain ⟨⟨zb, cb0, cb1⟩, fb0, fb1⟩ := XB
        go_simp
        clear zb cb0 cb1 fb0 fb1
        refine hK.out _ _ trivial (fun hx9 => ?_)
        clear hK K hx9
        try simp only [Act.put, List.setIfInBounds_toArray, List.set_cons_zero, List.set_cons_succ]
        refine wpAnyH_done (by kernel_rfl) ?_ _
        clear hHeld
        have GE : Hid (GS W k B Bd _ _ _ s.disk _) := HN.out _ _ _ _ GP
        clear GP ho4 hg4 hat4 hlt4 OM BM G
        go_wp2_with fail
        go_meet
        exact ⟨_, _, _, GE⟩
      · go_simp
        refine (next_x P0 k B 2 _ G.src (by omega)).mono ?_
        rintro e P5 ⟨rfl, sf, tf⟩
        replace G := G.next sf tf
        replace XB := XB.tch tf (by omega)
        have hlt_a := Sr.next_lt t 2 (by omega)
        clear sf tf
        refine hK.out _ _ trivial (fun hx9 => ?_)
        clear hK K hx9
        try simp only [Act.put, List.setIfInBounds_toArray, List.set_cons_zero, List.set_cons_succ]
        refine wpAnyH_take (i := 4) (oi := { dst := some 35, op := _, type := _, pos := _, after := _, guard := _ }) (v := (.int .i64 (((t.next 2).1 : Int) * 9))) rfl (by kernel_rfl) (by kernel_rfl) (by kernel_rfl) (fun _ _ _ h => h) (Or.inl ⟨by rfl, ?hy13⟩) (by assumption) ?rest13
        case hy13 =>
          intro w9 hS9
          go_simp
          rw [IntKind.wrap_i64]
          omega
        try simp only [Act.put, List.setIfInBounds_toArray, List.set_cons_zero, List.set_cons_succ]
        refine wpAnyH_ready (rs := [1, 6]) (by kernel_rfl) (by simp) ?_
        refine (AllReadyH.cons (o := { dst := some 32, op := _, type := _, pos := _, after := _, guard := _ }) rfl (fun K hK => ?_) (AllReadyH.cons (o := { dst := some 37, op := _, type := _, pos := _, after := _, guard := _ }) rfl (fun K hK => ?_) AllReadyH.nil))
        · obtain ⟨⟨zb, cb0, cb1⟩, -⟩ := id XB
          go_simp
          clear zb cb0 cb1
          refine hK.out _ _ trivial (fun hx9 => ?_)
          clear hK K hx9
          try simp only [Act.put, List.setIfInBounds_toArray, List.set_cons_zero, List.set_cons_succ]
          refine wpAnyH_ready (rs := [6]) (by kernel_rfl) (by simp) ?_
          refine (AllReadyH.cons (o := { dst := some 37, op := _, type := _, pos := _, after := _, guard := _ }) rfl (fun K hK => ?_) AllReadyH.nil)
          go_simp
          refine (next_x P5 k B 3 _ G.src (by omega)).mono ?_
          rintro e P6 ⟨rfl, sf, tf⟩
          replace G := G.next sf tf
          replace XB := XB.tch tf (by omega)
          have hlt_b := Sr.next_lt (t.next 2).2 3 (by omega)
          clear sf tf
          refine hK.out _ _ trivial (fun hx9 => ?_)
          clear hK K hx9
          try simp only [Act.put, List.setIfInBounds_toArray, List.set_cons_zero, List.set_cons_succ]
          refine wpAnyH_take (i := 7) (oi := { dst := some 38, op := _, type := _, pos := _, after := _, guard := _ }) (v := (.int .i64 (63 + (((t.next 2).2.next 3).1 : Int)))) rfl (by kernel_rfl) (by kernel_rfl) (by kernel_rfl) (fun _ _ _ h => h) (Or.inl ⟨by rfl, ?hy14⟩) (by assumption) ?rest14
          case hy14 =>
            intro w9 hS9
            go_simp
            rw [IntKind.wrap_i64]
            omega
          try simp only [Act.put, List.setIfInBounds_toArray, List.set_cons_zero, List.set_cons_succ]
          refine wpAnyH_ready (rs := [8]) (by kernel_rfl) (by simp) ?_
          refine (AllReadyH.cons (o := { dst := some 39, op := _, type := _, pos := _, after := _, guard := _ }) rfl (fun K hK => ?_) AllReadyH.nil)
          refine step_make rfl _ _ 29 rfl P6.heap.size 5 i1 (.int .u8 0) 1 Try.underlying29 hi1 hy0 hy1 _ _ _ _ (63 + ((t.next 2).2.next 3).1) rfl rfl (by omega) (by omega) (by rw [hy2]; omega) (by unfold maxLen; omega) (Nat.le_refl _) ?_
          intro P7 om gm
          have OM := made_zeros om
          have BM : Below P6.heap.size P6 P7 := (Below.refl _ _).grown gm (Nat.le_refl _) (fun q hq => by cases hq)
          clear om gm
          replace XB := XB.below BM
          refine hK.out _ _ trivial (fun hx9 => ?_)
          clear hK K hx9
          try simp only [Act.put, List.setIfInBounds_toArray, List.set_cons_zero, List.set_cons_succ]
          refine wpAnyH_take (i := 9) (oi := { dst := some 40, op := _, type := _, pos := _, after := _, guard := _ }) (v := (.agg #[.int .i64 (((t.next 2).1 : Int) * 9), .slice (some ⟨P6.heap.size, 0, none⟩) (63 + ((t.next 2).2.next 3).1) (63 + ((t.next 2).2.next 3).1)])) rfl (by kernel_rfl) (by kernel_rfl) (by kernel_rfl) (fun _ _ _ h => h) (Or.inl ⟨by rfl, ?hy15⟩) (by assumption) ?rest15
          case hy15 =>
            intro w9 hS9
            go_simp
          try simp only [Act.put, List.setIfInBounds_toArray, List.set_cons_zero, List.set_cons_succ]
          refine wpAnyH_ready (rs := [10]) (by kernel_rfl) (by simp) ?_
          refine (AllReadyH.cons (o := { dst := some 41, op := _, type := _, pos := _, after := _, guard := _ }) rfl (fun K hK => ?_) AllReadyH.nil)
          go_simp
          refine hK.out _ _ trivial (fun hx9 => ?_)
          clear hK K hx9
          try simp only [Act.put, List.setIfInBounds_toArray, List.set_cons_zero, List.set_cons_succ]
          refine wpAnyH_ready (rs := [11]) (by kernel_rfl) (by simp) ?_
          refine (AllReadyH.cons (o := { dst := some 42, op := _, type := _, pos := _, after := _, guard := _ }) rfl (fun K hK => ?_) AllReadyH.nil)
          refine step_append_lies _ (by rfl) _ _ _ (by rfl) (W.heap.size + 1) 42 i0 _ 2 32 Try.underlying30 hi hz0 hz1 hz2 rfl (by omega) (.slice a2 ps.length c2) ps.length (rowW (ps.length) (pB ps) dv) (by rfl) ((G.own.p.below BM).1.alloc _) ⟨P7.heap.size, 0, none⟩ 1 1 [.int .i64 (((t.next 2).1 : Int) * 9), _] (by rfl) (by rfl) (cell_two_new _ _ _ _) (by intro u hu; simp at hu; rcases hu with rfl | rfl <;> rfl) (by omega) hnum1 hnum2 (by have := BM.size; have := G.r.1.1; simp; omega) (P7.heap.size + 1) (by simp) ?_
          intro g4 cap4 P8 ho4 hg4 hat4 hlt4
          replace XB := (XB.below ((Below.refl _ _).alloc (Nat.le_refl _) _)).other hg4 (fun e => G.o2 e.symm)
          have GP := G.snoc rfl BM OM ho4 hg4 hat4
          refine hK.out _ _ trivial (fun hx9 => ?_)
          clear hK K hx9
          try simp only [Act.put, List.setIfInBounds_toArray, List.set_cons_zero, List.set_cons_succ]
          refine wpAnyH_take (i := 12) (oi := { dst := some 43, op := _, type := _, pos := _, after := _, guard := _ }) (v := (.pointer (some ⟨Bd, 1, none⟩))) rfl (by kernel_rfl) (by kernel_rfl) (by kernel_rfl) (fun _ _ _ h => h) (Or.inl ⟨by rfl, ?hy16⟩) (by assumption) ?rest16
          case hy16 =>
            intro w9 hS9
            go_simp
          try simp only [Act.put, List.setIfInBounds_toArray, List.set_cons_zero, List.set_cons_succ]
          refine wpAnyH_ready (rs := [13]) (by kernel_rfl) (by simp) ?_
          refine (AllReadyH.cons (o := { dst := none, op := _, type := _, pos := _, after := _, guard := _ }) rfl (fun K hK => ?_) AllReadyH.nil)
          obtain ⟨⟨zb, cb0, cb1⟩, fb0, fb1⟩ := XB
          go_simp
          clear zb cb0 cb1 fb0 fb1
          refine hK.out _ _ trivial (fun hx9 => ?_)
          clear hK K hx9
          try simp only [Act.put, List.setIfInBounds_toArray, List.set_cons_zero, List.set_cons_succ]
          refine wpAnyH_done (by kernel_rfl) ?_ _
          clear hHeld
          have GE : Hid (GS W k B Bd _ _ _ s.disk _) := HN.out _ _ _ _ GP
          clear GP ho4 hg4 hat4 hlt4 OM BM G
          go_wp2_with fail
          go_meet
          exact ⟨_, _, _, GE⟩
        · go_simp
          refine (next_x P5 k B 3 _ G.src (by omega)).mono ?_
          rintro e P9 ⟨rfl, sf, tf⟩
          replace G := G.next sf tf
          replace XB := XB.tch tf (by omega)
          have hlt_b := Sr.next_lt (t.next 2).2 3 (by omega)
          clear sf tf
          refine hK.out _ _ trivial (fun hx9 => ?_)
          clear hK K hx9
          try simp only [Act.put, List.setIfInBounds_toArray, List.set_cons_zero, List.set_cons_succ]
          refine wpAnyH_take (i := 7) (oi := { dst := some 38, op := _, type := _, pos := _, after := _, guard := _ }) (v := (.int .i64 (63 + (((t.next 2).2.next 3).1 : Int)))) rfl (by kernel_rfl) (by kernel_rfl) (by kernel_rfl) (fun _ _ _ h => h) (Or.inl ⟨by rfl, ?hy17⟩) (by assumption) ?rest17
          case hy17 =>
            intro w9 hS9
            go_simp
            rw [IntKind.wrap_i64]
            omega
          try simp only [Act.put, List.setIfInBounds_toArray, List.set_cons_zero, List.set_cons_succ]
          refine wpAnyH_ready (rs := [1, 8]) (by kernel_rfl) (by simp) ?_
          refine (AllReadyH.cons (o := { dst := some 32, op := _, type := _, pos := _, after := _, guard := _ }) rfl (fun K hK => ?_) (AllReadyH.cons (o := { dst := some 39, op := _, type := _, pos := _, after := _, guard := _ }) rfl (fun K hK => ?_) AllReadyH.nil))
          · obtain ⟨⟨zb, cb0, cb1⟩, -⟩ := id XB
            go_simp
            clear zb cb0 cb1
            refine hK.out _ _ trivial (fun hx9 => ?_)
            clear hK K hx9
            try simp only [Act.put, List.setIfInBounds_toArray, List.set_cons_zero, List.set_cons_succ]
            refine wpAnyH_ready (rs := [8]) (by kernel_rfl) (by simp) ?_
            refine (AllReadyH.cons (o := { dst := some 39, op := _, type := _, pos := _, after := _, guard := _ }) rfl (fun K hK => ?_) AllReadyH.nil)
            refine step_make rfl _ _ 29 rfl P9.heap.size 5 i1 (.int .u8 0) 1 Try.underlying29 hi1 hy0 hy1 _ _ _ _ (63 + ((t.next 2).2.next 3).1) rfl rfl (by omega) (by omega) (by rw [hy2]; omega) (by unfold maxLen; omega) (Nat.le_refl _) ?_
            intro P10 om gm
            have OM := made_zeros om
            have BM : Below P9.heap.size P9 P10 := (Below.refl _ _).grown gm (Nat.le_refl _) (fun q hq => by cases hq)
            clear om gm
            replace XB := XB.below BM
            refine hK.out _ _ trivial (fun hx9 => ?_)
            clear hK K hx9
            try simp only [Act.put, List.setIfInBounds_toArray, List.set_cons_zero, List.set_cons_succ]
            refine wpAnyH_take (i := 9) (oi := { dst := some 40, op := _, type := _, pos := _, after := _, guard := _ }) (v := (.agg #[.int .i64 (((t.next 2).1 : Int) * 9), .slice (some ⟨P9.heap.size, 0, none⟩) (63 + ((t.next 2).2.next 3).1) (63 + ((t.next 2).2.next 3).1)])) rfl (by kernel_rfl) (by kernel_rfl) (by kernel_rfl) (fun _ _ _ h => h) (Or.inl ⟨by rfl, ?hy18⟩) (by assumption) ?rest18
            case hy18 =>
              intro w9 hS9
              go_simp
            try simp only [Act.put, List.setIfInBounds_toArray, List.set_cons_zero, List.set_cons_succ]
            refine wpAnyH_ready (rs := [10]) (by kernel_rfl) (by simp) ?_
            refine (AllReadyH.cons (o := { dst := some 41, op := _, type := _, pos := _, after := _, guard := _ }) rfl (fun K hK => ?_) AllReadyH.nil)
            go_simp
            refine hK.out _ _ trivial (fun hx9 => ?_)
            clear hK K hx9
            try simp only [Act.put, List.setIfInBounds_toArray, List.set_cons_zero, List.set_cons_succ]
            refine wpAnyH_ready (rs := [11]) (by kernel_rfl) (by simp) ?_
            refine (AllReadyH.cons (o := { dst := some 42, op := _, type := _, pos := _, after := _, guard := _ }) rfl (fun K hK => ?_) AllReadyH.nil)
            refine step_append_lies _ (by rfl) _ _ _ (by rfl) (W.heap.size + 1) 42 i0 _ 2 32 Try.underlying30 hi hz0 hz1 hz2 rfl (by omega) (.slice a2 ps.length c2) ps.length (rowW (ps.length) (pB ps) dv) (by rfl) ((G.own.p.below BM).1.alloc _) ⟨P10.heap.size, 0, none⟩ 1 1 [.int .i64 (((t.next 2).1 : Int) * 9), _] (by rfl) (by rfl) (cell_two_new _ _ _ _) (by intro u hu; simp at hu; rcases hu with rfl | rfl <;> rfl) (by omega) hnum1 hnum2 (by have := BM.size; have := G.r.1.1; simp; omega) (P10.heap.size + 1) (by simp) ?_
            intro g4 cap4 P11 ho4 hg4 hat4 hlt4
            replace XB := (XB.below ((Below.refl _ _).alloc (Nat.le_refl _) _)).other hg4 (fun e => G.o2 e.symm)
            have GP := G.snoc rfl BM OM ho4 hg4 hat4
            refine hK.out _ _ trivial (fun hx9 => ?_)
            clear hK K hx9
            try simp only [Act.put, List.setIfInBounds_toArray, List.set_cons_zero, List.set_cons_succ]
            refine wpAnyH_take (i := 12) (oi := { dst := some 43, op := _, type := _, pos := _, after := _, guard := _ }) (v := (.pointer (some ⟨Bd, 1, none⟩))) rfl (by kernel_rfl) (by kernel_rfl) (by kernel_rfl) (fun _ _ _ h => h) (Or.inl ⟨by rfl, ?hy19⟩) (by assumption) ?rest19
            case hy19 =>
              intro w9 hS9
              go_simp
            try simp only [Act.put, List.setIfInBounds_toArray, List.set_cons_zero, List.set_cons_succ]
            refine wpAnyH_ready (rs := [13]) (by kernel_rfl) (by simp) ?_
            refine (AllReadyH.cons (o := { dst := none, op := _, type := _, pos := _, after := _, guard := _ }) rfl (fun K hK => ?_) AllReadyH.nil)
            obtain ⟨⟨zb, cb0, cb1⟩, fb0, fb1⟩ := XB
            go_simp
            clear zb cb0 cb1 fb0 fb1
            refine hK.out _ _ trivial (fun hx9 => ?_)
            clear hK K hx9
            try simp only [Act.put, List.setIfInBounds_toArray, List.set_cons_zero, List.set_cons_succ]
            refine wpAnyH_done (by kernel_rfl) ?_ _
            clear hHeld
            have GE : Hid (GS W k B Bd _ _ _ s.disk _) := HN.out _ _ _ _ GP
            clear GP ho4 hg4 hat4 hlt4 OM BM G
            go_wp2_with fail
            go_meet
            exact ⟨_, _, _, GE⟩
          · refine step_make rfl _ _ 29 rfl P9.heap.size 5 i1 (.int .u8 0) 1 Try.underlying29 hi1 hy0 hy1 _ _ _ _ (63 + ((t.next 2).2.next 3).1) rfl rfl (by omega) (by omega) (by rw [hy2]; omega) (by unfold maxLen; omega) (Nat.le_refl _) ?_
            intro P12 om gm
            have OM := made_zeros om
            have BM : Below P9.heap.size P9 P12 := (Below.refl _ _).grown gm (Nat.le_refl _) (fun q hq => by cases hq)
            clear om gm
            replace XB := XB.below BM
            refine hK.out _ _ trivial (fun hx9 => ?_)
            clear hK K hx9
            try simp only [Act.put, List.setIfInBounds_toArray, List.set_cons_zero, List.set_cons_succ]
            refine wpAnyH_take (i := 9) (oi := { dst := some 40, op := _, type := _, pos := _, after := _, guard := _ }) (v := (.agg #[.int .i64 (((t.next 2).1 : Int) * 9), .slice (some ⟨P9.heap.size, 0, none⟩) (63 + ((t.next 2).2.next 3).1) (63 + ((t.next 2).2.next 3).1)])) rfl (by kernel_rfl) (by kernel_rfl) (by kernel_rfl) (fun _ _ _ h => h) (Or.inl ⟨by rfl, ?hy20⟩) (by assumption) ?rest20
            case hy20 =>
              intro w9 hS9
              go_simp
            try simp only [Act.put, List.setIfInBounds_toArray, List.set_cons_zero, List.set_cons_succ]
            refine wpAnyH_ready (rs := [1, 10]) (by kernel_rfl) (by simp) ?_
            refine (AllReadyH.cons (o := { dst := some 32, op := _, type := _, pos := _, after := _, guard := _ }) rfl (fun K hK => ?_) (AllReadyH.cons (o := { dst := some 41, op := _, type := _, pos := _, after := _, guard := _ }) rfl (fun K hK => ?_) AllReadyH.nil))
            · obtain ⟨⟨zb, cb0, cb1⟩, -⟩ := id XB
              go_simp
              clear zb cb0 cb1
              refine hK.out _ _ trivial (fun hx9 => ?_)
              clear hK K hx9
              try simp only [Act.put, List.setIfInBounds_toArray, List.set_cons_zero, List.set_cons_succ]
              refine wpAnyH_ready (rs := [10]) (by kernel_rfl) (by simp) ?_
              refine (AllReadyH.cons (o := { dst := some 41, op := _, type := _, pos := _, after := _, guard := _ }) rfl (fun K hK => ?_) AllReadyH.nil)
              go_simp
              refine hK.out _ _ trivial (fun hx9 => ?_)
              clear hK K hx9
              try simp only [Act.put, List.setIfInBounds_toArray, List.set_cons_zero, List.set_cons_succ]
              refine wpAnyH_ready (rs := [11]) (by kernel_rfl) (by simp) ?_
              refine (AllReadyH.cons (o := { dst := some 42, op := _, type := _, pos := _, after := _, guard := _ }) rfl (fun K hK => ?_) AllReadyH.nil)
              refine step_append_lies _ (by rfl) _ _ _ (by rfl) (W.heap.size + 1) 42 i0 _ 2 32 Try.underlying30 hi hz0 hz1 hz2 rfl (by omega) (.slice a2 ps.length c2) ps.length (rowW (ps.length) (pB ps) dv) (by rfl) ((G.own.p.below BM).1.alloc _) ⟨P12.heap.size, 0, none⟩ 1 1 [.int .i64 (((t.next 2).1 : Int) * 9), _] (by rfl) (by rfl) (cell_two_new _ _ _ _) (by intro u hu; simp at hu; rcases hu with rfl | rfl <;> rfl) (by omega) hnum1 hnum2 (by have := BM.size; have := G.r.1.1; simp; omega) (P12.heap.size + 1) (by simp) ?_
              intro g4 cap4 P13 ho4 hg4 hat4 hlt4
              replace XB := (XB.below ((Below.refl _ _).alloc (Nat.le_refl _) _)).other hg4 (fun e => G.o2 e.symm)
              have GP := G.snoc rfl BM OM ho4 hg4 hat4
              refine hK.out _ _ trivial (fun hx9 => ?_)
              clear hK K hx9
              try simp only [Act.put, List.setIfInBounds_toArray, List.set_cons_zero, List.set_cons_succ]
              refine wpAnyH_take (i := 12) (oi := { dst := some 43, op := _, type := _, pos := _, after := _, guard := _ }) (v := (.pointer (some ⟨Bd, 1, none⟩))) rfl (by kernel_rfl) (by kernel_rfl) (by kernel_rfl) (fun _ _ _ h => h) (Or.inl ⟨by rfl, ?hy21⟩) (by assumption) ?rest21
              case hy21 =>
                intro w9 hS9
                go_simp
              try simp only [Act.put, List.setIfInBounds_toArray, List.set_cons_zero, List.set_cons_succ]
              refine wpAnyH_ready (rs := [13]) (by kernel_rfl) (by simp) ?_
              refine (AllReadyH.cons (o := { dst := none, op := _, type := _, pos := _, after := _, guard := _ }) rfl (fun K hK => ?_) AllReadyH.nil)
              obtain ⟨⟨zb, cb0, cb1⟩, fb0, fb1⟩ := XB
              go_simp
              clear zb cb0 cb1 fb0 fb1
              refine hK.out _ _ trivial (fun hx9 => ?_)
              clear hK K hx9
              try simp only [Act.put, List.setIfInBounds_toArray, List.set_cons_zero, List.set_cons_succ]
              refine wpAnyH_done (by kernel_rfl) ?_ _
              clear hHeld
              have GE : Hid (GS W k B Bd _ _ _ s.disk _) := HN.out _ _ _ _ GP
              clear GP ho4 hg4 hat4 hlt4 OM BM G
              go_wp2_with fail
              go_meet
              exact ⟨_, _, _, GE⟩
            · go_simp
              refine hK.out _ _ trivial (fun hx9 => ?_)
              clear hK K hx9
              try simp only [Act.put, List.setIfInBounds_toArray, List.set_cons_zero, List.set_cons_succ]
              refine wpAnyH_ready (rs := [1]) (by kernel_rfl) (by simp) ?_
              refine (AllReadyH.cons (o := { dst := some 32, op := _, type := _, pos := _, after := _, guard := _ }) rfl (fun K hK => ?_) AllReadyH.nil)
              obtain ⟨⟨zb, cb0, cb1⟩, -⟩ := id XB
              go_simp
              clear zb cb0 cb1
              refine hK.out _ _ trivial (fun hx9 => ?_)
              clear hK K hx9
              try simp only [Act.put, List.setIfInBounds_toArray, List.set_cons_zero, List.set_cons_succ]
              refine wpAnyH_ready (rs := [11]) (by kernel_rfl) (by simp) ?_
              refine (AllReadyH.cons (o := { dst := some 42, op := _, type := _, pos := _, after := _, guard := _ }) rfl (fun K hK => ?_) AllReadyH.nil)
              refine step_append_lies _ (by rfl) _ _ _ (by rfl) (W.heap.size + 1) 42 i0 _ 2 32 Try.underlying30 hi hz0 hz1 hz2 rfl (by omega) (.slice a2 ps.length c2) ps.length (rowW (ps.length) (pB ps) dv) (by rfl) ((G.own.p.below BM).1.alloc _) ⟨P12.heap.size, 0, none⟩ 1 1 [.int .i64 (((t.next 2).1 : Int) * 9), _] (by rfl) (by rfl) (cell_two_new _ _ _ _) (by intro u hu; simp at hu; rcases hu with rfl | rfl <;> rfl) (by omega) hnum1 hnum2 (by have := BM.size; have := G.r.1.1; simp; omega) (P12.heap.size + 1) (by simp) ?_
              intro g4 cap4 P14 ho4 hg4 hat4 hlt4
              replace XB := (XB.below ((Below.refl _ _).alloc (Nat.le_refl _) _)).other hg4 (fun e => G.o2 e.symm)
              have GP := G.snoc rfl BM OM ho4 hg4 hat4
              refine hK.out _ _ trivial (fun hx9 => ?_)
              clear hK K hx9
              try simp only [Act.put, List.setIfInBounds_toArray, List.set_cons_zero, List.set_cons_succ]
              refine wpAnyH_take (i := 12) (oi := { dst := some 43, op := _, type := _, pos := _, after := _, guard := _ }) (v := (.pointer (some ⟨Bd, 1, none⟩))) rfl (by kernel_rfl) (by kernel_rfl) (by kernel_rfl) (fun _ _ _ h => h) (Or.inl ⟨by rfl, ?hy22⟩) (by assumption) ?rest22
              case hy22 =>
                intro w9 hS9
                go_simp
              try simp only [Act.put, List.setIfInBounds_toArray, List.set_cons_zero, List.set_cons_succ]
              refine wpAnyH_ready (rs := [13]) (by kernel_rfl) (by simp) ?_
              refine (AllReadyH.cons (o := { dst := none, op := _, type := _, pos := _, after := _, guard := _ }) rfl (fun K hK => ?_) AllReadyH.nil)
              obtain ⟨⟨zb, cb0, cb1⟩, fb0, fb1⟩ := XB
              go_simp
              clear zb cb0 cb1 fb0 fb1
              refine hK.out _ _ trivial (fun hx9 => ?_)
              clear hK K hx9
              try simp only [Act.put, List.setIfInBounds_toArray, List.set_cons_zero, List.set_cons_succ]
              refine wpAnyH_done (by kernel_rfl) ?_ _
              clear hHeld
              have GE : Hid (GS W k B Bd _ _ _ s.disk _) := HN.out _ _ _ _ GP
              clear GP ho4 hg4 hat4 hlt4 OM BM G
              go_wp2_with fail
              go_meet
              exact ⟨_, _, _, GE⟩
    case rest =>
      obtain ⟨v1, v2, dv2, GE⟩ := hcut
      obtain ⟨x1, y1, hx1⟩ := GE.out.own.d.slice
      obtain ⟨x2, y2, hx2⟩ := GE.out.own.p.slice
      subst hx1 hx2
      obtain ⟨⟨zb, cb0, cb1⟩, fb0, fb1⟩ := GE.out.bx
      obtain ⟨⟨rb, rb0, rb1⟩, fr0, fr1⟩ := GE.out.r
      go_wp2
      exact bodyPost_ret (v := .agg #[.slice x1 _ y1, .slice x2 _ y2]) (by simp [results, Try.results39, go_sem, rb0, rb1]) rfl (TAIL.out _ _ _ _ GE.out)
  by_cases h4 : m = 4
  · subst h4
    have HE : Hid (s.disk = ((dur, ps ++ [(-1, zeros 64)]), t)) := by show _ = _; rw [HDK.out]; rfl
    clear HDK
    have HN : Hid (∀ v1 v2 dv2 w, GS W k B Bd v1 v2 dv2 ((dur, ps ++ [(-1, zeros 64)]), t) w → GS W k B Bd v1 v2 dv2 s.disk w) := fun v1 v2 dv2 w hh => by rw [HE.out]; exact hh
    go_upto_region 12 with fail
    go_cut [] from 46 to 52 (fun wx => ∃ v1 v2 dv2, Hid (GS W k B Bd v1 v2 dv2 s.disk wx))
    case first =>
      have G := G1.out
      have hnum1 : ps.length + 1 ≤ maxLen := by unfold maxLen; omega
      have hnum2 : (ps.length + 1) * 32 ≤ 140737488355328 := by omega
      clear G1 HE
      refine wp_region_held_drew (S := fun _ => True) (by kernel_rfl) trivial (fun hHeld => ?_)
      replace G := G.later (below_drewN' w3 1)
      change GS W k B Bd _ _ _ _ w3.drew at G
      have XB := G.bx
      generalize w3.drew = P0 at *
      refine wpAnyH_take (i := 0) (oi := { dst := some 46, op := _, type := _, pos := _, after := _, guard := _ }) (v := (.pointer (some ⟨Bd, 1, none⟩))) rfl (by kernel_rfl) (by kernel_rfl) (by kernel_rfl) (fun _ _ _ h => h) (Or.inl ⟨by rfl, ?hy23⟩) (by assumption) ?rest23
      case hy23 =>
        intro w9 hS9
        go_simp
      try simp only [Act.put, List.setIfInBounds_toArray, List.set_cons_zero, List.set_cons_succ]
      refine wpAnyH_ready (rs := [1, 2]) (by kernel_rfl) (by simp) ?_
      refine (AllReadyH.cons (o := { dst := some 47, op := _, type := _, pos := _, after := _, guard := _ }) rfl (fun K hK => ?_) (AllReadyH.cons (o := { dst := some 48, op := _, type := _, pos := _, after := _, guard := _ }) rfl (fun K hK => ?_) AllReadyH.nil))
      · obtain ⟨⟨zb, cb0, cb1⟩, -⟩ := id XB
        go_simp
        clear zb cb0 cb1
        refine hK.out _ _ trivial (fun hx9 => ?_)
        clear hK K hx9
        try simp only [Act.put, List.setIfInBounds_toArray, List.set_cons_zero, List.set_cons_succ]
        refine wpAnyH_ready (rs := [2]) (by kernel_rfl) (by simp) ?_
        refine (AllReadyH.cons (o := { dst := some 48, op := _, type := _, pos := _, after := _, guard := _ }) rfl (fun K hK => ?_) AllReadyH.nil)
        refine step_make rfl _ _ 29 rfl P0.heap.size 5 i1 (.int .u8 0) 1 Try.underlying29 hi1 hy0 hy1 _ _ _ _ (64) rfl rfl (by omega) (by omega) (by rw [hy2]; omega) (by unfold maxLen; omega) (Nat.le_refl _) ?_
        intro P1 om gm
        have OM := made_zeros om
        have BM : Below P0.heap.size P0 P1 := (Below.refl _ _).grown gm (Nat.le_refl _) (fun q hq => by cases hq)
        clear om gm
        replace XB := XB.below BM
        refine hK.out _ _ trivial (fun hx9 => ?_)
        clear hK K hx9
        try simp only [Act.put, List.setIfInBounds_toArray, List.set_cons_zero, List.set_cons_succ]
        refine wpAnyH_take (i := 3) (oi := { dst := some 49, op := _, type := _, pos := _, after := _, guard := _ }) (v := (.agg #[.int .i64 (-1), .slice (some ⟨P0.heap.size, 0, none⟩) (64) (64)])) rfl (by kernel_rfl) (by kernel_rfl) (by kernel_rfl) (fun _ _ _ h => h) (Or.inl ⟨by rfl, ?hy24⟩) (by assumption) ?rest24
        case hy24 =>
          intro w9 hS9
          go_simp
        try simp only [Act.put, List.setIfInBounds_toArray, List.set_cons_zero, List.set_cons_succ]
        refine wpAnyH_ready (rs := [4]) (by kernel_rfl) (by simp) ?_
        refine (AllReadyH.cons (o := { dst := some 50, op := _, type := _, pos := _, after := _, guard := _ }) rfl (fun K hK => ?_) AllReadyH.nil)
        go_simp
        refine hK.out _ _ trivial (fun hx9 => ?_)
        clear hK K hx9
        try simp only [Act.put, List.setIfInBounds_toArray, List.set_cons_zero, List.set_cons_succ]
        refine wpAnyH_ready (rs := [5]) (by kernel_rfl) (by simp) ?_
        refine (AllReadyH.cons (o := { dst := some 51, op := _, type := _, pos := _, after := _, guard := _ }) rfl (fun K hK => ?_) AllReadyH.nil)
        refine step_append_lies _ (by rfl) _ _ _ (by rfl) (W.heap.size + 1) 42 i0 _ 2 32 Try.underlying30 hi hz0 hz1 hz2 rfl (by omega) (.slice a2 ps.length c2) ps.length (rowW (ps.length) (pB ps) dv) (by rfl) ((G.own.p.below BM).1.alloc _) ⟨P1.heap.size, 0, none⟩ 1 1 [.int .i64 (-1), _] (by rfl) (by rfl) (cell_two_new _ _ _ _) (by intro u hu; simp at hu; rcases hu with rfl | rfl <;> rfl) (by omega) hnum1 hnum2 (by have := BM.size; have := G.r.1.1; simp; omega) (P1.heap.size + 1) (by simp) ?_
        intro g4 cap4 P2 ho4 hg4 hat4 hlt4
        replace XB := (XB.below ((Below.refl _ _).alloc (Nat.le_refl _) _)).other hg4 (fun e => G.o2 e.symm)
        have GP := G.snoc rfl BM OM ho4 hg4 hat4
        refine hK.out _ _ trivial (fun hx9 => ?_)
        clear hK K hx9
        try simp only [Act.put, List.setIfInBounds_toArray, List.set_cons_zero, List.set_cons_succ]
        refine wpAnyH_take (i := 6) (oi := { dst := some 52, op := _, type := _, pos := _, after := _, guard := _ }) (v := (.pointer (some ⟨Bd, 1, none⟩))) rfl (by kernel_rfl) (by kernel_rfl) (by kernel_rfl) (fun _ _ _ h => h) (Or.inl ⟨by rfl, ?hy25⟩) (by assumption) ?rest25
        case hy25 =>
          intro w9 hS9
          go_simp
        try simp only [Act.put, List.setIfInBounds_toArray, List.set_cons_zero, List.set_cons_succ]
        refine wpAnyH_ready (rs := [7]) (by kernel_rfl) (by simp) ?_
        refine (AllReadyH.cons (o := { dst := none, op := _, type := _, pos := _, after := _, guard := _ }) rfl (fun K hK => ?_) AllReadyH.nil)
        obtain ⟨⟨zb, cb0, cb1⟩, fb0, fb1⟩ := XB
        go_simp
        clear zb cb0 cb1 fb0 fb1
        refine hK.out _ _ trivial (fun hx9 => ?_)
        clear hK K hx9
        try simp only [Act.put, List.setIfInBounds_toArray, List.set_cons_zero, List.set_cons_succ]
        refine wpAnyH_done (by kernel_rfl) ?_ _
        clear hHeld
        have GE : Hid (GS W k B Bd _ _ _ s.disk _) := HN.out _ _ _ _ GP
        clear GP ho4 hg4 hat4 hlt4 OM BM G
        go_wp2_with fail
        go_meet
        exact ⟨_, _, _, GE⟩
      · refine step_make rfl _ _ 29 rfl P0.heap.size 5 i1 (.int .u8 0) 1 Try.underlying29 hi1 hy0 hy1 _ _ _ _ (64) rfl rfl (by omega) (by omega) (by rw [hy2]; omega) (by unfold maxLen; omega) (Nat.le_refl _) ?_
        intro P3 om gm
        have OM := made_zeros om
        have BM : Below P0.heap.size P0 P3 := (Below.refl _ _).grown gm (Nat.le_refl _) (fun q hq => by cases hq)
        clear om gm
        replace XB := XB.below BM
        refine hK.out _ _ trivial (fun hx9 => ?_)
        clear hK K hx9
        try simp only [Act.put, List.setIfInBounds_toArray, List.set_cons_zero, List.set_cons_succ]
        refine wpAnyH_take (i := 3) (oi := { dst := some 49, op := _, type := _, pos := _, after := _, guard := _ }) (v := (.agg #[.int .i64 (-1), .slice (some ⟨P0.heap.size, 0, none⟩) (64) (64)])) rfl (by kernel_rfl) (by kernel_rfl) (by kernel_rfl) (fun _ _ _ h => h) (Or.inl ⟨by rfl, ?hy26⟩) (by assumption) ?rest26
        case hy26 =>
          intro w9 hS9
          go_simp
        try simp only [Act.put, List.setIfInBounds_toArray, List.set_cons_zero, List.set_cons_succ]
        refine wpAnyH_ready (rs := [1, 4]) (by kernel_rfl) (by simp) ?_
        refine (AllReadyH.cons (o := { dst := some 47, op := _, type := _, pos := _, after := _, guard := _ }) rfl (fun K hK => ?_) (AllReadyH.cons (o := { dst := some 50, op := _, type := _, pos := _, after := _, guard := _ }) rfl (fun K hK => ?_) AllReadyH.nil))
        · obtain ⟨⟨zb, cb0, cb1⟩, -⟩ := id XB
          go_simp
          clear zb cb0 cb1
          refine hK.out _ _ trivial (fun hx9 => ?_)
          clear hK K hx9
          try simp only [Act.put, List.setIfInBounds_toArray, List.set_cons_zero, List.set_cons_succ]
          refine wpAnyH_ready (rs := [4]) (by kernel_rfl) (by simp) ?_
          refine (AllReadyH.cons (o := { dst := some 50, op := _, type := _, pos := _, after := _, guard := _ }) rfl (fun K hK => ?_) AllReadyH.nil)
          go_simp
          refine hK.out _ _ trivial (fun hx9 => ?_)
          clear hK K hx9
          try simp only [Act.put, List.setIfInBounds_toArray, List.set_cons_zero, List.set_cons_succ]
          refine wpAnyH_ready (rs := [5]) (by kernel_rfl) (by simp) ?_
          refine (AllReadyH.cons (o := { dst := some 51, op := _, type := _, pos := _, after := _, guard := _ }) rfl (fun K hK => ?_) AllReadyH.nil)
          refine step_append_lies _ (by rfl) _ _ _ (by rfl) (W.heap.size + 1) 42 i0 _ 2 32 Try.underlying30 hi hz0 hz1 hz2 rfl (by omega) (.slice a2 ps.length c2) ps.length (rowW (ps.length) (pB ps) dv) (by rfl) ((G.own.p.below BM).1.alloc _) ⟨P3.heap.size, 0, none⟩ 1 1 [.int .i64 (-1), _] (by rfl) (by rfl) (cell_two_new _ _ _ _) (by intro u hu; simp at hu; rcases hu with rfl | rfl <;> rfl) (by omega) hnum1 hnum2 (by have := BM.size; have := G.r.1.1; simp; omega) (P3.heap.size + 1) (by simp) ?_
          intro g4 cap4 P4 ho4 hg4 hat4 hlt4
          replace XB := (XB.below ((Below.refl _ _).alloc (Nat.le_refl _) _)).other hg4 (fun e => G.o2 e.symm)
          have GP := G.snoc rfl BM OM ho4 hg4 hat4
          refine hK.out _ _ trivial (fun hx9 => ?_)
          clear hK K hx9
          try simp only [Act.put, List.setIfInBounds_toArray, List.set_cons_zero, List.set_cons_succ]
          refine wpAnyH_take (i := 6) (oi := { dst := some 52, op := _, type := _, pos := _, after := _, guard := _ }) (v := (.pointer (some ⟨Bd, 1, none⟩))) rfl (by kernel_rfl) (by kernel_rfl) (by kernel_rfl) (fun _ _ _ h => h) (Or.inl ⟨by rfl, ?hy27⟩) (by assumption) ?rest27
          case hy27 =>
            intro w9 hS9
            go_simp
          try simp only [Act.put, List.setIfInBounds_toArray, List.set_cons_zero, List.set_cons_succ]
          refine wpAnyH_ready (rs := [7]) (by kernel_rfl) (by simp) ?_
          refine (AllReadyH.cons (o := { dst := none, op := _, type := _, pos := _, after := _, guard := _ }) rfl (fun K hK => ?_) AllReadyH.nil)
          obtain ⟨⟨zb, cb0, cb1⟩, fb0, fb1⟩ := XB
          go_simp
          clear zb cb0 cb1 fb0 fb1
          refine hK.out _ _ trivial (fun hx9 => ?_)
          clear hK K hx9
          try simp only [Act.put, List.setIfInBounds_toArray, List.set_cons_zero, List.set_cons_succ]
          refine wpAnyH_done (by kernel_rfl) ?_ _
          clear hHeld
          have GE : Hid (GS W k B Bd _ _ _ s.disk _) := HN.out _ _ _ _ GP
          clear GP ho4 hg4 hat4 hlt4 OM BM G
          go_wp2_with fail
          go_meet
          exact ⟨_, _, _, GE⟩
        · go_simp
          refine hK.out _ _ trivial (fun hx9 => ?_)
          clear hK K hx9
          try simp only [Act.put, List.setIfInBounds_toArray, List.set_cons_zero, List.set_cons_succ]
          refine wpAnyH_ready (rs := [1]) (by kernel_rfl) (by simp) ?_
          refine (AllReadyH.cons (o := { dst := some 47, op := _, type := _, pos := _, after := _, guard := _ }) rfl (fun K hK => ?_) AllReadyH.nil)
          obtain ⟨⟨zb, cb0, cb1⟩, -⟩ := id XB
          go_simp
          clear zb cb0 cb1
          refine hK.out _ _ trivial (fun hx9 => ?_)
          clear hK K hx9
          try simp only [Act.put, List.setIfInBounds_toArray, List.set_cons_zero, List.set_cons_succ]
          refine wpAnyH_ready (rs := [5]) (by kernel_rfl) (by simp) ?_
          refine (AllReadyH.cons (o := { dst := some 51, op := _, type := _, pos := _, after := _, guard := _ }) rfl (fun K hK => ?_) AllReadyH.nil)
          refine step_append_lies _ (by rfl) _ _ _ (by rfl) (W.heap.size + 1) 42 i0 _ 2 32 Try.underlying30 hi hz0 hz1 hz2 rfl (by omega) (.slice a2 ps.length c2) ps.length (rowW (ps.length) (pB ps) dv) (by rfl) ((G.own.p.below BM).1.alloc _) ⟨P3.heap.size, 0, none⟩ 1 1 [.int .i64 (-1), _] (by rfl) (by rfl) (cell_two_new _ _ _ _) (by intro u hu; simp at hu; rcases hu with rfl | rfl <;> rfl) (by omega) hnum1 hnum2 (by have := BM.size; have := G.r.1.1; simp; omega) (P3.heap.size + 1) (by simp) ?_
          intro g4 cap4 P5 ho4 hg4 hat4 hlt4
          replace XB := (XB.below ((Below.refl _ _).alloc (Nat.le_refl _) _)).other hg4 (fun e => G.o2 e.symm)
          have GP := G.snoc rfl BM OM ho4 hg4 hat4
          refine hK.out _ _ trivial (fun hx9 => ?_)
          clear hK K hx9
          try simp only [Act.put, List.setIfInBounds_toArray, List.set_cons_zero, List.set_cons_succ]
          refine wpAnyH_take (i := 6) (oi := { dst := some 52, op := _, type := _, pos := _, after := _, guard := _ }) (v := (.pointer (some ⟨Bd, 1, none⟩))) rfl (by kernel_rfl) (by kernel_rfl) (by kernel_rfl) (fun _ _ _ h => h) (Or.inl ⟨by rfl, ?hy28⟩) (by assumption) ?rest28
          case hy28 =>
            intro w9 hS9
            go_simp
          try simp only [Act.put, List.setIfInBounds_toArray, List.set_cons_zero, List.set_cons_succ]
          refine wpAnyH_ready (rs := [7]) (by kernel_rfl) (by simp) ?_
          refine (AllReadyH.cons (o := { dst := none, op := _, type := _, pos := _, after := _, guard := _ }) rfl (fun K hK => ?_) AllReadyH.nil)
          obtain ⟨⟨zb, cb0, cb1⟩, fb0, fb1⟩ := XB
          go_simp
          clear zb cb0 cb1 fb0 fb1
          refine hK.out _ _ trivial (fun hx9 => ?_)
          clear hK K hx9
          try simp only [Act.put, List.setIfInBounds_toArray, List.set_cons_zero, List.set_cons_succ]
          refine wpAnyH_done (by kernel_rfl) ?_ _
          clear hHeld
          have GE : Hid (GS W k B Bd _ _ _ s.disk _) := HN.out _ _ _ _ GP
          clear GP ho4 hg4 hat4 hlt4 OM BM G
          go_wp2_with fail
          go_meet
          exact ⟨_, _, _, GE⟩
    case rest =>
      obtain ⟨v1, v2, dv2, GE⟩ := hcut
      obtain ⟨x1, y1, hx1⟩ := GE.out.own.d.slice
      obtain ⟨x2, y2, hx2⟩ := GE.out.own.p.slice
      subst hx1 hx2
      obtain ⟨⟨zb, cb0, cb1⟩, fb0, fb1⟩ := GE.out.bx
      obtain ⟨⟨rb, rb0, rb1⟩, fr0, fr1⟩ := GE.out.r
      go_wp2
      exact bodyPost_ret (v := .agg #[.slice x1 _ y1, .slice x2 _ y2]) (by simp [results, Try.results39, go_sem, rb0, rb1]) rfl (TAIL.out _ _ _ _ GE.out)
  by_cases h5 : m = 5
  · subst h5
    have HE : Hid (s.disk = ((dur, ps ++ List.replicate (1999 + (t.next 3).1 - ps.length) (0, zeros 64)), (t.next 3).2)) := by show _ = _; rw [HDK.out]; rfl
    clear HDK
    go_wp2_with fail
    refine (next_x _ k B 3 _ G1.out.src (by omega)).mono ?_
    rintro e w4 ⟨rfl, sf, tf⟩
    have hn3 := t.next_lt 3 (by omega)
    have G2 : Hid (GS W k B Bd (.slice a1 dur.length c1) (.slice a2 ps.length c2) dv ((dur, ps ++ List.replicate 0 (0, zeros 64)), (t.next 3).2) w4) := by
      rw [List.replicate_zero, List.append_nil]
      exact G1.out.next sf tf
    clear sf tf G1
    generalize (t.next 3).1 = n3 at *
    generalize (t.next 3).2 = t3 at *
    go_wp2
    go_loopw [] (fun wr => ∃ (j : Nat) (v1 v2 : Value) (dv2 : Nat → Value), j ≤ 1999 + n3 - ps.length ∧ Hid (GS W k B Bd v1 v2 dv2 ((dur, ps ++ List.replicate j (0, zeros 64)), t3) wr)) (fun wr => 1999 + n3 - pLen wr Bd)
    case atStart => exact ⟨0, _, _, _, Nat.zero_le _, G2⟩
    case round =>
      clear G2
      obtain ⟨j, v1, v2, dv2, hj, HG⟩ := hrel
      by_cases hlt : j < 1999 + n3 - ps.length
      · have HN : Hid (∀ v1 v2 dv2 w, GS W k B Bd v1 v2 dv2 ((dur, (ps ++ List.replicate j (0, zeros 64)) ++ [(0, zeros 64)]), t3) w → Hid (GS W k B Bd v1 v2 dv2 ((dur, ps ++ List.replicate (j + 1) (0, zeros 64)), t3) w)) := by
          intro v1 v2 dv2 w hh
          show GS _ _ _ _ _ _ _ _ _
          rw [List.replicate_succ', ← List.append_assoc]
          exact hh
        have hQ : (ps ++ List.replicate j ((0 : Int), zeros 64)).length = ps.length + j := by rw [List.length_append, List.length_replicate]
        generalize ps ++ List.replicate j ((0 : Int), zeros 64) = Q at *
        have hQ1 : Q.length < 1999 + n3 := by omega
        have hQI : (Q.length : Int) < 1999 + (n3 : Int) := by omega
        clear hQ
        have hnum1 : Q.length + 1 ≤ maxLen := by unfold maxLen; omega
        have hnum2 : (Q.length + 1) * 32 ≤ 140737488355328 := by omega
        obtain ⟨x2, y2, hx2⟩ := HG.out.own.p.slice
        simp only at hx2
        subst hx2
        have HPL : Hid (pLen wr Bd = Q.length) := pLen_of HG.out.bx
        have G := HG.out
        clear HG
        obtain ⟨⟨zb, cb0, cb1⟩, fb0, fb1⟩ := id G.bx
        go_wp2_with fail
        clear zb cb0 cb1 fb0 fb1
        refine wp_region_held_drew (S := fun _ => True) (by kernel_rfl) trivial (fun hHeld => ?_)
        replace G := G.later (below_drewN' wr 1)
        change GS W k B Bd _ _ _ _ wr.drew at G
        have XB := G.bx
        generalize wr.drew = P0 at *
        refine wpAnyH_take (i := 0) (oi := { dst := some 63, op := _, type := _, pos := _, after := _, guard := _ }) (v := (.pointer (some ⟨Bd, 1, none⟩))) rfl (by kernel_rfl) (by kernel_rfl) (by kernel_rfl) (fun _ _ _ h => h) (Or.inl ⟨by rfl, ?hy29⟩) (by assumption) ?rest29
        case hy29 =>
          intro w9 hS9
          go_simp
        try simp only [Act.put, List.setIfInBounds_toArray, List.set_cons_zero, List.set_cons_succ]
        refine wpAnyH_ready (rs := [1, 2]) (by kernel_rfl) (by simp) ?_
        refine (AllReadyH.cons (o := { dst := some 64, op := _, type := _, pos := _, after := _, guard := _ }) rfl (fun K hK => ?_) (AllReadyH.cons (o := { dst := some 65, op := _, type := _, pos := _, after := _, guard := _ }) rfl (fun K hK => ?_) AllReadyH.nil))
        · obtain ⟨⟨zb, cb0, cb1⟩, -⟩ := id XB
          go_simp
          clear zb cb0 cb1
          refine hK.out _ _ trivial (fun hx9 => ?_)
          clear hK K hx9
          try simp only [Act.put, List.setIfInBounds_toArray, List.set_cons_zero, List.set_cons_succ]
          refine wpAnyH_ready (rs := [2]) (by kernel_rfl) (by simp) ?_
          refine (AllReadyH.cons (o := { dst := some 65, op := _, type := _, pos := _, after := _, guard := _ }) rfl (fun K hK => ?_) AllReadyH.nil)
          refine step_make rfl _ _ 29 rfl P0.heap.size 5 i1 (.int .u8 0) 1 Try.underlying29 hi1 hy0 hy1 _ _ _ _ (64) rfl rfl (by omega) (by omega) (by rw [hy2]; omega) (by unfold maxLen; omega) (Nat.le_refl _) ?_
          intro P1 om gm
          have OM := made_zeros om
          have BM : Below P0.heap.size P0 P1 := (Below.refl _ _).grown gm (Nat.le_refl _) (fun q hq => by cases hq)
          clear om gm
          replace XB := XB.below BM
          refine hK.out _ _ trivial (fun hx9 => ?_)
          clear hK K hx9
          try simp only [Act.put, List.setIfInBounds_toArray, List.set_cons_zero, List.set_cons_succ]
          refine wpAnyH_take (i := 3) (oi := { dst := some 66, op := _, type := _, pos := _, after := _, guard := _ }) (v := (.agg #[.int .i64 0, .slice (some ⟨P0.heap.size, 0, none⟩) (64) (64)])) rfl (by kernel_rfl) (by kernel_rfl) (by kernel_rfl) (fun _ _ _ h => h) (Or.inl ⟨by rfl, ?hy30⟩) (by assumption) ?rest30
          case hy30 =>
            intro w9 hS9
            go_simp
          try simp only [Act.put, List.setIfInBounds_toArray, List.set_cons_zero, List.set_cons_succ]
          refine wpAnyH_ready (rs := [4]) (by kernel_rfl) (by simp) ?_
          refine (AllReadyH.cons (o := { dst := some 67, op := _, type := _, pos := _, after := _, guard := _ }) rfl (fun K hK => ?_) AllReadyH.nil)
          go_simp
          refine hK.out _ _ trivial (fun hx9 => ?_)
          clear hK K hx9
          try simp only [Act.put, List.setIfInBounds_toArray, List.set_cons_zero, List.set_cons_succ]
          refine wpAnyH_ready (rs := [5]) (by kernel_rfl) (by simp) ?_
          refine (AllReadyH.cons (o := { dst := some 68, op := _, type := _, pos := _, after := _, guard := _ }) rfl (fun K hK => ?_) AllReadyH.nil)
          refine step_append_lies _ (by rfl) _ _ _ (by rfl) (W.heap.size + 1) 42 i0 _ 2 32 Try.underlying30 hi hz0 hz1 hz2 rfl (by omega) (.slice x2 Q.length y2) Q.length (rowW (Q.length) (pB Q) dv2) (by rfl) ((G.own.p.below BM).1.alloc _) ⟨P1.heap.size, 0, none⟩ 1 1 [.int .i64 0, _] (by rfl) (by rfl) (cell_two_new _ _ _ _) (by intro u hu; simp at hu; rcases hu with rfl | rfl <;> rfl) (by omega) hnum1 hnum2 (by have := BM.size; have := G.r.1.1; simp; omega) (P1.heap.size + 1) (by simp) ?_
          intro g4 cap4 P2 ho4 hg4 hat4 hlt4
          replace XB := (XB.below ((Below.refl _ _).alloc (Nat.le_refl _) _)).other hg4 (fun e => G.o2 e.symm)
          have GP := G.snoc rfl BM OM ho4 hg4 hat4
          refine hK.out _ _ trivial (fun hx9 => ?_)
          clear hK K hx9
          try simp only [Act.put, List.setIfInBounds_toArray, List.set_cons_zero, List.set_cons_succ]
          refine wpAnyH_take (i := 6) (oi := { dst := some 69, op := _, type := _, pos := _, after := _, guard := _ }) (v := (.pointer (some ⟨Bd, 1, none⟩))) rfl (by kernel_rfl) (by kernel_rfl) (by kernel_rfl) (fun _ _ _ h => h) (Or.inl ⟨by rfl, ?hy31⟩) (by assumption) ?rest31
          case hy31 =>
            intro w9 hS9
            go_simp
          try simp only [Act.put, List.setIfInBounds_toArray, List.set_cons_zero, List.set_cons_succ]
          refine wpAnyH_ready (rs := [7]) (by kernel_rfl) (by simp) ?_
          refine (AllReadyH.cons (o := { dst := none, op := _, type := _, pos := _, after := _, guard := _ }) rfl (fun K hK => ?_) AllReadyH.nil)
          obtain ⟨⟨zb, cb0, cb1⟩, fb0, fb1⟩ := XB
          go_simp
          clear zb cb0 cb1 fb0 fb1
          refine hK.out _ _ trivial (fun hx9 => ?_)
          clear hK K hx9
          try simp only [Act.put, List.setIfInBounds_toArray, List.set_cons_zero, List.set_cons_succ]
          refine wpAnyH_done (by kernel_rfl) ?_ _
          clear hHeld
          have HG2 := HN.out _ _ _ _ GP
          have HLN := pLen_of GP.bx
          clear GP ho4 hg4 hat4 hlt4 OM BM G
          go_wp2
          exact ⟨⟨j + 1, _, _, _, by omega, HG2⟩, by rw [HLN]; have := HPL.out; show 1999 + n3 - (Q.length + 1) < 1999 + n3 - pLen wr Bd; omega⟩
        · refine step_make rfl _ _ 29 rfl P0.heap.size 5 i1 (.int .u8 0) 1 Try.underlying29 hi1 hy0 hy1 _ _ _ _ (64) rfl rfl (by omega) (by omega) (by rw [hy2]; omega) (by unfold maxLen; omega) (Nat.le_refl _) ?_
          intro P3 om gm
          have OM := made_zeros om
          have BM : Below P0.heap.size P0 P3 := (Below.refl _ _).grown gm (Nat.le_refl _) (fun q hq => by cases hq)
          clear om gm
          replace XB := XB.below BM
          refine hK.out _ _ trivial (fun hx9 => ?_)
          clear hK K hx9
          try simp only [Act.put, List.setIfInBounds_toArray, List.set_cons_zero, List.set_cons_succ]
          refine wpAnyH_take (i := 3) (oi := { dst := some 66, op := _, type := _, pos := _, after := _, guard := _ }) (v := (.agg #[.int .i64 0, .slice (some ⟨P0.heap.size, 0, none⟩) (64) (64)])) rfl (by kernel_rfl) (by kernel_rfl) (by kernel_rfl) (fun _ _ _ h => h) (Or.inl ⟨by rfl, ?hy32⟩) (by assumption) ?rest32
          case hy32 =>
            intro w9 hS9
            go_simp
          try simp only [Act.put, List.setIfInBounds_toArray, List.set_cons_zero, List.set_cons_succ]
          refine wpAnyH_ready (rs := [1, 4]) (by kernel_rfl) (by simp) ?_
          refine (AllReadyH.cons (o := { dst := some 64, op := _, type := _, pos := _, after := _, guard := _ }) rfl (fun K hK => ?_) (AllReadyH.cons (o := { dst := some 67, op := _, type := _, pos := _, after := _, guard := _ }) rfl (fun K hK => ?_) AllReadyH.nil))
          · obtain ⟨⟨zb, cb0, cb1⟩, -⟩ := id XB
            go_simp
            clear zb cb0 cb1
            refine hK.out _ _ trivial (fun hx9 => ?_)
            clear hK K hx9
            try simp only [Act.put, List.setIfInBounds_toArray, List.set_cons_zero, List.set_cons_succ]
            refine wpAnyH_ready (rs := [4]) (by kernel_rfl) (by simp) ?_
            refine (AllReadyH.cons (o := { dst := some 67, op := _, type := _, pos := _, after := _, guard := _ }) rfl (fun K hK => ?_) AllReadyH.nil)
            go_simp
            refine hK.out _ _ trivial (fun hx9 => ?_)
            clear hK K hx9
            try simp only [Act.put, List.setIfInBounds_toArray, List.set_cons_zero, List.set_cons_succ]
            refine wpAnyH_ready (rs := [5]) (by kernel_rfl) (by simp) ?_
            refine (AllReadyH.cons (o := { dst := some 68, op := _, type := _, pos := _, after := _, guard := _ }) rfl (fun K hK => ?_) AllReadyH.nil)
            refine step_append_lies _ (by rfl) _ _ _ (by rfl) (W.heap.size + 1) 42 i0 _ 2 32 Try.underlying30 hi hz0 hz1 hz2 rfl (by omega) (.slice x2 Q.length y2) Q.length (rowW (Q.length) (pB Q) dv2) (by rfl) ((G.own.p.below BM).1.alloc _) ⟨P3.heap.size, 0, none⟩ 1 1 [.int .i64 0, _] (by rfl) (by rfl) (cell_two_new _ _ _ _) (by intro u hu; simp at hu; rcases hu with rfl | rfl <;> rfl) (by omega) hnum1 hnum2 (by have := BM.size; have := G.r.1.1; simp; omega) (P3.heap.size + 1) (by simp) ?_
            intro g4 cap4 P4 ho4 hg4 hat4 hlt4
            replace XB := (XB.below ((Below.refl _ _).alloc (Nat.le_refl _) _)).other hg4 (fun e => G.o2 e.symm)
            have GP := G.snoc rfl BM OM ho4 hg4 hat4
            refine hK.out _ _ trivial (fun hx9 => ?_)
            clear hK K hx9
            try simp only [Act.put, List.setIfInBounds_toArray, List.set_cons_zero, List.set_cons_succ]
            refine wpAnyH_take (i := 6) (oi := { dst := some 69, op := _, type := _, pos := _, after := _, guard := _ }) (v := (.pointer (some ⟨Bd, 1, none⟩))) rfl (by kernel_rfl) (by kernel_rfl) (by kernel_rfl) (fun _ _ _ h => h) (Or.inl ⟨by rfl, ?hy33⟩) (by assumption) ?rest33
            case hy33 =>
              intro w9 hS9
              go_simp
            try simp only [Act.put, List.setIfInBounds_toArray, List.set_cons_zero, List.set_cons_succ]
            refine wpAnyH_ready (rs := [7]) (by kernel_rfl) (by simp) ?_
            refine (AllReadyH.cons (o := { dst := none, op := _, type := _, pos := _, after := _, guard := _ }) rfl (fun K hK => ?_) AllReadyH.nil)
            obtain ⟨⟨zb, cb0, cb1⟩, fb0, fb1⟩ := XB
            go_simp
            clear zb cb0 cb1 fb0 fb1
            refine hK.out _ _ trivial (fun hx9 => ?_)
            clear hK K hx9
            try simp only [Act.put, List.setIfInBounds_toArray, List.set_cons_zero, List.set_cons_succ]
            refine wpAnyH_done (by kernel_rfl) ?_ _
            clear hHeld
            have HG2 := HN.out _ _ _ _ GP
            have HLN := pLen_of GP.bx
            clear GP ho4 hg4 hat4 hlt4 OM BM G
            go_wp2
            exact ⟨⟨j + 1, _, _, _, by omega, HG2⟩, by rw [HLN]; have := HPL.out; show 1999 + n3 - (Q.length + 1) < 1999 + n3 - pLen wr Bd; omega⟩
          · go_simp
            refine hK.out _ _ trivial (fun hx9 => ?_)
            clear hK K hx9
            try simp only [Act.put, List.setIfInBounds_toArray, List.set_cons_zero, List.set_cons_succ]
            refine wpAnyH_ready (rs := [1]) (by kernel_rfl) (by simp) ?_
            refine (AllReadyH.cons (o := { dst := some 64, op := _, type := _, pos := _, after := _, guard := _ }) rfl (fun K hK => ?_) AllReadyH.nil)
            obtain ⟨⟨zb, cb0, cb1⟩, -⟩ := id XB
            go_simp
            clear zb cb0 cb1
            refine hK.out _ _ trivial (fun hx9 => ?_)
            clear hK K hx9
            try simp only [Act.put, List.setIfInBounds_toArray, List.set_cons_zero, List.set_cons_succ]
            refine wpAnyH_ready (rs := [5]) (by kernel_rfl) (by simp) ?_
            refine (AllReadyH.cons (o := { dst := some 68, op := _, type := _, pos := _, after := _, guard := _ }) rfl (fun K hK => ?_) AllReadyH.nil)
            refine step_append_lies _ (by rfl) _ _ _ (by rfl) (W.heap.size + 1) 42 i0 _ 2 32 Try.underlying30 hi hz0 hz1 hz2 rfl (by omega) (.slice x2 Q.length y2) Q.length (rowW (Q.length) (pB Q) dv2) (by rfl) ((G.own.p.below BM).1.alloc _) ⟨P3.heap.size, 0, none⟩ 1 1 [.int .i64 0, _] (by rfl) (by rfl) (cell_two_new _ _ _ _) (by intro u hu; simp at hu; rcases hu with rfl | rfl <;> rfl) (by omega) hnum1 hnum2 (by have := BM.size; have := G.r.1.1; simp; omega) (P3.heap.size + 1) (by simp) ?_
            intro g4 cap4 P5 ho4 hg4 hat4 hlt4
            replace XB := (XB.below ((Below.refl _ _).alloc (Nat.le_refl _) _)).other hg4 (fun e => G.o2 e.symm)
            have GP := G.snoc rfl BM OM ho4 hg4 hat4
            refine hK.out _ _ trivial (fun hx9 => ?_)
            clear hK K hx9
            try simp only [Act.put, List.setIfInBounds_toArray, List.set_cons_zero, List.set_cons_succ]
            refine wpAnyH_take (i := 6) (oi := { dst := some 69, op := _, type := _, pos := _, after := _, guard := _ }) (v := (.pointer (some ⟨Bd, 1, none⟩))) rfl (by kernel_rfl) (by kernel_rfl) (by kernel_rfl) (fun _ _ _ h => h) (Or.inl ⟨by rfl, ?hy34⟩) (by assumption) ?rest34
            case hy34 =>
              intro w9 hS9
              go_simp
            try simp only [Act.put, List.setIfInBounds_toArray, List.set_cons_zero, List.set_cons_succ]
            refine wpAnyH_ready (rs := [7]) (by kernel_rfl) (by simp) ?_
            refine (AllReadyH.cons (o := { dst := none, op := _, type := _, pos := _, after := _, guard := _ }) rfl (fun K hK => ?_) AllReadyH.nil)
            obtain ⟨⟨zb, cb0, cb1⟩, fb0, fb1⟩ := XB
            go_simp
            clear zb cb0 cb1 fb0 fb1
            refine hK.out _ _ trivial (fun hx9 => ?_)
            clear hK K hx9
            try simp only [Act.put, List.setIfInBounds_toArray, List.set_cons_zero, List.set_cons_succ]
            refine wpAnyH_done (by kernel_rfl) ?_ _
            clear hHeld
            have HG2 := HN.out _ _ _ _ GP
            have HLN := pLen_of GP.bx
            clear GP ho4 hg4 hat4 hlt4 OM BM G
            go_wp2
            exact ⟨⟨j + 1, _, _, _, by omega, HG2⟩, by rw [HLN]; have := HPL.out; show 1999 + n3 - (Q.length + 1) < 1999 + n3 - pLen wr Bd; omega⟩
      · have hjn : j = 1999 + n3 - ps.length := by omega
        subst hjn
        have hQI : ¬ ((ps ++ List.replicate (1999 + n3 - ps.length) ((0 : Int), zeros 64)).length : Int) < 1999 + (n3 : Int) := by rw [List.length_append, List.length_replicate]; omega
        have GE : Hid (GS W k B Bd v1 v2 dv2 s.disk wr) := by rw [HE.out]; exact HG.out
        obtain ⟨x1, y1, hx1⟩ := HG.out.own.d.slice
        obtain ⟨x2, y2, hx2⟩ := HG.out.own.p.slice
        simp only at hx1 hx2
        generalize (ps ++ List.replicate (1999 + n3 - ps.length) ((0 : Int), zeros 64)).length = L at *
        subst hx1 hx2
        obtain ⟨⟨zb, cb0, cb1⟩, fb0, fb1⟩ := GE.out.bx
        obtain ⟨⟨rb, rb0, rb1⟩, fr0, fr1⟩ := GE.out.r
        clear HE HG
        go_wp2
        exact bodyPost_ret (v := .agg #[.slice x1 dur.length y1, .slice x2 L y2]) (by simp [results, Try.results39, go_sem, rb0, rb1]) rfl (TAIL.out _ _ _ _ GE.out)
  have HE : Hid (s.disk = ((dur, ps), t)) := by show _ = _; rw [HDK.out, if_neg h0, if_neg h1, if_neg h2, if_neg h3, if_neg h4, if_neg h5]
  clear HDK
  have GE : Hid (GS W k B Bd (.slice a1 dur.length c1) (.slice a2 ps.length c2) dv s.disk w3) := by rw [HE.out]; exact G1.out
  have n0 : ((m : Int) == 0) = false := beq_eq_false_iff_ne.2 (by omega)
  have n1 : ((m : Int) == 1) = false := beq_eq_false_iff_ne.2 (by omega)
  have n2 : ((m : Int) == 2) = false := beq_eq_false_iff_ne.2 (by omega)
  have n3 : ((m : Int) == 3) = false := beq_eq_false_iff_ne.2 (by omega)
  have n4 : ((m : Int) == 4) = false := beq_eq_false_iff_ne.2 (by omega)
  have n5 : ((m : Int) == 5) = false := beq_eq_false_iff_ne.2 (by omega)
  obtain ⟨⟨zb, cb0, cb1⟩, fb0, fb1⟩ := GE.out.bx
  obtain ⟨⟨rb, rb0, rb1⟩, fr0, fr1⟩ := GE.out.r
  clear h0 h1 h2 h3 h4 h5 HE G1
  go_wp2
  exact bodyPost_ret (v := .agg #[.slice a1 _ c1, .slice a2 _ c2]) (by simp [results, Try.results39, go_sem, rb0, rb1]) rfl (TAIL.out _ _ _ _ GE.out)

end Go.Proofs.Ytmgolinleiahpaa

namespace Go.Proofs.Ytmgolinleiahpaa
open Go.RowKit

/-- The disk, the block and the data that are drawn. -/
def drawK (q : Dk × Sr) : Nat × Sr := ((q.2.next (q.1.1.length / 64)).2.fill.2.next 16)
def drawB (q : Dk × Sr) : Int := if (drawK q).1 = 1 then ((q.1.1.length / 64 : Nat) : Int) else if (drawK q).1 = 2 then -1 else ((q.2.next (q.1.1.length / 64)).1 : Int)
def drawX (q : Dk × Sr) : List Int := if (drawK q).1 = 0 then (q.2.next (q.1.1.length / 64)).2.fill.1.drop 1 else (q.2.next (q.1.1.length / 64)).2.fill.1
/-- What is known of what DrawDiskWrite answers. -/
def WrPost (W : World) (q : Dk × Sr) (e : Ending) (w' : World) : Prop := ∃ u1 u2 v, e = .returned (.tuple #[.agg #[u1, u2], .int .i64 (drawB q), v]) ∧ (Rd .u8 w' u1 q.1.1 ∧ RdW w' u2 q.1.2 ∧ Rd .u8 w' v (drawX q)) ∧ (∀ b x y, b < W.heap.size → Rd .u8 ((w'.setCell ⟨b, 0, none⟩ x).setCell ⟨b, 1, none⟩ y) u1 q.1.1 ∧ RdW ((w'.setCell ⟨b, 0, none⟩ x).setCell ⟨b, 1, none⟩ y) u2 q.1.2 ∧ Rd .u8 ((w'.setCell ⟨b, 0, none⟩ x).setCell ⟨b, 1, none⟩ y) v (drawX q)) ∧ Below W.heap.size W w'

/-- What a call of DrawDiskWrite holds. -/
structure FSt (W : World) (k B Bd : Nat) (u1 u2 : Value) (dv : Nat → Value) (d : Dk) (s : Sr) (w : World) : Prop where
  hk : W.heap.size + 1 ≤ k
  hB : B ≤ Bd
  r : BoxF w W.heap.size (.slice none 0 0) (.slice none 0 0)
  x : BoxF w Bd u1 u2
  o : OwnD w B w.heap.size u1 u2 d.1 d.2 dv
  s : SRX w k B s
  b : Below W.heap.size W w
theorem FSt.later {W w w' : World} {k B Bd : Nat} {u1 u2 : Value} {dv : Nat → Value} {d : Dk} {s : Sr} (h : FSt W k B Bd u1 u2 dv d s w) (hb : Below w.heap.size w w') : FSt W k B Bd u1 u2 dv d s w' :=
  ⟨h.hk, h.hB, h.r.below hb, h.x.below hb, (h.o.below hb).mono (Nat.le_refl _) hb.size, h.s.keep (hb.mono h.s.lt), h.b.trans (hb.mono h.b.size)⟩
theorem FSt.next {W w w' : World} {k B Bd : Nat} {u1 u2 : Value} {dv : Nat → Value} {d : Dk} {s s' : Sr} (h : FSt W k B Bd u1 u2 dv d s w) (hs : SRX w' k B s') (ht : Tch k w w') : FSt W k B Bd u1 u2 dv d s' w' := by
  have h1 := h.s.kB
  have h2 := h.hk
  have h3 := h.hB
  have h4 := h.r.1.1
  exact ⟨h.hk, h.hB, h.r.tch ht (by omega), h.x.tch ht (by omega), (h.o.tch ht h1).mono (Nat.le_refl _) ht.size, hs, h.b.trans (ht.below (by omega) (by omega))⟩

set_option maxHeartbeats 2000000 in
set_option maxRecDepth 100000 in
theorem drawWrite_x (W : World) (v : Value) (xs : List Int) (h : Rd .u8 W v xs) (hby : Byt xs) (hn : xs.length ≤ 1048576) :
    Calls Try.prog 14 #[v] W fun e w' => WrPost W (srcOf xs).disk e w' := by
  have HBY : Hid (Byt xs) := hby
  obtain ⟨ao, ca, rfl, -, -⟩ := h.len
  have BA : Hid (Below W.heap.size W (W.alloc (.cells #[.slice none 0 0, .slice none 0 0] 32))) := (Below.refl _ _).alloc (Nat.le_refl _) _
  have RA : Hid (BoxF (W.alloc (.cells #[.slice none 0 0, .slice none 0 0] 32)) W.heap.size (.slice none 0 0) (.slice none 0 0)) := BoxF.new _ _ _ _
  have zA : (W.alloc (.cells #[.slice none 0 0, .slice none 0 0] 32)).heap.size = W.heap.size + 1 := by simp
  have HR : Hid (Rd .u8 (W.alloc (.cells #[.slice none 0 0, .slice none 0 0] 32)) (.slice ao xs.length ca) xs) := h.below BA.out
  clear h hby
  go_enter Try.func14, Try.ntmps14
  go_wp2_with fail
  generalize W.alloc (.cells #[.slice none 0 0, .slice none 0 0] 32) = wA at *
  refine (sourceX_any _ _ xs HR.out HBY.out hn).mono ?_
  rintro e w1 ⟨k, rfl, hk, s1, b1⟩
  have S1 : Hid (SRX w1 k w1.heap.size (srcOf xs)) := s1
  have B1 : Hid (Below wA.heap.size wA w1) := b1
  clear s1 b1 HR
  go_wp2_with fail
  refine (disk_x _ k w1.heap.size _ S1.out).mono ?_
  rintro e w2 ⟨u1, u2, dv, rfl, o2, s2, t2⟩
  have hsz : (srcOf xs).disk.1.1.length ≤ 19264 := by
    have hg := good_sm (srcOf xs) (S1.out.sz.2)
    unfold Sr.disk
    generalize (srcOf xs).good = q at *
    have h2 := (q.2.next 30).2.next_lt 2 (by omega)
    have h1 := hg.1
    unfold Sr.dk
    split
    · simp; omega
    · split
      · simp
      · split
        · simp only [zeros_len]; omega
        · split
          · simp only; omega
          · split
            · simp only; omega
            · split <;> (simp only; omega)
  obtain ⟨q, hq⟩ : ∃ q, q = (srcOf xs).disk := ⟨_, rfl⟩
  rw [← hq] at hsz o2 s2

  have HQ : Hid (q = (srcOf xs).disk) := hq
  clear hq
  obtain ⟨a1, c1, hv1⟩ := o2.d.slice
  obtain ⟨a2, c2, hv2⟩ := o2.p.slice
  subst hv1 hv2
  obtain ⟨Bd, hBd⟩ : ∃ Bd, Bd = w2.heap.size := ⟨_, rfl⟩
  have z1 := t2.size
  have zk := S1.out.kB
  have ba : Below w2.heap.size w2 (w2.alloc (.cells #[.slice a1 q.1.1.length c1, .slice a2 q.1.2.length c2] 32)) := (Below.refl _ _).alloc (Nat.le_refl _) _
  have F0 : Hid (FSt W k w1.heap.size Bd (.slice a1 q.1.1.length c1) (.slice a2 q.1.2.length c2) dv q.1 q.2 (w2.alloc (.cells #[.slice a1 q.1.1.length c1, .slice a2 q.1.2.length c2] 32))) := by
    rw [hBd]
    refine ⟨by omega, z1, ((RA.out.below B1.out).tch t2 (by omega)).below ba, BoxF.new _ _ _ _, (o2.below ba).mono (Nat.le_refl _) (by simp), s2.keep (ba.mono z1), ?_⟩
    have hb1 := BA.out.trans (B1.out.mono (by omega))
    have hb2 := hb1.trans (t2.below (B := W.heap.size) (by omega) (by omega))
    exact hb2.trans (ba.mono (by omega))
  clear ba o2 s2 t2 RA BA S1 B1 z1
  go_wp2_with fail
  rw [← hBd]
  generalize w2.alloc (.cells #[.slice a1 q.1.1.length c1, .slice a2 q.1.2.length c2] 32) = w3 at *
  generalize w1.heap.size = B at *
  clear hBd zA
  refine (l1Blocks_any _ _ _ _ _ (by omega)).mono ?_
  rintro e w4 ⟨rfl, b4⟩
  have F1 : Hid (FSt W k B Bd (.slice a1 q.1.1.length c1) (.slice a2 q.1.2.length c2) dv q.1 q.2 w4) := F0.out.later b4
  clear b4 F0
  have HDB : Hid (drawB q = if (drawK q).1 = 1 then ((q.1.1.length / 64 : Nat) : Int) else if (drawK q).1 = 2 then -1 else ((q.2.next (q.1.1.length / 64)).1 : Int)) := rfl
  have HDX : Hid (drawX q = if (drawK q).1 = 0 then (q.2.next (q.1.1.length / 64)).2.fill.1.drop 1 else (q.2.next (q.1.1.length / 64)).2.fill.1) := rfl
  have HDK : Hid (drawK q = ((q.2.next (q.1.1.length / 64)).2.fill.2.next 16)) := rfl
  go_wp2_with fail
  refine (next_x _ k B (q.1.1.length / 64) _ F1.out.s (by omega)).mono ?_
  rintro e w5 ⟨rfl, sf, tf⟩
  have F2 : Hid (FSt W k B Bd (.slice a1 q.1.1.length c1) (.slice a2 q.1.2.length c2) dv q.1 (q.2.next (q.1.1.length / 64)).2 w5) := F1.out.next sf tf
  clear sf tf F1
  generalize (q.2.next (q.1.1.length / 64)).2 = s5 at *
  generalize (q.2.next (q.1.1.length / 64)).1 = b5 at *
  go_wp2_with fail
  refine (fill_x _ k B _ F2.out.s).mono ?_
  rintro e w6 ⟨vf, rfl, of, sf, tf⟩
  have F3 : Hid (FSt W k B Bd (.slice a1 q.1.1.length c1) (.slice a2 q.1.2.length c2) dv q.1 s5.fill.2 w6) := F2.out.next sf tf
  have hf := s5.fill_len
  obtain ⟨af, cf, hvf⟩ := of.slice
  have z5 := F2.out.x.1.1
  have z6 := F2.out.hB
  have OF : Hid (Own .u8 5 w6 w5.heap.size vf s5.fill.1) := of
  clear sf tf F2 of
  generalize s5.fill.2 = s6 at *
  generalize s5.fill.1 = f at *
  rw [hf] at hvf
  subst hvf
  go_wp2_with fail
  refine (next_x _ k B 16 _ F3.out.s (by omega)).mono ?_
  rintro e w7 ⟨rfl, sf, tf⟩
  have F4 : Hid (FSt W k B Bd (.slice a1 q.1.1.length c1) (.slice a2 q.1.2.length c2) dv q.1 (s6.next 16).2 w7) := F3.out.next sf tf
  have OF7 : Hid (Own .u8 5 w7 w5.heap.size (.slice af 64 cf) f) := OF.out.tch tf (by omega)
  clear sf tf F3 OF
  rw [← HDK.out]
  generalize (drawK q).1 = m at *
  have HF : Hid (f.length = 64) := hf
  clear hf HDK
  obtain ⟨g, c, hgc⟩ := rowXs OF7.out (by rw [HF.out]; omega)
  rw [HF.out] at hgc
  simp only [Value.slice.injEq, true_and] at hgc
  obtain ⟨rfl, rfl⟩ := hgc
  have hcf : 64 ≤ cf := by
    obtain ⟨_, _, e, h1, _⟩ := rowX3 OF7.out
    simp only [Value.slice.injEq] at e
    have := HF.out
    omega
  have TAIL : Hid (∀ w b v X, FSt W k B Bd (.slice a1 q.1.1.length c1) (.slice a2 q.1.2.length c2) dv q.1 (s6.next 16).2 w → Own .u8 5 w w5.heap.size (.slice (some ⟨g, 0, none⟩) 64 cf) f → drawB q = b → drawX q = X → (X = f ∧ v = .slice (some ⟨g, 0, none⟩) 64 cf ∨ X = f.drop 1 ∧ v = .slice (some ⟨g, 1, none⟩) 63 (cf - 1)) →
      WrPost W (srcOf xs).disk (.returned (.tuple #[.agg #[.slice a1 q.1.1.length c1, .slice a2 q.1.2.length c2], .int .i64 b, v])) ((w.setCell ⟨W.heap.size, 0, none⟩ (.slice a1 q.1.1.length c1)).setCell ⟨W.heap.size, 1, none⟩ (.slice a2 q.1.2.length c2))) := by
    intro w b v X hF hO hb hX hv
    rw [← HQ.out]
    have h1 := hF.s.kB
    have h2 := hF.hk
    have h3 := hF.r.1.1
    have hD := hF.o.below2 (b := W.heap.size) (x := .slice a1 q.1.1.length c1) (y := .slice a2 q.1.2.length c2) (by omega)
    have hg := (hO.lt g rfl).1
    have hne : Value.ownBlock (.slice (some ⟨g, 0, none⟩) 64 cf) ≠ some W.heap.size := fun e => by simp only [Value.ownBlock, Option.some.injEq] at e; omega
    have hO1 := ((hO.setAt (j := 0) (u := .slice a1 q.1.1.length c1) (.inr hne)).setAt (j := 1) (u := .slice a2 q.1.2.length c2) (.inr hne))
    have hV : ∀ W2, Own .u8 5 W2 w5.heap.size (.slice (some ⟨g, 0, none⟩) 64 cf) f → Rd .u8 W2 v (drawX q) := by
      intro W2 hO2
      rw [hX]
      rcases hv with ⟨rfl, rfl⟩ | ⟨rfl, rfl⟩
      · exact hO2.rd
      · have := hO2.rd.part HF.out 1 63 (by omega)
        rwa [List.take_of_length_le (by rw [List.length_drop, HF.out]; omega), Nat.zero_add] at this
    refine ⟨_, _, v, by rw [hb], ⟨hD.d.rd, hD.p.rd, hV _ hO1⟩, fun b2 x2 y2 hb2 => ?_, (hF.b.setCell (p := ⟨W.heap.size, 0, none⟩) (Nat.le_refl _) _).setCell (p := ⟨W.heap.size, 1, none⟩) (Nat.le_refl _) _⟩
    have hD2 := hD.below2 (b := b2) (x := x2) (y := y2) (by omega)
    have hne2 : Value.ownBlock (.slice (some ⟨g, 0, none⟩) 64 cf) ≠ some b2 := fun e => by simp only [Value.ownBlock, Option.some.injEq] at e; omega
    exact ⟨hD2.d.rd, hD2.p.rd, hV _ ((hO1.setAt (j := 0) (u := x2) (.inr hne2)).setAt (j := 1) (u := y2) (.inr hne2))⟩
  have R4 := F4.out.r
  have X4 := F4.out.x
  obtain ⟨⟨zb, cb0, cb1⟩, fb0, fb1⟩ := X4
  obtain ⟨⟨rb, rb0, rb1⟩, fr0, fr1⟩ := R4
  by_cases h0 : m = 0
  · subst h0
    have HE := HDX.out
    rw [if_pos rfl] at HE
    have HE2 := HDB.out
    rw [if_neg (by omega), if_neg (by omega)] at HE2
    have TW := TAIL.out w7 _ (.slice (some ⟨g, 1, none⟩) 63 (cf - 1)) _ F4.out OF7.out HE2 HE (.inr ⟨rfl, rfl⟩)
    have HTW := (show Hid _ from TW)
    clear TW HE HE2 TAIL HDX HDB F4 OF7
    go_wp2
    exact bodyPost_ret (v := .tuple #[.agg #[.slice a1 q.1.1.length c1, .slice a2 q.1.2.length c2], .int .i64 (b5 : Int), .slice (some ⟨g, 1, none⟩) 63 (cf - 1)]) (by simp [results, Try.results14, go_sem, rb0, rb1]) rfl HTW.out
  have HE : Hid (drawX q = f) := by show _ = _; rw [HDX.out, if_neg h0]
  clear HDX
  by_cases h1 : m = 1
  · subst h1
    have HE2 : Hid (drawB q = ((q.1.1.length / 64 : Nat) : Int)) := by show _ = _; rw [HDB.out, if_pos rfl]
    clear HDB
    go_wp2_with fail
    refine (l1Blocks_any _ _ _ _ _ (by omega)).mono ?_
    rintro e w8 ⟨rfl, b8⟩
    have F5 := F4.out.later b8
    have HTW : Hid _ := TAIL.out w8 _ (.slice (some ⟨g, 0, none⟩) 64 cf) _ F5 (OF7.out.below b8) HE2.out HE.out (.inl ⟨rfl, rfl⟩)
    clear zb cb0 cb1 fb0 fb1 rb rb0 rb1 fr0 fr1
    obtain ⟨⟨zb, cb0, cb1⟩, fb0, fb1⟩ := F5.x
    obtain ⟨⟨rb, rb0, rb1⟩, fr0, fr1⟩ := F5.r
    clear F4 OF7 b8 F5 TAIL HE HE2
    go_wp2
    exact bodyPost_ret (v := .tuple #[.agg #[.slice a1 q.1.1.length c1, .slice a2 q.1.2.length c2], .int .i64 ((q.1.1.length / 64 : Nat) : Int), .slice (some ⟨g, 0, none⟩) 64 cf]) (by simp [results, Try.results14, go_sem, rb0, rb1]) rfl HTW.out
  by_cases h2 : m = 2
  · subst h2
    have HE2 : Hid (drawB q = -1) := by show _ = _; rw [HDB.out, if_neg (by omega), if_pos rfl]
    have HTW : Hid _ := TAIL.out w7 _ (.slice (some ⟨g, 0, none⟩) 64 cf) _ F4.out OF7.out HE2.out HE.out (.inl ⟨rfl, rfl⟩)
    clear HDB F4 OF7 TAIL HE HE2
    go_wp2
    exact bodyPost_ret (v := .tuple #[.agg #[.slice a1 q.1.1.length c1, .slice a2 q.1.2.length c2], .int .i64 (-1), .slice (some ⟨g, 0, none⟩) 64 cf]) (by simp [results, Try.results14, go_sem, rb0, rb1]) rfl HTW.out
  have HE2 : Hid (drawB q = (b5 : Int)) := by show _ = _; rw [HDB.out, if_neg h1, if_neg h2]
  have HTW : Hid _ := TAIL.out w7 _ (.slice (some ⟨g, 0, none⟩) 64 cf) _ F4.out OF7.out HE2.out HE.out (.inl ⟨rfl, rfl⟩)
  have n0 : ((m : Int) == 0) = false := beq_eq_false_iff_ne.2 (by omega)
  have n1 : ((m : Int) == 1) = false := beq_eq_false_iff_ne.2 (by omega)
  have n2 : ((m : Int) == 2) = false := beq_eq_false_iff_ne.2 (by omega)
  clear HDB F4 OF7 TAIL HE HE2 h0 h1 h2
  go_wp2
  exact bodyPost_ret (v := .tuple #[.agg #[.slice a1 q.1.1.length c1, .slice a2 q.1.2.length c2], .int .i64 (b5 : Int), .slice (some ⟨g, 0, none⟩) 64 cf]) (by simp [results, Try.results14, go_sem, rb0, rb1]) rfl HTW.out

end Go.Proofs.Ytmgolinleiahpaa

namespace Go.Proofs.Ytmgolinleiahpaa
open Go.RowKit

theorem Rd.range {k : IntKind} {w : World} {b o n cap : Nat} {xs : List Int} (h : Rd k w (.slice (some ⟨b, o, none⟩) n cap) xs) (hl : xs.length = n) (h0 : 0 < n) : b < w.heap.size ∧ w.rangeAt b o (xs.map (Value.int k)) := by
  obtain ⟨b', o', e, hb, -⟩ := h.cellAt hl h0
  injection e with e
  injection e with e1 e2 _
  subst e1; subst e2
  refine ⟨hb, fun j v hv => ?_⟩
  have hj : j < xs.length := by have := (List.getElem?_eq_some_iff.1 hv).1; simpa using this
  obtain ⟨b', o', e, -, hc⟩ := h.cellAt hl (show j < n by omega)
  injection e with e
  injection e with e1 e2 _
  subst e1; subst e2
  rw [hc]
  simp [List.getElem?_eq_getElem hj] at hv
  simp [List.getD, hj, hv]

theorem size_setCells' (b : Nat) : ∀ (vs : List Value) (o : Nat) (w : World), (w.setCells b o vs).heap.size = w.heap.size
  | [], _, _ => rfl
  | v :: r, o, w => by rw [World.setCells, size_setCells' b r]; simp

theorem rangeAt_far {w w' : World} {b o : Nat} {cs : List Value} (h : w.rangeAt b o cs) (hc : w'.heap[b]? = w.heap[b]?) : w'.rangeAt b o cs := fun j v hv => (World.cell?_of_block (w := w) (a := ⟨b, o + j, none⟩) hc).trans (h j v hv)

theorem Own.rdAt {k : IntKind} {e : TypeId} {w : World} {base g n cap : Nat} {xs : List Int} (h : Own k e w base (.slice (some ⟨g, 0, none⟩) n cap) xs) : Rd k w (.slice (some ⟨g, 0, none⟩) n cap) xs := h.rd

set_option maxHeartbeats 2000000 in
set_option maxRecDepth 100000 in
theorem implCrash_loop (w : World) (va vb vc : Option Addr) (dl ca n cb m cc : Nat) (dur : List Int) (ps : List (Int × List Int)) (cs : List Int) (hd : Rd .u8 w (.slice va dl ca) dur) (hdl : dur.length = dl) (hp : RdW w (.slice vb n cb) ps) (hl : ps.length = n)
    (hc : Rd .i64 w (.slice vc m cc) cs) (hcl : cs.length = m) (hv : vldD dl ps = true) (hm : m ≤ 2000) (hd1 : dl ≤ 1048576) (hpd : ∀ i, (pD ps i).length ≤ 1048576) :
    Calls Try.prog 18 #[.agg #[.slice va dl ca, .slice vb n cb], .slice vc m cc] w fun e w' => ∃ v1, e = .returned (.agg #[v1, .slice none 0 0]) ∧ Own .u8 5 w' w.heap.size v1 (stl dur ps (chc cs) n) ∧ Below w.heap.size w w' := by
  have HD : Hid (Rd .u8 w (.slice va dl ca) dur) := hd
  have HP : Hid (RdW w (.slice vb n cb) ps) := hp
  have HC : Hid (Rd .i64 w (.slice vc m cc) cs) := hc
  have HL : Hid (ps.length = n) := hl
  have HDL : Hid (dur.length = dl) := hdl
  have HCL : Hid (cs.length = m) := hcl
  have HV : Hid (vldD dl ps = true) := hv
  have HPD : Hid (∀ i, (pD ps i).length ≤ 1048576) := hpd
  have hdp : 0 < dl := by have := ((vldD_iff dl ps).1 hv).2.1; omega
  have hn2 : n ≤ 2000 := by have := ((vldD_iff dl ps).1 hv).2.2.2.1; omega
  have BA : Hid (∀ o1 o2, Below w.heap.size w ((w.alloc o1).alloc o2)) := fun o1 o2 => ((Below.refl _ _).alloc (Nat.le_refl _) _).alloc (by simp) _
  clear hd hp hl hdl hc hcl hv hpd
  go_enter Try.func18, Try.ntmps18
  go_wp2_with fail
  have XA0 : Hid (BoxF ((w.alloc (.cells #[.slice va dl ca, .slice vb n cb] 32)).alloc (.cells #[.slice none 0 0, .slice none 0 0] 32)) w.heap.size (.slice va dl ca) (.slice vb n cb)) := (BoxF.new w _ _ _).below ((Below.refl _ _).alloc (Nat.le_refl _) _)
  have XR0 : Hid (BoxF ((w.alloc (.cells #[.slice va dl ca, .slice vb n cb] 32)).alloc (.cells #[.slice none 0 0, .slice none 0 0] 32)) (w.heap.size + 1) (.slice none 0 0) (.slice none 0 0)) := by
    have := BoxF.new (w.alloc (.cells #[.slice va dl ca, .slice vb n cb] 32)) (.slice none 0 0) (.slice none 0 0) 32
    show BoxF _ _ _ _
    simpa using this
  have B0 := BA.out (.cells #[.slice va dl ca, .slice vb n cb] 32) (.cells #[.slice none 0 0, .slice none 0 0] 32)
  have HB0 : Hid (Below w.heap.size w ((w.alloc (.cells #[.slice va dl ca, .slice vb n cb] 32)).alloc (.cells #[.slice none 0 0, .slice none 0 0] 32))) := B0
  clear B0 BA
  generalize (w.alloc (.cells #[.slice va dl ca, .slice vb n cb] 32)).alloc (.cells #[.slice none 0 0, .slice none 0 0] 32) = w0 at *
  refine (implValid_any _ va vb dl ca n cb ps (HP.out.below HB0.out) HL.out hd1 (by omega) HPD.out).mono ?_
  rintro e w1 ⟨rfl, b1⟩
  rw [HV.out]
  have HB1 : Hid (Below w.heap.size w w1) := HB0.out.trans (b1.mono HB0.out.size)
  have XA1 : Hid (BoxF w1 w.heap.size (.slice va dl ca) (.slice vb n cb)) := XA0.out.below b1
  have XR1 : Hid (BoxF w1 (w.heap.size + 1) (.slice none 0 0) (.slice none 0 0)) := XR0.out.below b1
  have s1 := HB1.out.size
  clear b1 XA0 XR0 HB0
  obtain ⟨⟨z1, c0, c1⟩, -⟩ := XA1.out
  have t1 : ¬ (2000 : Int) < (m : Int) := by omega
  have t1d : decide ((2000 : Int) < (m : Int)) = false := by simpa using t1
  go_wp2_with fail
  refine (clone_any _ _ dur (HD.out.below HB1.out) (by have := HDL.out; omega)).mono ?_
  rintro e w2 ⟨v2, rfl, o2, b2⟩
  obtain ⟨g, cap, rfl, hg0, hg1⟩ := o2.pos HDL.out hdp
  have XA2 : Hid (BoxF w2 w.heap.size (.slice va dl ca) (.slice vb n cb)) := XA1.out.below b2
  have XR2 : Hid (BoxF w2 (w.heap.size + 1) (.slice none 0 0) (.slice none 0 0)) := XR1.out.below b2
  have HB2 : Hid (Below w.heap.size w w2) := HB1.out.trans (b2.mono s1)
  have O2 : Hid (Own .u8 5 w2 g (.slice (some ⟨g, 0, none⟩) dl cap) dur) := by
    refine ⟨o2.1, ?_⟩
    rcases o2.2 with ⟨h, -⟩ | ⟨g', cap', cur, e, hb, rest⟩
    · simp at h
    · refine .inr ⟨g', cap', cur, e, ?_, rest⟩
      simp only [Value.slice.injEq, Option.some.injEq, Addr.mk.injEq] at e
      obtain ⟨⟨rfl, -⟩, -⟩ := e
      exact Nat.le_refl _
  have zR1 := XR1.out.1.1
  clear b2 o2 XA1 XR1 HB1 c0 c1
  obtain ⟨⟨z2, c0, c1⟩, -⟩ := XA2.out
  go_wp2
  clear c0 c1
  go_loopw [24] (fun i wr => ∃ k : Nat, k ≤ n ∧ i = .int .i64 k ∧ Hid (Own .u8 5 wr g (.slice (some ⟨g, 0, none⟩) dl cap) (stl dur ps (chc cs) k)) ∧ Hid (Below g w2 wr)) (fun i _ => n - (intOf i).toNat)
  case atStart => exact ⟨0, Nat.zero_le _, rfl, O2, Below.refl _ _⟩
  case round =>
    clear O2
    obtain ⟨k, hk, rfl, HO, HG⟩ := hrel
    have hlen : (stl dur ps (chc cs) k).length = dl := by rw [stl_len dur ps _ (by rw [HDL.out]; exact HV.out) k (by rw [HL.out]; exact hk), HDL.out]
    have HLEN : Hid ((stl dur ps (chc cs) k).length = dl) := hlen
    have sg := HG.out.size
    have BW : Hid (Below w.heap.size w wr) := HB2.out.trans (HG.out.mono (by omega))
    clear hlen
    by_cases hlt : k < n
    · obtain ⟨pb, po, rfl, hpb, e1, da, dc, e2, r⟩ := HP.out.recAt HL.out hlt
      obtain ⟨b, hb, hb2, hb3, hd64⟩ := vld_at HV.out k (by rw [HL.out]; exact hlt)
      rw [hb] at e1
      rw [hd64] at e2 r
      have e1' := (BW.out.cell (p := ⟨pb, po + k * 2, none⟩) hpb).trans e1
      have e2' := (BW.out.cell (p := ⟨pb, po + k * 2 + 1, none⟩) hpb).trans e2
      obtain ⟨db, dof, rfl, hdb, -⟩ := r.cellAt hd64 (show 0 < 64 by omega)
      have RU : Hid (w.rangeAt db dof ((pD ps k).map (Value.int .u8))) := (r.range hd64 (by omega)).2
      have HSTL : Hid (stl dur ps (chc cs) (k + 1) = splice (stl dur ps (chc cs) k) (b * 64) ((pD ps k).take (chc cs k))) := by show stl _ _ _ _ = _; rw [stl, hb, Int.toNat_natCast]
      have HD64 : Hid ((pD ps k).length = 64) := hd64
      have hltI : (k : Int) < (n : Int) := by omega
      clear e1 e2 r hb hd64
      go_wp2_with fail
      have BAl : Hid (Below wr.heap.size wr (wr.alloc (.cells #[.int .i64 b, .slice (some ⟨db, dof, none⟩) 64 dc] 42))) := (Below.refl _ _).alloc (Nat.le_refl _) _
      have XB : Hid (Box2 (wr.alloc (.cells #[.int .i64 b, .slice (some ⟨db, dof, none⟩) 64 dc] 42)) wr.heap.size (.int .i64 b) (.slice (some ⟨db, dof, none⟩) 64 dc)) := Box2.new _ _ _ _
      clear e1' e2'
      generalize wr.alloc (.cells #[.int .i64 b, .slice (some ⟨db, dof, none⟩) 64 dc] 42) = w3 at *
      obtain ⟨V, hV⟩ : ∃ V, V = (((stl dur ps (chc cs) k).drop (b * 64)).take 64).map (Value.int .u8) := ⟨_, rfl⟩
      obtain ⟨U, hU⟩ : ∃ U, U = (pD ps k).map (Value.int .u8) := ⟨_, rfl⟩
      obtain ⟨T, hT⟩ : ∃ T, T = (splice (((stl dur ps (chc cs) k).drop (b * 64)).take 64) 0 ((pD ps k).take (chc cs k))).map (Value.int .u8) := ⟨_, rfl⟩
      have HVL : Hid (V.length = 64) := by subst hV; show _ = _; rw [List.length_map, List.length_take, List.length_drop, HLEN.out]; omega
      have HUL : Hid (U.length = 64) := by subst hU; show _ = _; rw [List.length_map, HD64.out]
      have HV1 : Hid (∀ v ∈ V, v.oneCell' = true) := by subst hV; exact ints_oneCell _ _
      have O3 : Hid (Own .u8 5 w3 g (.slice (some ⟨g, 0, none⟩) dl cap) (stl dur ps (chc cs) k)) := HO.out.below BAl.out
      have CB : Calls Try.prog 52 #[.slice (some ⟨g, 0, none⟩) dl cap, .int .i64 b] w3 fun e w' => e = .returned (.agg V.toArray) ∧ Below w3.heap.size w3 w' := by
        rw [hV]; exact blockAt_any w3 g 0 dl cap b _ O3.out.rdAt HLEN.out (by omega) hd1
      rw [← hU] at RU
      have CT : Hid (∀ W, Calls Try.prog 55 #[.agg V.toArray, .agg U.toArray, .int .i64 (chc cs k)] W fun e w' => e = .returned (.agg T.toArray) ∧ Below W.heap.size W w') := by
        intro W
        rw [hV, hU, hT]
        exact tornBlock_any W _ _ _ (by rw [List.length_take, List.length_drop, HLEN.out]; omega) HD64.out (chc_le _ _)
      have CS : Hid (∀ W, Own .u8 5 W g (.slice (some ⟨g, 0, none⟩) dl cap) (stl dur ps (chc cs) k) → Calls Try.prog 54 #[.slice (some ⟨g, 0, none⟩) dl cap, .int .i64 b, .agg T.toArray] W fun e w' => e = .returned (.tuple #[]) ∧ Own .u8 5 w' g (.slice (some ⟨g, 0, none⟩) dl cap) (stl dur ps (chc cs) (k + 1)) ∧ W.grownBy w' (some g)) := by
        intro W hW
        have hsl : (splice (((stl dur ps (chc cs) k).drop (b * 64)).take 64) 0 ((pD ps k).take (chc cs k))).length = 64 := by
          have := chc_le cs k
          rw [length_splice _ _ _ (by rw [List.length_take, List.length_take, List.length_drop, HLEN.out, HD64.out]; omega), List.length_take, List.length_drop, HLEN.out]; omega
        have := setBlock_any W g g dl cap b _ _ hW HLEN.out hsl (by omega) hd1
        rw [hT, HSTL.out]
        rw [splice_torn _ _ _ _ HD64.out (chc_le _ _) (by rw [HLEN.out]; omega)] at this
        exact this
      have CK : Hid (∀ W, Below w.heap.size w W → Calls Try.prog 56 #[.slice vc m cc, .int .i64 k] W fun e w' => e = .returned (.int .i64 (chc cs k)) ∧ w' = W) := fun W hW => keptBytes_any W _ cs k ((HC.out.below hW)) (by omega)
      clear hV hU hT
      generalize chc cs k = ck at *
      refine CB.mono ?_
      rintro e w4 ⟨rfl, b4⟩
      have B4 : Hid (Below w3.heap.size w3 w4) := b4
      clear CB b4
      go_wp2_with (refine wpList_store_mid rfl 77 _ _ rfl w4.heap.size 0 V.toArray rfl rfl ?s1 ?s2 ?s3 ?_)
      case s1 =>
        have e : V.toArray.size = 64 := by rw [List.size_toArray]; exact HVL.out
        rw [e]
        exact there_new _ _ _ _ rfl
      case s2 => rw [List.size_toArray]; exact sizeA _ HVL.out
      case s3 => exact all_oneCell_toArray HV1.out
      generalize hW5 : World.setCells _ _ _ _ = w5
      have B5 : Hid (Below w4.heap.size w4 w5) := by subst hW5; exact below_setCells (Nat.le_refl _) _ _ _ ((Below.refl _ _).alloc (Nat.le_refl _) _)
      have RV : Hid (w5.rangeAt w4.heap.size 0 V) := by
        subst hW5
        exact World.rangeAt_setCells_same _ _ _ _ (there_new _ _ _ _ (by rw [HVL.out]; rfl))
      have s5 : w4.heap.size < w5.heap.size := by
        subst hW5
        have h2 : ∀ cs' : Array Value, ((w4.alloc (.cells cs' 77)).setCells w4.heap.size 0 V).heap.size = w4.heap.size + 1 := fun cs' => by rw [size_setCells', World.size_alloc]
        rw [h2]; omega
      clear hW5
      have s4 := B4.out.size
      have sB := BAl.out.size
      have B35 : Hid (Below w3.heap.size w3 w5) := B4.out.trans (B5.out.mono s4)
      have O5 : Hid (Own .u8 5 w5 g (.slice (some ⟨g, 0, none⟩) dl cap) (stl dur ps (chc cs) k)) := O3.out.below B35.out
      have BWr : Hid (Below wr.heap.size wr w5) := BAl.out.trans (B35.out.mono sB)
      have BW5 : Hid (Below w.heap.size w w5) := BW.out.trans (BWr.out.mono BW.out.size)
      have hgr : g < wr.heap.size := by omega
      have hwz : w.heap.size ≤ w2.heap.size := HB2.out.size
      have S5 : Hid (∀ W : World, (∀ q, q < w5.heap.size → q ≠ g → W.heap[q]? = w5.heap[q]?) → W.cell? ⟨wr.heap.size, 0, none⟩ = some (.int .i64 b) ∧ W.cell? ⟨wr.heap.size, 1, none⟩ = some (.slice (some ⟨db, dof, none⟩) 64 dc) ∧ W.rangeAt w4.heap.size 0 V ∧ W.rangeAt db dof U) := by
        intro W hW
        have X5 := XB.out.below B35.out
        have z3 := XB.out.1
        have h1 := hW wr.heap.size (by omega) (by omega)
        have h2 := hW w4.heap.size (by omega) (by omega)
        have h3 := hW db (by have := BW5.out.size; omega) (by omega)
        exact ⟨(World.cell?_of_block (w := w5) (a := ⟨wr.heap.size, 0, none⟩) h1).trans X5.2.1, (World.cell?_of_block (w := w5) (a := ⟨wr.heap.size, 1, none⟩) h1).trans X5.2.2, rangeAt_far RV.out h2, rangeAt_far RU.out (h3.trans (BW5.out.block db hdb))⟩
      have K5 : Hid (∀ W, Below w5.heap.size w5 W → Own .u8 5 W g (.slice (some ⟨g, 0, none⟩) dl cap) (stl dur ps (chc cs) k)) := fun W hW => O5.out.below hW
      have C86 : Hid (Calls Try.prog 56 #[.slice vc m cc, .int .i64 k] w5.drew fun e w' => e = .returned (.int .i64 ck) ∧ w' = w5.drew) := CK.out _ (BW5.out.trans (below_drewN' w5 1 |>.mono BW5.out.size))
      have C85 : Hid (Calls Try.prog 55 #[.agg V.toArray, .agg U.toArray, .int .i64 ck] w5.drew fun e w' => e = .returned (.agg T.toArray) ∧ w'.cell? ⟨wr.heap.size, 0, none⟩ = some (.int .i64 b) ∧ w'.cell? ⟨wr.heap.size, 1, none⟩ = some (.slice (some ⟨db, dof, none⟩) 64 dc) ∧ w'.rangeAt w4.heap.size 0 V ∧ w'.rangeAt db dof U ∧ Hid (Below w5.heap.size w5 w')) := by
        refine (CT.out w5.drew).mono ?_
        rintro e w' ⟨rfl, b'⟩
        have b2 : Below w5.heap.size w5 w' := (below_drewN' w5 1).trans b'
        obtain ⟨h1, h2, h3, h4⟩ := S5.out w' (fun q hq _ => b2.block q hq)
        exact ⟨rfl, h1, h2, h3, h4, b2⟩
      have C84 : Hid (∀ W, Below w5.heap.size w5 W → Calls Try.prog 54 #[.slice (some ⟨g, 0, none⟩) dl cap, .int .i64 b, .agg T.toArray] W fun e w' => e = .returned (.tuple #[]) ∧ w'.cell? ⟨wr.heap.size, 0, none⟩ = some (.int .i64 b) ∧ w'.cell? ⟨wr.heap.size, 1, none⟩ = some (.slice (some ⟨db, dof, none⟩) 64 dc) ∧ w'.rangeAt w4.heap.size 0 V ∧ w'.rangeAt db dof U ∧
          Hid (Own .u8 5 w' g (.slice (some ⟨g, 0, none⟩) dl cap) (stl dur ps (chc cs) (k + 1))) ∧ Hid (Below g w2 w')) := by
        intro W hW
        refine (CS.out W (K5.out W hW)).mono ?_
        rintro e w' ⟨rfl, o', g'⟩
        have sW := hW.size
        obtain ⟨h1, h2, h3, h4⟩ := S5.out w' (fun q hq hne => (g'.block q (by omega) (by simpa using hne)).trans (hW.block q hq))
        refine ⟨rfl, h1, h2, h3, h4, o', ?_⟩
        have hB : Below g w2 W := (HG.out.trans (BWr.out.mono (by omega))).trans (hW.mono (by omega))
        exact hB.grown g' (by omega) (by intro q hq; simp at hq; omega)
      obtain ⟨k0, k1, k2, k3⟩ := S5.out w5 (fun _ _ _ => rfl)
      have hu := Try.underlying77
      have hi1 : (Try.prog.info? 77).map (·.size) = some V.length := sizeA _ HVL.out
      have hi2 : (Try.prog.info? 77).map (·.size) = some U.length := sizeA _ HUL.out
      have hvl : V.length = 64 := HVL.out
      have hul : U.length = 64 := HUL.out
      have hat : ∀ W, (Instr.arrayAt 77 (.slice (some ⟨db, dof, none⟩) 64 dc)).run Try.prog W = .ok (.pointer (some ⟨db, dof, none⟩)) W := fun W => run_arrayAt W 77 _ 64 _ _ _ Try.underlying77 (Nat.le_refl _)
      clear RU CT CS CK O3 O5 S5 K5 RV HVL HUL HV1 BAl XB
      go_frame
      refine wp_region_held_drew (S := fun w' => w'.cell? ⟨wr.heap.size, 0, none⟩ = some (.int .i64 b) ∧ w'.cell? ⟨wr.heap.size, 1, none⟩ = some (.slice (some ⟨db, dof, none⟩) 64 dc) ∧ w'.rangeAt w4.heap.size 0 V ∧ w'.rangeAt db dof U) (by kernel_rfl) ⟨k0, k1, k2, k3⟩ (fun hHeld => ?_)
      refine wpAnyH_take (i := 0) (v := (.slice (some ⟨g, 0, none⟩) dl cap)) rfl (by kernel_rfl) (by kernel_rfl) (by kernel_rfl) (fun _ _ _ h => h) (Or.inl ⟨by rfl, fun w' hSw => ?_⟩) (by assumption) ?_
      · (try dsimp only at hSw)
        go_simp
      refine wpAnyH_take (i := 1) (v := (.pointer (some ⟨wr.heap.size, 0, none⟩))) rfl (by kernel_rfl) (by kernel_rfl) (by kernel_rfl) (fun _ _ _ h => h) (Or.inl ⟨by rfl, fun w' hSw => ?_⟩) (by assumption) ?_
      · (try dsimp only at hSw)
        go_simp
      refine wpAnyH_take (i := 2) (v := (.int .i64 b)) rfl (by kernel_rfl) (by kernel_rfl) (by kernel_rfl) (fun _ _ _ h => h) (Or.inl ⟨by rfl, fun w' hSw => ?_⟩) (by assumption) ?_
      · (try dsimp only at hSw)
        go_simp
      refine wpAnyH_take (i := 3) (v := .agg (V).toArray) rfl (by kernel_rfl) (by kernel_rfl) (by kernel_rfl) (fun _ _ _ h => h) (yieldsIf_load_mid (by rfl) _ _ rfl _ _ rfl V _ (fun w' hSw => hSw.2.2.1) hu rfl hi1) (by assumption) ?_
      refine wpAnyH_take (i := 4) (v := (.pointer (some ⟨wr.heap.size, 1, none⟩))) rfl (by kernel_rfl) (by kernel_rfl) (by kernel_rfl) (fun _ _ _ h => h) (Or.inl ⟨by rfl, fun w' hSw => ?_⟩) (by assumption) ?_
      · (try dsimp only at hSw)
        go_simp
      refine wpAnyH_take (i := 5) (v := (.slice (some ⟨db, dof, none⟩) 64 dc)) rfl (by kernel_rfl) (by kernel_rfl) (by kernel_rfl) (fun _ _ _ h => h) (Or.inl ⟨by rfl, fun w' hSw => ?_⟩) (by assumption) ?_
      · (try dsimp only at hSw)
        go_simp
      refine wpAnyH_take (i := 6) (v := (.pointer (some ⟨db, dof, none⟩))) rfl (by kernel_rfl) (by kernel_rfl) (by kernel_rfl) (fun _ _ _ h => h) (Or.inl ⟨by rfl, fun w' hSw => ?_⟩) (by assumption) ?_
      · (try dsimp only at hSw)
        go_simp
      refine wpAnyH_take (i := 7) (v := .agg (U).toArray) rfl (by kernel_rfl) (by kernel_rfl) (by kernel_rfl) (fun _ _ _ h => h) (yieldsIf_load_mid (by rfl) _ _ rfl _ _ rfl U _ (fun w' hSw => hSw.2.2.2) hu rfl hi2) (by assumption) ?_
      refine wpAnyH_take (i := 8) (v := (.slice vc m cc)) rfl (by kernel_rfl) (by kernel_rfl) (by kernel_rfl) (fun _ _ _ h => h) (Or.inl ⟨by rfl, fun w' hSw => ?_⟩) (by assumption) ?_
      · (try dsimp only at hSw)
        go_simp
      refine wpAnyH_take (i := 9) (v := (.int .i64 k)) rfl (by kernel_rfl) (by kernel_rfl) (by kernel_rfl) (fun _ _ _ h => h) (Or.inl ⟨by rfl, fun w' hSw => ?_⟩) (by assumption) ?_
      · (try dsimp only at hSw)
        go_simp
      refine wpAnyH_ready (rs := [10]) (by kernel_rfl) (by simp) ?_
      refine AllReadyH.cons rfl (fun K hK => ?_) AllReadyH.nil
      go_simp
      go_at_call 56
      refine C86.out.mono ?_
      rintro e w' ⟨rfl, rfl⟩
      refine hK.out _ _ hHeld (fun _ => ?_)
      clear hK K
      refine wpAnyH_ready (rs := [11]) (by kernel_rfl) (by simp) ?_
      refine AllReadyH.cons rfl (fun K hK => ?_) AllReadyH.nil
      go_simp
      go_at_call 55
      refine C85.out.mono ?_
      rintro e w6 ⟨rfl, j0, j1, j2, j3, B6⟩
      refine hK.out _ _ ⟨j0, j1, j2, j3⟩ (fun hHeld6 => ?_)
      clear hK K hHeld
      refine wpAnyH_ready (rs := [12]) (by kernel_rfl) (by simp) ?_
      refine AllReadyH.cons rfl (fun K hK => ?_) AllReadyH.nil
      go_simp
      go_at_call 54
      refine (C84.out _ B6.out).mono ?_
      rintro e w7 ⟨rfl, l0, l1, l2, l3, O7, B7⟩
      refine hK.out _ _ ⟨l0, l1, l2, l3⟩ (fun hHeld7 => ?_)
      clear hK K hHeld6
      refine wpAnyH_done (by kernel_rfl) ?_ _
      clear j0 j1 j2 j3 l0 l1 l2 l3 hHeld7 k0 k1 k2 k3 hat C86 C85 C84 hu hi1 hi2 hvl hul HO HG
      go_wp2
      go_roundw
      case rel => exact ⟨k + 1, by omega, by go_num, O7, B7⟩
      case measure => simp [intOf]; omega
    · have hkn : k = n := by omega
      subst hkn
      obtain ⟨⟨z5, d0, d1⟩, f0, f1⟩ := XR2.out.belowB HG.out (by omega)
      go_wp2
      refine bodyPost_ret (v := .agg #[.slice (some ⟨g, 0, none⟩) dl cap, .slice none 0 0]) (by simp [results, Try.results18, go_sem, d0, d1]) rfl ⟨_, rfl, ?_, ?_⟩
      · refine Own.mono (base := g) ?_ (by omega)
        repeat (first | exact HO.out | refine Own.setAt ?_ (.inr (by simp [Value.ownBlock]; omega)))
      · repeat (first | exact BW.out | refine Below.setCell ?_ (by simp; try omega) _)

end Go.Proofs.Ytmgolinleiahpaa

namespace Go.Proofs.Ytmgolinleiahpaa
open Go.RowKit

set_option maxHeartbeats 1000000 in
set_option maxRecDepth 100000 in
theorem implCrash_no (w : World) (va vb vc : Option Addr) (dl ca n cb m cc : Nat) (ps : List (Int × List Int)) (hp : RdW w (.slice vb n cb) ps) (hl : ps.length = n)
    (hno : crOk dl ps m = false) (hn : n ≤ 1048576) (hd1 : dl ≤ 1048576) (hpd : ∀ i, (pD ps i).length ≤ 1048576) :
    Calls Try.prog 18 #[.agg #[.slice va dl ca, .slice vb n cb], .slice vc m cc] w fun e w' => e = .returned (.agg #[.slice none 0 0, .slice none 0 0]) ∧ Below w.heap.size w w' := by
  have HP : Hid (RdW w (.slice vb n cb) ps) := hp
  have HL : Hid (ps.length = n) := hl
  have HPD : Hid (∀ i, (pD ps i).length ≤ 1048576) := hpd
  have BA : Hid (∀ o1 o2, Below w.heap.size w ((w.alloc o1).alloc o2)) := fun o1 o2 => ((Below.refl _ _).alloc (Nat.le_refl _) _).alloc (by simp) _
  have HNO : Hid (crOk dl ps m = false) := hno
  clear hp hl hpd hno
  go_enter Try.func18, Try.ntmps18
  go_wp2_with fail
  have XR0 : Hid (BoxF ((w.alloc (.cells #[.slice va dl ca, .slice vb n cb] 32)).alloc (.cells #[.slice none 0 0, .slice none 0 0] 32)) (w.heap.size + 1) (.slice none 0 0) (.slice none 0 0)) := by
    have := BoxF.new (w.alloc (.cells #[.slice va dl ca, .slice vb n cb] 32)) (.slice none 0 0) (.slice none 0 0) 32
    show BoxF _ _ _ _
    simpa using this
  have B0 := BA.out (.cells #[.slice va dl ca, .slice vb n cb] 32) (.cells #[.slice none 0 0, .slice none 0 0] 32)
  have HB0 : Hid (Below w.heap.size w ((w.alloc (.cells #[.slice va dl ca, .slice vb n cb] 32)).alloc (.cells #[.slice none 0 0, .slice none 0 0] 32))) := B0
  clear B0 BA
  generalize (w.alloc (.cells #[.slice va dl ca, .slice vb n cb] 32)).alloc (.cells #[.slice none 0 0, .slice none 0 0] 32) = w0 at *
  refine (implValid_any _ va vb dl ca n cb ps (HP.out.below HB0.out) HL.out hd1 hn HPD.out).mono ?_
  rintro e w1 ⟨rfl, b1⟩
  have HB1 : Hid (Below w.heap.size w w1) := HB0.out.trans (b1.mono HB0.out.size)
  have XR1 : Hid (BoxF w1 (w.heap.size + 1) (.slice none 0 0) (.slice none 0 0)) := XR0.out.below b1
  clear b1 XR0 HB0
  obtain ⟨⟨zr, d0, d1⟩, f0, f1⟩ := XR1.out
  by_cases hv : vldD dl ps = true
  · rw [hv]
    have t1 : (2000 : Int) < (m : Int) := by
      by_cases h : m ≤ 2000
      · have h' : crOk dl ps m = true := by
          unfold crOk
          simp only [Bool.and_eq_true, decide_eq_true_eq]
          exact ⟨hv, h⟩
        rw [HNO.out] at h'
        cases h'
      · omega
    have t1d : decide ((2000 : Int) < (m : Int)) = true := by simpa using t1
    clear hv
    go_wp2
    refine bodyPost_ret (v := .agg #[.slice none 0 0, .slice none 0 0]) (by simp [results, Try.results18, go_sem, d0, d1]) rfl ⟨rfl, ?_⟩
    repeat (first | exact HB1.out | refine Below.setCell ?_ (by simp; try omega) _)
  · have hv' : vldD dl ps = false := by simpa using hv
    rw [hv']
    clear hv hv'
    go_wp2
    refine bodyPost_ret (v := .agg #[.slice none 0 0, .slice none 0 0]) (by simp [results, Try.results18, go_sem, d0, d1]) rfl ⟨rfl, ?_⟩
    repeat (first | exact HB1.out | refine Below.setCell ?_ (by simp; try omega) _)

theorem implCrash_any (w : World) (v1 v2 v3 : Value) (dur : List Int) (ps : List (Int × List Int)) (cs : List Int) (hd : Rd .u8 w v1 dur) (hp : RdW w v2 ps) (hc : Rd .i64 w v3 cs) (hdl : dur.length ≤ 1048576) (hn : ps.length ≤ 1048576) (hpd : ∀ i, (pD ps i).length ≤ 1048576) :
    Calls Try.prog 18 #[.agg #[v1, v2], v3] w fun e w' => ∃ u, e = .returned (.agg #[u, .slice none 0 0]) ∧ Own .u8 5 w' w.heap.size u (crD dur ps cs) ∧ Below w.heap.size w w' := by
  obtain ⟨va, ca, rfl, -⟩ := hd.len
  obtain ⟨vc, cc, rfl, -⟩ := hc.len
  obtain ⟨vb, cb, rfl, -⟩ := id hp
  unfold crD
  cases h : crOk dur.length ps cs.length with
  | true =>
    simp only [if_true]
    unfold crOk at h
    simp only [Bool.and_eq_true, decide_eq_true_eq] at h
    exact implCrash_loop w va vb vc dur.length ca ps.length cb cs.length cc dur ps cs hd rfl hp rfl hc rfl h.1 h.2 hdl hpd
  | false =>
    simp only [Bool.false_eq_true, if_false]
    refine (implCrash_no w va vb vc dur.length ca ps.length cb cs.length cc ps hp rfl h hn hdl hpd).mono ?_
    rintro e w' ⟨rfl, b⟩
    exact ⟨_, rfl, World.ownsRow_nil _ _ _ _, b⟩



end Go.Proofs.Ytmgolinleiahpaa

namespace Go.Proofs.Ytmgolinleiahpaa
open Go.RowKit

theorem wrOk_parts {dl : Nat} {ps : List (Int × List Int)} {x : Int} {m : Nat} (h : wrOk dl ps x m = true) : vldD dl ps = true ∧ ps.length < 2000 ∧ 0 ≤ x ∧ x < ((dl / 64 : Nat) : Int) ∧ m = 64 := by
  unfold wrOk at h
  simp only [Bool.and_eq_true, decide_eq_true_eq] at h
  exact ⟨h.1.1.1, h.1.1.2, h.1.2.1, h.1.2.2, h.2⟩
theorem vld_snoc {dl : Nat} {ps : List (Int × List Int)} {x : Int} {xs : List Int} (h : wrOk dl ps x xs.length = true) : vldD dl (ps ++ [(x, xs)]) = true := by
  obtain ⟨h1, h2, h3, h4, h5⟩ := wrOk_parts h
  rw [vldD_iff] at h1 ⊢
  obtain ⟨k1, k2, k3, k4, k5⟩ := h1
  refine ⟨k1, k2, k3, by simp; omega, fun i hi => ?_⟩
  simp only [List.length_append, List.length_cons, List.length_nil] at hi
  by_cases e : i < ps.length
  · unfold okP; rw [pB_app _ _ _ e, pD_app _ _ _ e]; exact k5 i e
  · have e2 : i = ps.length := by omega
    subst e2
    unfold okP
    rw [pB_last, pD_last]
    exact ⟨h3, h4, h5⟩
theorem rdv_snoc (dur : List Int) (ps : List (Int × List Int)) (b : Nat) (xs : List Int) : rdv dur (ps ++ [((b : Int), xs)]) b (ps.length + 1) = xs := by
  unfold rdv
  rw [if_pos (pB_last _ _), pD_last]
theorem rd_written {dur : List Int} {ps : List (Int × List Int)} {x : Int} {xs : List Int} (h : wrOk dur.length ps x xs.length = true) : rdA dur (ps ++ [(x, xs)]) x = xs := by
  obtain ⟨h1, h2, h3, h4, h5⟩ := wrOk_parts h
  unfold rdA rdOk
  rw [vld_snoc h]
  rw [if_pos (by simp; exact ⟨h3, by omega⟩)]
  obtain ⟨b, rfl⟩ : ∃ b : Nat, x = (b : Int) := ⟨x.toNat, by omega⟩
  rw [Int.toNat_natCast, List.length_append]
  exact rdv_snoc dur ps b xs
theorem vld_len {dl : Nat} {ps : List (Int × List Int)} (h : vldD dl ps = true) : vldD dl [] = true ∧ 64 ≤ dl := by
  rw [vldD_iff] at h
  obtain ⟨k1, k2, k3, k4, k5⟩ := h
  refine ⟨?_, by omega⟩
  rw [vldD_iff]
  exact ⟨k1, k2, k3, by simp, fun i hi => by simp at hi⟩
theorem crD_nil {dur : List Int} {cs : List Int} (h : vldD dur.length [] = true) (hc : cs.length ≤ 2000) : crD dur [] cs = dur := by
  unfold crD crOk
  rw [h]
  rw [if_pos (by simpa using hc)]
  rfl
theorem rd_synced {dur : List Int} {ps : List (Int × List Int)} {x : Int} {xs cs : List Int} (h : wrOk dur.length ps x xs.length = true) (hc : cs.length ≤ 2000) : rdA (crD (syD dur (ps ++ [(x, xs)])) [] cs) [] x = xs := by
  obtain ⟨h1, h2, h3, h4, h5⟩ := wrOk_parts h
  have hv := vld_snoc h
  have hs : syD dur (ps ++ [(x, xs)]) = stl dur (ps ++ [(x, xs)]) (fun _ => 64) (ps ++ [(x, xs)]).length := by unfold syD; rw [if_pos hv]
  have hl := stl_len dur (ps ++ [(x, xs)]) (fun _ => 64) hv _ (Nat.le_refl _)
  rw [hs, crD_nil (by rw [hl]; exact (vld_len h1).1) hc]
  unfold rdA rdOk
  rw [hl, (vld_len h1).1]
  rw [if_pos (by simp; exact ⟨h3, by omega⟩)]
  obtain ⟨b, rfl⟩ : ∃ b : Nat, x = (b : Int) := ⟨x.toNat, by omega⟩
  rw [Int.toNat_natCast]
  show blk (stl dur (ps ++ [((b : Int), xs)]) (fun _ => 64) (ps ++ [((b : Int), xs)]).length) b = xs
  rw [stl_blk dur _ hv b _ (Nat.le_refl _), List.length_append]
  exact rdv_snoc dur ps b xs
/-- A block that nothing is written to stays as it is. -/
theorem blk_part (D V : List Int) (c b : Nat) (hV : V.length ≤ 64) (hc : c * 64 + 64 ≤ D.length) (hne : b ≠ c) : blk (splice D (c * 64) V) b = blk D b := by
  apply List.ext_getElem?
  intro j
  rw [blk_get, blk_get]
  by_cases hj : j < 64
  · rw [if_pos hj, if_pos hj, splice_get _ _ _ (by omega)]
    have : ¬ (c * 64 ≤ b * 64 + j ∧ b * 64 + j < c * 64 + V.length) := by
      intro ⟨p1, p2⟩
      omega
    split
    · rfl
    · split
      · exact absurd ⟨by omega, by assumption⟩ this
      · rfl
  · rw [if_neg hj, if_neg hj]
theorem stl_calm (dur : List Int) (ps : List (Int × List Int)) (c : Nat → Nat) (hv : vldD dur.length ps = true) (b : Nat) (hb : ∀ i, i < ps.length → pB ps i ≠ (b : Int)) : ∀ k, k ≤ ps.length → blk (stl dur ps c k) b = blk dur b
  | 0, _ => rfl
  | k + 1, hk => by
    unfold stl
    obtain ⟨b2, e1, e2, e3, e4⟩ := vld_at hv k (by omega)
    have hl := stl_len dur ps c hv k (by omega)
    rw [e1, Int.toNat_natCast, blk_part _ _ _ _ (by rw [List.length_take]; omega) (by rw [hl]; exact e2) (fun e => hb k (by omega) (by rw [e1, e]))]
    exact stl_calm dur ps c hv b hb k (by omega)
theorem rdv_calm (dur : List Int) (ps : List (Int × List Int)) (b : Nat) : ∀ k, (∀ i, i < k → pB ps i ≠ (b : Int)) → rdv dur ps b k = blk dur b
  | 0, _ => rfl
  | k + 1, h => by
    unfold rdv
    rw [if_neg (h k (Nat.lt_succ_self _))]
    exact rdv_calm dur ps b k (fun i hi => h i (by omega))
theorem crD_all {dur : List Int} {ps : List (Int × List Int)} {cs : List Int} (hv : vldD dur.length ps = true) (hc : cs.length ≤ 2000) : crD dur ps cs = stl dur ps (chc cs) ps.length ∧ (crD dur ps cs).length = dur.length := by
  have e : crD dur ps cs = stl dur ps (chc cs) ps.length := by
    unfold crD crOk
    rw [hv, if_pos (by simpa using hc)]
  exact ⟨e, by rw [e]; exact stl_len dur ps _ hv _ (Nat.le_refl _)⟩
theorem rd_calm {dur : List Int} {ps : List (Int × List Int)} {x : Int} {xs cs : List Int} (h : wrOk dur.length ps x xs.length = true) (hc : cs.length ≤ 2000) (o : Nat) (ho : o < dur.length / 64) (hx : x ≠ (o : Int)) (hp : ∀ i, i < ps.length → pB ps i ≠ (o : Int)) :
    rdA (crD dur (ps ++ [(x, xs)]) cs) [] (o : Int) = rdA dur ps (o : Int) := by
  obtain ⟨h1, h2, h3, h4, h5⟩ := wrOk_parts h
  have hv := vld_snoc h
  obtain ⟨e, hl⟩ := crD_all (cs := cs) hv hc
  have hp2 : ∀ i, i < (ps ++ [(x, xs)]).length → pB (ps ++ [(x, xs)]) i ≠ (o : Int) := by
    intro i hi
    simp only [List.length_append, List.length_cons, List.length_nil] at hi
    by_cases e : i < ps.length
    · rw [pB_app _ _ _ e]; exact hp i e
    · rw [show i = ps.length by omega, pB_last]; exact hx
  unfold rdA rdOk
  rw [hl, (vld_len h1).1, h1]
  rw [if_pos (by simp; omega), if_pos (by simp; omega), Int.toNat_natCast]
  show blk (crD dur (ps ++ [(x, xs)]) cs) o = _
  rw [e, stl_calm dur _ _ hv o hp2 _ (Nat.le_refl _), rdv_calm dur ps o _ hp]

end Go.Proofs.Ytmgolinleiahpaa

namespace Go.Proofs.Ytmgolinleiahpaa
open Go.RowKit

def lw (xs : List Int) (i n : Nat) : Nat := if n ≤ 1 then 0 else if xs.length = 0 then i * 7 % n else ((xs.getD (i % xs.length) 0).toNat + i / xs.length) % n
theorem lw_lt (xs : List Int) (i n : Nat) (h : 1 ≤ n) : lw xs i n < n := by
  unfold lw
  by_cases h1 : n ≤ 1
  · rw [if_pos h1]; omega
  · rw [if_neg h1]
    split
    · exact Nat.mod_lt _ (by omega)
    · exact Nat.mod_lt _ (by omega)

set_option maxHeartbeats 400000 in
set_option maxRecDepth 100000 in
theorem lwAt_row (w : World) (b o m cap : Nat) (i n x : Nat) (hm : 0 < m) (hm1 : m ≤ 1099511627776) (hx : x < 256) (hc : w.cell? ⟨b, o + i % m, none⟩ = some (.int .u8 (x : Int))) (hi : i ≤ 1099511627776) (hn : 1 < n) (hn1 : n ≤ 1099511627776) :
    Calls Try.prog 58 #[.slice (some ⟨b, o, none⟩) m cap, .int .i64 i, .int .i64 n] w fun e w' => e = .returned (.int .i64 (((x + i / m) % n : Nat) : Int)) ∧ ∃ q, w' = w.drewN q := by
  have h1 : ¬ (n : Int) ≤ 1 := by omega
  have h2 : ((m : Int) == 0) = false := beq_eq_false_iff_ne.2 (by omega)
  have h3 : i % m < m := Nat.mod_lt _ hm
  have h4 : (i : Int) % (m : Int) = ((i % m : Nat) : Int) := by omega
  have h5 : (i : Int) / (m : Int) = ((i / m : Nat) : Int) := by omega
  have h6 : i / m ≤ i := Nat.div_le_self _ _
  generalize i % m = a at *
  generalize i / m = d at *
  have h7 : ((m : Int) == 0) = false := h2
  have h8 : ((n : Int) == 0) = false := beq_eq_false_iff_ne.2 (by omega)
  go_enter Try.func58, Try.ntmps58
  go_wp2
  go_quiet (fail)
  go_wp2
  go_ret
  exact ⟨ret_int (by rw [Int.natCast_emod, Int.natCast_add]), _, rfl⟩

set_option maxHeartbeats 400000 in
theorem lwAt_one (w : World) (v : Value) (i n : Nat) (hn : n ≤ 1) :
    Calls Try.prog 58 #[v, .int .i64 i, .int .i64 n] w fun e w' => e = .returned (.int .i64 0) ∧ w' = w := by
  have h1 : (n : Int) ≤ 1 := by omega
  go_enter Try.func58, Try.ntmps58
  go_wp2
  go_ret
  exact ⟨rfl, rfl⟩

set_option maxHeartbeats 400000 in
theorem lwAt_nil (w : World) (ao : Option Addr) (cap i n : Nat) (hn : 1 < n) (hn1 : n ≤ 1099511627776) (hi : i ≤ 1099511627776) :
    Calls Try.prog 58 #[.slice ao 0 cap, .int .i64 i, .int .i64 n] w fun e w' => e = .returned (.int .i64 ((i * 7 % n : Nat) : Int)) ∧ w' = w := by
  have h1 : ¬ (n : Int) ≤ 1 := by omega
  have h8 : ((n : Int) == 0) = false := beq_eq_false_iff_ne.2 (by omega)
  go_enter Try.func58, Try.ntmps58
  go_wp2
  go_ret
  exact ⟨rfl, rfl⟩

theorem lwAt_any (w : World) (v : Value) (xs : List Int) (i n : Nat) (h : Rd .u8 w v xs) (hby : ∀ x ∈ xs, 0 ≤ x ∧ x < 256) (hl : xs.length ≤ 1099511627776) (hi : i ≤ 1099511627776) (hn1 : n ≤ 1099511627776) :
    Calls Try.prog 58 #[v, .int .i64 i, .int .i64 n] w fun e w' => e = .returned (.int .i64 ((lw xs i n : Nat) : Int)) ∧ ∃ q, w' = w.drewN q := by
  unfold lw
  by_cases h1 : n ≤ 1
  · rw [if_pos h1]
    refine (lwAt_one w v i n h1).mono ?_
    rintro e w' ⟨rfl, rfl⟩
    exact ⟨rfl, 0, rfl⟩
  · rw [if_neg h1]
    obtain ⟨ao, cap, rfl, k1, k2, k3⟩ := h
    rcases k3 with rfl | ⟨b, o, rfl, hb, hc⟩
    · rw [if_pos (show ([] : List Int).length = 0 from rfl)]
      refine (lwAt_nil w ao cap i n (by omega) hn1 hi).mono ?_
      rintro e w' ⟨rfl, rfl⟩
      exact ⟨rfl, 0, rfl⟩
    · by_cases h0 : xs.length = 0
      · rw [if_pos h0, h0]
        refine (lwAt_nil w _ cap i n (by omega) hn1 hi).mono ?_
        rintro e w' ⟨rfl, rfl⟩
        exact ⟨rfl, 0, rfl⟩
      · rw [if_neg h0]
        have hlt : i % xs.length < xs.length := Nat.mod_lt _ (by omega)
        have hx := hby _ (List.getElem_mem hlt)
        have e : xs.getD (i % xs.length) 0 = (((xs.getD (i % xs.length) 0).toNat : Nat) : Int) := by
          simp only [List.getD, List.getElem?_eq_getElem hlt, Option.getD_some]; omega
        have hc' := hc _ hlt
        rw [e] at hc'
        exact lwAt_row w b o xs.length cap i n _ (by omega) hl (by simp only [List.getD, List.getElem?_eq_getElem hlt, Option.getD_some]; omega) hc' hi (by omega) hn1

end Go.Proofs.Ytmgolinleiahpaa

namespace Go.Proofs.Ytmgolinleiahpaa
open Go.RowKit

set_option maxHeartbeats 1000000 in
set_option maxRecDepth 100000 in
theorem choices_any (w : World) (v : Value) (ys : List Int) (i : Nat) (h : Rd .u8 w v ys) (hby : Byt ys) (hl : ys.length ≤ 1048576) (hi : i ≤ 1000) :
    Calls Try.prog 20 #[v, .int .i64 (i : Int)] w fun e w' => ∃ u cs, e = .returned u ∧ Own .i64 2 w' w.heap.size u cs ∧ cs.length = 6 ∧ Below w.heap.size w w' := by
  obtain ⟨i0, hi0, hz0, hz1, hz2⟩ := info_parts Try.infoI
  obtain ⟨ao, ca, rfl, -, -⟩ := h.len
  have HR : Hid (Rd .u8 w (.slice ao ys.length ca) ys) := h
  have HBY : Hid (Byt ys) := hby
  clear h hby
  go_enter Try.func20, Try.ntmps20
  go_wp2
  go_loopw [5, 6] (fun v k wr => ∃ (j : Nat) (cs : List Int), j ≤ 6 ∧ k = .int .i64 (j : Int) ∧ Hid (cs.length = j) ∧ Hid (wr.ownsRow w.heap.size 2 1 v j (cs.map (Value.int .i64))) ∧ Hid (Below w.heap.size w wr)) (fun _ k _ => 6 - (intOf k).toNat)
  case atStart => exact ⟨0, [], Nat.zero_le _, rfl, rfl, World.ownsRow_lit w #[] 0 (Nat.le_refl _) (Nat.zero_le _) rfl, (Below.refl _ _).alloc (Nat.le_refl _) _⟩
  case round =>
    obtain ⟨j, cs, hj, rfl, HL, HO, HG⟩ := hrel
    by_cases hlt : j < 6
    · have hltI : (j : Int) < 6 := by omega
      have hik : ((i + j : Nat) : Int) = (i : Int) + (j : Int) := by omega
      have HL2 := lwAt_any wr _ ys (i + j) 70 (HR.out.below HG.out) HBY.out (by omega) (by omega) (by omega)
      have hq := lw_lt ys (i + j) 70 (by omega)
      generalize lw ys (i + j) 70 = q at *
      rw [hik] at HL2
      have HL3 : Hid (Calls Try.prog 58 #[.slice ao ys.length ca, .int .i64 ((i : Int) + (j : Int)), .int .i64 70] wr fun e w' => e = .returned (.int .i64 (q : Int)) ∧ ∃ q, w' = wr.drewN q) := HL2
      clear HL2 hik
      go_wp2_with fail
      refine HL3.out.mono ?_
      rintro e w1 ⟨rfl, k1, rfl⟩
      have HO1 : Hid ((wr.drewN k1).ownsRow w.heap.size 2 1 u5 j (cs.map (Value.int .i64))) := World.ownsRow.kept HO.out (row := none) ⟨rfl, rfl, rfl, Nat.le_refl _, fun _ _ _ => rfl⟩ (by cases u5.ownBlock with | none => exact .inl rfl | some g => exact .inr (by simp))
      have HG1 : Hid (Below w.heap.size w (wr.drewN k1)) := HG.out.trans ((below_drewN' wr k1).mono HG.out.size)
      clear HO HG HL3
      generalize wr.drewN k1 = w1 at *
      go_wp2_with (at_builtin; go_must (refine wpList_append_own _ rfl _ _ 39 rfl w.heap.size 2 i0 (.int .i64 0) 1 8 Try.underlying39 hi0 hz0 hz1 hz2 rfl (by decide) _ _ _ rfl (HO1.out.alloc _) ⟨w1.heap.size, 0, none⟩ 1 1 [.int .i64 ((q : Int) - 2)] rfl rfl (cell_one_new _ _ _) (by intro u hu; simp at hu; subst hu; rfl) ?c3 ?c4 ?c5 ?_))
      case c3 => unfold maxLen; omega
      case c4 => omega
      case c5 => have := HG1.out.size; simp; omega
      intro v2 w2 ho2 hg2 _
      have HO2 : Hid (w2.ownsRow w.heap.size 2 1 v2 (j + 1) ((cs ++ [(q : Int) - 2]).map (Value.int .i64))) := by
        show World.ownsRow _ _ _ _ _ _ _; rw [List.map_append]; exact ho2
      have HG2 : Hid (Below w.heap.size w w2) := (HG1.out.alloc (HG1.out.size) _).grown hg2 (by have := HG1.out.size; simp; omega) (fun q hq => (HO1.out.lt q hq).1)
      have HL4 : Hid ((cs ++ [(q : Int) - 2]).length = j + 1) := by show _ = _; rw [List.length_append, HL.out]; rfl
      clear ho2 hg2 HO1 HG1
      go_wp2
      exact ⟨⟨j + 1, _, by omega, by go_num, HL4, HO2, HG2⟩, by simp [intOf]; omega⟩
    · have hjn : j = 6 := by omega
      subst hjn
      go_wp2
      go_ret
      exact ⟨_, cs, rfl, own_of HL.out rfl HO.out, HL.out, HG.out⟩

end Go.Proofs.Ytmgolinleiahpaa

