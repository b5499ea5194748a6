import Derived.Test.YtoljmlhnbmeloaaAreaS
import Derived.Test.YtoljmlhnbmeloaaAreaI
import Derived.Test.YtoljmlhnbmeloaaLWrite0
namespace Go.Proofs.Ytoljmlhnbmeloaa
open Go.RowKit

set_option maxHeartbeats 1000000 in
set_option maxRecDepth 100000 in
theorem toConfig_any (w : World) (S L : Int) :
    Calls Try.prog 33 #[.agg #[.int .i64 S, .int .i64 L]] w fun e w' => e = .returned (.agg #[.int .i64 S, .int .i64 L]) ∧ Below w.heap.size w w' := by
  have BA : Hid (∀ o1 o2 o3, Below w.heap.size w (((w.alloc o1).alloc o2).alloc o3)) := fun o1 o2 o3 => (((Below.refl _ _).alloc (Nat.le_refl _) _).alloc (by simp) _).alloc (by simp; omega) _
  go_enter Try.func33, Try.ntmps33
  go_wp2
  refine bodyPost_ret (v := .agg #[.int .i64 S, .int .i64 L]) (by simp [results, Try.results33, go_sem]) rfl ⟨rfl, ?_⟩
  repeat (first | exact BA.out _ _ _ | refine Below.setCell ?_ (by simp) _)

/-- The arguments' boxes, and one box more. -/
def Fit2S (w : World) (ao bo : Option Addr) (dl ca n cb : Nat) (S L : Int) (b : Nat) (x y : Value) (W : World) : Prop := FitS w ao bo dl ca n cb S L W ∧ W.cell? ⟨b, 0, none⟩ = some x ∧ W.cell? ⟨b, 1, none⟩ = some y
theorem Fit2S.mk {w : World} {ao bo : Option Addr} {dl ca n cb : Nat} {S L : Int} {b : Nat} {x y : Value} {W : World} (h : FitS w ao bo dl ca n cb S L W) (hb : Box2 W b x y) : Fit2S w ao bo dl ca n cb S L b x y W := ⟨h, hb.2.1, hb.2.2⟩

theorem arA_length {dur : List Int} {ps : List (Int × List Int)} {S L bank : Int} {log : Bool} (hl : dur.length ≤ 1048576) : (arA dur ps S L bank log).length ≤ 1048576 := by
  unfold arA arN
  split
  · rw [List.length_take, List.length_drop]
    have := syD_len dur ps
    omega
  · simp

theorem Within.ownO {lo hi : Nat} {a b : World} (h : Within lo hi a b) {B : Nat} {v : Value} {xs : List Int} (ho : OwnO a B v xs) (hv : ∀ g, v.ownBlock = some g → g < lo ∨ hi ≤ g) : OwnO b B v xs := by
  rcases ho with ho | ⟨g, o, cap, N, C, ys, rfl, ho, r⟩
  · exact .inl ho
  · exact .inr ⟨g, o, cap, N, C, ys, rfl, h.own ho (fun g' hg' => hv g' hg'), r⟩

set_option linter.unusedSimpArgs false in
set_option maxHeartbeats 3000000 in
set_option maxRecDepth 100000 in
theorem lawArea_walk (w : World) (vd vp : Value) (dur : List Int) (ps : List (Int × List Int)) (h : InD w vd vp dur ps) (S L bank : Int) (log : Bool) :
    Calls Try.prog 8 #[.agg #[vd, vp], .agg #[.int .i64 S, .int .i64 L], .int .i64 bank, .bool log] w fun e w' => e = .returned (.bool true) ∧ Below w.heap.size w w' := by
  obtain ⟨hr, hp, _, _⟩ := h
  obtain ⟨ao, ca, rfl, _, _⟩ := hr.len
  obtain ⟨bo, cb, rfl, _, _⟩ := hp.len
  have B0 : Hid (Below w.heap.size w ((w.alloc (.cells #[.slice ao dur.length ca, .slice bo ps.length cb] 46)).alloc (.cells #[.int .i64 S, .int .i64 L] 57))) := ((Below.refl _ _).alloc (Nat.le_refl _) _).alloc (by simp) _
  have X0 : Hid (Box2 ((w.alloc (.cells #[.slice ao dur.length ca, .slice bo ps.length cb] 46)).alloc (.cells #[.int .i64 S, .int .i64 L] 57)) w.heap.size (.slice ao dur.length ca) (.slice bo ps.length cb)) := (Box2.new _ _ _ _).below ((Below.refl _ _).alloc (Nat.le_refl _) _)
  have XC0 : Hid (Box2 ((w.alloc (.cells #[.slice ao dur.length ca, .slice bo ps.length cb] 46)).alloc (.cells #[.int .i64 S, .int .i64 L] 57)) (w.heap.size + 1) (.int .i64 S) (.int .i64 L)) := by
    have := Box2.new (w.alloc (.cells #[.slice ao dur.length ca, .slice bo ps.length cb] 46)) (.int .i64 S) (.int .i64 L) 57
    show Box2 _ _ _ _
    simpa using this
  have HR : Hid (Rd .u8 w (.slice ao dur.length ca) dur) := hr
  have HP : Hid (RdW w (.slice bo ps.length cb) ps) := hp
  clear hr hp
  go_enter Try.func8, Try.ntmps8
  go_wp2_with fail
  generalize (w.alloc (.cells #[.slice ao dur.length ca, .slice bo ps.length cb] 46)).alloc (.cells #[.int .i64 S, .int .i64 L] 57) = w0 at *
  refine (szDisk_any _ _ _ dur ps (HR.out.below B0.out) (HP.out.below B0.out)).mono ?_
  rintro e w1 ⟨r, rfl, hsz, b1⟩
  have B1 : Hid (Below w.heap.size w w1) := B0.out.trans (b1.mono B0.out.size)
  have X1 : Hid (Box2 w1 w.heap.size (.slice ao dur.length ca) (.slice bo ps.length cb)) := X0.out.below b1
  have XC1 : Hid (Box2 w1 (w.heap.size + 1) (.int .i64 S) (.int .i64 L)) := XC0.out.below b1
  clear b1 X0 XC0 B0
  by_cases hneg : r < 0
  · clear hsz
    go_wp2
    go_ret
    exact ⟨rfl, B1.out⟩
  · have hsz' : r + dur.length + ps.length + tot ps = 1048576 := by omega
    have hl : dur.length ≤ 1048576 := by omega
    have hn : ps.length ≤ 1048576 := by omega
    have ht : Hid (tot ps ≤ 1048576) := by show _ ≤ _; omega
    have hd : Hid (∀ i, (pD ps i).length ≤ 1048576) := fun i => by have := tot_ge ps i; omega
    clear hsz hsz'
    obtain ⟨z1, c0, c1⟩ := X1.out
    go_wp2_with fail
    have hRl : (arA dur ps S L bank log).length ≤ 1048576 := arA_length hl
    have HS : Hid (∀ (W : World) (v1 v2 : Value), Rd .u8 W v1 dur → RdW W v2 ps → Calls Try.prog 32 #[.agg #[v1, v2], .agg #[.int .i64 S, .int .i64 L], .int .i64 bank, .bool log] W fun e w' => ∃ v', e = .returned v' ∧ Own .u8 5 w' W.heap.size v' (arA dur ps S L bank log) ∧ Below W.heap.size W w') := fun W v1 v2 h1 h2 => specArea_any W v1 v2 dur ps S L bank log h1 h2 hl hn hd.out
    have HI : Hid (∀ (W : World) (v1 v2 : Value), Rd .u8 W v1 dur → RdW W v2 ps → Calls Try.prog 34 #[.agg #[v1, v2], .agg #[.int .i64 S, .int .i64 L], .int .i64 bank, .bool log] W fun e w' => ∃ v', e = .returned v' ∧ OwnO w' W.heap.size v' (arA dur ps S L bank log) ∧ Below W.heap.size W w') := fun W v1 v2 h1 h2 => implArea_any W v1 v2 dur ps S L bank log h1 h2 hl hn hd.out
    generalize arA dur ps S L bank log = R at *
    have bP : Below w1.heap.size w1 w1.drew := below_drewN' w1 1
    have BP : Hid (Below w.heap.size w w1.drew) := B1.out.trans (bP.mono B1.out.size)
    have XAP : Hid (Box2 w1.drew w.heap.size (.slice ao dur.length ca) (.slice bo ps.length cb)) := X1.out.below bP
    have XCP : Hid (Box2 w1.drew (w.heap.size + 1) (.int .i64 S) (.int .i64 L)) := XC1.out.below bP
    refine wp_region_held_drew (S := FitS w ao bo dur.length ca ps.length cb S L) (by kernel_rfl) (FitS.mk BP.out XAP.out XCP.out) (fun hHeld => ?_)
    have sP : w1.heap.size ≤ w1.drew.heap.size := bP.size
    clear bP
    generalize w1.drew = p1 at *
    refine wpAnyH_take (i := 0) (oi := { dst := some 22, op := _, type := _, pos := _, after := _, guard := _ }) (v := ?v1) rfl (by kernel_rfl) (by kernel_rfl) (by kernel_rfl) (fun _ _ _ h => h) (Or.inl ⟨by rfl, ?hy1⟩) (by assumption) ?rest1
    case hy1 =>
      intro w9 hS9
      obtain ⟨-, k0, k1, k2, k3⟩ := hS9
      go_simp
      try with_reducible rfl
    try simp only [Act.put, List.setIfInBounds_toArray, List.set_cons_zero, List.set_cons_succ]
    refine wpAnyH_take (i := 2) (oi := { dst := some 24, op := _, type := _, pos := _, after := _, guard := _ }) (v := ?v2) rfl (by kernel_rfl) (by kernel_rfl) (by kernel_rfl) (fun _ _ _ h => h) (Or.inl ⟨by rfl, ?hy2⟩) (by assumption) ?rest2
    case hy2 =>
      intro w9 hS9
      obtain ⟨-, k0, k1, k2, k3⟩ := hS9
      go_simp
      try with_reducible rfl
    try simp only [Act.put, List.setIfInBounds_toArray, List.set_cons_zero, List.set_cons_succ]
    refine wpAnyH_take (i := 4) (oi := { dst := some 26, op := _, type := _, pos := _, after := _, guard := _ }) (v := ?v3) rfl (by kernel_rfl) (by kernel_rfl) (by kernel_rfl) (fun _ _ _ h => h) (Or.inl ⟨by rfl, ?hy3⟩) (by assumption) ?rest3
    case hy3 =>
      intro w9 hS9
      obtain ⟨-, k0, k1, k2, k3⟩ := hS9
      go_simp
      try with_reducible rfl
    try simp only [Act.put, List.setIfInBounds_toArray, List.set_cons_zero, List.set_cons_succ]
    refine wpAnyH_take (i := 5) (oi := { dst := some 27, op := _, type := _, pos := _, after := _, guard := _ }) (v := ?v4) rfl (by kernel_rfl) (by kernel_rfl) (by kernel_rfl) (fun _ _ _ h => h) (Or.inl ⟨by rfl, ?hy4⟩) (by assumption) ?rest4
    case hy4 =>
      intro w9 hS9
      obtain ⟨-, k0, k1, k2, k3⟩ := hS9
      go_simp
      try with_reducible rfl
    try simp only [Act.put, List.setIfInBounds_toArray, List.set_cons_zero, List.set_cons_succ]
    refine wpAnyH_ready (rs := [1]) (by kernel_rfl) (by simp) ?_
    refine AllReadyH.cons (o := { dst := some 23, op := _, type := _, pos := _, after := _, guard := _ }) rfl (fun K hK => ?_) AllReadyH.nil
    go_simp
    refine (toDisk_ownD _ _ _ dur ps (HR.out.below BP.out) (HP.out.below BP.out) hl hn hd.out).mono ?_
    rintro e w2 ⟨ta, tc, tb, te, td, rfl, o2, b2⟩
    have B2 : Hid (Below w.heap.size w w2) := BP.out.trans (b2.mono BP.out.size)
    have XA2 : Hid (Box2 w2 w.heap.size (.slice ao dur.length ca) (.slice bo ps.length cb)) := XAP.out.below b2
    have XC2 : Hid (Box2 w2 (w.heap.size + 1) (.int .i64 S) (.int .i64 L)) := XCP.out.below b2
    have T2 : Hid (OwnD w2 p1.heap.size w2.heap.size (.slice ta dur.length tc) (.slice tb ps.length te) dur ps td) := o2
    have s2 := B2.out.size
    clear o2 b2 X1 XC1 XAP XCP BP B1 z1 c0 c1
    refine hK.out _ _ (FitS.mk B2.out XA2.out XC2.out) (fun hx9 => ?_)
    clear hK K hHeld hx9
    have hHeld := FitS.mk B2.out XA2.out XC2.out
    try simp only [Act.put, List.setIfInBounds_toArray, List.set_cons_zero, List.set_cons_succ]
    refine wpAnyH_ready (rs := [3]) (by kernel_rfl) (by simp) ?_
    refine AllReadyH.cons (o := { dst := some 25, op := _, type := _, pos := _, after := _, guard := _ }) rfl (fun K hK => ?_) AllReadyH.nil
    go_simp
    refine (toConfig_any _ S L).mono ?_
    rintro e wc ⟨rfl, bc⟩
    have sc := bc.size
    have Bc : Hid (Below w.heap.size w wc) := B2.out.trans (bc.mono s2)
    have XAc : Hid (Box2 wc w.heap.size (.slice ao dur.length ca) (.slice bo ps.length cb)) := XA2.out.below bc
    have XCc : Hid (Box2 wc (w.heap.size + 1) (.int .i64 S) (.int .i64 L)) := XC2.out.below bc
    have Tc : Hid (OwnD wc p1.heap.size w2.heap.size (.slice ta dur.length tc) (.slice tb ps.length te) dur ps td) := T2.out.below bc
    clear bc
    refine hK.out _ _ (FitS.mk Bc.out XAc.out XCc.out) (fun hx9 => ?_)
    clear hK K hHeld hx9
    have hHeld := FitS.mk Bc.out XAc.out XCc.out
    try simp only [Act.put, List.setIfInBounds_toArray, List.set_cons_zero, List.set_cons_succ]
    refine wpAnyH_ready (rs := [6]) (by kernel_rfl) (by simp) ?_
    refine AllReadyH.cons (o := { dst := some 28, op := _, type := _, pos := _, after := _, guard := _ }) rfl (fun K hK => ?_) AllReadyH.nil
    go_simp
    refine (HS.out _ _ _ Tc.out.d.rd Tc.out.p.rd).mono ?_
    rintro e w3 ⟨sv, rfl, o3', b3⟩
    have o3 := o3'.mono sc
    have s3 : w2.heap.size ≤ w3.heap.size := Nat.le_trans sc b3.size
    have B3 : Hid (Below w.heap.size w w3) := Bc.out.trans (b3.mono (by omega))
    have XA3 : Hid (Box2 w3 w.heap.size (.slice ao dur.length ca) (.slice bo ps.length cb)) := XAc.out.below b3
    have XC3 : Hid (Box2 w3 (w.heap.size + 1) (.int .i64 S) (.int .i64 L)) := XCc.out.below b3
    have S3 : Hid (Own .u8 5 w3 w2.heap.size sv R) := o3
    have LS : Hid (∀ g, sv.ownBlock = some g → g < w3.heap.size) := fun g hg => (S3.out.lt g hg).2
    have zA3 : w.heap.size + 1 < w3.heap.size := XC3.out.1
    clear o3 o3' b3 XA2 XC2 T2 B2 XAc XCc Tc Bc sc
    refine hK.out _ _ (FitS.mk B3.out XA3.out XC3.out) (fun hx9 => ?_)
    clear hK K hHeld hx9
    have hHeld := FitS.mk B3.out XA3.out XC3.out
    try simp only [Act.put, List.setIfInBounds_toArray, List.set_cons_zero, List.set_cons_succ]
    refine wpAnyH_take (i := 7) (oi := { dst := some 10, op := _, type := _, pos := _, after := _, guard := _ }) (v := ?v5) rfl (by kernel_rfl) (by kernel_rfl) (by kernel_rfl) (fun _ _ _ h => h) (Or.inl ⟨by rfl, ?hy5⟩) (by assumption) ?rest5
    case hy5 =>
      intro w9 hS9
      obtain ⟨-, k0, k1, k2, k3⟩ := hS9
      go_simp
      try with_reducible rfl
    try simp only [Act.put, List.setIfInBounds_toArray, List.set_cons_zero, List.set_cons_succ]
    refine wpAnyH_done (by kernel_rfl) ?_ _
    clear hHeld
    obtain ⟨z1, c0, c1⟩ := XA3.out
    go_wp2_with fail
    refine (toDisk_ownD _ _ _ dur ps (HR.out.below B3.out) (HP.out.below B3.out) hl hn hd.out).mono ?_
    rintro e w4 ⟨xa, xc, xb, xe, xd, rfl, o4, b4⟩
    have s4 := b4.size
    have B4 : Hid (Below w.heap.size w w4) := B3.out.trans (b4.mono (by omega))
    have XA4 : Hid (Box2 w4 w.heap.size (.slice ao dur.length ca) (.slice bo ps.length cb)) := XA3.out.below b4
    have XC4 : Hid (Box2 w4 (w.heap.size + 1) (.int .i64 S) (.int .i64 L)) := XC3.out.below b4
    have S4 : Hid (Own .u8 5 w4 w2.heap.size sv R) := S3.out.below b4
    have X4 : Hid (OwnD w4 w3.heap.size w4.heap.size (.slice xa dur.length xc) (.slice xb ps.length xe) dur ps xd) := o4
    clear o4 b4 XA3 XC3 S3 B3 z1 c0 c1
    obtain ⟨z1, c0, c1⟩ := XA4.out
    go_wp2_with fail
    have BA5 : Hid (Below w4.heap.size w4 (w4.alloc (.cells #[(.slice xa dur.length xc), (.slice xb ps.length xe)] 32))) := (Below.refl _ _).alloc (Nat.le_refl _) _
    have XX5 : Hid (Box2 (w4.alloc (.cells #[(.slice xa dur.length xc), (.slice xb ps.length xe)] 32)) w4.heap.size (.slice xa dur.length xc) (.slice xb ps.length xe)) := Box2.new _ _ _ _
    have z5 : w4.heap.size < (w4.alloc (.cells #[(.slice xa dur.length xc), (.slice xb ps.length xe)] 32)).heap.size := by simp
    generalize w4.alloc (.cells #[(.slice xa dur.length xc), (.slice xb ps.length xe)] 32) = w5 at *
    have B5 : Hid (Below w.heap.size w w5) := B4.out.trans (BA5.out.mono (by omega))
    have XA5 : Hid (Box2 w5 w.heap.size (.slice ao dur.length ca) (.slice bo ps.length cb)) := XA4.out.below BA5.out
    have XC5 : Hid (Box2 w5 (w.heap.size + 1) (.int .i64 S) (.int .i64 L)) := XC4.out.below BA5.out
    have S5 : Hid (Own .u8 5 w5 w2.heap.size sv R) := S4.out.below BA5.out
    have X5 : Hid (OwnD w5 w3.heap.size w4.heap.size (.slice xa dur.length xc) (.slice xb ps.length xe) dur ps xd) := X4.out.below BA5.out
    clear BA5 XA4 XC4 S4 X4 B4 z1 c0 c1
    go_wp2_with fail
    have bP : Below w5.heap.size w5 w5.drew := below_drewN' w5 1
    have BP : Hid (Below w.heap.size w w5.drew) := B5.out.trans (bP.mono B5.out.size)
    have XAP : Hid (Box2 w5.drew w.heap.size (.slice ao dur.length ca) (.slice bo ps.length cb)) := XA5.out.below bP
    have XCP : Hid (Box2 w5.drew (w.heap.size + 1) (.int .i64 S) (.int .i64 L)) := XC5.out.below bP
    have S5P : Hid (Own .u8 5 w5.drew w2.heap.size sv R) := S5.out.below bP
    have X5P : Hid (OwnD w5.drew w3.heap.size w4.heap.size (.slice xa dur.length xc) (.slice xb ps.length xe) dur ps xd) := X5.out.below bP
    have XXP : Hid (Box2 w5.drew w4.heap.size (.slice xa dur.length xc) (.slice xb ps.length xe)) := XX5.out.below bP
    refine wp_region_held_drew (S := Fit2S w ao bo dur.length ca ps.length cb S L w4.heap.size (.slice xa dur.length xc) (.slice xb ps.length xe)) (by kernel_rfl) (Fit2S.mk (FitS.mk BP.out XAP.out XCP.out) XXP.out) (fun hHeld => ?_)
    have sP : w5.heap.size ≤ w5.drew.heap.size := bP.size
    clear bP
    generalize w5.drew = p5 at *
    refine wpAnyH_take (i := 0) (oi := { dst := some 31, op := _, type := _, pos := _, after := _, guard := _ }) (v := ?v6) rfl (by kernel_rfl) (by kernel_rfl) (by kernel_rfl) (fun _ _ _ h => h) (Or.inl ⟨by rfl, ?hy6⟩) (by assumption) ?rest6
    case hy6 =>
      intro w9 hS9
      obtain ⟨⟨-, k0, k1, k2, k3⟩, k4, k5⟩ := hS9
      go_simp
      try with_reducible rfl
    try simp only [Act.put, List.setIfInBounds_toArray, List.set_cons_zero, List.set_cons_succ]
    refine wpAnyH_take (i := 1) (oi := { dst := some 32, op := _, type := _, pos := _, after := _, guard := _ }) (v := ?v7) rfl (by kernel_rfl) (by kernel_rfl) (by kernel_rfl) (fun _ _ _ h => h) (Or.inl ⟨by rfl, ?hy7⟩) (by assumption) ?rest7
    case hy7 =>
      intro w9 hS9
      obtain ⟨⟨-, k0, k1, k2, k3⟩, k4, k5⟩ := hS9
      go_simp
      try with_reducible rfl
    try simp only [Act.put, List.setIfInBounds_toArray, List.set_cons_zero, List.set_cons_succ]
    refine wpAnyH_take (i := 3) (oi := { dst := some 34, op := _, type := _, pos := _, after := _, guard := _ }) (v := ?v8) rfl (by kernel_rfl) (by kernel_rfl) (by kernel_rfl) (fun _ _ _ h => h) (Or.inl ⟨by rfl, ?hy8⟩) (by assumption) ?rest8
    case hy8 =>
      intro w9 hS9
      obtain ⟨⟨-, k0, k1, k2, k3⟩, k4, k5⟩ := hS9
      go_simp
      try with_reducible rfl
    try simp only [Act.put, List.setIfInBounds_toArray, List.set_cons_zero, List.set_cons_succ]
    refine wpAnyH_take (i := 4) (oi := { dst := some 35, op := _, type := _, pos := _, after := _, guard := _ }) (v := ?v9) rfl (by kernel_rfl) (by kernel_rfl) (by kernel_rfl) (fun _ _ _ h => h) (Or.inl ⟨by rfl, ?hy9⟩) (by assumption) ?rest9
    case hy9 =>
      intro w9 hS9
      obtain ⟨⟨-, k0, k1, k2, k3⟩, k4, k5⟩ := hS9
      go_simp
      try with_reducible rfl
    try simp only [Act.put, List.setIfInBounds_toArray, List.set_cons_zero, List.set_cons_succ]
    refine wpAnyH_ready (rs := [2]) (by kernel_rfl) (by simp) ?_
    refine AllReadyH.cons (o := { dst := some 33, op := _, type := _, pos := _, after := _, guard := _ }) rfl (fun K hK => ?_) AllReadyH.nil
    go_simp
    refine (toConfig_any _ S L).mono ?_
    rintro e wc ⟨rfl, bc⟩
    have sc := bc.size
    have Bc : Hid (Below p5.heap.size p5 wc) := bc
    have X5c : Hid (OwnD wc w3.heap.size w4.heap.size (.slice xa dur.length xc) (.slice xb ps.length xe) dur ps xd) := X5P.out.below bc
    have XX5c : Hid (Box2 wc w4.heap.size (.slice xa dur.length xc) (.slice xb ps.length xe)) := XXP.out.below bc
    have Fc : Hid (FitS w ao bo dur.length ca ps.length cb S L wc) := (FitS.mk BP.out XAP.out XCP.out).below bc
    clear bc
    refine hK.out _ _ (Fit2S.mk Fc.out XX5c.out) (fun hx9 => ?_)
    clear hK K hHeld hx9
    have hHeld := Fit2S.mk Fc.out XX5c.out
    try simp only [Act.put, List.setIfInBounds_toArray, List.set_cons_zero, List.set_cons_succ]
    refine wpAnyH_ready (rs := [5]) (by kernel_rfl) (by simp) ?_
    refine AllReadyH.cons (o := { dst := some 36, op := _, type := _, pos := _, after := _, guard := _ }) rfl (fun K hK => ?_) AllReadyH.nil
    go_simp
    refine (HI.out _ _ _ X5c.out.d.rd X5c.out.p.rd).mono ?_
    rintro e w6 ⟨gv, rfl, o6', b6'⟩
    have o6 := o6'.mono sc
    have b6 : Below p5.heap.size p5 w6 := Bc.out.trans (b6'.mono sc)
    have s6 := b6.size
    have B6 : Hid (Below w.heap.size w w6) := BP.out.trans (b6.mono BP.out.size)
    have XA6 : Hid (Box2 w6 w.heap.size (.slice ao dur.length ca) (.slice bo ps.length cb)) := XAP.out.below b6
    have XC6 : Hid (Box2 w6 (w.heap.size + 1) (.int .i64 S) (.int .i64 L)) := XCP.out.below b6
    have S6 : Hid (Own .u8 5 w6 w2.heap.size sv R) := S5P.out.below b6
    have X6 : Hid (OwnD w6 w3.heap.size w4.heap.size (.slice xa dur.length xc) (.slice xb ps.length xe) dur ps xd) := X5P.out.below b6
    have XX6 : Hid (Box2 w6 w4.heap.size (.slice xa dur.length xc) (.slice xb ps.length xe)) := XXP.out.below b6
    have G6 : Hid (OwnO w6 w5.heap.size gv R) := o6.mono sP
    have LG : Hid (∀ g, gv.ownBlock = some g → g < w6.heap.size) := fun g hg => (G6.out.lt g hg).2
    clear o6 o6' b6' b6 X5c XX5c Fc Bc sc XAP XCP BP S5P X5P XXP XA5 XC5 S5 X5 XX5 B5
    refine hK.out _ _ (Fit2S.mk (FitS.mk B6.out XA6.out XC6.out) XX6.out) (fun hx9 => ?_)
    clear hK K hHeld hx9
    have hHeld := Fit2S.mk (FitS.mk B6.out XA6.out XC6.out) XX6.out
    try simp only [Act.put, List.setIfInBounds_toArray, List.set_cons_zero, List.set_cons_succ]
    refine wpAnyH_take (i := 6) (oi := { dst := some 12, op := _, type := _, pos := _, after := _, guard := _ }) (v := ?v10) rfl (by kernel_rfl) (by kernel_rfl) (by kernel_rfl) (fun _ _ _ h => h) (Or.inl ⟨by rfl, ?hy10⟩) (by assumption) ?rest10
    case hy10 =>
      intro w9 hS9
      obtain ⟨⟨-, k0, k1, k2, k3⟩, k4, k5⟩ := hS9
      go_simp
      try with_reducible rfl
    try simp only [Act.put, List.setIfInBounds_toArray, List.set_cons_zero, List.set_cons_succ]
    refine wpAnyH_done (by kernel_rfl) ?_ _
    clear hHeld
    go_wp2_with fail
    refine (eqByteS_any _ _ _ R R G6.out.rd S6.out.rd).mono ?_
    rintro e w7 ⟨rfl, q7, hw7⟩
    rw [show decide (R = R) = true by simp]
    have b7 : Below w6.heap.size w6 w7 := by rw [hw7]; exact below_drewN' w6 q7
    have s7 := b7.size
    have B7 : Hid (Below w.heap.size w w7) := B6.out.trans (b7.mono (by omega))
    have XA7 : Hid (Box2 w7 w.heap.size (.slice ao dur.length ca) (.slice bo ps.length cb)) := XA6.out.below b7
    have XC7 : Hid (Box2 w7 (w.heap.size + 1) (.int .i64 S) (.int .i64 L)) := XC6.out.below b7
    have S7 : Hid (Own .u8 5 w7 w2.heap.size sv R) := S6.out.below b7
    have X7 : Hid (OwnD w7 w3.heap.size w4.heap.size (.slice xa dur.length xc) (.slice xb ps.length xe) dur ps xd) := X6.out.below b7
    have XX7 : Hid (Box2 w7 w4.heap.size (.slice xa dur.length xc) (.slice xb ps.length xe)) := XX6.out.below b7
    have G7 : Hid (OwnO w7 w5.heap.size gv R) := G6.out.below b7
    clear hw7 b7
    clear XA6 XC6 S6 X6 XX6 G6 B6
    go_wp2_with fail
    have bP : Below w7.heap.size w7 w7.drew := below_drewN' w7 1
    have BP : Hid (Below w.heap.size w w7.drew) := B7.out.trans (bP.mono B7.out.size)
    have XAP : Hid (Box2 w7.drew w.heap.size (.slice ao dur.length ca) (.slice bo ps.length cb)) := XA7.out.below bP
    have XCP : Hid (Box2 w7.drew (w.heap.size + 1) (.int .i64 S) (.int .i64 L)) := XC7.out.below bP
    have XXP : Hid (Box2 w7.drew w4.heap.size (.slice xa dur.length xc) (.slice xb ps.length xe)) := XX7.out.below bP
    have bP7 : Hid (Below w7.heap.size w7 w7.drew) := bP
    refine wp_region_held_drew (S := Fit2S w ao bo dur.length ca ps.length cb S L w4.heap.size (.slice xa dur.length xc) (.slice xb ps.length xe)) (by kernel_rfl) (Fit2S.mk (FitS.mk BP.out XAP.out XCP.out) XXP.out) (fun hHeld => ?_)
    have sP : w7.heap.size ≤ w7.drew.heap.size := bP.size
    clear bP
    generalize w7.drew = p7 at *
    refine wpAnyH_take (i := 0) (oi := { dst := some 41, op := _, type := _, pos := _, after := _, guard := _ }) (v := ?v11) rfl (by kernel_rfl) (by kernel_rfl) (by kernel_rfl) (fun _ _ _ h => h) (Or.inl ⟨by rfl, ?hy11⟩) (by assumption) ?rest11
    case hy11 =>
      intro w9 hS9
      obtain ⟨⟨-, k0, k1, k2, k3⟩, k4, k5⟩ := hS9
      go_simp
      try with_reducible rfl
    try simp only [Act.put, List.setIfInBounds_toArray, List.set_cons_zero, List.set_cons_succ]
    refine wpAnyH_take (i := 1) (oi := { dst := some 42, op := _, type := _, pos := _, after := _, guard := _ }) (v := ?v12) rfl (by kernel_rfl) (by kernel_rfl) (by kernel_rfl) (fun _ _ _ h => h) (Or.inl ⟨by rfl, ?hy12⟩) (by assumption) ?rest12
    case hy12 =>
      intro w9 hS9
      obtain ⟨⟨-, k0, k1, k2, k3⟩, k4, k5⟩ := hS9
      go_simp
      try with_reducible rfl
    try simp only [Act.put, List.setIfInBounds_toArray, List.set_cons_zero, List.set_cons_succ]
    refine wpAnyH_ready (rs := [2]) (by kernel_rfl) (by simp) ?_
    refine AllReadyH.cons (o := { dst := some 43, op := _, type := _, pos := _, after := _, guard := _ }) rfl (fun K hK => ?_) AllReadyH.nil
    go_simp
    refine (toDisk_any _ _ _ dur ps (HR.out.below BP.out) (HP.out.below BP.out) hl hn hd.out).mono ?_
    rintro e wd ⟨va, ka, vb, kb, dv, mid, rfl, od, -, qd, -, bd⟩
    have rd1 := od.rd
    have rd2 := qd.rd
    have rd3 := X7.out.d.rd.below (bP7.out.trans (bd.mono bP7.out.size))
    have rd4 := X7.out.p.rd.below (bP7.out.trans (bd.mono bP7.out.size))
    have HR1 : Hid (Rd .u8 wd (.slice va dur.length ka) dur) := rd1
    have HR2 : Hid (RdW wd (.slice vb ps.length kb) ps) := rd2
    have HR3 : Hid (Rd .u8 wd (.slice xa dur.length xc) dur) := rd3
    have HR4 : Hid (RdW wd (.slice xb ps.length xe) ps) := rd4
    have Bd : Hid (Below p7.heap.size p7 wd) := bd
    have Fd : Hid (Fit2S w ao bo dur.length ca ps.length cb S L w4.heap.size (.slice xa dur.length xc) (.slice xb ps.length xe) wd) := Fit2S.mk ((FitS.mk BP.out XAP.out XCP.out).below bd) (XXP.out.below bd)
    clear bd rd1 rd2 rd3 rd4 od qd
    refine hK.out _ _ (Fd.out) (fun hx9 => ?_)
    clear hK K hHeld hx9
    have hHeld := Fd.out
    try simp only [Act.put, List.setIfInBounds_toArray, List.set_cons_zero, List.set_cons_succ]
    refine wpAnyH_ready (rs := [3]) (by kernel_rfl) (by simp) ?_
    refine AllReadyH.cons (o := { dst := some 44, op := _, type := _, pos := _, after := _, guard := _ }) rfl (fun K hK => ?_) AllReadyH.nil
    go_simp
    refine (eqDisk_any _ _ _ _ _ dur dur ps ps HR3.out HR1.out HR4.out HR2.out hn).mono ?_
    rintro e w8 ⟨rfl, b8⟩
    rw [show decide (dur = dur ∧ ps = ps) = true by simp]
    have bb : Below w7.heap.size w7 w8 := (bP7.out.trans (Bd.out.mono bP7.out.size)).trans (b8.mono (Nat.le_trans bP7.out.size Bd.out.size))
    have F8 : Hid (Fit2S w ao bo dur.length ca ps.length cb S L w4.heap.size (.slice xa dur.length xc) (.slice xb ps.length xe) w8) := Fit2S.mk (Fd.out.1.below b8) (XX7.out.below bb)
    clear Fd Bd HR1 HR2 HR3 HR4 b8
    refine hK.out _ _ (F8.out) (fun hx9 => ?_)
    clear hK K hHeld hx9
    have hHeld := F8.out
    try simp only [Act.put, List.setIfInBounds_toArray, List.set_cons_zero, List.set_cons_succ]
    refine wpAnyH_take (i := 4) (oi := { dst := some 45, op := _, type := _, pos := _, after := _, guard := _ }) (v := ?v13) rfl (by kernel_rfl) (by kernel_rfl) (by kernel_rfl) (fun _ _ _ h => h) (Or.inl ⟨by rfl, ?hy13⟩) (by assumption) ?rest13
    case hy13 =>
      intro w9 hS9
      obtain ⟨⟨-, k0, k1, k2, k3⟩, k4, k5⟩ := hS9
      go_simp
      try with_reducible rfl
    try simp only [Act.put, List.setIfInBounds_toArray, List.set_cons_zero, List.set_cons_succ]
    refine wpAnyH_done (by kernel_rfl) ?_ _
    clear hHeld
    all_goals
      have s8 := bb.size
      have B8 : Hid (Below w.heap.size w w8) := B7.out.trans (bb.mono (by omega))
      have XA8 : Hid (Box2 w8 w.heap.size (.slice ao dur.length ca) (.slice bo ps.length cb)) := XA7.out.below bb
      have XC8 : Hid (Box2 w8 (w.heap.size + 1) (.int .i64 S) (.int .i64 L)) := XC7.out.below bb
      have S8 : Hid (Own .u8 5 w8 w2.heap.size sv R) := S7.out.below bb
      have X8 : Hid (OwnD w8 w3.heap.size w4.heap.size (.slice xa dur.length xc) (.slice xb ps.length xe) dur ps xd) := X7.out.below bb
      have XX8 : Hid (Box2 w8 w4.heap.size (.slice xa dur.length xc) (.slice xb ps.length xe)) := XX7.out.below bb
      have G8 : Hid (OwnO w8 w5.heap.size gv R) := G7.out.below bb
      clear bb F8 BP XAP XCP XXP bP7
      clear XA7 XC7 S7 X7 XX7 G7 B7
      obtain ⟨z1, c0, c1⟩ := XX8.out
      go_wp2_with fail
      refine (markDisk_any _ _ _ _ _ dur ps xd 1 X8.out (by omega) (by omega) (by omega) hl hn ht.out).mono ?_
      rintro e w9 ⟨rfl, o9, n9⟩
      have s9 := n9.size
      have B9 : Hid (Below w.heap.size w w9) := Within.below B8.out n9 (by omega) (by omega)
      have S9 : Hid (Own .u8 5 w9 w2.heap.size sv R) := n9.own S8.out (fun g hg => by have := LS.out g hg; omega)
      have G9 : Hid (OwnO w9 w5.heap.size gv R) := n9.ownO G8.out (fun g hg => by have := (G8.out.lt g hg).1; omega)
      have XA9 : Hid (Box2 w9 w.heap.size (.slice ao dur.length ca) (.slice bo ps.length cb)) := n9.box2 XA8.out (.inl (by omega))
      have XC9 : Hid (Box2 w9 (w.heap.size + 1) (.int .i64 S) (.int .i64 L)) := n9.box2 XC8.out (.inl (by omega))
      have hK0 : (0 : Int) ≤ ks ps (1 + (dur.length : Int)) ps.length ∧ ks ps (1 + (dur.length : Int)) ps.length ≤ 4194304 := by
        have := tot_le ps ps.length; have := ht.out; unfold ks; omega
      generalize ks ps (1 + (dur.length : Int)) ps.length = K1 at *
      obtain ⟨hK1, hK2⟩ := hK0
      clear o9 n9 z1 c0 c1
      clear XA8 XC8 S8 X8 XX8 G8 B8
      have hk0 : ¬ K1 < 0 := by omega
      have hk0d : decide (K1 < 0) = false := by simp; omega
      go_wp2_with fail
      refine (eqByteS_any _ _ _ R R G9.out.rd S9.out.rd).mono ?_
      rintro e w10 ⟨rfl, q10, hw10⟩
      rw [show decide (R = R) = true by simp]
      have b10 : Below w9.heap.size w9 w10 := by rw [hw10]; exact below_drewN' w9 q10
      have s10 := b10.size
      have B10 : Hid (Below w.heap.size w w10) := B9.out.trans (b10.mono (by omega))
      have XA10 : Hid (Box2 w10 w.heap.size (.slice ao dur.length ca) (.slice bo ps.length cb)) := XA9.out.below b10
      have XC10 : Hid (Box2 w10 (w.heap.size + 1) (.int .i64 S) (.int .i64 L)) := XC9.out.below b10
      have S10 : Hid (Own .u8 5 w10 w2.heap.size sv R) := S9.out.below b10
      have G10 : Hid (OwnO w10 w5.heap.size gv R) := G9.out.below b10
      clear hw10 b10 hk0 hk0d hK1 hK2
      clear XA9 XC9 S9 G9 B9
      go_wp2_with fail
      refine (markByteS_offA _ _ _ R 1 G10.out (by omega) (by omega) (by omega)).mono ?_
      rintro e w11 ⟨rfl, o11, g11⟩
      have n11 : Within w5.heap.size w6.heap.size w10 w11 := Within.of_grown g11 (fun g hg => ⟨(G10.out.lt g hg).1, LG.out g hg⟩)
      have s11 := n11.size
      have B11 : Hid (Below w.heap.size w w11) := Within.below B10.out n11 (by omega) (by omega)
      have S11 : Hid (Own .u8 5 w11 w2.heap.size sv R) := n11.own S10.out (fun g hg => by have := LS.out g hg; omega)
      have XA11 : Hid (Box2 w11 w.heap.size (.slice ao dur.length ca) (.slice bo ps.length cb)) := n11.box2 XA10.out (.inl (by omega))
      have XC11 : Hid (Box2 w11 (w.heap.size + 1) (.int .i64 S) (.int .i64 L)) := n11.box2 XC10.out (.inl (by omega))
      have M11 : Hid (Rd .u8 w11 gv (marks 1 R.length)) := o11.rd
      clear o11 g11 n11
      clear XA10 XC10 S10 G10 B10
      have hq0 : ¬ (1 + (R.length : Int)) < 0 := by omega
      go_wp2_with fail
      refine (heldByteS_any _ _ R.length 1 M11.out (by omega) (by omega) (by omega)).mono ?_
      rintro e w12 ⟨rfl, hw12⟩
      have b12 : Below w11.heap.size w11 w12 := by rw [hw12]; exact Below.refl _ _
      have s12 := b12.size
      have B12 : Hid (Below w.heap.size w w12) := B11.out.trans (b12.mono (by omega))
      have XA12 : Hid (Box2 w12 w.heap.size (.slice ao dur.length ca) (.slice bo ps.length cb)) := XA11.out.below b12
      have XC12 : Hid (Box2 w12 (w.heap.size + 1) (.int .i64 S) (.int .i64 L)) := XC11.out.below b12
      have S12 : Hid (Own .u8 5 w12 w2.heap.size sv R) := S11.out.below b12
      clear hw12 b12 M11
      clear XA11 XC11 S11 B11
      obtain ⟨z1, c0, c1⟩ := XA12.out
      go_wp2_with fail
      have bP : Below w12.heap.size w12 w12.drew := below_drewN' w12 1
      have BP : Hid (Below w.heap.size w w12.drew) := B12.out.trans (bP.mono B12.out.size)
      have XAP : Hid (Box2 w12.drew w.heap.size (.slice ao dur.length ca) (.slice bo ps.length cb)) := XA12.out.below bP
      have XCP : Hid (Box2 w12.drew (w.heap.size + 1) (.int .i64 S) (.int .i64 L)) := XC12.out.below bP
      have S12P : Hid (Own .u8 5 w12.drew w2.heap.size sv R) := S12.out.below bP
      refine wp_region_held_drew (S := FitS w ao bo dur.length ca ps.length cb S L) (by kernel_rfl) (FitS.mk BP.out XAP.out XCP.out) (fun hHeld => ?_)
      have sP : w12.heap.size ≤ w12.drew.heap.size := bP.size
      clear bP
      generalize w12.drew = p12 at *
      refine wpAnyH_take (i := 0) (oi := { dst := some 68, op := _, type := _, pos := _, after := _, guard := _ }) (v := ?v14) rfl (by kernel_rfl) (by kernel_rfl) (by kernel_rfl) (fun _ _ _ h => h) (Or.inl ⟨by rfl, ?hy14⟩) (by assumption) ?rest14
      case hy14 =>
        intro w9 hS9
        obtain ⟨-, k0, k1, k2, k3⟩ := hS9
        go_simp
        try with_reducible rfl
      try simp only [Act.put, List.setIfInBounds_toArray, List.set_cons_zero, List.set_cons_succ]
      refine wpAnyH_take (i := 2) (oi := { dst := some 70, op := _, type := _, pos := _, after := _, guard := _ }) (v := ?v15) rfl (by kernel_rfl) (by kernel_rfl) (by kernel_rfl) (fun _ _ _ h => h) (Or.inl ⟨by rfl, ?hy15⟩) (by assumption) ?rest15
      case hy15 =>
        intro w9 hS9
        obtain ⟨-, k0, k1, k2, k3⟩ := hS9
        go_simp
        try with_reducible rfl
      try simp only [Act.put, List.setIfInBounds_toArray, List.set_cons_zero, List.set_cons_succ]
      refine wpAnyH_take (i := 4) (oi := { dst := some 72, op := _, type := _, pos := _, after := _, guard := _ }) (v := ?v16) rfl (by kernel_rfl) (by kernel_rfl) (by kernel_rfl) (fun _ _ _ h => h) (Or.inl ⟨by rfl, ?hy16⟩) (by assumption) ?rest16
      case hy16 =>
        intro w9 hS9
        obtain ⟨-, k0, k1, k2, k3⟩ := hS9
        go_simp
        try with_reducible rfl
      try simp only [Act.put, List.setIfInBounds_toArray, List.set_cons_zero, List.set_cons_succ]
      refine wpAnyH_take (i := 5) (oi := { dst := some 73, op := _, type := _, pos := _, after := _, guard := _ }) (v := ?v17) rfl (by kernel_rfl) (by kernel_rfl) (by kernel_rfl) (fun _ _ _ h => h) (Or.inl ⟨by rfl, ?hy17⟩) (by assumption) ?rest17
      case hy17 =>
        intro w9 hS9
        obtain ⟨-, k0, k1, k2, k3⟩ := hS9
        go_simp
        try with_reducible rfl
      try simp only [Act.put, List.setIfInBounds_toArray, List.set_cons_zero, List.set_cons_succ]
      refine wpAnyH_ready (rs := [1]) (by kernel_rfl) (by simp) ?_
      refine AllReadyH.cons (o := { dst := some 69, op := _, type := _, pos := _, after := _, guard := _ }) rfl (fun K hK => ?_) AllReadyH.nil
      go_simp
      refine (toDisk_ownD _ _ _ dur ps (HR.out.below BP.out) (HP.out.below BP.out) hl hn hd.out).mono ?_
      rintro e w13 ⟨ya, yc, yb, ye, yd, rfl, o13, b13⟩
      have s13 := b13.size
      have B13 : Hid (Below w.heap.size w w13) := BP.out.trans (b13.mono BP.out.size)
      have XA13 : Hid (Box2 w13 w.heap.size (.slice ao dur.length ca) (.slice bo ps.length cb)) := XAP.out.below b13
      have XC13 : Hid (Box2 w13 (w.heap.size + 1) (.int .i64 S) (.int .i64 L)) := XCP.out.below b13
      have S13 : Hid (Own .u8 5 w13 w2.heap.size sv R) := S12P.out.below b13
      have Y13 : Hid (OwnD w13 p12.heap.size w13.heap.size (.slice ya dur.length yc) (.slice yb ps.length ye) dur ps yd) := o13
      clear o13 b13 z1 c0 c1 S12 XA12 XC12 B12 XAP XCP BP S12P
      refine hK.out _ _ (FitS.mk B13.out XA13.out XC13.out) (fun hx9 => ?_)
      clear hK K hHeld hx9
      have hHeld := FitS.mk B13.out XA13.out XC13.out
      try simp only [Act.put, List.setIfInBounds_toArray, List.set_cons_zero, List.set_cons_succ]
      refine wpAnyH_ready (rs := [3]) (by kernel_rfl) (by simp) ?_
      refine AllReadyH.cons (o := { dst := some 71, op := _, type := _, pos := _, after := _, guard := _ }) rfl (fun K hK => ?_) AllReadyH.nil
      go_simp
      refine (toConfig_any _ S L).mono ?_
      rintro e wc ⟨rfl, bc⟩
      have sc := bc.size
      have Bc : Hid (Below w13.heap.size w13 wc) := bc
      have Fc : Hid (FitS w ao bo dur.length ca ps.length cb S L wc) := (FitS.mk B13.out XA13.out XC13.out).below bc
      have Yc : Hid (OwnD wc p12.heap.size w13.heap.size (.slice ya dur.length yc) (.slice yb ps.length ye) dur ps yd) := Y13.out.below bc
      clear bc
      refine hK.out _ _ (Fc.out) (fun hx9 => ?_)
      clear hK K hHeld hx9
      have hHeld := Fc.out
      try simp only [Act.put, List.setIfInBounds_toArray, List.set_cons_zero, List.set_cons_succ]
      refine wpAnyH_ready (rs := [6]) (by kernel_rfl) (by simp) ?_
      refine AllReadyH.cons (o := { dst := some 74, op := _, type := _, pos := _, after := _, guard := _ }) rfl (fun K hK => ?_) AllReadyH.nil
      go_simp
      refine (HI.out _ _ _ Yc.out.d.rd Yc.out.p.rd).mono ?_
      rintro e w14 ⟨hv, rfl, o14, b14'⟩
      have F14 : Hid (FitS w ao bo dur.length ca ps.length cb S L w14) := Fc.out.below b14'
      have b14 : Below w13.heap.size w13 w14 := Bc.out.trans (b14'.mono sc)
      have s14 := b14.size
      have B14 : Hid (Below w.heap.size w w14) := B13.out.trans (b14.mono B13.out.size)
      have S14 : Hid (Own .u8 5 w14 w2.heap.size sv R) := S13.out.below b14
      have H14 : Hid (Rd .u8 w14 hv R) := o14.rd
      clear b14' Bc Yc o14 b14 S13 B13 Y13 XA13 XC13 Fc sc
      refine hK.out _ _ (F14.out) (fun hx9 => ?_)
      clear hK K hHeld hx9
      have hHeld := F14.out
      try simp only [Act.put, List.setIfInBounds_toArray, List.set_cons_zero, List.set_cons_succ]
      refine wpAnyH_take (i := 7) (oi := { dst := some 16, op := _, type := _, pos := _, after := _, guard := _ }) (v := ?v18) rfl (by kernel_rfl) (by kernel_rfl) (by kernel_rfl) (fun _ _ _ h => h) (Or.inl ⟨by rfl, ?hy18⟩) (by assumption) ?rest18
      case hy18 =>
        intro w9 hS9
        obtain ⟨-, k0, k1, k2, k3⟩ := hS9
        go_simp
        try with_reducible rfl
      try simp only [Act.put, List.setIfInBounds_toArray, List.set_cons_zero, List.set_cons_succ]
      refine wpAnyH_done (by kernel_rfl) ?_ _
      clear hHeld
      go_wp2_with fail
      refine (eqByteS_any _ _ _ R R H14.out S14.out.rd).mono ?_
      rintro e w15 ⟨rfl, q15, hw15⟩
      rw [show decide (R = R) = true by simp]
      have B15 : Hid (Below w.heap.size w w15) := by
        rw [hw15]; exact B14.out.trans ((below_drewN' w14 q15).mono B14.out.size)
      clear hw15
      go_wp2
      go_ret
      exact ⟨rfl, B15.out⟩

end Go.Proofs.Ytoljmlhnbmeloaa
