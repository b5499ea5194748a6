import Derived.Test.YtmjliomhhgahkaaGreatDoorJ06
import Derived.Test.YtmjliomhhgahkaaGreatDoorJ08
import Derived.Test.YtmjliomhhgahkaaGreatDoorJ02
import Derived.Maps.OwnSet
namespace Go.Proofs.YtmjliomhhgahkaaGreatDoor
open Go.RowKit Go.Shelf
set_option linter.unusedSimpArgs false
set_option linter.unusedVariables false

set_option maxRecDepth 100000 in
set_option maxHeartbeats 4000000 in
theorem parseOp_nil (w : World) (ao : Option Addr) (cap : Nat) : Calls Tryz.prog 50 #[.slice ao 0 cap] w fun e w' => OpP w [] e w' := by
  have bA : Below w.heap.size w (w.alloc (.cells #[.int .i64 0, .string ⟨#[]⟩, .string ⟨#[]⟩, .int .i64 0, .bool false] 41)) := (Below.refl _ _).alloc (Nat.le_refl _) _
  have X := St.new w #[.int .i64 0, .string ⟨#[]⟩, .string ⟨#[]⟩, .int .i64 0, .bool false] 41
  have BA := hd9 bA
  have d0 := X.cl 0 _ rfl
  have d1 := X.cl 1 _ rfl
  have d2 := X.cl 2 _ rfl
  have d3 := X.cl 3 _ rfl
  have d4 := X.cl 4 _ rfl
  clear bA
  go_enter Tryz.func50, Tryz.ntmps50
  go_wp2_with fail
  exact bodyPost_ret (v := .tuple #[opV ⟨0, ⟨#[]⟩, ⟨#[]⟩, 0, false⟩, .bool false]) (by simp [results, Tryz.results50, go_sem, opV, d0, d1, d2, d3, d4]) rfl (OpP.no (by rfl) BA.out)
theorem parseOp_any (w : World) (v : Value) (L : List ByteArray) (h : RdB w v L) (hsz : SzB L) {m : Int} {te : TypeId} {pe : Value} (hg : PlG w m te pe) (hf : FmG w) : Calls Tryz.prog 50 #[v] w fun e w' => OpP w L e w' := by
  obtain ⟨ao, cap, rfl, h1, h2, h3⟩ := h
  by_cases h0 : 0 < L.length
  · rcases h3 with h3 | ⟨b, o, rfl, hb, hc⟩
    · rw [h3] at h0; simp at h0
    · exact parseOp_row w b o cap L h0 h1 h2 hsz hc hb hg hf
  · have hn : L = [] := List.eq_nil_of_length_eq_zero (by omega)
    subst hn
    exact parseOp_nil w ao cap
theorem row_keep9 {w w' : World} {lo k n : Nat} {e : TypeId} {v : Value} {us : List Value} (h : w.ownsRow lo e k v n us) (hb : Below w.heap.size w w') : w'.ownsRow lo e k v n us :=
  ⟨h.1, h.2.imp id fun ⟨g, cap, cur, e1, e2, hg, r⟩ => ⟨g, cap, cur, e1, e2, (hb.block _ (Array.getElem?_eq_some_iff.1 hg).1).trans hg, r⟩⟩
theorem plF_multi {L : List ByteArray} (h : ((bAt L 0).toList == [109, 117, 108, 116, 105]) = true) : plF L = plM L := if_pos h
/-- Where the first sign between operations is. -/
def idxI (R : List ByteArray) : Int := if R.findIdx isSemi < R.length then (R.findIdx isSemi : Int) else -1
theorem idx_semi (R : List ByteArray) : Lib.idxOfS R ⟨#[59]⟩ = idxI R := by
  unfold idxI
  by_cases h : R.findIdx isSemi < R.length
  · rw [if_pos h]
    have := Lib.idxOfS_hit R R.length (R.findIdx isSemi) ⟨#[59]⟩ h (Nat.le_refl _) ((eq59 _).1 (by
      rw [List.getD_eq_getElem?_getD, List.getElem?_eq_getElem h]
      exact List.findIdx_getElem)) (fun j hj e => by
      have hlt : j < R.length := by omega
      have h9 := List.not_of_lt_findIdx hj
      rw [List.getD_eq_getElem?_getD, List.getElem?_eq_getElem hlt] at e
      exact absurd ((eq59 _).2 e) (by simpa using h9))
    rwa [List.take_length] at this
  · rw [if_neg h]
    have := Lib.idxOfS_miss R R.length ⟨#[59]⟩ (fun j hj e => by
      rw [List.getD_eq_getElem?_getD, List.getElem?_eq_getElem hj] at e
      exact h (List.findIdx_lt_length_of_exists ⟨_, List.getElem_mem hj, (eq59 _).2 e⟩))
    rwa [List.take_length] at this
theorem index_any (w : World) (v : Value) (R : List ByteArray) (h : RdB w v R) : Calls Tryz.prog 51 #[v, .string ⟨#[59]⟩] w fun e w' => e = .returned (.int .i64 (idxI R)) ∧ w' = w := by
  obtain ⟨ao, cap, rfl, h1, h2, h3⟩ := h
  rw [← idx_semi]
  by_cases h0 : 0 < R.length
  · rcases h3 with h3 | ⟨b, o, rfl, hb, hc⟩
    · rw [h3] at h0; simp at h0
    · have := Tryz.slices_Index_string b o R.length cap R ⟨#[59]⟩ w (Nat.le_refl _) (by unfold maxLen at h2; omega) hc
      rwa [List.take_length] at this
  · have hn : R = [] := List.eq_nil_of_length_eq_zero (by omega)
    subst hn
    exact Tryz.slices_Index_string_empty ao cap ⟨#[59]⟩ w
set_option maxRecDepth 100000 in
theorem slice_from {w : World} {b o c : Nat} {R : List ByteArray} (h : RdB w (.slice (some ⟨b, o, none⟩) R.length c) R) (i : Nat) (hi : i ≤ R.length) :
    ∃ o2, (∀ W, (Instr.slice 36 (.slice (some ⟨b, o, none⟩) R.length c) (some (.int .i64 (i : Int))) none none).run Tryz.prog W = .ok (.slice (some ⟨b, o2, none⟩) (R.length - i) (c - i)) W) ∧ RdB w (.slice (some ⟨b, o2, none⟩) (R.length - i) (c - i)) (R.drop i) := by
  have hr : ∀ W, (Instr.slice 36 (.slice (some ⟨b, o, none⟩) R.length c) (some (.int .i64 (i : Int))) none none).run Tryz.prog W = .ok (sliced (some ⟨b, o, none⟩) i R.length c 1) W := fun W => by
    have h1 := run_slice_l (P := Tryz.prog) (w := W) 36 (some ⟨b, o, none⟩) R.length c Tryz.underlying36 .i64 (i : Int) (by omega) (by omega)
    rw [h1, show Tryz.prog.elem 36 = 9 from by kernel_rfl, Tryz.sizeOf9]
    rfl
  have hlen : (R.drop i).length = R.length - i := List.length_drop
  obtain ⟨ao, cap, e, h1, h2, h3⟩ := h
  injection e with e1 e2 e3
  subst e3
  by_cases hc : c = i
  · refine ⟨o, fun W => ?_, ?_⟩
    · rw [hr W]
      unfold sliced
      rw [if_pos hc]
    · have hz : R.drop i = [] := List.drop_of_length_le (by omega)
      rw [hz, show R.length - i = 0 by omega]
      exact ⟨_, c - i, rfl, Nat.zero_le _, by omega, .inl rfl⟩
  · refine ⟨o + i, fun W => ?_, ?_⟩
    · rw [hr W]
      unfold sliced
      rw [if_neg hc]
      simp [Addr.add]
    · refine ⟨some ⟨b, o + i, none⟩, c - i, by rw [hlen], by rw [hlen]; omega, by omega, ?_⟩
      rcases h3 with h3 | ⟨b3, o3, e3, hb, hcl⟩
      · exact .inl (by rw [h3]; simp)
      · rw [← e1] at e3
        injection e3 with e3; injection e3 with e4 e5
        subst e4 e5
        refine .inr ⟨b, o + i, rfl, hb, fun j hj => ?_⟩
        rw [bAt_drop, Nat.add_assoc]
        exact hcl (i + j) (by omega)
theorem rdB_len {w : World} {a : Option Addr} {n c : Nat} {R : List ByteArray} (h : RdB w (.slice a n c) R) : n = R.length ∧ R.length ≤ c ∧ c ≤ maxLen := by
  obtain ⟨ao, cap, e, h1, h2, h3⟩ := h
  injection e with e1 e2 e3
  subst e2 e3
  exact ⟨rfl, h1, h2⟩
theorem rdB_low {w w' : World} {b o n c m : Nat} {R : List ByteArray} (h : RdB w (.slice (some ⟨b, o, none⟩) n c) R) (hb : Below m w w') (hm : b < m) : RdB w' (.slice (some ⟨b, o, none⟩) n c) R := by
  obtain ⟨ao, cap, e, h1, h2, h3⟩ := h
  refine ⟨ao, cap, e, h1, h2, h3.imp id ?_⟩
  rintro ⟨b3, o3, e3, hl, hc⟩
  injection e with e1 e2 e4
  rw [← e1] at e3
  injection e3 with e3; injection e3 with e5 e6
  subst e5 e6
  have hw := hb.size
  exact ⟨b, o, e1.symm, Nat.lt_of_lt_of_le hl hw, fun i hi => (hb.cell (p := ⟨b, o + i, none⟩) hm).trans (hc i hi)⟩
/-- What the rounds of parseMulti keep. -/
def MlE (L R : List ByteArray) (more : Bool) (os : List Op5) : Prop :=
  (more = true → ∃ nn, R.length < nn ∧ os.length + R.length + 1 ≤ L.length ∧ opsO L.length (L.drop 1) = (opsO nn R).map (fun r => os ++ r)) ∧ (more = false → opsO L.length (L.drop 1) = some os)
def mlM (v4 v5 : Value) : Nat := match v5, v4 with
  | .bool true, .slice _ n _ => n + 1
  | _, _ => 0
theorem plM_none {L R : List ByteArray} {os : List Op5} (h : ∃ nn, R.length < nn ∧ os.length + R.length + 1 ≤ L.length ∧ opsO L.length (L.drop 1) = (opsO nn R).map (fun r => os ++ r)) (ho : opO (R.take (R.findIdx isSemi)) = none) : plM L = ln0 := by
  obtain ⟨nn, h1, -, h2⟩ := h
  unfold plM
  rw [h2]
  cases nn with
  | zero => omega
  | succ n => rw [opsO_none ho]; rfl
theorem mlE_end {L R : List ByteArray} {os : List Op5} {oo : Op5} (h : MlE L R true os) (ho : opO (R.take (R.findIdx isSemi)) = some oo) (hf : ¬ R.findIdx isSemi < R.length) : MlE L R false (os ++ [oo]) := by
  refine ⟨fun h9 => (by cases h9), fun _ => ?_⟩
  obtain ⟨nn, h1, -, h2⟩ := h.1 rfl
  rw [h2]
  cases nn with
  | zero => omega
  | succ n => rw [opsO_end ho hf]; rfl
theorem mlE_more {L R : List ByteArray} {os : List Op5} {oo : Op5} (h : MlE L R true os) (ho : opO (R.take (R.findIdx isSemi)) = some oo) (hf : R.findIdx isSemi < R.length) : MlE L (R.drop (R.findIdx isSemi + 1)) true (os ++ [oo]) := by
  refine ⟨fun _ => ?_, fun h9 => (by cases h9)⟩
  obtain ⟨nn, h1, h3, h2⟩ := h.1 rfl
  cases nn with
  | zero => omega
  | succ n =>
    refine ⟨n, by rw [List.length_drop]; omega, by rw [List.length_drop, List.length_append]; simp only [List.length_cons, List.length_nil]; omega, ?_⟩
    rw [h2, opsO_more ho hf]
    cases opsO n (R.drop (R.findIdx isSemi + 1)) with
    | none => rfl
    | some r => simp
theorem opL_one9 (o : Op5) : ∀ u ∈ opL o, u.oneCell' = true := by
  have := orow_one9 [o]
  rwa [show orow [o] = opL o by simp [orow]] at this
theorem one_cells9 (W : World) (o : Op5) (j : Nat) (u : Value) (hj : (opL o)[j]? = some u) : (W.alloc (.cells #[.int .i64 o.kind, .string o.path, .string o.data, .int .i64 o.ver, .bool o.seq] 41)).cell? ((⟨W.heap.size, 0, none⟩ : Addr).add j) = some u := by
  rw [add_at9]
  exact (St.new W #[.int .i64 o.kind, .string o.path, .string o.data, .int .i64 o.ver, .bool o.seq] 41).cl j u hj
set_option maxRecDepth 100000 in
set_option maxHeartbeats 16000000 in
theorem parseMulti_any (w : World) (b o cap : Nat) (L : List ByteArray) (hL : 0 < L.length) (hL1 : L.length ≤ 1048577) (hLc : L.length ≤ cap) (hc : cap ≤ maxLen) (hR : RdB w (.slice (some ⟨b, o, none⟩) L.length cap) L) (hsz : SzB L) {m : Int} {te : TypeId} {pe : Value} (hg : PlG w m te pe) (hf : FmG w) (l : Ln) (hl : l = plM L) :
    Calls Tryz.prog 35 #[.slice (some ⟨b, o, none⟩) L.length cap] w fun e w' => LnP w l e w' := by
  obtain ⟨iq, hiq, hq0, hqs, hqb⟩ := info_parts Tryz.infoOp9
  have bA : Below w.heap.size w ((w.alloc (.cells #[.int .i64 0, .slice none 0 0, .bool false, .string ⟨#[]⟩, .slice none 0 0] 28)).alloc (.cells #[.int .i64 1, .slice none 0 0, .bool true, .string ⟨#[]⟩, .slice none 0 0] 28)) := ((Below.refl _ _).alloc (Nat.le_refl _) _).alloc (by simp) _
  have BA := hd9 bA
  have XL : Hid (St ((w.alloc (.cells #[.int .i64 0, .slice none 0 0, .bool false, .string ⟨#[]⟩, .slice none 0 0] 28)).alloc (.cells #[.int .i64 1, .slice none 0 0, .bool true, .string ⟨#[]⟩, .slice none 0 0] 28)) (w.heap.size + 1) [.int .i64 1, .slice none 0 0, .bool true, .string ⟨#[]⟩, .slice none 0 0]) := by
    have := St.new (w.alloc (.cells #[.int .i64 0, .slice none 0 0, .bool false, .string ⟨#[]⟩, .slice none 0 0] 28)) #[.int .i64 1, .slice none 0 0, .bool true, .string ⟨#[]⟩, .slice none 0 0] 28
    rw [show (w.alloc (.cells #[.int .i64 0, .slice none 0 0, .bool false, .string ⟨#[]⟩, .slice none 0 0] 28)).heap.size = w.heap.size + 1 by simp] at this
    exact this
  have X := hd9 ((St.new w #[.int .i64 0, .slice none 0 0, .bool false, .string ⟨#[]⟩, .slice none 0 0] 28).below ((Below.refl _ _).alloc (Nat.le_refl _) (.cells #[.int .i64 1, .slice none 0 0, .bool true, .string ⟨#[]⟩, .slice none 0 0] 28)))
  obtain ⟨o2, hs2, hR2⟩ := slice_from hR 1 hL
  have hd1 : (L.drop 1).length = L.length - 1 := List.length_drop
  rw [show ((1 : Nat) : Int) = 1 from rfl, ← hd1] at hs2
  rw [← hd1] at hR2
  have R2 := hd9 (hR2.below bA)
  have HG := hd9 hg
  have HF := hd9 hf
  have HZ0 := hd9 (hsz.drop 1)
  have HLN := hd9 hl
  have HE0 : Hid (MlE L (L.drop 1) true []) := ⟨fun _ => ⟨L.length, by rw [List.length_drop]; omega, by rw [List.length_drop]; simp; omega, by cases opsO L.length (L.drop 1) <;> rfl⟩, fun h9 => (by cases h9)⟩
  clear hd1
  have sL : w.heap.size + 2 ≤ ((w.alloc (.cells #[.int .i64 0, .slice none 0 0, .bool false, .string ⟨#[]⟩, .slice none 0 0] 28)).alloc (.cells #[.int .i64 1, .slice none 0 0, .bool true, .string ⟨#[]⟩, .slice none 0 0] 28)).heap.size := by simp
  have hbw : b < w.heap.size := by
    obtain ⟨ao9, cap9, e9, -, -, h9⟩ := hR
    injection e9 with e1 e2 e4
    rcases h9 with h9 | ⟨b3, o3, e3, hl9, -⟩
    · rw [h9] at hL; simp at hL
    · rw [← e1] at e3; injection e3 with e3; injection e3 with e5 e6; rw [e5]; exact hl9
  unfold maxLen at hc
  clear bA hR2 hg hf hsz hl hR
  go_enter Tryz.func35, Tryz.ntmps35
  go_wp2_with fail
  generalize (w.alloc (.cells #[.int .i64 0, .slice none 0 0, .bool false, .string ⟨#[]⟩, .slice none 0 0] 28)).alloc (.cells #[.int .i64 1, .slice none 0 0, .bool true, .string ⟨#[]⟩, .slice none 0 0] 28) = w1 at *
  go_loopw [4, 5] (fun v4 v5 wr => ∃ (R : List ByteArray) (o4 c4 : Nat) (more : Bool) (os : List Op5) (ao : Option Addr) (no co : Nat), v4 = .slice (some ⟨b, o4, none⟩) R.length c4 ∧ v5 = .bool more ∧ Hid (RdB wr (.slice (some ⟨b, o4, none⟩) R.length c4) R) ∧ Hid (SzB R) ∧ Hid (MlE L R more os) ∧ Hid (os.length = no) ∧ Hid (St wr (w.heap.size + 1) [.int .i64 1, .slice ao no co, .bool true, .string ⟨#[]⟩, .slice none 0 0]) ∧ Hid (wr.ownsRow (w.heap.size + 2) 41 5 (.slice ao no co) no (orow os)) ∧ Hid (St wr w.heap.size [.int .i64 0, .slice none 0 0, .bool false, .string ⟨#[]⟩, .slice none 0 0]) ∧ Hid (Below w.heap.size w wr)) (fun v4 v5 _ => mlM v4 v5)
  case atStart => exact ⟨L.drop 1, o2, cap - 1, true, [], none, 0, 0, by rw [List.length_drop], rfl, R2, HZ0, HE0, rfl, XL, World.ownsRow_nil _ _ _ _, X, BA⟩
  case round =>
    clear R2 HZ0 HE0 XL X BA hs2
    obtain ⟨R, o4, c4, more, os, ao, no, co, rfl, rfl, HR, HZ, HE, HNO, XL, OO, X, BA⟩ := hrel
    obtain ⟨-, hl1, hl2⟩ := rdB_len HR.out
    unfold maxLen at hl2
    have sB := BA.out.size
    have sX := XL.out.lt
    cases more with
    | false =>
      have HRE : Hid (l = ⟨1, os, true, ⟨#[]⟩, []⟩) := by
        show _ = _
        rw [HLN.out]
        unfold plM
        rw [HE.out.2 rfl]
      clear HE HR HZ
      have xf := X.out.fz
      have x0 := X.out.cl 0 _ rfl
      have x1 := X.out.cl 1 _ rfl
      have x2 := X.out.cl 2 _ rfl
      have x3 := X.out.cl 3 _ rfl
      have x4 := X.out.cl 4 _ rfl
      have y0 := XL.out.cl 0 _ rfl
      have y1 := XL.out.cl 1 _ rfl
      have y2 := XL.out.cl 2 _ rfl
      have y3 := XL.out.cl 3 _ rfl
      have y4 := XL.out.cl 4 _ rfl
      have O1 : OwnO 41 wr (w.heap.size + 1) (.slice ao no co) os := by
        unfold OwnO
        rw [HNO.out]
        exact ownsRow_mono9 OO.out (by omega)
      have HO1 := hd9 O1
      clear O1
      go_wp2_with fail
      obtain ⟨b9, x9, o9, n9⟩ := ln_box BA.out X.out 1 true ⟨#[]⟩ (vo := .slice ao no co) (vn := .slice none 0 0) HO1.out (show Own _ _ _ _ _ [] from World.ownsRow_nil _ _ _ _)
      have d0 := x9.cl 0 _ rfl
      have d1 := x9.cl 1 _ rfl
      have d2 := x9.cl 2 _ rfl
      have d3 := x9.cl 3 _ rfl
      have d4 := x9.cl 4 _ rfl
      exact bodyPost_ret (v := .agg #[.int .i64 1, .slice ao no co, .bool true, .string ⟨#[]⟩, .slice none 0 0]) (by simp [results, Tryz.results35, go_sem, d0, d1, d2, d3, d4]) rfl (by rw [HRE.out]; exact ⟨_, _, rfl, o9, n9, b9⟩)
    | true =>
      have HX := hd9 (index_any wr _ R HR.out)
      by_cases hfi : R.findIdx isSemi < R.length
      · obtain ⟨fi, hF⟩ : ∃ fi, fi = R.findIdx isSemi := ⟨_, rfl⟩
        have hix : idxI R = (fi : Int) := by unfold idxI; rw [if_pos hfi, hF]
        rw [← hF] at hfi
        have HFI := hd9 hF.symm
        have HFT : Hid (R.take (R.findIdx isSemi) = R.take fi) := by show _ = _; rw [hF]
        clear hF
        obtain ⟨o5, hs5, hR5⟩ := slice_from HR.out (fi + 1) (by omega)
        rw [show ((fi + 1 : Nat) : Int) = (fi : Int) + 1 by omega] at hs5
        have R5 := hd9 hR5
        have HO : Hid True := trivial
        have hge : (0 : Int) ≤ (fi : Int) := by omega
        have hwr : IntKind.i64.wrap ((fi : Int) + 1) = (fi : Int) + 1 := by rw [IntKind.wrap_i64]; omega
        have hfc : (fi : Int) ≤ (c4 : Int) := by omega
        have hfc2 : (fi : Int) ≤ (R.length : Int) := by omega
        rw [hix] at HX
        clear hix hR5
        go_wp2_with fail
        refine HX.out.mono ?_
        rintro e9 w2 ⟨rfl, hw2⟩
        subst hw2
        clear HX
        go_wp2_with fail
        have bD : Below w2.heap.size w2 w2.drew := below_drewN' w2 1
        refine wp_region_held_drew (S := fun _ => True) (by kernel_rfl) trivial (fun hHeld => ?_)
        replace HO : Hid (Calls Tryz.prog 50 #[.slice (some ⟨b, o4, none⟩) fi c4] w2.drew fun e w' => OpP w2.drew (R.take fi) e w') := by
          have R1 := rdB_sub (HR.out.below bD) 0 fi (by omega)
          rw [List.drop_zero, Nat.add_zero, Nat.sub_zero] at R1
          exact parseOp_any w2.drew _ (R.take fi) R1 (HZ.out.take fi) (HG.out.later (BA.out.trans (bD.mono BA.out.size))) (HF.out.later (BA.out.trans (bD.mono BA.out.size)))
        replace R5 := hd9 (R5.out.below bD)
        replace X := hd9 (X.out.below bD)
        replace XL := hd9 (XL.out.below bD)
        replace BA := hd9 (BA.out.trans (bD.mono BA.out.size))
        replace OO := hd9 (row_keep9 OO.out bD)
        have sD := bD.size
        clear bD
        generalize w2.drew = w3 at *
        iterate 9 (refine tkI9 ?_ (by kernel_rfl) (fun _ => id) hHeld ?_ ?_; rotate_left; · intro w9 hS9; clear hS9; go_simp; try with_reducible rfl)
        refine wpAnyH_done (by kernel_rfl) ?_ _
        try simp only [Act.put, sT9, sZ9, sS9]
        clear hHeld hs5 hge hfc hfc2 hwr
        go_wp2_with fail
        replace R5 : Hid (RdB w3 (.slice (some ⟨b, o5, none⟩) (R.length - (fi + 1)) (c4 - (fi + 1))) (R.drop (fi + 1))) := R5.out
        clear HR
        refine HO.out.mono ?_
        rintro e9 t2 ⟨oo, ok, rfl, b2, hok, hoo⟩
        rename_i K10 hK10 K9 hK9
        have HK10 : Hid _ := hK10
        clear hK10
        have HQ := hd9 (And.intro hok hoo)
        have s2 := b2.size
        have bO : Below t2.heap.size t2 (t2.alloc (.cells #[.int .i64 oo.kind, .string oo.path, .string oo.data, .int .i64 oo.ver, .bool oo.seq] 41)) := (Below.refl _ _).alloc (Nat.le_refl _) _
        have b2O := b2.trans (bO.mono b2.size)
        replace X := hd9 (X.out.below b2O)
        replace XL := hd9 (XL.out.below b2O)
        replace BA := hd9 (BA.out.trans (b2O.mono BA.out.size))
        replace OO := hd9 (row_keep9 OO.out b2O)
        have R9 := hd9 (R5.out.below b2O)
        have XO := hd9 (St.new t2 #[.int .i64 oo.kind, .string oo.path, .string oo.data, .int .i64 oo.ver, .bool oo.seq] 41)
        have sO : t2.heap.size < (t2.alloc (.cells #[.int .i64 oo.kind, .string oo.path, .string oo.data, .int .i64 oo.ver, .bool oo.seq] 41)).heap.size := by simp
        have sZ : w.heap.size + 2 ≤ t2.heap.size := by omega
        clear hok hoo HO b2 bO b2O R5
        unfold opV
        go_wp2_with fail
        generalize t2.alloc (.cells #[.int .i64 oo.kind, .string oo.path, .string oo.data, .int .i64 oo.ver, .bool oo.seq] 41) = t3 at *
        refine HK10.out _ _ ?_
        clear HK10
        cases ok with
        | false =>
          have HZE : Hid (l = ln0) := by
            show _ = _
            rw [HLN.out]
            have ho : opO (R.take fi) = none := by
              cases hx : opO (R.take fi) with
              | none => rfl
              | some x => have := HQ.out.1; rw [hx] at this; cases this
            exact plM_none (HE.out.1 rfl) (by rw [HFT.out]; exact ho)
          clear HQ HE
          have yf := X.out.fz
          have y0 := X.out.cl 0 _ rfl
          have y1 := X.out.cl 1 _ rfl
          have y2 := X.out.cl 2 _ rfl
          have y3 := X.out.cl 3 _ rfl
          have y4 := X.out.cl 4 _ rfl
          go_wp2_with fail
          obtain ⟨b9, x9, o9, n9⟩ := ln_box BA.out X.out 0 false ⟨#[]⟩ (vo := .slice none 0 0) (vn := .slice none 0 0) (show OwnO _ _ _ _ [] from World.ownsRow_nil _ _ _ _) (show Own _ _ _ _ _ [] from World.ownsRow_nil _ _ _ _)
          have d0 := x9.cl 0 _ rfl
          have d1 := x9.cl 1 _ rfl
          have d2 := x9.cl 2 _ rfl
          have d3 := x9.cl 3 _ rfl
          have d4 := x9.cl 4 _ rfl
          exact bodyPost_ret (v := .agg #[.int .i64 0, .slice none 0 0, .bool false, .string ⟨#[]⟩, .slice none 0 0]) (by simp [results, Tryz.results35, go_sem, d0, d1, d2, d3, d4]) rfl (by rw [HZE.out]; exact ⟨_, _, rfl, o9, n9, b9⟩)
        | true =>
          have ho : opO (R.take (R.findIdx isSemi)) = some oo := by
            rw [HFT.out]
            obtain ⟨x, hx⟩ := Option.isSome_iff_exists.1 HQ.out.1.symm
            rw [hx, HQ.out.2 x hx]
          have HE2 : Hid (MlE L (R.drop (fi + 1)) true (os ++ [oo])) := by have := mlE_more HE.out ho (by rw [HFI.out]; exact hfi); rw [HFI.out] at this; exact this
          have hnl : no + 1 ≤ L.length := by obtain ⟨nn, h1, h2, h3⟩ := HE.out.1 rfl; rw [← HNO.out]; omega
          clear ho HQ HE
          have y1 := XL.out.cl 1 _ rfl
          have qf := XO.out.fz
          have q0 := XO.out.cl 0 _ rfl
          have q1 := XO.out.cl 1 _ rfl
          have q2 := XO.out.cl 2 _ rfl
          have q3 := XO.out.cl 3 _ rfl
          have q4 := XO.out.cl 4 _ rfl
          go_wp2_with (at_builtin; go_must (refine wpList_append_lies _ rfl _ _ 23 rfl (w.heap.size + 2) 41 iq (.agg #[.int .i64 0, .string ByteArray.empty, .string ByteArray.empty, .int .i64 0, .bool false]) 5 56 Tryz.underlying23 hiq hq0 hqs hqb rfl (by decide) _ _ _ rfl (row_keep9 OO.out ((Below.refl _ _).alloc (Nat.le_refl _) _)) ⟨t3.heap.size, 0, none⟩ 1 1 (opL oo) rfl rfl (fun j u hj => one_cells9 t3 oo j u hj) (opL_one9 oo) (by decide) ?c3 ?c4 ?c5 _ rfl ?_))
          case c3 => unfold maxLen; omega
          case c4 => omega
          case c5 => first | omega | (simp; omega)
          intro g5 k5 w5 ho5 hg5 hat5 hlt5
          have bP : Below t3.heap.size t3 (t3.alloc (.cells #[.int .i64 oo.kind, .string oo.path, .string oo.data, .int .i64 oo.ver, .bool oo.seq] 41)) := (Below.refl _ _).alloc (Nat.le_refl _) _
          have bQ : Below (w.heap.size + 2) t3 w5 := (bP.mono (by omega)).grown hg5 (by simp; omega) (fun q hq => (World.ownsRow.lt OO.out q hq).1)
          replace X := hd9 (X.out.belowB bQ (by omega))
          replace XL := hd9 (XL.out.belowB bQ (by omega))
          replace BA := hd9 (BA.out.trans (bQ.mono (by omega)))
          replace R9 := hd9 (rdB_low R9.out bQ (by omega))
          have O5 : Hid (w5.ownsRow (w.heap.size + 2) 41 5 (.slice (some ⟨g5, 0, none⟩) (no + 1) k5) (no + 1) (orow (os ++ [oo]))) := by
            show World.ownsRow _ _ _ _ _ _ _
            rw [orow_append, show orow [oo] = opL oo by simp [orow]]
            exact ho5
          have s5 := bQ.size
          clear ho5 hg5 hat5 hlt5 OO bP bQ y1 qf q0 q1 q2 q3 q4 XO
          have y1 := XL.out.cl 1 _ rfl
          have yf := XL.out.fz
          go_wp2_with fail
          have bS : Below (w.heap.size + 1) w5 (w5.setCell ⟨w.heap.size + 1, 1, none⟩ (.slice (some ⟨g5, 0, none⟩) (no + 1) k5)) := (Below.refl _ _).setCell (p := ⟨w.heap.size + 1, 1, none⟩) (Nat.le_refl _) _
          exact ⟨⟨(R.drop (fi + 1)), o5, c4 - (fi + 1), true, os ++ [oo], some ⟨g5, 0, none⟩, no + 1, k5, by first | rfl | rw [List.length_drop], rfl, by show RdB _ _ _; rw [List.length_drop]; exact rdB_low R9.out bS (by omega), HZ.out.drop _, HE2, by show _ = _; rw [List.length_append, HNO.out]; rfl, XL.out.set 1 _, ownsRow_setCell_below O5.out (a := ⟨w.heap.size + 1, 1, none⟩) (by show w.heap.size + 1 < _; omega) _, X.out.belowB bS (by omega), BA.out.trans (bS.mono (by omega))⟩, by simp [mlM]; omega⟩
      · have hix : idxI R = -1 := by unfold idxI; rw [if_neg hfi]
        have hfl : R.findIdx isSemi = R.length := by have := List.findIdx_le_length (xs := R) (p := isSemi); omega
        have HFT : Hid (R.take (R.findIdx isSemi) = R) := by show _ = _; rw [hfl, List.take_length]
        have HFN := hd9 hfi
        have HO := hd9 (parseOp_any wr _ R HR.out HZ.out (HG.out.later BA.out) (HF.out.later BA.out))
        rw [hix] at HX
        clear hix hfl hfi
        go_wp2_with fail
        refine HX.out.mono ?_
        rintro e9 w2 ⟨rfl, hw2⟩
        subst hw2
        clear HX
        go_wp2_with fail
        refine HO.out.mono ?_
        rintro e9 t2 ⟨oo, ok, rfl, b2, hok, hoo⟩
        rename_i K10 hK10 K9 hK9
        have HK10 : Hid _ := hK10
        clear hK10
        have HQ := hd9 (And.intro hok hoo)
        have s2 := b2.size
        have bO : Below t2.heap.size t2 (t2.alloc (.cells #[.int .i64 oo.kind, .string oo.path, .string oo.data, .int .i64 oo.ver, .bool oo.seq] 41)) := (Below.refl _ _).alloc (Nat.le_refl _) _
        have b2O := b2.trans (bO.mono b2.size)
        replace X := hd9 (X.out.below b2O)
        replace XL := hd9 (XL.out.below b2O)
        replace BA := hd9 (BA.out.trans (b2O.mono BA.out.size))
        replace OO := hd9 (row_keep9 OO.out b2O)
        have R9 := hd9 (HR.out.below b2O)
        have XO := hd9 (St.new t2 #[.int .i64 oo.kind, .string oo.path, .string oo.data, .int .i64 oo.ver, .bool oo.seq] 41)
        have sO : t2.heap.size < (t2.alloc (.cells #[.int .i64 oo.kind, .string oo.path, .string oo.data, .int .i64 oo.ver, .bool oo.seq] 41)).heap.size := by simp
        have sZ : w.heap.size + 2 ≤ t2.heap.size := by omega
        clear hok hoo HO b2 bO b2O HR
        unfold opV
        go_wp2_with fail
        generalize t2.alloc (.cells #[.int .i64 oo.kind, .string oo.path, .string oo.data, .int .i64 oo.ver, .bool oo.seq] 41) = t3 at *
        refine HK10.out _ _ ?_
        clear HK10
        cases ok with
        | false =>
          have HZE : Hid (l = ln0) := by
            show _ = _
            rw [HLN.out]
            have ho : opO R = none := by
              cases hx : opO R with
              | none => rfl
              | some x => have := HQ.out.1; rw [hx] at this; cases this
            exact plM_none (HE.out.1 rfl) (by rw [HFT.out]; exact ho)
          clear HQ HE
          have yf := X.out.fz
          have y0 := X.out.cl 0 _ rfl
          have y1 := X.out.cl 1 _ rfl
          have y2 := X.out.cl 2 _ rfl
          have y3 := X.out.cl 3 _ rfl
          have y4 := X.out.cl 4 _ rfl
          go_wp2_with fail
          obtain ⟨b9, x9, o9, n9⟩ := ln_box BA.out X.out 0 false ⟨#[]⟩ (vo := .slice none 0 0) (vn := .slice none 0 0) (show OwnO _ _ _ _ [] from World.ownsRow_nil _ _ _ _) (show Own _ _ _ _ _ [] from World.ownsRow_nil _ _ _ _)
          have d0 := x9.cl 0 _ rfl
          have d1 := x9.cl 1 _ rfl
          have d2 := x9.cl 2 _ rfl
          have d3 := x9.cl 3 _ rfl
          have d4 := x9.cl 4 _ rfl
          exact bodyPost_ret (v := .agg #[.int .i64 0, .slice none 0 0, .bool false, .string ⟨#[]⟩, .slice none 0 0]) (by simp [results, Tryz.results35, go_sem, d0, d1, d2, d3, d4]) rfl (by rw [HZE.out]; exact ⟨_, _, rfl, o9, n9, b9⟩)
        | true =>
          have ho : opO (R.take (R.findIdx isSemi)) = some oo := by
            rw [HFT.out]
            obtain ⟨x, hx⟩ := Option.isSome_iff_exists.1 HQ.out.1.symm
            rw [hx, HQ.out.2 x hx]
          have HE2 : Hid (MlE L R false (os ++ [oo])) := mlE_end HE.out ho HFN.out
          have hnl : no + 1 ≤ L.length := by obtain ⟨nn, h1, h2, h3⟩ := HE.out.1 rfl; rw [← HNO.out]; omega
          clear ho HQ HE
          have y1 := XL.out.cl 1 _ rfl
          have qf := XO.out.fz
          have q0 := XO.out.cl 0 _ rfl
          have q1 := XO.out.cl 1 _ rfl
          have q2 := XO.out.cl 2 _ rfl
          have q3 := XO.out.cl 3 _ rfl
          have q4 := XO.out.cl 4 _ rfl
          go_wp2_with (at_builtin; go_must (refine wpList_append_lies _ rfl _ _ 23 rfl (w.heap.size + 2) 41 iq (.agg #[.int .i64 0, .string ByteArray.empty, .string ByteArray.empty, .int .i64 0, .bool false]) 5 56 Tryz.underlying23 hiq hq0 hqs hqb rfl (by decide) _ _ _ rfl (row_keep9 OO.out ((Below.refl _ _).alloc (Nat.le_refl _) _)) ⟨t3.heap.size, 0, none⟩ 1 1 (opL oo) rfl rfl (fun j u hj => one_cells9 t3 oo j u hj) (opL_one9 oo) (by decide) ?c3 ?c4 ?c5 _ rfl ?_))
          case c3 => unfold maxLen; omega
          case c4 => omega
          case c5 => first | omega | (simp; omega)
          intro g5 k5 w5 ho5 hg5 hat5 hlt5
          have bP : Below t3.heap.size t3 (t3.alloc (.cells #[.int .i64 oo.kind, .string oo.path, .string oo.data, .int .i64 oo.ver, .bool oo.seq] 41)) := (Below.refl _ _).alloc (Nat.le_refl _) _
          have bQ : Below (w.heap.size + 2) t3 w5 := (bP.mono (by omega)).grown hg5 (by simp; omega) (fun q hq => (World.ownsRow.lt OO.out q hq).1)
          replace X := hd9 (X.out.belowB bQ (by omega))
          replace XL := hd9 (XL.out.belowB bQ (by omega))
          replace BA := hd9 (BA.out.trans (bQ.mono (by omega)))
          replace R9 := hd9 (rdB_low R9.out bQ (by omega))
          have O5 : Hid (w5.ownsRow (w.heap.size + 2) 41 5 (.slice (some ⟨g5, 0, none⟩) (no + 1) k5) (no + 1) (orow (os ++ [oo]))) := by
            show World.ownsRow _ _ _ _ _ _ _
            rw [orow_append, show orow [oo] = opL oo by simp [orow]]
            exact ho5
          have s5 := bQ.size
          clear ho5 hg5 hat5 hlt5 OO bP bQ y1 qf q0 q1 q2 q3 q4 XO
          have y1 := XL.out.cl 1 _ rfl
          have yf := XL.out.fz
          go_wp2_with fail
          have bS : Below (w.heap.size + 1) w5 (w5.setCell ⟨w.heap.size + 1, 1, none⟩ (.slice (some ⟨g5, 0, none⟩) (no + 1) k5)) := (Below.refl _ _).setCell (p := ⟨w.heap.size + 1, 1, none⟩) (Nat.le_refl _) _
          exact ⟨⟨R, o4, c4, false, os ++ [oo], some ⟨g5, 0, none⟩, no + 1, k5, by first | rfl | rw [List.length_drop], rfl, rdB_low R9.out bS (by omega), HZ, HE2, by show _ = _; rw [List.length_append, HNO.out]; rfl, XL.out.set 1 _, ownsRow_setCell_below O5.out (a := ⟨w.heap.size + 1, 1, none⟩) (by show w.heap.size + 1 < _; omega) _, X.out.belowB bS (by omega), BA.out.trans (bS.mono (by omega))⟩, by simp [mlM]⟩

/-- A map whose keys are texts: these entries, in this order. -/
def MapIs (w : World) (b : Nat) (L : List (ByteArray × Value)) : Prop :=
  ∃ es clock, w.heap[b]? = some (.map es clock) ∧ es.toList.map (fun e => (e.key, e.val)) = L.map (fun x => (Value.string x.1, x.2))
theorem MapIs.lt {w : World} {b : Nat} {L : List (ByteArray × Value)} (h : MapIs w b L) : b < w.heap.size := by
  obtain ⟨es, clock, hb, -⟩ := h
  exact (Array.getElem?_eq_some_iff.1 hb).1
theorem MapIs.made (w : World) : MapIs (w.alloc (.map #[] 0)) w.heap.size [] := ⟨#[], 0, (MapKept.heap_alloc w _).1, rfl⟩
theorem MapIs.below {w w' : World} {b : Nat} {L : List (ByteArray × Value)} (h : MapIs w b L) (hb : Below w.heap.size w w') : MapIs w' b L := by
  have hl := h.lt
  obtain ⟨es, clock, h1, h2⟩ := h
  exact ⟨es, clock, (hb.block _ hl).trans h1, h2⟩
theorem MapIs.keys {es : Array MapEntry} {L : List (ByteArray × Value)} (h2 : es.toList.map (fun e => (e.key, e.val)) = L.map (fun x => (Value.string x.1, x.2))) (x : MapEntry) (hx : x ∈ es.toList) : ∃ s v, x.key = .string s ∧ x.val = v ∧ (s, v) ∈ L := by
  have : (x.key, x.val) ∈ L.map (fun x => (Value.string x.1, x.2)) := by rw [← h2]; exact List.mem_map.2 ⟨x, hx, rfl⟩
  obtain ⟨⟨s, v⟩, hm, e⟩ := List.mem_map.1 this
  injection e with e1 e2
  exact ⟨s, v, e1.symm, e2.symm, hm⟩
theorem mapIs_find {es : Array MapEntry} {L : List (ByteArray × Value)} (h2 : es.toList.map (fun e => (e.key, e.val)) = L.map (fun x => (Value.string x.1, x.2))) (s : ByteArray) :
    (Instr.findNow .string (.string s) es.toList 0 = some none ∧ ∀ y ∈ L, y.1 ≠ s) ∨ ∃ i v, Instr.findNow .string (.string s) es.toList 0 = some (some (i, v)) ∧ (s, v) ∈ L := by
  have hk : MapKept.IsKey .string (.string s) := by simp [MapKept.IsKey]
  rcases MapKept.findNow_spec hk es.toList 0 (fun x hx => by obtain ⟨t, v, e, -⟩ := MapIs.keys h2 x hx; rw [e]; simp [MapKept.IsKey]) with ⟨h1, h3⟩ | ⟨j, e, h1, h3, h4⟩
  · refine .inl ⟨h1, fun y hy e9 => ?_⟩
    have : (Value.string y.1, y.2) ∈ es.toList.map (fun e => (e.key, e.val)) := by rw [h2]; exact List.mem_map.2 ⟨y, hy, rfl⟩
    obtain ⟨x, hx, e⟩ := List.mem_map.1 this
    injection e with e1 e2
    exact h3 x hx (by rw [e1, e9])
  · obtain ⟨t, v, e1, e2, hm⟩ := MapIs.keys h2 e (List.mem_of_getElem? h3)
    rw [e1] at h4
    injection h4 with h4
    subst h4
    exact .inr ⟨_, v, by rw [h1, e2], hm⟩
theorem MapIs.put {P : Program} {w : World} {b : Nat} {L : List (ByteArray × Value)} (h : MapIs w b L) {t k e : TypeId} (ht : P.underlying t = some (.map k e)) (hk : P.underlying k = some .string) {s : ByteArray} (hn : ∀ y ∈ L, y.1 ≠ s) (v : Value) :
    ∃ w', (Instr.mapUpdate t (.map (some b)) (.string s) v).run P w = .ok () w' ∧ MapIs w' b (L ++ [(s, v)]) ∧ w.grownBy w' (some b) ∧ w'.heap.size = w.heap.size := by
  have hl := h.lt
  obtain ⟨es, clock, hb, h2⟩ := h
  have hc : (Instr.checkKey false 10000 k (.string s)).run P w = .ok () w := MapKept.run_checkKey (k := .string s) hk (by simp [MapKept.IsKey]) false 9999
  rcases mapIs_find h2 s with ⟨hf, -⟩ | ⟨i, v9, -, hm⟩
  · refine ⟨ChangeMaps.setBlock w b (.map (es.push { key := .string s, val := v, born := clock }) (clock + 1)), ?_, ⟨_, _, ChangeMaps.heap_setBlock_same hb _, ?_⟩, ⟨rfl, rfl, rfl, by simp [ChangeMaps.setBlock], fun i _ hi => ChangeMaps.heap_setBlock_other hb _ (fun e => hi (by rw [e]))⟩, by simp [ChangeMaps.setBlock]⟩
    · simp [Instr.mapUpdate, run_underlying ht, MapKept.run_getObj_map hb, hc, MapKept.run_findKey hk hf, MapKept.run_setObj_map _ hb, Result.andThen, ChangeMaps.setBlock]
    · rw [Array.toList_push, List.map_append, List.map_append, h2]
      rfl
  · exact absurd rfl (hn _ hm)
theorem MapIs.hit {P : Program} {w : World} {b : Nat} {L : List (ByteArray × Value)} (h : MapIs w b L) {t k e : TypeId} (ht : P.underlying t = some (.map k e)) (hk : P.underlying k = some .string) {s : ByteArray} {v : Value} (hm : (s, v) ∈ L) (hu : ∀ v9, (s, v9) ∈ L → v9 = v) :
    (Instr.lookup t (.map (some b)) (.string s) true).run P w = .ok (.tuple #[v, .bool true]) w := by
  obtain ⟨es, clock, hb, h2⟩ := h
  have hc : (Instr.checkKey es.isEmpty 10000 k (.string s)).run P w = .ok () w := MapKept.run_checkKey (k := .string s) hk (by simp [MapKept.IsKey]) _ 9999
  rcases mapIs_find h2 s with ⟨-, hn⟩ | ⟨i, v9, hf, hm9⟩
  · exact absurd rfl (hn _ hm)
  · rw [hu v9 hm9] at hf
    simp [Instr.lookup, run_underlying ht, MapKept.run_getObj_map hb, hc, MapKept.run_findKey hk hf, Result.andThen]
theorem MapIs.miss {P : Program} {w : World} {b : Nat} {L : List (ByteArray × Value)} (h : MapIs w b L) {t k e : TypeId} (ht : P.underlying t = some (.map k e)) (hk : P.underlying k = some .string) {z : Value} (hz : (zeroValue e).run P w = .ok z w) {s : ByteArray} (hn : ∀ y ∈ L, y.1 ≠ s) :
    (Instr.lookup t (.map (some b)) (.string s) true).run P w = .ok (.tuple #[z, .bool false]) w := by
  obtain ⟨es, clock, hb, h2⟩ := h
  have hc : (Instr.checkKey es.isEmpty 10000 k (.string s)).run P w = .ok () w := MapKept.run_checkKey (k := .string s) hk (by simp [MapKept.IsKey]) _ 9999
  rcases mapIs_find h2 s with ⟨hf, -⟩ | ⟨i, v9, hf, hm9⟩
  · simp [Instr.lookup, run_underlying ht, MapKept.run_getObj_map hb, hc, MapKept.run_findKey hk hf, hz, Result.andThen]
  · exact absurd rfl (hn _ hm9)
/-- A map on the way, and boxes beside it. -/
structure PS (w W : World) (n : Nat) (L : List (ByteArray × Value)) (C : List (Nat × Value)) : Prop where
  m : MapIs W w.heap.size L
  b : Below w.heap.size w W
  z : W.heap.size = n
  c : ∀ p ∈ C, w.heap.size < p.1 ∧ p.1 < n ∧ W.cell? ⟨p.1, 0, none⟩ = some p.2
theorem PS.made (w : World) : PS w (w.alloc (.map #[] 0)) (w.heap.size + 1) [] [] := ⟨MapIs.made w, (Below.refl _ _).alloc (Nat.le_refl _) _, by simp, fun p hp => by cases hp⟩
theorem PS.box {w W : World} {n : Nat} {L : List (ByteArray × Value)} {C : List (Nat × Value)} (h : PS w W n L C) (v : Value) (t : TypeId) : PS w (W.alloc (.cells #[v] t)) (n + 1) L (C ++ [(n, v)]) := by
  have hb : Below W.heap.size W (W.alloc (.cells #[v] t)) := (Below.refl _ _).alloc (Nat.le_refl _) _
  have hm := h.m.lt
  refine ⟨h.m.below hb, h.b.trans (hb.mono h.b.size), by simp [h.z], fun p hp => ?_⟩
  rcases List.mem_append.1 hp with hp | hp
  · obtain ⟨h1, h2, h3⟩ := h.c p hp
    exact ⟨h1, Nat.lt_succ_of_lt h2, (hb.cell (p := ⟨p.1, 0, none⟩) (by rw [h.z]; exact h2)).trans h3⟩
  · obtain rfl : p = (n, v) := by simpa using hp
    refine ⟨by rw [← h.z]; exact hm, Nat.lt_succ_self _, ?_⟩
    have := (St.new W #[v] t).cl 0 _ rfl
    rw [h.z] at this
    exact this
theorem PS.put {w W W' : World} {n : Nat} {L L' : List (ByteArray × Value)} {C : List (Nat × Value)} (h : PS w W n L C) (hm : MapIs W' w.heap.size L') (hg : W.grownBy W' (some w.heap.size)) (hz : W'.heap.size = W.heap.size) : PS w W' n L' C := by
  refine ⟨hm, h.b.grown hg (Nat.le_trans (Nat.le_refl _) h.b.size) (fun q hq => by injection hq with hq; omega), hz.trans h.z, fun p hp => ?_⟩
  obtain ⟨h1, h2, h3⟩ := h.c p hp
  refine ⟨h1, h2, ?_⟩
  have := hg.block p.1 (by rw [h.z]; exact h2) (by intro e; injection e with e; omega)
  unfold World.cell? at h3 ⊢
  simp only at h3 ⊢
  rw [this]
  exact h3
theorem wpList_ins9 {P : Program} (w W : World) {ops : Array Oper} {rest : List Oper} {o : Oper} {a : Act} {Q : Exit → Act → World → Prop}
    (hg : o.guard = none) (m x v : Operand) (t : TypeId) (hop : o.op = Op.insert t m x v) (k e : TypeId) (ht : P.underlying t = some (.map k e)) (hk : P.underlying k = some .string) (n : Nat) (L : List (ByteArray × Value)) (C : List (Nat × Value)) (hown : PS w W n L C)
    (hm : a.eval m = .map (some w.heap.size)) (s : ByteArray) (val : Value) (hx : a.eval x = .string s) (hv : a.eval v = val) (hnew : ∀ y ∈ L, y.1 ≠ s)
    (hK : ∀ W', PS w W' n (L ++ [(s, val)]) C → wpList P ops Q rest (a.put o.dst undef) W') : wpList P ops Q (o :: rest) a W := by
  refine wpList_plain hg fun K' hK' => ?_
  obtain ⟨w', hrun, r1, r2, r3⟩ := hown.m.put ht hk hnew val
  unfold Oper.wp
  simp [execOp, hop, hm, hx, hv, hrun, Result.andThen]
  exact hK' _ _ (hK w' (hown.put r1 r2 r3))

theorem bareParser_any (w : World) (n : Nat) (hn : w.heap.size = n) (k : Int) : Calls Tryz.prog 36 #[.int .i64 k] w fun e w' => e = .returned (.func (.func 52) #[] #[.pointer (some ⟨n, 0, none⟩)]) ∧ w' = w.alloc (.cells #[.int .i64 k] 2) := by
  go_enter Tryz.func36, Tryz.ntmps36
  go_wp2
  go_ret
  exact ⟨by rw [← hn]; rfl, rfl⟩
theorem pathParser_any (w : World) (n : Nat) (hn : w.heap.size = n) (k : Int) : Calls Tryz.prog 37 #[.int .i64 k] w fun e w' => e = .returned (.func (.func 53) #[] #[.pointer (some ⟨n, 0, none⟩)]) ∧ w' = w.alloc (.cells #[.int .i64 k] 2) := by
  go_enter Tryz.func37, Tryz.ntmps37
  go_wp2
  go_ret
  exact ⟨by rw [← hn]; rfl, rfl⟩
theorem numberParser_any (w : World) (n : Nat) (hn : w.heap.size = n) (k : Int) (f : Nat) : Calls Tryz.prog 38 #[.int .i64 k, .func (.func f) #[] #[]] w fun e w' => e = .returned (.func (.func 54) #[] #[.pointer (some ⟨n + 1, 0, none⟩), .pointer (some ⟨n, 0, none⟩)]) ∧ w' = (w.alloc (.cells #[.int .i64 k] 2)).alloc (.cells #[.func (.func f) #[] #[]] 69) := by
  go_enter Tryz.func38, Tryz.ntmps38
  go_wp2
  go_ret
  exact ⟨by rw [← hn]; simp, rfl⟩
/-- The words, and what each is read by; n: the map's block. -/
def prL (n : Nat) : List (ByteArray × Value) := [(⟨#[99, 114, 101, 97, 116, 101]⟩, .func (.func 34) #[] #[]),
  (⟨#[115, 101, 113]⟩, .func (.func 34) #[] #[]),
  (⟨#[100, 101, 108, 101, 116, 101]⟩, .func (.func 34) #[] #[]),
  (⟨#[115, 101, 116]⟩, .func (.func 34) #[] #[]),
  (⟨#[99, 104, 101, 99, 107]⟩, .func (.func 34) #[] #[]),
  (⟨#[109, 117, 108, 116, 105]⟩, .func (.func 35) #[] #[]),
  (⟨#[102, 108, 117, 115, 104]⟩, .func (.func 52) #[] #[.pointer (some ⟨n + 1, 0, none⟩)]),
  (⟨#[103, 101, 116]⟩, .func (.func 53) #[] #[.pointer (some ⟨n + 2, 0, none⟩)]),
  (⟨#[108, 105, 115, 116]⟩, .func (.func 53) #[] #[.pointer (some ⟨n + 3, 0, none⟩)]),
  (⟨#[100, 117, 109, 112]⟩, .func (.func 52) #[] #[.pointer (some ⟨n + 4, 0, none⟩)]),
  (⟨#[115, 110, 97, 112]⟩, .func (.func 52) #[] #[.pointer (some ⟨n + 5, 0, none⟩)]),
  (⟨#[115, 116, 101, 112]⟩, .func (.func 54) #[] #[.pointer (some ⟨n + 7, 0, none⟩), .pointer (some ⟨n + 6, 0, none⟩)]),
  (⟨#[97, 114, 109]⟩, .func (.func 54) #[] #[.pointer (some ⟨n + 9, 0, none⟩), .pointer (some ⟨n + 8, 0, none⟩)]),
  (⟨#[99, 114, 97, 115, 104]⟩, .func (.func 54) #[] #[.pointer (some ⟨n + 11, 0, none⟩), .pointer (some ⟨n + 10, 0, none⟩)]),
  (⟨#[114, 111, 116]⟩, .func (.func 54) #[] #[.pointer (some ⟨n + 13, 0, none⟩), .pointer (some ⟨n + 12, 0, none⟩)]),
  (⟨#[114, 101, 99, 111, 118, 101, 114]⟩, .func (.func 52) #[] #[.pointer (some ⟨n + 14, 0, none⟩)]),
  (⟨#[115, 116, 97, 116, 117, 115]⟩, .func (.func 52) #[] #[.pointer (some ⟨n + 15, 0, none⟩)])]
def prC (n : Nat) : List (Nat × Value) := [(n + 1, .int .i64 2), (n + 2, .int .i64 3), (n + 3, .int .i64 4), (n + 4, .int .i64 5), (n + 5, .int .i64 6), (n + 6, .int .i64 7), (n + 7, .func (.func 39) #[] #[]), (n + 8, .int .i64 8), (n + 9, .func (.func 40) #[] #[]), (n + 10, .int .i64 9), (n + 11, .func (.func 41) #[] #[]), (n + 12, .int .i64 10), (n + 13, .func (.func 42) #[] #[]), (n + 14, .int .i64 11), (n + 15, .int .i64 12)]
theorem bne9 {x y : ByteArray} (h : (x.data.toList == y.data.toList) = false) : x ≠ y := fun e => by rw [e] at h; simp at h
set_option linter.unusedSimpArgs false in
set_option maxRecDepth 100000 in
set_option maxHeartbeats 16000000 in
theorem parsers_any (w : World) : Calls Tryz.prog 20 #[] w fun e w' => e = .returned (.map (some w.heap.size)) ∧ PS w w' (w.heap.size + 16) (prL w.heap.size) (prC w.heap.size) := by
  have hmm := @run_makeMap Tryz.prog
  have H0 := hd9 (PS.made w)
  go_enter Tryz.func20, Tryz.ntmps20
  go_wp2_with (refine wpList_ins9 w _ rfl _ _ _ 53 rfl 9 51 Tryz.underlying53 Tryz.underlying9 _ _ _ (H0).out rfl ⟨#[99, 114, 101, 97, 116, 101]⟩ _ rfl rfl (by intro y hy; simp at hy; try (rcases hy with rfl); all_goals exact bne9 (by rfl)) ?_)
  intro u0 H1
  replace H1 := hd9 H1
  clear H0
  go_wp2_with (refine wpList_ins9 w _ rfl _ _ _ 53 rfl 9 51 Tryz.underlying53 Tryz.underlying9 _ _ _ (H1).out rfl ⟨#[115, 101, 113]⟩ _ rfl rfl (by intro y hy; simp at hy; try (rcases hy with rfl); all_goals exact bne9 (by rfl)) ?_)
  intro u1 H2
  replace H2 := hd9 H2
  clear H1
  go_wp2_with (refine wpList_ins9 w _ rfl _ _ _ 53 rfl 9 51 Tryz.underlying53 Tryz.underlying9 _ _ _ (H2).out rfl ⟨#[100, 101, 108, 101, 116, 101]⟩ _ rfl rfl (by intro y hy; simp at hy; try (rcases hy with rfl | rfl); all_goals exact bne9 (by rfl)) ?_)
  intro u2 H3
  replace H3 := hd9 H3
  clear H2
  go_wp2_with (refine wpList_ins9 w _ rfl _ _ _ 53 rfl 9 51 Tryz.underlying53 Tryz.underlying9 _ _ _ (H3).out rfl ⟨#[115, 101, 116]⟩ _ rfl rfl (by intro y hy; simp at hy; try (rcases hy with rfl | rfl | rfl); all_goals exact bne9 (by rfl)) ?_)
  intro u3 H4
  replace H4 := hd9 H4
  clear H3
  go_wp2_with (refine wpList_ins9 w _ rfl _ _ _ 53 rfl 9 51 Tryz.underlying53 Tryz.underlying9 _ _ _ (H4).out rfl ⟨#[99, 104, 101, 99, 107]⟩ _ rfl rfl (by intro y hy; simp at hy; try (rcases hy with rfl | rfl | rfl | rfl); all_goals exact bne9 (by rfl)) ?_)
  intro u4 H5
  replace H5 := hd9 H5
  clear H4
  go_wp2_with (refine wpList_ins9 w _ rfl _ _ _ 53 rfl 9 51 Tryz.underlying53 Tryz.underlying9 _ _ _ (H5).out rfl ⟨#[109, 117, 108, 116, 105]⟩ _ rfl rfl (by intro y hy; simp at hy; try (rcases hy with rfl | rfl | rfl | rfl | rfl); all_goals exact bne9 (by rfl)) ?_)
  intro u5 H6
  replace H6 := hd9 H6
  clear H5
  go_wp2_with fail
  refine (bareParser_any _ _ H6.out.z 2).mono ?_
  rintro e w6 ⟨rfl, rfl⟩
  replace H6 := hd9 (H6.out.box (.int .i64 2) 2)
  generalize World.alloc _ _ = v6 at *
  go_wp2_with (refine wpList_ins9 w _ rfl _ _ _ 53 rfl 9 51 Tryz.underlying53 Tryz.underlying9 _ _ _ (H6).out rfl ⟨#[102, 108, 117, 115, 104]⟩ _ rfl rfl (by intro y hy; simp at hy; try (rcases hy with rfl | rfl | rfl | rfl | rfl | rfl); all_goals exact bne9 (by rfl)) ?_)
  intro u6 H7
  replace H7 := hd9 H7
  clear H6
  go_wp2_with fail
  refine (pathParser_any _ _ H7.out.z 3).mono ?_
  rintro e w7 ⟨rfl, rfl⟩
  replace H7 := hd9 (H7.out.box (.int .i64 3) 2)
  generalize World.alloc _ _ = v7 at *
  go_wp2_with (refine wpList_ins9 w _ rfl _ _ _ 53 rfl 9 51 Tryz.underlying53 Tryz.underlying9 _ _ _ (H7).out rfl ⟨#[103, 101, 116]⟩ _ rfl rfl (by intro y hy; simp at hy; try (rcases hy with rfl | rfl | rfl | rfl | rfl | rfl | rfl); all_goals exact bne9 (by rfl)) ?_)
  intro u7 H8
  replace H8 := hd9 H8
  clear H7
  go_wp2_with fail
  refine (pathParser_any _ _ H8.out.z 4).mono ?_
  rintro e w8 ⟨rfl, rfl⟩
  replace H8 := hd9 (H8.out.box (.int .i64 4) 2)
  generalize World.alloc _ _ = v8 at *
  go_wp2_with (refine wpList_ins9 w _ rfl _ _ _ 53 rfl 9 51 Tryz.underlying53 Tryz.underlying9 _ _ _ (H8).out rfl ⟨#[108, 105, 115, 116]⟩ _ rfl rfl (by intro y hy; simp at hy; try (rcases hy with rfl | rfl | rfl | rfl | rfl | rfl | rfl | rfl); all_goals exact bne9 (by rfl)) ?_)
  intro u8 H9
  replace H9 := hd9 H9
  clear H8
  go_wp2_with fail
  refine (bareParser_any _ _ H9.out.z 5).mono ?_
  rintro e w9 ⟨rfl, rfl⟩
  replace H9 := hd9 (H9.out.box (.int .i64 5) 2)
  generalize World.alloc _ _ = v9 at *
  go_wp2_with (refine wpList_ins9 w _ rfl _ _ _ 53 rfl 9 51 Tryz.underlying53 Tryz.underlying9 _ _ _ (H9).out rfl ⟨#[100, 117, 109, 112]⟩ _ rfl rfl (by intro y hy; simp at hy; try (rcases hy with rfl | rfl | rfl | rfl | rfl | rfl | rfl | rfl | rfl); all_goals exact bne9 (by rfl)) ?_)
  intro u9 H10
  replace H10 := hd9 H10
  clear H9
  go_wp2_with fail
  refine (bareParser_any _ _ H10.out.z 6).mono ?_
  rintro e w10 ⟨rfl, rfl⟩
  replace H10 := hd9 (H10.out.box (.int .i64 6) 2)
  generalize World.alloc _ _ = v10 at *
  go_wp2_with (refine wpList_ins9 w _ rfl _ _ _ 53 rfl 9 51 Tryz.underlying53 Tryz.underlying9 _ _ _ (H10).out rfl ⟨#[115, 110, 97, 112]⟩ _ rfl rfl (by intro y hy; simp at hy; try (rcases hy with rfl | rfl | rfl | rfl | rfl | rfl | rfl | rfl | rfl | rfl); all_goals exact bne9 (by rfl)) ?_)
  intro u10 H11
  replace H11 := hd9 H11
  clear H10
  go_wp2_with fail
  refine (numberParser_any _ _ H11.out.z 7 _).mono ?_
  rintro e w11 ⟨rfl, rfl⟩
  replace H11 := hd9 ((H11.out.box (.int .i64 7) 2).box (.func (.func 39) #[] #[]) 69)
  generalize (World.alloc _ _).alloc _ = v11 at *
  go_wp2_with (refine wpList_ins9 w _ rfl _ _ _ 53 rfl 9 51 Tryz.underlying53 Tryz.underlying9 _ _ _ (H11).out rfl ⟨#[115, 116, 101, 112]⟩ _ rfl rfl (by intro y hy; simp at hy; try (rcases hy with rfl | rfl | rfl | rfl | rfl | rfl | rfl | rfl | rfl | rfl | rfl); all_goals exact bne9 (by rfl)) ?_)
  intro u11 H12
  replace H12 := hd9 H12
  clear H11
  go_wp2_with fail
  refine (numberParser_any _ _ H12.out.z 8 _).mono ?_
  rintro e w12 ⟨rfl, rfl⟩
  replace H12 := hd9 ((H12.out.box (.int .i64 8) 2).box (.func (.func 40) #[] #[]) 69)
  generalize (World.alloc _ _).alloc _ = v12 at *
  go_wp2_with (refine wpList_ins9 w _ rfl _ _ _ 53 rfl 9 51 Tryz.underlying53 Tryz.underlying9 _ _ _ (H12).out rfl ⟨#[97, 114, 109]⟩ _ rfl rfl (by intro y hy; simp at hy; try (rcases hy with rfl | rfl | rfl | rfl | rfl | rfl | rfl | rfl | rfl | rfl | rfl | rfl); all_goals exact bne9 (by rfl)) ?_)
  intro u12 H13
  replace H13 := hd9 H13
  clear H12
  go_wp2_with fail
  refine (numberParser_any _ _ H13.out.z 9 _).mono ?_
  rintro e w13 ⟨rfl, rfl⟩
  replace H13 := hd9 ((H13.out.box (.int .i64 9) 2).box (.func (.func 41) #[] #[]) 69)
  generalize (World.alloc _ _).alloc _ = v13 at *
  go_wp2_with (refine wpList_ins9 w _ rfl _ _ _ 53 rfl 9 51 Tryz.underlying53 Tryz.underlying9 _ _ _ (H13).out rfl ⟨#[99, 114, 97, 115, 104]⟩ _ rfl rfl (by intro y hy; simp at hy; try (rcases hy with rfl | rfl | rfl | rfl | rfl | rfl | rfl | rfl | rfl | rfl | rfl | rfl | rfl); all_goals exact bne9 (by rfl)) ?_)
  intro u13 H14
  replace H14 := hd9 H14
  clear H13
  go_wp2_with fail
  refine (numberParser_any _ _ H14.out.z 10 _).mono ?_
  rintro e w14 ⟨rfl, rfl⟩
  replace H14 := hd9 ((H14.out.box (.int .i64 10) 2).box (.func (.func 42) #[] #[]) 69)
  generalize (World.alloc _ _).alloc _ = v14 at *
  go_wp2_with (refine wpList_ins9 w _ rfl _ _ _ 53 rfl 9 51 Tryz.underlying53 Tryz.underlying9 _ _ _ (H14).out rfl ⟨#[114, 111, 116]⟩ _ rfl rfl (by intro y hy; simp at hy; try (rcases hy with rfl | rfl | rfl | rfl | rfl | rfl | rfl | rfl | rfl | rfl | rfl | rfl | rfl | rfl); all_goals exact bne9 (by rfl)) ?_)
  intro u14 H15
  replace H15 := hd9 H15
  clear H14
  go_wp2_with fail
  refine (bareParser_any _ _ H15.out.z 11).mono ?_
  rintro e w15 ⟨rfl, rfl⟩
  replace H15 := hd9 (H15.out.box (.int .i64 11) 2)
  generalize World.alloc _ _ = v15 at *
  go_wp2_with (refine wpList_ins9 w _ rfl _ _ _ 53 rfl 9 51 Tryz.underlying53 Tryz.underlying9 _ _ _ (H15).out rfl ⟨#[114, 101, 99, 111, 118, 101, 114]⟩ _ rfl rfl (by intro y hy; simp at hy; try (rcases hy with rfl | rfl | rfl | rfl | rfl | rfl | rfl | rfl | rfl | rfl | rfl | rfl | rfl | rfl | rfl); all_goals exact bne9 (by rfl)) ?_)
  intro u15 H16
  replace H16 := hd9 H16
  clear H15
  go_wp2_with fail
  refine (bareParser_any _ _ H16.out.z 12).mono ?_
  rintro e w16 ⟨rfl, rfl⟩
  replace H16 := hd9 (H16.out.box (.int .i64 12) 2)
  generalize World.alloc _ _ = v16 at *
  go_wp2_with (refine wpList_ins9 w _ rfl _ _ _ 53 rfl 9 51 Tryz.underlying53 Tryz.underlying9 _ _ _ (H16).out rfl ⟨#[115, 116, 97, 116, 117, 115]⟩ _ rfl rfl (by intro y hy; simp at hy; try (rcases hy with rfl | rfl | rfl | rfl | rfl | rfl | rfl | rfl | rfl | rfl | rfl | rfl | rfl | rfl | rfl | rfl); all_goals exact bne9 (by rfl)) ?_)
  intro u16 H17
  replace H17 := hd9 H17
  clear H16
  go_wp2_with fail
  go_ret
  exact ⟨rfl, H17.out⟩
end Go.Proofs.YtmjliomhhgahkaaGreatDoor


