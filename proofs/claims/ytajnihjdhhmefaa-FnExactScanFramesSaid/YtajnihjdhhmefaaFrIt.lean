import Derived.Test.YtajnihjdhhmefaaScanNote
import Derived.Test.YtajnihjdhhmefaaRangeGiven
namespace Go.Proofs.Ytajnihjdhhmefaa
open Go.RowKit Go.Shelf

attribute [local go_sem] Oper.semAt_some

set_option maxHeartbeats 400000 in
theorem frames_in (F : Fence) (n : Nat) (h87 : F.fn 39) (hro : F.round = none) (ao : Option Addr) (m cap : Nat) (w : World) :
    CallsIn F n Try.prog 39 #[.slice ao m cap] w fun e w' => e = .returned (.func (.func 69) #[] #[.pointer (some ⟨w.heap.size, 0, none⟩)]) ∧ w' = w.alloc (.cells #[.slice ao m cap] 22) := by
  refine callsIn_of_wp Try.func39 rfl h87 ?_ hro
  simp only [Try.ntmps39, List.size_toArray, List.length_cons, List.length_nil, Nat.reduceAdd, Nat.reduceSub, Array.replicate_succ, Array.replicate_zero, List.push_toArray, List.append_toArray, List.nil_append, List.cons_append]
  gi_wp2
  go_ret
  exact ⟨rfl, rfl⟩

/-- The payload among what is handed on. -/
def uOf (vs : Array Value) : Value := match (vs.getD 1 (.slice none 0 0) : Value) with
  | Value.agg us => us.getD 0 (.slice none 0 0)
  | _ => .slice none 0 0

/-- What the iterator hands on behind the payloads s. -/
def PreS (R : List (List Int × Nat)) (St : List Value → World → Prop) (s : List Value) (vs : Array Value) (W : World) : Prop :=
  ∃ u W0, vs = #[.int .i64 ((pos R (s.length + 1) : Nat) : Int), .agg #[u]] ∧ s.length < R.length ∧ St s W0 ∧ Below W0.heap.size W0 W ∧ Own .u8 5 W W0.heap.size u (R.getD s.length ([], 0)).1

theorem rd_cutN {w : World} {ao : Option Addr} {n cap : Nat} {a : List Int} (h : Rd .u8 w (.slice ao n cap) a) (hl : a.length = n) (blk o : Nat) (he : ao = some ⟨blk, o, none⟩) (p : Nat) (hp : p ≤ n) : Rd .u8 w (.slice (some ⟨blk, o + p, none⟩) (n - p) (cap - p)) (a.drop p) := by
  obtain ⟨ao', cap', e, h1, h2, h3⟩ := h
  simp only [Value.slice.injEq] at e
  obtain ⟨rfl, hn, rfl⟩ := e
  have hlen : (a.drop p).length = n - p := by rw [List.length_drop]; omega
  refine ⟨_, cap - p, by rw [hlen], by omega, by omega, ?_⟩
  rcases h3 with rfl | ⟨b, o', e2, hb, hc⟩
  · exact .inl (by simp)
  · rw [he] at e2
    simp only [Option.some.injEq, Addr.mk.injEq, and_true] at e2
    obtain ⟨rfl, rfl⟩ := e2
    refine .inr ⟨blk, o + p, rfl, hb, fun j hj => ?_⟩
    rw [hlen] at hj
    have := hc (p + j) (by omega)
    rw [Nat.add_assoc, this]
    simp [List.getD, List.getElem?_drop]

theorem rd_empty (w : World) (ao : Option Addr) (cap : Nat) (hc : cap ≤ maxLen) : Rd .u8 w (.slice ao 0 cap) [] := ⟨ao, cap, rfl, Nat.zero_le _, hc, .inl rfl⟩

set_option maxHeartbeats 2000000 in
set_option maxRecDepth 100000 in
theorem frames1_some (nn : Nat) (hn1 : 1 ≤ nn) (l Ba : Nat) (blk o n cap : Nat) (a : List Int) (hl : a.length = n) (hby : Byt a) (hn : n ≤ 8192)
    (St : List Value → World → Prop) (Bk : World → Prop)
    (hSB : ∀ s X Y, Below X.heap.size X Y → St s X → St s Y) (hBB : ∀ X Y, Below X.heap.size X Y → Bk X → Bk Y)
    (hSR : ∀ s W, St s W → W.cell? ⟨Ba, 0, none⟩ = some (.slice (some ⟨blk, o, none⟩) n cap) ∧ Rd .u8 W (.slice (some ⟨blk, o, none⟩) n cap) a)
    (hY : ∀ s vs W, St s W → Bk W → PreS (scn n a) St s vs W → YieldAt Fence.wide (nn - 1) Try.prog l vs W fun e W' => e = .returned (.bool true) ∧ St (s ++ [uOf vs]) W' ∧ Bk W')
    (W : World) (h0 : St [] W) (h1 : Bk W) :
    CallsIn Fence.wide nn Try.prog 69 #[.func (.yield l) #[] #[], .pointer (some ⟨Ba, 0, none⟩)] W fun e W' => (∃ v, e = .returned v) ∧ ∃ s, s.length = (scn n a).length ∧ St s W' ∧ Bk W' := by
  have HY : Hid (∀ s vs W, St s W → Bk W → PreS (scn n a) St s vs W → YieldAt Fence.wide (nn - 1) Try.prog l vs W fun e W' => e = .returned (.bool true) ∧ St (s ++ [uOf vs]) W' ∧ Bk W') := hY
  have HSB : Hid (∀ s X Y, Below X.heap.size X Y → St s X → St s Y) := hSB
  have HBB : Hid (∀ X Y, Below X.heap.size X Y → Bk X → Bk Y) := hBB
  have HSR : Hid (∀ s W, St s W → W.cell? ⟨Ba, 0, none⟩ = some (.slice (some ⟨blk, o, none⟩) n cap) ∧ Rd .u8 W (.slice (some ⟨blk, o, none⟩) n cap) a) := hSR
  have H0 : Hid (St [] W) := h0
  have H1 : Hid (Bk W) := h1
  have HL : Hid (a.length = n) := hl
  have HBY : Hid (Byt a) := hby
  have HALL : Hid _ := scn_all n a (by omega)
  clear hY hSB hBB hSR h0 h1 hl hby
  obtain ⟨c0, r0⟩ := HSR.out [] W H0.out
  have hcn : n ≤ cap ∧ cap ≤ maxLen := by
    obtain ⟨_, _, e1, hc1, hc2⟩ := r0.len
    simp only [Value.slice.injEq] at e1; have := HL.out; omega
  clear c0 r0
  obtain ⟨hcn1, hcn2⟩ := hcn
  have HCM : Hid (cap ≤ maxLen) := hcn2
  unfold maxLen at hcn2
  generalize scn n a = R at *
  refine callsIn_of_wp Try.func69 rfl trivial ?_ rfl
  simp only [Try.ntmps69, List.size_toArray, List.length_cons, List.length_nil, Nat.reduceAdd, Nat.reduceSub, Array.replicate_succ, Array.replicate_zero, List.push_toArray, List.append_toArray, List.nil_append, List.cons_append]
  gi_wp2
  gi_loopw [3] (fun i wr => ∃ s : List Value, ∃ p : Nat, s.length ≤ R.length ∧ Hid (pos R s.length = p) ∧ p ≤ n ∧ i = .int .i64 p ∧ Hid (St s wr) ∧ Hid (Bk wr)) (fun i _ => n - (intOf i).toNat)
  case atStart => exact ⟨[], 0, Nat.zero_le _, pos_zero _, Nat.zero_le _, rfl, H0.out, H1.out⟩
  case round =>
    obtain ⟨s, p, hs, HP, hp, rfl, HS, HB⟩ := hrel
    obtain ⟨cB, rA⟩ := HSR.out s wr HS.out
    have RA : Hid (Rd .u8 wr (.slice (some ⟨blk, o, none⟩) n cap) a) := rA
    clear rA
    by_cases hcp : cap = p
    · have RS : Hid (Rd .u8 wr (.slice (some ⟨blk, o, none⟩) (n - p) 0) (a.drop p)) := by
        have e1 : n - p = 0 := by omega
        have e2 : a.drop p = [] := List.eq_nil_of_length_eq_zero (by rw [List.length_drop, HL.out]; exact e1)
        rw [e1, e2]; exact rd_empty _ _ _ (Nat.zero_le _)
      gi_wp2_with fail
      refine ⟨trivial, ?_⟩
      refine (callsIn_wide.2 (recordAt_any wr (some ⟨blk, o, none⟩) (n - p) 0 (a.drop p) RS.out (by rw [List.length_drop, HL.out]) (fun x hx => HBY.out x (List.mem_of_mem_drop hx)) (by omega))).mono ?_
      rintro e w2 ⟨⟨u, sz, rfl, hc⟩, b2⟩
      have HS2 : Hid (St s w2) := HSB.out s wr w2 b2 HS.out
      have HB2 : Hid (Bk w2) := HBB.out wr w2 b2 HB.out
      by_cases hlt : s.length < R.length
      · rcases hc with ⟨hf, -, -⟩ | ⟨hf, hsz, o2⟩
        · have := (HALL.out.1 s.length hlt).1; rw [HP.out, hf] at this; cases this
        · subst hsz
          have hget := (HALL.out.1 s.length hlt).2
          have hps := pos_succ R s.length hlt
          have hle := HALL.out.2.2 (s.length + 1) hlt
          rw [HP.out] at hget hps
          rw [hget] at hps
          rw [HL.out] at hle
          rw [hps] at hle
          omega
      · rcases hc with ⟨hf, rfl, rfl⟩ | ⟨hf, -, -⟩
        · have hsl : Hid (s.length = R.length) := by show _ = _; omega
          gi_wp2
          refine bodyPost_ret (results_none rfl _ _ _) rfl ?_
          exact ⟨⟨_, rfl⟩, s, hsl.out, HSB.out s _ _ ((Below.refl _ _).alloc (Nat.le_refl _) _) HS2.out, HBB.out _ _ ((Below.refl _ _).alloc (Nat.le_refl _) _) HB2.out⟩
        · have h9 := HALL.out.2.1
          have e9 : s.length = R.length := by omega
          rw [← e9, HP.out, hf] at h9; cases h9
    · have RS : Hid (Rd .u8 wr (.slice (some ⟨blk, o + p, none⟩) (n - p) (cap - p)) (a.drop p)) := rd_cutN RA.out HL.out blk o rfl p hp
      gi_wp2_with fail
      refine ⟨trivial, ?_⟩
      refine (callsIn_wide.2 (recordAt_any wr (some ⟨blk, o + p, none⟩) (n - p) (cap - p) (a.drop p) RS.out (by rw [List.length_drop, HL.out]) (fun x hx => HBY.out x (List.mem_of_mem_drop hx)) (by omega))).mono ?_
      rintro e w2 ⟨⟨u, sz, rfl, hc⟩, b2⟩
      have HS2 : Hid (St s w2) := HSB.out s wr w2 b2 HS.out
      have HB2 : Hid (Bk w2) := HBB.out wr w2 b2 HB.out
      by_cases hlt : s.length < R.length
      · rcases hc with ⟨hf, -, -⟩ | ⟨hf, hsz, o2⟩
        · have := (HALL.out.1 s.length hlt).1; rw [HP.out, hf] at this; cases this
        · subst hsz
          have hget := (HALL.out.1 s.length hlt).2
          have hps := pos_succ R s.length hlt
          have hle := HALL.out.2.2 (s.length + 1) hlt
          rw [HP.out] at hget hps
          rw [hget] at hps
          rw [HL.out] at hle
          have hP2 : Hid (pos R (s.length + 1) = p + (2 + frm_m (a.drop p))) := hps
          have hle2 : p + (2 + frm_m (a.drop p)) ≤ n := by rw [hps] at hle; exact hle
          obtain ⟨ua, uc, rfl⟩ := Own.slice o2
          have hul : (frm_p (a.drop p)).length ≤ maxLen := by obtain ⟨_, _, e, h1, h2⟩ := o2.rd.len; simp only [Value.slice.injEq] at e; omega
          unfold maxLen at hul
          have BA : Below w2.heap.size w2 (w2.alloc (.cells #[.slice ua (frm_p (a.drop p)).length uc] 32)) := (Below.refl _ _).alloc (Nat.le_refl _) _
          have hpre : PreS R St s #[.int .i64 (((p : Nat) : Int) + ((2 + frm_m (a.drop p) : Nat) : Int)), .agg #[.slice ua (frm_p (a.drop p)).length uc]] (w2.alloc (.cells #[.slice ua (frm_p (a.drop p)).length uc] 32)) := ⟨_, wr, by rw [hP2.out, Int.natCast_add p], hlt, HS.out, b2.trans (BA.mono b2.size), by rw [hget]; exact o2.below BA⟩
          have hYx := HY.out s _ _ (HSB.out s _ _ BA HS2.out) (HBB.out _ _ BA HB2.out) hpre
          clear hpre hget hps hle hf o2 b2 cB HS HB BA HS2 HB2
          have hszI : ¬ (((2 + frm_m (a.drop p) : Nat) : Int) = 0) := by omega
          generalize (frm_p (a.drop p)).length = ul at *
          generalize 2 + frm_m (a.drop p) = sz at *
          have hszb : ((sz : Int) == 0) = false := by simpa using hszI
          obtain ⟨fn, tmps, assign, body, hy, hR⟩ := hYx
          gi_wp2
          refine hR.mono ?_
          rintro e W3 ⟨rfl, hS3, hB3⟩
          have HS3 : Hid (St (s ++ [.slice ua ul uc]) W3) := hS3
          have HB3 : Hid (Bk W3) := hB3
          clear hS3 hB3 hy hR
          gi_wp2
          go_roundw
          case rel => exact ⟨s ++ [.slice ua ul uc], p + sz, by rw [List.length_append]; exact hlt, by rw [List.length_append]; exact hP2.out, hle2, by go_num, HS3, HB3⟩
          case measure => simp [intOf]; omega
      · rcases hc with ⟨hf, rfl, rfl⟩ | ⟨hf, -, -⟩
        · have hsl : Hid (s.length = R.length) := by show _ = _; omega
          gi_wp2
          refine bodyPost_ret (results_none rfl _ _ _) rfl ?_
          exact ⟨⟨_, rfl⟩, s, hsl.out, HSB.out s _ _ ((Below.refl _ _).alloc (Nat.le_refl _) _) HS2.out, HBB.out _ _ ((Below.refl _ _).alloc (Nat.le_refl _) _) HB2.out⟩
        · have h9 := HALL.out.2.1
          have e9 : s.length = R.length := by omega
          rw [← e9, HP.out, hf] at h9; cases h9

set_option maxHeartbeats 1000000 in
set_option maxRecDepth 100000 in
theorem frames1_nil (nn : Nat) (hn1 : 1 ≤ nn) (l Ba : Nat) (St : List Value → World → Prop) (Bk : World → Prop)
    (hSB : ∀ s X Y, Below X.heap.size X Y → St s X → St s Y) (hBB : ∀ X Y, Below X.heap.size X Y → Bk X → Bk Y)
    (hSR : ∀ s W, St s W → W.cell? ⟨Ba, 0, none⟩ = some (.slice none 0 0))
    (W : World) (h0 : St [] W) (h1 : Bk W) :
    CallsIn Fence.wide nn Try.prog 69 #[.func (.yield l) #[] #[], .pointer (some ⟨Ba, 0, none⟩)] W fun e W' => (∃ v, e = .returned v) ∧ ∃ s, s.length = (scn 0 []).length ∧ St s W' ∧ Bk W' := by
  have HSB : Hid (∀ s X Y, Below X.heap.size X Y → St s X → St s Y) := hSB
  have HBB : Hid (∀ X Y, Below X.heap.size X Y → Bk X → Bk Y) := hBB
  have HSR : Hid (∀ s W, St s W → W.cell? ⟨Ba, 0, none⟩ = some (.slice none 0 0)) := hSR
  have H0 : Hid (St [] W) := h0
  have H1 : Hid (Bk W) := h1
  clear hSB hBB hSR h0 h1
  refine callsIn_of_wp Try.func69 rfl trivial ?_ rfl
  simp only [Try.ntmps69, List.size_toArray, List.length_cons, List.length_nil, Nat.reduceAdd, Nat.reduceSub, Array.replicate_succ, Array.replicate_zero, List.push_toArray, List.append_toArray, List.nil_append, List.cons_append]
  gi_wp2
  gi_loopw [3] (fun i wr => i = .int .i64 0 ∧ Hid (St [] wr) ∧ Hid (Bk wr)) (fun _ _ => 0)
  case atStart => exact ⟨rfl, H0.out, H1.out⟩
  case round =>
    obtain ⟨rfl, HS, HB⟩ := hrel
    have cB := HSR.out [] wr HS.out
    gi_wp2_with fail
    refine ⟨trivial, ?_⟩
    refine (callsIn_wide.2 (recordAt_any wr none 0 0 [] (rd_empty _ _ _ (Nat.zero_le _)) rfl (fun x hx => by cases hx) (by omega))).mono ?_
    rintro e w2 ⟨⟨u, sz, rfl, hc⟩, b2⟩
    have HS2 : Hid (St [] w2) := HSB.out [] wr w2 b2 HS.out
    have HB2 : Hid (Bk w2) := HBB.out wr w2 b2 HB.out
    rcases hc with ⟨hf, rfl, rfl⟩ | ⟨hf, -, -⟩
    · clear hf
      gi_wp2
      refine bodyPost_ret (results_none rfl _ _ _) rfl ?_
      exact ⟨⟨_, rfl⟩, [], rfl, HSB.out [] _ _ ((Below.refl _ _).alloc (Nat.le_refl _) _) HS2.out, HBB.out _ _ ((Below.refl _ _).alloc (Nat.le_refl _) _) HB2.out⟩
    · have := ((frmB_iff []).1 hf).1
      simp at this

end Go.Proofs.Ytajnihjdhhmefaa
