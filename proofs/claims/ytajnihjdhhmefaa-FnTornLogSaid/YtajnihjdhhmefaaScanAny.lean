import Derived.Test.YtajnihjdhhmefaaSpecScan
import Derived.Test.YtajnihjdhhmefaaLUnpack
namespace Go.Proofs.Ytajnihjdhhmefaa
open Go.RowKit

theorem specScan_any (f : Nat) : SpecOK f := by
  induction f using Nat.strongRecOn with
  | _ f IH => exact fun w ao n cap a h hl hby hn hnf => specScan_step f IH w ao n cap a h hl hby hn hnf

def scR (a : List Int) : List (List Int) := if a.length ≤ 8192 then (scn a.length a).map (·.1) else []
def scE (a : List Int) : Int := if a.length ≤ 8192 then ((pos (scn a.length a) (scn a.length a).length : Nat) : Int) else 0

theorem tot_scn : ∀ (f : Nat) (a : List Int), totP ((scn f a).map (·.1)) ≤ pos (scn f a) (scn f a).length
  | 0, a => by simp [scn, totP]
  | f + 1, a => by
    cases e : frmB a with
    | false => rw [scn_no e]; simp [totP]
    | true =>
      rw [scn_yes e, List.length_cons, pos_cons]
      have h1 := tot_scn f (a.drop (2 + frm_m a))
      have h2 : (frm_p a).length ≤ frm_m a := by
        unfold frm_p
        have := unp_length ((a.drop 2).take (frm_m a))
        rw [List.length_take] at this
        omega
      simp only [totP, List.map_cons, List.sum_cons] at h1 ⊢
      omega

theorem scR_tot (a : List Int) : totP (scR a) ≤ 8192 := by
  unfold scR
  split
  · next h =>
    have h1 := tot_scn a.length a
    have h2 := (scn_all a.length a (Nat.le_refl _)).2.2 _ (Nat.le_refl _)
    omega
  · simp [totP]
theorem scR_len (a : List Int) : (scR a).length ≤ 8192 := by
  unfold scR
  split
  · next h =>
    have := scn_short a.length a (Nat.le_refl _)
    rw [List.length_map]; omega
  · simp

set_option maxHeartbeats 400000 in
theorem implScan_big (w : World) (ao : Option Addr) (n cap : Nat) (hn : 8192 < n) (hm : n ≤ 1048576) :
    Calls Try.prog 12 #[.slice ao n cap] w fun e w' => e = .returned (.agg #[.slice none 0 0, .int .i64 0]) ∧ Below w.heap.size w w' := by
  have B0 : Hid (Below w.heap.size w (w.alloc (.cells #[.slice none 0 0, .int .i64 0] 29))) := (Below.refl _ _).alloc (Nat.le_refl _) _
  have h0 : (8192 : Int) < (n : Int) := by omega
  have h0d : decide ((8192 : Int) < (n : Int)) = true := by simpa using h0
  go_enter Try.func12, Try.ntmps12
  go_wp2
  refine bodyPost_ret (v := .agg #[.slice none 0 0, .int .i64 0]) (by simp [results, Try.results12, go_sem]) rfl ⟨rfl, ?_⟩
  repeat (first | exact B0.out | refine Below.setCell ?_ (by simp; try omega) _)

set_option maxHeartbeats 400000 in
theorem specScan_big (w : World) (ao : Option Addr) (n cap : Nat) (hn : 8192 < n) (hm : n ≤ 1048576) :
    Calls Try.prog 18 #[.slice ao n cap] w fun e w' => e = .returned (.agg #[.slice none 0 0, .int .i64 0]) ∧ Below w.heap.size w w' := by
  have B0 : Hid (Below w.heap.size w (w.alloc (.cells #[.slice none 0 0, .int .i64 0] 29))) := (Below.refl _ _).alloc (Nat.le_refl _) _
  have h0 : (8192 : Int) < (n : Int) := by omega
  have h0d : decide ((8192 : Int) < (n : Int)) = true := by simpa using h0
  go_enter Try.func18, Try.ntmps18
  go_wp2
  refine bodyPost_ret (v := .agg #[.slice none 0 0, .int .i64 0]) (by simp [results, Try.results18, go_sem]) rfl ⟨rfl, ?_⟩
  repeat (first | exact B0.out | refine Below.setCell ?_ (by simp; try omega) _)

theorem scan_big {w w' : World} {a : List Int} {e : Ending} (hn : ¬ a.length ≤ 8192) (h : e = .returned (.agg #[.slice none 0 0, .int .i64 0]) ∧ Below w.heap.size w w') :
    ∃ va vc us, e = .returned (.agg #[.slice va (scR a).length vc, .int .i64 (scE a)]) ∧ OwnP w' w.heap.size (.slice va (scR a).length vc) (scR a) us ∧ Below w.heap.size w w' := by
  unfold scR scE
  rw [if_neg hn, if_neg hn]
  exact ⟨none, 0, [], h.1, ⟨World.ownsRow_nil _ _ _ _, fun i hi => by simp at hi, fun i j hi => by simp at hi, fun i hi => by simp at hi⟩, h.2⟩

theorem scan_small {w w' : World} {a : List Int} {e : Ending} (hn : a.length ≤ 8192) (h : ScanPost w a.length a e w') :
    ∃ va vc us, e = .returned (.agg #[.slice va (scR a).length vc, .int .i64 (scE a)]) ∧ OwnP w' w.heap.size (.slice va (scR a).length vc) (scR a) us ∧ Below w.heap.size w w' := by
  unfold scR scE
  rw [if_pos hn, if_pos hn]
  obtain ⟨v, us, h1, h2, h3⟩ := h
  obtain ⟨va, vc, rfl⟩ := h2.slice
  exact ⟨va, vc, us, h1, h2, h3⟩

theorem implScan_any (w : World) (lo : Nat) (v : Value) (a : List Int) (h : Own .u8 5 w lo v a) (hby : Byt a) (hm : a.length ≤ 1048576) :
    Calls Try.prog 12 #[v] w fun e w' => ∃ va vc us, e = .returned (.agg #[.slice va (scR a).length vc, .int .i64 (scE a)]) ∧ OwnP w' w.heap.size (.slice va (scR a).length vc) (scR a) us ∧ Below w.heap.size w w' := by
  obtain ⟨ao, cap, hv⟩ := Own.slice h
  by_cases hn : a.length ≤ 8192
  · have hform : (ao = none ∧ a.length = 0 ∧ cap = 0) ∨ ∃ blk o, ao = some ⟨blk, o, none⟩ := by
      rcases h.2 with ⟨h1, h2⟩ | ⟨g, c, cur, h1, -⟩
      · rw [hv] at h1; simp only [Value.slice.injEq] at h1; exact .inl h1
      · rw [hv] at h1; simp only [Value.slice.injEq] at h1; exact .inr ⟨g, 0, h1.1⟩
    subst hv
    refine (implScan_yes w ao a.length cap a h.rd rfl hby hn hform).mono ?_
    intro e w' hh
    exact scan_small hn hh
  · subst hv
    refine (implScan_big w ao a.length cap (by omega) hm).mono ?_
    intro e w' hh
    exact scan_big hn hh

theorem specScan_all (w : World) (lo : Nat) (v : Value) (a : List Int) (h : Own .u8 5 w lo v a) (hby : Byt a) (hm : a.length ≤ 1048576) :
    Calls Try.prog 18 #[v] w fun e w' => ∃ va vc us, e = .returned (.agg #[.slice va (scR a).length vc, .int .i64 (scE a)]) ∧ OwnP w' w.heap.size (.slice va (scR a).length vc) (scR a) us ∧ Below w.heap.size w w' := by
  obtain ⟨ao, cap, hv⟩ := Own.slice h
  subst hv
  by_cases hn : a.length ≤ 8192
  · refine (specScan_any a.length w ao a.length cap a h.rd rfl hby hn (Nat.le_refl _)).mono ?_
    intro e w' hh
    exact scan_small hn hh
  · refine (specScan_big w ao a.length cap (by omega) hm).mono ?_
    intro e w' hh
    exact scan_big hn hh

end Go.Proofs.Ytajnihjdhhmefaa
