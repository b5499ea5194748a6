import Derived.Test.YtgjenbgclpmjmaaDoorJ04
import Derived.Test.YtgjenbgclpmjmaaDoorJ02
import Derived.Test.YtgjenbgclpmjmaaDoorJ03
namespace Go.Proofs.YtgjenbgclpmjmaaDoor
open Go.RowKit

/-- Nothing but a path. -/
def blank (n : Nd) : Bool := (n.data.toList == []) && (n.ver == 0) && (n.cver == 0) && (n.cz == 0) && (n.mz == 0) && (n.pz == 0)
def okEf (e : Ef) : Bool := okNd e.nd && (!e.del || blank e.nd)
theorem okEf_false {e : Ef} (h : e.del = false) : okEf e = okNd e.nd := by unfold okEf; rw [h]; simp
theorem okEf_true {e : Ef} (h : e.del = true) : okEf e = (okNd e.nd && blank e.nd) := by unfold okEf; rw [h]; simp

set_option maxHeartbeats 4000000 in
set_option maxRecDepth 100000 in
theorem validEffect_any (w : World) (n : Ef) (hd : n.nd.data.size ≤ 1048576) :
    Calls Tryd.prog 66 #[.agg #[.bool n.del, .string n.nd.path, .string n.nd.data, .int .i64 n.nd.ver, .int .i64 n.nd.cver, .int .i64 n.nd.cz, .int .i64 n.nd.mz, .int .i64 n.nd.pz]] w fun e w' => e = .returned (.bool (okEf n)) ∧ Below w.heap.size w w' := by
  have B0 : Hid (∀ o, Below w.heap.size w (w.alloc o)) := fun o => (Below.refl _ _).alloc (Nat.le_refl _) _
  cases hdel : n.del with
  | false =>
    have HE : Hid (okEf n = okNd n.nd) := okEf_false hdel
    go_enter Tryd.func66, Tryd.ntmps66
    go_wp2_with fail
    refine (implNode_any _ n.nd hd).mono ?_
    rintro e w1 ⟨rfl, b1⟩
    have B1 : Hid (Below w.heap.size w w1) := (B0.out _).trans (b1.mono (by simp))
    clear b1
    go_wp2
    go_ret
    exact ⟨ret_b HE.out.symm, B1.out⟩
  | true =>
    have HE : Hid (okEf n = (okNd n.nd && blank n.nd)) := okEf_true hdel
    clear hdel
    have hpp : (n.nd.path.toList == n.nd.path.toList) = true := by simp
    cases h_dat : (n.nd.data.toList == []) with
    | false =>
      have HN : Hid (okEf n = false) := by show _ = _; rw [HE.out]; unfold blank; rw [h_dat]; simp
      go_enter Tryd.func66, Tryd.ntmps66
      go_wp2_with fail
      go_ret
      exact ⟨ret_b HN.out.symm, B0.out _⟩
    | true =>
      cases h_ver : (n.nd.ver == 0) with
      | false =>
        have HN : Hid (okEf n = false) := by show _ = _; rw [HE.out]; unfold blank; rw [h_ver]; simp
        go_enter Tryd.func66, Tryd.ntmps66
        go_wp2_with fail
        go_ret
        exact ⟨ret_b HN.out.symm, B0.out _⟩
      | true =>
        cases h_cver : (n.nd.cver == 0) with
        | false =>
          have HN : Hid (okEf n = false) := by show _ = _; rw [HE.out]; unfold blank; rw [h_cver]; simp
          go_enter Tryd.func66, Tryd.ntmps66
          go_wp2_with fail
          go_ret
          exact ⟨ret_b HN.out.symm, B0.out _⟩
        | true =>
          cases h_cz : (n.nd.cz == 0) with
          | false =>
            have HN : Hid (okEf n = false) := by show _ = _; rw [HE.out]; unfold blank; rw [h_cz]; simp
            go_enter Tryd.func66, Tryd.ntmps66
            go_wp2_with fail
            go_ret
            exact ⟨ret_b HN.out.symm, B0.out _⟩
          | true =>
            cases h_mz : (n.nd.mz == 0) with
            | false =>
              have HN : Hid (okEf n = false) := by show _ = _; rw [HE.out]; unfold blank; rw [h_mz]; simp
              go_enter Tryd.func66, Tryd.ntmps66
              go_wp2_with fail
              go_ret
              exact ⟨ret_b HN.out.symm, B0.out _⟩
            | true =>
              cases h_pz : (n.nd.pz == 0) with
              | false =>
                have HN : Hid (okEf n = false) := by show _ = _; rw [HE.out]; unfold blank; rw [h_pz]; simp
                go_enter Tryd.func66, Tryd.ntmps66
                go_wp2_with fail
                go_ret
                exact ⟨ret_b HN.out.symm, B0.out _⟩
              | true =>
                have HY : Hid (okEf n = okNd n.nd) := by show _ = _; rw [HE.out]; unfold blank; rw [h_dat, h_ver, h_cver, h_cz, h_mz, h_pz]; simp
                go_enter Tryd.func66, Tryd.ntmps66
                go_wp2_with fail
                refine (implNode_any _ n.nd hd).mono ?_
                rintro e w1 ⟨rfl, b1⟩
                have B1 : Hid (Below w.heap.size w w1) := (B0.out _).trans (b1.mono (by simp))
                clear b1
                go_wp2
                go_ret
                exact ⟨ret_b HY.out.symm, B1.out⟩

end Go.Proofs.YtgjenbgclpmjmaaDoor

namespace Go.Proofs.YtgjenbgclpmjmaaDoor
open Go.RowKit

/-- A local effect. -/
structure BoxE (w : World) (B : Nat) (n : Ef) : Prop where
  lt : B < w.heap.size
  c0 : w.cell? ⟨B, 0, none⟩ = some (.bool n.del)
  c1 : w.cell? ⟨B, 1, none⟩ = some (.string n.nd.path)
  c2 : w.cell? ⟨B, 2, none⟩ = some (.string n.nd.data)
  c3 : w.cell? ⟨B, 3, none⟩ = some (.int .i64 n.nd.ver)
  c4 : w.cell? ⟨B, 4, none⟩ = some (.int .i64 n.nd.cver)
  c5 : w.cell? ⟨B, 5, none⟩ = some (.int .i64 n.nd.cz)
  c6 : w.cell? ⟨B, 6, none⟩ = some (.int .i64 n.nd.mz)
  c7 : w.cell? ⟨B, 7, none⟩ = some (.int .i64 n.nd.pz)
theorem BoxE.new (w : World) (n : Ef) (t : TypeId) : BoxE (w.alloc (.cells #[.bool n.del, .string n.nd.path, .string n.nd.data, .int .i64 n.nd.ver, .int .i64 n.nd.cver, .int .i64 n.nd.cz, .int .i64 n.nd.mz, .int .i64 n.nd.pz] t)) w.heap.size n :=
  ⟨by simp, by simp, by simp, by simp, by simp, by simp, by simp, by simp, by simp⟩
theorem BoxE.below {w w' : World} {B : Nat} {n : Ef} (h : BoxE w B n) (hb : Below w.heap.size w w') : BoxE w' B n :=
  ⟨Nat.lt_of_lt_of_le h.lt hb.size, (hb.cell (p := ⟨B, _, none⟩) h.lt).trans h.c0, (hb.cell (p := ⟨B, _, none⟩) h.lt).trans h.c1, (hb.cell (p := ⟨B, _, none⟩) h.lt).trans h.c2, (hb.cell (p := ⟨B, _, none⟩) h.lt).trans h.c3, (hb.cell (p := ⟨B, _, none⟩) h.lt).trans h.c4, (hb.cell (p := ⟨B, _, none⟩) h.lt).trans h.c5, (hb.cell (p := ⟨B, _, none⟩) h.lt).trans h.c6, (hb.cell (p := ⟨B, _, none⟩) h.lt).trans h.c7⟩
theorem BoxE.all {w : World} {B : Nat} {n : Ef} (h : BoxE w B n) : w.cell? ⟨B, 0, none⟩ = some (.bool n.del) ∧ w.cell? ⟨B, 1, none⟩ = some (.string n.nd.path) ∧ w.cell? ⟨B, 2, none⟩ = some (.string n.nd.data) ∧ w.cell? ⟨B, 3, none⟩ = some (.int .i64 n.nd.ver) ∧ w.cell? ⟨B, 4, none⟩ = some (.int .i64 n.nd.cver) ∧ w.cell? ⟨B, 5, none⟩ = some (.int .i64 n.nd.cz) ∧ w.cell? ⟨B, 6, none⟩ = some (.int .i64 n.nd.mz) ∧ w.cell? ⟨B, 7, none⟩ = some (.int .i64 n.nd.pz) := ⟨h.c0, h.c1, h.c2, h.c3, h.c4, h.c5, h.c6, h.c7⟩

def okEAt (ns : List Ef) (k : Nat) : Bool := okEf (eAt ns k) && (decide (k = 0) || ltP (eAt ns (k - 1)).nd.path (eAt ns k).nd.path)
def okEs (ns : List Ef) : Bool := (List.range ns.length).all (okEAt ns)
def okTxn (z : Int) (ns : List Ef) : Bool := decide (1 ≤ z) && decide (z ≤ 2147483647) && decide (ns.length ≤ 1000) && okEs ns
theorem es_no {ns : List Ef} {k : Nat} (h : k < ns.length) (hn : okEAt ns k = false) : okEs ns = false := by
  unfold okEs; rw [List.all_eq_false]; exact ⟨k, List.mem_range.2 h, by rw [hn]; simp⟩
theorem es_yes {ns : List Ef} (h : ∀ k, k < ns.length → okEAt ns k = true) : okEs ns = true := by
  unfold okEs; rw [List.all_eq_true]; exact fun k hk => h k (List.mem_range.1 hk)
theorem okEAt_zero (ns : List Ef) : okEAt ns 0 = okEf (eAt ns 0) := by unfold okEAt; simp
theorem okEAt_succ (ns : List Ef) (j : Nat) : okEAt ns (j + 1) = (okEf (eAt ns (j + 1)) && ltP (eAt ns j).nd.path (eAt ns (j + 1)).nd.path) := by unfold okEAt; simp
theorem okEf_nd {n : Ef} (h : okNd n.nd = false) : okEf n = false := by unfold okEf; rw [h]; rfl

set_option maxHeartbeats 8000000 in
set_option maxRecDepth 100000 in
theorem implTxn_row (w : World) (z : Int) (b o n cap : Nat) (ns : List Ef) (hz1 : ¬ z < 1) (hz2 : ¬ 2147483647 < z) (hp : ns.length = n) (hn : n ≤ 1000) (hb : b < w.heap.size) (hsz : ∀ i, (eAt ns i).nd.path.size ≤ 1048576 ∧ (eAt ns i).nd.data.size ≤ 1048576)
    (hc : ∀ i, i < n → CellsE w b (o + i * 8) (eAt ns i)) :
    Calls Tryd.prog 22 #[.agg #[.int .i64 z, .slice (some ⟨b, o, none⟩) n cap]] w fun e w' => e = .returned (.bool (okEs ns)) ∧ Below w.heap.size w w' := by
  have HC : Hid (∀ i, i < n → CellsE w b (o + i * 8) (eAt ns i)) := hc
  have HP : Hid (ns.length = n) := hp
  have HZ : Hid (∀ i, (eAt ns i).nd.path.size ≤ 1048576 ∧ (eAt ns i).nd.data.size ≤ 1048576) := hsz
  have h1I : ¬ (1000 : Int) < (n : Int) := by omega
  clear hc hp hsz
  have B0 : Hid (Below w.heap.size w (w.alloc (.cells #[.int .i64 z, .slice (some ⟨b, o, none⟩) n cap] 41))) := (Below.refl _ _).alloc (Nat.le_refl _) _
  have c01 : Hid ((w.alloc (.cells #[.int .i64 z, .slice (some ⟨b, o, none⟩) n cap] 41)).cell? ⟨w.heap.size, 1, none⟩ = some (.slice (some ⟨b, o, none⟩) n cap)) := by show _ = _; simp
  have z0 : w.heap.size < (w.alloc (.cells #[.int .i64 z, .slice (some ⟨b, o, none⟩) n cap] 41)).heap.size := by simp
  go_enter Tryd.func22, Tryd.ntmps22
  go_wp2
  generalize w.alloc (.cells #[.int .i64 z, .slice (some ⟨b, o, none⟩) n cap] 41) = w0 at *
  go_loopw [18] (fun i wr => ∃ k : Nat, k ≤ n ∧ i = .int .i64 k ∧ Hid (∀ t, t < k → okEAt ns t = true) ∧ Hid (Below w0.heap.size w0 wr)) (fun i _ => n - (intOf i).toNat)
  case atStart => exact ⟨0, Nat.zero_le _, rfl, (fun t ht => by omega), Below.refl _ _⟩
  case round =>
    obtain ⟨k, hk, rfl, HA, HG⟩ := hrel
    have HG0 : Hid (Below w.heap.size w wr) := B0.out.trans (HG.out.mono (by omega))
    have cT := (HG.out.cell (p := ⟨w.heap.size, 1, none⟩) z0).trans c01.out
    by_cases hlt : k < n
    · have hltI : (k : Int) < (n : Int) := by omega
      have g0 : (0 : Int) ≤ (k : Int) := by omega
      have HLT : Hid (k < ns.length) := by rw [HP.out]; exact hlt
      obtain ⟨c0, c1, c2, c3, c4, c5, c6, c7⟩ := (HC.out k hlt).below HG0.out hb
      have XN : Hid (BoxE (wr.alloc (.cells #[.bool (eAt ns k).del, .string (eAt ns k).nd.path, .string (eAt ns k).nd.data, .int .i64 (eAt ns k).nd.ver, .int .i64 (eAt ns k).nd.cver, .int .i64 (eAt ns k).nd.cz, .int .i64 (eAt ns k).nd.mz, .int .i64 (eAt ns k).nd.pz] 86)) wr.heap.size (eAt ns k)) := BoxE.new _ _ _
      have BN : Hid (Below wr.heap.size wr (wr.alloc (.cells #[.bool (eAt ns k).del, .string (eAt ns k).nd.path, .string (eAt ns k).nd.data, .int .i64 (eAt ns k).nd.ver, .int .i64 (eAt ns k).nd.cver, .int .i64 (eAt ns k).nd.cz, .int .i64 (eAt ns k).nd.mz, .int .i64 (eAt ns k).nd.pz] 86))) := (Below.refl _ _).alloc (Nat.le_refl _) _
      go_wp2
      clear c0 c1 c2 c3 c4 c5 c6 c7 cT
      generalize wr.alloc (.cells #[.bool (eAt ns k).del, .string (eAt ns k).nd.path, .string (eAt ns k).nd.data, .int .i64 (eAt ns k).nd.ver, .int .i64 (eAt ns k).nd.cver, .int .i64 (eAt ns k).nd.cz, .int .i64 (eAt ns k).nd.mz, .int .i64 (eAt ns k).nd.pz] 86) = wn at *
      have zr := HG.out.size
      obtain ⟨B, hB⟩ : ∃ B, B = wr.heap.size := ⟨_, rfl⟩
      rw [← hB] at XN
      rw [← hB]
      have HBn : Hid (∀ W, Below wn.heap.size wn W → Below w.heap.size w W) := fun W hW => (HG0.out.trans (BN.out.mono HG0.out.size)).trans (hW.mono (Nat.le_trans HG0.out.size BN.out.size))
      have HBz : Hid (∀ W, Below wn.heap.size wn W → Hid (Below w0.heap.size w0 W)) := fun W hW => (HG.out.trans (BN.out.mono HG.out.size)).trans (hW.mono (Nat.le_trans HG.out.size BN.out.size))
      have CT : Hid (∀ W, Below wn.heap.size wn W → W.cell? ⟨w.heap.size, 1, none⟩ = some (.slice (some ⟨b, o, none⟩) n cap)) := fun W hW => ((HBz.out W hW).out.cell (p := ⟨w.heap.size, 1, none⟩) z0).trans c01.out
      have HE : Hid (∀ q, Calls Tryd.prog 66 #[.agg #[.bool (eAt ns k).del, .string (eAt ns k).nd.path, .string (eAt ns k).nd.data, .int .i64 (eAt ns k).nd.ver, .int .i64 (eAt ns k).nd.cver, .int .i64 (eAt ns k).nd.cz, .int .i64 (eAt ns k).nd.mz, .int .i64 (eAt ns k).nd.pz]] (wn.drewN q) fun e w' => e = .returned (.bool (okEf (eAt ns k))) ∧ Hid (Below wn.heap.size wn w')) := by
        intro q
        refine (validEffect_any _ (eAt ns k) (HZ.out k).2).mono ?_
        rintro e w' ⟨rfl, b'⟩
        exact ⟨rfl, (below_drewN' wn q).trans b'⟩
      have HD : Hid (Below wn.heap.size wn wn.drew) := below_drewN' wn 1
      have HHB : Hid (B = wr.heap.size) := hB
      clear hB BN
      cases hok : okEf (eAt ns k) with
      | false =>
        have HOK : Hid (okEf (eAt ns k) = false) := hok
        have HN : Hid (okEs ns = false) := es_no HLT.out (by unfold okEAt; rw [hok]; rfl)
        clear hok
        refine wp_region_held_drew (S := fun W => Hid (Below wn.heap.size wn W) ∧ (W.cell? ⟨B, 0, none⟩ = some (.bool (eAt ns k).del) ∧ W.cell? ⟨B, 1, none⟩ = some (.string (eAt ns k).nd.path) ∧ W.cell? ⟨B, 2, none⟩ = some (.string (eAt ns k).nd.data) ∧ W.cell? ⟨B, 3, none⟩ = some (.int .i64 (eAt ns k).nd.ver) ∧ W.cell? ⟨B, 4, none⟩ = some (.int .i64 (eAt ns k).nd.cver) ∧ W.cell? ⟨B, 5, none⟩ = some (.int .i64 (eAt ns k).nd.cz) ∧ W.cell? ⟨B, 6, none⟩ = some (.int .i64 (eAt ns k).nd.mz) ∧ W.cell? ⟨B, 7, none⟩ = some (.int .i64 (eAt ns k).nd.pz))) (by kernel_rfl) (⟨HD, (XN.out.below HD.out).all⟩) (fun hHeld => ?_)
        refine wpAnyH_take (i := 0) (oi := { dst := some 23, op := _, type := _, pos := _, after := _, guard := _ }) (v := ?v1) rfl (by kernel_rfl) (by kernel_rfl) (by kernel_rfl) (fun _ _ _ h => h) (Or.inl ⟨by rfl, ?hy1⟩) (by assumption) ?rest1
        case hy1 =>
          intro w9 hS9
          obtain ⟨-, hS9⟩ := hS9
          go_simp
          try with_reducible rfl
        try simp only [Act.put, List.setIfInBounds_toArray, List.set_cons_zero, List.set_cons_succ]
        refine wpAnyH_ready (rs := [1]) (by kernel_rfl) (by simp) ?_
        refine AllReadyH.cons (o := { dst := some 24, op := _, type := _, pos := _, after := _, guard := _ }) rfl (fun K hK => ?_) AllReadyH.nil
        go_simp
        refine (HE.out 1).mono ?_
        rintro e w' ⟨rfl, HB⟩
        rw [HOK.out]
        refine hK.out _ _ ((show (fun W => Hid (Below wn.heap.size wn W) ∧ (W.cell? ⟨B, 0, none⟩ = some (.bool (eAt ns k).del) ∧ W.cell? ⟨B, 1, none⟩ = some (.string (eAt ns k).nd.path) ∧ W.cell? ⟨B, 2, none⟩ = some (.string (eAt ns k).nd.data) ∧ W.cell? ⟨B, 3, none⟩ = some (.int .i64 (eAt ns k).nd.ver) ∧ W.cell? ⟨B, 4, none⟩ = some (.int .i64 (eAt ns k).nd.cver) ∧ W.cell? ⟨B, 5, none⟩ = some (.int .i64 (eAt ns k).nd.cz) ∧ W.cell? ⟨B, 6, none⟩ = some (.int .i64 (eAt ns k).nd.mz) ∧ W.cell? ⟨B, 7, none⟩ = some (.int .i64 (eAt ns k).nd.pz))) w' from ⟨HB, (XN.out.below HB.out).all⟩)) (fun hx9 => ?_)
        clear hK K hHeld hx9
        have hHeld := (show (fun W => Hid (Below wn.heap.size wn W) ∧ (W.cell? ⟨B, 0, none⟩ = some (.bool (eAt ns k).del) ∧ W.cell? ⟨B, 1, none⟩ = some (.string (eAt ns k).nd.path) ∧ W.cell? ⟨B, 2, none⟩ = some (.string (eAt ns k).nd.data) ∧ W.cell? ⟨B, 3, none⟩ = some (.int .i64 (eAt ns k).nd.ver) ∧ W.cell? ⟨B, 4, none⟩ = some (.int .i64 (eAt ns k).nd.cver) ∧ W.cell? ⟨B, 5, none⟩ = some (.int .i64 (eAt ns k).nd.cz) ∧ W.cell? ⟨B, 6, none⟩ = some (.int .i64 (eAt ns k).nd.mz) ∧ W.cell? ⟨B, 7, none⟩ = some (.int .i64 (eAt ns k).nd.pz))) w' from ⟨HB, (XN.out.below HB.out).all⟩)
        try simp only [Act.put, List.setIfInBounds_toArray, List.set_cons_zero, List.set_cons_succ]
        refine wpAnyH_take (i := 2) (oi := { dst := some 25, op := _, type := _, pos := _, after := _, guard := _ }) (v := ?v2) rfl (by kernel_rfl) (by kernel_rfl) (by kernel_rfl) (fun _ _ _ h => h) (Or.inl ⟨by rfl, ?hy2⟩) (by assumption) ?rest2
        case hy2 =>
          intro w9 hS9
          obtain ⟨-, hS9⟩ := hS9
          go_simp
          try with_reducible rfl
        try simp only [Act.put, List.setIfInBounds_toArray, List.set_cons_zero, List.set_cons_succ]
        refine wpAnyH_take (i := 3) (oi := { dst := some 26, op := _, type := _, pos := _, after := _, guard := _ }) (v := ?v3) rfl (by kernel_rfl) (by kernel_rfl) (by kernel_rfl) (fun _ _ _ h => h) (Or.inl ⟨by rfl, ?hy3⟩) (by assumption) ?rest3
        case hy3 =>
          intro w9 hS9
          obtain ⟨-, hS9⟩ := hS9
          go_simp
          try with_reducible rfl
        try simp only [Act.put, List.setIfInBounds_toArray, List.set_cons_zero, List.set_cons_succ]
        refine wpAnyH_take (i := 4) (oi := { dst := some 27, op := _, type := _, pos := _, after := _, guard := _ }) (v := undef) rfl (by kernel_rfl) (by kernel_rfl) (by kernel_rfl) (fun _ _ _ h => h) (Or.inr ⟨by rfl, rfl⟩) (by assumption) ?_
        try simp only [Act.put, List.setIfInBounds_toArray, List.set_cons_zero, List.set_cons_succ]
        refine wpAnyH_take (i := 5) (oi := { dst := some 28, op := _, type := _, pos := _, after := _, guard := _ }) (v := undef) rfl (by kernel_rfl) (by kernel_rfl) (by kernel_rfl) (fun _ _ _ h => h) (Or.inr ⟨by rfl, rfl⟩) (by assumption) ?_
        try simp only [Act.put, List.setIfInBounds_toArray, List.set_cons_zero, List.set_cons_succ]
        refine wpAnyH_take (i := 6) (oi := { dst := some 29, op := _, type := _, pos := _, after := _, guard := _ }) (v := undef) rfl (by kernel_rfl) (by kernel_rfl) (by kernel_rfl) (fun _ _ _ h => h) (Or.inr ⟨by rfl, rfl⟩) (by assumption) ?_
        try simp only [Act.put, List.setIfInBounds_toArray, List.set_cons_zero, List.set_cons_succ]
        refine wpAnyH_take (i := 7) (oi := { dst := some 30, op := _, type := _, pos := _, after := _, guard := _ }) (v := undef) rfl (by kernel_rfl) (by kernel_rfl) (by kernel_rfl) (fun _ _ _ h => h) (Or.inr ⟨by rfl, rfl⟩) (by assumption) ?_
        try simp only [Act.put, List.setIfInBounds_toArray, List.set_cons_zero, List.set_cons_succ]
        refine wpAnyH_take (i := 8) (oi := { dst := some 31, op := _, type := _, pos := _, after := _, guard := _ }) (v := undef) rfl (by kernel_rfl) (by kernel_rfl) (by kernel_rfl) (fun _ _ _ h => h) (Or.inr ⟨by rfl, rfl⟩) (by assumption) ?_
        try simp only [Act.put, List.setIfInBounds_toArray, List.set_cons_zero, List.set_cons_succ]
        refine wpAnyH_take (i := 9) (oi := { dst := some 32, op := _, type := _, pos := _, after := _, guard := _ }) (v := undef) rfl (by kernel_rfl) (by kernel_rfl) (by kernel_rfl) (fun _ _ _ h => h) (Or.inr ⟨by rfl, rfl⟩) (by assumption) ?_
        try simp only [Act.put, List.setIfInBounds_toArray, List.set_cons_zero, List.set_cons_succ]
        refine wpAnyH_take (i := 10) (oi := { dst := some 33, op := _, type := _, pos := _, after := _, guard := _ }) (v := undef) rfl (by kernel_rfl) (by kernel_rfl) (by kernel_rfl) (fun _ _ _ h => h) (Or.inr ⟨by rfl, rfl⟩) (by assumption) ?_
        try simp only [Act.put, List.setIfInBounds_toArray, List.set_cons_zero, List.set_cons_succ]
        refine wpAnyH_take (i := 11) (oi := { dst := some 34, op := _, type := _, pos := _, after := _, guard := _ }) (v := undef) rfl (by kernel_rfl) (by kernel_rfl) (by kernel_rfl) (fun _ _ _ h => h) (Or.inr ⟨by rfl, rfl⟩) (by assumption) ?_
        try simp only [Act.put, List.setIfInBounds_toArray, List.set_cons_zero, List.set_cons_succ]
        refine wpAnyH_take (i := 12) (oi := { dst := some 35, op := _, type := _, pos := _, after := _, guard := _ }) (v := undef) rfl (by kernel_rfl) (by kernel_rfl) (by kernel_rfl) (fun _ _ _ h => h) (Or.inr ⟨by rfl, rfl⟩) (by assumption) ?_
        try simp only [Act.put, List.setIfInBounds_toArray, List.set_cons_zero, List.set_cons_succ]
        refine wpAnyH_take (i := 13) (oi := { dst := some 36, op := _, type := _, pos := _, after := _, guard := _ }) (v := undef) rfl (by kernel_rfl) (by kernel_rfl) (by kernel_rfl) (fun _ _ _ h => h) (Or.inr ⟨by rfl, rfl⟩) (by assumption) ?_
        try simp only [Act.put, List.setIfInBounds_toArray, List.set_cons_zero, List.set_cons_succ]
        refine wpAnyH_take (i := 14) (oi := { dst := some 37, op := _, type := _, pos := _, after := _, guard := _ }) (v := undef) rfl (by kernel_rfl) (by kernel_rfl) (by kernel_rfl) (fun _ _ _ h => h) (Or.inr ⟨by rfl, rfl⟩) (by assumption) ?_
        try simp only [Act.put, List.setIfInBounds_toArray, List.set_cons_zero, List.set_cons_succ]
        refine wpAnyH_take (i := 15) (oi := { dst := some 38, op := _, type := _, pos := _, after := _, guard := _ }) (v := undef) rfl (by kernel_rfl) (by kernel_rfl) (by kernel_rfl) (fun _ _ _ h => h) (Or.inr ⟨by rfl, rfl⟩) (by assumption) ?_
        try simp only [Act.put, List.setIfInBounds_toArray, List.set_cons_zero, List.set_cons_succ]
        refine wpAnyH_take (i := 16) (oi := { dst := some 39, op := _, type := _, pos := _, after := _, guard := _ }) (v := undef) rfl (by kernel_rfl) (by kernel_rfl) (by kernel_rfl) (fun _ _ _ h => h) (Or.inr ⟨by rfl, rfl⟩) (by assumption) ?_
        try simp only [Act.put, List.setIfInBounds_toArray, List.set_cons_zero, List.set_cons_succ]
        refine wpAnyH_take (i := 17) (oi := { dst := some 40, op := _, type := _, pos := _, after := _, guard := _ }) (v := undef) rfl (by kernel_rfl) (by kernel_rfl) (by kernel_rfl) (fun _ _ _ h => h) (Or.inr ⟨by rfl, rfl⟩) (by assumption) ?_
        try simp only [Act.put, List.setIfInBounds_toArray, List.set_cons_zero, List.set_cons_succ]
        refine wpAnyH_take (i := 18) (oi := { dst := some 41, op := _, type := _, pos := _, after := _, guard := _ }) (v := undef) rfl (by kernel_rfl) (by kernel_rfl) (by kernel_rfl) (fun _ _ _ h => h) (Or.inr ⟨by rfl, rfl⟩) (by assumption) ?_
        try simp only [Act.put, List.setIfInBounds_toArray, List.set_cons_zero, List.set_cons_succ]
        refine wpAnyH_take (i := 19) (oi := { dst := some 42, op := _, type := _, pos := _, after := _, guard := _ }) (v := undef) rfl (by kernel_rfl) (by kernel_rfl) (by kernel_rfl) (fun _ _ _ h => h) (Or.inr ⟨by rfl, rfl⟩) (by assumption) ?_
        try simp only [Act.put, List.setIfInBounds_toArray, List.set_cons_zero, List.set_cons_succ]
        refine wpAnyH_take (i := 20) (oi := { dst := some 43, op := _, type := _, pos := _, after := _, guard := _ }) (v := ?v4) rfl (by kernel_rfl) (by kernel_rfl) (by kernel_rfl) (fun _ _ _ h => h) (Or.inl ⟨by rfl, ?hy4⟩) (by assumption) ?rest4
        case hy4 =>
          intro w9 hS9
          obtain ⟨-, hS9⟩ := hS9
          go_simp
          try with_reducible rfl
        try simp only [Act.put, List.setIfInBounds_toArray, List.set_cons_zero, List.set_cons_succ]
        refine wpAnyH_done (by kernel_rfl) ?_ _
        clear hHeld
        go_wp2
        go_ret
        exact ⟨ret_b HN.out.symm, HBn.out _ HB.out⟩
      | true =>
        have HOK : Hid (okEf (eAt ns k) = true) := hok
        clear hok
        cases k with
        | zero =>
          have g2 : (0 : Int) < (n : Int) := by omega
          have HT : Hid (okEAt ns 0 = true) := by show _ = _; rw [okEAt_zero]; exact HOK.out
          refine wp_region_held_drew (S := fun W => Hid (Below wn.heap.size wn W) ∧ (W.cell? ⟨B, 0, none⟩ = some (.bool (eAt ns 0).del) ∧ W.cell? ⟨B, 1, none⟩ = some (.string (eAt ns 0).nd.path) ∧ W.cell? ⟨B, 2, none⟩ = some (.string (eAt ns 0).nd.data) ∧ W.cell? ⟨B, 3, none⟩ = some (.int .i64 (eAt ns 0).nd.ver) ∧ W.cell? ⟨B, 4, none⟩ = some (.int .i64 (eAt ns 0).nd.cver) ∧ W.cell? ⟨B, 5, none⟩ = some (.int .i64 (eAt ns 0).nd.cz) ∧ W.cell? ⟨B, 6, none⟩ = some (.int .i64 (eAt ns 0).nd.mz) ∧ W.cell? ⟨B, 7, none⟩ = some (.int .i64 (eAt ns 0).nd.pz))) (by kernel_rfl) (⟨HD, (XN.out.below HD.out).all⟩) (fun hHeld => ?_)
          refine wpAnyH_take (i := 0) (oi := { dst := some 23, op := _, type := _, pos := _, after := _, guard := _ }) (v := ?v5) rfl (by kernel_rfl) (by kernel_rfl) (by kernel_rfl) (fun _ _ _ h => h) (Or.inl ⟨by rfl, ?hy5⟩) (by assumption) ?rest5
          case hy5 =>
            intro w9 hS9
            obtain ⟨-, hS9⟩ := hS9
            go_simp
            try with_reducible rfl
          try simp only [Act.put, List.setIfInBounds_toArray, List.set_cons_zero, List.set_cons_succ]
          refine wpAnyH_ready (rs := [1]) (by kernel_rfl) (by simp) ?_
          refine AllReadyH.cons (o := { dst := some 24, op := _, type := _, pos := _, after := _, guard := _ }) rfl (fun K hK => ?_) AllReadyH.nil
          go_simp
          refine (HE.out 1).mono ?_
          rintro e w' ⟨rfl, HB⟩
          rw [HOK.out]
          refine hK.out _ _ ((show (fun W => Hid (Below wn.heap.size wn W) ∧ (W.cell? ⟨B, 0, none⟩ = some (.bool (eAt ns 0).del) ∧ W.cell? ⟨B, 1, none⟩ = some (.string (eAt ns 0).nd.path) ∧ W.cell? ⟨B, 2, none⟩ = some (.string (eAt ns 0).nd.data) ∧ W.cell? ⟨B, 3, none⟩ = some (.int .i64 (eAt ns 0).nd.ver) ∧ W.cell? ⟨B, 4, none⟩ = some (.int .i64 (eAt ns 0).nd.cver) ∧ W.cell? ⟨B, 5, none⟩ = some (.int .i64 (eAt ns 0).nd.cz) ∧ W.cell? ⟨B, 6, none⟩ = some (.int .i64 (eAt ns 0).nd.mz) ∧ W.cell? ⟨B, 7, none⟩ = some (.int .i64 (eAt ns 0).nd.pz))) w' from ⟨HB, (XN.out.below HB.out).all⟩)) (fun hx9 => ?_)
          clear hK K hHeld hx9
          have hHeld := (show (fun W => Hid (Below wn.heap.size wn W) ∧ (W.cell? ⟨B, 0, none⟩ = some (.bool (eAt ns 0).del) ∧ W.cell? ⟨B, 1, none⟩ = some (.string (eAt ns 0).nd.path) ∧ W.cell? ⟨B, 2, none⟩ = some (.string (eAt ns 0).nd.data) ∧ W.cell? ⟨B, 3, none⟩ = some (.int .i64 (eAt ns 0).nd.ver) ∧ W.cell? ⟨B, 4, none⟩ = some (.int .i64 (eAt ns 0).nd.cver) ∧ W.cell? ⟨B, 5, none⟩ = some (.int .i64 (eAt ns 0).nd.cz) ∧ W.cell? ⟨B, 6, none⟩ = some (.int .i64 (eAt ns 0).nd.mz) ∧ W.cell? ⟨B, 7, none⟩ = some (.int .i64 (eAt ns 0).nd.pz))) w' from ⟨HB, (XN.out.below HB.out).all⟩)
          try simp only [Act.put, List.setIfInBounds_toArray, List.set_cons_zero, List.set_cons_succ]
          refine wpAnyH_take (i := 2) (oi := { dst := some 25, op := _, type := _, pos := _, after := _, guard := _ }) (v := ?v6) rfl (by kernel_rfl) (by kernel_rfl) (by kernel_rfl) (fun _ _ _ h => h) (Or.inl ⟨by rfl, ?hy6⟩) (by assumption) ?rest6
          case hy6 =>
            intro w9 hS9
            obtain ⟨-, hS9⟩ := hS9
            go_simp
            try with_reducible rfl
          try simp only [Act.put, List.setIfInBounds_toArray, List.set_cons_zero, List.set_cons_succ]
          refine wpAnyH_take (i := 3) (oi := { dst := some 26, op := _, type := _, pos := _, after := _, guard := _ }) (v := ?v7) rfl (by kernel_rfl) (by kernel_rfl) (by kernel_rfl) (fun _ _ _ h => h) (Or.inl ⟨by rfl, ?hy7⟩) (by assumption) ?rest7
          case hy7 =>
            intro w9 hS9
            obtain ⟨-, hS9⟩ := hS9
            go_simp
            try with_reducible rfl
          try simp only [Act.put, List.setIfInBounds_toArray, List.set_cons_zero, List.set_cons_succ]
          refine wpAnyH_take (i := 4) (oi := { dst := some 27, op := _, type := _, pos := _, after := _, guard := _ }) (v := ?v8) rfl (by kernel_rfl) (by kernel_rfl) (by kernel_rfl) (fun _ _ _ h => h) (Or.inl ⟨by rfl, ?hy8⟩) (by assumption) ?rest8
          case hy8 =>
            intro w9 hS9
            obtain ⟨-, hS9⟩ := hS9
            go_simp
            try with_reducible rfl
          try simp only [Act.put, List.setIfInBounds_toArray, List.set_cons_zero, List.set_cons_succ]
          refine wpAnyH_take (i := 5) (oi := { dst := some 28, op := _, type := _, pos := _, after := _, guard := _ }) (v := ?v9) rfl (by kernel_rfl) (by kernel_rfl) (by kernel_rfl) (fun _ _ _ h => h) (Or.inl ⟨by rfl, ?hy9⟩) (by assumption) ?rest9
          case hy9 =>
            intro w9 hS9
            obtain ⟨-, hS9⟩ := hS9
            go_simp
            try with_reducible rfl
          try simp only [Act.put, List.setIfInBounds_toArray, List.set_cons_zero, List.set_cons_succ]
          refine wpAnyH_take (i := 6) (oi := { dst := some 29, op := _, type := _, pos := _, after := _, guard := _ }) (v := ?v10) rfl (by kernel_rfl) (by kernel_rfl) (by kernel_rfl) (fun _ _ _ h => h) (Or.inl ⟨by rfl, ?hy10⟩) (by assumption) ?rest10
          case hy10 =>
            intro w9 hS9
            obtain ⟨-, hS9⟩ := hS9
            go_simp
            try with_reducible rfl
          try simp only [Act.put, List.setIfInBounds_toArray, List.set_cons_zero, List.set_cons_succ]
          refine wpAnyH_take (i := 7) (oi := { dst := some 30, op := _, type := _, pos := _, after := _, guard := _ }) (v := undef) rfl (by kernel_rfl) (by kernel_rfl) (by kernel_rfl) (fun _ _ _ h => h) (Or.inr ⟨by rfl, rfl⟩) (by assumption) ?_
          try simp only [Act.put, List.setIfInBounds_toArray, List.set_cons_zero, List.set_cons_succ]
          refine wpAnyH_take (i := 8) (oi := { dst := some 31, op := _, type := _, pos := _, after := _, guard := _ }) (v := undef) rfl (by kernel_rfl) (by kernel_rfl) (by kernel_rfl) (fun _ _ _ h => h) (Or.inr ⟨by rfl, rfl⟩) (by assumption) ?_
          try simp only [Act.put, List.setIfInBounds_toArray, List.set_cons_zero, List.set_cons_succ]
          refine wpAnyH_take (i := 9) (oi := { dst := some 32, op := _, type := _, pos := _, after := _, guard := _ }) (v := undef) rfl (by kernel_rfl) (by kernel_rfl) (by kernel_rfl) (fun _ _ _ h => h) (Or.inr ⟨by rfl, rfl⟩) (by assumption) ?_
          try simp only [Act.put, List.setIfInBounds_toArray, List.set_cons_zero, List.set_cons_succ]
          refine wpAnyH_take (i := 10) (oi := { dst := some 33, op := _, type := _, pos := _, after := _, guard := _ }) (v := undef) rfl (by kernel_rfl) (by kernel_rfl) (by kernel_rfl) (fun _ _ _ h => h) (Or.inr ⟨by rfl, rfl⟩) (by assumption) ?_
          try simp only [Act.put, List.setIfInBounds_toArray, List.set_cons_zero, List.set_cons_succ]
          refine wpAnyH_take (i := 11) (oi := { dst := some 34, op := _, type := _, pos := _, after := _, guard := _ }) (v := undef) rfl (by kernel_rfl) (by kernel_rfl) (by kernel_rfl) (fun _ _ _ h => h) (Or.inr ⟨by rfl, rfl⟩) (by assumption) ?_
          try simp only [Act.put, List.setIfInBounds_toArray, List.set_cons_zero, List.set_cons_succ]
          refine wpAnyH_take (i := 12) (oi := { dst := some 35, op := _, type := _, pos := _, after := _, guard := _ }) (v := undef) rfl (by kernel_rfl) (by kernel_rfl) (by kernel_rfl) (fun _ _ _ h => h) (Or.inr ⟨by rfl, rfl⟩) (by assumption) ?_
          try simp only [Act.put, List.setIfInBounds_toArray, List.set_cons_zero, List.set_cons_succ]
          refine wpAnyH_take (i := 13) (oi := { dst := some 36, op := _, type := _, pos := _, after := _, guard := _ }) (v := undef) rfl (by kernel_rfl) (by kernel_rfl) (by kernel_rfl) (fun _ _ _ h => h) (Or.inr ⟨by rfl, rfl⟩) (by assumption) ?_
          try simp only [Act.put, List.setIfInBounds_toArray, List.set_cons_zero, List.set_cons_succ]
          refine wpAnyH_take (i := 14) (oi := { dst := some 37, op := _, type := _, pos := _, after := _, guard := _ }) (v := undef) rfl (by kernel_rfl) (by kernel_rfl) (by kernel_rfl) (fun _ _ _ h => h) (Or.inr ⟨by rfl, rfl⟩) (by assumption) ?_
          try simp only [Act.put, List.setIfInBounds_toArray, List.set_cons_zero, List.set_cons_succ]
          refine wpAnyH_take (i := 15) (oi := { dst := some 38, op := _, type := _, pos := _, after := _, guard := _ }) (v := undef) rfl (by kernel_rfl) (by kernel_rfl) (by kernel_rfl) (fun _ _ _ h => h) (Or.inr ⟨by rfl, rfl⟩) (by assumption) ?_
          try simp only [Act.put, List.setIfInBounds_toArray, List.set_cons_zero, List.set_cons_succ]
          refine wpAnyH_take (i := 16) (oi := { dst := some 39, op := _, type := _, pos := _, after := _, guard := _ }) (v := undef) rfl (by kernel_rfl) (by kernel_rfl) (by kernel_rfl) (fun _ _ _ h => h) (Or.inr ⟨by rfl, rfl⟩) (by assumption) ?_
          try simp only [Act.put, List.setIfInBounds_toArray, List.set_cons_zero, List.set_cons_succ]
          refine wpAnyH_take (i := 17) (oi := { dst := some 40, op := _, type := _, pos := _, after := _, guard := _ }) (v := undef) rfl (by kernel_rfl) (by kernel_rfl) (by kernel_rfl) (fun _ _ _ h => h) (Or.inr ⟨by rfl, rfl⟩) (by assumption) ?_
          try simp only [Act.put, List.setIfInBounds_toArray, List.set_cons_zero, List.set_cons_succ]
          refine wpAnyH_take (i := 18) (oi := { dst := some 41, op := _, type := _, pos := _, after := _, guard := _ }) (v := undef) rfl (by kernel_rfl) (by kernel_rfl) (by kernel_rfl) (fun _ _ _ h => h) (Or.inr ⟨by rfl, rfl⟩) (by assumption) ?_
          try simp only [Act.put, List.setIfInBounds_toArray, List.set_cons_zero, List.set_cons_succ]
          refine wpAnyH_take (i := 19) (oi := { dst := some 42, op := _, type := _, pos := _, after := _, guard := _ }) (v := ?v11) rfl (by kernel_rfl) (by kernel_rfl) (by kernel_rfl) (fun _ _ _ h => h) (Or.inl ⟨by rfl, ?hy11⟩) (by assumption) ?rest11
          case hy11 =>
            intro w9 hS9
            obtain ⟨-, hS9⟩ := hS9
            go_simp
            try with_reducible rfl
          try simp only [Act.put, List.setIfInBounds_toArray, List.set_cons_zero, List.set_cons_succ]
          refine wpAnyH_take (i := 20) (oi := { dst := some 43, op := _, type := _, pos := _, after := _, guard := _ }) (v := ?v12) rfl (by kernel_rfl) (by kernel_rfl) (by kernel_rfl) (fun _ _ _ h => h) (Or.inl ⟨by rfl, ?hy12⟩) (by assumption) ?rest12
          case hy12 =>
            intro w9 hS9
            obtain ⟨-, hS9⟩ := hS9
            go_simp
            try with_reducible rfl
          try simp only [Act.put, List.setIfInBounds_toArray, List.set_cons_zero, List.set_cons_succ]
          refine wpAnyH_done (by kernel_rfl) ?_ _
          clear hHeld
          go_wp2
          go_roundw
          case rel => exact ⟨0 + 1, by omega, by go_num, (fun t ht => by by_cases e : t = 0; (subst e; exact HT.out); exact HA.out t (by omega)), HBz.out _ HB.out⟩
          case measure => simp [intOf]; omega
        | succ j =>
          have g1 : (0 : Int) ≤ (j : Int) + 1 := by omega
          have g2 : (j : Int) + 1 < (n : Int) := by omega
          have g3 : (0 : Int) ≤ (j : Int) := by omega
          have g4 : (j : Int) < (n : Int) := by omega
          have g5 : (0 : Int) < (j : Int) + 1 := by omega
          have g6 : IntKind.i64.wrap (j : Int) = (j : Int) := by rw [IntKind.wrap_i64]; omega
          cases hcmp : ltP (eAt ns j).nd.path (eAt ns (j + 1)).nd.path with
          | true =>
            have HT : Hid (okEAt ns (j + 1) = true) := by show _ = _; rw [okEAt_succ, HOK.out, hcmp]; rfl
            have l1 : Op.bytesLess (eAt ns j).nd.path.toList (eAt ns (j + 1)).nd.path.toList = true := hcmp
            clear hcmp
            refine wp_region_held_drew (S := fun W => Hid (Below wn.heap.size wn W) ∧ (W.cell? ⟨B, 0, none⟩ = some (.bool (eAt ns (j + 1)).del) ∧ W.cell? ⟨B, 1, none⟩ = some (.string (eAt ns (j + 1)).nd.path) ∧ W.cell? ⟨B, 2, none⟩ = some (.string (eAt ns (j + 1)).nd.data) ∧ W.cell? ⟨B, 3, none⟩ = some (.int .i64 (eAt ns (j + 1)).nd.ver) ∧ W.cell? ⟨B, 4, none⟩ = some (.int .i64 (eAt ns (j + 1)).nd.cver) ∧ W.cell? ⟨B, 5, none⟩ = some (.int .i64 (eAt ns (j + 1)).nd.cz) ∧ W.cell? ⟨B, 6, none⟩ = some (.int .i64 (eAt ns (j + 1)).nd.mz) ∧ W.cell? ⟨B, 7, none⟩ = some (.int .i64 (eAt ns (j + 1)).nd.pz)) ∧ W.cell? ⟨w.heap.size, 1, none⟩ = some (.slice (some ⟨b, o, none⟩) n cap) ∧ W.cell? ⟨b, o + j * 8 + 1, none⟩ = some (.string (eAt ns j).nd.path)) (by kernel_rfl) (⟨HD, (XN.out.below HD.out).all, (CT.out _ HD.out), ((HC.out j (by omega)).below (HBn.out _ HD.out) hb).c1⟩) (fun hHeld => ?_)
            refine wpAnyH_take (i := 0) (oi := { dst := some 23, op := _, type := _, pos := _, after := _, guard := _ }) (v := ?v13) rfl (by kernel_rfl) (by kernel_rfl) (by kernel_rfl) (fun _ _ _ h => h) (Or.inl ⟨by rfl, ?hy13⟩) (by assumption) ?rest13
            case hy13 =>
              intro w9 hS9
              obtain ⟨-, hS9⟩ := hS9
              go_simp
              try with_reducible rfl
            try simp only [Act.put, List.setIfInBounds_toArray, List.set_cons_zero, List.set_cons_succ]
            refine wpAnyH_ready (rs := [1]) (by kernel_rfl) (by simp) ?_
            refine AllReadyH.cons (o := { dst := some 24, op := _, type := _, pos := _, after := _, guard := _ }) rfl (fun K hK => ?_) AllReadyH.nil
            go_simp
            refine (HE.out 1).mono ?_
            rintro e w' ⟨rfl, HB⟩
            rw [HOK.out]
            refine hK.out _ _ ((show (fun W => Hid (Below wn.heap.size wn W) ∧ (W.cell? ⟨B, 0, none⟩ = some (.bool (eAt ns (j + 1)).del) ∧ W.cell? ⟨B, 1, none⟩ = some (.string (eAt ns (j + 1)).nd.path) ∧ W.cell? ⟨B, 2, none⟩ = some (.string (eAt ns (j + 1)).nd.data) ∧ W.cell? ⟨B, 3, none⟩ = some (.int .i64 (eAt ns (j + 1)).nd.ver) ∧ W.cell? ⟨B, 4, none⟩ = some (.int .i64 (eAt ns (j + 1)).nd.cver) ∧ W.cell? ⟨B, 5, none⟩ = some (.int .i64 (eAt ns (j + 1)).nd.cz) ∧ W.cell? ⟨B, 6, none⟩ = some (.int .i64 (eAt ns (j + 1)).nd.mz) ∧ W.cell? ⟨B, 7, none⟩ = some (.int .i64 (eAt ns (j + 1)).nd.pz)) ∧ W.cell? ⟨w.heap.size, 1, none⟩ = some (.slice (some ⟨b, o, none⟩) n cap) ∧ W.cell? ⟨b, o + j * 8 + 1, none⟩ = some (.string (eAt ns j).nd.path)) w' from ⟨HB, (XN.out.below HB.out).all, (CT.out _ HB.out), ((HC.out j (by omega)).below (HBn.out _ HB.out) hb).c1⟩)) (fun hx9 => ?_)
            clear hK K hHeld hx9
            have hHeld := (show (fun W => Hid (Below wn.heap.size wn W) ∧ (W.cell? ⟨B, 0, none⟩ = some (.bool (eAt ns (j + 1)).del) ∧ W.cell? ⟨B, 1, none⟩ = some (.string (eAt ns (j + 1)).nd.path) ∧ W.cell? ⟨B, 2, none⟩ = some (.string (eAt ns (j + 1)).nd.data) ∧ W.cell? ⟨B, 3, none⟩ = some (.int .i64 (eAt ns (j + 1)).nd.ver) ∧ W.cell? ⟨B, 4, none⟩ = some (.int .i64 (eAt ns (j + 1)).nd.cver) ∧ W.cell? ⟨B, 5, none⟩ = some (.int .i64 (eAt ns (j + 1)).nd.cz) ∧ W.cell? ⟨B, 6, none⟩ = some (.int .i64 (eAt ns (j + 1)).nd.mz) ∧ W.cell? ⟨B, 7, none⟩ = some (.int .i64 (eAt ns (j + 1)).nd.pz)) ∧ W.cell? ⟨w.heap.size, 1, none⟩ = some (.slice (some ⟨b, o, none⟩) n cap) ∧ W.cell? ⟨b, o + j * 8 + 1, none⟩ = some (.string (eAt ns j).nd.path)) w' from ⟨HB, (XN.out.below HB.out).all, (CT.out _ HB.out), ((HC.out j (by omega)).below (HBn.out _ HB.out) hb).c1⟩)
            try simp only [Act.put, List.setIfInBounds_toArray, List.set_cons_zero, List.set_cons_succ]
            refine wpAnyH_take (i := 2) (oi := { dst := some 25, op := _, type := _, pos := _, after := _, guard := _ }) (v := ?v14) rfl (by kernel_rfl) (by kernel_rfl) (by kernel_rfl) (fun _ _ _ h => h) (Or.inl ⟨by rfl, ?hy14⟩) (by assumption) ?rest14
            case hy14 =>
              intro w9 hS9
              obtain ⟨-, hS9⟩ := hS9
              go_simp
              try with_reducible rfl
            try simp only [Act.put, List.setIfInBounds_toArray, List.set_cons_zero, List.set_cons_succ]
            refine wpAnyH_take (i := 3) (oi := { dst := some 26, op := _, type := _, pos := _, after := _, guard := _ }) (v := ?v15) rfl (by kernel_rfl) (by kernel_rfl) (by kernel_rfl) (fun _ _ _ h => h) (Or.inl ⟨by rfl, ?hy15⟩) (by assumption) ?rest15
            case hy15 =>
              intro w9 hS9
              obtain ⟨-, hS9⟩ := hS9
              go_simp
              try with_reducible rfl
            try simp only [Act.put, List.setIfInBounds_toArray, List.set_cons_zero, List.set_cons_succ]
            refine wpAnyH_take (i := 4) (oi := { dst := some 27, op := _, type := _, pos := _, after := _, guard := _ }) (v := ?v16) rfl (by kernel_rfl) (by kernel_rfl) (by kernel_rfl) (fun _ _ _ h => h) (Or.inl ⟨by rfl, ?hy16⟩) (by assumption) ?rest16
            case hy16 =>
              intro w9 hS9
              obtain ⟨-, hS9⟩ := hS9
              go_simp
              try with_reducible rfl
            try simp only [Act.put, List.setIfInBounds_toArray, List.set_cons_zero, List.set_cons_succ]
            refine wpAnyH_take (i := 5) (oi := { dst := some 28, op := _, type := _, pos := _, after := _, guard := _ }) (v := ?v17) rfl (by kernel_rfl) (by kernel_rfl) (by kernel_rfl) (fun _ _ _ h => h) (Or.inl ⟨by rfl, ?hy17⟩) (by assumption) ?rest17
            case hy17 =>
              intro w9 hS9
              obtain ⟨-, hS9⟩ := hS9
              go_simp
              try with_reducible rfl
            try simp only [Act.put, List.setIfInBounds_toArray, List.set_cons_zero, List.set_cons_succ]
            refine wpAnyH_take (i := 6) (oi := { dst := some 29, op := _, type := _, pos := _, after := _, guard := _ }) (v := ?v18) rfl (by kernel_rfl) (by kernel_rfl) (by kernel_rfl) (fun _ _ _ h => h) (Or.inl ⟨by rfl, ?hy18⟩) (by assumption) ?rest18
            case hy18 =>
              intro w9 hS9
              obtain ⟨-, hS9⟩ := hS9
              go_simp
              try with_reducible rfl
            try simp only [Act.put, List.setIfInBounds_toArray, List.set_cons_zero, List.set_cons_succ]
            refine wpAnyH_take (i := 7) (oi := { dst := some 30, op := _, type := _, pos := _, after := _, guard := _ }) (v := ?v19) rfl (by kernel_rfl) (by kernel_rfl) (by kernel_rfl) (fun _ _ _ h => h) (Or.inl ⟨by rfl, ?hy19⟩) (by assumption) ?rest19
            case hy19 =>
              intro w9 hS9
              obtain ⟨-, hS9⟩ := hS9
              go_simp
              try with_reducible rfl
            try simp only [Act.put, List.setIfInBounds_toArray, List.set_cons_zero, List.set_cons_succ]
            refine wpAnyH_take (i := 8) (oi := { dst := some 31, op := _, type := _, pos := _, after := _, guard := _ }) (v := ?v20) rfl (by kernel_rfl) (by kernel_rfl) (by kernel_rfl) (fun _ _ _ h => h) (Or.inl ⟨by rfl, ?hy20⟩) (by assumption) ?rest20
            case hy20 =>
              intro w9 hS9
              obtain ⟨-, hS9⟩ := hS9
              go_simp
              try with_reducible rfl
            try simp only [Act.put, List.setIfInBounds_toArray, List.set_cons_zero, List.set_cons_succ]
            refine wpAnyH_take (i := 9) (oi := { dst := some 32, op := _, type := _, pos := _, after := _, guard := _ }) (v := ?v21) rfl (by kernel_rfl) (by kernel_rfl) (by kernel_rfl) (fun _ _ _ h => h) (Or.inl ⟨by rfl, ?hy21⟩) (by assumption) ?rest21
            case hy21 =>
              intro w9 hS9
              obtain ⟨-, hS9⟩ := hS9
              go_simp
              try with_reducible rfl
            try simp only [Act.put, List.setIfInBounds_toArray, List.set_cons_zero, List.set_cons_succ]
            refine wpAnyH_take (i := 10) (oi := { dst := some 33, op := _, type := _, pos := _, after := _, guard := _ }) (v := ?v22) rfl (by kernel_rfl) (by kernel_rfl) (by kernel_rfl) (fun _ _ _ h => h) (Or.inl ⟨by rfl, ?hy22⟩) (by assumption) ?rest22
            case hy22 =>
              intro w9 hS9
              obtain ⟨-, hS9⟩ := hS9
              go_simp
              try with_reducible rfl
            try simp only [Act.put, List.setIfInBounds_toArray, List.set_cons_zero, List.set_cons_succ]
            refine wpAnyH_take (i := 11) (oi := { dst := some 34, op := _, type := _, pos := _, after := _, guard := _ }) (v := ?v23) rfl (by kernel_rfl) (by kernel_rfl) (by kernel_rfl) (fun _ _ _ h => h) (Or.inl ⟨by rfl, ?hy23⟩) (by assumption) ?rest23
            case hy23 =>
              intro w9 hS9
              obtain ⟨-, hS9⟩ := hS9
              go_simp
              try with_reducible rfl
            try simp only [Act.put, List.setIfInBounds_toArray, List.set_cons_zero, List.set_cons_succ]
            refine wpAnyH_take (i := 12) (oi := { dst := some 35, op := _, type := _, pos := _, after := _, guard := _ }) (v := ?v24) rfl (by kernel_rfl) (by kernel_rfl) (by kernel_rfl) (fun _ _ _ h => h) (Or.inl ⟨by rfl, ?hy24⟩) (by assumption) ?rest24
            case hy24 =>
              intro w9 hS9
              obtain ⟨-, hS9⟩ := hS9
              go_simp
              try with_reducible rfl
            try simp only [Act.put, List.setIfInBounds_toArray, List.set_cons_zero, List.set_cons_succ]
            refine wpAnyH_take (i := 13) (oi := { dst := some 36, op := _, type := _, pos := _, after := _, guard := _ }) (v := ?v25) rfl (by kernel_rfl) (by kernel_rfl) (by kernel_rfl) (fun _ _ _ h => h) (Or.inl ⟨by rfl, ?hy25⟩) (by assumption) ?rest25
            case hy25 =>
              intro w9 hS9
              obtain ⟨-, hS9⟩ := hS9
              go_simp
              try with_reducible rfl
            try simp only [Act.put, List.setIfInBounds_toArray, List.set_cons_zero, List.set_cons_succ]
            refine wpAnyH_take (i := 14) (oi := { dst := some 37, op := _, type := _, pos := _, after := _, guard := _ }) (v := ?v26) rfl (by kernel_rfl) (by kernel_rfl) (by kernel_rfl) (fun _ _ _ h => h) (Or.inl ⟨by rfl, ?hy26⟩) (by assumption) ?rest26
            case hy26 =>
              intro w9 hS9
              obtain ⟨-, hS9⟩ := hS9
              go_simp
              try with_reducible rfl
            try simp only [Act.put, List.setIfInBounds_toArray, List.set_cons_zero, List.set_cons_succ]
            refine wpAnyH_take (i := 15) (oi := { dst := some 38, op := _, type := _, pos := _, after := _, guard := _ }) (v := ?v27) rfl (by kernel_rfl) (by kernel_rfl) (by kernel_rfl) (fun _ _ _ h => h) (Or.inl ⟨by rfl, ?hy27⟩) (by assumption) ?rest27
            case hy27 =>
              intro w9 hS9
              obtain ⟨-, hS9⟩ := hS9
              go_simp
              try with_reducible rfl
            try simp only [Act.put, List.setIfInBounds_toArray, List.set_cons_zero, List.set_cons_succ]
            refine wpAnyH_take (i := 16) (oi := { dst := some 39, op := _, type := _, pos := _, after := _, guard := _ }) (v := ?v28) rfl (by kernel_rfl) (by kernel_rfl) (by kernel_rfl) (fun _ _ _ h => h) (Or.inl ⟨by rfl, ?hy28⟩) (by assumption) ?rest28
            case hy28 =>
              intro w9 hS9
              obtain ⟨-, hS9⟩ := hS9
              go_simp
              try with_reducible rfl
            try simp only [Act.put, List.setIfInBounds_toArray, List.set_cons_zero, List.set_cons_succ]
            refine wpAnyH_take (i := 17) (oi := { dst := some 40, op := _, type := _, pos := _, after := _, guard := _ }) (v := ?v29) rfl (by kernel_rfl) (by kernel_rfl) (by kernel_rfl) (fun _ _ _ h => h) (Or.inl ⟨by rfl, ?hy29⟩) (by assumption) ?rest29
            case hy29 =>
              intro w9 hS9
              obtain ⟨-, hS9⟩ := hS9
              go_simp
              try with_reducible rfl
            try simp only [Act.put, List.setIfInBounds_toArray, List.set_cons_zero, List.set_cons_succ]
            refine wpAnyH_take (i := 18) (oi := { dst := some 41, op := _, type := _, pos := _, after := _, guard := _ }) (v := ?v30) rfl (by kernel_rfl) (by kernel_rfl) (by kernel_rfl) (fun _ _ _ h => h) (Or.inl ⟨by rfl, ?hy30⟩) (by assumption) ?rest30
            case hy30 =>
              intro w9 hS9
              obtain ⟨-, hS9⟩ := hS9
              go_simp
              try with_reducible rfl
            try simp only [Act.put, List.setIfInBounds_toArray, List.set_cons_zero, List.set_cons_succ]
            refine wpAnyH_take (i := 19) (oi := { dst := some 42, op := _, type := _, pos := _, after := _, guard := _ }) (v := ?v31) rfl (by kernel_rfl) (by kernel_rfl) (by kernel_rfl) (fun _ _ _ h => h) (Or.inl ⟨by rfl, ?hy31⟩) (by assumption) ?rest31
            case hy31 =>
              intro w9 hS9
              obtain ⟨-, hS9⟩ := hS9
              go_simp
              try with_reducible rfl
            try simp only [Act.put, List.setIfInBounds_toArray, List.set_cons_zero, List.set_cons_succ]
            refine wpAnyH_take (i := 20) (oi := { dst := some 43, op := _, type := _, pos := _, after := _, guard := _ }) (v := ?v32) rfl (by kernel_rfl) (by kernel_rfl) (by kernel_rfl) (fun _ _ _ h => h) (Or.inl ⟨by rfl, ?hy32⟩) (by assumption) ?rest32
            case hy32 =>
              intro w9 hS9
              obtain ⟨-, hS9⟩ := hS9
              go_simp
              try with_reducible rfl
            try simp only [Act.put, List.setIfInBounds_toArray, List.set_cons_zero, List.set_cons_succ]
            refine wpAnyH_done (by kernel_rfl) ?_ _
            clear hHeld
            go_wp2
            go_roundw
            case rel => exact ⟨(j + 1) + 1, by omega, by go_num, (fun t ht => by by_cases e : t = (j + 1); (subst e; exact HT.out); exact HA.out t (by omega)), HBz.out _ HB.out⟩
            case measure => simp [intOf]; omega
          | false =>
            have HN : Hid (okEs ns = false) := es_no HLT.out (by rw [okEAt_succ, hcmp, Bool.and_false])
            have l1 : Op.bytesLess (eAt ns j).nd.path.toList (eAt ns (j + 1)).nd.path.toList = false := hcmp
            clear hcmp
            refine wp_region_held_drew (S := fun W => Hid (Below wn.heap.size wn W) ∧ (W.cell? ⟨B, 0, none⟩ = some (.bool (eAt ns (j + 1)).del) ∧ W.cell? ⟨B, 1, none⟩ = some (.string (eAt ns (j + 1)).nd.path) ∧ W.cell? ⟨B, 2, none⟩ = some (.string (eAt ns (j + 1)).nd.data) ∧ W.cell? ⟨B, 3, none⟩ = some (.int .i64 (eAt ns (j + 1)).nd.ver) ∧ W.cell? ⟨B, 4, none⟩ = some (.int .i64 (eAt ns (j + 1)).nd.cver) ∧ W.cell? ⟨B, 5, none⟩ = some (.int .i64 (eAt ns (j + 1)).nd.cz) ∧ W.cell? ⟨B, 6, none⟩ = some (.int .i64 (eAt ns (j + 1)).nd.mz) ∧ W.cell? ⟨B, 7, none⟩ = some (.int .i64 (eAt ns (j + 1)).nd.pz)) ∧ W.cell? ⟨w.heap.size, 1, none⟩ = some (.slice (some ⟨b, o, none⟩) n cap) ∧ W.cell? ⟨b, o + j * 8 + 1, none⟩ = some (.string (eAt ns j).nd.path)) (by kernel_rfl) (⟨HD, (XN.out.below HD.out).all, (CT.out _ HD.out), ((HC.out j (by omega)).below (HBn.out _ HD.out) hb).c1⟩) (fun hHeld => ?_)
            refine wpAnyH_take (i := 0) (oi := { dst := some 23, op := _, type := _, pos := _, after := _, guard := _ }) (v := ?v33) rfl (by kernel_rfl) (by kernel_rfl) (by kernel_rfl) (fun _ _ _ h => h) (Or.inl ⟨by rfl, ?hy33⟩) (by assumption) ?rest33
            case hy33 =>
              intro w9 hS9
              obtain ⟨-, hS9⟩ := hS9
              go_simp
              try with_reducible rfl
            try simp only [Act.put, List.setIfInBounds_toArray, List.set_cons_zero, List.set_cons_succ]
            refine wpAnyH_ready (rs := [1]) (by kernel_rfl) (by simp) ?_
            refine AllReadyH.cons (o := { dst := some 24, op := _, type := _, pos := _, after := _, guard := _ }) rfl (fun K hK => ?_) AllReadyH.nil
            go_simp
            refine (HE.out 1).mono ?_
            rintro e w' ⟨rfl, HB⟩
            rw [HOK.out]
            refine hK.out _ _ ((show (fun W => Hid (Below wn.heap.size wn W) ∧ (W.cell? ⟨B, 0, none⟩ = some (.bool (eAt ns (j + 1)).del) ∧ W.cell? ⟨B, 1, none⟩ = some (.string (eAt ns (j + 1)).nd.path) ∧ W.cell? ⟨B, 2, none⟩ = some (.string (eAt ns (j + 1)).nd.data) ∧ W.cell? ⟨B, 3, none⟩ = some (.int .i64 (eAt ns (j + 1)).nd.ver) ∧ W.cell? ⟨B, 4, none⟩ = some (.int .i64 (eAt ns (j + 1)).nd.cver) ∧ W.cell? ⟨B, 5, none⟩ = some (.int .i64 (eAt ns (j + 1)).nd.cz) ∧ W.cell? ⟨B, 6, none⟩ = some (.int .i64 (eAt ns (j + 1)).nd.mz) ∧ W.cell? ⟨B, 7, none⟩ = some (.int .i64 (eAt ns (j + 1)).nd.pz)) ∧ W.cell? ⟨w.heap.size, 1, none⟩ = some (.slice (some ⟨b, o, none⟩) n cap) ∧ W.cell? ⟨b, o + j * 8 + 1, none⟩ = some (.string (eAt ns j).nd.path)) w' from ⟨HB, (XN.out.below HB.out).all, (CT.out _ HB.out), ((HC.out j (by omega)).below (HBn.out _ HB.out) hb).c1⟩)) (fun hx9 => ?_)
            clear hK K hHeld hx9
            have hHeld := (show (fun W => Hid (Below wn.heap.size wn W) ∧ (W.cell? ⟨B, 0, none⟩ = some (.bool (eAt ns (j + 1)).del) ∧ W.cell? ⟨B, 1, none⟩ = some (.string (eAt ns (j + 1)).nd.path) ∧ W.cell? ⟨B, 2, none⟩ = some (.string (eAt ns (j + 1)).nd.data) ∧ W.cell? ⟨B, 3, none⟩ = some (.int .i64 (eAt ns (j + 1)).nd.ver) ∧ W.cell? ⟨B, 4, none⟩ = some (.int .i64 (eAt ns (j + 1)).nd.cver) ∧ W.cell? ⟨B, 5, none⟩ = some (.int .i64 (eAt ns (j + 1)).nd.cz) ∧ W.cell? ⟨B, 6, none⟩ = some (.int .i64 (eAt ns (j + 1)).nd.mz) ∧ W.cell? ⟨B, 7, none⟩ = some (.int .i64 (eAt ns (j + 1)).nd.pz)) ∧ W.cell? ⟨w.heap.size, 1, none⟩ = some (.slice (some ⟨b, o, none⟩) n cap) ∧ W.cell? ⟨b, o + j * 8 + 1, none⟩ = some (.string (eAt ns j).nd.path)) w' from ⟨HB, (XN.out.below HB.out).all, (CT.out _ HB.out), ((HC.out j (by omega)).below (HBn.out _ HB.out) hb).c1⟩)
            try simp only [Act.put, List.setIfInBounds_toArray, List.set_cons_zero, List.set_cons_succ]
            refine wpAnyH_take (i := 2) (oi := { dst := some 25, op := _, type := _, pos := _, after := _, guard := _ }) (v := ?v34) rfl (by kernel_rfl) (by kernel_rfl) (by kernel_rfl) (fun _ _ _ h => h) (Or.inl ⟨by rfl, ?hy34⟩) (by assumption) ?rest34
            case hy34 =>
              intro w9 hS9
              obtain ⟨-, hS9⟩ := hS9
              go_simp
              try with_reducible rfl
            try simp only [Act.put, List.setIfInBounds_toArray, List.set_cons_zero, List.set_cons_succ]
            refine wpAnyH_take (i := 3) (oi := { dst := some 26, op := _, type := _, pos := _, after := _, guard := _ }) (v := ?v35) rfl (by kernel_rfl) (by kernel_rfl) (by kernel_rfl) (fun _ _ _ h => h) (Or.inl ⟨by rfl, ?hy35⟩) (by assumption) ?rest35
            case hy35 =>
              intro w9 hS9
              obtain ⟨-, hS9⟩ := hS9
              go_simp
              try with_reducible rfl
            try simp only [Act.put, List.setIfInBounds_toArray, List.set_cons_zero, List.set_cons_succ]
            refine wpAnyH_take (i := 4) (oi := { dst := some 27, op := _, type := _, pos := _, after := _, guard := _ }) (v := ?v36) rfl (by kernel_rfl) (by kernel_rfl) (by kernel_rfl) (fun _ _ _ h => h) (Or.inl ⟨by rfl, ?hy36⟩) (by assumption) ?rest36
            case hy36 =>
              intro w9 hS9
              obtain ⟨-, hS9⟩ := hS9
              go_simp
              try with_reducible rfl
            try simp only [Act.put, List.setIfInBounds_toArray, List.set_cons_zero, List.set_cons_succ]
            refine wpAnyH_take (i := 5) (oi := { dst := some 28, op := _, type := _, pos := _, after := _, guard := _ }) (v := ?v37) rfl (by kernel_rfl) (by kernel_rfl) (by kernel_rfl) (fun _ _ _ h => h) (Or.inl ⟨by rfl, ?hy37⟩) (by assumption) ?rest37
            case hy37 =>
              intro w9 hS9
              obtain ⟨-, hS9⟩ := hS9
              go_simp
              try with_reducible rfl
            try simp only [Act.put, List.setIfInBounds_toArray, List.set_cons_zero, List.set_cons_succ]
            refine wpAnyH_take (i := 6) (oi := { dst := some 29, op := _, type := _, pos := _, after := _, guard := _ }) (v := ?v38) rfl (by kernel_rfl) (by kernel_rfl) (by kernel_rfl) (fun _ _ _ h => h) (Or.inl ⟨by rfl, ?hy38⟩) (by assumption) ?rest38
            case hy38 =>
              intro w9 hS9
              obtain ⟨-, hS9⟩ := hS9
              go_simp
              try with_reducible rfl
            try simp only [Act.put, List.setIfInBounds_toArray, List.set_cons_zero, List.set_cons_succ]
            refine wpAnyH_take (i := 7) (oi := { dst := some 30, op := _, type := _, pos := _, after := _, guard := _ }) (v := ?v39) rfl (by kernel_rfl) (by kernel_rfl) (by kernel_rfl) (fun _ _ _ h => h) (Or.inl ⟨by rfl, ?hy39⟩) (by assumption) ?rest39
            case hy39 =>
              intro w9 hS9
              obtain ⟨-, hS9⟩ := hS9
              go_simp
              try with_reducible rfl
            try simp only [Act.put, List.setIfInBounds_toArray, List.set_cons_zero, List.set_cons_succ]
            refine wpAnyH_take (i := 8) (oi := { dst := some 31, op := _, type := _, pos := _, after := _, guard := _ }) (v := ?v40) rfl (by kernel_rfl) (by kernel_rfl) (by kernel_rfl) (fun _ _ _ h => h) (Or.inl ⟨by rfl, ?hy40⟩) (by assumption) ?rest40
            case hy40 =>
              intro w9 hS9
              obtain ⟨-, hS9⟩ := hS9
              go_simp
              try with_reducible rfl
            try simp only [Act.put, List.setIfInBounds_toArray, List.set_cons_zero, List.set_cons_succ]
            refine wpAnyH_take (i := 9) (oi := { dst := some 32, op := _, type := _, pos := _, after := _, guard := _ }) (v := ?v41) rfl (by kernel_rfl) (by kernel_rfl) (by kernel_rfl) (fun _ _ _ h => h) (Or.inl ⟨by rfl, ?hy41⟩) (by assumption) ?rest41
            case hy41 =>
              intro w9 hS9
              obtain ⟨-, hS9⟩ := hS9
              go_simp
              try with_reducible rfl
            try simp only [Act.put, List.setIfInBounds_toArray, List.set_cons_zero, List.set_cons_succ]
            refine wpAnyH_take (i := 10) (oi := { dst := some 33, op := _, type := _, pos := _, after := _, guard := _ }) (v := ?v42) rfl (by kernel_rfl) (by kernel_rfl) (by kernel_rfl) (fun _ _ _ h => h) (Or.inl ⟨by rfl, ?hy42⟩) (by assumption) ?rest42
            case hy42 =>
              intro w9 hS9
              obtain ⟨-, hS9⟩ := hS9
              go_simp
              try with_reducible rfl
            try simp only [Act.put, List.setIfInBounds_toArray, List.set_cons_zero, List.set_cons_succ]
            refine wpAnyH_take (i := 11) (oi := { dst := some 34, op := _, type := _, pos := _, after := _, guard := _ }) (v := ?v43) rfl (by kernel_rfl) (by kernel_rfl) (by kernel_rfl) (fun _ _ _ h => h) (Or.inl ⟨by rfl, ?hy43⟩) (by assumption) ?rest43
            case hy43 =>
              intro w9 hS9
              obtain ⟨-, hS9⟩ := hS9
              go_simp
              try with_reducible rfl
            try simp only [Act.put, List.setIfInBounds_toArray, List.set_cons_zero, List.set_cons_succ]
            refine wpAnyH_take (i := 12) (oi := { dst := some 35, op := _, type := _, pos := _, after := _, guard := _ }) (v := ?v44) rfl (by kernel_rfl) (by kernel_rfl) (by kernel_rfl) (fun _ _ _ h => h) (Or.inl ⟨by rfl, ?hy44⟩) (by assumption) ?rest44
            case hy44 =>
              intro w9 hS9
              obtain ⟨-, hS9⟩ := hS9
              go_simp
              try with_reducible rfl
            try simp only [Act.put, List.setIfInBounds_toArray, List.set_cons_zero, List.set_cons_succ]
            refine wpAnyH_take (i := 13) (oi := { dst := some 36, op := _, type := _, pos := _, after := _, guard := _ }) (v := ?v45) rfl (by kernel_rfl) (by kernel_rfl) (by kernel_rfl) (fun _ _ _ h => h) (Or.inl ⟨by rfl, ?hy45⟩) (by assumption) ?rest45
            case hy45 =>
              intro w9 hS9
              obtain ⟨-, hS9⟩ := hS9
              go_simp
              try with_reducible rfl
            try simp only [Act.put, List.setIfInBounds_toArray, List.set_cons_zero, List.set_cons_succ]
            refine wpAnyH_take (i := 14) (oi := { dst := some 37, op := _, type := _, pos := _, after := _, guard := _ }) (v := ?v46) rfl (by kernel_rfl) (by kernel_rfl) (by kernel_rfl) (fun _ _ _ h => h) (Or.inl ⟨by rfl, ?hy46⟩) (by assumption) ?rest46
            case hy46 =>
              intro w9 hS9
              obtain ⟨-, hS9⟩ := hS9
              go_simp
              try with_reducible rfl
            try simp only [Act.put, List.setIfInBounds_toArray, List.set_cons_zero, List.set_cons_succ]
            refine wpAnyH_take (i := 15) (oi := { dst := some 38, op := _, type := _, pos := _, after := _, guard := _ }) (v := ?v47) rfl (by kernel_rfl) (by kernel_rfl) (by kernel_rfl) (fun _ _ _ h => h) (Or.inl ⟨by rfl, ?hy47⟩) (by assumption) ?rest47
            case hy47 =>
              intro w9 hS9
              obtain ⟨-, hS9⟩ := hS9
              go_simp
              try with_reducible rfl
            try simp only [Act.put, List.setIfInBounds_toArray, List.set_cons_zero, List.set_cons_succ]
            refine wpAnyH_take (i := 16) (oi := { dst := some 39, op := _, type := _, pos := _, after := _, guard := _ }) (v := ?v48) rfl (by kernel_rfl) (by kernel_rfl) (by kernel_rfl) (fun _ _ _ h => h) (Or.inl ⟨by rfl, ?hy48⟩) (by assumption) ?rest48
            case hy48 =>
              intro w9 hS9
              obtain ⟨-, hS9⟩ := hS9
              go_simp
              try with_reducible rfl
            try simp only [Act.put, List.setIfInBounds_toArray, List.set_cons_zero, List.set_cons_succ]
            refine wpAnyH_take (i := 17) (oi := { dst := some 40, op := _, type := _, pos := _, after := _, guard := _ }) (v := ?v49) rfl (by kernel_rfl) (by kernel_rfl) (by kernel_rfl) (fun _ _ _ h => h) (Or.inl ⟨by rfl, ?hy49⟩) (by assumption) ?rest49
            case hy49 =>
              intro w9 hS9
              obtain ⟨-, hS9⟩ := hS9
              go_simp
              try with_reducible rfl
            try simp only [Act.put, List.setIfInBounds_toArray, List.set_cons_zero, List.set_cons_succ]
            refine wpAnyH_take (i := 18) (oi := { dst := some 41, op := _, type := _, pos := _, after := _, guard := _ }) (v := ?v50) rfl (by kernel_rfl) (by kernel_rfl) (by kernel_rfl) (fun _ _ _ h => h) (Or.inl ⟨by rfl, ?hy50⟩) (by assumption) ?rest50
            case hy50 =>
              intro w9 hS9
              obtain ⟨-, hS9⟩ := hS9
              go_simp
              try with_reducible rfl
            try simp only [Act.put, List.setIfInBounds_toArray, List.set_cons_zero, List.set_cons_succ]
            refine wpAnyH_take (i := 19) (oi := { dst := some 42, op := _, type := _, pos := _, after := _, guard := _ }) (v := ?v51) rfl (by kernel_rfl) (by kernel_rfl) (by kernel_rfl) (fun _ _ _ h => h) (Or.inl ⟨by rfl, ?hy51⟩) (by assumption) ?rest51
            case hy51 =>
              intro w9 hS9
              obtain ⟨-, hS9⟩ := hS9
              go_simp
              try with_reducible rfl
            try simp only [Act.put, List.setIfInBounds_toArray, List.set_cons_zero, List.set_cons_succ]
            refine wpAnyH_take (i := 20) (oi := { dst := some 43, op := _, type := _, pos := _, after := _, guard := _ }) (v := ?v52) rfl (by kernel_rfl) (by kernel_rfl) (by kernel_rfl) (fun _ _ _ h => h) (Or.inl ⟨by rfl, ?hy52⟩) (by assumption) ?rest52
            case hy52 =>
              intro w9 hS9
              obtain ⟨-, hS9⟩ := hS9
              go_simp
              try with_reducible rfl
            try simp only [Act.put, List.setIfInBounds_toArray, List.set_cons_zero, List.set_cons_succ]
            refine wpAnyH_done (by kernel_rfl) ?_ _
            clear hHeld
            go_wp2
            go_ret
            exact ⟨ret_b HN.out.symm, HBn.out _ HB.out⟩
    · have HY : Hid (okEs ns = true) := es_yes (fun t ht => HA.out t (by rw [HP.out] at ht; omega))
      go_wp2
      go_ret
      exact ⟨ret_b HY.out.symm, HG0.out⟩

set_option maxHeartbeats 1000000 in
theorem implTxn_nil (w : World) (z : Int) (ao : Option Addr) (cap : Nat) (hz1 : ¬ z < 1) (hz2 : ¬ 2147483647 < z) :
    Calls Tryd.prog 22 #[.agg #[.int .i64 z, .slice ao 0 cap]] w fun e w' => e = .returned (.bool true) ∧ Below w.heap.size w w' := by
  go_enter Tryd.func22, Tryd.ntmps22
  go_wp2
  go_rounds 1
  go_ret
  exact ⟨rfl, (Below.refl _ _).alloc (Nat.le_refl _) _⟩

set_option maxHeartbeats 1000000 in
theorem implTxn_no (w : World) (z : Int) (ao : Option Addr) (n cap : Nat) (h : z < 1 ∨ 2147483647 < z ∨ 1000 < n) :
    Calls Tryd.prog 22 #[.agg #[.int .i64 z, .slice ao n cap]] w fun e w' => e = .returned (.bool false) ∧ Below w.heap.size w w' := by
  by_cases h1 : z < 1
  · clear h
    go_enter Tryd.func22, Tryd.ntmps22
    go_wp2
    go_ret
    exact ⟨rfl, (Below.refl _ _).alloc (Nat.le_refl _) _⟩
  · by_cases h2 : 2147483647 < z
    · clear h
      go_enter Tryd.func22, Tryd.ntmps22
      go_wp2
      go_ret
      exact ⟨rfl, (Below.refl _ _).alloc (Nat.le_refl _) _⟩
    · have h3 : (1000 : Int) < (n : Int) := by omega
      clear h
      go_enter Tryd.func22, Tryd.ntmps22
      go_wp2
      go_ret
      exact ⟨rfl, (Below.refl _ _).alloc (Nat.le_refl _) _⟩

theorem implTxn_any (w : World) (z : Int) (v : Value) (ns : List Ef) (h : RdE w v ns) (hsz : ∀ i, (eAt ns i).nd.path.size ≤ 1048576 ∧ (eAt ns i).nd.data.size ≤ 1048576) :
    Calls Tryd.prog 22 #[.agg #[.int .i64 z, v]] w fun e w' => e = .returned (.bool (okTxn z ns)) ∧ Below w.heap.size w w' := by
  obtain ⟨ao, cap, rfl, k1, k2, k3⟩ := h
  by_cases hl : z < 1 ∨ 2147483647 < z ∨ 1000 < ns.length
  · have : okTxn z ns = false := by
      unfold okTxn
      rcases hl with hl | hl | hl
      · rw [decide_eq_false (show ¬ 1 ≤ z by omega)]; rfl
      · rw [decide_eq_false (show ¬ z ≤ 2147483647 by omega)]; simp
      · rw [decide_eq_false (show ¬ ns.length ≤ 1000 by omega)]; simp
    rw [this]
    exact implTxn_no w z ao ns.length cap hl
  · have : okTxn z ns = okEs ns := by unfold okTxn; rw [decide_eq_true (show 1 ≤ z by omega), decide_eq_true (show z ≤ 2147483647 by omega), decide_eq_true (show ns.length ≤ 1000 by omega)]; rfl
    rw [this]
    rcases k3 with rfl | ⟨b, o, rfl, hb, hc⟩
    · exact implTxn_nil w z ao cap (by omega) (by omega)
    · exact implTxn_row w z b o ns.length cap ns (by omega) (by omega) rfl (by omega) hb hsz hc

end Go.Proofs.YtgjenbgclpmjmaaDoor

namespace Go.Proofs.YtgjenbgclpmjmaaDoor
open Go.RowKit

theorem less_trans : ∀ x y z : List UInt8, Op.bytesLess x y = true → Op.bytesLess y z = true → Op.bytesLess x z = true
  | [], [], _ => by simp [Op.bytesLess]
  | _ :: _, [], _ => by simp [Op.bytesLess]
  | _, _ :: _, [] => by simp [Op.bytesLess]
  | [], _ :: _, _ :: _ => by simp [Op.bytesLess]
  | a :: x, b :: y, c :: z => by
    unfold Op.bytesLess
    intro h1 h2
    have ih := less_trans x y z
    simp only [Bool.or_eq_true, Bool.and_eq_true, decide_eq_true_eq, beq_iff_eq] at h1 h2 ⊢
    rcases h1 with h1 | ⟨rfl, h1⟩
    · rcases h2 with h2 | ⟨rfl, h2⟩
      · exact .inl (UInt8.lt_trans h1 h2)
      · exact .inl h1
    · rcases h2 with h2 | ⟨rfl, h2⟩
      · exact .inl h2
      · exact .inr ⟨rfl, ih h1 h2⟩
theorem ltP_trans {a b c : ByteArray} (h1 : ltP a b = true) (h2 : ltP b c = true) : ltP a c = true := less_trans _ _ _ h1 h2
theorem ltP_ne {a b : ByteArray} (h : ltP a b = true) : (a.toList == b.toList) = false := by
  have := (ltP_yes h).2
  rw [Bool.eq_false_iff] at this ⊢
  intro e
  exact this (by rw [beq_iff_eq] at e ⊢; exact e.symm)
theorem ltP_gt_ne {a b : ByteArray} (h : ltP b a = true) : (a.toList == b.toList) = false := (ltP_yes h).2
theorem ltP_asymm {a b : ByteArray} (h : ltP a b = true) : ltP b a = false := (ltP_yes h).1
theorem ltP_total {a b : ByteArray} (h : ltP a b = false) (hne : (a.toList == b.toList) = false) : ltP b a = true := by
  rcases ltP_no h with h1 | ⟨_, h1⟩
  · exact h1
  · rw [beq_iff_eq] at h1
    rw [h1] at hne
    simp at hne
theorem ltP_eqL {a b c : ByteArray} (h : a.toList = b.toList) (h2 : ltP b c = true) : ltP a c = true := by unfold ltP at *; rw [h]; exact h2
theorem cmpP_lt (a b : ByteArray) : (cmpP a b < 0) ↔ ltP a b = true := by
  unfold cmpP ltP
  rw [cmp_lt, ByteArray.toList_eq, ByteArray.toList_eq]
theorem cmpP_eq (a b : ByteArray) : (cmpP a b == 0) = (a.toList == b.toList) := by
  have h : cmpP a b = 0 ↔ a.toList = b.toList := by
    unfold cmpP
    rw [cmp_eq0, ByteArray.toList_eq, ByteArray.toList_eq]
  rw [Bool.eq_iff_iff, beq_iff_eq, beq_iff_eq]
  exact h

/-- Paths ascend. -/
def Asc (ns : List Nd) : Prop := ns.Pairwise fun a b => ltP a.path b.path = true
def AscE (es : List Ef) : Prop := es.Pairwise fun a b => ltP a.nd.path b.nd.path = true
theorem asc_of {α : Type} (f : α → ByteArray) : ∀ (l : List α), (∀ j (h : j + 1 < l.length), ltP (f l[j]) (f l[j+1]) = true) → l.Pairwise fun a b => ltP (f a) (f b) = true
  | [], _ => List.Pairwise.nil
  | [a], _ => by simp
  | a :: b :: l, h => by
    have ih := asc_of f (b :: l) (fun j hj => h (j + 1) (by simp at hj ⊢; omega))
    refine List.Pairwise.cons (fun c hc => ?_) ih
    have hab : ltP (f a) (f b) = true := h 0 (by simp)
    rcases List.mem_cons.1 hc with rfl | hc
    · exact hab
    · exact ltP_trans hab ((List.pairwise_cons.1 ih).1 c hc)
theorem okTree_asc {ns : List Nd} (h : okTree ns = true) : Asc ns := by
  unfold okTree okSorted at h
  simp only [Bool.and_eq_true, List.all_eq_true, List.mem_range] at h
  refine asc_of (fun n => n.path) ns fun j hj => ?_
  have := h.2 (j + 1) hj
  rw [okAt_succ] at this
  simp only [Bool.and_eq_true] at this
  have h2 := this.2
  rw [nAt_get (show j < ns.length by omega), nAt_get hj] at h2
  exact h2
theorem okEs_asc {es : List Ef} (h : okEs es = true) : AscE es := by
  unfold okEs at h
  simp only [List.all_eq_true, List.mem_range] at h
  refine asc_of (fun n => n.nd.path) es fun j hj => ?_
  have := h (j + 1) hj
  rw [okEAt_succ] at this
  simp only [Bool.and_eq_true] at this
  have h2 := this.2
  rw [eAt_get (show j < es.length by omega), eAt_get hj] at h2
  exact h2
theorem okTxn_es {z : Int} {es : List Ef} (h : okTxn z es = true) : okEs es = true ∧ es.length ≤ 1000 := by
  unfold okTxn at h
  simp only [Bool.and_eq_true, decide_eq_true_eq] at h
  exact ⟨h.2, h.1.2⟩

/-! ### the place of a path -/
def plc (r : List Nd) (p : ByteArray) : Nat := (r.takeWhile fun m => ltP m.path p).length
def skp (r : List Nd) (p : ByteArray) : Nat := if fnd r p (plc r p) then 1 else 0
theorem plc_take (r : List Nd) (p : ByteArray) : r.take (plc r p) = r.takeWhile fun m => ltP m.path p := by
  unfold plc
  induction r with
  | nil => rfl
  | cons a r ih =>
    rw [List.takeWhile_cons]
    split
    · simp [ih]
    · simp
theorem plc_drop (r : List Nd) (p : ByteArray) : r.drop (plc r p) = r.dropWhile fun m => ltP m.path p := by
  unfold plc
  induction r with
  | nil => rfl
  | cons a r ih =>
    rw [List.takeWhile_cons, List.dropWhile_cons]
    split
    · simp [ih]
    · simp
theorem plc_le (r : List Nd) (p : ByteArray) : plc r p ≤ r.length := by
  have := congrArg List.length (plc_take r p)
  rw [List.length_take] at this
  unfold plc at this ⊢
  omega
theorem tw_lt (r : List Nd) (p : ByteArray) : ∀ a ∈ r.take (plc r p), ltP a.path p = true := by
  rw [plc_take]
  induction r with
  | nil => simp
  | cons b r ih =>
    rw [List.takeWhile_cons]
    split
    · rename_i hb
      intro a ha
      rcases List.mem_cons.1 ha with rfl | ha
      · exact hb
      · exact ih a ha
    · simp
theorem dw_not : ∀ (r : List Nd) (p : ByteArray), Asc r → ∀ a ∈ r.drop (plc r p), ltP a.path p = false := by
  intro r p h a ha
  rw [plc_drop] at ha
  induction r with
  | nil => simp at ha
  | cons b r ih =>
    rw [List.dropWhile_cons] at ha
    split at ha
    · exact ih (List.pairwise_cons.1 h).2 ha
    · rename_i hb
      have hb' : ltP b.path p = false := by simpa using hb
      rcases List.mem_cons.1 ha with rfl | ha
      · exact hb'
      · have hba := (List.pairwise_cons.1 h).1 a ha
        cases hc : ltP a.path p with
        | false => rfl
        | true => rw [ltP_trans hba hc] at hb'; exact absurd hb' (by simp)
theorem low_plc (r : List Nd) (p : ByteArray) (h : Asc r) : Low r p (plc r p) := by
  refine ⟨plc_le r p, fun i hi => ?_, fun i hi hl => ?_⟩
  · rw [cmpP_lt]
    have hl : i < r.length := Nat.lt_of_lt_of_le hi (plc_le r p)
    refine tw_lt r p _ ?_
    rw [nAt_get hl]
    exact List.mem_take_iff_getElem.2 ⟨i, by omega, rfl⟩
  · rw [cmpP_lt, dw_not r p h]
    · simp
    · rw [nAt_get hl]
      exact List.mem_drop_iff_getElem.2 ⟨i - plc r p, by omega, by congr 1; omega⟩
theorem asc_drop {r : List Nd} (h : Asc r) (k : Nat) : Asc (r.drop k) := List.Pairwise.sublist (List.drop_sublist k r) h

/-- What stays of a row that begins at or behind a path. -/
theorem wo_high (D : List Nd) (p : ByteArray) (h : Asc D) (hn : ∀ a ∈ D, ltP a.path p = false) : woN D p = D.drop (if (decide (0 < D.length) && ((nAt D 0).path.toList == p.toList)) then 1 else 0) := by
  cases D with
  | nil => rfl
  | cons b D =>
    have hr : ∀ a ∈ D, (a.path.toList == p.toList) = false := by
      intro a ha
      have h1 := (List.pairwise_cons.1 h).1 a ha
      have h2 := hn b (by simp)
      cases hc : a.path.toList == p.toList with
      | false => rfl
      | true =>
        rw [beq_iff_eq] at hc
        unfold ltP at h1 h2
        rw [hc] at h1
        rw [h1] at h2
        exact absurd h2 (by simp)
    have hf : woN D p = D := by
      unfold woN
      rw [List.filter_eq_self]
      intro a ha
      rw [hr a ha]
      rfl
    have e0 : nAt (b :: D) 0 = b := rfl
    rw [e0]
    unfold woN at hf ⊢
    rw [List.filter_cons]
    cases hc : b.path.toList == p.toList with
    | true => simp [hf]
    | false => simp [hf]
theorem skp_eq (r : List Nd) (p : ByteArray) : skp r p = if (decide (0 < (r.drop (plc r p)).length) && ((nAt (r.drop (plc r p)) 0).path.toList == p.toList)) then 1 else 0 := by
  unfold skp fnd
  rw [cmpP_eq, List.length_drop]
  have e : nAt (r.drop (plc r p)) 0 = nAt r (plc r p) := by unfold nAt; simp [List.getD]
  rw [e]
  have e2 : decide (plc r p < r.length) = decide (0 < r.length - plc r p) := by rw [decide_eq_decide]; omega
  rw [e2]
theorem skp_le (r : List Nd) (p : ByteArray) : skp r p ≤ 1 ∧ plc r p + skp r p ≤ r.length := by
  have h := plc_le r p
  rw [skp_eq]
  split
  · rename_i hc
    simp only [Bool.and_eq_true, decide_eq_true_eq, List.length_drop] at hc
    omega
  · omega
theorem wo_drop (r : List Nd) (p : ByteArray) (h : Asc r) : woN (r.drop (plc r p)) p = r.drop (plc r p + skp r p) := by
  rw [wo_high _ p (asc_drop h _) (dw_not r p h), ← skp_eq, List.drop_drop]
theorem wo_low (A : List Nd) (p : ByteArray) (h : ∀ a ∈ A, ltP a.path p = true) : woN A p = A := by
  unfold woN
  rw [List.filter_eq_self]
  intro a ha
  rw [ltP_ne (h a ha)]
  rfl
theorem wo_append (A B : List Nd) (p : ByteArray) : woN (A ++ B) p = woN A p ++ woN B p := by unfold woN; rw [List.filter_append]
theorem wo_all (A r : List Nd) (p : ByteArray) (hA : ∀ a ∈ A, ltP a.path p = true) (h : Asc r) : woN (A ++ r) p = A ++ r.take (plc r p) ++ r.drop (plc r p + skp r p) := by
  conv => lhs; rw [← List.take_append_drop (plc r p) r]
  rw [wo_append, wo_append, wo_low A p hA, wo_low _ p (tw_lt r p), wo_drop r p h, List.append_assoc]

theorem wi_low (n : Nd) : ∀ (A X : List Nd), (∀ a ∈ A, ltP a.path n.path = true) → A.foldl (stW n) (X, false) = (X ++ A, false)
  | [], X, _ => by simp
  | a :: A, X, h => by
    have ha := h a (by simp)
    have e : stW n (X, false) a = (X ++ [a], false) := by
      have h1 : Op.bytesLess a.path.toList n.path.toList = true := ha
      unfold stW
      rw [ltP_ne ha, h1]
      rfl
    rw [List.foldl_cons, e, wi_low n A _ (fun b hb => h b (List.mem_cons_of_mem _ hb))]
    simp
theorem wi_done (n : Nd) : ∀ (A X : List Nd), (A.foldl (stW n) (X, true)) = (X ++ woN A n.path, true)
  | [], X => by simp [woN]
  | a :: A, X => by
    have e : stW n (X, true) a = (X ++ woN [a] n.path, true) := by
      unfold stW woN
      rw [List.filter_cons]
      cases hc : a.path.toList == n.path.toList <;> simp
    rw [List.foldl_cons, e, wi_done n A, show a :: A = [a] ++ A from rfl, wo_append, List.append_assoc]
theorem wi_high (n : Nd) (D X : List Nd) (hn : ∀ a ∈ D, ltP a.path n.path = false) :
    (let f := D.foldl (stW n) (X, false); if f.2 then f.1 else f.1 ++ [n]) = X ++ n :: woN D n.path := by
  cases D with
  | nil => simp [woN]
  | cons b D =>
    have hb : Op.bytesLess b.path.toList n.path.toList = false := hn b (by simp)
    have e : stW n (X, false) b = (X ++ n :: woN [b] n.path, true) := by
      unfold stW woN
      rw [hb, List.filter_cons]
      cases hc : b.path.toList == n.path.toList <;> simp
    have e2 : (b :: D).foldl (stW n) (X, false) = (X ++ n :: woN (b :: D) n.path, true) := by
      rw [List.foldl_cons, e, wi_done, show b :: D = [b] ++ D from rfl, wo_append]
      simp
    simp only [e2, if_true]
theorem wi_all (A r : List Nd) (n : Nd) (hA : ∀ a ∈ A, ltP a.path n.path = true) (h : Asc r) : wiN (A ++ r) n = A ++ r.take (plc r n.path) ++ n :: r.drop (plc r n.path + skp r n.path) := by
  unfold wiN wiF
  conv => lhs; rw [← List.take_append_drop (plc r n.path) r]
  rw [← List.append_assoc, List.foldl_append, wi_low n (A ++ r.take (plc r n.path)) [] (by
    intro a ha
    rcases List.mem_append.1 ha with ha | ha
    · exact hA a ha
    · exact tw_lt r _ a ha)]
  have := wi_high n (r.drop (plc r n.path)) ([] ++ (A ++ r.take (plc r n.path))) (dw_not r _ h)
  simp only at this
  rw [this, wo_drop r _ h]
  simp

/-! ### one effect, all effects -/
def apS (st : List Nd × List Nd) (e : Ef) : List Nd × List Nd :=
  (st.1 ++ st.2.take (plc st.2 e.nd.path) ++ (if e.del then [] else [e.nd]), st.2.drop (plc st.2 e.nd.path + skp st.2 e.nd.path))
def apI (ns : List Nd) (es : List Ef) : List Nd × List Nd := es.foldl apS ([], ns)
def apQ (ns : List Nd) (e : Ef) : List Nd := if e.del then woN ns e.nd.path else wiN ns e.nd
def apL (ns : List Nd) (es : List Ef) : List Nd := es.foldl apQ ns
theorem apS_apQ (st : List Nd × List Nd) (e : Ef) (hA : ∀ a ∈ st.1, ltP a.path e.nd.path = true) (h : Asc st.2) : apQ (st.1 ++ st.2) e = (apS st e).1 ++ (apS st e).2 := by
  unfold apQ apS
  cases e.del with
  | true => simp [wo_all _ _ _ hA h]
  | false => simp [wi_all _ _ _ hA h]
theorem ap_eq : ∀ (es : List Ef) (st : List Nd × List Nd), AscE es → (∀ a ∈ st.1, ∀ e ∈ es, ltP a.path e.nd.path = true) → Asc st.2 →
    (es.foldl apS st).1 ++ (es.foldl apS st).2 = es.foldl apQ (st.1 ++ st.2)
  | [], _, _, _, _ => rfl
  | e :: es, st, h, hA, hr => by
    have h' := List.pairwise_cons.1 h
    rw [List.foldl_cons, List.foldl_cons, apS_apQ st e (fun a ha => hA a ha e (by simp)) hr]
    refine ap_eq es (apS st e) h'.2 (fun a ha f hf => ?_) (asc_drop hr _)
    have hef := h'.1 f hf
    unfold apS at ha
    rcases List.mem_append.1 ha with ha | ha
    · rcases List.mem_append.1 ha with ha | ha
      · exact hA a ha f (List.mem_cons_of_mem _ hf)
      · exact ltP_trans (tw_lt _ _ a ha) hef
    · split at ha
      · simp at ha
      · rw [List.mem_singleton] at ha
        rw [ha]
        exact hef
theorem apI_eq {ns : List Nd} {es : List Ef} (h : Asc ns) (he : AscE es) : (apI ns es).1 ++ (apI ns es).2 = apL ns es := ap_eq es ([], ns) he (fun a ha => by simp at ha) h
theorem apI_succ (ns : List Nd) (es : List Ef) (k : Nat) (h : k < es.length) : apI ns (es.take (k + 1)) = apS (apI ns (es.take k)) (eAt es k) := by
  unfold apI
  rw [List.take_succ_eq_append_getElem h, List.foldl_append, eAt_get h]
  rfl
theorem apL_succ (ns : List Nd) (es : List Ef) (k : Nat) (h : k < es.length) : apL ns (es.take (k + 1)) = apQ (apL ns (es.take k)) (eAt es k) := by
  unfold apL
  rw [List.take_succ_eq_append_getElem h, List.foldl_append, eAt_get h]
  rfl
theorem apS_len (st : List Nd × List Nd) (e : Ef) : (apS st e).1.length + (apS st e).2.length ≤ st.1.length + st.2.length + 1 := by
  unfold apS
  have h := plc_le st.2 e.nd.path
  simp only [List.length_append, List.length_take, List.length_drop]
  split <;> simp <;> omega
theorem apI_len : ∀ (ns : List Nd) (es : List Ef) (k : Nat), (apI ns (es.take k)).1.length + (apI ns (es.take k)).2.length ≤ ns.length + k
  | ns, es, 0 => by simp [apI]
  | ns, es, k + 1 => by
    have ih := apI_len ns es k
    by_cases h : k < es.length
    · rw [apI_succ ns es k h]
      have := apS_len (apI ns (es.take k)) (eAt es k)
      omega
    · rw [List.take_of_length_le (by omega)] at ih ⊢
      omega
theorem apI_asc {ns : List Nd} (h : Asc ns) (es : List Ef) : Asc (apI ns es).2 := by
  unfold apI
  have : ∀ (es : List Ef) (st : List Nd × List Nd), Asc st.2 → Asc (es.foldl apS st).2 := by
    intro es
    induction es with
    | nil => exact fun st h => h
    | cons e es ih => exact fun st h => by rw [List.foldl_cons]; exact ih _ (asc_drop h _)
  exact this es _ h
theorem ascE_take {es : List Ef} (h : AscE es) (k : Nat) : AscE (es.take k) := List.Pairwise.sublist (List.take_sublist k es) h
theorem apL_len {ns : List Nd} {es : List Ef} (h : Asc ns) (he : AscE es) (k : Nat) : (apL ns (es.take k)).length ≤ ns.length + k := by
  rw [← apI_eq h (ascE_take he k), List.length_append]
  exact apI_len ns es k
theorem apI_all {ns : List Nd} {es : List Ef} {k : Nat} (h : Asc ns) (he : AscE es) (hk : es.length = k) : (apI ns (es.take k)).1 ++ (apI ns (es.take k)).2 = apL ns es := by
  rw [List.take_of_length_le (by omega)]
  exact apI_eq h he
/-- The nodes behind a transaction. -/
def resA (ns : List Nd) (z : Int) (es : List Ef) : List Nd := if okTree ns && okTxn z es then apL ns es else []
theorem resA_len (ns : List Nd) (z : Int) (es : List Ef) : (resA ns z es).length ≤ 2000 := by
  unfold resA
  split
  · rename_i h
    simp only [Bool.and_eq_true] at h
    have h1 := okTree_len h.1
    have h2 := okTxn_es h.2
    have := apL_len (okTree_asc h.1) (okEs_asc h2.1) es.length
    rw [List.take_of_length_le (Nat.le_refl _)] at this
    omega
  · simp
theorem wo_empty {ns : List Nd} (h : ∀ k, k < ns.length → okNd (nAt ns k) = true) (p : ByteArray) (hp : p.toList = []) : woN ns p = ns := by
  unfold woN
  rw [List.filter_eq_self]
  intro a ha
  obtain ⟨k, hk, e⟩ := List.getElem_of_mem ha
  have hn := h k hk
  rw [nAt_get hk, e] at hn
  have hpath : okPath a.path = true := by
    unfold okNd at hn
    simp only [Bool.and_eq_true] at hn
    exact hn.1.1.1.1.1.1
  have : ¬ a.path.toList = [] := by
    intro hc
    have hd : a.path.data.toList = [] := by rw [← ByteArray.toList_eq]; exact hc
    have hs : a.path.size = 0 := by
      have := congrArg List.length hd
      simpa using this
    by_cases h47 : a.path.data.toList = [47]
    · rw [hd] at h47; simp at h47
    · rw [okPath_not h47] at hpath
      simp only [Bool.and_eq_true, decide_eq_true_eq] at hpath
      omega
  rw [hp]
  cases hc : a.path.toList == [] with
  | false => rfl
  | true => rw [beq_iff_eq] at hc; exact absurd hc this

end Go.Proofs.YtgjenbgclpmjmaaDoor

