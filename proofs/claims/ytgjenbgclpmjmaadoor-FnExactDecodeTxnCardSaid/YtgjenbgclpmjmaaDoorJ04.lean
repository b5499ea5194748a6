import Derived.Test.YtgjenbgclpmjmaaDoorJ03
import Derived.Test.YtgjenbgclpmjmaaDoorJ02
import Derived.Test.YtgjenbgclpmjmaaDoorJ01
import Derived.Defers
import Derived.Recover
namespace Go.Proofs.YtgjenbgclpmjmaaDoor
open Go.RowKit

/-- A local effect. -/
structure BoxE (w : World) (B : Nat) (n : Ef) : Prop where
  lt : B < w.heap.size
  c0 : w.cell? ⟨B, 0, none⟩ = some (.bool n.del)
  c1 : w.cell? ⟨B, 1, none⟩ = some (.string n.nd.path)
  c2 : w.cell? ⟨B, 2, none⟩ = some (.string n.nd.data)
  c3 : w.cell? ⟨B, 3, none⟩ = some (.int .i64 n.nd.ver)
  c4 : w.cell? ⟨B, 4, none⟩ = some (.int .i64 n.nd.cver)
  c5 : w.cell? ⟨B, 5, none⟩ = some (.int .i64 n.nd.cz)
  c6 : w.cell? ⟨B, 6, none⟩ = some (.int .i64 n.nd.mz)
  c7 : w.cell? ⟨B, 7, none⟩ = some (.int .i64 n.nd.pz)
theorem BoxE.new (w : World) (n : Ef) (t : TypeId) : BoxE (w.alloc (.cells #[.bool n.del, .string n.nd.path, .string n.nd.data, .int .i64 n.nd.ver, .int .i64 n.nd.cver, .int .i64 n.nd.cz, .int .i64 n.nd.mz, .int .i64 n.nd.pz] t)) w.heap.size n :=
  ⟨by simp, by simp, by simp, by simp, by simp, by simp, by simp, by simp, by simp⟩
theorem BoxE.below {w w' : World} {B : Nat} {n : Ef} (h : BoxE w B n) (hb : Below w.heap.size w w') : BoxE w' B n :=
  ⟨Nat.lt_of_lt_of_le h.lt hb.size, (hb.cell (p := ⟨B, _, none⟩) h.lt).trans h.c0, (hb.cell (p := ⟨B, _, none⟩) h.lt).trans h.c1, (hb.cell (p := ⟨B, _, none⟩) h.lt).trans h.c2, (hb.cell (p := ⟨B, _, none⟩) h.lt).trans h.c3, (hb.cell (p := ⟨B, _, none⟩) h.lt).trans h.c4, (hb.cell (p := ⟨B, _, none⟩) h.lt).trans h.c5, (hb.cell (p := ⟨B, _, none⟩) h.lt).trans h.c6, (hb.cell (p := ⟨B, _, none⟩) h.lt).trans h.c7⟩
theorem BoxE.all {w : World} {B : Nat} {n : Ef} (h : BoxE w B n) : w.cell? ⟨B, 0, none⟩ = some (.bool n.del) ∧ w.cell? ⟨B, 1, none⟩ = some (.string n.nd.path) ∧ w.cell? ⟨B, 2, none⟩ = some (.string n.nd.data) ∧ w.cell? ⟨B, 3, none⟩ = some (.int .i64 n.nd.ver) ∧ w.cell? ⟨B, 4, none⟩ = some (.int .i64 n.nd.cver) ∧ w.cell? ⟨B, 5, none⟩ = some (.int .i64 n.nd.cz) ∧ w.cell? ⟨B, 6, none⟩ = some (.int .i64 n.nd.mz) ∧ w.cell? ⟨B, 7, none⟩ = some (.int .i64 n.nd.pz) := ⟨h.c0, h.c1, h.c2, h.c3, h.c4, h.c5, h.c6, h.c7⟩

def okEAt (ns : List Ef) (k : Nat) : Bool := okEf (eAt ns k) && (decide (k = 0) || ltP (eAt ns (k - 1)).nd.path (eAt ns k).nd.path)
def okEs (ns : List Ef) : Bool := (List.range ns.length).all (okEAt ns)
def okTxn (z : Int) (ns : List Ef) : Bool := decide (1 ≤ z) && decide (z ≤ 2147483647) && decide (ns.length ≤ 1000) && okEs ns
theorem es_no {ns : List Ef} {k : Nat} (h : k < ns.length) (hn : okEAt ns k = false) : okEs ns = false := by
  unfold okEs; rw [List.all_eq_false]; exact ⟨k, List.mem_range.2 h, by rw [hn]; simp⟩
theorem es_yes {ns : List Ef} (h : ∀ k, k < ns.length → okEAt ns k = true) : okEs ns = true := by
  unfold okEs; rw [List.all_eq_true]; exact fun k hk => h k (List.mem_range.1 hk)
theorem okEAt_zero (ns : List Ef) : okEAt ns 0 = okEf (eAt ns 0) := by unfold okEAt; simp
theorem okEAt_succ (ns : List Ef) (j : Nat) : okEAt ns (j + 1) = (okEf (eAt ns (j + 1)) && ltP (eAt ns j).nd.path (eAt ns (j + 1)).nd.path) := by unfold okEAt; simp
theorem okEf_nd {n : Ef} (h : okNd n.nd = false) : okEf n = false := by unfold okEf; rw [h]; rfl

set_option maxHeartbeats 8000000 in
set_option maxRecDepth 100000 in
theorem implTxn_row (w : World) (z : Int) (b o n cap : Nat) (ns : List Ef) (hz1 : ¬ z < 1) (hz2 : ¬ 2147483647 < z) (hp : ns.length = n) (hn : n ≤ 1000) (hb : b < w.heap.size) (hsz : ∀ i, (eAt ns i).nd.path.size ≤ 1048576 ∧ (eAt ns i).nd.data.size ≤ 1048576)
    (hc : ∀ i, i < n → CellsE w b (o + i * 8) (eAt ns i)) :
    Calls Tryd.prog 22 #[.agg #[.int .i64 z, .slice (some ⟨b, o, none⟩) n cap]] w fun e w' => e = .returned (.bool (okEs ns)) ∧ Below w.heap.size w w' := by
  have HC : Hid (∀ i, i < n → CellsE w b (o + i * 8) (eAt ns i)) := hc
  have HP : Hid (ns.length = n) := hp
  have HZ : Hid (∀ i, (eAt ns i).nd.path.size ≤ 1048576 ∧ (eAt ns i).nd.data.size ≤ 1048576) := hsz
  have h1I : ¬ (1000 : Int) < (n : Int) := by omega
  clear hc hp hsz
  have B0 : Hid (Below w.heap.size w (w.alloc (.cells #[.int .i64 z, .slice (some ⟨b, o, none⟩) n cap] 41))) := (Below.refl _ _).alloc (Nat.le_refl _) _
  have c01 : Hid ((w.alloc (.cells #[.int .i64 z, .slice (some ⟨b, o, none⟩) n cap] 41)).cell? ⟨w.heap.size, 1, none⟩ = some (.slice (some ⟨b, o, none⟩) n cap)) := by show _ = _; simp
  have z0 : w.heap.size < (w.alloc (.cells #[.int .i64 z, .slice (some ⟨b, o, none⟩) n cap] 41)).heap.size := by simp
  go_enter Tryd.func22, Tryd.ntmps22
  go_wp2
  generalize w.alloc (.cells #[.int .i64 z, .slice (some ⟨b, o, none⟩) n cap] 41) = w0 at *
  go_loopw [18] (fun i wr => ∃ k : Nat, k ≤ n ∧ i = .int .i64 k ∧ Hid (∀ t, t < k → okEAt ns t = true) ∧ Hid (Below w0.heap.size w0 wr)) (fun i _ => n - (intOf i).toNat)
  case atStart => exact ⟨0, Nat.zero_le _, rfl, (fun t ht => by omega), Below.refl _ _⟩
  case round =>
    obtain ⟨k, hk, rfl, HA, HG⟩ := hrel
    have HG0 : Hid (Below w.heap.size w wr) := B0.out.trans (HG.out.mono (by omega))
    have cT := (HG.out.cell (p := ⟨w.heap.size, 1, none⟩) z0).trans c01.out
    by_cases hlt : k < n
    · have hltI : (k : Int) < (n : Int) := by omega
      have g0 : (0 : Int) ≤ (k : Int) := by omega
      have HLT : Hid (k < ns.length) := by rw [HP.out]; exact hlt
      obtain ⟨c0, c1, c2, c3, c4, c5, c6, c7⟩ := (HC.out k hlt).below HG0.out hb
      have XN : Hid (BoxE (wr.alloc (.cells #[.bool (eAt ns k).del, .string (eAt ns k).nd.path, .string (eAt ns k).nd.data, .int .i64 (eAt ns k).nd.ver, .int .i64 (eAt ns k).nd.cver, .int .i64 (eAt ns k).nd.cz, .int .i64 (eAt ns k).nd.mz, .int .i64 (eAt ns k).nd.pz] 86)) wr.heap.size (eAt ns k)) := BoxE.new _ _ _
      have BN : Hid (Below wr.heap.size wr (wr.alloc (.cells #[.bool (eAt ns k).del, .string (eAt ns k).nd.path, .string (eAt ns k).nd.data, .int .i64 (eAt ns k).nd.ver, .int .i64 (eAt ns k).nd.cver, .int .i64 (eAt ns k).nd.cz, .int .i64 (eAt ns k).nd.mz, .int .i64 (eAt ns k).nd.pz] 86))) := (Below.refl _ _).alloc (Nat.le_refl _) _
      go_wp2
      clear c0 c1 c2 c3 c4 c5 c6 c7 cT
      generalize wr.alloc (.cells #[.bool (eAt ns k).del, .string (eAt ns k).nd.path, .string (eAt ns k).nd.data, .int .i64 (eAt ns k).nd.ver, .int .i64 (eAt ns k).nd.cver, .int .i64 (eAt ns k).nd.cz, .int .i64 (eAt ns k).nd.mz, .int .i64 (eAt ns k).nd.pz] 86) = wn at *
      have zr := HG.out.size
      obtain ⟨B, hB⟩ : ∃ B, B = wr.heap.size := ⟨_, rfl⟩
      rw [← hB] at XN
      rw [← hB]
      have HBn : Hid (∀ W, Below wn.heap.size wn W → Below w.heap.size w W) := fun W hW => (HG0.out.trans (BN.out.mono HG0.out.size)).trans (hW.mono (Nat.le_trans HG0.out.size BN.out.size))
      have HBz : Hid (∀ W, Below wn.heap.size wn W → Hid (Below w0.heap.size w0 W)) := fun W hW => (HG.out.trans (BN.out.mono HG.out.size)).trans (hW.mono (Nat.le_trans HG.out.size BN.out.size))
      have CT : Hid (∀ W, Below wn.heap.size wn W → W.cell? ⟨w.heap.size, 1, none⟩ = some (.slice (some ⟨b, o, none⟩) n cap)) := fun W hW => ((HBz.out W hW).out.cell (p := ⟨w.heap.size, 1, none⟩) z0).trans c01.out
      have HE : Hid (∀ q, Calls Tryd.prog 66 #[.agg #[.bool (eAt ns k).del, .string (eAt ns k).nd.path, .string (eAt ns k).nd.data, .int .i64 (eAt ns k).nd.ver, .int .i64 (eAt ns k).nd.cver, .int .i64 (eAt ns k).nd.cz, .int .i64 (eAt ns k).nd.mz, .int .i64 (eAt ns k).nd.pz]] (wn.drewN q) fun e w' => e = .returned (.bool (okEf (eAt ns k))) ∧ Hid (Below wn.heap.size wn w')) := by
        intro q
        refine (validEffect_any _ (eAt ns k) (HZ.out k).2).mono ?_
        rintro e w' ⟨rfl, b'⟩
        exact ⟨rfl, (below_drewN' wn q).trans b'⟩
      have HD : Hid (Below wn.heap.size wn wn.drew) := below_drewN' wn 1
      have HHB : Hid (B = wr.heap.size) := hB
      clear hB BN
      cases hok : okEf (eAt ns k) with
      | false =>
        have HOK : Hid (okEf (eAt ns k) = false) := hok
        have HN : Hid (okEs ns = false) := es_no HLT.out (by unfold okEAt; rw [hok]; rfl)
        clear hok
        refine wp_region_held_drew (S := fun W => Hid (Below wn.heap.size wn W) ∧ (W.cell? ⟨B, 0, none⟩ = some (.bool (eAt ns k).del) ∧ W.cell? ⟨B, 1, none⟩ = some (.string (eAt ns k).nd.path) ∧ W.cell? ⟨B, 2, none⟩ = some (.string (eAt ns k).nd.data) ∧ W.cell? ⟨B, 3, none⟩ = some (.int .i64 (eAt ns k).nd.ver) ∧ W.cell? ⟨B, 4, none⟩ = some (.int .i64 (eAt ns k).nd.cver) ∧ W.cell? ⟨B, 5, none⟩ = some (.int .i64 (eAt ns k).nd.cz) ∧ W.cell? ⟨B, 6, none⟩ = some (.int .i64 (eAt ns k).nd.mz) ∧ W.cell? ⟨B, 7, none⟩ = some (.int .i64 (eAt ns k).nd.pz))) (by kernel_rfl) (⟨HD, (XN.out.below HD.out).all⟩) (fun hHeld => ?_)
        refine wpAnyH_take (i := 0) (oi := { dst := some 23, op := _, type := _, pos := _, after := _, guard := _ }) (v := ?v1) rfl (by kernel_rfl) (by kernel_rfl) (by kernel_rfl) (fun _ _ _ h => h) (Or.inl ⟨by rfl, ?hy1⟩) (by assumption) ?rest1
        case hy1 =>
          intro w9 hS9
          obtain ⟨-, hS9⟩ := hS9
          go_simp
          try with_reducible rfl
        try simp only [Act.put, List.setIfInBounds_toArray, List.set_cons_zero, List.set_cons_succ]
        refine wpAnyH_ready (rs := [1]) (by kernel_rfl) (by simp) ?_
        refine AllReadyH.cons (o := { dst := some 24, op := _, type := _, pos := _, after := _, guard := _ }) rfl (fun K hK => ?_) AllReadyH.nil
        go_simp
        refine (HE.out 1).mono ?_
        rintro e w' ⟨rfl, HB⟩
        rw [HOK.out]
        refine hK.out _ _ ((show (fun W => Hid (Below wn.heap.size wn W) ∧ (W.cell? ⟨B, 0, none⟩ = some (.bool (eAt ns k).del) ∧ W.cell? ⟨B, 1, none⟩ = some (.string (eAt ns k).nd.path) ∧ W.cell? ⟨B, 2, none⟩ = some (.string (eAt ns k).nd.data) ∧ W.cell? ⟨B, 3, none⟩ = some (.int .i64 (eAt ns k).nd.ver) ∧ W.cell? ⟨B, 4, none⟩ = some (.int .i64 (eAt ns k).nd.cver) ∧ W.cell? ⟨B, 5, none⟩ = some (.int .i64 (eAt ns k).nd.cz) ∧ W.cell? ⟨B, 6, none⟩ = some (.int .i64 (eAt ns k).nd.mz) ∧ W.cell? ⟨B, 7, none⟩ = some (.int .i64 (eAt ns k).nd.pz))) w' from ⟨HB, (XN.out.below HB.out).all⟩)) (fun hx9 => ?_)
        clear hK K hHeld hx9
        have hHeld := (show (fun W => Hid (Below wn.heap.size wn W) ∧ (W.cell? ⟨B, 0, none⟩ = some (.bool (eAt ns k).del) ∧ W.cell? ⟨B, 1, none⟩ = some (.string (eAt ns k).nd.path) ∧ W.cell? ⟨B, 2, none⟩ = some (.string (eAt ns k).nd.data) ∧ W.cell? ⟨B, 3, none⟩ = some (.int .i64 (eAt ns k).nd.ver) ∧ W.cell? ⟨B, 4, none⟩ = some (.int .i64 (eAt ns k).nd.cver) ∧ W.cell? ⟨B, 5, none⟩ = some (.int .i64 (eAt ns k).nd.cz) ∧ W.cell? ⟨B, 6, none⟩ = some (.int .i64 (eAt ns k).nd.mz) ∧ W.cell? ⟨B, 7, none⟩ = some (.int .i64 (eAt ns k).nd.pz))) w' from ⟨HB, (XN.out.below HB.out).all⟩)
        try simp only [Act.put, List.setIfInBounds_toArray, List.set_cons_zero, List.set_cons_succ]
        refine wpAnyH_take (i := 2) (oi := { dst := some 25, op := _, type := _, pos := _, after := _, guard := _ }) (v := ?v2) rfl (by kernel_rfl) (by kernel_rfl) (by kernel_rfl) (fun _ _ _ h => h) (Or.inl ⟨by rfl, ?hy2⟩) (by assumption) ?rest2
        case hy2 =>
          intro w9 hS9
          obtain ⟨-, hS9⟩ := hS9
          go_simp
          try with_reducible rfl
        try simp only [Act.put, List.setIfInBounds_toArray, List.set_cons_zero, List.set_cons_succ]
        refine wpAnyH_take (i := 3) (oi := { dst := some 26, op := _, type := _, pos := _, after := _, guard := _ }) (v := ?v3) rfl (by kernel_rfl) (by kernel_rfl) (by kernel_rfl) (fun _ _ _ h => h) (Or.inl ⟨by rfl, ?hy3⟩) (by assumption) ?rest3
        case hy3 =>
          intro w9 hS9
          obtain ⟨-, hS9⟩ := hS9
          go_simp
          try with_reducible rfl
        try simp only [Act.put, List.setIfInBounds_toArray, List.set_cons_zero, List.set_cons_succ]
        refine wpAnyH_take (i := 4) (oi := { dst := some 27, op := _, type := _, pos := _, after := _, guard := _ }) (v := undef) rfl (by kernel_rfl) (by kernel_rfl) (by kernel_rfl) (fun _ _ _ h => h) (Or.inr ⟨by rfl, rfl⟩) (by assumption) ?_
        try simp only [Act.put, List.setIfInBounds_toArray, List.set_cons_zero, List.set_cons_succ]
        refine wpAnyH_take (i := 5) (oi := { dst := some 28, op := _, type := _, pos := _, after := _, guard := _ }) (v := undef) rfl (by kernel_rfl) (by kernel_rfl) (by kernel_rfl) (fun _ _ _ h => h) (Or.inr ⟨by rfl, rfl⟩) (by assumption) ?_
        try simp only [Act.put, List.setIfInBounds_toArray, List.set_cons_zero, List.set_cons_succ]
        refine wpAnyH_take (i := 6) (oi := { dst := some 29, op := _, type := _, pos := _, after := _, guard := _ }) (v := undef) rfl (by kernel_rfl) (by kernel_rfl) (by kernel_rfl) (fun _ _ _ h => h) (Or.inr ⟨by rfl, rfl⟩) (by assumption) ?_
        try simp only [Act.put, List.setIfInBounds_toArray, List.set_cons_zero, List.set_cons_succ]
        refine wpAnyH_take (i := 7) (oi := { dst := some 30, op := _, type := _, pos := _, after := _, guard := _ }) (v := undef) rfl (by kernel_rfl) (by kernel_rfl) (by kernel_rfl) (fun _ _ _ h => h) (Or.inr ⟨by rfl, rfl⟩) (by assumption) ?_
        try simp only [Act.put, List.setIfInBounds_toArray, List.set_cons_zero, List.set_cons_succ]
        refine wpAnyH_take (i := 8) (oi := { dst := some 31, op := _, type := _, pos := _, after := _, guard := _ }) (v := undef) rfl (by kernel_rfl) (by kernel_rfl) (by kernel_rfl) (fun _ _ _ h => h) (Or.inr ⟨by rfl, rfl⟩) (by assumption) ?_
        try simp only [Act.put, List.setIfInBounds_toArray, List.set_cons_zero, List.set_cons_succ]
        refine wpAnyH_take (i := 9) (oi := { dst := some 32, op := _, type := _, pos := _, after := _, guard := _ }) (v := undef) rfl (by kernel_rfl) (by kernel_rfl) (by kernel_rfl) (fun _ _ _ h => h) (Or.inr ⟨by rfl, rfl⟩) (by assumption) ?_
        try simp only [Act.put, List.setIfInBounds_toArray, List.set_cons_zero, List.set_cons_succ]
        refine wpAnyH_take (i := 10) (oi := { dst := some 33, op := _, type := _, pos := _, after := _, guard := _ }) (v := undef) rfl (by kernel_rfl) (by kernel_rfl) (by kernel_rfl) (fun _ _ _ h => h) (Or.inr ⟨by rfl, rfl⟩) (by assumption) ?_
        try simp only [Act.put, List.setIfInBounds_toArray, List.set_cons_zero, List.set_cons_succ]
        refine wpAnyH_take (i := 11) (oi := { dst := some 34, op := _, type := _, pos := _, after := _, guard := _ }) (v := undef) rfl (by kernel_rfl) (by kernel_rfl) (by kernel_rfl) (fun _ _ _ h => h) (Or.inr ⟨by rfl, rfl⟩) (by assumption) ?_
        try simp only [Act.put, List.setIfInBounds_toArray, List.set_cons_zero, List.set_cons_succ]
        refine wpAnyH_take (i := 12) (oi := { dst := some 35, op := _, type := _, pos := _, after := _, guard := _ }) (v := undef) rfl (by kernel_rfl) (by kernel_rfl) (by kernel_rfl) (fun _ _ _ h => h) (Or.inr ⟨by rfl, rfl⟩) (by assumption) ?_
        try simp only [Act.put, List.setIfInBounds_toArray, List.set_cons_zero, List.set_cons_succ]
        refine wpAnyH_take (i := 13) (oi := { dst := some 36, op := _, type := _, pos := _, after := _, guard := _ }) (v := undef) rfl (by kernel_rfl) (by kernel_rfl) (by kernel_rfl) (fun _ _ _ h => h) (Or.inr ⟨by rfl, rfl⟩) (by assumption) ?_
        try simp only [Act.put, List.setIfInBounds_toArray, List.set_cons_zero, List.set_cons_succ]
        refine wpAnyH_take (i := 14) (oi := { dst := some 37, op := _, type := _, pos := _, after := _, guard := _ }) (v := undef) rfl (by kernel_rfl) (by kernel_rfl) (by kernel_rfl) (fun _ _ _ h => h) (Or.inr ⟨by rfl, rfl⟩) (by assumption) ?_
        try simp only [Act.put, List.setIfInBounds_toArray, List.set_cons_zero, List.set_cons_succ]
        refine wpAnyH_take (i := 15) (oi := { dst := some 38, op := _, type := _, pos := _, after := _, guard := _ }) (v := undef) rfl (by kernel_rfl) (by kernel_rfl) (by kernel_rfl) (fun _ _ _ h => h) (Or.inr ⟨by rfl, rfl⟩) (by assumption) ?_
        try simp only [Act.put, List.setIfInBounds_toArray, List.set_cons_zero, List.set_cons_succ]
        refine wpAnyH_take (i := 16) (oi := { dst := some 39, op := _, type := _, pos := _, after := _, guard := _ }) (v := undef) rfl (by kernel_rfl) (by kernel_rfl) (by kernel_rfl) (fun _ _ _ h => h) (Or.inr ⟨by rfl, rfl⟩) (by assumption) ?_
        try simp only [Act.put, List.setIfInBounds_toArray, List.set_cons_zero, List.set_cons_succ]
        refine wpAnyH_take (i := 17) (oi := { dst := some 40, op := _, type := _, pos := _, after := _, guard := _ }) (v := undef) rfl (by kernel_rfl) (by kernel_rfl) (by kernel_rfl) (fun _ _ _ h => h) (Or.inr ⟨by rfl, rfl⟩) (by assumption) ?_
        try simp only [Act.put, List.setIfInBounds_toArray, List.set_cons_zero, List.set_cons_succ]
        refine wpAnyH_take (i := 18) (oi := { dst := some 41, op := _, type := _, pos := _, after := _, guard := _ }) (v := undef) rfl (by kernel_rfl) (by kernel_rfl) (by kernel_rfl) (fun _ _ _ h => h) (Or.inr ⟨by rfl, rfl⟩) (by assumption) ?_
        try simp only [Act.put, List.setIfInBounds_toArray, List.set_cons_zero, List.set_cons_succ]
        refine wpAnyH_take (i := 19) (oi := { dst := some 42, op := _, type := _, pos := _, after := _, guard := _ }) (v := undef) rfl (by kernel_rfl) (by kernel_rfl) (by kernel_rfl) (fun _ _ _ h => h) (Or.inr ⟨by rfl, rfl⟩) (by assumption) ?_
        try simp only [Act.put, List.setIfInBounds_toArray, List.set_cons_zero, List.set_cons_succ]
        refine wpAnyH_take (i := 20) (oi := { dst := some 43, op := _, type := _, pos := _, after := _, guard := _ }) (v := ?v4) rfl (by kernel_rfl) (by kernel_rfl) (by kernel_rfl) (fun _ _ _ h => h) (Or.inl ⟨by rfl, ?hy4⟩) (by assumption) ?rest4
        case hy4 =>
          intro w9 hS9
          obtain ⟨-, hS9⟩ := hS9
          go_simp
          try with_reducible rfl
        try simp only [Act.put, List.setIfInBounds_toArray, List.set_cons_zero, List.set_cons_succ]
        refine wpAnyH_done (by kernel_rfl) ?_ _
        clear hHeld
        go_wp2
        go_ret
        exact ⟨ret_b HN.out.symm, HBn.out _ HB.out⟩
      | true =>
        have HOK : Hid (okEf (eAt ns k) = true) := hok
        clear hok
        cases k with
        | zero =>
          have g2 : (0 : Int) < (n : Int) := by omega
          have HT : Hid (okEAt ns 0 = true) := by show _ = _; rw [okEAt_zero]; exact HOK.out
          refine wp_region_held_drew (S := fun W => Hid (Below wn.heap.size wn W) ∧ (W.cell? ⟨B, 0, none⟩ = some (.bool (eAt ns 0).del) ∧ W.cell? ⟨B, 1, none⟩ = some (.string (eAt ns 0).nd.path) ∧ W.cell? ⟨B, 2, none⟩ = some (.string (eAt ns 0).nd.data) ∧ W.cell? ⟨B, 3, none⟩ = some (.int .i64 (eAt ns 0).nd.ver) ∧ W.cell? ⟨B, 4, none⟩ = some (.int .i64 (eAt ns 0).nd.cver) ∧ W.cell? ⟨B, 5, none⟩ = some (.int .i64 (eAt ns 0).nd.cz) ∧ W.cell? ⟨B, 6, none⟩ = some (.int .i64 (eAt ns 0).nd.mz) ∧ W.cell? ⟨B, 7, none⟩ = some (.int .i64 (eAt ns 0).nd.pz))) (by kernel_rfl) (⟨HD, (XN.out.below HD.out).all⟩) (fun hHeld => ?_)
          refine wpAnyH_take (i := 0) (oi := { dst := some 23, op := _, type := _, pos := _, after := _, guard := _ }) (v := ?v5) rfl (by kernel_rfl) (by kernel_rfl) (by kernel_rfl) (fun _ _ _ h => h) (Or.inl ⟨by rfl, ?hy5⟩) (by assumption) ?rest5
          case hy5 =>
            intro w9 hS9
            obtain ⟨-, hS9⟩ := hS9
            go_simp
            try with_reducible rfl
          try simp only [Act.put, List.setIfInBounds_toArray, List.set_cons_zero, List.set_cons_succ]
          refine wpAnyH_ready (rs := [1]) (by kernel_rfl) (by simp) ?_
          refine AllReadyH.cons (o := { dst := some 24, op := _, type := _, pos := _, after := _, guard := _ }) rfl (fun K hK => ?_) AllReadyH.nil
          go_simp
          refine (HE.out 1).mono ?_
          rintro e w' ⟨rfl, HB⟩
          rw [HOK.out]
          refine hK.out _ _ ((show (fun W => Hid (Below wn.heap.size wn W) ∧ (W.cell? ⟨B, 0, none⟩ = some (.bool (eAt ns 0).del) ∧ W.cell? ⟨B, 1, none⟩ = some (.string (eAt ns 0).nd.path) ∧ W.cell? ⟨B, 2, none⟩ = some (.string (eAt ns 0).nd.data) ∧ W.cell? ⟨B, 3, none⟩ = some (.int .i64 (eAt ns 0).nd.ver) ∧ W.cell? ⟨B, 4, none⟩ = some (.int .i64 (eAt ns 0).nd.cver) ∧ W.cell? ⟨B, 5, none⟩ = some (.int .i64 (eAt ns 0).nd.cz) ∧ W.cell? ⟨B, 6, none⟩ = some (.int .i64 (eAt ns 0).nd.mz) ∧ W.cell? ⟨B, 7, none⟩ = some (.int .i64 (eAt ns 0).nd.pz))) w' from ⟨HB, (XN.out.below HB.out).all⟩)) (fun hx9 => ?_)
          clear hK K hHeld hx9
          have hHeld := (show (fun W => Hid (Below wn.heap.size wn W) ∧ (W.cell? ⟨B, 0, none⟩ = some (.bool (eAt ns 0).del) ∧ W.cell? ⟨B, 1, none⟩ = some (.string (eAt ns 0).nd.path) ∧ W.cell? ⟨B, 2, none⟩ = some (.string (eAt ns 0).nd.data) ∧ W.cell? ⟨B, 3, none⟩ = some (.int .i64 (eAt ns 0).nd.ver) ∧ W.cell? ⟨B, 4, none⟩ = some (.int .i64 (eAt ns 0).nd.cver) ∧ W.cell? ⟨B, 5, none⟩ = some (.int .i64 (eAt ns 0).nd.cz) ∧ W.cell? ⟨B, 6, none⟩ = some (.int .i64 (eAt ns 0).nd.mz) ∧ W.cell? ⟨B, 7, none⟩ = some (.int .i64 (eAt ns 0).nd.pz))) w' from ⟨HB, (XN.out.below HB.out).all⟩)
          try simp only [Act.put, List.setIfInBounds_toArray, List.set_cons_zero, List.set_cons_succ]
          refine wpAnyH_take (i := 2) (oi := { dst := some 25, op := _, type := _, pos := _, after := _, guard := _ }) (v := ?v6) rfl (by kernel_rfl) (by kernel_rfl) (by kernel_rfl) (fun _ _ _ h => h) (Or.inl ⟨by rfl, ?hy6⟩) (by assumption) ?rest6
          case hy6 =>
            intro w9 hS9
            obtain ⟨-, hS9⟩ := hS9
            go_simp
            try with_reducible rfl
          try simp only [Act.put, List.setIfInBounds_toArray, List.set_cons_zero, List.set_cons_succ]
          refine wpAnyH_take (i := 3) (oi := { dst := some 26, op := _, type := _, pos := _, after := _, guard := _ }) (v := ?v7) rfl (by kernel_rfl) (by kernel_rfl) (by kernel_rfl) (fun _ _ _ h => h) (Or.inl ⟨by rfl, ?hy7⟩) (by assumption) ?rest7
          case hy7 =>
            intro w9 hS9
            obtain ⟨-, hS9⟩ := hS9
            go_simp
            try with_reducible rfl
          try simp only [Act.put, List.setIfInBounds_toArray, List.set_cons_zero, List.set_cons_succ]
          refine wpAnyH_take (i := 4) (oi := { dst := some 27, op := _, type := _, pos := _, after := _, guard := _ }) (v := ?v8) rfl (by kernel_rfl) (by kernel_rfl) (by kernel_rfl) (fun _ _ _ h => h) (Or.inl ⟨by rfl, ?hy8⟩) (by assumption) ?rest8
          case hy8 =>
            intro w9 hS9
            obtain ⟨-, hS9⟩ := hS9
            go_simp
            try with_reducible rfl
          try simp only [Act.put, List.setIfInBounds_toArray, List.set_cons_zero, List.set_cons_succ]
          refine wpAnyH_take (i := 5) (oi := { dst := some 28, op := _, type := _, pos := _, after := _, guard := _ }) (v := ?v9) rfl (by kernel_rfl) (by kernel_rfl) (by kernel_rfl) (fun _ _ _ h => h) (Or.inl ⟨by rfl, ?hy9⟩) (by assumption) ?rest9
          case hy9 =>
            intro w9 hS9
            obtain ⟨-, hS9⟩ := hS9
            go_simp
            try with_reducible rfl
          try simp only [Act.put, List.setIfInBounds_toArray, List.set_cons_zero, List.set_cons_succ]
          refine wpAnyH_take (i := 6) (oi := { dst := some 29, op := _, type := _, pos := _, after := _, guard := _ }) (v := ?v10) rfl (by kernel_rfl) (by kernel_rfl) (by kernel_rfl) (fun _ _ _ h => h) (Or.inl ⟨by rfl, ?hy10⟩) (by assumption) ?rest10
          case hy10 =>
            intro w9 hS9
            obtain ⟨-, hS9⟩ := hS9
            go_simp
            try with_reducible rfl
          try simp only [Act.put, List.setIfInBounds_toArray, List.set_cons_zero, List.set_cons_succ]
          refine wpAnyH_take (i := 7) (oi := { dst := some 30, op := _, type := _, pos := _, after := _, guard := _ }) (v := undef) rfl (by kernel_rfl) (by kernel_rfl) (by kernel_rfl) (fun _ _ _ h => h) (Or.inr ⟨by rfl, rfl⟩) (by assumption) ?_
          try simp only [Act.put, List.setIfInBounds_toArray, List.set_cons_zero, List.set_cons_succ]
          refine wpAnyH_take (i := 8) (oi := { dst := some 31, op := _, type := _, pos := _, after := _, guard := _ }) (v := undef) rfl (by kernel_rfl) (by kernel_rfl) (by kernel_rfl) (fun _ _ _ h => h) (Or.inr ⟨by rfl, rfl⟩) (by assumption) ?_
          try simp only [Act.put, List.setIfInBounds_toArray, List.set_cons_zero, List.set_cons_succ]
          refine wpAnyH_take (i := 9) (oi := { dst := some 32, op := _, type := _, pos := _, after := _, guard := _ }) (v := undef) rfl (by kernel_rfl) (by kernel_rfl) (by kernel_rfl) (fun _ _ _ h => h) (Or.inr ⟨by rfl, rfl⟩) (by assumption) ?_
          try simp only [Act.put, List.setIfInBounds_toArray, List.set_cons_zero, List.set_cons_succ]
          refine wpAnyH_take (i := 10) (oi := { dst := some 33, op := _, type := _, pos := _, after := _, guard := _ }) (v := undef) rfl (by kernel_rfl) (by kernel_rfl) (by kernel_rfl) (fun _ _ _ h => h) (Or.inr ⟨by rfl, rfl⟩) (by assumption) ?_
          try simp only [Act.put, List.setIfInBounds_toArray, List.set_cons_zero, List.set_cons_succ]
          refine wpAnyH_take (i := 11) (oi := { dst := some 34, op := _, type := _, pos := _, after := _, guard := _ }) (v := undef) rfl (by kernel_rfl) (by kernel_rfl) (by kernel_rfl) (fun _ _ _ h => h) (Or.inr ⟨by rfl, rfl⟩) (by assumption) ?_
          try simp only [Act.put, List.setIfInBounds_toArray, List.set_cons_zero, List.set_cons_succ]
          refine wpAnyH_take (i := 12) (oi := { dst := some 35, op := _, type := _, pos := _, after := _, guard := _ }) (v := undef) rfl (by kernel_rfl) (by kernel_rfl) (by kernel_rfl) (fun _ _ _ h => h) (Or.inr ⟨by rfl, rfl⟩) (by assumption) ?_
          try simp only [Act.put, List.setIfInBounds_toArray, List.set_cons_zero, List.set_cons_succ]
          refine wpAnyH_take (i := 13) (oi := { dst := some 36, op := _, type := _, pos := _, after := _, guard := _ }) (v := undef) rfl (by kernel_rfl) (by kernel_rfl) (by kernel_rfl) (fun _ _ _ h => h) (Or.inr ⟨by rfl, rfl⟩) (by assumption) ?_
          try simp only [Act.put, List.setIfInBounds_toArray, List.set_cons_zero, List.set_cons_succ]
          refine wpAnyH_take (i := 14) (oi := { dst := some 37, op := _, type := _, pos := _, after := _, guard := _ }) (v := undef) rfl (by kernel_rfl) (by kernel_rfl) (by kernel_rfl) (fun _ _ _ h => h) (Or.inr ⟨by rfl, rfl⟩) (by assumption) ?_
          try simp only [Act.put, List.setIfInBounds_toArray, List.set_cons_zero, List.set_cons_succ]
          refine wpAnyH_take (i := 15) (oi := { dst := some 38, op := _, type := _, pos := _, after := _, guard := _ }) (v := undef) rfl (by kernel_rfl) (by kernel_rfl) (by kernel_rfl) (fun _ _ _ h => h) (Or.inr ⟨by rfl, rfl⟩) (by assumption) ?_
          try simp only [Act.put, List.setIfInBounds_toArray, List.set_cons_zero, List.set_cons_succ]
          refine wpAnyH_take (i := 16) (oi := { dst := some 39, op := _, type := _, pos := _, after := _, guard := _ }) (v := undef) rfl (by kernel_rfl) (by kernel_rfl) (by kernel_rfl) (fun _ _ _ h => h) (Or.inr ⟨by rfl, rfl⟩) (by assumption) ?_
          try simp only [Act.put, List.setIfInBounds_toArray, List.set_cons_zero, List.set_cons_succ]
          refine wpAnyH_take (i := 17) (oi := { dst := some 40, op := _, type := _, pos := _, after := _, guard := _ }) (v := undef) rfl (by kernel_rfl) (by kernel_rfl) (by kernel_rfl) (fun _ _ _ h => h) (Or.inr ⟨by rfl, rfl⟩) (by assumption) ?_
          try simp only [Act.put, List.setIfInBounds_toArray, List.set_cons_zero, List.set_cons_succ]
          refine wpAnyH_take (i := 18) (oi := { dst := some 41, op := _, type := _, pos := _, after := _, guard := _ }) (v := undef) rfl (by kernel_rfl) (by kernel_rfl) (by kernel_rfl) (fun _ _ _ h => h) (Or.inr ⟨by rfl, rfl⟩) (by assumption) ?_
          try simp only [Act.put, List.setIfInBounds_toArray, List.set_cons_zero, List.set_cons_succ]
          refine wpAnyH_take (i := 19) (oi := { dst := some 42, op := _, type := _, pos := _, after := _, guard := _ }) (v := ?v11) rfl (by kernel_rfl) (by kernel_rfl) (by kernel_rfl) (fun _ _ _ h => h) (Or.inl ⟨by rfl, ?hy11⟩) (by assumption) ?rest11
          case hy11 =>
            intro w9 hS9
            obtain ⟨-, hS9⟩ := hS9
            go_simp
            try with_reducible rfl
          try simp only [Act.put, List.setIfInBounds_toArray, List.set_cons_zero, List.set_cons_succ]
          refine wpAnyH_take (i := 20) (oi := { dst := some 43, op := _, type := _, pos := _, after := _, guard := _ }) (v := ?v12) rfl (by kernel_rfl) (by kernel_rfl) (by kernel_rfl) (fun _ _ _ h => h) (Or.inl ⟨by rfl, ?hy12⟩) (by assumption) ?rest12
          case hy12 =>
            intro w9 hS9
            obtain ⟨-, hS9⟩ := hS9
            go_simp
            try with_reducible rfl
          try simp only [Act.put, List.setIfInBounds_toArray, List.set_cons_zero, List.set_cons_succ]
          refine wpAnyH_done (by kernel_rfl) ?_ _
          clear hHeld
          go_wp2
          go_roundw
          case rel => exact ⟨0 + 1, by omega, by go_num, (fun t ht => by by_cases e : t = 0; (subst e; exact HT.out); exact HA.out t (by omega)), HBz.out _ HB.out⟩
          case measure => simp [intOf]; omega
        | succ j =>
          have g1 : (0 : Int) ≤ (j : Int) + 1 := by omega
          have g2 : (j : Int) + 1 < (n : Int) := by omega
          have g3 : (0 : Int) ≤ (j : Int) := by omega
          have g4 : (j : Int) < (n : Int) := by omega
          have g5 : (0 : Int) < (j : Int) + 1 := by omega
          have g6 : IntKind.i64.wrap (j : Int) = (j : Int) := by rw [IntKind.wrap_i64]; omega
          cases hcmp : ltP (eAt ns j).nd.path (eAt ns (j + 1)).nd.path with
          | true =>
            have HT : Hid (okEAt ns (j + 1) = true) := by show _ = _; rw [okEAt_succ, HOK.out, hcmp]; rfl
            have l1 : Op.bytesLess (eAt ns j).nd.path.toList (eAt ns (j + 1)).nd.path.toList = true := hcmp
            clear hcmp
            refine wp_region_held_drew (S := fun W => Hid (Below wn.heap.size wn W) ∧ (W.cell? ⟨B, 0, none⟩ = some (.bool (eAt ns (j + 1)).del) ∧ W.cell? ⟨B, 1, none⟩ = some (.string (eAt ns (j + 1)).nd.path) ∧ W.cell? ⟨B, 2, none⟩ = some (.string (eAt ns (j + 1)).nd.data) ∧ W.cell? ⟨B, 3, none⟩ = some (.int .i64 (eAt ns (j + 1)).nd.ver) ∧ W.cell? ⟨B, 4, none⟩ = some (.int .i64 (eAt ns (j + 1)).nd.cver) ∧ W.cell? ⟨B, 5, none⟩ = some (.int .i64 (eAt ns (j + 1)).nd.cz) ∧ W.cell? ⟨B, 6, none⟩ = some (.int .i64 (eAt ns (j + 1)).nd.mz) ∧ W.cell? ⟨B, 7, none⟩ = some (.int .i64 (eAt ns (j + 1)).nd.pz)) ∧ W.cell? ⟨w.heap.size, 1, none⟩ = some (.slice (some ⟨b, o, none⟩) n cap) ∧ W.cell? ⟨b, o + j * 8 + 1, none⟩ = some (.string (eAt ns j).nd.path)) (by kernel_rfl) (⟨HD, (XN.out.below HD.out).all, (CT.out _ HD.out), ((HC.out j (by omega)).below (HBn.out _ HD.out) hb).c1⟩) (fun hHeld => ?_)
            refine wpAnyH_take (i := 0) (oi := { dst := some 23, op := _, type := _, pos := _, after := _, guard := _ }) (v := ?v13) rfl (by kernel_rfl) (by kernel_rfl) (by kernel_rfl) (fun _ _ _ h => h) (Or.inl ⟨by rfl, ?hy13⟩) (by assumption) ?rest13
            case hy13 =>
              intro w9 hS9
              obtain ⟨-, hS9⟩ := hS9
              go_simp
              try with_reducible rfl
            try simp only [Act.put, List.setIfInBounds_toArray, List.set_cons_zero, List.set_cons_succ]
            refine wpAnyH_ready (rs := [1]) (by kernel_rfl) (by simp) ?_
            refine AllReadyH.cons (o := { dst := some 24, op := _, type := _, pos := _, after := _, guard := _ }) rfl (fun K hK => ?_) AllReadyH.nil
            go_simp
            refine (HE.out 1).mono ?_
            rintro e w' ⟨rfl, HB⟩
            rw [HOK.out]
            refine hK.out _ _ ((show (fun W => Hid (Below wn.heap.size wn W) ∧ (W.cell? ⟨B, 0, none⟩ = some (.bool (eAt ns (j + 1)).del) ∧ W.cell? ⟨B, 1, none⟩ = some (.string (eAt ns (j + 1)).nd.path) ∧ W.cell? ⟨B, 2, none⟩ = some (.string (eAt ns (j + 1)).nd.data) ∧ W.cell? ⟨B, 3, none⟩ = some (.int .i64 (eAt ns (j + 1)).nd.ver) ∧ W.cell? ⟨B, 4, none⟩ = some (.int .i64 (eAt ns (j + 1)).nd.cver) ∧ W.cell? ⟨B, 5, none⟩ = some (.int .i64 (eAt ns (j + 1)).nd.cz) ∧ W.cell? ⟨B, 6, none⟩ = some (.int .i64 (eAt ns (j + 1)).nd.mz) ∧ W.cell? ⟨B, 7, none⟩ = some (.int .i64 (eAt ns (j + 1)).nd.pz)) ∧ W.cell? ⟨w.heap.size, 1, none⟩ = some (.slice (some ⟨b, o, none⟩) n cap) ∧ W.cell? ⟨b, o + j * 8 + 1, none⟩ = some (.string (eAt ns j).nd.path)) w' from ⟨HB, (XN.out.below HB.out).all, (CT.out _ HB.out), ((HC.out j (by omega)).below (HBn.out _ HB.out) hb).c1⟩)) (fun hx9 => ?_)
            clear hK K hHeld hx9
            have hHeld := (show (fun W => Hid (Below wn.heap.size wn W) ∧ (W.cell? ⟨B, 0, none⟩ = some (.bool (eAt ns (j + 1)).del) ∧ W.cell? ⟨B, 1, none⟩ = some (.string (eAt ns (j + 1)).nd.path) ∧ W.cell? ⟨B, 2, none⟩ = some (.string (eAt ns (j + 1)).nd.data) ∧ W.cell? ⟨B, 3, none⟩ = some (.int .i64 (eAt ns (j + 1)).nd.ver) ∧ W.cell? ⟨B, 4, none⟩ = some (.int .i64 (eAt ns (j + 1)).nd.cver) ∧ W.cell? ⟨B, 5, none⟩ = some (.int .i64 (eAt ns (j + 1)).nd.cz) ∧ W.cell? ⟨B, 6, none⟩ = some (.int .i64 (eAt ns (j + 1)).nd.mz) ∧ W.cell? ⟨B, 7, none⟩ = some (.int .i64 (eAt ns (j + 1)).nd.pz)) ∧ W.cell? ⟨w.heap.size, 1, none⟩ = some (.slice (some ⟨b, o, none⟩) n cap) ∧ W.cell? ⟨b, o + j * 8 + 1, none⟩ = some (.string (eAt ns j).nd.path)) w' from ⟨HB, (XN.out.below HB.out).all, (CT.out _ HB.out), ((HC.out j (by omega)).below (HBn.out _ HB.out) hb).c1⟩)
            try simp only [Act.put, List.setIfInBounds_toArray, List.set_cons_zero, List.set_cons_succ]
            refine wpAnyH_take (i := 2) (oi := { dst := some 25, op := _, type := _, pos := _, after := _, guard := _ }) (v := ?v14) rfl (by kernel_rfl) (by kernel_rfl) (by kernel_rfl) (fun _ _ _ h => h) (Or.inl ⟨by rfl, ?hy14⟩) (by assumption) ?rest14
            case hy14 =>
              intro w9 hS9
              obtain ⟨-, hS9⟩ := hS9
              go_simp
              try with_reducible rfl
            try simp only [Act.put, List.setIfInBounds_toArray, List.set_cons_zero, List.set_cons_succ]
            refine wpAnyH_take (i := 3) (oi := { dst := some 26, op := _, type := _, pos := _, after := _, guard := _ }) (v := ?v15) rfl (by kernel_rfl) (by kernel_rfl) (by kernel_rfl) (fun _ _ _ h => h) (Or.inl ⟨by rfl, ?hy15⟩) (by assumption) ?rest15
            case hy15 =>
              intro w9 hS9
              obtain ⟨-, hS9⟩ := hS9
              go_simp
              try with_reducible rfl
            try simp only [Act.put, List.setIfInBounds_toArray, List.set_cons_zero, List.set_cons_succ]
            refine wpAnyH_take (i := 4) (oi := { dst := some 27, op := _, type := _, pos := _, after := _, guard := _ }) (v := ?v16) rfl (by kernel_rfl) (by kernel_rfl) (by kernel_rfl) (fun _ _ _ h => h) (Or.inl ⟨by rfl, ?hy16⟩) (by assumption) ?rest16
            case hy16 =>
              intro w9 hS9
              obtain ⟨-, hS9⟩ := hS9
              go_simp
              try with_reducible rfl
            try simp only [Act.put, List.setIfInBounds_toArray, List.set_cons_zero, List.set_cons_succ]
            refine wpAnyH_take (i := 5) (oi := { dst := some 28, op := _, type := _, pos := _, after := _, guard := _ }) (v := ?v17) rfl (by kernel_rfl) (by kernel_rfl) (by kernel_rfl) (fun _ _ _ h => h) (Or.inl ⟨by rfl, ?hy17⟩) (by assumption) ?rest17
            case hy17 =>
              intro w9 hS9
              obtain ⟨-, hS9⟩ := hS9
              go_simp
              try with_reducible rfl
            try simp only [Act.put, List.setIfInBounds_toArray, List.set_cons_zero, List.set_cons_succ]
            refine wpAnyH_take (i := 6) (oi := { dst := some 29, op := _, type := _, pos := _, after := _, guard := _ }) (v := ?v18) rfl (by kernel_rfl) (by kernel_rfl) (by kernel_rfl) (fun _ _ _ h => h) (Or.inl ⟨by rfl, ?hy18⟩) (by assumption) ?rest18
            case hy18 =>
              intro w9 hS9
              obtain ⟨-, hS9⟩ := hS9
              go_simp
              try with_reducible rfl
            try simp only [Act.put, List.setIfInBounds_toArray, List.set_cons_zero, List.set_cons_succ]
            refine wpAnyH_take (i := 7) (oi := { dst := some 30, op := _, type := _, pos := _, after := _, guard := _ }) (v := ?v19) rfl (by kernel_rfl) (by kernel_rfl) (by kernel_rfl) (fun _ _ _ h => h) (Or.inl ⟨by rfl, ?hy19⟩) (by assumption) ?rest19
            case hy19 =>
              intro w9 hS9
              obtain ⟨-, hS9⟩ := hS9
              go_simp
              try with_reducible rfl
            try simp only [Act.put, List.setIfInBounds_toArray, List.set_cons_zero, List.set_cons_succ]
            refine wpAnyH_take (i := 8) (oi := { dst := some 31, op := _, type := _, pos := _, after := _, guard := _ }) (v := ?v20) rfl (by kernel_rfl) (by kernel_rfl) (by kernel_rfl) (fun _ _ _ h => h) (Or.inl ⟨by rfl, ?hy20⟩) (by assumption) ?rest20
            case hy20 =>
              intro w9 hS9
              obtain ⟨-, hS9⟩ := hS9
              go_simp
              try with_reducible rfl
            try simp only [Act.put, List.setIfInBounds_toArray, List.set_cons_zero, List.set_cons_succ]
            refine wpAnyH_take (i := 9) (oi := { dst := some 32, op := _, type := _, pos := _, after := _, guard := _ }) (v := ?v21) rfl (by kernel_rfl) (by kernel_rfl) (by kernel_rfl) (fun _ _ _ h => h) (Or.inl ⟨by rfl, ?hy21⟩) (by assumption) ?rest21
            case hy21 =>
              intro w9 hS9
              obtain ⟨-, hS9⟩ := hS9
              go_simp
              try with_reducible rfl
            try simp only [Act.put, List.setIfInBounds_toArray, List.set_cons_zero, List.set_cons_succ]
            refine wpAnyH_take (i := 10) (oi := { dst := some 33, op := _, type := _, pos := _, after := _, guard := _ }) (v := ?v22) rfl (by kernel_rfl) (by kernel_rfl) (by kernel_rfl) (fun _ _ _ h => h) (Or.inl ⟨by rfl, ?hy22⟩) (by assumption) ?rest22
            case hy22 =>
              intro w9 hS9
              obtain ⟨-, hS9⟩ := hS9
              go_simp
              try with_reducible rfl
            try simp only [Act.put, List.setIfInBounds_toArray, List.set_cons_zero, List.set_cons_succ]
            refine wpAnyH_take (i := 11) (oi := { dst := some 34, op := _, type := _, pos := _, after := _, guard := _ }) (v := ?v23) rfl (by kernel_rfl) (by kernel_rfl) (by kernel_rfl) (fun _ _ _ h => h) (Or.inl ⟨by rfl, ?hy23⟩) (by assumption) ?rest23
            case hy23 =>
              intro w9 hS9
              obtain ⟨-, hS9⟩ := hS9
              go_simp
              try with_reducible rfl
            try simp only [Act.put, List.setIfInBounds_toArray, List.set_cons_zero, List.set_cons_succ]
            refine wpAnyH_take (i := 12) (oi := { dst := some 35, op := _, type := _, pos := _, after := _, guard := _ }) (v := ?v24) rfl (by kernel_rfl) (by kernel_rfl) (by kernel_rfl) (fun _ _ _ h => h) (Or.inl ⟨by rfl, ?hy24⟩) (by assumption) ?rest24
            case hy24 =>
              intro w9 hS9
              obtain ⟨-, hS9⟩ := hS9
              go_simp
              try with_reducible rfl
            try simp only [Act.put, List.setIfInBounds_toArray, List.set_cons_zero, List.set_cons_succ]
            refine wpAnyH_take (i := 13) (oi := { dst := some 36, op := _, type := _, pos := _, after := _, guard := _ }) (v := ?v25) rfl (by kernel_rfl) (by kernel_rfl) (by kernel_rfl) (fun _ _ _ h => h) (Or.inl ⟨by rfl, ?hy25⟩) (by assumption) ?rest25
            case hy25 =>
              intro w9 hS9
              obtain ⟨-, hS9⟩ := hS9
              go_simp
              try with_reducible rfl
            try simp only [Act.put, List.setIfInBounds_toArray, List.set_cons_zero, List.set_cons_succ]
            refine wpAnyH_take (i := 14) (oi := { dst := some 37, op := _, type := _, pos := _, after := _, guard := _ }) (v := ?v26) rfl (by kernel_rfl) (by kernel_rfl) (by kernel_rfl) (fun _ _ _ h => h) (Or.inl ⟨by rfl, ?hy26⟩) (by assumption) ?rest26
            case hy26 =>
              intro w9 hS9
              obtain ⟨-, hS9⟩ := hS9
              go_simp
              try with_reducible rfl
            try simp only [Act.put, List.setIfInBounds_toArray, List.set_cons_zero, List.set_cons_succ]
            refine wpAnyH_take (i := 15) (oi := { dst := some 38, op := _, type := _, pos := _, after := _, guard := _ }) (v := ?v27) rfl (by kernel_rfl) (by kernel_rfl) (by kernel_rfl) (fun _ _ _ h => h) (Or.inl ⟨by rfl, ?hy27⟩) (by assumption) ?rest27
            case hy27 =>
              intro w9 hS9
              obtain ⟨-, hS9⟩ := hS9
              go_simp
              try with_reducible rfl
            try simp only [Act.put, List.setIfInBounds_toArray, List.set_cons_zero, List.set_cons_succ]
            refine wpAnyH_take (i := 16) (oi := { dst := some 39, op := _, type := _, pos := _, after := _, guard := _ }) (v := ?v28) rfl (by kernel_rfl) (by kernel_rfl) (by kernel_rfl) (fun _ _ _ h => h) (Or.inl ⟨by rfl, ?hy28⟩) (by assumption) ?rest28
            case hy28 =>
              intro w9 hS9
              obtain ⟨-, hS9⟩ := hS9
              go_simp
              try with_reducible rfl
            try simp only [Act.put, List.setIfInBounds_toArray, List.set_cons_zero, List.set_cons_succ]
            refine wpAnyH_take (i := 17) (oi := { dst := some 40, op := _, type := _, pos := _, after := _, guard := _ }) (v := ?v29) rfl (by kernel_rfl) (by kernel_rfl) (by kernel_rfl) (fun _ _ _ h => h) (Or.inl ⟨by rfl, ?hy29⟩) (by assumption) ?rest29
            case hy29 =>
              intro w9 hS9
              obtain ⟨-, hS9⟩ := hS9
              go_simp
              try with_reducible rfl
            try simp only [Act.put, List.setIfInBounds_toArray, List.set_cons_zero, List.set_cons_succ]
            refine wpAnyH_take (i := 18) (oi := { dst := some 41, op := _, type := _, pos := _, after := _, guard := _ }) (v := ?v30) rfl (by kernel_rfl) (by kernel_rfl) (by kernel_rfl) (fun _ _ _ h => h) (Or.inl ⟨by rfl, ?hy30⟩) (by assumption) ?rest30
            case hy30 =>
              intro w9 hS9
              obtain ⟨-, hS9⟩ := hS9
              go_simp
              try with_reducible rfl
            try simp only [Act.put, List.setIfInBounds_toArray, List.set_cons_zero, List.set_cons_succ]
            refine wpAnyH_take (i := 19) (oi := { dst := some 42, op := _, type := _, pos := _, after := _, guard := _ }) (v := ?v31) rfl (by kernel_rfl) (by kernel_rfl) (by kernel_rfl) (fun _ _ _ h => h) (Or.inl ⟨by rfl, ?hy31⟩) (by assumption) ?rest31
            case hy31 =>
              intro w9 hS9
              obtain ⟨-, hS9⟩ := hS9
              go_simp
              try with_reducible rfl
            try simp only [Act.put, List.setIfInBounds_toArray, List.set_cons_zero, List.set_cons_succ]
            refine wpAnyH_take (i := 20) (oi := { dst := some 43, op := _, type := _, pos := _, after := _, guard := _ }) (v := ?v32) rfl (by kernel_rfl) (by kernel_rfl) (by kernel_rfl) (fun _ _ _ h => h) (Or.inl ⟨by rfl, ?hy32⟩) (by assumption) ?rest32
            case hy32 =>
              intro w9 hS9
              obtain ⟨-, hS9⟩ := hS9
              go_simp
              try with_reducible rfl
            try simp only [Act.put, List.setIfInBounds_toArray, List.set_cons_zero, List.set_cons_succ]
            refine wpAnyH_done (by kernel_rfl) ?_ _
            clear hHeld
            go_wp2
            go_roundw
            case rel => exact ⟨(j + 1) + 1, by omega, by go_num, (fun t ht => by by_cases e : t = (j + 1); (subst e; exact HT.out); exact HA.out t (by omega)), HBz.out _ HB.out⟩
            case measure => simp [intOf]; omega
          | false =>
            have HN : Hid (okEs ns = false) := es_no HLT.out (by rw [okEAt_succ, hcmp, Bool.and_false])
            have l1 : Op.bytesLess (eAt ns j).nd.path.toList (eAt ns (j + 1)).nd.path.toList = false := hcmp
            clear hcmp
            refine wp_region_held_drew (S := fun W => Hid (Below wn.heap.size wn W) ∧ (W.cell? ⟨B, 0, none⟩ = some (.bool (eAt ns (j + 1)).del) ∧ W.cell? ⟨B, 1, none⟩ = some (.string (eAt ns (j + 1)).nd.path) ∧ W.cell? ⟨B, 2, none⟩ = some (.string (eAt ns (j + 1)).nd.data) ∧ W.cell? ⟨B, 3, none⟩ = some (.int .i64 (eAt ns (j + 1)).nd.ver) ∧ W.cell? ⟨B, 4, none⟩ = some (.int .i64 (eAt ns (j + 1)).nd.cver) ∧ W.cell? ⟨B, 5, none⟩ = some (.int .i64 (eAt ns (j + 1)).nd.cz) ∧ W.cell? ⟨B, 6, none⟩ = some (.int .i64 (eAt ns (j + 1)).nd.mz) ∧ W.cell? ⟨B, 7, none⟩ = some (.int .i64 (eAt ns (j + 1)).nd.pz)) ∧ W.cell? ⟨w.heap.size, 1, none⟩ = some (.slice (some ⟨b, o, none⟩) n cap) ∧ W.cell? ⟨b, o + j * 8 + 1, none⟩ = some (.string (eAt ns j).nd.path)) (by kernel_rfl) (⟨HD, (XN.out.below HD.out).all, (CT.out _ HD.out), ((HC.out j (by omega)).below (HBn.out _ HD.out) hb).c1⟩) (fun hHeld => ?_)
            refine wpAnyH_take (i := 0) (oi := { dst := some 23, op := _, type := _, pos := _, after := _, guard := _ }) (v := ?v33) rfl (by kernel_rfl) (by kernel_rfl) (by kernel_rfl) (fun _ _ _ h => h) (Or.inl ⟨by rfl, ?hy33⟩) (by assumption) ?rest33
            case hy33 =>
              intro w9 hS9
              obtain ⟨-, hS9⟩ := hS9
              go_simp
              try with_reducible rfl
            try simp only [Act.put, List.setIfInBounds_toArray, List.set_cons_zero, List.set_cons_succ]
            refine wpAnyH_ready (rs := [1]) (by kernel_rfl) (by simp) ?_
            refine AllReadyH.cons (o := { dst := some 24, op := _, type := _, pos := _, after := _, guard := _ }) rfl (fun K hK => ?_) AllReadyH.nil
            go_simp
            refine (HE.out 1).mono ?_
            rintro e w' ⟨rfl, HB⟩
            rw [HOK.out]
            refine hK.out _ _ ((show (fun W => Hid (Below wn.heap.size wn W) ∧ (W.cell? ⟨B, 0, none⟩ = some (.bool (eAt ns (j + 1)).del) ∧ W.cell? ⟨B, 1, none⟩ = some (.string (eAt ns (j + 1)).nd.path) ∧ W.cell? ⟨B, 2, none⟩ = some (.string (eAt ns (j + 1)).nd.data) ∧ W.cell? ⟨B, 3, none⟩ = some (.int .i64 (eAt ns (j + 1)).nd.ver) ∧ W.cell? ⟨B, 4, none⟩ = some (.int .i64 (eAt ns (j + 1)).nd.cver) ∧ W.cell? ⟨B, 5, none⟩ = some (.int .i64 (eAt ns (j + 1)).nd.cz) ∧ W.cell? ⟨B, 6, none⟩ = some (.int .i64 (eAt ns (j + 1)).nd.mz) ∧ W.cell? ⟨B, 7, none⟩ = some (.int .i64 (eAt ns (j + 1)).nd.pz)) ∧ W.cell? ⟨w.heap.size, 1, none⟩ = some (.slice (some ⟨b, o, none⟩) n cap) ∧ W.cell? ⟨b, o + j * 8 + 1, none⟩ = some (.string (eAt ns j).nd.path)) w' from ⟨HB, (XN.out.below HB.out).all, (CT.out _ HB.out), ((HC.out j (by omega)).below (HBn.out _ HB.out) hb).c1⟩)) (fun hx9 => ?_)
            clear hK K hHeld hx9
            have hHeld := (show (fun W => Hid (Below wn.heap.size wn W) ∧ (W.cell? ⟨B, 0, none⟩ = some (.bool (eAt ns (j + 1)).del) ∧ W.cell? ⟨B, 1, none⟩ = some (.string (eAt ns (j + 1)).nd.path) ∧ W.cell? ⟨B, 2, none⟩ = some (.string (eAt ns (j + 1)).nd.data) ∧ W.cell? ⟨B, 3, none⟩ = some (.int .i64 (eAt ns (j + 1)).nd.ver) ∧ W.cell? ⟨B, 4, none⟩ = some (.int .i64 (eAt ns (j + 1)).nd.cver) ∧ W.cell? ⟨B, 5, none⟩ = some (.int .i64 (eAt ns (j + 1)).nd.cz) ∧ W.cell? ⟨B, 6, none⟩ = some (.int .i64 (eAt ns (j + 1)).nd.mz) ∧ W.cell? ⟨B, 7, none⟩ = some (.int .i64 (eAt ns (j + 1)).nd.pz)) ∧ W.cell? ⟨w.heap.size, 1, none⟩ = some (.slice (some ⟨b, o, none⟩) n cap) ∧ W.cell? ⟨b, o + j * 8 + 1, none⟩ = some (.string (eAt ns j).nd.path)) w' from ⟨HB, (XN.out.below HB.out).all, (CT.out _ HB.out), ((HC.out j (by omega)).below (HBn.out _ HB.out) hb).c1⟩)
            try simp only [Act.put, List.setIfInBounds_toArray, List.set_cons_zero, List.set_cons_succ]
            refine wpAnyH_take (i := 2) (oi := { dst := some 25, op := _, type := _, pos := _, after := _, guard := _ }) (v := ?v34) rfl (by kernel_rfl) (by kernel_rfl) (by kernel_rfl) (fun _ _ _ h => h) (Or.inl ⟨by rfl, ?hy34⟩) (by assumption) ?rest34
            case hy34 =>
              intro w9 hS9
              obtain ⟨-, hS9⟩ := hS9
              go_simp
              try with_reducible rfl
            try simp only [Act.put, List.setIfInBounds_toArray, List.set_cons_zero, List.set_cons_succ]
            refine wpAnyH_take (i := 3) (oi := { dst := some 26, op := _, type := _, pos := _, after := _, guard := _ }) (v := ?v35) rfl (by kernel_rfl) (by kernel_rfl) (by kernel_rfl) (fun _ _ _ h => h) (Or.inl ⟨by rfl, ?hy35⟩) (by assumption) ?rest35
            case hy35 =>
              intro w9 hS9
              obtain ⟨-, hS9⟩ := hS9
              go_simp
              try with_reducible rfl
            try simp only [Act.put, List.setIfInBounds_toArray, List.set_cons_zero, List.set_cons_succ]
            refine wpAnyH_take (i := 4) (oi := { dst := some 27, op := _, type := _, pos := _, after := _, guard := _ }) (v := ?v36) rfl (by kernel_rfl) (by kernel_rfl) (by kernel_rfl) (fun _ _ _ h => h) (Or.inl ⟨by rfl, ?hy36⟩) (by assumption) ?rest36
            case hy36 =>
              intro w9 hS9
              obtain ⟨-, hS9⟩ := hS9
              go_simp
              try with_reducible rfl
            try simp only [Act.put, List.setIfInBounds_toArray, List.set_cons_zero, List.set_cons_succ]
            refine wpAnyH_take (i := 5) (oi := { dst := some 28, op := _, type := _, pos := _, after := _, guard := _ }) (v := ?v37) rfl (by kernel_rfl) (by kernel_rfl) (by kernel_rfl) (fun _ _ _ h => h) (Or.inl ⟨by rfl, ?hy37⟩) (by assumption) ?rest37
            case hy37 =>
              intro w9 hS9
              obtain ⟨-, hS9⟩ := hS9
              go_simp
              try with_reducible rfl
            try simp only [Act.put, List.setIfInBounds_toArray, List.set_cons_zero, List.set_cons_succ]
            refine wpAnyH_take (i := 6) (oi := { dst := some 29, op := _, type := _, pos := _, after := _, guard := _ }) (v := ?v38) rfl (by kernel_rfl) (by kernel_rfl) (by kernel_rfl) (fun _ _ _ h => h) (Or.inl ⟨by rfl, ?hy38⟩) (by assumption) ?rest38
            case hy38 =>
              intro w9 hS9
              obtain ⟨-, hS9⟩ := hS9
              go_simp
              try with_reducible rfl
            try simp only [Act.put, List.setIfInBounds_toArray, List.set_cons_zero, List.set_cons_succ]
            refine wpAnyH_take (i := 7) (oi := { dst := some 30, op := _, type := _, pos := _, after := _, guard := _ }) (v := ?v39) rfl (by kernel_rfl) (by kernel_rfl) (by kernel_rfl) (fun _ _ _ h => h) (Or.inl ⟨by rfl, ?hy39⟩) (by assumption) ?rest39
            case hy39 =>
              intro w9 hS9
              obtain ⟨-, hS9⟩ := hS9
              go_simp
              try with_reducible rfl
            try simp only [Act.put, List.setIfInBounds_toArray, List.set_cons_zero, List.set_cons_succ]
            refine wpAnyH_take (i := 8) (oi := { dst := some 31, op := _, type := _, pos := _, after := _, guard := _ }) (v := ?v40) rfl (by kernel_rfl) (by kernel_rfl) (by kernel_rfl) (fun _ _ _ h => h) (Or.inl ⟨by rfl, ?hy40⟩) (by assumption) ?rest40
            case hy40 =>
              intro w9 hS9
              obtain ⟨-, hS9⟩ := hS9
              go_simp
              try with_reducible rfl
            try simp only [Act.put, List.setIfInBounds_toArray, List.set_cons_zero, List.set_cons_succ]
            refine wpAnyH_take (i := 9) (oi := { dst := some 32, op := _, type := _, pos := _, after := _, guard := _ }) (v := ?v41) rfl (by kernel_rfl) (by kernel_rfl) (by kernel_rfl) (fun _ _ _ h => h) (Or.inl ⟨by rfl, ?hy41⟩) (by assumption) ?rest41
            case hy41 =>
              intro w9 hS9
              obtain ⟨-, hS9⟩ := hS9
              go_simp
              try with_reducible rfl
            try simp only [Act.put, List.setIfInBounds_toArray, List.set_cons_zero, List.set_cons_succ]
            refine wpAnyH_take (i := 10) (oi := { dst := some 33, op := _, type := _, pos := _, after := _, guard := _ }) (v := ?v42) rfl (by kernel_rfl) (by kernel_rfl) (by kernel_rfl) (fun _ _ _ h => h) (Or.inl ⟨by rfl, ?hy42⟩) (by assumption) ?rest42
            case hy42 =>
              intro w9 hS9
              obtain ⟨-, hS9⟩ := hS9
              go_simp
              try with_reducible rfl
            try simp only [Act.put, List.setIfInBounds_toArray, List.set_cons_zero, List.set_cons_succ]
            refine wpAnyH_take (i := 11) (oi := { dst := some 34, op := _, type := _, pos := _, after := _, guard := _ }) (v := ?v43) rfl (by kernel_rfl) (by kernel_rfl) (by kernel_rfl) (fun _ _ _ h => h) (Or.inl ⟨by rfl, ?hy43⟩) (by assumption) ?rest43
            case hy43 =>
              intro w9 hS9
              obtain ⟨-, hS9⟩ := hS9
              go_simp
              try with_reducible rfl
            try simp only [Act.put, List.setIfInBounds_toArray, List.set_cons_zero, List.set_cons_succ]
            refine wpAnyH_take (i := 12) (oi := { dst := some 35, op := _, type := _, pos := _, after := _, guard := _ }) (v := ?v44) rfl (by kernel_rfl) (by kernel_rfl) (by kernel_rfl) (fun _ _ _ h => h) (Or.inl ⟨by rfl, ?hy44⟩) (by assumption) ?rest44
            case hy44 =>
              intro w9 hS9
              obtain ⟨-, hS9⟩ := hS9
              go_simp
              try with_reducible rfl
            try simp only [Act.put, List.setIfInBounds_toArray, List.set_cons_zero, List.set_cons_succ]
            refine wpAnyH_take (i := 13) (oi := { dst := some 36, op := _, type := _, pos := _, after := _, guard := _ }) (v := ?v45) rfl (by kernel_rfl) (by kernel_rfl) (by kernel_rfl) (fun _ _ _ h => h) (Or.inl ⟨by rfl, ?hy45⟩) (by assumption) ?rest45
            case hy45 =>
              intro w9 hS9
              obtain ⟨-, hS9⟩ := hS9
              go_simp
              try with_reducible rfl
            try simp only [Act.put, List.setIfInBounds_toArray, List.set_cons_zero, List.set_cons_succ]
            refine wpAnyH_take (i := 14) (oi := { dst := some 37, op := _, type := _, pos := _, after := _, guard := _ }) (v := ?v46) rfl (by kernel_rfl) (by kernel_rfl) (by kernel_rfl) (fun _ _ _ h => h) (Or.inl ⟨by rfl, ?hy46⟩) (by assumption) ?rest46
            case hy46 =>
              intro w9 hS9
              obtain ⟨-, hS9⟩ := hS9
              go_simp
              try with_reducible rfl
            try simp only [Act.put, List.setIfInBounds_toArray, List.set_cons_zero, List.set_cons_succ]
            refine wpAnyH_take (i := 15) (oi := { dst := some 38, op := _, type := _, pos := _, after := _, guard := _ }) (v := ?v47) rfl (by kernel_rfl) (by kernel_rfl) (by kernel_rfl) (fun _ _ _ h => h) (Or.inl ⟨by rfl, ?hy47⟩) (by assumption) ?rest47
            case hy47 =>
              intro w9 hS9
              obtain ⟨-, hS9⟩ := hS9
              go_simp
              try with_reducible rfl
            try simp only [Act.put, List.setIfInBounds_toArray, List.set_cons_zero, List.set_cons_succ]
            refine wpAnyH_take (i := 16) (oi := { dst := some 39, op := _, type := _, pos := _, after := _, guard := _ }) (v := ?v48) rfl (by kernel_rfl) (by kernel_rfl) (by kernel_rfl) (fun _ _ _ h => h) (Or.inl ⟨by rfl, ?hy48⟩) (by assumption) ?rest48
            case hy48 =>
              intro w9 hS9
              obtain ⟨-, hS9⟩ := hS9
              go_simp
              try with_reducible rfl
            try simp only [Act.put, List.setIfInBounds_toArray, List.set_cons_zero, List.set_cons_succ]
            refine wpAnyH_take (i := 17) (oi := { dst := some 40, op := _, type := _, pos := _, after := _, guard := _ }) (v := ?v49) rfl (by kernel_rfl) (by kernel_rfl) (by kernel_rfl) (fun _ _ _ h => h) (Or.inl ⟨by rfl, ?hy49⟩) (by assumption) ?rest49
            case hy49 =>
              intro w9 hS9
              obtain ⟨-, hS9⟩ := hS9
              go_simp
              try with_reducible rfl
            try simp only [Act.put, List.setIfInBounds_toArray, List.set_cons_zero, List.set_cons_succ]
            refine wpAnyH_take (i := 18) (oi := { dst := some 41, op := _, type := _, pos := _, after := _, guard := _ }) (v := ?v50) rfl (by kernel_rfl) (by kernel_rfl) (by kernel_rfl) (fun _ _ _ h => h) (Or.inl ⟨by rfl, ?hy50⟩) (by assumption) ?rest50
            case hy50 =>
              intro w9 hS9
              obtain ⟨-, hS9⟩ := hS9
              go_simp
              try with_reducible rfl
            try simp only [Act.put, List.setIfInBounds_toArray, List.set_cons_zero, List.set_cons_succ]
            refine wpAnyH_take (i := 19) (oi := { dst := some 42, op := _, type := _, pos := _, after := _, guard := _ }) (v := ?v51) rfl (by kernel_rfl) (by kernel_rfl) (by kernel_rfl) (fun _ _ _ h => h) (Or.inl ⟨by rfl, ?hy51⟩) (by assumption) ?rest51
            case hy51 =>
              intro w9 hS9
              obtain ⟨-, hS9⟩ := hS9
              go_simp
              try with_reducible rfl
            try simp only [Act.put, List.setIfInBounds_toArray, List.set_cons_zero, List.set_cons_succ]
            refine wpAnyH_take (i := 20) (oi := { dst := some 43, op := _, type := _, pos := _, after := _, guard := _ }) (v := ?v52) rfl (by kernel_rfl) (by kernel_rfl) (by kernel_rfl) (fun _ _ _ h => h) (Or.inl ⟨by rfl, ?hy52⟩) (by assumption) ?rest52
            case hy52 =>
              intro w9 hS9
              obtain ⟨-, hS9⟩ := hS9
              go_simp
              try with_reducible rfl
            try simp only [Act.put, List.setIfInBounds_toArray, List.set_cons_zero, List.set_cons_succ]
            refine wpAnyH_done (by kernel_rfl) ?_ _
            clear hHeld
            go_wp2
            go_ret
            exact ⟨ret_b HN.out.symm, HBn.out _ HB.out⟩
    · have HY : Hid (okEs ns = true) := es_yes (fun t ht => HA.out t (by rw [HP.out] at ht; omega))
      go_wp2
      go_ret
      exact ⟨ret_b HY.out.symm, HG0.out⟩

set_option maxHeartbeats 1000000 in
theorem implTxn_nil (w : World) (z : Int) (ao : Option Addr) (cap : Nat) (hz1 : ¬ z < 1) (hz2 : ¬ 2147483647 < z) :
    Calls Tryd.prog 22 #[.agg #[.int .i64 z, .slice ao 0 cap]] w fun e w' => e = .returned (.bool true) ∧ Below w.heap.size w w' := by
  go_enter Tryd.func22, Tryd.ntmps22
  go_wp2
  go_rounds 1
  go_ret
  exact ⟨rfl, (Below.refl _ _).alloc (Nat.le_refl _) _⟩

set_option maxHeartbeats 1000000 in
theorem implTxn_no (w : World) (z : Int) (ao : Option Addr) (n cap : Nat) (h : z < 1 ∨ 2147483647 < z ∨ 1000 < n) :
    Calls Tryd.prog 22 #[.agg #[.int .i64 z, .slice ao n cap]] w fun e w' => e = .returned (.bool false) ∧ Below w.heap.size w w' := by
  by_cases h1 : z < 1
  · clear h
    go_enter Tryd.func22, Tryd.ntmps22
    go_wp2
    go_ret
    exact ⟨rfl, (Below.refl _ _).alloc (Nat.le_refl _) _⟩
  · by_cases h2 : 2147483647 < z
    · clear h
      go_enter Tryd.func22, Tryd.ntmps22
      go_wp2
      go_ret
      exact ⟨rfl, (Below.refl _ _).alloc (Nat.le_refl _) _⟩
    · have h3 : (1000 : Int) < (n : Int) := by omega
      clear h
      go_enter Tryd.func22, Tryd.ntmps22
      go_wp2
      go_ret
      exact ⟨rfl, (Below.refl _ _).alloc (Nat.le_refl _) _⟩

theorem implTxn_any (w : World) (z : Int) (v : Value) (ns : List Ef) (h : RdE w v ns) (hsz : ∀ i, (eAt ns i).nd.path.size ≤ 1048576 ∧ (eAt ns i).nd.data.size ≤ 1048576) :
    Calls Tryd.prog 22 #[.agg #[.int .i64 z, v]] w fun e w' => e = .returned (.bool (okTxn z ns)) ∧ Below w.heap.size w w' := by
  obtain ⟨ao, cap, rfl, k1, k2, k3⟩ := h
  by_cases hl : z < 1 ∨ 2147483647 < z ∨ 1000 < ns.length
  · have : okTxn z ns = false := by
      unfold okTxn
      rcases hl with hl | hl | hl
      · rw [decide_eq_false (show ¬ 1 ≤ z by omega)]; rfl
      · rw [decide_eq_false (show ¬ z ≤ 2147483647 by omega)]; simp
      · rw [decide_eq_false (show ¬ ns.length ≤ 1000 by omega)]; simp
    rw [this]
    exact implTxn_no w z ao ns.length cap hl
  · have : okTxn z ns = okEs ns := by unfold okTxn; rw [decide_eq_true (show 1 ≤ z by omega), decide_eq_true (show z ≤ 2147483647 by omega), decide_eq_true (show ns.length ≤ 1000 by omega)]; rfl
    rw [this]
    rcases k3 with rfl | ⟨b, o, rfl, hb, hc⟩
    · exact implTxn_nil w z ao cap (by omega) (by omega)
    · exact implTxn_row w z b o ns.length cap ns (by omega) (by omega) rfl (by omega) hb hsz hc

end Go.Proofs.YtgjenbgclpmjmaaDoor

namespace Go.Proofs.YtgjenbgclpmjmaaDoor
open Go.RowKit Go.Shelf

/-- The image of an effect. -/
def mkB (e : Ef) : Int := if e.del then 2 else 1
def effB (e : Ef) : List Int := if e.del then [2] ++ txB e.nd.path else [1] ++ nodeB e.nd
def effsB (es : List Ef) : List Int := es.flatMap effB
def txnB (z : Int) (es : List Ef) : List Int := if okTxn z es then bigR z.toNat 4 ++ bigR es.length 2 ++ effsB es else []
theorem okEf_nd' {e : Ef} (h : okEf e = true) : okNd e.nd = true := by
  unfold okEf at h
  simp only [Bool.and_eq_true] at h
  exact h.1
theorem effB_len {e : Ef} (h : okEf e = true) : (effB e).length ≤ 189 ∧ 0 < (effB e).length := by
  have h1 := okNd_all (okEf_nd' h)
  unfold effB
  split
  · rw [List.length_append, txB_len]; simp; omega
  · rw [List.length_append, nodeB_len]; simp; omega
theorem effsB_succ (es : List Ef) (k : Nat) (h : k < es.length) : effsB (es.take k) ++ effB (eAt es k) = effsB (es.take (k + 1)) := by
  unfold effsB
  rw [List.take_succ_eq_append_getElem h, List.flatMap_append, eAt_get h]
  simp
theorem effsB_all (es : List Ef) (k : Nat) (h : es.length ≤ k) : effsB (es.take k) = effsB es := by rw [List.take_of_length_le h]
theorem effsB_len {es : List Ef} (h : ∀ k, k < es.length → okEf (eAt es k) = true) : ∀ k, k ≤ es.length → (effsB (es.take k)).length ≤ k * 189
  | 0, _ => by simp [effsB]
  | k + 1, hk => by
    have h1 := effsB_len h k (by omega)
    have h2 := effB_len (h k (by omega))
    rw [← effsB_succ es k (by omega), List.length_append]
    omega
theorem okTxn_all {z : Int} {es : List Ef} (h : okTxn z es = true) : 1 ≤ z ∧ z ≤ 2147483647 ∧ es.length ≤ 1000 ∧ ∀ k, k < es.length → okEf (eAt es k) = true := by
  unfold okTxn okEs at h
  simp only [Bool.and_eq_true, decide_eq_true_eq] at h
  refine ⟨h.1.1.1, h.1.1.2, h.1.2, fun k hk => ?_⟩
  have := List.all_eq_true.1 h.2 k (by simpa using hk)
  unfold okEAt at this
  simp only [Bool.and_eq_true] at this
  exact this.1
theorem txnB_len (z : Int) (es : List Ef) : (txnB z es).length ≤ 189006 := by
  unfold txnB
  split
  · rename_i h
    obtain ⟨-, -, h1, h2⟩ := okTxn_all h
    have h3 := effsB_len h2 es.length (Nat.le_refl _)
    rw [effsB_all es _ (Nat.le_refl _)] at h3
    simp only [List.length_append, bigR_len]
    omega
  · simp

/-- An effect's image in a box of its own. -/
def BxE (w : World) (b : Nat) (e : Ef) : Prop := BxN w b e.nd ∧ w.cell? ⟨b, 7, none⟩ = some (.int .u8 (mkB e))
theorem BxE.keep {w w' : World} {b : Nat} {e : Ef} (h : BxE w b e) (hk : KT 5 w w') : BxE w' b e := by
  obtain ⟨A, t, f, h1, h2⟩ := h.1.1
  exact ⟨h.1.keep hk, (hk.cell h1 h2 7).trans h.2⟩

set_option maxHeartbeats 1000000 in
set_option maxRecDepth 100000 in
theorem imageOf_any (w : World) (e : Ef) :
    Calls Tryd.prog 92 #[.agg #[.bool e.del, .string e.nd.path, .string e.nd.data, .int .i64 e.nd.ver, .int .i64 e.nd.cver, .int .i64 e.nd.cz, .int .i64 e.nd.mz, .int .i64 e.nd.pz]] w fun r w' =>
      r = .returned (.agg #[.string e.nd.path, .string e.nd.data, .int .i64 e.nd.ver, .int .i64 e.nd.cver, .int .i64 e.nd.cz, .int .i64 e.nd.mz, .int .i64 e.nd.pz, .int .u8 (mkB e)]) ∧ Below w.heap.size w w' := by
  have HB : Hid (∀ o1 o2, Below w.heap.size w ((w.alloc o1).alloc o2)) := fun o1 o2 => ((Below.refl _ _).alloc (Nat.le_refl _) _).alloc (by simp) _
  go_enter Tryd.func92, Tryd.ntmps92
  obtain ⟨del, nd⟩ := e
  cases del with
  | true =>
    go_wp2
    refine bodyPost_ret (v := .agg #[.string nd.path, .string nd.data, .int .i64 nd.ver, .int .i64 nd.cver, .int .i64 nd.cz, .int .i64 nd.mz, .int .i64 nd.pz, .int .u8 2]) (by simp [results, Tryd.results92, go_sem]) rfl ⟨rfl, HB.out _ _⟩
  | false =>
    go_wp2
    refine bodyPost_ret (v := .agg #[.string nd.path, .string nd.data, .int .i64 nd.ver, .int .i64 nd.cver, .int .i64 nd.cz, .int .i64 nd.mz, .int .i64 nd.pz, .int .u8 1]) (by simp [results, Tryd.results92, go_sem]) rfl ⟨rfl, HB.out _ _⟩

set_option maxHeartbeats 1000000 in
set_option maxRecDepth 100000 in
theorem encEff_any (w : World) (base : Nat) (v : Value) (xs : List Int) (b : Nat) (n : Ef) (h : Own .u8 5 w base v xs) (hb : base ≤ w.heap.size) (hl : xs.length ≤ 900000) (hx : BxE w b n) (hn : okEf n = true) :
    Calls Tryd.prog 93 #[.pointer (some ⟨b, 0, none⟩), v] w fun e w' => ∃ v', e = .returned v' ∧ Own .u8 5 w' base v' (xs ++ effB n) ∧ Below base w w' ∧ KT 5 w w' := by
  obtain ⟨i0, hi, hz0, hz1, hz2⟩ := info_parts Tryd.infoB
  have hnd := okEf_nd' hn
  have hpz := (okNd_all hnd).1
  have HN : Hid (okNd n.nd = true) := hnd
  have HX : Hid (BxE w b n) := hx
  have HO : Hid (w.ownsRow base 5 1 v xs.length (xs.map (Value.int .u8))) := h
  have HE : Hid ((n.del = true ∧ mkB n = 2 ∧ effB n = [2] ++ txB n.nd.path) ∨ (n.del = false ∧ mkB n = 1 ∧ effB n = [1] ++ nodeB n.nd)) := by
    show _ ∨ _
    unfold mkB effB
    cases n.del with
    | true => exact .inl ⟨rfl, rfl, rfl⟩
    | false => exact .inr ⟨rfl, rfl, rfl⟩
  clear h hx hn hnd
  have c7 := HX.out.2
  rcases HE.out with ⟨-, e2, e3⟩ | ⟨-, e2, e3⟩
  · have HE3 : Hid (effB n = [2] ++ txB n.nd.path) := e3
    have HE2 : Hid (mkB n = 2) := e2
    rw [e2] at c7
    clear e2 e3 HE
    go_enter Tryd.func93, Tryd.ntmps93
    go_wp2_with (at_builtin; go_must (refine wpList_append_own _ rfl _ _ 45 rfl base 5 i0 (.int .u8 0) 1 1 Tryd.underlying45 hi hz0 hz1 hz2 rfl (by decide) _ _ _ rfl (World.ownsRow.alloc HO.out _) ⟨w.heap.size, 0, none⟩ 1 1 [.int .u8 2] rfl rfl (cell_one_new _ _ _) (by intro u hu; simp at hu; subst hu; rfl) ?c3 ?c4 ?c5 ?_))
    case c3 => unfold maxLen; omega
    case c4 => omega
    case c5 => simp; omega
    intro v2 w2 ho2 hg2 _
    have O2 : Hid (Own .u8 5 w2 base v2 (xs ++ [2])) := by
      refine own_of (q := xs.length + 1) (ys := xs ++ [2]) (by simp) rfl ?_
      rw [List.map_append]; exact ho2
    have B2 : Hid (Below base w w2) := ((Below.refl _ _).alloc hb _).grown hg2 (by simp; omega) (fun q hq => (World.ownsRow.lt HO.out q hq).1)
    have K2 : Hid (KT 5 w w2) := ((KT.refl _ _).alloc _).grown (HO.out.alloc _) hg2
    have X2 : Hid (BxE w2 b n) := HX.out.keep K2.out
    have s2 := B2.out.size
    clear ho2 hg2 c7
    have c7 := X2.out.2
    rw [HE2.out] at c7
    obtain ⟨d0, -, -, -, -, -, -⟩ := X2.out.1.2
    go_wp2_with fail
    refine (implText_any w2 base v2 _ n.nd.path O2.out (by omega) (by simp; omega) (by omega)).mono ?_
    rintro e w3 ⟨v3, rfl, o3, b3, k3⟩
    have O3 : Hid (Own .u8 5 w3 base v3 (xs ++ effB n)) := by rw [HE3.out, ← List.append_assoc]; exact o3
    have B3 : Hid (Below base w w3) := B2.out.trans b3
    have K3 : Hid (KT 5 w w3) := K2.out.trans k3
    clear o3 b3 k3 O2 X2 d0 c7
    go_wp2
    go_ret
    exact ⟨_, rfl, O3.out, B3.out, K3.out⟩
  · have HE3 : Hid (effB n = [1] ++ nodeB n.nd) := e3
    have HE2 : Hid (mkB n = 1) := e2
    rw [e2] at c7
    clear e2 e3 HE
    go_enter Tryd.func93, Tryd.ntmps93
    go_wp2_with (at_builtin; go_must (refine wpList_append_own _ rfl _ _ 45 rfl base 5 i0 (.int .u8 0) 1 1 Tryd.underlying45 hi hz0 hz1 hz2 rfl (by decide) _ _ _ rfl (World.ownsRow.alloc HO.out _) ⟨w.heap.size, 0, none⟩ 1 1 [.int .u8 1] rfl rfl (cell_one_new _ _ _) (by intro u hu; simp at hu; subst hu; rfl) ?f3 ?f4 ?f5 ?_))
    case f3 => unfold maxLen; omega
    case f4 => omega
    case f5 => simp; omega
    intro v2 w2 ho2 hg2 _
    have O2 : Hid (Own .u8 5 w2 base v2 (xs ++ [1])) := by
      refine own_of (q := xs.length + 1) (ys := xs ++ [1]) (by simp) rfl ?_
      rw [List.map_append]; exact ho2
    have B2 : Hid (Below base w w2) := ((Below.refl _ _).alloc hb _).grown hg2 (by simp; omega) (fun q hq => (World.ownsRow.lt HO.out q hq).1)
    have K2 : Hid (KT 5 w w2) := ((KT.refl _ _).alloc _).grown (HO.out.alloc _) hg2
    have X2 : Hid (BxE w2 b n) := HX.out.keep K2.out
    have s2 := B2.out.size
    clear ho2 hg2 c7
    have c7 := X2.out.2
    rw [HE2.out] at c7
    go_wp2_with fail
    refine (encNode_any w2 base v2 _ b n.nd O2.out (by omega) (by simp; omega) X2.out.1 HN.out).mono ?_
    rintro e w3 ⟨v3, rfl, o3, b3, k3⟩
    have O3 : Hid (Own .u8 5 w3 base v3 (xs ++ effB n)) := by rw [HE3.out, ← List.append_assoc]; exact o3
    have B3 : Hid (Below base w w3) := B2.out.trans b3
    have K3 : Hid (KT 5 w w3) := K2.out.trans k3
    clear o3 b3 k3 O2 X2 c7
    go_wp2
    go_ret
    exact ⟨_, rfl, O3.out, B3.out, K3.out⟩

end Go.Proofs.YtgjenbgclpmjmaaDoor

namespace Go.Proofs.YtgjenbgclpmjmaaDoor
open Go.RowKit

theorem ofInt_wrap64 (x : Nat) : (BitVec.ofInt 64 (wrap64 (x : Int))).toNat = x % 18446744073709551616 := by
  rw [BitVec.toNat_ofInt]
  unfold wrap64
  omega

theorem i64_join (x b : Nat) (hb : b < 256) : bits .or .i64 (wrap64 ((x : Int) * 256)) (b : Int) = wrap64 (((x * 256 + b : Nat) : Int)) := by
  show IntKind.i64.wrap ((BitVec.ofInt 64 (wrap64 ((x : Int) * 256)) ||| BitVec.ofInt 64 (b : Int)).toNat : Int) = _
  have e1 : (BitVec.ofInt 64 (wrap64 ((x : Int) * 256))).toNat = x * 256 % 18446744073709551616 := by
    have := ofInt_wrap64 (x * 256)
    rw [Int.natCast_mul] at this
    exact this
  have e2 : (BitVec.ofInt 64 (b : Int)).toNat = b := by
    rw [BitVec.ofInt_natCast, BitVec.toNat_ofNat]; exact Nat.mod_eq_of_lt (by omega)
  rw [BitVec.toNat_or, e1, e2, nat_join 8 (x * 256 % 18446744073709551616) b (by simp only [Nat.reducePow]; omega) (by simpa using hb), IntKind.wrap_i64]
  unfold wrap64
  omega

/-- The wrap of a number that was wrapped and moved. -/
theorem wrap64_shl (x : Nat) : wrap64 (wrap64 (x : Int) * 256) = wrap64 ((x : Int) * 256) := by unfold wrap64; omega

/-! ### what a superblock's bytes say -/
def nG (ys : List Int) : Int := wrap64 ((numB (ys.take 8) : Nat) : Int)
def nB (ys : List Int) : Int := ((numB ((ys.drop 8).take 1) : Nat) : Int)
def nS (ys : List Int) : Int := ((numB ((ys.drop 9).take 4) : Nat) : Int)
def nL (ys : List Int) : Int := ((numB ((ys.drop 13).take 4) : Nat) : Int)
def nC (ys : List Int) : Int := ((numB ((ys.drop 17).take 4) : Nat) : Int)
abbrev decOk (ys : List Int) : Prop := ys.length = 64 ∧ sup (nG ys) (nB ys) (nS ys) (nL ys) (nC ys) = ys
def decV (ys : List Int) : Value := if decOk ys then .agg #[.bool true, .int .i64 (nG ys), .int .i64 (nB ys), .int .i64 (nS ys), .int .i64 (nL ys), .int .i64 (nC ys)] else .agg #[.bool false, .int .i64 0, .int .i64 0, .int .i64 0, .int .i64 0, .int .i64 0]

theorem sup_len64 {g b s l c : Int} {ys : List Int} (h : sup g b s l c = ys) (h0 : ys ≠ []) : ys.length = 64 := by
  subst h
  unfold sup at h0 ⊢
  split
  · exact supB_len _ _ _ _ _
  · rename_i hn; rw [if_neg hn] at h0; exact absurd rfl h0

end Go.Proofs.YtgjenbgclpmjmaaDoor

namespace Go.Proofs.YtgjenbgclpmjmaaDoor
open Go.RowKit

def badChain : List PanicEntry := [{ v := .iface 135 (.agg #[]), recovered := false }]

set_option maxHeartbeats 400000 in
set_option maxRecDepth 100000 in
theorem take_bad (w : World) (k n c m : Nat) (ao : Option Addr) (h0 : w.cell? ⟨k, 0, none⟩ = some (.slice ao n c)) (hm : n < m) :
    Calls Tryd.prog 109 #[.pointer (some ⟨k, 0, none⟩), .int .i64 m] w fun e w' => e = .panicked badChain ∧ w' = w := by
  have hI : (n : Int) < (m : Int) := by omega
  go_enter Tryd.func109, Tryd.ntmps109
  go_wp2
  exact ⟨rfl, rfl, rfl⟩

def TakePost (w : World) (k b o n c m : Nat) (e : Ending) (w' : World) : Prop := e = .returned (.slice (some ⟨b, o, none⟩) m c) ∧ ∃ o', (o' = o + m ∨ n = m) ∧ w' = w.setCell ⟨k, 0, none⟩ (.slice (some ⟨b, o', none⟩) (n - m) (c - m))

set_option maxHeartbeats 400000 in
set_option maxRecDepth 100000 in
theorem take_ok (w : World) (k b o n c m : Nat) (h0 : w.cell? ⟨k, 0, none⟩ = some (.slice (some ⟨b, o, none⟩) n c)) (hz : w.frozen? ⟨k, 0, none⟩ = false) (hm : m ≤ n) (hm0 : 0 < m) (hc : n ≤ c) :
    Calls Tryd.prog 109 #[.pointer (some ⟨k, 0, none⟩), .int .i64 m] w fun e w' => TakePost w k b o n c m e w' := by
  have hI : ¬ (n : Int) < (m : Int) := by omega
  by_cases hcm : c = m
  · subst hcm
    go_enter Tryd.func109, Tryd.ntmps109
    go_wp2
    go_ret
    exact ⟨rfl, o, .inr (by omega), by rw [Nat.sub_self, show n - c = 0 by omega]⟩
  · have hcm' : m < c := by omega
    go_enter Tryd.func109, Tryd.ntmps109
    go_wp2
    go_ret
    exact ⟨rfl, o + m, .inl rfl, rfl⟩

/-- A reader: what is left of the bytes, in the world from before. -/
def RS (w0 w : World) (k : Nat) (ys : List Int) : Prop :=
  w0.heap.size ≤ k ∧ k < w.heap.size ∧ w.frozen? ⟨k, 0, none⟩ = false ∧ Below w0.heap.size w0 w ∧ ∃ v, w.cell? ⟨k, 0, none⟩ = some v ∧ Rd .u8 w0 v ys

theorem RS.drewN {w0 w : World} {k : Nat} {ys : List Int} (h : RS w0 w k ys) (q : Nat) : RS w0 (w.drewN q) k ys :=
  ⟨h.1, h.2.1, h.2.2.1, h.2.2.2.1.trans ((below_drewN' w q).mono h.2.2.2.1.size), h.2.2.2.2⟩

theorem RS.keep {w0 w w' : World} {k B : Nat} {ys : List Int} (h : RS w0 w k ys) (hb : Below B w w') (hk : k < B) : RS w0 w' k ys := by
  obtain ⟨h1, h2, h3, h4, v, h5, h6⟩ := h
  exact ⟨h1, Nat.lt_of_lt_of_le h2 hb.size, (hb.frozen (p := ⟨k, 0, none⟩) hk).trans h3, h4.trans (hb.mono (by omega)), v, (hb.cell (p := ⟨k, 0, none⟩) hk).trans h5, h6⟩

theorem RS.set {w0 w : World} {k : Nat} {ys zs : List Int} {v : Value} (h : RS w0 w k ys) (hv : Rd .u8 w0 v zs) : RS w0 (w.setCell ⟨k, 0, none⟩ v) k zs := by
  obtain ⟨h1, h2, h3, h4, u, h5, h6⟩ := h
  refine ⟨h1, by simpa using h2, ?_, h4.setCell h1 _, v, World.cell?_setCell_same _ _ _ h5, hv⟩
  rw [World.frozen?_setCell]; exact h3

theorem Rd.split {k : IntKind} {w : World} {b o n c : Nat} {ys : List Int} (h : Rd k w (.slice (some ⟨b, o, none⟩) n c) ys) (m : Nat) (hm : m ≤ n) (hm0 : 0 < m) :
    Rd k w (.slice (some ⟨b, o, none⟩) m c) (ys.take m) ∧ ∀ o', (o' = o + m ∨ n = m) → Rd k w (.slice (some ⟨b, o', none⟩) (n - m) (c - m)) (ys.drop m) := by
  obtain ⟨ao, cap, e, h1, h2, h3⟩ := h
  simp only [Value.slice.injEq] at e
  obtain ⟨rfl, rfl, rfl⟩ := e
  rcases h3 with rfl | ⟨b', o', e', hb, hc⟩
  · simp at hm; omega
  · simp only [Option.some.injEq, Addr.mk.injEq, and_true] at e'
    obtain ⟨rfl, rfl⟩ := e'
    refine ⟨⟨some ⟨b, o, none⟩, c, by rw [List.length_take, Nat.min_eq_left hm], by rw [List.length_take]; omega, h2, .inr ⟨b, o, rfl, hb, fun i hi => ?_⟩⟩, fun o' ho' => ⟨some ⟨b, o', none⟩, c - m, by rw [List.length_drop], by rw [List.length_drop]; omega, by omega, ?_⟩⟩
    · rw [List.length_take] at hi
      rw [hc i (by omega)]
      simp [List.getD, List.getElem?_take_of_lt (show i < m by omega)]
    · rcases ho' with rfl | hnm
      · refine .inr ⟨b, o + m, rfl, hb, fun i hi => ?_⟩
        rw [List.length_drop] at hi
        rw [Nat.add_assoc, hc (m + i) (by omega)]
        simp [List.getD]
      · exact .inl (List.drop_eq_nil_of_le (by omega))

theorem take_any (w0 w : World) (k m : Nat) (ys : List Int) (h : RS w0 w k ys) (hm : m ≤ ys.length) (hm0 : 0 < m) :
    Calls Tryd.prog 109 #[.pointer (some ⟨k, 0, none⟩), .int .i64 m] w fun e w' => ∃ b o c v', e = .returned (.slice (some ⟨b, o, none⟩) m c) ∧ b < w0.heap.size ∧ (∀ i, i < m → w0.cell? ⟨b, o + i, none⟩ = some (.int .u8 (ys.getD i 0))) ∧ RS w0 w' k (ys.drop m) ∧ w' = w.setCell ⟨k, 0, none⟩ v' := by
  obtain ⟨h1, h2, h3, h4, v, h5, h6⟩ := h
  have h6' := h6
  obtain ⟨ao, c, rfl, g1, g2, g3⟩ := h6
  rcases g3 with rfl | ⟨b, o, rfl, hb, hc⟩
  · simp at hm; omega
  · refine (take_ok w k b o ys.length c m h5 h3 hm hm0 g1).mono ?_
    rintro e w' ⟨rfl, o', ho', rfl⟩
    exact ⟨b, o, c, _, rfl, hb, fun i hi => hc i (by omega), RS.set ⟨h1, h2, h3, h4, _, h5, h6'⟩ ((Rd.split h6' m hm hm0).2 o' ho'), rfl⟩

theorem take_none (w0 w : World) (k m : Nat) (ys : List Int) (h : RS w0 w k ys) (hm : ys.length < m) :
    Calls Tryd.prog 109 #[.pointer (some ⟨k, 0, none⟩), .int .i64 m] w fun e w' => e = .panicked badChain ∧ w' = w := by
  obtain ⟨-, -, -, -, v, h5, h6⟩ := h
  obtain ⟨ao, c, rfl, -, -, -⟩ := h6
  exact take_bad w k _ c m ao h5 hm

set_option maxHeartbeats 400000 in
set_option maxRecDepth 100000 in
theorem number_none (w0 w : World) (k m : Nat) (ys : List Int) (h : RS w0 w k ys) (hm : ys.length < m) :
    Calls Tryd.prog 73 #[.pointer (some ⟨k, 0, none⟩), .int .i64 m] w fun e w' => e = .panicked badChain ∧ w' = w := by
  have H : Hid (Calls Tryd.prog 109 #[.pointer (some ⟨k, 0, none⟩), .int .i64 m] w fun e w' => e = .panicked badChain ∧ w' = w) := take_none w0 w k m ys h hm
  clear h hm
  go_enter Tryd.func73, Tryd.ntmps73
  go_wp2_with fail
  refine H.out.mono ?_
  rintro e w1 ⟨rfl, rfl⟩
  exact ⟨rfl, rfl, rfl⟩

set_option maxHeartbeats 400000 in
set_option maxRecDepth 100000 in
theorem number_any (w0 w : World) (k m : Nat) (ys : List Int) (h : RS w0 w k ys) (hm : m ≤ ys.length) (hm0 : 0 < m) (hm8 : m ≤ 8) (hby : Byt ys) :
    Calls Tryd.prog 73 #[.pointer (some ⟨k, 0, none⟩), .int .i64 m] w fun e w' => e = .returned (.int .i64 (wrap64 ((numB (ys.take m) : Nat) : Int))) ∧ RS w0 w' k (ys.drop m) ∧ ∃ v' q, w' = (w.setCell ⟨k, 0, none⟩ v').drewN q := by
  have H : Hid (Calls Tryd.prog 109 #[.pointer (some ⟨k, 0, none⟩), .int .i64 m] w fun e w' => ∃ b o c v', e = .returned (.slice (some ⟨b, o, none⟩) m c) ∧ b < w0.heap.size ∧ (∀ i, i < m → w0.cell? ⟨b, o + i, none⟩ = some (.int .u8 (ys.getD i 0))) ∧ RS w0 w' k (ys.drop m) ∧ w' = w.setCell ⟨k, 0, none⟩ v') := take_any w0 w k m ys h hm hm0
  have HBY : Hid (Byt ys) := hby
  have HM : Hid (m ≤ ys.length) := hm
  clear h hby hm
  go_enter Tryd.func73, Tryd.ntmps73
  go_wp2_with fail
  refine H.out.mono ?_
  rintro e w1 ⟨b, o, c, v', rfl, hb, hc, hr, hw⟩
  have HC : Hid (∀ i, i < m → w0.cell? ⟨b, o + i, none⟩ = some (.int .u8 (ys.getD i 0))) := hc
  have HR : Hid (RS w0 w1 k (ys.drop m)) := hr
  have HW : Hid (w1 = w.setCell ⟨k, 0, none⟩ v') := hw
  clear hc hr hw
  go_wp2
  go_loopw [5, 12] (fun vn vi wr => ∃ (i : Nat) (z : Int), i ≤ m ∧ vi = .int .i64 i ∧ vn = .int .i64 z ∧ Hid (z = wrap64 ((numB (ys.take i) : Nat) : Int)) ∧ ∃ q, wr = w1.drewN q) (fun _ i _ => m - (intOf i).toNat)
  case atStart => exact ⟨0, 0, Nat.zero_le _, rfl, rfl, (by show (0 : Int) = _; unfold wrap64; rw [List.take_zero, numB_nil]; rfl), 0, rfl⟩
  case round =>
    obtain ⟨i, z, hi, rfl, rfl, HZ, q, rfl⟩ := hrel
    by_cases hlt : i < m
    · have hI : (i : Int) < (m : Int) := by omega
      obtain ⟨x, hx, hxe⟩ := byt_at HBY.out i
      have c1 : w1.cell? ⟨b, o + i, none⟩ = some (.int .u8 (x : Int)) := by rw [HR.out.2.2.2.1.cell (p := ⟨b, o + i, none⟩) hb, HC.out i hlt, hxe]
      have HXE : Hid (ys.getD i 0 = (x : Int)) := hxe
      have hxI : (x : Int) < 256 := by omega
      clear hxe
      have HN : Hid (bits .or .i64 (wrap64 (z * 256)) (x : Int) = wrap64 ((numB (ys.take (i + 1)) : Nat) : Int)) := by
        show _ = _
        have ht : ys.take (i + 1) = ys.take i ++ [(x : Int)] := by
          have hl : i < ys.length := by have := HM.out; omega
          have he := HXE.out
          simp only [List.getD, List.getElem?_eq_getElem hl, Option.getD_some] at he
          rw [List.take_succ_eq_append_getElem hl, he]
        rw [ht, numB_snoc, HZ.out, wrap64_shl, i64_join _ _ hx, Int.toNat_natCast]
      go_wp2
      exact ⟨⟨i + 1, _, by omega, by go_num, rfl, HN, q, rfl⟩, by simp [intOf]; omega⟩
    · have him : i = m := by omega
      subst him
      have HRQ : Hid (RS w0 (w1.drewN q) k (ys.drop i)) := HR.out.drewN q
      have HWQ : Hid (∃ v' q', w1.drewN q = (w.setCell ⟨k, 0, none⟩ v').drewN q') := ⟨v', q, by rw [HW.out]⟩
      go_wp2
      go_ret
      exact ⟨ret_int HZ.out, HRQ.out, HWQ.out⟩

end Go.Proofs.YtgjenbgclpmjmaaDoor

namespace Go.Proofs.YtgjenbgclpmjmaaDoor
open Go.RowKit

/-- A text at the head of bytes, and what is behind it. -/
def rdT : List Int → Option (ByteArray × List Int)
  | [] => none
  | y :: r => if y.toNat ≤ r.length then some (strOfNums (r.take y.toNat), r.drop y.toNat) else none
def num4 (ys : List Int) (i : Nat) : Int := ((numB ((ys.drop (4 * i)).take 4) : Nat) : Int)
/-- A node at the head of bytes, and what is behind it. -/
def rdNd (ys : List Int) : Option (Nd × List Int) :=
  match rdT ys with
  | none => none
  | some (p, r1) =>
    match rdT r1 with
    | none => none
    | some (d, r2) => if 20 ≤ r2.length then some (⟨p, d, num4 r2 0, num4 r2 1, num4 r2 2, num4 r2 3, num4 r2 4⟩, r2.drop 20) else none
theorem byt_drop {ys : List Int} (h : Byt ys) (n : Nat) : Byt (ys.drop n) := fun x hx => h x (List.mem_of_mem_drop hx)
theorem rdT_some {ys r : List Int} {s : ByteArray} (h : rdT ys = some (s, r)) : ∃ y t, ys = y :: t ∧ y.toNat ≤ t.length ∧ s = strOfNums (t.take y.toNat) ∧ r = t.drop y.toNat := by
  cases ys with
  | nil => simp [rdT] at h
  | cons y t =>
    simp only [rdT] at h
    by_cases hy : y.toNat ≤ t.length
    · rw [if_pos hy] at h
      simp only [Option.some.injEq, Prod.mk.injEq] at h
      exact ⟨y, t, rfl, hy, h.1.symm, h.2.symm⟩
    · rw [if_neg hy] at h; cases h
theorem rdT_none {ys : List Int} (h : rdT ys = none) : ys = [] ∨ ∃ y t, ys = y :: t ∧ t.length < y.toNat := by
  cases ys with
  | nil => exact .inl rfl
  | cons y t =>
    simp only [rdT] at h
    by_cases hy : y.toNat ≤ t.length
    · rw [if_pos hy] at h; cases h
    · exact .inr ⟨y, t, rfl, by omega⟩
theorem rdT_byt {ys r : List Int} {s : ByteArray} (h : rdT ys = some (s, r)) (hb : Byt ys) : Byt r ∧ r.length < ys.length ∧ s.size < 256 := by
  obtain ⟨y, t, rfl, h1, rfl, rfl⟩ := rdT_some h
  refine ⟨fun x hx => hb x (List.mem_cons_of_mem _ (List.mem_of_mem_drop hx)), by simp; omega, ?_⟩
  have := hb y (by simp)
  rw [strOfNums_size, List.length_take]
  omega
theorem rdNd_byt {ys r : List Int} {n : Nd} (h : rdNd ys = some (n, r)) (hb : Byt ys) : Byt r ∧ r.length < ys.length ∧ n.path.size < 256 ∧ n.data.size < 256 := by
  unfold rdNd at h
  cases h1 : rdT ys with
  | none => rw [h1] at h; cases h
  | some q =>
    obtain ⟨p, r1⟩ := q
    rw [h1] at h
    simp only at h
    cases h2 : rdT r1 with
    | none => rw [h2] at h; cases h
    | some q2 =>
      obtain ⟨d, r2⟩ := q2
      rw [h2] at h
      simp only at h
      by_cases h3 : 20 ≤ r2.length
      · rw [if_pos h3] at h
        simp only [Option.some.injEq, Prod.mk.injEq] at h
        obtain ⟨rfl, rfl⟩ := h
        have b1 := rdT_byt h1 hb
        have b2 := rdT_byt h2 b1.1
        refine ⟨byt_drop b2.1 _, ?_, b1.2.2, b2.2.2⟩
        rw [List.length_drop]; omega
      · rw [if_neg h3] at h; cases h

/-- All nodes of bytes. -/
def pNs : Nat → List Int → Option (List Nd)
  | 0, ys => if ys = [] then some [] else none
  | f + 1, ys => if ys = [] then some [] else
    match rdNd ys with
    | none => none
    | some (n, r) => (pNs f r).map (n :: ·)
theorem pNs_nil (f : Nat) : pNs f [] = some [] := by cases f <;> simp [pNs]
theorem pNs_none {f : Nat} {ys : List Int} (h : ys ≠ []) (hr : rdNd ys = none) : pNs f ys = none := by
  cases f with
  | zero => simp [pNs, h]
  | succ f => simp [pNs, h, hr]
theorem pNs_some {f : Nat} {ys r : List Int} {n : Nd} (h : ys ≠ []) (hr : rdNd ys = some (n, r)) : pNs (f + 1) ys = (pNs f r).map (n :: ·) := by simp [pNs, h, hr]
/-- A way through the bytes: what was read, and what is left. -/
def Par (ys : List Int) (ns : List Nd) (r : List Int) : Prop := ∃ f, r.length ≤ f ∧ pNs ys.length ys = (pNs f r).map (ns ++ ·) ∧ ns.length + r.length ≤ ys.length
theorem Par.start (ys : List Int) : Par ys [] ys := ⟨ys.length, Nat.le_refl _, by simp, by simp⟩
theorem Par.step {ys : List Int} {ns : List Nd} {r r' : List Int} {n : Nd} (h : Par ys ns r) (hb : Byt r) (hr : rdNd r = some (n, r')) : Par ys (ns ++ [n]) r' := by
  obtain ⟨f, hf, he, hl⟩ := h
  have h1 := (rdNd_byt hr hb).2.1
  have hne : r ≠ [] := fun e => by rw [e] at h1; simp at h1
  cases f with
  | zero => omega
  | succ f =>
    refine ⟨f, by omega, ?_, by simp; omega⟩
    rw [he, pNs_some hne hr, Option.map_map]
    congr 1
    funext l
    simp
theorem Par.done {ys : List Int} {ns : List Nd} (h : Par ys ns []) : pNs ys.length ys = some ns := by
  obtain ⟨f, -, he, -⟩ := h
  rw [he, pNs_nil]; simp
theorem Par.bad {ys : List Int} {ns : List Nd} {r : List Int} (h : Par ys ns r) (hne : r ≠ []) (hr : rdNd r = none) : pNs ys.length ys = none := by
  obtain ⟨f, -, he, -⟩ := h
  rw [he, pNs_none hne hr]; rfl
/-- What bytes are, read as a tree. -/
def decT (ys : List Int) : Option (List Nd) :=
  match pNs ys.length ys with
  | none => none
  | some ns => if okTree ns then some ns else none

end Go.Proofs.YtgjenbgclpmjmaaDoor

namespace Go.Proofs.YtgjenbgclpmjmaaDoor
open Go.RowKit

set_option maxHeartbeats 400000 in
set_option maxRecDepth 100000 in
theorem take_zero (w : World) (k n c : Nat) (ao : Option Addr) (h0 : w.cell? ⟨k, 0, none⟩ = some (.slice ao n c)) (hz : w.frozen? ⟨k, 0, none⟩ = false) :
    Calls Tryd.prog 109 #[.pointer (some ⟨k, 0, none⟩), .int .i64 0] w fun e w' => e = .returned (.slice ao 0 c) ∧ w' = w.setCell ⟨k, 0, none⟩ (.slice ao n c) := by
  have hI : ¬ (n : Int) < 0 := by omega
  go_enter Tryd.func109, Tryd.ntmps109
  cases ao with
  | none =>
    go_wp2
    go_ret
    exact ⟨rfl, rfl⟩
  | some a =>
    go_wp2
    go_ret
    exact ⟨rfl, rfl⟩

theorem take_gen (w0 w : World) (k m : Nat) (ys : List Int) (h : RS w0 w k ys) (hm : m ≤ ys.length) :
    Calls Tryd.prog 109 #[.pointer (some ⟨k, 0, none⟩), .int .i64 m] w fun e w' => ∃ v1, e = .returned v1 ∧ Rd .u8 w0 v1 (ys.take m) ∧ RS w0 w' k (ys.drop m) ∧ w.grownBy w' (some k) := by
  have h' := h
  obtain ⟨h1, h2, h3, h4, v, h5, h6⟩ := h
  have h6' := h6
  obtain ⟨ao, c, rfl, g1, g2, g3⟩ := h6
  by_cases hm0 : m = 0
  · subst hm0
    refine (take_zero w k ys.length c ao h5 h3).mono ?_
    rintro e w' ⟨rfl, rfl⟩
    refine ⟨_, rfl, ⟨ao, c, by simp, Nat.zero_le _, g2, .inl (List.take_zero)⟩, ?_, grownBy_set _ _ _ _ _ (World.grownBy.refl _ _)⟩
    rw [List.drop_zero]
    exact RS.set h' h6'
  · rcases g3 with rfl | ⟨b, o, rfl, hb, hc⟩
    · simp at hm; omega
    · refine (take_ok w k b o ys.length c m h5 h3 hm (by omega) g1).mono ?_
      rintro e w' ⟨rfl, o', ho', rfl⟩
      have hs := Rd.split h6' m hm (by omega)
      exact ⟨_, rfl, hs.1, RS.set h' (hs.2 o' ho'), grownBy_set _ _ _ _ _ (World.grownBy.refl _ _)⟩

set_option maxHeartbeats 400000 in
set_option maxRecDepth 100000 in
theorem oneByte_any (w0 w : World) (k : Nat) (y : Int) (r : List Int) (h : RS w0 w k (y :: r)) :
    Calls Tryd.prog 110 #[.pointer (some ⟨k, 0, none⟩)] w fun e w' => e = .returned (.int .u8 y) ∧ RS w0 w' k r ∧ w.grownBy w' (some k) := by
  have H : Hid (Calls Tryd.prog 109 #[.pointer (some ⟨k, 0, none⟩), .int .i64 1] w fun e w' => ∃ b o c, e = .returned (.slice (some ⟨b, o, none⟩) 1 c) ∧ w'.cell? ⟨b, o, none⟩ = some (.int .u8 y) ∧ Hid (RS w0 w' k r) ∧ Hid (w.grownBy w' (some k))) := by
    refine (take_any w0 w k 1 (y :: r) h (by simp) (by omega)).mono ?_
    rintro e w' ⟨b, o, c, v', rfl, hb, hc, hr, rfl⟩
    have h0 := hc 0 (by omega)
    refine ⟨b, o, c, rfl, ?_, (by show RS _ _ _ _; simpa using hr), grownBy_set _ _ _ _ _ (World.grownBy.refl _ _)⟩
    rw [hr.2.2.2.1.cell (p := ⟨b, o, none⟩) hb]
    simpa using h0
  clear h
  go_enter Tryd.func110, Tryd.ntmps110
  go_wp2_with fail
  refine H.out.mono ?_
  rintro e w1 ⟨b, o, c, rfl, hc, hr, hg⟩
  go_wp2
  go_ret
  exact ⟨rfl, hr.out, hg.out⟩

set_option maxHeartbeats 400000 in
set_option maxRecDepth 100000 in
theorem oneByte_none (w0 w : World) (k : Nat) (h : RS w0 w k []) :
    Calls Tryd.prog 110 #[.pointer (some ⟨k, 0, none⟩)] w fun e w' => e = .panicked badChain ∧ w' = w := by
  have H : Hid (Calls Tryd.prog 109 #[.pointer (some ⟨k, 0, none⟩), .int .i64 1] w fun e w' => e = .panicked badChain ∧ w' = w) := take_none w0 w k 1 [] h (by simp)
  clear h
  go_enter Tryd.func110, Tryd.ntmps110
  go_wp2_with fail
  refine H.out.mono ?_
  rintro e w1 ⟨rfl, rfl⟩
  exact ⟨rfl, rfl, rfl⟩

def TxPost (w0 w : World) (k : Nat) (ys : List Int) (e : Ending) (w' : World) : Prop :=
  w.grownBy w' (some k) ∧ ((rdT ys = none ∧ e = .panicked badChain) ∨ ∃ s r, rdT ys = some (s, r) ∧ e = .returned (.string s) ∧ RS w0 w' k r)

set_option maxHeartbeats 400000 in
set_option maxRecDepth 100000 in
theorem text_any (w0 w : World) (k : Nat) (ys : List Int) (h : RS w0 w k ys) (hby : Byt ys) :
    Calls Tryd.prog 111 #[.pointer (some ⟨k, 0, none⟩)] w fun e w' => TxPost w0 w k ys e w' := by
  have HS : Hid (RS w0 w k ys) := h
  clear h
  go_enter Tryd.func111, Tryd.ntmps111
  go_wp2_with fail
  cases ys with
  | nil =>
    refine (oneByte_none w0 w k HS.out).mono ?_
    rintro e w1 ⟨rfl, rfl⟩
    exact ⟨rfl, World.grownBy.refl _ _, .inl ⟨rfl, rfl⟩⟩
  | cons y r =>
    have hy := hby y (by simp)
    obtain ⟨m, rfl⟩ : ∃ m : Nat, y = (m : Int) := ⟨y.toNat, by omega⟩
    have hm : m < 256 := by omega
    clear hby hy
    refine (oneByte_any w0 w k m r HS.out).mono ?_
    rintro e w1 ⟨rfl, r1, g1⟩
    have R1 : Hid (RS w0 w1 k r) := r1
    have G1 : Hid (w.grownBy w1 (some k)) := g1
    clear r1 g1 HS
    have hmI : (m : Int) < 256 := by omega
    go_wp2_with fail
    by_cases hl : m ≤ r.length
    · refine (take_gen w0 w1 k m r R1.out hl).mono ?_
      rintro e w2 ⟨v2, rfl, rd2, r2, g2⟩
      have hcv := conv_any (rd2.below r2.2.2.2.1)
      have HP : Hid (TxPost w0 w k ((m : Int) :: r) (.returned (.string (strOfNums (r.take m)))) w2) := by
        refine ⟨G1.out.trans g2, .inr ⟨_, _, ?_, rfl, r2⟩⟩
        simp only [rdT, Int.toNat_natCast]
        rw [if_pos hl]
      clear rd2 r2 g2 R1 G1
      go_wp2
      go_ret
      exact HP.out
    · refine (take_none w0 w1 k m r R1.out (by omega)).mono ?_
      rintro e w2 ⟨rfl, rfl⟩
      refine ⟨rfl, G1.out, .inl ⟨?_, rfl⟩⟩
      simp only [rdT, Int.toNat_natCast]
      rw [if_neg hl]

end Go.Proofs.YtgjenbgclpmjmaaDoor

namespace Go.Proofs.YtgjenbgclpmjmaaDoor
open Go.RowKit

theorem grown_of {w w' : World} (h : Below w.heap.size w w') (row : Option Nat) : w.grownBy w' row := ⟨h.os, h.tape, h.output, h.size, fun k hk _ => h.block k hk⟩
theorem grown_alloc (w : World) (o : Obj) (row : Option Nat) : w.grownBy (w.alloc o) row := grown_of ((Below.refl _ _).alloc (Nat.le_refl _) o) row
theorem grown_new {w W : World} {row : Option Nat} {B : Nat} (h : w.grownBy W row) (hB : w.heap.size ≤ B) (i : Nat) (u : Value) : w.grownBy (W.setCell ⟨B, i, none⟩ u) row :=
  ⟨h.os, h.tape, h.output, by simpa using h.size, fun k hk hne => by
    rw [← h.block k hk hne]
    exact Below.heap_setCell _ _ _ _ (by show k ≠ B; omega)⟩
/-- A local node that may be written. -/
def NB (W : World) (B : Nat) (n : Nd) : Prop := BoxN W B n ∧ ∀ j, W.frozen? ⟨B, j, none⟩ = false
theorem NB.turn {W W' : World} {B : Nat} {n : Nd} {row : Option Nat} (h : NB W B n) (hg : W.grownBy W' row) (hne : some B ≠ row) : NB W' B n := by
  have hb := hg.block B h.1.lt hne
  have e : ∀ q, W'.cell? ⟨B, q, none⟩ = W.cell? ⟨B, q, none⟩ := fun q => World.cell?_of_block (a := ⟨B, q, none⟩) hb
  refine ⟨⟨Nat.lt_of_lt_of_le h.1.lt hg.size, (e _).trans h.1.c0, (e _).trans h.1.c1, (e _).trans h.1.c2, (e _).trans h.1.c3, (e _).trans h.1.c4, (e _).trans h.1.c5, (e _).trans h.1.c6⟩, fun j => ?_⟩
  rw [World.frozen?_of_block (a := ⟨B, j, none⟩) hb]; exact h.2 j
theorem NB.other {W : World} {B B' : Nat} {n : Nd} (h : NB W B n) (hne : B ≠ B') (i : Nat) (u : Value) : NB (W.setCell ⟨B', i, none⟩ u) B n := by
  have e : ∀ q, (W.setCell ⟨B', i, none⟩ u).cell? ⟨B, q, none⟩ = W.cell? ⟨B, q, none⟩ := fun q => World.cell?_setCell_other _ _ _ _ (by intro e; injection e with e; omega)
  refine ⟨⟨by simpa using h.1.lt, (e _).trans h.1.c0, (e _).trans h.1.c1, (e _).trans h.1.c2, (e _).trans h.1.c3, (e _).trans h.1.c4, (e _).trans h.1.c5, (e _).trans h.1.c6⟩, fun j => ?_⟩
  rw [World.frozen?_setCell]; exact h.2 j
theorem NB.put0 {W : World} {B : Nat} {n : Nd} (h : NB W B n) (s : ByteArray) : NB (W.setCell ⟨B, 0, none⟩ (Value.string s)) B { n with path := s } := by
  have e : ∀ q, q ≠ 0 → (W.setCell ⟨B, 0, none⟩ (Value.string s)).cell? ⟨B, q, none⟩ = W.cell? ⟨B, q, none⟩ := fun q hq => World.cell?_setCell_other _ _ _ _ (by intro e; injection e with _ e; omega)
  refine ⟨⟨by simpa using h.1.lt, World.cell?_setCell_same _ _ _ h.1.c0, (e 1 (by omega)).trans h.1.c1, (e 2 (by omega)).trans h.1.c2, (e 3 (by omega)).trans h.1.c3, (e 4 (by omega)).trans h.1.c4, (e 5 (by omega)).trans h.1.c5, (e 6 (by omega)).trans h.1.c6⟩, fun j => ?_⟩
  rw [World.frozen?_setCell]; exact h.2 j
theorem NB.put1 {W : World} {B : Nat} {n : Nd} (h : NB W B n) (s : ByteArray) : NB (W.setCell ⟨B, 1, none⟩ (Value.string s)) B { n with data := s } := by
  have e : ∀ q, q ≠ 1 → (W.setCell ⟨B, 1, none⟩ (Value.string s)).cell? ⟨B, q, none⟩ = W.cell? ⟨B, q, none⟩ := fun q hq => World.cell?_setCell_other _ _ _ _ (by intro e; injection e with _ e; omega)
  refine ⟨⟨by simpa using h.1.lt, (e 0 (by omega)).trans h.1.c0, World.cell?_setCell_same _ _ _ h.1.c1, (e 2 (by omega)).trans h.1.c2, (e 3 (by omega)).trans h.1.c3, (e 4 (by omega)).trans h.1.c4, (e 5 (by omega)).trans h.1.c5, (e 6 (by omega)).trans h.1.c6⟩, fun j => ?_⟩
  rw [World.frozen?_setCell]; exact h.2 j
theorem NB.put2 {W : World} {B : Nat} {n : Nd} (h : NB W B n) (s : Int) : NB (W.setCell ⟨B, 2, none⟩ (Value.int .i64 s)) B { n with ver := s } := by
  have e : ∀ q, q ≠ 2 → (W.setCell ⟨B, 2, none⟩ (Value.int .i64 s)).cell? ⟨B, q, none⟩ = W.cell? ⟨B, q, none⟩ := fun q hq => World.cell?_setCell_other _ _ _ _ (by intro e; injection e with _ e; omega)
  refine ⟨⟨by simpa using h.1.lt, (e 0 (by omega)).trans h.1.c0, (e 1 (by omega)).trans h.1.c1, World.cell?_setCell_same _ _ _ h.1.c2, (e 3 (by omega)).trans h.1.c3, (e 4 (by omega)).trans h.1.c4, (e 5 (by omega)).trans h.1.c5, (e 6 (by omega)).trans h.1.c6⟩, fun j => ?_⟩
  rw [World.frozen?_setCell]; exact h.2 j
theorem NB.put3 {W : World} {B : Nat} {n : Nd} (h : NB W B n) (s : Int) : NB (W.setCell ⟨B, 3, none⟩ (Value.int .i64 s)) B { n with cver := s } := by
  have e : ∀ q, q ≠ 3 → (W.setCell ⟨B, 3, none⟩ (Value.int .i64 s)).cell? ⟨B, q, none⟩ = W.cell? ⟨B, q, none⟩ := fun q hq => World.cell?_setCell_other _ _ _ _ (by intro e; injection e with _ e; omega)
  refine ⟨⟨by simpa using h.1.lt, (e 0 (by omega)).trans h.1.c0, (e 1 (by omega)).trans h.1.c1, (e 2 (by omega)).trans h.1.c2, World.cell?_setCell_same _ _ _ h.1.c3, (e 4 (by omega)).trans h.1.c4, (e 5 (by omega)).trans h.1.c5, (e 6 (by omega)).trans h.1.c6⟩, fun j => ?_⟩
  rw [World.frozen?_setCell]; exact h.2 j
theorem NB.put4 {W : World} {B : Nat} {n : Nd} (h : NB W B n) (s : Int) : NB (W.setCell ⟨B, 4, none⟩ (Value.int .i64 s)) B { n with cz := s } := by
  have e : ∀ q, q ≠ 4 → (W.setCell ⟨B, 4, none⟩ (Value.int .i64 s)).cell? ⟨B, q, none⟩ = W.cell? ⟨B, q, none⟩ := fun q hq => World.cell?_setCell_other _ _ _ _ (by intro e; injection e with _ e; omega)
  refine ⟨⟨by simpa using h.1.lt, (e 0 (by omega)).trans h.1.c0, (e 1 (by omega)).trans h.1.c1, (e 2 (by omega)).trans h.1.c2, (e 3 (by omega)).trans h.1.c3, World.cell?_setCell_same _ _ _ h.1.c4, (e 5 (by omega)).trans h.1.c5, (e 6 (by omega)).trans h.1.c6⟩, fun j => ?_⟩
  rw [World.frozen?_setCell]; exact h.2 j
theorem NB.put5 {W : World} {B : Nat} {n : Nd} (h : NB W B n) (s : Int) : NB (W.setCell ⟨B, 5, none⟩ (Value.int .i64 s)) B { n with mz := s } := by
  have e : ∀ q, q ≠ 5 → (W.setCell ⟨B, 5, none⟩ (Value.int .i64 s)).cell? ⟨B, q, none⟩ = W.cell? ⟨B, q, none⟩ := fun q hq => World.cell?_setCell_other _ _ _ _ (by intro e; injection e with _ e; omega)
  refine ⟨⟨by simpa using h.1.lt, (e 0 (by omega)).trans h.1.c0, (e 1 (by omega)).trans h.1.c1, (e 2 (by omega)).trans h.1.c2, (e 3 (by omega)).trans h.1.c3, (e 4 (by omega)).trans h.1.c4, World.cell?_setCell_same _ _ _ h.1.c5, (e 6 (by omega)).trans h.1.c6⟩, fun j => ?_⟩
  rw [World.frozen?_setCell]; exact h.2 j
theorem NB.put6 {W : World} {B : Nat} {n : Nd} (h : NB W B n) (s : Int) : NB (W.setCell ⟨B, 6, none⟩ (Value.int .i64 s)) B { n with pz := s } := by
  have e : ∀ q, q ≠ 6 → (W.setCell ⟨B, 6, none⟩ (Value.int .i64 s)).cell? ⟨B, q, none⟩ = W.cell? ⟨B, q, none⟩ := fun q hq => World.cell?_setCell_other _ _ _ _ (by intro e; injection e with _ e; omega)
  refine ⟨⟨by simpa using h.1.lt, (e 0 (by omega)).trans h.1.c0, (e 1 (by omega)).trans h.1.c1, (e 2 (by omega)).trans h.1.c2, (e 3 (by omega)).trans h.1.c3, (e 4 (by omega)).trans h.1.c4, (e 5 (by omega)).trans h.1.c5, World.cell?_setCell_same _ _ _ h.1.c6⟩, fun j => ?_⟩
  rw [World.frozen?_setCell]; exact h.2 j
theorem NB.new (w : World) (n : Nd) (t : TypeId) : NB (w.alloc (.cells #[.string n.path, .string n.data, .int .i64 n.ver, .int .i64 n.cver, .int .i64 n.cz, .int .i64 n.mz, .int .i64 n.pz] t)) w.heap.size n := ⟨BoxN.new w n t, fun j => (by go_simp)⟩
theorem RS.new {w0 w w' : World} {k : Nat} {ys : List Int} (h : RS w0 w k ys) (hb : Below w.heap.size w w') : RS w0 w' k ys := h.keep hb h.2.1
theorem RS.setOther {w0 w : World} {k B : Nat} {ys : List Int} (h : RS w0 w k ys) (hB : k ≠ B) (h0 : w0.heap.size ≤ B) (i : Nat) (u : Value) : RS w0 (w.setCell ⟨B, i, none⟩ u) k ys := by
  obtain ⟨h1, h2, h3, h4, v, h5, h6⟩ := h
  refine ⟨h1, by simpa using h2, by rw [World.frozen?_setCell]; exact h3, h4.setCell h0 _, v, ?_, h6⟩
  rw [World.cell?_setCell_other _ _ _ _ (by intro e; injection e with e; omega)]; exact h5
theorem wrap4 {ys : List Int} (h : Byt ys) : wrap64 ((numB (ys.take 4) : Nat) : Int) = ((numB (ys.take 4) : Nat) : Int) := by
  have hb := (bigR_numB (ys.take 4).length (ys.take 4) rfl (fun x hx => h x (List.mem_of_mem_take hx))).2
  have h1 : 256 ^ (ys.take 4).length ≤ 256 ^ 4 := Nat.pow_le_pow_right (by omega) (by rw [List.length_take]; omega)
  have h2 : numB (ys.take 4) < 4294967296 := Nat.lt_of_lt_of_le hb h1
  unfold wrap64
  omega
def ndV (n : Nd) : Value := .agg #[.string n.path, .string n.data, .int .i64 n.ver, .int .i64 n.cver, .int .i64 n.cz, .int .i64 n.mz, .int .i64 n.pz]
def ndK (p d : ByteArray) (a : Nat → Int) (k : Nat) : Nd := ⟨p, d, if 0 < k then a 0 else 0, if 1 < k then a 1 else 0, if 2 < k then a 2 else 0, if 3 < k then a 3 else 0, if 4 < k then a 4 else 0⟩
def NdPost (w0 w : World) (k : Nat) (ys : List Int) (e : Ending) (w' : World) : Prop :=
  w.grownBy w' (some k) ∧ ((rdNd ys = none ∧ e = .panicked badChain) ∨ ∃ n r, rdNd ys = some (n, r) ∧ e = .returned (ndV n) ∧ RS w0 w' k r)

set_option maxHeartbeats 2000000 in
set_option maxRecDepth 100000 in
theorem nodeImage_any (w0 w : World) (k : Nat) (ys : List Int) (h : RS w0 w k ys) (hby : Byt ys) :
    Calls Tryd.prog 79 #[.pointer (some ⟨k, 0, none⟩)] w fun e w' => NdPost w0 w k ys e w' := by
  have hk := h.2.1
  have hk0 := h.1
  have HBY : Hid (Byt ys) := hby
  have HS : Hid (RS w0 w k ys) := h
  clear h hby
  have A1 : Hid (RS w0 ((w.alloc (.cells #[.string ⟨#[]⟩, .string ⟨#[]⟩, .int .i64 0, .int .i64 0, .int .i64 0, .int .i64 0, .int .i64 0] 102)).alloc (.cells #[.string ⟨#[]⟩, .string ⟨#[]⟩, .int .i64 0, .int .i64 0, .int .i64 0, .int .i64 0, .int .i64 0] 102)) k ys) := (HS.out.new ((Below.refl _ _).alloc (Nat.le_refl _) _)).new ((Below.refl _ _).alloc (Nat.le_refl _) _)
  have N2 : Hid (NB ((w.alloc (.cells #[.string ⟨#[]⟩, .string ⟨#[]⟩, .int .i64 0, .int .i64 0, .int .i64 0, .int .i64 0, .int .i64 0] 102)).alloc (.cells #[.string ⟨#[]⟩, .string ⟨#[]⟩, .int .i64 0, .int .i64 0, .int .i64 0, .int .i64 0, .int .i64 0] 102)) w.heap.size nd0) := (NB.new w nd0 _).turn (grown_alloc _ _ none) (by simp)
  have N3 : Hid (NB ((w.alloc (.cells #[.string ⟨#[]⟩, .string ⟨#[]⟩, .int .i64 0, .int .i64 0, .int .i64 0, .int .i64 0, .int .i64 0] 102)).alloc (.cells #[.string ⟨#[]⟩, .string ⟨#[]⟩, .int .i64 0, .int .i64 0, .int .i64 0, .int .i64 0, .int .i64 0] 102)) (w.heap.size + 1) nd0) := by
    have := NB.new (w.alloc (.cells #[.string ⟨#[]⟩, .string ⟨#[]⟩, .int .i64 0, .int .i64 0, .int .i64 0, .int .i64 0, .int .i64 0] 102)) nd0 102
    rw [show (w.alloc (.cells #[.string ⟨#[]⟩, .string ⟨#[]⟩, .int .i64 0, .int .i64 0, .int .i64 0, .int .i64 0, .int .i64 0] 102)).heap.size = w.heap.size + 1 by simp] at this
    exact this
  have G1 : Hid (w.grownBy ((w.alloc (.cells #[.string ⟨#[]⟩, .string ⟨#[]⟩, .int .i64 0, .int .i64 0, .int .i64 0, .int .i64 0, .int .i64 0] 102)).alloc (.cells #[.string ⟨#[]⟩, .string ⟨#[]⟩, .int .i64 0, .int .i64 0, .int .i64 0, .int .i64 0, .int .i64 0] 102)) (some k)) := (grown_alloc _ _ _).trans (grown_alloc _ _ _)
  go_enter Tryd.func79, Tryd.ntmps79
  go_wp2_with fail
  generalize ((w.alloc (.cells #[.string ⟨#[]⟩, .string ⟨#[]⟩, .int .i64 0, .int .i64 0, .int .i64 0, .int .i64 0, .int .i64 0] 102)).alloc (.cells #[.string ⟨#[]⟩, .string ⟨#[]⟩, .int .i64 0, .int .i64 0, .int .i64 0, .int .i64 0, .int .i64 0] 102)) = w1 at *
  refine (text_any w0 w1 k ys A1.out HBY.out).mono ?_
  rintro e w2 ⟨g2, hp⟩
  rcases hp with ⟨hp, rfl⟩ | ⟨p, r1, hp, rfl, hr2⟩
  · exact ⟨rfl, G1.out.trans g2, .inl ⟨by unfold rdNd; rw [hp], rfl⟩⟩
  have HP1 : Hid (rdT ys = some (p, r1)) := hp
  have HB1 : Hid (Byt r1) := (rdT_byt hp HBY.out).1
  have G2 : Hid (w.grownBy w2 (some k)) := G1.out.trans g2
  have N22 : Hid (NB w2 w.heap.size nd0) := N2.out.turn g2 (by simp; omega)
  have N32 : Hid (NB w2 (w.heap.size + 1) nd0) := N3.out.turn g2 (by simp; omega)
  have R2 : Hid (RS w0 w2 k r1) := hr2
  clear hp g2 hr2 N2 N3 A1 G1
  have d0 := N32.out.1.c0
  have f0 := N32.out.2 0
  have N33 : Hid (NB (w2.setCell ⟨w.heap.size + 1, 0, none⟩ (.string p)) (w.heap.size + 1) { nd0 with path := p }) := N32.out.put0 p
  have N23 : Hid (NB (w2.setCell ⟨w.heap.size + 1, 0, none⟩ (.string p)) w.heap.size nd0) := N22.out.other (by omega) _ _
  have R3 : Hid (RS w0 (w2.setCell ⟨w.heap.size + 1, 0, none⟩ (.string p)) k r1) := R2.out.setOther (by omega) (by omega) _ _
  have G3 : Hid (w.grownBy (w2.setCell ⟨w.heap.size + 1, 0, none⟩ (.string p)) (some k)) := grown_new G2.out (by omega) _ _
  go_wp2_with fail
  clear d0 f0 N32 N22 R2 G2
  generalize w2.setCell ⟨w.heap.size + 1, 0, none⟩ (.string p) = w3 at *
  refine (text_any w0 w3 k r1 R3.out HB1.out).mono ?_
  rintro e w4 ⟨g4, hp⟩
  rcases hp with ⟨hp, rfl⟩ | ⟨d, r2, hp, rfl, hr4⟩
  · refine ⟨rfl, G3.out.trans g4, .inl ⟨?_, rfl⟩⟩
    unfold rdNd; rw [HP1.out]; simp only; rw [hp]
  have HP2 : Hid (rdT r1 = some (d, r2)) := hp
  have HB2 : Hid (Byt r2) := (rdT_byt hp HB1.out).1
  have G4 : Hid (w.grownBy w4 (some k)) := G3.out.trans g4
  have N24 : Hid (NB w4 w.heap.size nd0) := N23.out.turn g4 (by simp; omega)
  have N34 : Hid (NB w4 (w.heap.size + 1) { nd0 with path := p }) := N33.out.turn g4 (by simp; omega)
  have R4 : Hid (RS w0 w4 k r2) := hr4
  clear hp g4 hr4 N23 N33 R3 G3
  have d1 := N34.out.1.c1
  have f1 := N34.out.2 1
  have N35 : Hid (NB (w4.setCell ⟨w.heap.size + 1, 1, none⟩ (.string d)) (w.heap.size + 1) (ndK p d (num4 r2) 0)) := N34.out.put1 d
  have N25 : Hid (NB (w4.setCell ⟨w.heap.size + 1, 1, none⟩ (.string d)) w.heap.size nd0) := N24.out.other (by omega) _ _
  have R5 : Hid (RS w0 (w4.setCell ⟨w.heap.size + 1, 1, none⟩ (.string d)) k r2) := R4.out.setOther (by omega) (by omega) _ _
  have G5 : Hid (w.grownBy (w4.setCell ⟨w.heap.size + 1, 1, none⟩ (.string d)) (some k)) := grown_new G4.out (by omega) _ _
  go_wp2_with fail
  clear d1 f1 N34 N24 R4 G4
  generalize w4.setCell ⟨w.heap.size + 1, 1, none⟩ (.string d) = w5 at *
  refine (stats_any w5 (w.heap.size + 1) 0).mono ?_
  rintro e w6 ⟨rfl, b6⟩
  have G6 : Hid (w.grownBy w6 (some k)) := G5.out.trans (grown_of b6 _)
  have N26 : Hid (NB w6 w.heap.size nd0) := N25.out.turn (grown_of b6 none) (by simp)
  have N36 : Hid (NB w6 (w.heap.size + 1) (ndK p d (num4 r2) 0)) := N35.out.turn (grown_of b6 none) (by simp)
  have R6 : Hid (RS w0 w6 k (r2.drop (4 * 0))) := by show RS _ _ _ _; rw [Nat.mul_zero, List.drop_zero]; exact R5.out.new b6
  clear b6 N25 N35 R5 G5
  unfold stP
  go_wp2
  go_loopw [15] (fun vi wr => ∃ i : Nat, i ≤ 5 ∧ vi = .int .i64 i ∧ Hid (4 * i ≤ r2.length) ∧ Hid (w.grownBy wr (some k)) ∧ Hid (NB wr w.heap.size nd0) ∧ Hid (NB wr (w.heap.size + 1) (ndK p d (num4 r2) i)) ∧ Hid (RS w0 wr k (r2.drop (4 * i)))) (fun i _ => 5 - (intOf i).toNat)
  case atStart => exact ⟨0, by omega, rfl, Nat.zero_le _, G6, N26, N36, R6⟩
  case round =>
    obtain ⟨i, hi, rfl, HL, HG, HN2, HN3, HR⟩ := hrel
    have hl := HL.out
    rcases (show i = 0 ∨ i = 1 ∨ i = 2 ∨ i = 3 ∨ i = 4 ∨ i = 5 by omega) with rfl | rfl | rfl | rfl | rfl | rfl
    · have hix := fun W => ix_0 W (w.heap.size + 1)
      go_wp2_with fail
      clear hix
      by_cases hlt : 4 ≤ r2.length
      rotate_left
      · refine (number_none w0 wr k 4 _ HR.out (by rw [List.length_drop]; omega)).mono ?_
        rintro e w7 ⟨rfl, rfl⟩
        refine ⟨rfl, HG.out, .inl ⟨?_, rfl⟩⟩
        unfold rdNd; rw [HP1.out]; simp only; rw [HP2.out]; simp only; rw [if_neg (by omega)]
      refine (number_any w0 wr k 4 _ HR.out (by rw [List.length_drop]; omega) (by omega) (by omega) (byt_drop HB2.out _)).mono ?_
      rintro e w7 ⟨rfl, r7, v7, q7, rfl⟩
      rw [wrap4 (byt_drop HB2.out _)]
      have g7 : wr.grownBy ((wr.setCell ⟨k, 0, none⟩ v7).drewN q7) (some k) := (grownBy_set _ _ _ _ _ (World.grownBy.refl _ _)).trans (grown_of (below_drewN' _ q7) _)
      have HG7 : Hid (w.grownBy ((wr.setCell ⟨k, 0, none⟩ v7).drewN q7) (some k)) := HG.out.trans g7
      have N27 : Hid (NB ((wr.setCell ⟨k, 0, none⟩ v7).drewN q7) w.heap.size nd0) := HN2.out.turn g7 (by simp; omega)
      have N37 : Hid (NB ((wr.setCell ⟨k, 0, none⟩ v7).drewN q7) (w.heap.size + 1) (ndK p d (num4 r2) 0)) := HN3.out.turn g7 (by simp; omega)
      have R7 : Hid (RS w0 ((wr.setCell ⟨k, 0, none⟩ v7).drewN q7) k (r2.drop (4 * 1))) := by rw [List.drop_drop] at r7; exact r7
      clear r7 g7 HG HN2 HN3 HR HL
      generalize (wr.setCell ⟨k, 0, none⟩ v7).drewN q7 = w7 at *
      have d0 := N37.out.1.c2
      have f0 := N37.out.2 2
      have N38 : Hid (NB (w7.setCell ⟨w.heap.size + 1, 2, none⟩ (.int .i64 (num4 r2 0))) (w.heap.size + 1) (ndK p d (num4 r2) 1)) := N37.out.put2 (num4 r2 0)
      have N28 : Hid (NB (w7.setCell ⟨w.heap.size + 1, 2, none⟩ (.int .i64 (num4 r2 0))) w.heap.size nd0) := N27.out.other (by omega) _ _
      have R8 : Hid (RS w0 (w7.setCell ⟨w.heap.size + 1, 2, none⟩ (.int .i64 (num4 r2 0))) k (r2.drop (4 * 1))) := R7.out.setOther (by omega) (by omega) _ _
      have G8 : Hid (w.grownBy (w7.setCell ⟨w.heap.size + 1, 2, none⟩ (.int .i64 (num4 r2 0))) (some k)) := grown_new HG7.out (by omega) _ _
      go_wp2
      exact ⟨⟨1, by omega, rfl, by show 4 * 1 ≤ _; omega, G8, N28, N38, R8⟩, by simp [intOf]⟩
    · have hix := fun W => ix_1 W (w.heap.size + 1)
      go_wp2_with fail
      clear hix
      by_cases hlt : 8 ≤ r2.length
      rotate_left
      · refine (number_none w0 wr k 4 _ HR.out (by rw [List.length_drop]; omega)).mono ?_
        rintro e w7 ⟨rfl, rfl⟩
        refine ⟨rfl, HG.out, .inl ⟨?_, rfl⟩⟩
        unfold rdNd; rw [HP1.out]; simp only; rw [HP2.out]; simp only; rw [if_neg (by omega)]
      refine (number_any w0 wr k 4 _ HR.out (by rw [List.length_drop]; omega) (by omega) (by omega) (byt_drop HB2.out _)).mono ?_
      rintro e w7 ⟨rfl, r7, v7, q7, rfl⟩
      rw [wrap4 (byt_drop HB2.out _)]
      have g7 : wr.grownBy ((wr.setCell ⟨k, 0, none⟩ v7).drewN q7) (some k) := (grownBy_set _ _ _ _ _ (World.grownBy.refl _ _)).trans (grown_of (below_drewN' _ q7) _)
      have HG7 : Hid (w.grownBy ((wr.setCell ⟨k, 0, none⟩ v7).drewN q7) (some k)) := HG.out.trans g7
      have N27 : Hid (NB ((wr.setCell ⟨k, 0, none⟩ v7).drewN q7) w.heap.size nd0) := HN2.out.turn g7 (by simp; omega)
      have N37 : Hid (NB ((wr.setCell ⟨k, 0, none⟩ v7).drewN q7) (w.heap.size + 1) (ndK p d (num4 r2) 1)) := HN3.out.turn g7 (by simp; omega)
      have R7 : Hid (RS w0 ((wr.setCell ⟨k, 0, none⟩ v7).drewN q7) k (r2.drop (4 * 2))) := by rw [List.drop_drop] at r7; exact r7
      clear r7 g7 HG HN2 HN3 HR HL
      generalize (wr.setCell ⟨k, 0, none⟩ v7).drewN q7 = w7 at *
      have d0 := N37.out.1.c3
      have f0 := N37.out.2 3
      have N38 : Hid (NB (w7.setCell ⟨w.heap.size + 1, 3, none⟩ (.int .i64 (num4 r2 1))) (w.heap.size + 1) (ndK p d (num4 r2) 2)) := N37.out.put3 (num4 r2 1)
      have N28 : Hid (NB (w7.setCell ⟨w.heap.size + 1, 3, none⟩ (.int .i64 (num4 r2 1))) w.heap.size nd0) := N27.out.other (by omega) _ _
      have R8 : Hid (RS w0 (w7.setCell ⟨w.heap.size + 1, 3, none⟩ (.int .i64 (num4 r2 1))) k (r2.drop (4 * 2))) := R7.out.setOther (by omega) (by omega) _ _
      have G8 : Hid (w.grownBy (w7.setCell ⟨w.heap.size + 1, 3, none⟩ (.int .i64 (num4 r2 1))) (some k)) := grown_new HG7.out (by omega) _ _
      go_wp2
      exact ⟨⟨2, by omega, rfl, by show 4 * 2 ≤ _; omega, G8, N28, N38, R8⟩, by simp [intOf]⟩
    · have hix := fun W => ix_2 W (w.heap.size + 1)
      go_wp2_with fail
      clear hix
      by_cases hlt : 12 ≤ r2.length
      rotate_left
      · refine (number_none w0 wr k 4 _ HR.out (by rw [List.length_drop]; omega)).mono ?_
        rintro e w7 ⟨rfl, rfl⟩
        refine ⟨rfl, HG.out, .inl ⟨?_, rfl⟩⟩
        unfold rdNd; rw [HP1.out]; simp only; rw [HP2.out]; simp only; rw [if_neg (by omega)]
      refine (number_any w0 wr k 4 _ HR.out (by rw [List.length_drop]; omega) (by omega) (by omega) (byt_drop HB2.out _)).mono ?_
      rintro e w7 ⟨rfl, r7, v7, q7, rfl⟩
      rw [wrap4 (byt_drop HB2.out _)]
      have g7 : wr.grownBy ((wr.setCell ⟨k, 0, none⟩ v7).drewN q7) (some k) := (grownBy_set _ _ _ _ _ (World.grownBy.refl _ _)).trans (grown_of (below_drewN' _ q7) _)
      have HG7 : Hid (w.grownBy ((wr.setCell ⟨k, 0, none⟩ v7).drewN q7) (some k)) := HG.out.trans g7
      have N27 : Hid (NB ((wr.setCell ⟨k, 0, none⟩ v7).drewN q7) w.heap.size nd0) := HN2.out.turn g7 (by simp; omega)
      have N37 : Hid (NB ((wr.setCell ⟨k, 0, none⟩ v7).drewN q7) (w.heap.size + 1) (ndK p d (num4 r2) 2)) := HN3.out.turn g7 (by simp; omega)
      have R7 : Hid (RS w0 ((wr.setCell ⟨k, 0, none⟩ v7).drewN q7) k (r2.drop (4 * 3))) := by rw [List.drop_drop] at r7; exact r7
      clear r7 g7 HG HN2 HN3 HR HL
      generalize (wr.setCell ⟨k, 0, none⟩ v7).drewN q7 = w7 at *
      have d0 := N37.out.1.c4
      have f0 := N37.out.2 4
      have N38 : Hid (NB (w7.setCell ⟨w.heap.size + 1, 4, none⟩ (.int .i64 (num4 r2 2))) (w.heap.size + 1) (ndK p d (num4 r2) 3)) := N37.out.put4 (num4 r2 2)
      have N28 : Hid (NB (w7.setCell ⟨w.heap.size + 1, 4, none⟩ (.int .i64 (num4 r2 2))) w.heap.size nd0) := N27.out.other (by omega) _ _
      have R8 : Hid (RS w0 (w7.setCell ⟨w.heap.size + 1, 4, none⟩ (.int .i64 (num4 r2 2))) k (r2.drop (4 * 3))) := R7.out.setOther (by omega) (by omega) _ _
      have G8 : Hid (w.grownBy (w7.setCell ⟨w.heap.size + 1, 4, none⟩ (.int .i64 (num4 r2 2))) (some k)) := grown_new HG7.out (by omega) _ _
      go_wp2
      exact ⟨⟨3, by omega, rfl, by show 4 * 3 ≤ _; omega, G8, N28, N38, R8⟩, by simp [intOf]⟩
    · have hix := fun W => ix_3 W (w.heap.size + 1)
      go_wp2_with fail
      clear hix
      by_cases hlt : 16 ≤ r2.length
      rotate_left
      · refine (number_none w0 wr k 4 _ HR.out (by rw [List.length_drop]; omega)).mono ?_
        rintro e w7 ⟨rfl, rfl⟩
        refine ⟨rfl, HG.out, .inl ⟨?_, rfl⟩⟩
        unfold rdNd; rw [HP1.out]; simp only; rw [HP2.out]; simp only; rw [if_neg (by omega)]
      refine (number_any w0 wr k 4 _ HR.out (by rw [List.length_drop]; omega) (by omega) (by omega) (byt_drop HB2.out _)).mono ?_
      rintro e w7 ⟨rfl, r7, v7, q7, rfl⟩
      rw [wrap4 (byt_drop HB2.out _)]
      have g7 : wr.grownBy ((wr.setCell ⟨k, 0, none⟩ v7).drewN q7) (some k) := (grownBy_set _ _ _ _ _ (World.grownBy.refl _ _)).trans (grown_of (below_drewN' _ q7) _)
      have HG7 : Hid (w.grownBy ((wr.setCell ⟨k, 0, none⟩ v7).drewN q7) (some k)) := HG.out.trans g7
      have N27 : Hid (NB ((wr.setCell ⟨k, 0, none⟩ v7).drewN q7) w.heap.size nd0) := HN2.out.turn g7 (by simp; omega)
      have N37 : Hid (NB ((wr.setCell ⟨k, 0, none⟩ v7).drewN q7) (w.heap.size + 1) (ndK p d (num4 r2) 3)) := HN3.out.turn g7 (by simp; omega)
      have R7 : Hid (RS w0 ((wr.setCell ⟨k, 0, none⟩ v7).drewN q7) k (r2.drop (4 * 4))) := by rw [List.drop_drop] at r7; exact r7
      clear r7 g7 HG HN2 HN3 HR HL
      generalize (wr.setCell ⟨k, 0, none⟩ v7).drewN q7 = w7 at *
      have d0 := N37.out.1.c5
      have f0 := N37.out.2 5
      have N38 : Hid (NB (w7.setCell ⟨w.heap.size + 1, 5, none⟩ (.int .i64 (num4 r2 3))) (w.heap.size + 1) (ndK p d (num4 r2) 4)) := N37.out.put5 (num4 r2 3)
      have N28 : Hid (NB (w7.setCell ⟨w.heap.size + 1, 5, none⟩ (.int .i64 (num4 r2 3))) w.heap.size nd0) := N27.out.other (by omega) _ _
      have R8 : Hid (RS w0 (w7.setCell ⟨w.heap.size + 1, 5, none⟩ (.int .i64 (num4 r2 3))) k (r2.drop (4 * 4))) := R7.out.setOther (by omega) (by omega) _ _
      have G8 : Hid (w.grownBy (w7.setCell ⟨w.heap.size + 1, 5, none⟩ (.int .i64 (num4 r2 3))) (some k)) := grown_new HG7.out (by omega) _ _
      go_wp2
      exact ⟨⟨4, by omega, rfl, by show 4 * 4 ≤ _; omega, G8, N28, N38, R8⟩, by simp [intOf]⟩
    · have hix := fun W => ix_4 W (w.heap.size + 1)
      go_wp2_with fail
      clear hix
      by_cases hlt : 20 ≤ r2.length
      rotate_left
      · refine (number_none w0 wr k 4 _ HR.out (by rw [List.length_drop]; omega)).mono ?_
        rintro e w7 ⟨rfl, rfl⟩
        refine ⟨rfl, HG.out, .inl ⟨?_, rfl⟩⟩
        unfold rdNd; rw [HP1.out]; simp only; rw [HP2.out]; simp only; rw [if_neg (by omega)]
      refine (number_any w0 wr k 4 _ HR.out (by rw [List.length_drop]; omega) (by omega) (by omega) (byt_drop HB2.out _)).mono ?_
      rintro e w7 ⟨rfl, r7, v7, q7, rfl⟩
      rw [wrap4 (byt_drop HB2.out _)]
      have g7 : wr.grownBy ((wr.setCell ⟨k, 0, none⟩ v7).drewN q7) (some k) := (grownBy_set _ _ _ _ _ (World.grownBy.refl _ _)).trans (grown_of (below_drewN' _ q7) _)
      have HG7 : Hid (w.grownBy ((wr.setCell ⟨k, 0, none⟩ v7).drewN q7) (some k)) := HG.out.trans g7
      have N27 : Hid (NB ((wr.setCell ⟨k, 0, none⟩ v7).drewN q7) w.heap.size nd0) := HN2.out.turn g7 (by simp; omega)
      have N37 : Hid (NB ((wr.setCell ⟨k, 0, none⟩ v7).drewN q7) (w.heap.size + 1) (ndK p d (num4 r2) 4)) := HN3.out.turn g7 (by simp; omega)
      have R7 : Hid (RS w0 ((wr.setCell ⟨k, 0, none⟩ v7).drewN q7) k (r2.drop (4 * 5))) := by rw [List.drop_drop] at r7; exact r7
      clear r7 g7 HG HN2 HN3 HR HL
      generalize (wr.setCell ⟨k, 0, none⟩ v7).drewN q7 = w7 at *
      have d0 := N37.out.1.c6
      have f0 := N37.out.2 6
      have N38 : Hid (NB (w7.setCell ⟨w.heap.size + 1, 6, none⟩ (.int .i64 (num4 r2 4))) (w.heap.size + 1) (ndK p d (num4 r2) 5)) := N37.out.put6 (num4 r2 4)
      have N28 : Hid (NB (w7.setCell ⟨w.heap.size + 1, 6, none⟩ (.int .i64 (num4 r2 4))) w.heap.size nd0) := N27.out.other (by omega) _ _
      have R8 : Hid (RS w0 (w7.setCell ⟨w.heap.size + 1, 6, none⟩ (.int .i64 (num4 r2 4))) k (r2.drop (4 * 5))) := R7.out.setOther (by omega) (by omega) _ _
      have G8 : Hid (w.grownBy (w7.setCell ⟨w.heap.size + 1, 6, none⟩ (.int .i64 (num4 r2 4))) (some k)) := grown_new HG7.out (by omega) _ _
      go_wp2
      exact ⟨⟨5, by omega, rfl, by show 4 * 5 ≤ _; omega, G8, N28, N38, R8⟩, by simp [intOf]⟩
    · obtain ⟨⟨-, y0, y1, y2, y3, y4, y5, y6⟩, -⟩ := HN3.out
      obtain ⟨⟨-, x0, x1, x2, x3, x4, x5, x6⟩, xf⟩ := HN2.out
      have hl20 : 20 ≤ r2.length := by omega
      have HRD : Hid (rdNd ys = some (ndK p d (num4 r2) 5, r2.drop 20)) := by
        show _ = _
        unfold rdNd; rw [HP1.out]; simp only; rw [HP2.out]; simp only; rw [if_pos hl20]
        rfl
      obtain ⟨nn, hnn⟩ : ∃ nn, nn = ndK p d (num4 r2) 5 := ⟨_, rfl⟩
      rw [← hnn] at y0 y1 y2 y3 y4 y5 y6 HRD
      clear hnn
      go_wp2
      refine bodyPost_ret (v := ndV nn) (by simp [results, Tryd.results79, go_sem, ndV, x0, x1, x2, x3, x4, x5, x6]) rfl ⟨?_, .inr ⟨nn, r2.drop 20, HRD.out, rfl, ?_⟩⟩
      · iterate 7 refine grown_new ?_ (Nat.le_refl _) _ _
        exact HG.out
      · iterate 7 refine RS.setOther ?_ (by omega) (by omega) _ _
        exact HR.out

end Go.Proofs.YtgjenbgclpmjmaaDoor

namespace Go.Proofs.YtgjenbgclpmjmaaDoor
open Go.RowKit

theorem assert_bad (W : World) (v : Value) : (Instr.typeAssert (.iface 135 v) 20 135 true).run Tryd.prog W = .ok (.tuple #[v, .bool true]) W := by kernel_rfl

set_option maxHeartbeats 400000 in
theorem end_nil (w : World) : Calls Tryd.prog 72 #[.nilIface] w fun e w' => e = .returned (.tuple #[]) ∧ w' = w := by
  go_enter Tryd.func72, Tryd.ntmps72
  go_wp2
  exact bodyPost_ret (results_none rfl _ _ _) rfl ⟨rfl, rfl⟩

set_option maxHeartbeats 400000 in
theorem end_bad (w : World) : Calls Tryd.prog 72 #[.iface 135 (.agg #[])] w fun e w' => e = .returned (.tuple #[]) ∧ Below w.heap.size w w' := by
  have ha : ∀ (W : World) (v : Value), (Instr.typeAssert (.iface 135 v) 20 135 true).run Tryd.prog W = .ok (.tuple #[v, .bool true]) W := fun W v => assert_bad W v
  go_enter Tryd.func72, Tryd.ntmps72
  go_wp2
  go_end0
  exact ⟨rfl, (Below.refl _ _).alloc (Nat.le_refl _) _⟩

theorem catchT_bad (older : List PanicEntry) (w : World) :
    CallsD Tryd.prog 78 #[] (.panicking ({ v := .iface 135 (.agg #[]), recovered := false } :: older)) w fun e u' w' =>
      e = .returned (.tuple #[]) ∧ u' = .panicking ({ v := .iface 135 (.agg #[]), recovered := true } :: older) ∧ Below w.heap.size w w' := by
  refine callsD_of_wpS Tryd.func78 rfl fun c₀ cs hu => ?_
  apply wpS_region
  simp [wpOpsS, go_sem, recoverD, hu, Tryd.ntmps78]
  refine (end_bad w).mono ?_
  rintro e w' ⟨rfl, bw⟩
  simp_all [bodyPostS, results, Tryd.results78]
theorem catchT_idle (w : World) :
    CallsD Tryd.prog 78 #[] .returning w fun e u' w' => e = .returned (.tuple #[]) ∧ u' = .returning ∧ w' = w := by
  refine callsD_of_wpS Tryd.func78 rfl fun c₀ cs hu => ?_
  apply wpS_region
  simp [wpOpsS, go_sem, recoverD, hu, Tryd.ntmps78]
  refine (end_nil w).mono ?_
  rintro e w' ⟨rfl, rfl⟩
  cases c₀
  simp_all [bodyPostS, results, Tryd.results78]

theorem catchX_bad (older : List PanicEntry) (w : World) :
    CallsD Tryd.prog 71 #[] (.panicking ({ v := .iface 135 (.agg #[]), recovered := false } :: older)) w fun e u' w' =>
      e = .returned (.tuple #[]) ∧ u' = .panicking ({ v := .iface 135 (.agg #[]), recovered := true } :: older) ∧ Below w.heap.size w w' := by
  refine callsD_of_wpS Tryd.func71 rfl fun c₀ cs hu => ?_
  apply wpS_region
  simp [wpOpsS, go_sem, recoverD, hu, Tryd.ntmps71]
  refine (end_bad w).mono ?_
  rintro e w' ⟨rfl, bw⟩
  simp_all [bodyPostS, results, Tryd.results71]
theorem catchX_idle (w : World) :
    CallsD Tryd.prog 71 #[] .returning w fun e u' w' => e = .returned (.tuple #[]) ∧ u' = .returning ∧ w' = w := by
  refine callsD_of_wpS Tryd.func71 rfl fun c₀ cs hu => ?_
  apply wpS_region
  simp [wpOpsS, go_sem, recoverD, hu, Tryd.ntmps71]
  refine (end_nil w).mono ?_
  rintro e w' ⟨rfl, rfl⟩
  cases c₀
  simp_all [bodyPostS, results, Tryd.results71]

end Go.Proofs.YtgjenbgclpmjmaaDoor

