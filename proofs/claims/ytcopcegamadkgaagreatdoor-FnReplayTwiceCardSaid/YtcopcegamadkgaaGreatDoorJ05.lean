import Derived.Test.YtcopcegamadkgaaGreatDoorJ01
import Derived.Test.YtcopcegamadkgaaGreatDoorJ03
import Derived.Test.YtcopcegamadkgaaGreatDoorJ04
import Derived.Test.YtcopcegamadkgaaGreatDoorJ02
import Derived.Laws.Cover1
import Derived.Deep.AppendLies
set_option maxRecDepth 100000
set_option maxHeartbeats 16000000
namespace Go.Proofs.YtcopcegamadkgaaGreatDoor
open Go.RowKit
structure Ef where
 del : Bool
 nd : Nd
def efL (e : Ef) : List Value := [.bool e.del, .string e.nd.path, .string e.nd.data, .int .i64 e.nd.ver, .int .i64 e.nd.cver, .int .i64 e.nd.cz, .int .i64 e.nd.mz, .int .i64 e.nd.pz]
def ef0 : Ef := ⟨false, nd0⟩
def eAt (ns : List Ef) (i : Nat) : Ef := ns.getD i ef0
theorem eAt_get {ns : List Ef} {i : Nat} (h : i < ns.length) : eAt ns i = ns[i] := by unfold eAt; simp [List.getD, h]
structure CellsE (w : World) (b p : Nat) (n : Ef) : Prop where
 c0 : w.cell? ⟨b, p, none⟩ = some (.bool n.del)
 c1 : w.cell? ⟨b, p + 1, none⟩ = some (.string n.nd.path)
 c2 : w.cell? ⟨b, p + 2, none⟩ = some (.string n.nd.data)
 c3 : w.cell? ⟨b, p + 3, none⟩ = some (.int .i64 n.nd.ver)
 c4 : w.cell? ⟨b, p + 4, none⟩ = some (.int .i64 n.nd.cver)
 c5 : w.cell? ⟨b, p + 5, none⟩ = some (.int .i64 n.nd.cz)
 c6 : w.cell? ⟨b, p + 6, none⟩ = some (.int .i64 n.nd.mz)
 c7 : w.cell? ⟨b, p + 7, none⟩ = some (.int .i64 n.nd.pz)
theorem CellsE.below {w w' : World} {m b p : Nat} {n : Ef} (h : CellsE w b p n) (hb : Below m w w') (hl : b < m) : CellsE w' b p n :=
 ⟨(hb.cell (p := ⟨b, _, none⟩) hl).trans h.c0, (hb.cell (p := ⟨b, _, none⟩) hl).trans h.c1, (hb.cell (p := ⟨b, _, none⟩) hl).trans h.c2, (hb.cell (p := ⟨b, _, none⟩) hl).trans h.c3, (hb.cell (p := ⟨b, _, none⟩) hl).trans h.c4, (hb.cell (p := ⟨b, _, none⟩) hl).trans h.c5, (hb.cell (p := ⟨b, _, none⟩) hl).trans h.c6, (hb.cell (p := ⟨b, _, none⟩) hl).trans h.c7⟩
def RdE (w : World) (v : Value) (ns : List Ef) : Prop :=
 ∃ ao cap, v = .slice ao ns.length cap ∧ ns.length ≤ cap ∧ cap ≤ maxLen ∧
  (ns = [] ∨ ∃ b off, ao = some ⟨b, off, none⟩ ∧ b < w.heap.size ∧ ∀ i, i < ns.length → CellsE w b (off + i * 8) (eAt ns i))
theorem RdE.len {w : World} {v : Value} {ns : List Ef} (h : RdE w v ns) : ∃ ao cap, v = .slice ao ns.length cap ∧ ns.length ≤ cap ∧ cap ≤ maxLen := by
 obtain ⟨ao, cap, h0, h1, h2, _⟩ := h
 exact ⟨ao, cap, h0, h1, h2⟩
theorem RdE.below {w w' : World} {v : Value} {ns : List Ef} (h : RdE w v ns) (hb : Below w.heap.size w w') : RdE w' v ns := by
 obtain ⟨ao, cap, rfl, h1, h2, h3⟩ := h
 refine ⟨ao, cap, rfl, h1, h2, ?_⟩
 rcases h3 with h3 | ⟨b, off, rfl, hlt, hc⟩
 · exact .inl h3
 · exact .inr ⟨b, off, rfl, Nat.lt_of_lt_of_le hlt hb.size, fun i hi => (hc i hi).below hb hlt⟩
def erow (ns : List Ef) : List Value := ns.flatMap efL
theorem erow_cons (n : Ef) (ns : List Ef) : erow (n :: ns) = efL n ++ erow ns := by simp [erow]
theorem erow_append (ns ms : List Ef) : erow (ns ++ ms) = erow ns ++ erow ms := by simp [erow]
theorem erow_get : ∀ (ns : List Ef) (i j : Nat), i < ns.length → j < 8 → (erow ns)[i * 8 + j]? = (efL (eAt ns i))[j]?
 | [], i, j, h, _ => by simp at h
 | n :: ns, 0, j, _, hj => by
  rw [erow_cons, Nat.zero_mul, Nat.zero_add, List.getElem?_append_left (by show j < 8; exact hj)]; rfl
 | n :: ns, i + 1, j, h, hj => by
  rw [erow_cons, List.getElem?_append_right (by show 8 ≤ _; omega), show (i + 1) * 8 + j - (efL n).length = i * 8 + j by show (i + 1) * 8 + j - 8 = _; omega, erow_get ns i j (by simpa using h) hj]
  rfl
def OwnE (e : TypeId) (w : World) (lo : Nat) (v : Value) (ns : List Ef) : Prop := w.ownsRow lo e 8 v ns.length (erow ns)
theorem OwnE.rd {e : TypeId} {w : World} {lo : Nat} {v : Value} {ns : List Ef} (h : OwnE e w lo v ns) : RdE w v ns := by
 rcases h.2 with ⟨rfl, h0⟩ | ⟨g, cap, cur, rfl, hb, hg, hn, hm, hs, ht⟩
 · have : ns = [] := List.eq_nil_of_length_eq_zero h0
   subst this
   exact ⟨none, 0, rfl, Nat.le_refl _, Nat.zero_le _, .inl rfl⟩
 · refine ⟨_, cap, rfl, hn, hm, .inr ⟨g, 0, rfl, (Array.getElem?_eq_some_iff.1 hg).1, fun i hi => ?_⟩⟩
   have c : ∀ j, j < 8 → w.cell? ⟨g, 0 + (i * 8 + j), none⟩ = (efL (eAt ns i))[j]? := fun j hj => by
    have hh := erow_get ns i j hi hj
    have h9 : (efL (eAt ns i))[j]? = some ((efL (eAt ns i)).getD j undef) := by
     match j, hj with
     | 0, _ => rfl
     | 1, _ => rfl
     | 2, _ => rfl
     | 3, _ => rfl
     | 4, _ => rfl
     | 5, _ => rfl
     | 6, _ => rfl
     | 7, _ => rfl
    rw [h9] at hh
    have := World.ownsRow.cells h (g := g) rfl (i * 8 + j) _ hh
    rw [Addr.add_lit] at this
    rw [this, h9]
   exact ⟨c 0 (by omega), c 1 (by omega), c 2 (by omega), c 3 (by omega), c 4 (by omega), c 5 (by omega), c 6 (by omega), c 7 (by omega)⟩
theorem OwnE.below {e : TypeId} {w w' : World} {lo : Nat} {v : Value} {ns : List Ef} (h : OwnE e w lo v ns) (hb : Below w.heap.size w w') : OwnE e w' lo v ns := by
 refine ⟨h.1, ?_⟩
 rcases h.2 with hn | ⟨g, cap, cur, rfl, hbg, hgg, rest⟩
 · exact .inl hn
 · exact .inr ⟨g, cap, cur, rfl, hbg, by rw [hb.block g (Array.getElem?_eq_some_iff.1 hgg).1]; exact hgg, rest⟩
theorem OwnE.mono {e : TypeId} {w : World} {lo lo' : Nat} {v : Value} {ns : List Ef} (h : OwnE e w lo v ns) (hl : lo' ≤ lo) : OwnE e w lo' v ns := by
 refine ⟨h.1, ?_⟩
 rcases h.2 with hn | ⟨g, cap, cur, rfl, hbg, rest⟩
 · exact .inl hn
 · exact .inr ⟨g, cap, cur, rfl, Nat.le_trans hl hbg, rest⟩
theorem OwnE.slice {e : TypeId} {w : World} {lo : Nat} {v : Value} {ns : List Ef} (h : OwnE e w lo v ns) : ∃ a c, v = .slice a ns.length c := by
 obtain ⟨a, c, h0, _⟩ := h.rd.len
 exact ⟨a, c, h0⟩
theorem Tryz.infoE : (Tryz.prog.info? 139).map (fun i => (i.zero, i.size, i.bytes)) = some (some (.agg #[.bool false, .string ByteArray.empty, .string ByteArray.empty, .int .i64 0, .int .i64 0, .int .i64 0, .int .i64 0, .int .i64 0]), 8, 80) := by kernel_rfl
theorem OwnE.setBelow {e : TypeId} {w : World} {lo : Nat} {v : Value} {ns : List Ef} (h : OwnE e w lo v ns) {a : Addr} (ha : a.block < lo) (u : Value) : OwnE e (w.setCell a u) lo v ns := ownsRow_setCell_below h ha u
def blank (n : Nd) : Bool := (n.data.toList == []) && (n.ver == 0) && (n.cver == 0) && (n.cz == 0) && (n.mz == 0) && (n.pz == 0)
def okEf (e : Ef) : Bool := okNd e.nd && (!e.del || blank e.nd)
theorem okEf_false {e : Ef} (h : e.del = false) : okEf e = okNd e.nd := by unfold okEf; rw [h]; simp
theorem okEf_true {e : Ef} (h : e.del = true) : okEf e = (okNd e.nd && blank e.nd) := by unfold okEf; rw [h]; simp
theorem validEffect_any (w : World) (n : Ef) (hd : n.nd.data.size ≤ 1048576) :
    Calls Tryz.prog 146 #[.agg #[.bool n.del, .string n.nd.path, .string n.nd.data, .int .i64 n.nd.ver, .int .i64 n.nd.cver, .int .i64 n.nd.cz, .int .i64 n.nd.mz, .int .i64 n.nd.pz]] w fun e w' => e = .returned (.bool (okEf n)) ∧ Below w.heap.size w w' := by
 have B0 : Hid (∀ o, Below w.heap.size w (w.alloc o)) := fun o => (Below.refl _ _).alloc (Nat.le_refl _) _
 cases hdel : n.del with
 | false =>
  have HE : Hid (okEf n = okNd n.nd) := okEf_false hdel
  go_enter Tryz.func146, Tryz.ntmps146
  go_wp2_with fail
  refine (implNode_any _ n.nd hd).mono ?_
  rintro e w1 ⟨rfl, b1⟩
  have B1 : Hid (Below w.heap.size w w1) := (B0.out _).trans (b1.mono (by simp))
  clear b1
  go_wp2
  go_ret
  exact ⟨ret_b HE.out.symm, B1.out⟩
 | true =>
  have HE : Hid (okEf n = (okNd n.nd && blank n.nd)) := okEf_true hdel
  clear hdel
  have hpp : (n.nd.path.toList == n.nd.path.toList) = true := by simp
  cases h_dat : (n.nd.data.toList == []) with
  | false =>
   have HN : Hid (okEf n = false) := by show _ = _; rw [HE.out]; unfold blank; rw [h_dat]; simp
   go_enter Tryz.func146, Tryz.ntmps146
   go_wp2_with fail
   go_ret
   exact ⟨ret_b HN.out.symm, B0.out _⟩
  | true =>
   cases h_ver : (n.nd.ver == 0) with
   | false =>
    have HN : Hid (okEf n = false) := by show _ = _; rw [HE.out]; unfold blank; rw [h_ver]; simp
    go_enter Tryz.func146, Tryz.ntmps146
    go_wp2_with fail
    go_ret
    exact ⟨ret_b HN.out.symm, B0.out _⟩
   | true =>
    cases h_cver : (n.nd.cver == 0) with
    | false =>
     have HN : Hid (okEf n = false) := by show _ = _; rw [HE.out]; unfold blank; rw [h_cver]; simp
     go_enter Tryz.func146, Tryz.ntmps146
     go_wp2_with fail
     go_ret
     exact ⟨ret_b HN.out.symm, B0.out _⟩
    | true =>
     cases h_cz : (n.nd.cz == 0) with
     | false =>
      have HN : Hid (okEf n = false) := by show _ = _; rw [HE.out]; unfold blank; rw [h_cz]; simp
      go_enter Tryz.func146, Tryz.ntmps146
      go_wp2_with fail
      go_ret
      exact ⟨ret_b HN.out.symm, B0.out _⟩
     | true =>
      cases h_mz : (n.nd.mz == 0) with
      | false =>
       have HN : Hid (okEf n = false) := by show _ = _; rw [HE.out]; unfold blank; rw [h_mz]; simp
       go_enter Tryz.func146, Tryz.ntmps146
       go_wp2_with fail
       go_ret
       exact ⟨ret_b HN.out.symm, B0.out _⟩
      | true =>
       cases h_pz : (n.nd.pz == 0) with
       | false =>
        have HN : Hid (okEf n = false) := by show _ = _; rw [HE.out]; unfold blank; rw [h_pz]; simp
        go_enter Tryz.func146, Tryz.ntmps146
        go_wp2_with fail
        go_ret
        exact ⟨ret_b HN.out.symm, B0.out _⟩
       | true =>
        have HY : Hid (okEf n = okNd n.nd) := by show _ = _; rw [HE.out]; unfold blank; rw [h_dat, h_ver, h_cver, h_cz, h_mz, h_pz]; simp
        go_enter Tryz.func146, Tryz.ntmps146
        go_wp2_with fail
        refine (implNode_any _ n.nd hd).mono ?_
        rintro e w1 ⟨rfl, b1⟩
        have B1 : Hid (Below w.heap.size w w1) := (B0.out _).trans (b1.mono (by simp))
        clear b1
        go_wp2
        go_ret
        exact ⟨ret_b HY.out.symm, B1.out⟩
structure BoxE (w : World) (B : Nat) (n : Ef) : Prop where
 lt : B < w.heap.size
 c0 : w.cell? ⟨B, 0, none⟩ = some (.bool n.del)
 c1 : w.cell? ⟨B, 1, none⟩ = some (.string n.nd.path)
 c2 : w.cell? ⟨B, 2, none⟩ = some (.string n.nd.data)
 c3 : w.cell? ⟨B, 3, none⟩ = some (.int .i64 n.nd.ver)
 c4 : w.cell? ⟨B, 4, none⟩ = some (.int .i64 n.nd.cver)
 c5 : w.cell? ⟨B, 5, none⟩ = some (.int .i64 n.nd.cz)
 c6 : w.cell? ⟨B, 6, none⟩ = some (.int .i64 n.nd.mz)
 c7 : w.cell? ⟨B, 7, none⟩ = some (.int .i64 n.nd.pz)
theorem BoxE.new (w : World) (n : Ef) (t : TypeId) : BoxE (w.alloc (.cells #[.bool n.del, .string n.nd.path, .string n.nd.data, .int .i64 n.nd.ver, .int .i64 n.nd.cver, .int .i64 n.nd.cz, .int .i64 n.nd.mz, .int .i64 n.nd.pz] t)) w.heap.size n :=
 ⟨by simp, by simp, by simp, by simp, by simp, by simp, by simp, by simp, by simp⟩
theorem BoxE.below {w w' : World} {B : Nat} {n : Ef} (h : BoxE w B n) (hb : Below w.heap.size w w') : BoxE w' B n :=
 ⟨Nat.lt_of_lt_of_le h.lt hb.size, (hb.cell (p := ⟨B, _, none⟩) h.lt).trans h.c0, (hb.cell (p := ⟨B, _, none⟩) h.lt).trans h.c1, (hb.cell (p := ⟨B, _, none⟩) h.lt).trans h.c2, (hb.cell (p := ⟨B, _, none⟩) h.lt).trans h.c3, (hb.cell (p := ⟨B, _, none⟩) h.lt).trans h.c4, (hb.cell (p := ⟨B, _, none⟩) h.lt).trans h.c5, (hb.cell (p := ⟨B, _, none⟩) h.lt).trans h.c6, (hb.cell (p := ⟨B, _, none⟩) h.lt).trans h.c7⟩
theorem BoxE.all {w : World} {B : Nat} {n : Ef} (h : BoxE w B n) : w.cell? ⟨B, 0, none⟩ = some (.bool n.del) ∧ w.cell? ⟨B, 1, none⟩ = some (.string n.nd.path) ∧ w.cell? ⟨B, 2, none⟩ = some (.string n.nd.data) ∧ w.cell? ⟨B, 3, none⟩ = some (.int .i64 n.nd.ver) ∧ w.cell? ⟨B, 4, none⟩ = some (.int .i64 n.nd.cver) ∧ w.cell? ⟨B, 5, none⟩ = some (.int .i64 n.nd.cz) ∧ w.cell? ⟨B, 6, none⟩ = some (.int .i64 n.nd.mz) ∧ w.cell? ⟨B, 7, none⟩ = some (.int .i64 n.nd.pz) := ⟨h.c0, h.c1, h.c2, h.c3, h.c4, h.c5, h.c6, h.c7⟩
def okEAt (ns : List Ef) (k : Nat) : Bool := okEf (eAt ns k) && (decide (k = 0) || ltP (eAt ns (k - 1)).nd.path (eAt ns k).nd.path)
def okEs (ns : List Ef) : Bool := (List.range ns.length).all (okEAt ns)
def okTxn (z : Int) (ns : List Ef) : Bool := decide (1 ≤ z) && decide (z ≤ 2147483647) && decide (ns.length ≤ 1000) && okEs ns
theorem es_no {ns : List Ef} {k : Nat} (h : k < ns.length) (hn : okEAt ns k = false) : okEs ns = false := by
 unfold okEs; rw [List.all_eq_false]; exact ⟨k, List.mem_range.2 h, by rw [hn]; simp⟩
theorem es_yes {ns : List Ef} (h : ∀ k, k < ns.length → okEAt ns k = true) : okEs ns = true := by
 unfold okEs; rw [List.all_eq_true]; exact fun k hk => h k (List.mem_range.1 hk)
theorem okEAt_zero (ns : List Ef) : okEAt ns 0 = okEf (eAt ns 0) := by unfold okEAt; simp
theorem okEAt_succ (ns : List Ef) (j : Nat) : okEAt ns (j + 1) = (okEf (eAt ns (j + 1)) && ltP (eAt ns j).nd.path (eAt ns (j + 1)).nd.path) := by unfold okEAt; simp
theorem okEf_nd {n : Ef} (h : okNd n.nd = false) : okEf n = false := by unfold okEf; rw [h]; rfl
theorem implTxn_row (w : World) (z : Int) (b o n cap : Nat) (ns : List Ef) (hz1 : ¬ z < 1) (hz2 : ¬ 2147483647 < z) (hp : ns.length = n) (hn : n ≤ 1000) (hb : b < w.heap.size) (hsz : ∀ i, (eAt ns i).nd.path.size ≤ 1048576 ∧ (eAt ns i).nd.data.size ≤ 1048576)
    (hc : ∀ i, i < n → CellsE w b (o + i * 8) (eAt ns i)) :
    Calls Tryz.prog 97 #[.agg #[.int .i64 z, .slice (some ⟨b, o, none⟩) n cap]] w fun e w' => e = .returned (.bool (okEs ns)) ∧ Below w.heap.size w w' := by
 have HC : Hid (∀ i, i < n → CellsE w b (o + i * 8) (eAt ns i)) := hc
 have HP : Hid (ns.length = n) := hp
 have HZ : Hid (∀ i, (eAt ns i).nd.path.size ≤ 1048576 ∧ (eAt ns i).nd.data.size ≤ 1048576) := hsz
 have h1I : ¬ (1000 : Int) < (n : Int) := by omega
 clear hc hp hsz
 have B0 : Hid (Below w.heap.size w (w.alloc (.cells #[.int .i64 z, .slice (some ⟨b, o, none⟩) n cap] 78))) := (Below.refl _ _).alloc (Nat.le_refl _) _
 have c01 : Hid ((w.alloc (.cells #[.int .i64 z, .slice (some ⟨b, o, none⟩) n cap] 78)).cell? ⟨w.heap.size, 1, none⟩ = some (.slice (some ⟨b, o, none⟩) n cap)) := by show _ = _; simp
 have z0 : w.heap.size < (w.alloc (.cells #[.int .i64 z, .slice (some ⟨b, o, none⟩) n cap] 78)).heap.size := by simp
 go_enter Tryz.func97, Tryz.ntmps97
 go_wp2
 generalize w.alloc (.cells #[.int .i64 z, .slice (some ⟨b, o, none⟩) n cap] 78) = w0 at *
 go_loopw [18] (fun i wr => ∃ k : Nat, k ≤ n ∧ i = .int .i64 k ∧ Hid (∀ t, t < k → okEAt ns t = true) ∧ Hid (Below w0.heap.size w0 wr)) (fun i _ => n - (intOf i).toNat)
 case atStart => exact ⟨0, Nat.zero_le _, rfl, (fun t ht => by omega), Below.refl _ _⟩
 case round =>
  obtain ⟨k, hk, rfl, HA, HG⟩ := hrel
  have HG0 := hd9 (B0.out.trans (HG.out.mono (by omega)))
  have cT := (HG.out.cell (p := ⟨w.heap.size, 1, none⟩) z0).trans c01.out
  by_cases hlt : k < n
  · have hltI : (k : Int) < (n : Int) := by omega
    have g0 : (0 : Int) ≤ (k : Int) := by omega
    have HLT : Hid (k < ns.length) := by rw [HP.out]; exact hlt
    obtain ⟨c0, c1, c2, c3, c4, c5, c6, c7⟩ := (HC.out k hlt).below HG0.out hb
    have XN : Hid (BoxE (wr.alloc (.cells #[.bool (eAt ns k).del, .string (eAt ns k).nd.path, .string (eAt ns k).nd.data, .int .i64 (eAt ns k).nd.ver, .int .i64 (eAt ns k).nd.cver, .int .i64 (eAt ns k).nd.cz, .int .i64 (eAt ns k).nd.mz, .int .i64 (eAt ns k).nd.pz] 139)) wr.heap.size (eAt ns k)) := BoxE.new _ _ _
    have BN : Hid (Below wr.heap.size wr (wr.alloc (.cells #[.bool (eAt ns k).del, .string (eAt ns k).nd.path, .string (eAt ns k).nd.data, .int .i64 (eAt ns k).nd.ver, .int .i64 (eAt ns k).nd.cver, .int .i64 (eAt ns k).nd.cz, .int .i64 (eAt ns k).nd.mz, .int .i64 (eAt ns k).nd.pz] 139))) := (Below.refl _ _).alloc (Nat.le_refl _) _
    go_wp2
    clear c0 c1 c2 c3 c4 c5 c6 c7 cT
    generalize wr.alloc (.cells #[.bool (eAt ns k).del, .string (eAt ns k).nd.path, .string (eAt ns k).nd.data, .int .i64 (eAt ns k).nd.ver, .int .i64 (eAt ns k).nd.cver, .int .i64 (eAt ns k).nd.cz, .int .i64 (eAt ns k).nd.mz, .int .i64 (eAt ns k).nd.pz] 139) = wn at *
    have zr := HG.out.size
    obtain ⟨B, hB⟩ : ∃ B, B = wr.heap.size := ⟨_, rfl⟩
    rw [← hB] at XN
    rw [← hB]
    have HBn : Hid (∀ W, Below wn.heap.size wn W → Below w.heap.size w W) := fun W hW => (HG0.out.trans (BN.out.mono HG0.out.size)).trans (hW.mono (Nat.le_trans HG0.out.size BN.out.size))
    have HBz : Hid (∀ W, Below wn.heap.size wn W → Hid (Below w0.heap.size w0 W)) := fun W hW => (HG.out.trans (BN.out.mono HG.out.size)).trans (hW.mono (Nat.le_trans HG.out.size BN.out.size))
    have CT : Hid (∀ W, Below wn.heap.size wn W → W.cell? ⟨w.heap.size, 1, none⟩ = some (.slice (some ⟨b, o, none⟩) n cap)) := fun W hW => ((HBz.out W hW).out.cell (p := ⟨w.heap.size, 1, none⟩) z0).trans c01.out
    have HE : Hid (∀ q, Calls Tryz.prog 146 #[.agg #[.bool (eAt ns k).del, .string (eAt ns k).nd.path, .string (eAt ns k).nd.data, .int .i64 (eAt ns k).nd.ver, .int .i64 (eAt ns k).nd.cver, .int .i64 (eAt ns k).nd.cz, .int .i64 (eAt ns k).nd.mz, .int .i64 (eAt ns k).nd.pz]] (wn.drewN q) fun e w' => e = .returned (.bool (okEf (eAt ns k))) ∧ Hid (Below wn.heap.size wn w')) := by
     intro q
     refine (validEffect_any _ (eAt ns k) (HZ.out k).2).mono ?_
     rintro e w' ⟨rfl, b'⟩
     exact ⟨rfl, (below_drewN' wn q).trans b'⟩
    have HD : Hid (Below wn.heap.size wn wn.drew) := below_drewN' wn 1
    have HHB : Hid (B = wr.heap.size) := hB
    clear hB BN
    cases hok : okEf (eAt ns k) with
    | false =>
     have HOK : Hid (okEf (eAt ns k) = false) := hok
     have HN : Hid (okEs ns = false) := es_no HLT.out (by unfold okEAt; rw [hok]; rfl)
     clear hok
     refine wp_region_held_drew (S := fun W => Hid (Below wn.heap.size wn W) ∧ (W.cell? ⟨B, 0, none⟩ = some (.bool (eAt ns k).del) ∧ W.cell? ⟨B, 1, none⟩ = some (.string (eAt ns k).nd.path) ∧ W.cell? ⟨B, 2, none⟩ = some (.string (eAt ns k).nd.data) ∧ W.cell? ⟨B, 3, none⟩ = some (.int .i64 (eAt ns k).nd.ver) ∧ W.cell? ⟨B, 4, none⟩ = some (.int .i64 (eAt ns k).nd.cver) ∧ W.cell? ⟨B, 5, none⟩ = some (.int .i64 (eAt ns k).nd.cz) ∧ W.cell? ⟨B, 6, none⟩ = some (.int .i64 (eAt ns k).nd.mz) ∧ W.cell? ⟨B, 7, none⟩ = some (.int .i64 (eAt ns k).nd.pz))) (by kernel_rfl) (⟨HD, (XN.out.below HD.out).all⟩) (fun hHeld => ?_)
     refine tkL9 (i := 0) (oi := ⟨some 23, _, _, _, _, _⟩) (v := ?v1) rfl (by kernel_rfl) (fun _ _ _ h => h) (by rfl) (by assumption) ?hy1 ?_
     case hy1 => intro w9 hS9; obtain ⟨-, hS9⟩ := hS9; go_simp; try with_reducible rfl
     try simp only [Act.put, sT9, sZ9, sS9]
     refine wpAnyH_ready (rs := [1]) (by kernel_rfl) (by simp) ?_
     refine AllReadyH.cons (o := ⟨some 24, _, _, _, _, _⟩) rfl (fun K hK => ?_) AllReadyH.nil
     go_simp
     refine (HE.out 1).mono ?_
     rintro e w' ⟨rfl, HB⟩
     rw [HOK.out]
     refine hK.out _ _ (⟨HB, (XN.out.below HB.out).all⟩) (fun hx9 => ?_)
     clear hK K hHeld
     have hHeld := hx9
     clear hx9
     try simp only [Act.put, sT9, sZ9, sS9]
     refine tkL9 (i := 2) (oi := ⟨some 25, _, _, _, _, _⟩) (v := ?v2) rfl (by kernel_rfl) (fun _ _ _ h => h) (by rfl) (by assumption) ?hy2 ?_
     case hy2 => intro w9 hS9; obtain ⟨-, hS9⟩ := hS9; go_simp; try with_reducible rfl
     try simp only [Act.put, sT9, sZ9, sS9]
     refine tkL9 (i := 3) (oi := ⟨some 26, _, _, _, _, _⟩) (v := ?v3) rfl (by kernel_rfl) (fun _ _ _ h => h) (by rfl) (by assumption) ?hy3 ?_
     case hy3 => intro w9 hS9; obtain ⟨-, hS9⟩ := hS9; go_simp; try with_reducible rfl
     try simp only [Act.put, sT9, sZ9, sS9]
     refine tkR9 (i := 4) (oi := ⟨some 27, _, _, _, _, _⟩) rfl (by kernel_rfl) (fun _ _ _ h => h) (by rfl) (by assumption) ?_
     try simp only [Act.put, sT9, sZ9, sS9]
     refine tkR9 (i := 5) (oi := ⟨some 28, _, _, _, _, _⟩) rfl (by kernel_rfl) (fun _ _ _ h => h) (by rfl) (by assumption) ?_
     try simp only [Act.put, sT9, sZ9, sS9]
     refine tkR9 (i := 6) (oi := ⟨some 29, _, _, _, _, _⟩) rfl (by kernel_rfl) (fun _ _ _ h => h) (by rfl) (by assumption) ?_
     try simp only [Act.put, sT9, sZ9, sS9]
     refine tkR9 (i := 7) (oi := ⟨some 30, _, _, _, _, _⟩) rfl (by kernel_rfl) (fun _ _ _ h => h) (by rfl) (by assumption) ?_
     try simp only [Act.put, sT9, sZ9, sS9]
     refine tkR9 (i := 8) (oi := ⟨some 31, _, _, _, _, _⟩) rfl (by kernel_rfl) (fun _ _ _ h => h) (by rfl) (by assumption) ?_
     try simp only [Act.put, sT9, sZ9, sS9]
     refine tkR9 (i := 9) (oi := ⟨some 32, _, _, _, _, _⟩) rfl (by kernel_rfl) (fun _ _ _ h => h) (by rfl) (by assumption) ?_
     try simp only [Act.put, sT9, sZ9, sS9]
     refine tkR9 (i := 10) (oi := ⟨some 33, _, _, _, _, _⟩) rfl (by kernel_rfl) (fun _ _ _ h => h) (by rfl) (by assumption) ?_
     try simp only [Act.put, sT9, sZ9, sS9]
     refine tkR9 (i := 11) (oi := ⟨some 34, _, _, _, _, _⟩) rfl (by kernel_rfl) (fun _ _ _ h => h) (by rfl) (by assumption) ?_
     try simp only [Act.put, sT9, sZ9, sS9]
     refine tkR9 (i := 12) (oi := ⟨some 35, _, _, _, _, _⟩) rfl (by kernel_rfl) (fun _ _ _ h => h) (by rfl) (by assumption) ?_
     try simp only [Act.put, sT9, sZ9, sS9]
     refine tkR9 (i := 13) (oi := ⟨some 36, _, _, _, _, _⟩) rfl (by kernel_rfl) (fun _ _ _ h => h) (by rfl) (by assumption) ?_
     try simp only [Act.put, sT9, sZ9, sS9]
     refine tkR9 (i := 14) (oi := ⟨some 37, _, _, _, _, _⟩) rfl (by kernel_rfl) (fun _ _ _ h => h) (by rfl) (by assumption) ?_
     try simp only [Act.put, sT9, sZ9, sS9]
     refine tkR9 (i := 15) (oi := ⟨some 38, _, _, _, _, _⟩) rfl (by kernel_rfl) (fun _ _ _ h => h) (by rfl) (by assumption) ?_
     try simp only [Act.put, sT9, sZ9, sS9]
     refine tkR9 (i := 16) (oi := ⟨some 39, _, _, _, _, _⟩) rfl (by kernel_rfl) (fun _ _ _ h => h) (by rfl) (by assumption) ?_
     try simp only [Act.put, sT9, sZ9, sS9]
     refine tkR9 (i := 17) (oi := ⟨some 40, _, _, _, _, _⟩) rfl (by kernel_rfl) (fun _ _ _ h => h) (by rfl) (by assumption) ?_
     try simp only [Act.put, sT9, sZ9, sS9]
     refine tkR9 (i := 18) (oi := ⟨some 41, _, _, _, _, _⟩) rfl (by kernel_rfl) (fun _ _ _ h => h) (by rfl) (by assumption) ?_
     try simp only [Act.put, sT9, sZ9, sS9]
     refine tkR9 (i := 19) (oi := ⟨some 42, _, _, _, _, _⟩) rfl (by kernel_rfl) (fun _ _ _ h => h) (by rfl) (by assumption) ?_
     try simp only [Act.put, sT9, sZ9, sS9]
     refine tkL9 (i := 20) (oi := ⟨some 43, _, _, _, _, _⟩) (v := ?v4) rfl (by kernel_rfl) (fun _ _ _ h => h) (by rfl) (by assumption) ?hy4 ?_
     case hy4 => intro w9 hS9; obtain ⟨-, hS9⟩ := hS9; go_simp; try with_reducible rfl
     try simp only [Act.put, sT9, sZ9, sS9]
     refine wpAnyH_done (by kernel_rfl) ?_ _
     clear hHeld
     go_wp2
     go_ret
     exact ⟨ret_b HN.out.symm, HBn.out _ HB.out⟩
    | true =>
     have HOK : Hid (okEf (eAt ns k) = true) := hok
     clear hok
     cases k with
     | zero =>
      have g2 : (0 : Int) < (n : Int) := by omega
      have HT : Hid (okEAt ns 0 = true) := by show _ = _; rw [okEAt_zero]; exact HOK.out
      refine wp_region_held_drew (S := fun W => Hid (Below wn.heap.size wn W) ∧ (W.cell? ⟨B, 0, none⟩ = some (.bool (eAt ns 0).del) ∧ W.cell? ⟨B, 1, none⟩ = some (.string (eAt ns 0).nd.path) ∧ W.cell? ⟨B, 2, none⟩ = some (.string (eAt ns 0).nd.data) ∧ W.cell? ⟨B, 3, none⟩ = some (.int .i64 (eAt ns 0).nd.ver) ∧ W.cell? ⟨B, 4, none⟩ = some (.int .i64 (eAt ns 0).nd.cver) ∧ W.cell? ⟨B, 5, none⟩ = some (.int .i64 (eAt ns 0).nd.cz) ∧ W.cell? ⟨B, 6, none⟩ = some (.int .i64 (eAt ns 0).nd.mz) ∧ W.cell? ⟨B, 7, none⟩ = some (.int .i64 (eAt ns 0).nd.pz))) (by kernel_rfl) (⟨HD, (XN.out.below HD.out).all⟩) (fun hHeld => ?_)
      refine tkL9 (i := 0) (oi := ⟨some 23, _, _, _, _, _⟩) (v := ?v5) rfl (by kernel_rfl) (fun _ _ _ h => h) (by rfl) (by assumption) ?hy5 ?_
      case hy5 => intro w9 hS9; obtain ⟨-, hS9⟩ := hS9; go_simp; try with_reducible rfl
      try simp only [Act.put, sT9, sZ9, sS9]
      refine wpAnyH_ready (rs := [1]) (by kernel_rfl) (by simp) ?_
      refine AllReadyH.cons (o := ⟨some 24, _, _, _, _, _⟩) rfl (fun K hK => ?_) AllReadyH.nil
      go_simp
      refine (HE.out 1).mono ?_
      rintro e w' ⟨rfl, HB⟩
      rw [HOK.out]
      refine hK.out _ _ (⟨HB, (XN.out.below HB.out).all⟩) (fun hx9 => ?_)
      clear hK K hHeld
      have hHeld := hx9
      clear hx9
      try simp only [Act.put, sT9, sZ9, sS9]
      refine tkL9 (i := 2) (oi := ⟨some 25, _, _, _, _, _⟩) (v := ?v6) rfl (by kernel_rfl) (fun _ _ _ h => h) (by rfl) (by assumption) ?hy6 ?_
      case hy6 => intro w9 hS9; obtain ⟨-, hS9⟩ := hS9; go_simp; try with_reducible rfl
      try simp only [Act.put, sT9, sZ9, sS9]
      refine tkL9 (i := 3) (oi := ⟨some 26, _, _, _, _, _⟩) (v := ?v7) rfl (by kernel_rfl) (fun _ _ _ h => h) (by rfl) (by assumption) ?hy7 ?_
      case hy7 => intro w9 hS9; obtain ⟨-, hS9⟩ := hS9; go_simp; try with_reducible rfl
      try simp only [Act.put, sT9, sZ9, sS9]
      refine tkL9 (i := 4) (oi := ⟨some 27, _, _, _, _, _⟩) (v := ?v8) rfl (by kernel_rfl) (fun _ _ _ h => h) (by rfl) (by assumption) ?hy8 ?_
      case hy8 => intro w9 hS9; obtain ⟨-, hS9⟩ := hS9; go_simp; try with_reducible rfl
      try simp only [Act.put, sT9, sZ9, sS9]
      refine tkL9 (i := 5) (oi := ⟨some 28, _, _, _, _, _⟩) (v := ?v9) rfl (by kernel_rfl) (fun _ _ _ h => h) (by rfl) (by assumption) ?hy9 ?_
      case hy9 => intro w9 hS9; obtain ⟨-, hS9⟩ := hS9; go_simp; try with_reducible rfl
      try simp only [Act.put, sT9, sZ9, sS9]
      refine tkL9 (i := 6) (oi := ⟨some 29, _, _, _, _, _⟩) (v := ?v10) rfl (by kernel_rfl) (fun _ _ _ h => h) (by rfl) (by assumption) ?hy10 ?_
      case hy10 => intro w9 hS9; obtain ⟨-, hS9⟩ := hS9; go_simp; try with_reducible rfl
      try simp only [Act.put, sT9, sZ9, sS9]
      refine tkR9 (i := 7) (oi := ⟨some 30, _, _, _, _, _⟩) rfl (by kernel_rfl) (fun _ _ _ h => h) (by rfl) (by assumption) ?_
      try simp only [Act.put, sT9, sZ9, sS9]
      refine tkR9 (i := 8) (oi := ⟨some 31, _, _, _, _, _⟩) rfl (by kernel_rfl) (fun _ _ _ h => h) (by rfl) (by assumption) ?_
      try simp only [Act.put, sT9, sZ9, sS9]
      refine tkR9 (i := 9) (oi := ⟨some 32, _, _, _, _, _⟩) rfl (by kernel_rfl) (fun _ _ _ h => h) (by rfl) (by assumption) ?_
      try simp only [Act.put, sT9, sZ9, sS9]
      refine tkR9 (i := 10) (oi := ⟨some 33, _, _, _, _, _⟩) rfl (by kernel_rfl) (fun _ _ _ h => h) (by rfl) (by assumption) ?_
      try simp only [Act.put, sT9, sZ9, sS9]
      refine tkR9 (i := 11) (oi := ⟨some 34, _, _, _, _, _⟩) rfl (by kernel_rfl) (fun _ _ _ h => h) (by rfl) (by assumption) ?_
      try simp only [Act.put, sT9, sZ9, sS9]
      refine tkR9 (i := 12) (oi := ⟨some 35, _, _, _, _, _⟩) rfl (by kernel_rfl) (fun _ _ _ h => h) (by rfl) (by assumption) ?_
      try simp only [Act.put, sT9, sZ9, sS9]
      refine tkR9 (i := 13) (oi := ⟨some 36, _, _, _, _, _⟩) rfl (by kernel_rfl) (fun _ _ _ h => h) (by rfl) (by assumption) ?_
      try simp only [Act.put, sT9, sZ9, sS9]
      refine tkR9 (i := 14) (oi := ⟨some 37, _, _, _, _, _⟩) rfl (by kernel_rfl) (fun _ _ _ h => h) (by rfl) (by assumption) ?_
      try simp only [Act.put, sT9, sZ9, sS9]
      refine tkR9 (i := 15) (oi := ⟨some 38, _, _, _, _, _⟩) rfl (by kernel_rfl) (fun _ _ _ h => h) (by rfl) (by assumption) ?_
      try simp only [Act.put, sT9, sZ9, sS9]
      refine tkR9 (i := 16) (oi := ⟨some 39, _, _, _, _, _⟩) rfl (by kernel_rfl) (fun _ _ _ h => h) (by rfl) (by assumption) ?_
      try simp only [Act.put, sT9, sZ9, sS9]
      refine tkR9 (i := 17) (oi := ⟨some 40, _, _, _, _, _⟩) rfl (by kernel_rfl) (fun _ _ _ h => h) (by rfl) (by assumption) ?_
      try simp only [Act.put, sT9, sZ9, sS9]
      refine tkR9 (i := 18) (oi := ⟨some 41, _, _, _, _, _⟩) rfl (by kernel_rfl) (fun _ _ _ h => h) (by rfl) (by assumption) ?_
      try simp only [Act.put, sT9, sZ9, sS9]
      refine tkL9 (i := 19) (oi := ⟨some 42, _, _, _, _, _⟩) (v := ?v11) rfl (by kernel_rfl) (fun _ _ _ h => h) (by rfl) (by assumption) ?hy11 ?_
      case hy11 => intro w9 hS9; obtain ⟨-, hS9⟩ := hS9; go_simp; try with_reducible rfl
      try simp only [Act.put, sT9, sZ9, sS9]
      refine tkL9 (i := 20) (oi := ⟨some 43, _, _, _, _, _⟩) (v := ?v12) rfl (by kernel_rfl) (fun _ _ _ h => h) (by rfl) (by assumption) ?hy12 ?_
      case hy12 => intro w9 hS9; obtain ⟨-, hS9⟩ := hS9; go_simp; try with_reducible rfl
      try simp only [Act.put, sT9, sZ9, sS9]
      refine wpAnyH_done (by kernel_rfl) ?_ _
      clear hHeld
      go_wp2
      go_roundw
      case rel => exact ⟨0 + 1, by omega, by go_num, (fun t ht => by by_cases e : t = 0; (subst e; exact HT.out); exact HA.out t (by omega)), HBz.out _ HB.out⟩
      case measure => simp [intOf]; omega
     | succ j =>
      have g1 : (0 : Int) ≤ (j : Int) + 1 := by omega
      have g2 : (j : Int) + 1 < (n : Int) := by omega
      have g3 : (0 : Int) ≤ (j : Int) := by omega
      have g4 : (j : Int) < (n : Int) := by omega
      have g5 : (0 : Int) < (j : Int) + 1 := by omega
      have g6 : IntKind.i64.wrap (j : Int) = (j : Int) := by rw [IntKind.wrap_i64]; omega
      cases hcmp : ltP (eAt ns j).nd.path (eAt ns (j + 1)).nd.path with
      | true =>
       have HT : Hid (okEAt ns (j + 1) = true) := by show _ = _; rw [okEAt_succ, HOK.out, hcmp]; rfl
       have l1 : Op.bytesLess (eAt ns j).nd.path.toList (eAt ns (j + 1)).nd.path.toList = true := hcmp
       clear hcmp
       refine wp_region_held_drew (S := fun W => Hid (Below wn.heap.size wn W) ∧ (W.cell? ⟨B, 0, none⟩ = some (.bool (eAt ns (j + 1)).del) ∧ W.cell? ⟨B, 1, none⟩ = some (.string (eAt ns (j + 1)).nd.path) ∧ W.cell? ⟨B, 2, none⟩ = some (.string (eAt ns (j + 1)).nd.data) ∧ W.cell? ⟨B, 3, none⟩ = some (.int .i64 (eAt ns (j + 1)).nd.ver) ∧ W.cell? ⟨B, 4, none⟩ = some (.int .i64 (eAt ns (j + 1)).nd.cver) ∧ W.cell? ⟨B, 5, none⟩ = some (.int .i64 (eAt ns (j + 1)).nd.cz) ∧ W.cell? ⟨B, 6, none⟩ = some (.int .i64 (eAt ns (j + 1)).nd.mz) ∧ W.cell? ⟨B, 7, none⟩ = some (.int .i64 (eAt ns (j + 1)).nd.pz)) ∧ W.cell? ⟨w.heap.size, 1, none⟩ = some (.slice (some ⟨b, o, none⟩) n cap) ∧ W.cell? ⟨b, o + j * 8 + 1, none⟩ = some (.string (eAt ns j).nd.path)) (by kernel_rfl) (⟨HD, (XN.out.below HD.out).all, (CT.out _ HD.out), ((HC.out j (by omega)).below (HBn.out _ HD.out) hb).c1⟩) (fun hHeld => ?_)
       refine tkL9 (i := 0) (oi := ⟨some 23, _, _, _, _, _⟩) (v := ?v13) rfl (by kernel_rfl) (fun _ _ _ h => h) (by rfl) (by assumption) ?hy13 ?_
       case hy13 => intro w9 hS9; obtain ⟨-, hS9⟩ := hS9; go_simp; try with_reducible rfl
       try simp only [Act.put, sT9, sZ9, sS9]
       refine wpAnyH_ready (rs := [1]) (by kernel_rfl) (by simp) ?_
       refine AllReadyH.cons (o := ⟨some 24, _, _, _, _, _⟩) rfl (fun K hK => ?_) AllReadyH.nil
       go_simp
       refine (HE.out 1).mono ?_
       rintro e w' ⟨rfl, HB⟩
       rw [HOK.out]
       refine hK.out _ _ (⟨HB, (XN.out.below HB.out).all, (CT.out _ HB.out), ((HC.out j (by omega)).below (HBn.out _ HB.out) hb).c1⟩) (fun hx9 => ?_)
       clear hK K hHeld
       have hHeld := hx9
       clear hx9
       try simp only [Act.put, sT9, sZ9, sS9]
       refine tkL9 (i := 2) (oi := ⟨some 25, _, _, _, _, _⟩) (v := ?v14) rfl (by kernel_rfl) (fun _ _ _ h => h) (by rfl) (by assumption) ?hy14 ?_
       case hy14 => intro w9 hS9; obtain ⟨-, hS9⟩ := hS9; go_simp; try with_reducible rfl
       try simp only [Act.put, sT9, sZ9, sS9]
       refine tkL9 (i := 3) (oi := ⟨some 26, _, _, _, _, _⟩) (v := ?v15) rfl (by kernel_rfl) (fun _ _ _ h => h) (by rfl) (by assumption) ?hy15 ?_
       case hy15 => intro w9 hS9; obtain ⟨-, hS9⟩ := hS9; go_simp; try with_reducible rfl
       try simp only [Act.put, sT9, sZ9, sS9]
       refine tkL9 (i := 4) (oi := ⟨some 27, _, _, _, _, _⟩) (v := ?v16) rfl (by kernel_rfl) (fun _ _ _ h => h) (by rfl) (by assumption) ?hy16 ?_
       case hy16 => intro w9 hS9; obtain ⟨-, hS9⟩ := hS9; go_simp; try with_reducible rfl
       try simp only [Act.put, sT9, sZ9, sS9]
       refine tkL9 (i := 5) (oi := ⟨some 28, _, _, _, _, _⟩) (v := ?v17) rfl (by kernel_rfl) (fun _ _ _ h => h) (by rfl) (by assumption) ?hy17 ?_
       case hy17 => intro w9 hS9; obtain ⟨-, hS9⟩ := hS9; go_simp; try with_reducible rfl
       try simp only [Act.put, sT9, sZ9, sS9]
       refine tkL9 (i := 6) (oi := ⟨some 29, _, _, _, _, _⟩) (v := ?v18) rfl (by kernel_rfl) (fun _ _ _ h => h) (by rfl) (by assumption) ?hy18 ?_
       case hy18 => intro w9 hS9; obtain ⟨-, hS9⟩ := hS9; go_simp; try with_reducible rfl
       try simp only [Act.put, sT9, sZ9, sS9]
       refine tkL9 (i := 7) (oi := ⟨some 30, _, _, _, _, _⟩) (v := ?v19) rfl (by kernel_rfl) (fun _ _ _ h => h) (by rfl) (by assumption) ?hy19 ?_
       case hy19 => intro w9 hS9; obtain ⟨-, hS9⟩ := hS9; go_simp; try with_reducible rfl
       try simp only [Act.put, sT9, sZ9, sS9]
       refine tkL9 (i := 8) (oi := ⟨some 31, _, _, _, _, _⟩) (v := ?v20) rfl (by kernel_rfl) (fun _ _ _ h => h) (by rfl) (by assumption) ?hy20 ?_
       case hy20 => intro w9 hS9; obtain ⟨-, hS9⟩ := hS9; go_simp; try with_reducible rfl
       try simp only [Act.put, sT9, sZ9, sS9]
       refine tkL9 (i := 9) (oi := ⟨some 32, _, _, _, _, _⟩) (v := ?v21) rfl (by kernel_rfl) (fun _ _ _ h => h) (by rfl) (by assumption) ?hy21 ?_
       case hy21 => intro w9 hS9; obtain ⟨-, hS9⟩ := hS9; go_simp; try with_reducible rfl
       try simp only [Act.put, sT9, sZ9, sS9]
       refine tkL9 (i := 10) (oi := ⟨some 33, _, _, _, _, _⟩) (v := ?v22) rfl (by kernel_rfl) (fun _ _ _ h => h) (by rfl) (by assumption) ?hy22 ?_
       case hy22 => intro w9 hS9; obtain ⟨-, hS9⟩ := hS9; go_simp; try with_reducible rfl
       try simp only [Act.put, sT9, sZ9, sS9]
       refine tkL9 (i := 11) (oi := ⟨some 34, _, _, _, _, _⟩) (v := ?v23) rfl (by kernel_rfl) (fun _ _ _ h => h) (by rfl) (by assumption) ?hy23 ?_
       case hy23 => intro w9 hS9; obtain ⟨-, hS9⟩ := hS9; go_simp; try with_reducible rfl
       try simp only [Act.put, sT9, sZ9, sS9]
       refine tkL9 (i := 12) (oi := ⟨some 35, _, _, _, _, _⟩) (v := ?v24) rfl (by kernel_rfl) (fun _ _ _ h => h) (by rfl) (by assumption) ?hy24 ?_
       case hy24 => intro w9 hS9; obtain ⟨-, hS9⟩ := hS9; go_simp; try with_reducible rfl
       try simp only [Act.put, sT9, sZ9, sS9]
       refine tkL9 (i := 13) (oi := ⟨some 36, _, _, _, _, _⟩) (v := ?v25) rfl (by kernel_rfl) (fun _ _ _ h => h) (by rfl) (by assumption) ?hy25 ?_
       case hy25 => intro w9 hS9; obtain ⟨-, hS9⟩ := hS9; go_simp; try with_reducible rfl
       try simp only [Act.put, sT9, sZ9, sS9]
       refine tkL9 (i := 14) (oi := ⟨some 37, _, _, _, _, _⟩) (v := ?v26) rfl (by kernel_rfl) (fun _ _ _ h => h) (by rfl) (by assumption) ?hy26 ?_
       case hy26 => intro w9 hS9; obtain ⟨-, hS9⟩ := hS9; go_simp; try with_reducible rfl
       try simp only [Act.put, sT9, sZ9, sS9]
       refine tkL9 (i := 15) (oi := ⟨some 38, _, _, _, _, _⟩) (v := ?v27) rfl (by kernel_rfl) (fun _ _ _ h => h) (by rfl) (by assumption) ?hy27 ?_
       case hy27 => intro w9 hS9; obtain ⟨-, hS9⟩ := hS9; go_simp; try with_reducible rfl
       try simp only [Act.put, sT9, sZ9, sS9]
       refine tkL9 (i := 16) (oi := ⟨some 39, _, _, _, _, _⟩) (v := ?v28) rfl (by kernel_rfl) (fun _ _ _ h => h) (by rfl) (by assumption) ?hy28 ?_
       case hy28 => intro w9 hS9; obtain ⟨-, hS9⟩ := hS9; go_simp; try with_reducible rfl
       try simp only [Act.put, sT9, sZ9, sS9]
       refine tkL9 (i := 17) (oi := ⟨some 40, _, _, _, _, _⟩) (v := ?v29) rfl (by kernel_rfl) (fun _ _ _ h => h) (by rfl) (by assumption) ?hy29 ?_
       case hy29 => intro w9 hS9; obtain ⟨-, hS9⟩ := hS9; go_simp; try with_reducible rfl
       try simp only [Act.put, sT9, sZ9, sS9]
       refine tkL9 (i := 18) (oi := ⟨some 41, _, _, _, _, _⟩) (v := ?v30) rfl (by kernel_rfl) (fun _ _ _ h => h) (by rfl) (by assumption) ?hy30 ?_
       case hy30 => intro w9 hS9; obtain ⟨-, hS9⟩ := hS9; go_simp; try with_reducible rfl
       try simp only [Act.put, sT9, sZ9, sS9]
       refine tkL9 (i := 19) (oi := ⟨some 42, _, _, _, _, _⟩) (v := ?v31) rfl (by kernel_rfl) (fun _ _ _ h => h) (by rfl) (by assumption) ?hy31 ?_
       case hy31 => intro w9 hS9; obtain ⟨-, hS9⟩ := hS9; go_simp; try with_reducible rfl
       try simp only [Act.put, sT9, sZ9, sS9]
       refine tkL9 (i := 20) (oi := ⟨some 43, _, _, _, _, _⟩) (v := ?v32) rfl (by kernel_rfl) (fun _ _ _ h => h) (by rfl) (by assumption) ?hy32 ?_
       case hy32 => intro w9 hS9; obtain ⟨-, hS9⟩ := hS9; go_simp; try with_reducible rfl
       try simp only [Act.put, sT9, sZ9, sS9]
       refine wpAnyH_done (by kernel_rfl) ?_ _
       clear hHeld
       go_wp2
       go_roundw
       case rel => exact ⟨(j + 1) + 1, by omega, by go_num, (fun t ht => by by_cases e : t = (j + 1); (subst e; exact HT.out); exact HA.out t (by omega)), HBz.out _ HB.out⟩
       case measure => simp [intOf]; omega
      | false =>
       have HN : Hid (okEs ns = false) := es_no HLT.out (by rw [okEAt_succ, hcmp, Bool.and_false])
       have l1 : Op.bytesLess (eAt ns j).nd.path.toList (eAt ns (j + 1)).nd.path.toList = false := hcmp
       clear hcmp
       refine wp_region_held_drew (S := fun W => Hid (Below wn.heap.size wn W) ∧ (W.cell? ⟨B, 0, none⟩ = some (.bool (eAt ns (j + 1)).del) ∧ W.cell? ⟨B, 1, none⟩ = some (.string (eAt ns (j + 1)).nd.path) ∧ W.cell? ⟨B, 2, none⟩ = some (.string (eAt ns (j + 1)).nd.data) ∧ W.cell? ⟨B, 3, none⟩ = some (.int .i64 (eAt ns (j + 1)).nd.ver) ∧ W.cell? ⟨B, 4, none⟩ = some (.int .i64 (eAt ns (j + 1)).nd.cver) ∧ W.cell? ⟨B, 5, none⟩ = some (.int .i64 (eAt ns (j + 1)).nd.cz) ∧ W.cell? ⟨B, 6, none⟩ = some (.int .i64 (eAt ns (j + 1)).nd.mz) ∧ W.cell? ⟨B, 7, none⟩ = some (.int .i64 (eAt ns (j + 1)).nd.pz)) ∧ W.cell? ⟨w.heap.size, 1, none⟩ = some (.slice (some ⟨b, o, none⟩) n cap) ∧ W.cell? ⟨b, o + j * 8 + 1, none⟩ = some (.string (eAt ns j).nd.path)) (by kernel_rfl) (⟨HD, (XN.out.below HD.out).all, (CT.out _ HD.out), ((HC.out j (by omega)).below (HBn.out _ HD.out) hb).c1⟩) (fun hHeld => ?_)
       refine tkL9 (i := 0) (oi := ⟨some 23, _, _, _, _, _⟩) (v := ?v33) rfl (by kernel_rfl) (fun _ _ _ h => h) (by rfl) (by assumption) ?hy33 ?_
       case hy33 => intro w9 hS9; obtain ⟨-, hS9⟩ := hS9; go_simp; try with_reducible rfl
       try simp only [Act.put, sT9, sZ9, sS9]
       refine wpAnyH_ready (rs := [1]) (by kernel_rfl) (by simp) ?_
       refine AllReadyH.cons (o := ⟨some 24, _, _, _, _, _⟩) rfl (fun K hK => ?_) AllReadyH.nil
       go_simp
       refine (HE.out 1).mono ?_
       rintro e w' ⟨rfl, HB⟩
       rw [HOK.out]
       refine hK.out _ _ (⟨HB, (XN.out.below HB.out).all, (CT.out _ HB.out), ((HC.out j (by omega)).below (HBn.out _ HB.out) hb).c1⟩) (fun hx9 => ?_)
       clear hK K hHeld
       have hHeld := hx9
       clear hx9
       try simp only [Act.put, sT9, sZ9, sS9]
       refine tkL9 (i := 2) (oi := ⟨some 25, _, _, _, _, _⟩) (v := ?v34) rfl (by kernel_rfl) (fun _ _ _ h => h) (by rfl) (by assumption) ?hy34 ?_
       case hy34 => intro w9 hS9; obtain ⟨-, hS9⟩ := hS9; go_simp; try with_reducible rfl
       try simp only [Act.put, sT9, sZ9, sS9]
       refine tkL9 (i := 3) (oi := ⟨some 26, _, _, _, _, _⟩) (v := ?v35) rfl (by kernel_rfl) (fun _ _ _ h => h) (by rfl) (by assumption) ?hy35 ?_
       case hy35 => intro w9 hS9; obtain ⟨-, hS9⟩ := hS9; go_simp; try with_reducible rfl
       try simp only [Act.put, sT9, sZ9, sS9]
       refine tkL9 (i := 4) (oi := ⟨some 27, _, _, _, _, _⟩) (v := ?v36) rfl (by kernel_rfl) (fun _ _ _ h => h) (by rfl) (by assumption) ?hy36 ?_
       case hy36 => intro w9 hS9; obtain ⟨-, hS9⟩ := hS9; go_simp; try with_reducible rfl
       try simp only [Act.put, sT9, sZ9, sS9]
       refine tkL9 (i := 5) (oi := ⟨some 28, _, _, _, _, _⟩) (v := ?v37) rfl (by kernel_rfl) (fun _ _ _ h => h) (by rfl) (by assumption) ?hy37 ?_
       case hy37 => intro w9 hS9; obtain ⟨-, hS9⟩ := hS9; go_simp; try with_reducible rfl
       try simp only [Act.put, sT9, sZ9, sS9]
       refine tkL9 (i := 6) (oi := ⟨some 29, _, _, _, _, _⟩) (v := ?v38) rfl (by kernel_rfl) (fun _ _ _ h => h) (by rfl) (by assumption) ?hy38 ?_
       case hy38 => intro w9 hS9; obtain ⟨-, hS9⟩ := hS9; go_simp; try with_reducible rfl
       try simp only [Act.put, sT9, sZ9, sS9]
       refine tkL9 (i := 7) (oi := ⟨some 30, _, _, _, _, _⟩) (v := ?v39) rfl (by kernel_rfl) (fun _ _ _ h => h) (by rfl) (by assumption) ?hy39 ?_
       case hy39 => intro w9 hS9; obtain ⟨-, hS9⟩ := hS9; go_simp; try with_reducible rfl
       try simp only [Act.put, sT9, sZ9, sS9]
       refine tkL9 (i := 8) (oi := ⟨some 31, _, _, _, _, _⟩) (v := ?v40) rfl (by kernel_rfl) (fun _ _ _ h => h) (by rfl) (by assumption) ?hy40 ?_
       case hy40 => intro w9 hS9; obtain ⟨-, hS9⟩ := hS9; go_simp; try with_reducible rfl
       try simp only [Act.put, sT9, sZ9, sS9]
       refine tkL9 (i := 9) (oi := ⟨some 32, _, _, _, _, _⟩) (v := ?v41) rfl (by kernel_rfl) (fun _ _ _ h => h) (by rfl) (by assumption) ?hy41 ?_
       case hy41 => intro w9 hS9; obtain ⟨-, hS9⟩ := hS9; go_simp; try with_reducible rfl
       try simp only [Act.put, sT9, sZ9, sS9]
       refine tkL9 (i := 10) (oi := ⟨some 33, _, _, _, _, _⟩) (v := ?v42) rfl (by kernel_rfl) (fun _ _ _ h => h) (by rfl) (by assumption) ?hy42 ?_
       case hy42 => intro w9 hS9; obtain ⟨-, hS9⟩ := hS9; go_simp; try with_reducible rfl
       try simp only [Act.put, sT9, sZ9, sS9]
       refine tkL9 (i := 11) (oi := ⟨some 34, _, _, _, _, _⟩) (v := ?v43) rfl (by kernel_rfl) (fun _ _ _ h => h) (by rfl) (by assumption) ?hy43 ?_
       case hy43 => intro w9 hS9; obtain ⟨-, hS9⟩ := hS9; go_simp; try with_reducible rfl
       try simp only [Act.put, sT9, sZ9, sS9]
       refine tkL9 (i := 12) (oi := ⟨some 35, _, _, _, _, _⟩) (v := ?v44) rfl (by kernel_rfl) (fun _ _ _ h => h) (by rfl) (by assumption) ?hy44 ?_
       case hy44 => intro w9 hS9; obtain ⟨-, hS9⟩ := hS9; go_simp; try with_reducible rfl
       try simp only [Act.put, sT9, sZ9, sS9]
       refine tkL9 (i := 13) (oi := ⟨some 36, _, _, _, _, _⟩) (v := ?v45) rfl (by kernel_rfl) (fun _ _ _ h => h) (by rfl) (by assumption) ?hy45 ?_
       case hy45 => intro w9 hS9; obtain ⟨-, hS9⟩ := hS9; go_simp; try with_reducible rfl
       try simp only [Act.put, sT9, sZ9, sS9]
       refine tkL9 (i := 14) (oi := ⟨some 37, _, _, _, _, _⟩) (v := ?v46) rfl (by kernel_rfl) (fun _ _ _ h => h) (by rfl) (by assumption) ?hy46 ?_
       case hy46 => intro w9 hS9; obtain ⟨-, hS9⟩ := hS9; go_simp; try with_reducible rfl
       try simp only [Act.put, sT9, sZ9, sS9]
       refine tkL9 (i := 15) (oi := ⟨some 38, _, _, _, _, _⟩) (v := ?v47) rfl (by kernel_rfl) (fun _ _ _ h => h) (by rfl) (by assumption) ?hy47 ?_
       case hy47 => intro w9 hS9; obtain ⟨-, hS9⟩ := hS9; go_simp; try with_reducible rfl
       try simp only [Act.put, sT9, sZ9, sS9]
       refine tkL9 (i := 16) (oi := ⟨some 39, _, _, _, _, _⟩) (v := ?v48) rfl (by kernel_rfl) (fun _ _ _ h => h) (by rfl) (by assumption) ?hy48 ?_
       case hy48 => intro w9 hS9; obtain ⟨-, hS9⟩ := hS9; go_simp; try with_reducible rfl
       try simp only [Act.put, sT9, sZ9, sS9]
       refine tkL9 (i := 17) (oi := ⟨some 40, _, _, _, _, _⟩) (v := ?v49) rfl (by kernel_rfl) (fun _ _ _ h => h) (by rfl) (by assumption) ?hy49 ?_
       case hy49 => intro w9 hS9; obtain ⟨-, hS9⟩ := hS9; go_simp; try with_reducible rfl
       try simp only [Act.put, sT9, sZ9, sS9]
       refine tkL9 (i := 18) (oi := ⟨some 41, _, _, _, _, _⟩) (v := ?v50) rfl (by kernel_rfl) (fun _ _ _ h => h) (by rfl) (by assumption) ?hy50 ?_
       case hy50 => intro w9 hS9; obtain ⟨-, hS9⟩ := hS9; go_simp; try with_reducible rfl
       try simp only [Act.put, sT9, sZ9, sS9]
       refine tkL9 (i := 19) (oi := ⟨some 42, _, _, _, _, _⟩) (v := ?v51) rfl (by kernel_rfl) (fun _ _ _ h => h) (by rfl) (by assumption) ?hy51 ?_
       case hy51 => intro w9 hS9; obtain ⟨-, hS9⟩ := hS9; go_simp; try with_reducible rfl
       try simp only [Act.put, sT9, sZ9, sS9]
       refine tkL9 (i := 20) (oi := ⟨some 43, _, _, _, _, _⟩) (v := ?v52) rfl (by kernel_rfl) (fun _ _ _ h => h) (by rfl) (by assumption) ?hy52 ?_
       case hy52 => intro w9 hS9; obtain ⟨-, hS9⟩ := hS9; go_simp; try with_reducible rfl
       try simp only [Act.put, sT9, sZ9, sS9]
       refine wpAnyH_done (by kernel_rfl) ?_ _
       clear hHeld
       go_wp2
       go_ret
       exact ⟨ret_b HN.out.symm, HBn.out _ HB.out⟩
  · have HY : Hid (okEs ns = true) := es_yes (fun t ht => HA.out t (by rw [HP.out] at ht; omega))
    go_wp2
    go_ret
    exact ⟨ret_b HY.out.symm, HG0.out⟩
theorem implTxn_nil (w : World) (z : Int) (ao : Option Addr) (cap : Nat) (hz1 : ¬ z < 1) (hz2 : ¬ 2147483647 < z) :
    Calls Tryz.prog 97 #[.agg #[.int .i64 z, .slice ao 0 cap]] w fun e w' => e = .returned (.bool true) ∧ Below w.heap.size w w' := by
 go_enter Tryz.func97, Tryz.ntmps97
 go_wp2
 go_rounds 1
 go_ret
 exact ⟨rfl, (Below.refl _ _).alloc (Nat.le_refl _) _⟩
theorem implTxn_no (w : World) (z : Int) (ao : Option Addr) (n cap : Nat) (h : z < 1 ∨ 2147483647 < z ∨ 1000 < n) :
    Calls Tryz.prog 97 #[.agg #[.int .i64 z, .slice ao n cap]] w fun e w' => e = .returned (.bool false) ∧ Below w.heap.size w w' := by
 by_cases h1 : z < 1
 · clear h
   go_enter Tryz.func97, Tryz.ntmps97
   go_wp2
   go_ret
   exact ⟨rfl, (Below.refl _ _).alloc (Nat.le_refl _) _⟩
 · by_cases h2 : 2147483647 < z
   · clear h
     go_enter Tryz.func97, Tryz.ntmps97
     go_wp2
     go_ret
     exact ⟨rfl, (Below.refl _ _).alloc (Nat.le_refl _) _⟩
   · have h3 : (1000 : Int) < (n : Int) := by omega
     clear h
     go_enter Tryz.func97, Tryz.ntmps97
     go_wp2
     go_ret
     exact ⟨rfl, (Below.refl _ _).alloc (Nat.le_refl _) _⟩
theorem implTxn_any (w : World) (z : Int) (v : Value) (ns : List Ef) (h : RdE w v ns) (hsz : ∀ i, (eAt ns i).nd.path.size ≤ 1048576 ∧ (eAt ns i).nd.data.size ≤ 1048576) :
    Calls Tryz.prog 97 #[.agg #[.int .i64 z, v]] w fun e w' => e = .returned (.bool (okTxn z ns)) ∧ Below w.heap.size w w' := by
 obtain ⟨ao, cap, rfl, k1, k2, k3⟩ := h
 by_cases hl : z < 1 ∨ 2147483647 < z ∨ 1000 < ns.length
 · have : okTxn z ns = false := by
    unfold okTxn
    rcases hl with hl | hl | hl
    · rw [decide_eq_false (show ¬ 1 ≤ z by omega)]; rfl
    · rw [decide_eq_false (show ¬ z ≤ 2147483647 by omega)]; simp
    · rw [decide_eq_false (show ¬ ns.length ≤ 1000 by omega)]; simp
   rw [this]
   exact implTxn_no w z ao ns.length cap hl
 · have : okTxn z ns = okEs ns := by unfold okTxn; rw [decide_eq_true (show 1 ≤ z by omega), decide_eq_true (show z ≤ 2147483647 by omega), decide_eq_true (show ns.length ≤ 1000 by omega)]; rfl
   rw [this]
   rcases k3 with rfl | ⟨b, o, rfl, hb, hc⟩
   · exact implTxn_nil w z ao cap (by omega) (by omega)
   · exact implTxn_row w z b o ns.length cap ns (by omega) (by omega) rfl (by omega) hb hsz hc
theorem less_trans : ∀ x y z : List UInt8, Op.bytesLess x y = true → Op.bytesLess y z = true → Op.bytesLess x z = true
 | [], [], _ => by simp [Op.bytesLess]
 | _ :: _, [], _ => by simp [Op.bytesLess]
 | _, _ :: _, [] => by simp [Op.bytesLess]
 | [], _ :: _, _ :: _ => by simp [Op.bytesLess]
 | a :: x, b :: y, c :: z => by
  unfold Op.bytesLess
  intro h1 h2
  have ih := less_trans x y z
  simp only [Bool.or_eq_true, Bool.and_eq_true, decide_eq_true_eq, beq_iff_eq] at h1 h2 ⊢
  rcases h1 with h1 | ⟨rfl, h1⟩
  · rcases h2 with h2 | ⟨rfl, h2⟩
    · exact .inl (UInt8.lt_trans h1 h2)
    · exact .inl h1
  · rcases h2 with h2 | ⟨rfl, h2⟩
    · exact .inl h2
    · exact .inr ⟨rfl, ih h1 h2⟩
theorem ltP_trans {a b c : ByteArray} (h1 : ltP a b = true) (h2 : ltP b c = true) : ltP a c = true := less_trans _ _ _ h1 h2
theorem ltP_ne {a b : ByteArray} (h : ltP a b = true) : (a.toList == b.toList) = false := by
 have := (ltP_yes h).2
 rw [Bool.eq_false_iff] at this ⊢
 intro e
 exact this (by rw [beq_iff_eq] at e ⊢; exact e.symm)
theorem ltP_gt_ne {a b : ByteArray} (h : ltP b a = true) : (a.toList == b.toList) = false := (ltP_yes h).2
theorem ltP_asymm {a b : ByteArray} (h : ltP a b = true) : ltP b a = false := (ltP_yes h).1
theorem ltP_total {a b : ByteArray} (h : ltP a b = false) (hne : (a.toList == b.toList) = false) : ltP b a = true := by
 rcases ltP_no h with h1 | ⟨_, h1⟩
 · exact h1
 · rw [beq_iff_eq] at h1
   rw [h1] at hne
   simp at hne
theorem cmpP_lt (a b : ByteArray) : (cmpP a b < 0) ↔ ltP a b = true := by
 unfold cmpP ltP
 rw [cmp_lt, ByteArray.toList_eq, ByteArray.toList_eq]
theorem cmpP_eq (a b : ByteArray) : (cmpP a b == 0) = (a.toList == b.toList) := by
 have h : cmpP a b = 0 ↔ a.toList = b.toList := by
  unfold cmpP
  rw [cmp_eq0, ByteArray.toList_eq, ByteArray.toList_eq]
 rw [Bool.eq_iff_iff, beq_iff_eq, beq_iff_eq]
 exact h
def Asc (ns : List Nd) : Prop := ns.Pairwise fun a b => ltP a.path b.path = true
def AscE (es : List Ef) : Prop := es.Pairwise fun a b => ltP a.nd.path b.nd.path = true
theorem asc_of {α : Type} (f : α → ByteArray) : ∀ (l : List α), (∀ j (h : j + 1 < l.length), ltP (f l[j]) (f l[j+1]) = true) → l.Pairwise fun a b => ltP (f a) (f b) = true
 | [], _ => List.Pairwise.nil
 | [a], _ => by simp
 | a :: b :: l, h => by
  have ih := asc_of f (b :: l) (fun j hj => h (j + 1) (by simp at hj ⊢; omega))
  refine List.Pairwise.cons (fun c hc => ?_) ih
  have hab : ltP (f a) (f b) = true := h 0 (by simp)
  rcases List.mem_cons.1 hc with rfl | hc
  · exact hab
  · exact ltP_trans hab ((List.pairwise_cons.1 ih).1 c hc)
theorem okTree_asc {ns : List Nd} (h : okTree ns = true) : Asc ns := by
 unfold okTree okSorted at h
 simp only [Bool.and_eq_true, List.all_eq_true, List.mem_range] at h
 refine asc_of (fun n => n.path) ns fun j hj => ?_
 have := h.2 (j + 1) hj
 rw [okAt_succ] at this
 simp only [Bool.and_eq_true] at this
 have h2 := this.2
 rw [nAt_get (show j < ns.length by omega), nAt_get hj] at h2
 exact h2
theorem okEs_asc {es : List Ef} (h : okEs es = true) : AscE es := by
 unfold okEs at h
 simp only [List.all_eq_true, List.mem_range] at h
 refine asc_of (fun n => n.nd.path) es fun j hj => ?_
 have := h (j + 1) hj
 rw [okEAt_succ] at this
 simp only [Bool.and_eq_true] at this
 have h2 := this.2
 rw [eAt_get (show j < es.length by omega), eAt_get hj] at h2
 exact h2
theorem okTxn_es {z : Int} {es : List Ef} (h : okTxn z es = true) : okEs es = true ∧ es.length ≤ 1000 := by
 unfold okTxn at h
 simp only [Bool.and_eq_true, decide_eq_true_eq] at h
 exact ⟨h.2, h.1.2⟩
def plc (r : List Nd) (p : ByteArray) : Nat := (r.takeWhile fun m => ltP m.path p).length
def skp (r : List Nd) (p : ByteArray) : Nat := if fnd r p (plc r p) then 1 else 0
theorem plc_take (r : List Nd) (p : ByteArray) : r.take (plc r p) = r.takeWhile fun m => ltP m.path p := by
 unfold plc
 induction r with
 | nil => rfl
 | cons a r ih =>
  rw [List.takeWhile_cons]
  split
  · simp [ih]
  · simp
theorem plc_drop (r : List Nd) (p : ByteArray) : r.drop (plc r p) = r.dropWhile fun m => ltP m.path p := by
 unfold plc
 induction r with
 | nil => rfl
 | cons a r ih =>
  rw [List.takeWhile_cons, List.dropWhile_cons]
  split
  · simp [ih]
  · simp
theorem plc_le (r : List Nd) (p : ByteArray) : plc r p ≤ r.length := by
 have := congrArg List.length (plc_take r p)
 rw [List.length_take] at this
 unfold plc at this ⊢
 omega
theorem tw_lt (r : List Nd) (p : ByteArray) : ∀ a ∈ r.take (plc r p), ltP a.path p = true := by
 rw [plc_take]
 induction r with
 | nil => simp
 | cons b r ih =>
  rw [List.takeWhile_cons]
  split
  · rename_i hb
    intro a ha
    rcases List.mem_cons.1 ha with rfl | ha
    · exact hb
    · exact ih a ha
  · simp
theorem dw_not : ∀ (r : List Nd) (p : ByteArray), Asc r → ∀ a ∈ r.drop (plc r p), ltP a.path p = false := by
 intro r p h a ha
 rw [plc_drop] at ha
 induction r with
 | nil => simp at ha
 | cons b r ih =>
  rw [List.dropWhile_cons] at ha
  split at ha
  · exact ih (List.pairwise_cons.1 h).2 ha
  · rename_i hb
    have hb' : ltP b.path p = false := by simpa using hb
    rcases List.mem_cons.1 ha with rfl | ha
    · exact hb'
    · have hba := (List.pairwise_cons.1 h).1 a ha
      cases hc : ltP a.path p with
      | false => rfl
      | true => rw [ltP_trans hba hc] at hb'; exact absurd hb' (by simp)
theorem low_plc (r : List Nd) (p : ByteArray) (h : Asc r) : Low r p (plc r p) := by
 refine ⟨plc_le r p, fun i hi => ?_, fun i hi hl => ?_⟩
 · rw [cmpP_lt]
   have hl : i < r.length := Nat.lt_of_lt_of_le hi (plc_le r p)
   refine tw_lt r p _ ?_
   rw [nAt_get hl]
   exact List.mem_take_iff_getElem.2 ⟨i, by omega, rfl⟩
 · rw [cmpP_lt, dw_not r p h]
   · simp
   · rw [nAt_get hl]
     exact List.mem_drop_iff_getElem.2 ⟨i - plc r p, by omega, by congr 1; omega⟩
theorem asc_drop {r : List Nd} (h : Asc r) (k : Nat) : Asc (r.drop k) := List.Pairwise.sublist (List.drop_sublist k r) h
theorem wo_high (D : List Nd) (p : ByteArray) (h : Asc D) (hn : ∀ a ∈ D, ltP a.path p = false) : woN D p = D.drop (if (decide (0 < D.length) && ((nAt D 0).path.toList == p.toList)) then 1 else 0) := by
 cases D with
 | nil => rfl
 | cons b D =>
  have hr : ∀ a ∈ D, (a.path.toList == p.toList) = false := by
   intro a ha
   have h1 := (List.pairwise_cons.1 h).1 a ha
   have h2 := hn b (by simp)
   cases hc : a.path.toList == p.toList with
   | false => rfl
   | true =>
    rw [beq_iff_eq] at hc
    unfold ltP at h1 h2
    rw [hc] at h1
    rw [h1] at h2
    exact absurd h2 (by simp)
  have hf : woN D p = D := by
   unfold woN
   rw [List.filter_eq_self]
   intro a ha
   rw [hr a ha]
   rfl
  have e0 : nAt (b :: D) 0 = b := rfl
  rw [e0]
  unfold woN at hf ⊢
  rw [List.filter_cons]
  cases hc : b.path.toList == p.toList with
  | true => simp [hf]
  | false => simp [hf]
theorem skp_eq (r : List Nd) (p : ByteArray) : skp r p = if (decide (0 < (r.drop (plc r p)).length) && ((nAt (r.drop (plc r p)) 0).path.toList == p.toList)) then 1 else 0 := by
 unfold skp fnd
 rw [cmpP_eq, List.length_drop]
 have e : nAt (r.drop (plc r p)) 0 = nAt r (plc r p) := by unfold nAt; simp [List.getD]
 rw [e]
 have e2 : decide (plc r p < r.length) = decide (0 < r.length - plc r p) := by rw [decide_eq_decide]; omega
 rw [e2]
theorem skp_le (r : List Nd) (p : ByteArray) : skp r p ≤ 1 ∧ plc r p + skp r p ≤ r.length := by
 have h := plc_le r p
 rw [skp_eq]
 split
 · rename_i hc
   simp only [Bool.and_eq_true, decide_eq_true_eq, List.length_drop] at hc
   omega
 · omega
theorem wo_drop (r : List Nd) (p : ByteArray) (h : Asc r) : woN (r.drop (plc r p)) p = r.drop (plc r p + skp r p) := by
 rw [wo_high _ p (asc_drop h _) (dw_not r p h), ← skp_eq, List.drop_drop]
theorem wo_low (A : List Nd) (p : ByteArray) (h : ∀ a ∈ A, ltP a.path p = true) : woN A p = A := by
 unfold woN
 rw [List.filter_eq_self]
 intro a ha
 rw [ltP_ne (h a ha)]
 rfl
theorem wo_append (A B : List Nd) (p : ByteArray) : woN (A ++ B) p = woN A p ++ woN B p := by unfold woN; rw [List.filter_append]
theorem wo_all (A r : List Nd) (p : ByteArray) (hA : ∀ a ∈ A, ltP a.path p = true) (h : Asc r) : woN (A ++ r) p = A ++ r.take (plc r p) ++ r.drop (plc r p + skp r p) := by
 conv => lhs; rw [← List.take_append_drop (plc r p) r]
 rw [wo_append, wo_append, wo_low A p hA, wo_low _ p (tw_lt r p), wo_drop r p h, List.append_assoc]
theorem wi_low (n : Nd) : ∀ (A X : List Nd), (∀ a ∈ A, ltP a.path n.path = true) → A.foldl (stW n) (X, false) = (X ++ A, false)
 | [], X, _ => by simp
 | a :: A, X, h => by
  have ha := h a (by simp)
  have e : stW n (X, false) a = (X ++ [a], false) := by
   have h1 : Op.bytesLess a.path.toList n.path.toList = true := ha
   unfold stW
   rw [ltP_ne ha, h1]
   rfl
  rw [List.foldl_cons, e, wi_low n A _ (fun b hb => h b (List.mem_cons_of_mem _ hb))]
  simp
theorem wi_done (n : Nd) : ∀ (A X : List Nd), (A.foldl (stW n) (X, true)) = (X ++ woN A n.path, true)
 | [], X => by simp [woN]
 | a :: A, X => by
  have e : stW n (X, true) a = (X ++ woN [a] n.path, true) := by
   unfold stW woN
   rw [List.filter_cons]
   cases hc : a.path.toList == n.path.toList <;> simp
  rw [List.foldl_cons, e, wi_done n A, show a :: A = [a] ++ A from rfl, wo_append, List.append_assoc]
theorem wi_high (n : Nd) (D X : List Nd) (hn : ∀ a ∈ D, ltP a.path n.path = false) :
    (let f := D.foldl (stW n) (X, false); if f.2 then f.1 else f.1 ++ [n]) = X ++ n :: woN D n.path := by
 cases D with
 | nil => simp [woN]
 | cons b D =>
  have hb : Op.bytesLess b.path.toList n.path.toList = false := hn b (by simp)
  have e : stW n (X, false) b = (X ++ n :: woN [b] n.path, true) := by
   unfold stW woN
   rw [hb, List.filter_cons]
   cases hc : b.path.toList == n.path.toList <;> simp
  have e2 : (b :: D).foldl (stW n) (X, false) = (X ++ n :: woN (b :: D) n.path, true) := by
   rw [List.foldl_cons, e, wi_done, show b :: D = [b] ++ D from rfl, wo_append]
   simp
  simp only [e2, if_true]
theorem wi_all (A r : List Nd) (n : Nd) (hA : ∀ a ∈ A, ltP a.path n.path = true) (h : Asc r) : wiN (A ++ r) n = A ++ r.take (plc r n.path) ++ n :: r.drop (plc r n.path + skp r n.path) := by
 unfold wiN wiF
 conv => lhs; rw [← List.take_append_drop (plc r n.path) r]
 rw [← List.append_assoc, List.foldl_append, wi_low n (A ++ r.take (plc r n.path)) [] (by
  intro a ha
  rcases List.mem_append.1 ha with ha | ha
  · exact hA a ha
  · exact tw_lt r _ a ha)]
 have := wi_high n (r.drop (plc r n.path)) ([] ++ (A ++ r.take (plc r n.path))) (dw_not r _ h)
 simp only at this
 rw [this, wo_drop r _ h]
 simp
def apS (st : List Nd × List Nd) (e : Ef) : List Nd × List Nd :=
 (st.1 ++ st.2.take (plc st.2 e.nd.path) ++ (if e.del then [] else [e.nd]), st.2.drop (plc st.2 e.nd.path + skp st.2 e.nd.path))
def apI (ns : List Nd) (es : List Ef) : List Nd × List Nd := es.foldl apS ([], ns)
def apQ (ns : List Nd) (e : Ef) : List Nd := if e.del then woN ns e.nd.path else wiN ns e.nd
def apL (ns : List Nd) (es : List Ef) : List Nd := es.foldl apQ ns
theorem apS_apQ (st : List Nd × List Nd) (e : Ef) (hA : ∀ a ∈ st.1, ltP a.path e.nd.path = true) (h : Asc st.2) : apQ (st.1 ++ st.2) e = (apS st e).1 ++ (apS st e).2 := by
 unfold apQ apS
 cases e.del with
 | true => simp [wo_all _ _ _ hA h]
 | false => simp [wi_all _ _ _ hA h]
theorem ap_eq : ∀ (es : List Ef) (st : List Nd × List Nd), AscE es → (∀ a ∈ st.1, ∀ e ∈ es, ltP a.path e.nd.path = true) → Asc st.2 →
    (es.foldl apS st).1 ++ (es.foldl apS st).2 = es.foldl apQ (st.1 ++ st.2)
 | [], _, _, _, _ => rfl
 | e :: es, st, h, hA, hr => by
  have h' := List.pairwise_cons.1 h
  rw [List.foldl_cons, List.foldl_cons, apS_apQ st e (fun a ha => hA a ha e (by simp)) hr]
  refine ap_eq es (apS st e) h'.2 (fun a ha f hf => ?_) (asc_drop hr _)
  have hef := h'.1 f hf
  unfold apS at ha
  rcases List.mem_append.1 ha with ha | ha
  · rcases List.mem_append.1 ha with ha | ha
    · exact hA a ha f (List.mem_cons_of_mem _ hf)
    · exact ltP_trans (tw_lt _ _ a ha) hef
  · split at ha
    · simp at ha
    · rw [List.mem_singleton] at ha
      rw [ha]
      exact hef
theorem apI_eq {ns : List Nd} {es : List Ef} (h : Asc ns) (he : AscE es) : (apI ns es).1 ++ (apI ns es).2 = apL ns es := ap_eq es ([], ns) he (fun a ha => by simp at ha) h
theorem apI_succ (ns : List Nd) (es : List Ef) (k : Nat) (h : k < es.length) : apI ns (es.take (k + 1)) = apS (apI ns (es.take k)) (eAt es k) := by
 unfold apI
 rw [List.take_succ_eq_append_getElem h, List.foldl_append, eAt_get h]
 rfl
theorem apL_succ (ns : List Nd) (es : List Ef) (k : Nat) (h : k < es.length) : apL ns (es.take (k + 1)) = apQ (apL ns (es.take k)) (eAt es k) := by
 unfold apL
 rw [List.take_succ_eq_append_getElem h, List.foldl_append, eAt_get h]
 rfl
theorem apS_len (st : List Nd × List Nd) (e : Ef) : (apS st e).1.length + (apS st e).2.length ≤ st.1.length + st.2.length + 1 := by
 unfold apS
 have h := plc_le st.2 e.nd.path
 simp only [List.length_append, List.length_take, List.length_drop]
 split <;> simp <;> omega
theorem apI_len : ∀ (ns : List Nd) (es : List Ef) (k : Nat), (apI ns (es.take k)).1.length + (apI ns (es.take k)).2.length ≤ ns.length + k
 | ns, es, 0 => by simp [apI]
 | ns, es, k + 1 => by
  have ih := apI_len ns es k
  by_cases h : k < es.length
  · rw [apI_succ ns es k h]
    have := apS_len (apI ns (es.take k)) (eAt es k)
    omega
  · rw [List.take_of_length_le (by omega)] at ih ⊢
    omega
theorem apI_asc {ns : List Nd} (h : Asc ns) (es : List Ef) : Asc (apI ns es).2 := by
 unfold apI
 have : ∀ (es : List Ef) (st : List Nd × List Nd), Asc st.2 → Asc (es.foldl apS st).2 := by
  intro es
  induction es with
  | nil => exact fun st h => h
  | cons e es ih => exact fun st h => by rw [List.foldl_cons]; exact ih _ (asc_drop h _)
 exact this es _ h
theorem ascE_take {es : List Ef} (h : AscE es) (k : Nat) : AscE (es.take k) := List.Pairwise.sublist (List.take_sublist k es) h
theorem apL_len {ns : List Nd} {es : List Ef} (h : Asc ns) (he : AscE es) (k : Nat) : (apL ns (es.take k)).length ≤ ns.length + k := by
 rw [← apI_eq h (ascE_take he k), List.length_append]
 exact apI_len ns es k
theorem apI_all {ns : List Nd} {es : List Ef} {k : Nat} (h : Asc ns) (he : AscE es) (hk : es.length = k) : (apI ns (es.take k)).1 ++ (apI ns (es.take k)).2 = apL ns es := by
 rw [List.take_of_length_le (by omega)]
 exact apI_eq h he
def resA (ns : List Nd) (z : Int) (es : List Ef) : List Nd := if okTree ns && okTxn z es then apL ns es else []
theorem resA_len (ns : List Nd) (z : Int) (es : List Ef) : (resA ns z es).length ≤ 2000 := by
 unfold resA
 split
 · rename_i h
   simp only [Bool.and_eq_true] at h
   have h1 := okTree_len h.1
   have h2 := okTxn_es h.2
   have := apL_len (okTree_asc h.1) (okEs_asc h2.1) es.length
   rw [List.take_of_length_le (Nat.le_refl _)] at this
   omega
 · simp
theorem wo_empty {ns : List Nd} (h : ∀ k, k < ns.length → okNd (nAt ns k) = true) (p : ByteArray) (hp : p.toList = []) : woN ns p = ns := by
 unfold woN
 rw [List.filter_eq_self]
 intro a ha
 obtain ⟨k, hk, e⟩ := List.getElem_of_mem ha
 have hn := h k hk
 rw [nAt_get hk, e] at hn
 have hpath : okPath a.path = true := by
  unfold okNd at hn
  simp only [Bool.and_eq_true] at hn
  exact hn.1.1.1.1.1.1
 have : ¬ a.path.toList = [] := by
  intro hc
  have hd : a.path.data.toList = [] := by rw [← ByteArray.toList_eq]; exact hc
  have hs : a.path.size = 0 := by
   have := congrArg List.length hd
   simpa using this
  by_cases h47 : a.path.data.toList = [47]
  · rw [hd] at h47; simp at h47
  · rw [okPath_not h47] at hpath
    simp only [Bool.and_eq_true, decide_eq_true_eq] at hpath
    omega
 rw [hp]
 cases hc : a.path.toList == [] with
 | false => rfl
 | true => rw [beq_iff_eq] at hc; exact absurd hc this
end Go.Proofs.YtcopcegamadkgaaGreatDoor
namespace Go.Proofs.YtcopcegamadkgaaGreatDoor
open Go.RowKit Go.Shelf
theorem asc_wo {ns : List Nd} (h : Asc ns) (p : ByteArray) : Asc (woN ns p) := List.Pairwise.sublist List.filter_sublist h
theorem ltP_irr (p : ByteArray) : ltP p p = false := by
 cases h : ltP p p with
 | false => rfl
 | true => have := ltP_ne h; simp at this
theorem wi_form {ns : List Nd} (n : Nd) (h : Asc ns) : wiN ns n = ns.take (plc ns n.path) ++ n :: ns.drop (plc ns n.path + skp ns n.path) := by
 have := wi_all [] ns n (fun a ha => by simp at ha) h
 simpa using this
theorem dw_gt {ns : List Nd} (h : Asc ns) (p : ByteArray) : ∀ a ∈ ns.drop (plc ns p + skp ns p), ltP p a.path = true ∧ (a.path.toList == p.toList) = false := by
 intro a ha
 rw [← wo_drop ns p h] at ha
 obtain ⟨h1, h2⟩ := List.mem_filter.1 ha
 have h3 : (a.path.toList == p.toList) = false := by simpa using h2
 exact ⟨ltP_total (dw_not ns p h a h1) h3, h3⟩
theorem asc_wi {ns : List Nd} (h : Asc ns) (n : Nd) : Asc (wiN ns n) := by
 rw [wi_form n h]
 unfold Asc
 rw [List.pairwise_append, List.pairwise_cons]
 refine ⟨List.Pairwise.sublist (List.take_sublist _ _) h, ⟨fun a ha => (dw_gt h n.path a ha).1, List.Pairwise.sublist (List.drop_sublist _ _) h⟩, ?_⟩
 intro a ha b hb
 have h1 := tw_lt ns n.path a ha
 rcases List.mem_cons.1 hb with rfl | hb
 · exact h1
 · exact ltP_trans h1 (dw_gt h n.path b hb).1
theorem wi_len9 {ns : List Nd} (h : Asc ns) (n : Nd) : (wiN ns n).length = ns.length + 1 - skp ns n.path := by
 have := skp_le ns n.path
 rw [wi_form n h]
 simp only [List.length_append, List.length_cons, List.length_take, List.length_drop]
 have := plc_le ns n.path
 omega
theorem skp_one {ns : List Nd} (h : Asc ns) {p : ByteArray} (hf : ∃ a ∈ ns, (a.path.toList == p.toList) = true) : skp ns p = 1 := by
 obtain ⟨a, ha, he⟩ := hf
 have h1 := skp_le ns p
 by_cases h0 : skp ns p = 0
 · exfalso
   rw [← List.take_append_drop (plc ns p) ns] at ha
   rcases List.mem_append.1 ha with ha | ha
   · have := ltP_ne (tw_lt ns p a ha)
     rw [this] at he; cases he
   · have := (dw_gt h p a (by rw [h0]; exact ha)).2
     rw [this] at he; cases he
 · omega
theorem found_mem {ns : List Nd} {p : ByteArray} (h : ns.findIdx (isP p) < ns.length) : nAt ns (ns.findIdx (isP p)) ∈ ns ∧ ((nAt ns (ns.findIdx (isP p))).path.toList == p.toList) = true := by
 rw [nAt_get h]
 exact ⟨List.getElem_mem h, List.findIdx_getElem (w := h)⟩
def Snd (ns : List Nd) : Prop := Asc ns ∧ (∀ n ∈ ns, okNd n = true) ∧ ns.length ≤ 1000
theorem okTree_snd {ns : List Nd} : okTree ns = true ↔ Snd ns := by
 constructor
 · intro h
   refine ⟨okTree_asc h, ?_, okTree_len h⟩
   intro n hn
   obtain ⟨i, hi, rfl⟩ := List.mem_iff_getElem.1 hn
   have := okTree_nd h i hi
   rwa [nAt_get hi] at this
 · rintro ⟨h1, h2, h3⟩
   unfold okTree
   rw [decide_eq_true h3, Bool.true_and]
   refine sorted_yes fun k hk => ?_
   cases k with
   | zero => rw [okAt_zero, nAt_get hk]; exact h2 _ (List.getElem_mem hk)
   | succ k =>
    rw [okAt_succ, nAt_get hk, nAt_get (show k < ns.length by omega), h2 _ (List.getElem_mem hk), Bool.true_and]
    exact List.pairwise_iff_getElem.1 h1 k (k + 1) (by omega) hk (by omega)
theorem Snd.wo {ns : List Nd} (h : Snd ns) (p : ByteArray) : Snd (woN ns p) :=
 ⟨asc_wo h.1 p, fun n hn => h.2.1 n (List.mem_filter.1 hn).1, Nat.le_trans (List.length_filter_le ..) h.2.2⟩
theorem Snd.wi {ns : List Nd} (h : Snd ns) {n : Nd} (hn : okNd n = true) (hl : ns.length < 1000 ∨ ∃ a ∈ ns, (a.path.toList == n.path.toList) = true) : Snd (wiN ns n) := by
 refine ⟨asc_wi h.1 n, fun m hm => ?_, ?_⟩
 · rcases wi_mem hm with h1 | rfl
   · exact h.2.1 m h1
   · exact hn
 · rw [wi_len9 h.1 n]
   have := h.2.2
   rcases hl with hl | hl
   · omega
   · rw [skp_one h.1 hl]; omega
theorem okS_mor {v : Int} (h : okS v = true) : okS (mor v) = true := by
 unfold okS mor at *
 simp only [Bool.and_eq_true, decide_eq_true_eq] at *
 split <;> omega
theorem Snd.touch {ns : List Nd} (h : Snd ns) (p : ByteArray) {z : Int} (hz : okS z = true) : Snd (toN ns p z) := by
 unfold toN
 split
 · rename_i hf
   obtain ⟨h1, h2⟩ := found_mem hf
   refine h.wi ?_ (.inr ⟨_, h1, by simp⟩)
   have h3 := h.2.1 _ h1
   unfold okNd at h3 ⊢
   simp only [Bool.and_eq_true] at h3 ⊢
   obtain ⟨⟨⟨⟨⟨⟨a1, a2⟩, a3⟩, a4⟩, a5⟩, a6⟩, a7⟩ := h3
   exact ⟨⟨⟨⟨⟨⟨a1, a2⟩, a3⟩, okS_mor a4⟩, a5⟩, a6⟩, hz⟩
 · exact h
theorem doO_snd {ns : List Nd} (h : Snd ns) (o : Op5) {z : Int} (hz : okS z = true) : Snd (doO ns o z).2.1 := by
 unfold doO
 split
 · exact h
 rename_i hw
 have hw' : wfO o = true := by simpa using hw
 have hd : o.data.size ≤ 64 := by
  unfold wfO at hw'
  simp only [Bool.and_eq_true, decide_eq_true_eq] at hw'
  exact hw'.1.1.2
 split
 · split
   · exact h
   split
   · exact h
   rename_i hp
   split
   · exact h
   split
   · exact h
   rename_i hl
   refine Snd.touch (h.wi ?_ (.inl (by have := h.2.2; omega))) _ hz
   have hp' : okPath (nameO ns o) = true := by simpa using hp
   unfold okNd
   simp only [Bool.and_eq_true, decide_eq_true_eq]
   exact ⟨⟨⟨⟨⟨⟨hp', hd⟩, by decide⟩, by decide⟩, hz⟩, hz⟩, hz⟩
 · split
   · exact h
   rename_i hf
   split
   · exact h
   split
   · split
     · exact h
     · exact (h.wo _).touch _ hz
   split
   · obtain ⟨h1, h2⟩ := found_mem (show ns.findIdx (isP o.path) < ns.length by omega)
     refine h.wi ?_ (.inr ⟨_, h1, by simp⟩)
     have h3 := h.2.1 _ h1
     unfold okNd at h3 ⊢
     simp only [Bool.and_eq_true, decide_eq_true_eq] at h3 ⊢
     obtain ⟨⟨⟨⟨⟨⟨a1, a2⟩, a3⟩, a4⟩, a5⟩, a6⟩, a7⟩ := h3
     exact ⟨⟨⟨⟨⟨⟨a1, hd⟩, okS_mor a3⟩, a4⟩, a5⟩, hz⟩, a7⟩
   · exact h
def delE (a : Nd) : Ef := ⟨true, { nd0 with path := a.path }⟩
def putE (b : Nd) : Ef := ⟨false, b⟩
def eqNd (a b : Nd) : Bool := (a.path.toList == b.path.toList) && ((a.data.toList == b.data.toList) && ((a.ver == b.ver) && ((a.cver == b.cver) && ((a.cz == b.cz) && ((a.mz == b.mz) && (a.pz == b.pz))))))
def dif : List Nd → List Nd → List Ef
 | [], now => now.map putE
 | a :: was, [] => (a :: was).map delE
 | a :: was, b :: now =>
  if ltP b.path a.path then putE b :: dif (a :: was) now
  else if ltP a.path b.path then delE a :: dif was (b :: now)
  else if eqNd a b then dif was now else putE b :: dif was now
theorem dif_len (A B : List Nd) : (dif A B).length ≤ A.length + B.length := by
 fun_induction dif A B <;> simp_all <;> omega
theorem drop_nAt {A : List Nd} {i : Nat} (h : i < A.length) : A.drop i = nAt A i :: A.drop (i + 1) := by rw [nAt_get h]; exact (List.drop_eq_getElem_cons h)
theorem dif_nil (A B : List Nd) (i j : Nat) (hi : A.length ≤ i) (hj : j < B.length) : dif (A.drop i) (B.drop j) = putE (nAt B j) :: dif (A.drop i) (B.drop (j + 1)) := by
 rw [List.drop_of_length_le hi, drop_nAt hj]
 simp [dif]
theorem dif_del (A B : List Nd) (i j : Nat) (hi : i < A.length) (hj : B.length ≤ j) : dif (A.drop i) (B.drop j) = delE (nAt A i) :: dif (A.drop (i + 1)) (B.drop j) := by
 rw [List.drop_of_length_le hj, drop_nAt hi]
 cases h : A.drop (i + 1) with
 | nil => simp [dif]
 | cons a l => simp [dif]
theorem dif_lt (A B : List Nd) (i j : Nat) (hi : i < A.length) (hj : j < B.length) (h : ltP (nAt B j).path (nAt A i).path = true) : dif (A.drop i) (B.drop j) = putE (nAt B j) :: dif (A.drop i) (B.drop (j + 1)) := by
 rw [drop_nAt hi, drop_nAt hj, dif, if_pos h]
theorem dif_gt (A B : List Nd) (i j : Nat) (hi : i < A.length) (hj : j < B.length) (h : ltP (nAt B j).path (nAt A i).path = false) (h2 : ltP (nAt A i).path (nAt B j).path = true) : dif (A.drop i) (B.drop j) = delE (nAt A i) :: dif (A.drop (i + 1)) (B.drop j) := by
 rw [drop_nAt hi, drop_nAt hj, dif, if_neg (by simp [h]), if_pos h2]
theorem dif_eq (A B : List Nd) (i j : Nat) (hi : i < A.length) (hj : j < B.length) (h : ltP (nAt B j).path (nAt A i).path = false) (h2 : ltP (nAt A i).path (nAt B j).path = false) : dif (A.drop i) (B.drop j) = (if eqNd (nAt A i) (nAt B j) then [] else [putE (nAt B j)]) ++ dif (A.drop (i + 1)) (B.drop (j + 1)) := by
 rw [drop_nAt hi, drop_nAt hj, dif, if_neg (by simp [h]), if_neg (by simp [h2])]
 split <;> rfl
theorem erowP_one (ns : List Ef) (n : Ef) : erow (ns ++ [n]) = erow ns ++ efL n := by rw [erow_append]; simp [erow]
theorem efLP_cells (w : World) (n : Ef) (t : TypeId) : ∀ j u, (efL n)[j]? = some u → (w.alloc (.cells #[.bool n.del, .string n.nd.path, .string n.nd.data, .int .i64 n.nd.ver, .int .i64 n.nd.cver, .int .i64 n.nd.cz, .int .i64 n.nd.mz, .int .i64 n.nd.pz] t)).cell? ((⟨w.heap.size, 0, none⟩ : Addr).add j) = some u := by
 intro j u hj
 rw [Addr.add_lit, Nat.zero_add, cell_of (heap_alloc_new w _) j, ← hj]
 simp [efL]
theorem efLP_one (n : Ef) : ∀ u ∈ efL n, u.oneCell' = true := by
 intro u hu
 simp only [efL, List.mem_cons, List.mem_nil_iff, or_false] at hu
 rcases hu with rfl | rfl | rfl | rfl | rfl | rfl | rfl | rfl <;> rfl
theorem Tryz.infoEP : (Tryz.prog.info? 139).map (fun i => (i.zero, i.size, i.bytes)) = some (some (.agg #[.bool false, .string ByteArray.empty, .string ByteArray.empty, .int .i64 0, .int .i64 0, .int .i64 0, .int .i64 0, .int .i64 0]), 8, 80) := by kernel_rfl
theorem OwnE.snocP {W w5 w : World} {vo v5 : Value} {acc : List Ef} {f : Ef} {ob : Obj} (ho : OwnE 139 W w.heap.size vo acc) (hb : Below w.heap.size w W) (ho5 : w5.ownsRow w.heap.size 139 8 v5 (acc.length + 1) (erow acc ++ efL f)) (hg5 : (W.alloc ob).grownBy w5 vo.ownBlock) : OwnE 139 w5 w.heap.size v5 (acc ++ [f]) ∧ Below w.heap.size w w5 := by
 refine ⟨?_, (hb.alloc hb.size _).grown hg5 (by have := hb.size; simp; omega) (fun q hq => (World.ownsRow.lt ho q hq).1)⟩
 unfold OwnE
 rw [List.length_append, erowP_one]
 exact ho5
theorem l3Diff_any (w : World) (va vb : Value) (Al Bl : List Nd) (ha : RdN w va Al) (hb : RdN w vb Bl) (hna : Al.length ≤ 1000) (hnb : Bl.length ≤ 1000) :
    Calls Tryz.prog 134 #[va, vb] w fun e w' => ∃ v', e = .returned v' ∧ OwnE 139 w' w.heap.size v' (dif Al Bl) ∧ Below w.heap.size w w' := by
 obtain ⟨i0, hi0, hz0, hz1, hz2⟩ := info_parts Tryz.infoEP
 obtain ⟨ao, ca, rfl, _, _⟩ := ha.len
 obtain ⟨bo, cb, rfl, _, _⟩ := hb.len
 have HA : Hid (RdN w (.slice ao Al.length ca) Al) := ha
 have HB' : Hid (RdN w (.slice bo Bl.length cb) Bl) := hb
 have hdl := dif_len Al Bl
 clear ha hb
 go_enter Tryz.func134, Tryz.ntmps134
 have O0 : Hid (OwnE 139 (w.alloc (.cells #[] 139)) w.heap.size (.slice (some ⟨w.heap.size, 0, none⟩) 0 0) []) := World.ownsRow_lit w #[] 0 (Nat.le_refl _) (Nat.zero_le _) rfl
 have B0 : Hid (Below w.heap.size w (w.alloc (.cells #[] 139))) := (Below.refl _ _).alloc (Nat.le_refl _) _
 have HCA : Hid (∀ i, i < Al.length → ∃ b o, ao = some ⟨b, o, none⟩ ∧ b < w.heap.size ∧ CellsN w b (o + i * 7) (nAt Al i)) := by
  intro i hia
  obtain ⟨ao', cap', e', -, -, h3⟩ := HA.out
  simp only [Value.slice.injEq] at e'
  obtain ⟨rfl, -, -⟩ := e'
  rcases h3 with h3 | ⟨b, o, rfl, hb, hc⟩
  · rw [h3] at hia; simp at hia
  · exact ⟨b, o, rfl, hb, hc i hia⟩
 have HCB : Hid (∀ i, i < Bl.length → ∃ b o, bo = some ⟨b, o, none⟩ ∧ b < w.heap.size ∧ CellsN w b (o + i * 7) (nAt Bl i)) := by
  intro i hia
  obtain ⟨ao', cap', e', -, -, h3⟩ := HB'.out
  simp only [Value.slice.injEq] at e'
  obtain ⟨rfl, -, -⟩ := e'
  rcases h3 with h3 | ⟨b, o, rfl, hb, hc⟩
  · rw [h3] at hia; simp at hia
  · exact ⟨b, o, rfl, hb, hc i hia⟩
 clear HA HB'
 go_wp2
 go_loopw [5, 6, 7] (fun vo vi vj wr => ∃ (i j : Nat) (acc : List Ef), i ≤ Al.length ∧ j ≤ Bl.length ∧ vi = .int .i64 (i : Int) ∧ vj = .int .i64 (j : Int) ∧ Hid (acc ++ dif (Al.drop i) (Bl.drop j) = dif Al Bl) ∧ Hid (OwnE 139 wr w.heap.size vo acc) ∧ Hid (Below w.heap.size w wr)) (fun _ i j _ => (Al.length - (intOf i).toNat) + (Bl.length - (intOf j).toNat))
 case atStart => exact ⟨0, 0, [], Nat.zero_le _, Nat.zero_le _, rfl, rfl, rfl, O0, B0⟩
 case round =>
  clear O0 B0
  obtain ⟨i, j, acc, hi, hj, rfl, rfl, HD, HO, HB⟩ := hrel
  have sB := HB.out.size
  have hacc : acc.length ≤ 2000 := by
   have := congrArg List.length HD.out
   rw [List.length_append] at this
   omega
  by_cases hia : i < Al.length
  · have hiaI : (i : Int) < (Al.length : Int) := by omega
    have hieq : ((i : Int) == (Al.length : Int)) = false := beq_eq_false_iff_ne.2 (by omega)
    obtain ⟨ab, ai, hao, hab, hac⟩ := HCA.out i hia
    subst hao
    obtain ⟨a0, a1, a2, a3, a4, a5, a6⟩ := hac.below HB.out hab
    have HAC : Hid (CellsN w ab (ai + i * 7) (nAt Al i)) := hac
    clear hac
    by_cases hjb : j < Bl.length
    · have hjbI : (j : Int) < (Bl.length : Int) := by omega
      have hjeq : ((j : Int) == (Bl.length : Int)) = false := beq_eq_false_iff_ne.2 (by omega)
      obtain ⟨bb, bi, hbo, hbb, hbc⟩ := HCB.out j hjb
      subst hbo
      obtain ⟨c0, c1, c2, c3, c4, c5, c6⟩ := hbc.below HB.out hbb
      have HBC : Hid (CellsN w bb (bi + j * 7) (nAt Bl j)) := hbc
      clear hbc
      cases hl1 : ltP (nAt Bl j).path (nAt Al i).path with
      | true =>
       have HD2 : Hid (acc ++ [putE (nAt Bl j)] ++ dif (Al.drop i) (Bl.drop (j + 1)) = dif Al Bl) := by
        show _ = _
        rw [← HD.out, dif_lt Al Bl i j hia hjb hl1, List.append_assoc]
        rfl
       have hless : Op.bytesLess (nAt Bl j).path.toList (nAt Al i).path.toList = true := hl1
       generalize nAt Bl j = nb at *
       generalize nAt Al i = na at *
       clear HD
       go_wp2
       go_quiet (fail)
       have HO9 : Hid (OwnE 139 (wr.drewN nq) w.heap.size u5 acc) := HO.out.below (below_drewN' wr nq)
       have HB9 : Hid (Below w.heap.size w (wr.drewN nq)) := HB.out.trans ((below_drewN' wr nq).mono sB)
       go_wp2_with (at_builtin; go_must (refine wpList_append_own _ rfl _ _ 76 rfl w.heap.size 139 i0 (.agg #[.bool false, .string ByteArray.empty, .string ByteArray.empty, .int .i64 0, .int .i64 0, .int .i64 0, .int .i64 0, .int .i64 0]) 8 80 Tryz.underlying76 hi0 hz0 hz1 hz2 rfl (by decide) _ _ _ rfl (HO9.out.alloc _) ⟨(wr.drewN nq).heap.size, 0, none⟩ 1 1 (efL (putE nb)) rfl rfl (efLP_cells _ _ _) (efLP_one _) ?_ ?_ ?_ ?_))
       · unfold maxLen; omega
       · omega
       · simp; omega
       intro v5 w5 ho5 hg5 _
       obtain ⟨o5, b5⟩ := HO9.out.snocP HB9.out ho5 hg5
       have O5 : Hid (OwnE 139 w5 w.heap.size v5 (acc ++ [putE nb])) := o5
       have B5 : Hid (Below w.heap.size w w5) := b5
       clear o5 b5 ho5 hg5 HO HB HO9 HB9 a0 a1 a2 a3 a4 a5 a6 c0 c1 c2 c3 c4 c5 c6
       go_wp2
       exact ⟨⟨i, j + 1, _, by omega, by omega, by go_num, by go_num, HD2, O5, B5⟩, by simp [intOf]; omega⟩
      | false =>
       have hless : Op.bytesLess (nAt Bl j).path.toList (nAt Al i).path.toList = false := hl1
       cases hl2 : ltP (nAt Al i).path (nAt Bl j).path with
       | true =>
        have HD2 : Hid (acc ++ [delE (nAt Al i)] ++ dif (Al.drop (i + 1)) (Bl.drop j) = dif Al Bl) := by
         show _ = _
         rw [← HD.out, dif_gt Al Bl i j hia hjb hl1 hl2, List.append_assoc]
         rfl
        have hless2 : Op.bytesLess (nAt Al i).path.toList (nAt Bl j).path.toList = true := hl2
        generalize nAt Bl j = nb at *
        generalize nAt Al i = na at *
        clear HD hl1 hl2
        go_wp2
        go_quiet (fail)
        have HO1 : Hid (OwnE 139 (wr.drewN nq) w.heap.size u5 acc) := HO.out.below (below_drewN' wr nq)
        have HB1 : Hid (Below w.heap.size w (wr.drewN nq)) := HB.out.trans ((below_drewN' wr nq).mono sB)
        clear a0 a1 a2 a3 a4 a5 a6 c0 c1 c2 c3 c4 c5 c6 HO HB sB
        generalize wr.drewN nq = w7 at *
        have sB := HB1.out.size
        obtain ⟨a0, a1, a2, a3, a4, a5, a6⟩ := HAC.out.below HB1.out hab
        obtain ⟨c0, c1, c2, c3, c4, c5, c6⟩ := HBC.out.below HB1.out hbb
        go_wp2
        go_quiet (fail)
        have HO9 : Hid (OwnE 139 (w7.drewN nq) w.heap.size u5 acc) := HO1.out.below (below_drewN' w7 nq)
        have HB9 : Hid (Below w.heap.size w (w7.drewN nq)) := HB1.out.trans ((below_drewN' w7 nq).mono sB)
        go_wp2_with (at_builtin; go_must (refine wpList_append_own _ rfl _ _ 76 rfl w.heap.size 139 i0 (.agg #[.bool false, .string ByteArray.empty, .string ByteArray.empty, .int .i64 0, .int .i64 0, .int .i64 0, .int .i64 0, .int .i64 0]) 8 80 Tryz.underlying76 hi0 hz0 hz1 hz2 rfl (by decide) _ _ _ rfl (HO9.out.alloc _) ⟨(w7.drewN nq).heap.size, 0, none⟩ 1 1 (efL (delE na)) rfl rfl (efLP_cells _ _ _) (efLP_one _) ?_ ?_ ?_ ?_))
        · unfold maxLen; omega
        · omega
        · simp; omega
        intro v5 w5 ho5 hg5 _
        obtain ⟨o5, b5⟩ := HO9.out.snocP HB9.out ho5 hg5
        have O5 : Hid (OwnE 139 w5 w.heap.size v5 (acc ++ [delE na])) := o5
        have B5 : Hid (Below w.heap.size w w5) := b5
        clear o5 b5 ho5 hg5 HO1 HB1 HO9 HB9 a0 a1 a2 a3 a4 a5 a6 c0 c1 c2 c3 c4 c5 c6
        go_wp2
        exact ⟨⟨i + 1, j, _, by omega, by omega, by go_num, by go_num, HD2, O5, B5⟩, by simp [intOf]; omega⟩
       | false =>
        have hless2 : Op.bytesLess (nAt Al i).path.toList (nAt Bl j).path.toList = false := hl2
        have HD1 := dif_eq Al Bl i j hia hjb hl1 hl2
        have HD3 : Hid (acc ++ (if eqNd (nAt Al i) (nAt Bl j) then [] else [putE (nAt Bl j)]) ++ dif (Al.drop (i + 1)) (Bl.drop (j + 1)) = dif Al Bl) := by
         show _ = _
         rw [← HD.out, HD1, List.append_assoc]
        generalize nAt Bl j = nb at *
        generalize nAt Al i = na at *
        clear HD hl1 hl2 HD1
        go_wp2
        go_quiet (fail)
        have HO1 : Hid (OwnE 139 (wr.drewN nq) w.heap.size u5 acc) := HO.out.below (below_drewN' wr nq)
        have HB1 : Hid (Below w.heap.size w (wr.drewN nq)) := HB.out.trans ((below_drewN' wr nq).mono sB)
        clear a0 a1 a2 a3 a4 a5 a6 c0 c1 c2 c3 c4 c5 c6 HO HB sB
        generalize wr.drewN nq = w7 at *
        have sB := HB1.out.size
        obtain ⟨a0, a1, a2, a3, a4, a5, a6⟩ := HAC.out.below HB1.out hab
        obtain ⟨c0, c1, c2, c3, c4, c5, c6⟩ := HBC.out.below HB1.out hbb
        go_wp2
        go_quiet (fail)
        have HO2 : Hid (OwnE 139 (w7.drewN nq) w.heap.size u5 acc) := HO1.out.below (below_drewN' w7 nq)
        have HB2 : Hid (Below w.heap.size w (w7.drewN nq)) := HB1.out.trans ((below_drewN' w7 nq).mono sB)
        clear a0 a1 a2 a3 a4 a5 a6 c0 c1 c2 c3 c4 c5 c6 HO1 HB1 sB
        generalize w7.drewN nq = w8 at *
        have sB := HB2.out.size
        obtain ⟨a0, a1, a2, a3, a4, a5, a6⟩ := HAC.out.below HB2.out hab
        obtain ⟨c0, c1, c2, c3, c4, c5, c6⟩ := HBC.out.below HB2.out hbb
        go_wp2
        cases e0 : (na.path.toList == nb.path.toList) with
        | false =>
         have HD2 : Hid (acc ++ [putE nb] ++ dif (Al.drop (i + 1)) (Bl.drop (j + 1)) = dif Al Bl) := by
          have h9 := HD3.out
          rw [if_neg (by unfold eqNd; rw [e0]; simp)] at h9
          exact h9
         clear HD3
         go_quiet (fail)
         have HO9 : Hid (OwnE 139 (w8.drewN nq) w.heap.size u5 acc) := HO2.out.below (below_drewN' w8 nq)
         have HB9 : Hid (Below w.heap.size w (w8.drewN nq)) := HB2.out.trans ((below_drewN' w8 nq).mono sB)
         go_wp2_with (at_builtin; go_must (refine wpList_append_own _ rfl _ _ 76 rfl w.heap.size 139 i0 (.agg #[.bool false, .string ByteArray.empty, .string ByteArray.empty, .int .i64 0, .int .i64 0, .int .i64 0, .int .i64 0, .int .i64 0]) 8 80 Tryz.underlying76 hi0 hz0 hz1 hz2 rfl (by decide) _ _ _ rfl (HO9.out.alloc _) ⟨(w8.drewN nq).heap.size, 0, none⟩ 1 1 (efL (putE nb)) rfl rfl (efLP_cells _ _ _) (efLP_one _) ?_ ?_ ?_ ?_))
         · unfold maxLen; omega
         · omega
         · simp; omega
         intro v5 w5 ho5 hg5 _
         obtain ⟨o5, b5⟩ := HO9.out.snocP HB9.out ho5 hg5
         have O5 : Hid (OwnE 139 w5 w.heap.size v5 (acc ++ [putE nb])) := o5
         have B5 : Hid (Below w.heap.size w w5) := b5
         clear o5 b5 ho5 hg5 HO2 HB2 HO9 HB9 a0 a1 a2 a3 a4 a5 a6 c0 c1 c2 c3 c4 c5 c6
         go_wp2
         exact ⟨⟨i + 1, j + 1, _, by omega, by omega, by go_num, by go_num, HD2, O5, B5⟩, by simp [intOf]; omega⟩
        | true =>
         cases e1 : (na.data.toList == nb.data.toList) with
         | false =>
          have HD2 : Hid (acc ++ [putE nb] ++ dif (Al.drop (i + 1)) (Bl.drop (j + 1)) = dif Al Bl) := by
           have h9 := HD3.out
           rw [if_neg (by unfold eqNd; rw [e0, e1]; simp)] at h9
           exact h9
          clear HD3
          go_quiet (fail)
          have HO9 : Hid (OwnE 139 (w8.drewN nq) w.heap.size u5 acc) := HO2.out.below (below_drewN' w8 nq)
          have HB9 : Hid (Below w.heap.size w (w8.drewN nq)) := HB2.out.trans ((below_drewN' w8 nq).mono sB)
          go_wp2_with (at_builtin; go_must (refine wpList_append_own _ rfl _ _ 76 rfl w.heap.size 139 i0 (.agg #[.bool false, .string ByteArray.empty, .string ByteArray.empty, .int .i64 0, .int .i64 0, .int .i64 0, .int .i64 0, .int .i64 0]) 8 80 Tryz.underlying76 hi0 hz0 hz1 hz2 rfl (by decide) _ _ _ rfl (HO9.out.alloc _) ⟨(w8.drewN nq).heap.size, 0, none⟩ 1 1 (efL (putE nb)) rfl rfl (efLP_cells _ _ _) (efLP_one _) ?_ ?_ ?_ ?_))
          · unfold maxLen; omega
          · omega
          · simp; omega
          intro v5 w5 ho5 hg5 _
          obtain ⟨o5, b5⟩ := HO9.out.snocP HB9.out ho5 hg5
          have O5 : Hid (OwnE 139 w5 w.heap.size v5 (acc ++ [putE nb])) := o5
          have B5 : Hid (Below w.heap.size w w5) := b5
          clear o5 b5 ho5 hg5 HO2 HB2 HO9 HB9 a0 a1 a2 a3 a4 a5 a6 c0 c1 c2 c3 c4 c5 c6
          go_wp2
          exact ⟨⟨i + 1, j + 1, _, by omega, by omega, by go_num, by go_num, HD2, O5, B5⟩, by simp [intOf]; omega⟩
         | true =>
          cases e2 : (na.ver == nb.ver) with
          | false =>
           have HD2 : Hid (acc ++ [putE nb] ++ dif (Al.drop (i + 1)) (Bl.drop (j + 1)) = dif Al Bl) := by
            have h9 := HD3.out
            rw [if_neg (by unfold eqNd; rw [e0, e1, e2]; simp)] at h9
            exact h9
           clear HD3
           go_quiet (fail)
           have HO9 : Hid (OwnE 139 (w8.drewN nq) w.heap.size u5 acc) := HO2.out.below (below_drewN' w8 nq)
           have HB9 : Hid (Below w.heap.size w (w8.drewN nq)) := HB2.out.trans ((below_drewN' w8 nq).mono sB)
           go_wp2_with (at_builtin; go_must (refine wpList_append_own _ rfl _ _ 76 rfl w.heap.size 139 i0 (.agg #[.bool false, .string ByteArray.empty, .string ByteArray.empty, .int .i64 0, .int .i64 0, .int .i64 0, .int .i64 0, .int .i64 0]) 8 80 Tryz.underlying76 hi0 hz0 hz1 hz2 rfl (by decide) _ _ _ rfl (HO9.out.alloc _) ⟨(w8.drewN nq).heap.size, 0, none⟩ 1 1 (efL (putE nb)) rfl rfl (efLP_cells _ _ _) (efLP_one _) ?_ ?_ ?_ ?_))
           · unfold maxLen; omega
           · omega
           · simp; omega
           intro v5 w5 ho5 hg5 _
           obtain ⟨o5, b5⟩ := HO9.out.snocP HB9.out ho5 hg5
           have O5 : Hid (OwnE 139 w5 w.heap.size v5 (acc ++ [putE nb])) := o5
           have B5 : Hid (Below w.heap.size w w5) := b5
           clear o5 b5 ho5 hg5 HO2 HB2 HO9 HB9 a0 a1 a2 a3 a4 a5 a6 c0 c1 c2 c3 c4 c5 c6
           go_wp2
           exact ⟨⟨i + 1, j + 1, _, by omega, by omega, by go_num, by go_num, HD2, O5, B5⟩, by simp [intOf]; omega⟩
          | true =>
           cases e3 : (na.cver == nb.cver) with
           | false =>
            have HD2 : Hid (acc ++ [putE nb] ++ dif (Al.drop (i + 1)) (Bl.drop (j + 1)) = dif Al Bl) := by
             have h9 := HD3.out
             rw [if_neg (by unfold eqNd; rw [e0, e1, e2, e3]; simp)] at h9
             exact h9
            clear HD3
            go_quiet (fail)
            have HO9 : Hid (OwnE 139 (w8.drewN nq) w.heap.size u5 acc) := HO2.out.below (below_drewN' w8 nq)
            have HB9 : Hid (Below w.heap.size w (w8.drewN nq)) := HB2.out.trans ((below_drewN' w8 nq).mono sB)
            go_wp2_with (at_builtin; go_must (refine wpList_append_own _ rfl _ _ 76 rfl w.heap.size 139 i0 (.agg #[.bool false, .string ByteArray.empty, .string ByteArray.empty, .int .i64 0, .int .i64 0, .int .i64 0, .int .i64 0, .int .i64 0]) 8 80 Tryz.underlying76 hi0 hz0 hz1 hz2 rfl (by decide) _ _ _ rfl (HO9.out.alloc _) ⟨(w8.drewN nq).heap.size, 0, none⟩ 1 1 (efL (putE nb)) rfl rfl (efLP_cells _ _ _) (efLP_one _) ?_ ?_ ?_ ?_))
            · unfold maxLen; omega
            · omega
            · simp; omega
            intro v5 w5 ho5 hg5 _
            obtain ⟨o5, b5⟩ := HO9.out.snocP HB9.out ho5 hg5
            have O5 : Hid (OwnE 139 w5 w.heap.size v5 (acc ++ [putE nb])) := o5
            have B5 : Hid (Below w.heap.size w w5) := b5
            clear o5 b5 ho5 hg5 HO2 HB2 HO9 HB9 a0 a1 a2 a3 a4 a5 a6 c0 c1 c2 c3 c4 c5 c6
            go_wp2
            exact ⟨⟨i + 1, j + 1, _, by omega, by omega, by go_num, by go_num, HD2, O5, B5⟩, by simp [intOf]; omega⟩
           | true =>
            cases e4 : (na.cz == nb.cz) with
            | false =>
             have HD2 : Hid (acc ++ [putE nb] ++ dif (Al.drop (i + 1)) (Bl.drop (j + 1)) = dif Al Bl) := by
              have h9 := HD3.out
              rw [if_neg (by unfold eqNd; rw [e0, e1, e2, e3, e4]; simp)] at h9
              exact h9
             clear HD3
             go_quiet (fail)
             have HO9 : Hid (OwnE 139 (w8.drewN nq) w.heap.size u5 acc) := HO2.out.below (below_drewN' w8 nq)
             have HB9 : Hid (Below w.heap.size w (w8.drewN nq)) := HB2.out.trans ((below_drewN' w8 nq).mono sB)
             go_wp2_with (at_builtin; go_must (refine wpList_append_own _ rfl _ _ 76 rfl w.heap.size 139 i0 (.agg #[.bool false, .string ByteArray.empty, .string ByteArray.empty, .int .i64 0, .int .i64 0, .int .i64 0, .int .i64 0, .int .i64 0]) 8 80 Tryz.underlying76 hi0 hz0 hz1 hz2 rfl (by decide) _ _ _ rfl (HO9.out.alloc _) ⟨(w8.drewN nq).heap.size, 0, none⟩ 1 1 (efL (putE nb)) rfl rfl (efLP_cells _ _ _) (efLP_one _) ?_ ?_ ?_ ?_))
             · unfold maxLen; omega
             · omega
             · simp; omega
             intro v5 w5 ho5 hg5 _
             obtain ⟨o5, b5⟩ := HO9.out.snocP HB9.out ho5 hg5
             have O5 : Hid (OwnE 139 w5 w.heap.size v5 (acc ++ [putE nb])) := o5
             have B5 : Hid (Below w.heap.size w w5) := b5
             clear o5 b5 ho5 hg5 HO2 HB2 HO9 HB9 a0 a1 a2 a3 a4 a5 a6 c0 c1 c2 c3 c4 c5 c6
             go_wp2
             exact ⟨⟨i + 1, j + 1, _, by omega, by omega, by go_num, by go_num, HD2, O5, B5⟩, by simp [intOf]; omega⟩
            | true =>
             cases e5 : (na.mz == nb.mz) with
             | false =>
              have HD2 : Hid (acc ++ [putE nb] ++ dif (Al.drop (i + 1)) (Bl.drop (j + 1)) = dif Al Bl) := by
               have h9 := HD3.out
               rw [if_neg (by unfold eqNd; rw [e0, e1, e2, e3, e4, e5]; simp)] at h9
               exact h9
              clear HD3
              go_quiet (fail)
              have HO9 : Hid (OwnE 139 (w8.drewN nq) w.heap.size u5 acc) := HO2.out.below (below_drewN' w8 nq)
              have HB9 : Hid (Below w.heap.size w (w8.drewN nq)) := HB2.out.trans ((below_drewN' w8 nq).mono sB)
              go_wp2_with (at_builtin; go_must (refine wpList_append_own _ rfl _ _ 76 rfl w.heap.size 139 i0 (.agg #[.bool false, .string ByteArray.empty, .string ByteArray.empty, .int .i64 0, .int .i64 0, .int .i64 0, .int .i64 0, .int .i64 0]) 8 80 Tryz.underlying76 hi0 hz0 hz1 hz2 rfl (by decide) _ _ _ rfl (HO9.out.alloc _) ⟨(w8.drewN nq).heap.size, 0, none⟩ 1 1 (efL (putE nb)) rfl rfl (efLP_cells _ _ _) (efLP_one _) ?_ ?_ ?_ ?_))
              · unfold maxLen; omega
              · omega
              · simp; omega
              intro v5 w5 ho5 hg5 _
              obtain ⟨o5, b5⟩ := HO9.out.snocP HB9.out ho5 hg5
              have O5 : Hid (OwnE 139 w5 w.heap.size v5 (acc ++ [putE nb])) := o5
              have B5 : Hid (Below w.heap.size w w5) := b5
              clear o5 b5 ho5 hg5 HO2 HB2 HO9 HB9 a0 a1 a2 a3 a4 a5 a6 c0 c1 c2 c3 c4 c5 c6
              go_wp2
              exact ⟨⟨i + 1, j + 1, _, by omega, by omega, by go_num, by go_num, HD2, O5, B5⟩, by simp [intOf]; omega⟩
             | true =>
              cases e6 : (na.pz == nb.pz) with
              | false =>
               have HD2 : Hid (acc ++ [putE nb] ++ dif (Al.drop (i + 1)) (Bl.drop (j + 1)) = dif Al Bl) := by
                have h9 := HD3.out
                rw [if_neg (by unfold eqNd; rw [e0, e1, e2, e3, e4, e5, e6]; simp)] at h9
                exact h9
               clear HD3
               go_quiet (fail)
               have HO9 : Hid (OwnE 139 (w8.drewN nq) w.heap.size u5 acc) := HO2.out.below (below_drewN' w8 nq)
               have HB9 : Hid (Below w.heap.size w (w8.drewN nq)) := HB2.out.trans ((below_drewN' w8 nq).mono sB)
               go_wp2_with (at_builtin; go_must (refine wpList_append_own _ rfl _ _ 76 rfl w.heap.size 139 i0 (.agg #[.bool false, .string ByteArray.empty, .string ByteArray.empty, .int .i64 0, .int .i64 0, .int .i64 0, .int .i64 0, .int .i64 0]) 8 80 Tryz.underlying76 hi0 hz0 hz1 hz2 rfl (by decide) _ _ _ rfl (HO9.out.alloc _) ⟨(w8.drewN nq).heap.size, 0, none⟩ 1 1 (efL (putE nb)) rfl rfl (efLP_cells _ _ _) (efLP_one _) ?_ ?_ ?_ ?_))
               · unfold maxLen; omega
               · omega
               · simp; omega
               intro v5 w5 ho5 hg5 _
               obtain ⟨o5, b5⟩ := HO9.out.snocP HB9.out ho5 hg5
               have O5 : Hid (OwnE 139 w5 w.heap.size v5 (acc ++ [putE nb])) := o5
               have B5 : Hid (Below w.heap.size w w5) := b5
               clear o5 b5 ho5 hg5 HO2 HB2 HO9 HB9 a0 a1 a2 a3 a4 a5 a6 c0 c1 c2 c3 c4 c5 c6
               go_wp2
               exact ⟨⟨i + 1, j + 1, _, by omega, by omega, by go_num, by go_num, HD2, O5, B5⟩, by simp [intOf]; omega⟩
              | true =>
               have HD2 : Hid (acc ++ dif (Al.drop (i + 1)) (Bl.drop (j + 1)) = dif Al Bl) := by
                have h9 := HD3.out
                rw [if_pos (by unfold eqNd; rw [e0, e1, e2, e3, e4, e5, e6]; rfl), List.append_nil] at h9
                exact h9
               clear HD3
               go_quiet (fail)
               have HO9 : Hid (OwnE 139 (w8.drewN nq) w.heap.size u5 acc) := HO2.out.below (below_drewN' w8 nq)
               have HB9 : Hid (Below w.heap.size w (w8.drewN nq)) := HB2.out.trans ((below_drewN' w8 nq).mono sB)
               clear HO2 HB2
               go_wp2
               exact ⟨⟨i + 1, j + 1, _, by omega, by omega, by go_num, by go_num, HD2, HO9, HB9⟩, by simp [intOf]; omega⟩
    · have hjeq : ((j : Int) == (Bl.length : Int)) = true := by simp; omega
      have hjbI : ¬ (j : Int) < (Bl.length : Int) := by omega
      have HD2 : Hid (acc ++ [delE (nAt Al i)] ++ dif (Al.drop (i + 1)) (Bl.drop j) = dif Al Bl) := by
       show _ = _
       rw [← HD.out, dif_del Al Bl i j hia (by omega), List.append_assoc]
       rfl
      generalize nAt Al i = na at *
      clear HD
      go_wp2
      go_quiet (fail)
      have HO1 : Hid (OwnE 139 (wr.drewN nq) w.heap.size u5 acc) := HO.out.below (below_drewN' wr nq)
      have HB1 : Hid (Below w.heap.size w (wr.drewN nq)) := HB.out.trans ((below_drewN' wr nq).mono sB)
      clear a0 a1 a2 a3 a4 a5 a6 HO HB sB
      generalize wr.drewN nq = w7 at *
      have sB := HB1.out.size
      obtain ⟨a0, a1, a2, a3, a4, a5, a6⟩ := HAC.out.below HB1.out hab
      go_wp2
      go_quiet (fail)
      have HO9 : Hid (OwnE 139 (w7.drewN nq) w.heap.size u5 acc) := HO1.out.below (below_drewN' w7 nq)
      have HB9 : Hid (Below w.heap.size w (w7.drewN nq)) := HB1.out.trans ((below_drewN' w7 nq).mono sB)
      go_wp2_with (at_builtin; go_must (refine wpList_append_own _ rfl _ _ 76 rfl w.heap.size 139 i0 (.agg #[.bool false, .string ByteArray.empty, .string ByteArray.empty, .int .i64 0, .int .i64 0, .int .i64 0, .int .i64 0, .int .i64 0]) 8 80 Tryz.underlying76 hi0 hz0 hz1 hz2 rfl (by decide) _ _ _ rfl (HO9.out.alloc _) ⟨(w7.drewN nq).heap.size, 0, none⟩ 1 1 (efL (delE na)) rfl rfl (efLP_cells _ _ _) (efLP_one _) ?_ ?_ ?_ ?_))
      · unfold maxLen; omega
      · omega
      · simp; omega
      intro v5 w5 ho5 hg5 _
      obtain ⟨o5, b5⟩ := HO9.out.snocP HB9.out ho5 hg5
      have O5 : Hid (OwnE 139 w5 w.heap.size v5 (acc ++ [delE na])) := o5
      have B5 : Hid (Below w.heap.size w w5) := b5
      clear o5 b5 ho5 hg5 HO1 HB1 HO9 HB9 a0 a1 a2 a3 a4 a5 a6
      go_wp2
      exact ⟨⟨i + 1, j, _, by omega, by omega, by go_num, by go_num, HD2, O5, B5⟩, by simp [intOf]; omega⟩
  · have hieq : ((i : Int) == (Al.length : Int)) = true := by simp; omega
    have hiaI : ¬ (i : Int) < (Al.length : Int) := by omega
    by_cases hjb : j < Bl.length
    · have hjbI : (j : Int) < (Bl.length : Int) := by omega
      obtain ⟨bb, bi, hbo, hbb, hbc⟩ := HCB.out j hjb
      subst hbo
      obtain ⟨c0, c1, c2, c3, c4, c5, c6⟩ := hbc.below HB.out hbb
      clear hbc
      have HD2 : Hid (acc ++ [putE (nAt Bl j)] ++ dif (Al.drop i) (Bl.drop (j + 1)) = dif Al Bl) := by
       show _ = _
       rw [← HD.out, dif_nil Al Bl i j (by omega) hjb, List.append_assoc]
       rfl
      generalize nAt Bl j = nb at *
      clear HD
      go_wp2
      go_quiet (fail)
      have HO9 : Hid (OwnE 139 (wr.drewN nq) w.heap.size u5 acc) := HO.out.below (below_drewN' wr nq)
      have HB9 : Hid (Below w.heap.size w (wr.drewN nq)) := HB.out.trans ((below_drewN' wr nq).mono sB)
      go_wp2_with (at_builtin; go_must (refine wpList_append_own _ rfl _ _ 76 rfl w.heap.size 139 i0 (.agg #[.bool false, .string ByteArray.empty, .string ByteArray.empty, .int .i64 0, .int .i64 0, .int .i64 0, .int .i64 0, .int .i64 0]) 8 80 Tryz.underlying76 hi0 hz0 hz1 hz2 rfl (by decide) _ _ _ rfl (HO9.out.alloc _) ⟨(wr.drewN nq).heap.size, 0, none⟩ 1 1 (efL (putE nb)) rfl rfl (efLP_cells _ _ _) (efLP_one _) ?_ ?_ ?_ ?_))
      · unfold maxLen; omega
      · omega
      · simp; omega
      intro v5 w5 ho5 hg5 _
      obtain ⟨o5, b5⟩ := HO9.out.snocP HB9.out ho5 hg5
      have O5 : Hid (OwnE 139 w5 w.heap.size v5 (acc ++ [putE nb])) := o5
      have B5 : Hid (Below w.heap.size w w5) := b5
      clear o5 b5 ho5 hg5 HO HB HO9 HB9 c0 c1 c2 c3 c4 c5 c6
      go_wp2
      exact ⟨⟨i, j + 1, _, by omega, by omega, by go_num, by go_num, HD2, O5, B5⟩, by simp [intOf]; omega⟩
    · have HF : Hid (acc = dif Al Bl) := by
       have := HD.out
       rw [List.drop_of_length_le (by omega), List.drop_of_length_le (by omega)] at this
       show _ = _
       simpa [dif] using this
      have hjbI : ¬ (j : Int) < (Bl.length : Int) := by omega
      go_wp2
      go_ret
      exact ⟨_, rfl, by rw [← HF.out]; exact HO.out, HB.out⟩
theorem eqL_bytes {a b : ByteArray} (h : (a.toList == b.toList) = true) : a = b := by
 rw [beq_iff_eq, ByteArray.toList_eq, ByteArray.toList_eq] at h
 cases a; cases b
 simp only [ByteArray.mk.injEq] at *
 exact Array.toList_inj.1 h
theorem eqNd_eq {a b : Nd} (h : eqNd a b = true) : a = b := by
 unfold eqNd at h
 simp only [Bool.and_eq_true] at h
 obtain ⟨h1, h2, h3, h4, h5, h6, h7⟩ := h
 have e1 := eqL_bytes h1
 have e2 := eqL_bytes h2
 rw [beq_iff_eq] at h3 h4 h5 h6 h7
 cases a; cases b
 simp_all
theorem ltP_same {a b : ByteArray} (h1 : ltP a b = false) (h2 : ltP b a = false) : (a.toList == b.toList) = true := by
 cases h : (a.toList == b.toList) with
 | true => rfl
 | false => have := ltP_total h1 h; rw [this] at h2; cases h2
theorem plc_zero {a : Nd} {r : List Nd} {p : ByteArray} (h : ltP a.path p = false) : plc (a :: r) p = 0 := by
 unfold plc; rw [List.takeWhile_cons, if_neg (by simp [h])]; rfl
theorem skp_no {a : Nd} {r : List Nd} {p : ByteArray} (h : ltP p a.path = true) : plc (a :: r) p = 0 ∧ skp (a :: r) p = 0 := by
 have h1 := plc_zero (r := r) (ltP_asymm h)
 refine ⟨h1, ?_⟩
 rw [skp_eq, h1]
 have h2 := ltP_gt_ne h
 simp only [List.drop_zero, nAt, List.getD_cons_zero, h2, Bool.and_false, Bool.false_eq_true, if_false]
theorem skp_yes {a : Nd} {r : List Nd} {p : ByteArray} (h : (a.path.toList == p.toList) = true) : plc (a :: r) p = 0 ∧ skp (a :: r) p = 1 := by
 have e := eqL_bytes h
 have h1 := plc_zero (a := a) (r := r) (p := p) (by rw [e]; exact ltP_irr p)
 refine ⟨h1, ?_⟩
 rw [skp_eq, h1]
 simp only [List.drop_zero, nAt, List.getD_cons_zero, h, Bool.and_true, List.length_cons, Nat.zero_lt_succ, decide_true, if_true]
theorem wi_front {P : List Nd} {a b : Nd} {r : List Nd} (hP : ∀ x ∈ P, ltP x.path b.path = true) (h : Asc (a :: r)) (hl : ltP b.path a.path = true) : wiN (P ++ a :: r) b = P ++ b :: a :: r := by
 obtain ⟨h1, h2⟩ := skp_no (r := r) hl
 rw [wi_all P (a :: r) b hP h, h1, h2]; simp
theorem wi_swap {P : List Nd} {a b : Nd} {r : List Nd} (hP : ∀ x ∈ P, ltP x.path b.path = true) (h : Asc (a :: r)) (he : (a.path.toList == b.path.toList) = true) : wiN (P ++ a :: r) b = P ++ b :: r := by
 obtain ⟨h1, h2⟩ := skp_yes (r := r) he
 rw [wi_all P (a :: r) b hP h, h1, h2]; simp
theorem wi_end {P : List Nd} {b : Nd} (hP : ∀ x ∈ P, ltP x.path b.path = true) : wiN P b = P ++ [b] := by
 have := wi_all P [] b hP List.Pairwise.nil
 simpa using this
theorem wo_front {P : List Nd} {a : Nd} {r : List Nd} (hP : ∀ x ∈ P, ltP x.path a.path = true) (h : Asc (a :: r)) : woN (P ++ a :: r) a.path = P ++ r := by
 obtain ⟨h1, h2⟩ := skp_yes (a := a) (r := r) (p := a.path) (by simp)
 rw [wo_all P (a :: r) a.path hP h, h1, h2]; simp
theorem asc_tail {a : Nd} {r : List Nd} (h : Asc (a :: r)) : Asc r ∧ ∀ x ∈ r, ltP a.path x.path = true := ⟨(List.pairwise_cons.1 h).2, (List.pairwise_cons.1 h).1⟩
theorem ap_dif (A B : List Nd) : ∀ P : List Nd, Asc A → Asc B → (∀ x ∈ P, ∀ y, y ∈ A ∨ y ∈ B → ltP x.path y.path = true) → apL (P ++ A) (dif A B) = P ++ B := by
 fun_induction dif A B with
 | case1 now =>
  intro P _ hB hP
  induction now generalizing P with
  | nil => simp [apL]
  | cons b now ih =>
   obtain ⟨h1, h2⟩ := asc_tail hB
   have h3 := ih (P ++ [b]) h1 (fun x hx y hy => by
    rcases List.mem_append.1 hx with hx | hx
    · exact hP x hx y (by rcases hy with hy | hy; (exact .inl hy); (exact .inr (List.mem_cons_of_mem _ hy)))
    · simp at hx; subst hx
      rcases hy with hy | hy
      · simp at hy
      · exact h2 y hy)
   show apL (apQ (P ++ []) (putE b)) (now.map putE) = _
   have e1 : apQ (P ++ []) (putE b) = P ++ [b] := by
    unfold apQ putE
    simp only [Bool.false_eq_true, if_false, List.append_nil]
    exact wi_end (fun x hx => hP x hx b (.inr (List.mem_cons_self ..)))
   rw [e1]
   have : apL (P ++ [b] ++ []) (now.map putE) = P ++ [b] ++ now := h3
   simpa using this
 | case2 a was =>
  intro P hA _ hP
  generalize a :: was = L at hA hP ⊢
  induction L with
  | nil => simp [apL]
  | cons a was ih =>
   obtain ⟨h1, h2⟩ := asc_tail hA
   show apL (apQ (P ++ a :: was) (delE a)) (was.map delE) = _
   have e1 : apQ (P ++ a :: was) (delE a) = P ++ was := by
    unfold apQ delE
    simp only [if_true]
    exact wo_front (fun x hx => hP x hx a (.inl (List.mem_cons_self ..))) hA
   rw [e1]
   exact ih h1 (fun x hx y hy => hP x hx y (by rcases hy with hy | hy; (exact .inl (List.mem_cons_of_mem _ hy)); (exact .inr hy)))
 | case3 a was b now hl ih =>
  intro P hA hB hP
  obtain ⟨h1, h2⟩ := asc_tail hB
  show apL (apQ (P ++ a :: was) (putE b)) _ = _
  unfold apQ
  simp only [putE, Bool.false_eq_true, if_false]
  rw [wi_front (fun x hx => hP x hx b (.inr (List.mem_cons_self ..))) hA hl]
  have := ih (P ++ [b]) hA h1 (fun x hx y hy => by
   rcases List.mem_append.1 hx with hx | hx
   · exact hP x hx y (by rcases hy with hy | hy; (exact .inl hy); (exact .inr (List.mem_cons_of_mem _ hy)))
   · simp at hx; subst hx
     rcases hy with hy | hy
     · rcases List.mem_cons.1 hy with rfl | hy
       · exact hl
       · exact ltP_trans hl ((asc_tail hA).2 y hy)
     · exact h2 y hy)
  simpa using this
 | case4 a was b now hl hg ih =>
  intro P hA hB hP
  obtain ⟨h1, h2⟩ := asc_tail hA
  show apL (apQ (P ++ a :: was) (delE a)) _ = _
  unfold apQ
  simp only [delE, if_true]
  rw [wo_front (fun x hx => hP x hx a (.inl (List.mem_cons_self ..))) hA]
  exact ih P h1 hB (fun x hx y hy => hP x hx y (by rcases hy with hy | hy; (exact .inl (List.mem_cons_of_mem _ hy)); (exact .inr hy)))
 | case5 a was b now hl hg he ih =>
  intro P hA hB hP
  have e := eqNd_eq he
  subst e
  obtain ⟨h1, h2⟩ := asc_tail hA
  obtain ⟨h3, h4⟩ := asc_tail hB
  have := ih (P ++ [a]) h1 h3 (fun x hx y hy => by
   rcases List.mem_append.1 hx with hx | hx
   · exact hP x hx y (by rcases hy with hy | hy; (exact .inl (List.mem_cons_of_mem _ hy)); (exact .inr (List.mem_cons_of_mem _ hy)))
   · simp at hx; subst hx
     rcases hy with hy | hy
     · exact h2 y hy
     · exact h4 y hy)
  simpa using this
 | case6 a was b now hl hg he ih =>
  intro P hA hB hP
  obtain ⟨h1, h2⟩ := asc_tail hA
  obtain ⟨h3, h4⟩ := asc_tail hB
  have hs : (a.path.toList == b.path.toList) = true := ltP_same (by simpa using hg) (by simpa using hl)
  show apL (apQ (P ++ a :: was) (putE b)) _ = _
  unfold apQ
  simp only [putE, Bool.false_eq_true, if_false]
  rw [wi_swap (fun x hx => hP x hx b (.inr (List.mem_cons_self ..))) hA hs]
  have := ih (P ++ [b]) h1 h3 (fun x hx y hy => by
   rcases List.mem_append.1 hx with hx | hx
   · exact hP x hx y (by rcases hy with hy | hy; (exact .inl (List.mem_cons_of_mem _ hy)); (exact .inr (List.mem_cons_of_mem _ hy)))
   · simp at hx; subst hx
     rcases hy with hy | hy
     · have := h2 y hy
       rw [eqL_bytes hs] at this
       exact this
     · exact h4 y hy)
  simpa using this
theorem ap_dif0 {A B : List Nd} (hA : Asc A) (hB : Asc B) : apL A (dif A B) = B := by
 have := ap_dif A B [] hA hB (fun x hx => by simp at hx)
 simpa using this
theorem dif_above (p : ByteArray) (A B : List Nd) : (∀ x, x ∈ A ∨ x ∈ B → ltP p x.path = true) → ∀ e ∈ dif A B, ltP p e.nd.path = true := by
 fun_induction dif A B with
 | case1 now => intro h e he; obtain ⟨b, hb, rfl⟩ := List.mem_map.1 he; exact h b (.inr hb)
 | case2 a was => intro h e he; obtain ⟨b, hb, rfl⟩ := List.mem_map.1 he; exact h b (.inl hb)
 | case3 a was b now hl ih =>
  intro h e he
  rcases List.mem_cons.1 he with rfl | he
  · exact h b (.inr (List.mem_cons_self ..))
  · exact ih (fun x hx => h x (by rcases hx with hx | hx; (exact .inl hx); (exact .inr (List.mem_cons_of_mem _ hx)))) e he
 | case4 a was b now hl hg ih =>
  intro h e he
  rcases List.mem_cons.1 he with rfl | he
  · exact h a (.inl (List.mem_cons_self ..))
  · exact ih (fun x hx => h x (by rcases hx with hx | hx; (exact .inl (List.mem_cons_of_mem _ hx)); (exact .inr hx))) e he
 | case5 a was b now hl hg he' ih =>
  intro h e he
  exact ih (fun x hx => h x (by rcases hx with hx | hx; (exact .inl (List.mem_cons_of_mem _ hx)); (exact .inr (List.mem_cons_of_mem _ hx)))) e he
 | case6 a was b now hl hg he' ih =>
  intro h e he
  rcases List.mem_cons.1 he with rfl | he
  · exact h b (.inr (List.mem_cons_self ..))
  · exact ih (fun x hx => h x (by rcases hx with hx | hx; (exact .inl (List.mem_cons_of_mem _ hx)); (exact .inr (List.mem_cons_of_mem _ hx)))) e he
theorem dif_asc (A B : List Nd) : Asc A → Asc B → AscE (dif A B) := by
 fun_induction dif A B with
 | case1 now => intro _ hB; exact List.pairwise_map.2 hB
 | case2 a was => intro hA _; exact List.pairwise_map.2 hA
 | case3 a was b now hl ih =>
  intro hA hB
  obtain ⟨h3, h4⟩ := asc_tail hB
  refine List.Pairwise.cons (fun e he => dif_above b.path _ _ (fun x hx => ?_) e he) (ih hA h3)
  rcases hx with hx | hx
  · rcases List.mem_cons.1 hx with rfl | hx
    · exact hl
    · exact ltP_trans hl ((asc_tail hA).2 x hx)
  · exact h4 x hx
 | case4 a was b now hl hg ih =>
  intro hA hB
  obtain ⟨h1, h2⟩ := asc_tail hA
  refine List.Pairwise.cons (fun e he => dif_above a.path _ _ (fun x hx => ?_) e he) (ih h1 hB)
  rcases hx with hx | hx
  · exact h2 x hx
  · rcases List.mem_cons.1 hx with rfl | hx
    · exact hg
    · exact ltP_trans hg ((asc_tail hB).2 x hx)
 | case5 a was b now hl hg he ih => intro hA hB; exact ih (asc_tail hA).1 (asc_tail hB).1
 | case6 a was b now hl hg he ih =>
  intro hA hB
  obtain ⟨h1, h2⟩ := asc_tail hA
  obtain ⟨h3, h4⟩ := asc_tail hB
  have hs : (a.path.toList == b.path.toList) = true := ltP_same (by simpa using hg) (by simpa using hl)
  refine List.Pairwise.cons (fun e he => dif_above b.path _ _ (fun x hx => ?_) e he) (ih h1 h3)
  rcases hx with hx | hx
  · have := h2 x hx
    rw [eqL_bytes hs] at this
    exact this
  · exact h4 x hx
theorem dif_ok (A B : List Nd) : (∀ n ∈ A, okNd n = true) → (∀ n ∈ B, okNd n = true) → ∀ e ∈ dif A B, okEf e = true := by
 have hp : ∀ b : Nd, okNd b = true → okEf (putE b) = true := fun b h => by rw [okEf_false rfl]; exact h
 have hd : ∀ a : Nd, okNd a = true → okEf (delE a) = true := fun a h => by
  rw [okEf_true rfl]
  unfold okNd at h ⊢
  simp only [Bool.and_eq_true] at h ⊢
  simp [delE, nd0, okS, blank, h]
 fun_induction dif A B with
 | case1 now => intro _ hB e he; obtain ⟨b, hb, rfl⟩ := List.mem_map.1 he; exact hp b (hB b hb)
 | case2 a was => intro hA _ e he; obtain ⟨b, hb, rfl⟩ := List.mem_map.1 he; exact hd b (hA b hb)
 | case3 a was b now hl ih =>
  intro hA hB e he
  rcases List.mem_cons.1 he with rfl | he
  · exact hp b (hB b (List.mem_cons_self ..))
  · exact ih hA (fun n hn => hB n (List.mem_cons_of_mem _ hn)) e he
 | case4 a was b now hl hg ih =>
  intro hA hB e he
  rcases List.mem_cons.1 he with rfl | he
  · exact hd a (hA a (List.mem_cons_self ..))
  · exact ih (fun n hn => hA n (List.mem_cons_of_mem _ hn)) hB e he
 | case5 a was b now hl hg he' ih =>
  intro hA hB e he
  exact ih (fun n hn => hA n (List.mem_cons_of_mem _ hn)) (fun n hn => hB n (List.mem_cons_of_mem _ hn)) e he
 | case6 a was b now hl hg he' ih =>
  intro hA hB e he
  rcases List.mem_cons.1 he with rfl | he
  · exact hp b (hB b (List.mem_cons_self ..))
  · exact ih (fun n hn => hA n (List.mem_cons_of_mem _ hn)) (fun n hn => hB n (List.mem_cons_of_mem _ hn)) e he
theorem okEs_of {es : List Ef} (h1 : AscE es) (h2 : ∀ e ∈ es, okEf e = true) : okEs es = true := by
 refine es_yes (fun k hk => ?_)
 have he : ∀ j (hj : j < es.length), eAt es j = es[j] := fun j hj => by unfold eAt; simp [List.getD, hj]
 cases k with
 | zero => rw [okEAt_zero, he 0 hk]; exact h2 _ (List.getElem_mem hk)
 | succ j =>
  rw [okEAt_succ, he _ hk, he j (by omega), h2 _ (List.getElem_mem hk)]
  simpa using List.pairwise_iff_getElem.1 h1 j (j + 1) (by omega) hk (by omega)
theorem dif_txn {A B : List Nd} {z : Int} (hA : Snd A) (hB : Snd B) (hl : A.length + B.length ≤ 1000) (hz : 1 ≤ z ∧ z ≤ 2147483647) : okTxn z (dif A B) = true := by
 unfold okTxn
 have := dif_len A B
 simp only [Bool.and_eq_true, decide_eq_true_eq]
 exact ⟨⟨⟨hz.1, hz.2⟩, by omega⟩, okEs_of (dif_asc A B hA.1 hB.1) (dif_ok A B hA.2.1 hB.2.1)⟩
theorem resA_dif {A B : List Nd} {z : Int} (hA : Snd A) (hB : Snd B) (hl : A.length + B.length ≤ 1000) (hz : 1 ≤ z ∧ z ≤ 2147483647) : resA A z (dif A B) = B := by
 unfold resA
 rw [okTree_snd.2 hA, dif_txn hA hB hl hz]
 exact ap_dif0 hA.1 hB.1
theorem wi_len1 {ns : List Nd} (h : Asc ns) (n : Nd) : (wiN ns n).length ≤ ns.length + 1 := by rw [wi_len9 h]; omega
theorem to_len1 {ns : List Nd} (h : Asc ns) (p : ByteArray) (z : Int) : (toN ns p z).length ≤ ns.length := by
 unfold toN
 split
 · rename_i hf
   rw [wi_len9 h, skp_one h ⟨_, (found_mem hf).1, by simp⟩]
   have : 0 < ns.length := by have := (found_mem hf).1; exact List.length_pos_of_mem this
   omega
 · exact Nat.le_refl _
theorem doO_len {ns : List Nd} (h : Asc ns) (o : Op5) (z : Int) : (doO ns o z).2.1.length ≤ ns.length + 1 := by
 unfold doO
 dsimp only
 repeat' split
 all_goals (try (first | exact Nat.le_succ _ | exact Nat.le_refl _))
 · exact Nat.le_trans (to_len1 (asc_wi h _) _ _) (wi_len1 h _)
 · exact Nat.le_trans (to_len1 (asc_wo h _) _ _) (Nat.le_trans (List.length_filter_le _ _) (Nat.le_succ _))
 · exact wi_len1 h _
def op0 : Op5 := ⟨0, ByteArray.empty, ByteArray.empty, 0, false⟩
def oAt (os : List Op5) (i : Nat) : Op5 := os.getD i op0
theorem oAt_get {os : List Op5} {i : Nat} (h : i < os.length) : oAt os i = os[i] := by unfold oAt; simp [List.getD, h]
def CellsO (w : World) (b off : Nat) (o : Op5) : Prop :=
 w.cell? ⟨b, off, none⟩ = some (.int .i64 o.kind) ∧ w.cell? ⟨b, off + 1, none⟩ = some (.string o.path) ∧ w.cell? ⟨b, off + 2, none⟩ = some (.string o.data) ∧ w.cell? ⟨b, off + 3, none⟩ = some (.int .i64 o.ver) ∧ w.cell? ⟨b, off + 4, none⟩ = some (.bool o.seq)
theorem CellsO.below {w w' : World} {b off B : Nat} {o : Op5} (h : CellsO w b off o) (hb : Below B w w') (hlt : b < B) : CellsO w' b off o :=
 ⟨(hb.cell (p := ⟨b, off, none⟩) hlt).trans h.1, (hb.cell (p := ⟨b, off + 1, none⟩) hlt).trans h.2.1, (hb.cell (p := ⟨b, off + 2, none⟩) hlt).trans h.2.2.1, (hb.cell (p := ⟨b, off + 3, none⟩) hlt).trans h.2.2.2.1, (hb.cell (p := ⟨b, off + 4, none⟩) hlt).trans h.2.2.2.2⟩
def RdO (w : World) (v : Value) (os : List Op5) : Prop :=
 ∃ ao cap, v = .slice ao os.length cap ∧ os.length ≤ cap ∧ cap ≤ maxLen ∧
  (os = [] ∨ ∃ b off, ao = some ⟨b, off, none⟩ ∧ b < w.heap.size ∧ ∀ i, i < os.length → CellsO w b (off + i * 5) (oAt os i))
theorem RdO.len {w : World} {v : Value} {os : List Op5} (h : RdO w v os) : ∃ ao cap, v = .slice ao os.length cap ∧ os.length ≤ cap ∧ cap ≤ maxLen := by
 obtain ⟨ao, cap, h0, h1, h2, _⟩ := h
 exact ⟨ao, cap, h0, h1, h2⟩
def runO (z : Int) : List Op5 → List Nd → Nat → List ByteArray → Int × Nat × List Nd × List ByteArray
 | [], ns, i, nm => (0, i, ns, nm)
 | o :: os, ns, i, nm => if (doO ns o z).1 ≠ 0 then ((doO ns o z).1, i, ns, nm) else runO z os (doO ns o z).2.1 (i + 1) (nm ++ [(doO ns o z).2.2])
theorem runO_bad {z : Int} {os : List Op5} {ns : List Nd} {i : Nat} {nm : List ByteArray} {j : Nat} (hj : j < os.length) (h : (doO ns (oAt os j) z).1 ≠ 0) : runO z (os.drop j) ns i nm = ((doO ns (oAt os j) z).1, i, ns, nm) := by
 rw [List.drop_eq_getElem_cons hj, ← oAt_get hj]
 unfold runO
 rw [if_pos h]
theorem runO_good {z : Int} {os : List Op5} {ns : List Nd} {i : Nat} {nm : List ByteArray} {j : Nat} (hj : j < os.length) (h : (doO ns (oAt os j) z).1 = 0) : runO z (os.drop j) ns i nm = runO z (os.drop (j + 1)) (doO ns (oAt os j) z).2.1 (i + 1) (nm ++ [(doO ns (oAt os j) z).2.2]) := by
 rw [List.drop_eq_getElem_cons hj, ← oAt_get hj]
 conv => lhs; unfold runO
 rw [if_neg (by simpa using h)]
def okPrep (ns : List Nd) (os : List Op5) (z : Int) : Bool := okTree ns && (decide (1 ≤ os.length) && (decide (os.length ≤ 64) && (decide (1 ≤ z) && decide (z ≤ 2147483647))))
def PrOk (w : World) (ns : List Nd) (z : Int) (res : Int × Nat × List Nd × List ByteArray) (e : Ending) (w' : World) : Prop :=
 Below w.heap.size w w' ∧
  ((res.1 ≠ 0 ∧ e = .returned (.agg #[.int .i64 res.1, .int .i64 (res.2.1 : Int), .slice none 0 0, .int .i64 0, .slice none 0 0])) ∨
   (res.1 = 0 ∧ ∃ vn ve, e = .returned (.agg #[.int .i64 0, .int .i64 0, vn, .int .i64 z, ve]) ∧ w'.ownsRow w.heap.size 9 1 vn res.2.2.2.length (res.2.2.2.map Value.string) ∧ OwnE 139 w' w.heap.size ve (dif ns res.2.2.1)))
def PrB (w : World) (v vo : Value) (W : World) : Prop :=
 Below w.heap.size w W ∧ w.heap.size + 3 ≤ W.heap.size ∧ W.cell? ⟨w.heap.size, 0, none⟩ = some v ∧ W.cell? ⟨w.heap.size + 1, 0, none⟩ = some vo ∧
 (W.cell? ⟨w.heap.size + 2, 0, none⟩ = some (.int .i64 0) ∧ W.cell? ⟨w.heap.size + 2, 1, none⟩ = some (.int .i64 0) ∧ W.cell? ⟨w.heap.size + 2, 2, none⟩ = some (.slice none 0 0) ∧ W.cell? ⟨w.heap.size + 2, 3, none⟩ = some (.int .i64 0) ∧ W.cell? ⟨w.heap.size + 2, 4, none⟩ = some (.slice none 0 0)) ∧ ∀ j, W.frozen? ⟨w.heap.size + 2, j, none⟩ = false
theorem PrB.belowB {w : World} {v vo : Value} {W W' : World} {B : Nat} (h : PrB w v vo W) (hb : Below B W W') (hB : w.heap.size + 3 ≤ B) : PrB w v vo W' := by
 obtain ⟨h1, h2, h3, h4, ⟨c0, c1, c2, c3, c4⟩, h6⟩ := h
 have q : w.heap.size + 2 < B := by omega
 exact ⟨h1.trans (hb.mono (by omega)), Nat.le_trans h2 hb.size, (hb.cell (p := ⟨w.heap.size, 0, none⟩) (by show w.heap.size < _; omega)).trans h3, (hb.cell (p := ⟨w.heap.size + 1, 0, none⟩) (by show w.heap.size + 1 < _; omega)).trans h4,
  ⟨(hb.cell (p := ⟨w.heap.size + 2, 0, none⟩) q).trans c0, (hb.cell (p := ⟨w.heap.size + 2, 1, none⟩) q).trans c1, (hb.cell (p := ⟨w.heap.size + 2, 2, none⟩) q).trans c2, (hb.cell (p := ⟨w.heap.size + 2, 3, none⟩) q).trans c3, (hb.cell (p := ⟨w.heap.size + 2, 4, none⟩) q).trans c4⟩, fun j => (hb.frozen (p := ⟨w.heap.size + 2, j, none⟩) q).trans (h6 j)⟩
theorem PrB.below {w : World} {v vo : Value} {W W' : World} (h : PrB w v vo W) (hb : Below W.heap.size W W') : PrB w v vo W' := h.belowB hb h.2.1
theorem PrB.new (w : World) (v vo : Value) (t1 t2 t3 : TypeId) : PrB w v vo (((w.alloc (.cells #[v] t1)).alloc (.cells #[vo] t2)).alloc (.cells #[.int .i64 0, .int .i64 0, .slice none 0 0, .int .i64 0, .slice none 0 0] t3)) := by
 refine ⟨(((Below.refl _ _).alloc (Nat.le_refl _) _).alloc (by simp) _).alloc (by simp; omega) _, by simp, by go_simp, by go_simp, ?_, fun j => by go_simp⟩
 have e : ((w.alloc (.cells #[v] t1)).alloc (.cells #[vo] t2)).heap.size = w.heap.size + 2 := by simp
 have h1 : (((w.alloc (.cells #[v] t1)).alloc (.cells #[vo] t2)).alloc (.cells #[.int .i64 0, .int .i64 0, .slice none 0 0, .int .i64 0, .slice none 0 0] t3)).heap[w.heap.size + 2]? = some (.cells #[.int .i64 0, .int .i64 0, .slice none 0 0, .int .i64 0, .slice none 0 0] t3) := by
  rw [← e]; exact heap_alloc_new _ _
 exact ⟨(cell_of h1 _).trans rfl, (cell_of h1 _).trans rfl, (cell_of h1 _).trans rfl, (cell_of h1 _).trans rfl, (cell_of h1 _).trans rfl⟩
theorem specPrep_bad (w : World) (v vo : Value) (ns : List Nd) (os : List Op5) (z : Int) (h : RdN w v ns) (ho : RdO w vo os) (hn : ns.length ≤ 1048576) (hsz : ∀ i, (nAt ns i).path.size ≤ 1048576 ∧ (nAt ns i).data.size ≤ 1048576) (hb : okPrep ns os z = false) :
    Calls Tryz.prog 77 #[.agg #[v], .agg #[vo], .int .i64 z] w fun e w' => e = .returned (.agg #[.int .i64 9, .int .i64 0, .slice none 0 0, .int .i64 0, .slice none 0 0]) ∧ Below w.heap.size w w' := by
 obtain ⟨ao, ca, rfl, _, _⟩ := h.len
 obtain ⟨bo, cb, rfl, _, _⟩ := ho.len
 have HR : Hid (RdN w (.slice ao ns.length ca) ns) := h
 have HSZ : Hid (∀ i, (nAt ns i).path.size ≤ 1048576 ∧ (nAt ns i).data.size ≤ 1048576) := hsz
 have X0 : Hid (PrB w (.slice ao ns.length ca) (.slice bo os.length cb) (((w.alloc (.cells #[.slice ao ns.length ca] 25)).alloc (.cells #[.slice bo os.length cb] 132)).alloc (.cells #[.int .i64 0, .int .i64 0, .slice none 0 0, .int .i64 0, .slice none 0 0] 128))) := PrB.new _ _ _ _ _ _
 have HBAD : Hid (okPrep ns os z = false) := hb
 clear h ho hsz hb
 go_enter Tryz.func77, Tryz.ntmps77
 go_wp2_with fail
 generalize ((w.alloc (.cells #[.slice ao ns.length ca] 25)).alloc (.cells #[.slice bo os.length cb] 132)).alloc (.cells #[.int .i64 0, .int .i64 0, .slice none 0 0, .int .i64 0, .slice none 0 0] 128) = w0 at *
 obtain ⟨-, -, a0, -⟩ := X0.out
 go_wp2_with fail
 clear a0
 refine (specTree_any _ _ ns (HR.out.below X0.out.1) hn HSZ.out).mono ?_
 rintro e w1 ⟨rfl, b1⟩
 have X1 := hd9 (X0.out.below b1)
 clear b1 X0
 obtain ⟨-, zz, -, a1, ⟨d0, d1, d2, d3, d4⟩, df⟩ := X1.out
 have f0 := df 0
 have f1 := df 1
 have f2 := df 2
 have f3 := df 3
 have f4 := df 4
 clear df
 have FIN : Hid (∀ W', Below w.heap.size w1 W' → Below w.heap.size w W') := fun W' hW => X1.out.1.trans hW
 have hB := HBAD.out
 unfold okPrep at hB
 clear HBAD X1
 cases ht : okTree ns with
 | false =>
  go_wp2
  refine bodyPost_ret (v := .agg #[.int .i64 9, .int .i64 0, .slice none 0 0, .int .i64 0, .slice none 0 0]) (by simp [results, Tryz.results77, go_sem, d0, d1, d2, d3, d4]) rfl ⟨rfl, FIN.out _ ?_⟩
  repeat (first | exact Below.refl _ _ | refine Below.setCell ?_ (by simp; try omega) _)
 | true =>
  rw [ht, Bool.true_and] at hB
  clear ht
  by_cases h1 : 1 ≤ os.length
  · rw [decide_eq_true h1, Bool.true_and] at hB
    have h1I : ¬ (os.length : Int) < 1 := by omega
    have h1d : decide ((os.length : Int) < 1) = false := by simpa using h1I
    by_cases h2 : os.length ≤ 64
    · rw [decide_eq_true h2, Bool.true_and] at hB
      have h2I : ¬ (64 : Int) < (os.length : Int) := by omega
      have h2d : decide ((64 : Int) < (os.length : Int)) = false := by simpa using h2I
      by_cases h3 : 1 ≤ z
      · rw [decide_eq_true h3, Bool.true_and] at hB
        have h4 : ¬ z ≤ 2147483647 := by simpa using hB
        have h3I : ¬ z < 1 := by omega
        have h3d : decide (z < 1) = false := by simpa using h3I
        have h4I : (2147483647 : Int) < z := by omega
        have h4d : decide ((2147483647 : Int) < z) = true := by simpa using h4I
        clear hB
        go_wp2
        refine bodyPost_ret (v := .agg #[.int .i64 9, .int .i64 0, .slice none 0 0, .int .i64 0, .slice none 0 0]) (by simp [results, Tryz.results77, go_sem, d0, d1, d2, d3, d4]) rfl ⟨rfl, FIN.out _ ?_⟩
        repeat (first | exact Below.refl _ _ | refine Below.setCell ?_ (by simp; try omega) _)
      · have h3I : z < 1 := by omega
        have h3d : decide (z < 1) = true := by simpa using h3I
        clear hB
        go_wp2
        refine bodyPost_ret (v := .agg #[.int .i64 9, .int .i64 0, .slice none 0 0, .int .i64 0, .slice none 0 0]) (by simp [results, Tryz.results77, go_sem, d0, d1, d2, d3, d4]) rfl ⟨rfl, FIN.out _ ?_⟩
        repeat (first | exact Below.refl _ _ | refine Below.setCell ?_ (by simp; try omega) _)
    · have h2I : (64 : Int) < (os.length : Int) := by omega
      have h2d : decide ((64 : Int) < (os.length : Int)) = true := by simpa using h2I
      clear hB
      go_wp2
      refine bodyPost_ret (v := .agg #[.int .i64 9, .int .i64 0, .slice none 0 0, .int .i64 0, .slice none 0 0]) (by simp [results, Tryz.results77, go_sem, d0, d1, d2, d3, d4]) rfl ⟨rfl, FIN.out _ ?_⟩
      repeat (first | exact Below.refl _ _ | refine Below.setCell ?_ (by simp; try omega) _)
  · have h1I : (os.length : Int) < 1 := by omega
    have h1d : decide ((os.length : Int) < 1) = true := by simpa using h1I
    clear hB
    go_wp2
    refine bodyPost_ret (v := .agg #[.int .i64 9, .int .i64 0, .slice none 0 0, .int .i64 0, .slice none 0 0]) (by simp [results, Tryz.results77, go_sem, d0, d1, d2, d3, d4]) rfl ⟨rfl, FIN.out _ ?_⟩
    repeat (first | exact Below.refl _ _ | refine Below.setCell ?_ (by simp; try omega) _)
theorem rowP_below {w w' : World} {lo n m : Nat} {e : TypeId} {v : Value} {us : List Value} (h : w.ownsRow lo e m v n us) (hb : Below w.heap.size w w') : w'.ownsRow lo e m v n us := by
 refine ⟨h.1, ?_⟩
 rcases h.2 with hn | ⟨g, cap, cur, rfl, hbg, hgg, rest⟩
 · exact .inl hn
 · exact .inr ⟨g, cap, cur, rfl, hbg, by rw [hb.block g (Array.getElem?_eq_some_iff.1 hgg).1]; exact hgg, rest⟩
def NotAt (u v : Value) : Prop := ∀ b o n c, u = .slice (some ⟨b, o, none⟩) n c → v.ownBlock ≠ some b
theorem RdN.grown {w w' : World} {v u : Value} {ns : List Nd} (h : RdN w v ns) (hg : w.grownBy w' u.ownBlock) (hne : ns = [] ∨ NotAt v u) : RdN w' v ns := by
 obtain ⟨ao, cap, rfl, h1, h2, h3⟩ := h
 refine ⟨ao, cap, rfl, h1, h2, ?_⟩
 rcases h3 with h3 | ⟨b, off, rfl, hlt, hc⟩
 · exact .inl h3
 · rcases hne with hne | hne
   · exact .inl hne
   refine .inr ⟨b, off, rfl, Nat.lt_of_lt_of_le hlt hg.size, fun i hi => ?_⟩
   have hb := hg.block b hlt (fun e => hne b off _ _ rfl e.symm)
   have q : ∀ j, w'.cell? ⟨b, j, none⟩ = w.cell? ⟨b, j, none⟩ := fun j => World.cell?_of_block (a := ⟨b, j, none⟩) hb
   obtain ⟨c0, c1, c2, c3, c4, c5, c6⟩ := hc i hi
   exact ⟨(q _).trans c0, (q _).trans c1, (q _).trans c2, (q _).trans c3, (q _).trans c4, (q _).trans c5, (q _).trans c6⟩
theorem rowP_mono {w : World} {lo lo' n m : Nat} {e : TypeId} {v : Value} {us : List Value} (h : w.ownsRow lo e m v n us) (hl : lo' ≤ lo) : w.ownsRow lo' e m v n us := by
 refine ⟨h.1, ?_⟩
 rcases h.2 with hn | ⟨g, cap, cur, rfl, hbg, rest⟩
 · exact .inl hn
 · exact .inr ⟨g, cap, cur, rfl, by omega, rest⟩
theorem Tryz.infoStr9 : (Tryz.prog.info? 9).map (fun i => (i.zero, i.size, i.bytes)) = some (some (.string ByteArray.empty), 1, 16) := by kernel_rfl
theorem specPrep_ok (w : World) (v vo : Value) (ns : List Nd) (os : List Op5) (z : Int) (h : RdN w v ns) (ho : RdO w vo os) (hos : ∀ i, i < os.length → (oAt os i).path.size ≤ 1048576 ∧ (oAt os i).data.size ≤ 1048576) (hb : okPrep ns os z = true) :
    Calls Tryz.prog 77 #[.agg #[v], .agg #[vo], .int .i64 z] w fun e w' => PrOk w ns z (runO z os ns 0 []) e w' := by
 obtain ⟨i0, hi, hz0, hz1, hz2⟩ := info_parts Tryz.infoStr9
 unfold okPrep at hb
 simp only [Bool.and_eq_true, decide_eq_true_eq] at hb
 obtain ⟨hok, h1, h2, h3, h4⟩ := hb
 have HSND : Hid (Snd ns) := okTree_snd.1 hok
 have HOK : Hid (okTree ns = true) := hok
 have hn : ns.length ≤ 1000 := HSND.out.2.2
 obtain ⟨ao, ca, rfl, _, _⟩ := h.len
 obtain ⟨bo, cb, rfl, _, _⟩ := ho.len
 have HR : Hid (RdN w (.slice ao ns.length ca) ns) := h
 have HOR : Hid (RdO w (.slice bo os.length cb) os) := ho
 have HOS : Hid (∀ i, i < os.length → (oAt os i).path.size ≤ 1048576 ∧ (oAt os i).data.size ≤ 1048576) := hos
 have HSZ : Hid (∀ i, (nAt ns i).path.size ≤ 1048576 ∧ (nAt ns i).data.size ≤ 1048576) := by
  intro i
  by_cases hi : i < ns.length
  · have := okNd_all (HSND.out.2.1 _ (List.getElem_mem hi))
    rw [nAt_get hi]; omega
  · have : nAt ns i = nd0 := by unfold nAt; simp [List.getD, List.getElem?_eq_none (show ns.length ≤ i by omega)]
    rw [this]; simp [nd0]
 obtain ⟨res, hres⟩ : ∃ res, res = runO z os ns 0 [] := ⟨_, rfl⟩
 have HRES : Hid (runO z (os.drop 0) ns 0 [] = res) := hres.symm
 rw [← hres]
 have X0 : Hid (PrB w (.slice ao ns.length ca) (.slice bo os.length cb) (((w.alloc (.cells #[.slice ao ns.length ca] 25)).alloc (.cells #[.slice bo os.length cb] 132)).alloc (.cells #[.int .i64 0, .int .i64 0, .slice none 0 0, .int .i64 0, .slice none 0 0] 128))) := PrB.new _ _ _ _ _ _
 obtain ⟨bb, bof, rfl, hbb, HC⟩ : ∃ b off, bo = some ⟨b, off, none⟩ ∧ b < w.heap.size ∧ Hid (∀ i, i < os.length → CellsO w b (off + i * 5) (oAt os i)) := by
  obtain ⟨ao', cap', e', -, -, h3⟩ := ho
  simp only [Value.slice.injEq] at e'
  obtain ⟨rfl, -, -⟩ := e'
  rcases h3 with h3 | ⟨b, o, rfl, hb, hc⟩
  · rw [h3] at h1; simp at h1
  · exact ⟨b, o, rfl, hb, hc⟩
 have h1I : ¬ (os.length : Int) < 1 := by omega
 have h1d : decide ((os.length : Int) < 1) = false := by simpa using h1I
 have h2I : ¬ (64 : Int) < (os.length : Int) := by omega
 have h2d : decide ((64 : Int) < (os.length : Int)) = false := by simpa using h2I
 have h3I : ¬ z < 1 := by omega
 have h3d : decide (z < 1) = false := by simpa using h3I
 have h4I : ¬ (2147483647 : Int) < z := by omega
 have h4d : decide ((2147483647 : Int) < z) = false := by simpa using h4I
 have HZ : Hid (okS z = true) := by show _ = _; unfold okS; simp; omega
 clear h ho hos hok hres
 go_enter Tryz.func77, Tryz.ntmps77
 go_wp2_with fail
 generalize ((w.alloc (.cells #[.slice ao ns.length ca] 25)).alloc (.cells #[.slice (some ⟨bb, bof, none⟩) os.length cb] 132)).alloc (.cells #[.int .i64 0, .int .i64 0, .slice none 0 0, .int .i64 0, .slice none 0 0] 128) = w0 at *
 obtain ⟨-, -, a0, -⟩ := X0.out
 go_wp2_with fail
 clear a0
 refine (specTree_any _ _ ns (HR.out.below X0.out.1) (by omega) HSZ.out).mono ?_
 rintro e w1 ⟨rfl, b1⟩
 rw [HOK.out]
 have X1 := hd9 (X0.out.below b1)
 clear b1 X0 HOK
 have zz : w.heap.size + 3 ≤ w1.heap.size := X1.out.2.1
 obtain ⟨-, -, a0, a1, -⟩ := X1.out
 go_wp2
 clear a0 a1
 have BL : Hid (Below w1.heap.size w1 (w1.alloc (.cells #[] 9))) := (Below.refl _ _).alloc (Nat.le_refl _) _
 have NA0 : Hid (ns = [] ∨ NotAt (.slice ao ns.length ca) (.slice (some ⟨w1.heap.size, 0, none⟩) 0 0)) := by
  obtain ⟨ao', cap', e', -, -, h3⟩ := HR.out
  simp only [Value.slice.injEq] at e'
  obtain ⟨rfl, -, -⟩ := e'
  rcases h3 with h3 | ⟨b', o', h4, hb, -⟩
  · exact .inl h3
  · refine .inr (fun b o n c e => ?_)
    simp only [Value.slice.injEq] at e
    rw [h4] at e
    simp at e
    simp [Value.ownBlock]
    omega
 go_loopw [7, 8, 9] (fun vk vn i wr => ∃ (j : Nat) (uk un : Value) (nk : List Nd) (nm : List ByteArray), j ≤ os.length ∧ uk = vk ∧ un = vn ∧ i = .int .i64 j ∧ Hid (RdN wr uk nk) ∧ Hid (Snd nk) ∧ Hid (nm.length = j) ∧ Hid (wr.ownsRow w1.heap.size 9 1 un j (nm.map Value.string)) ∧ Hid (runO z (os.drop j) nk j nm = res) ∧ Hid (Below w1.heap.size w1 wr) ∧ Hid (nk = [] ∨ NotAt uk un)) (fun _ _ i _ => os.length - (intOf i).toNat)
 case atStart => exact ⟨0, _, _, ns, [], Nat.zero_le _, rfl, rfl, rfl, HR.out.below (X1.out.1.trans (BL.out.mono (by omega))), HSND, (show _ = _ from rfl), World.ownsRow_lit w1 #[] 0 (Nat.le_refl _) (Nat.zero_le _) rfl, HRES, BL, NA0⟩
 case round =>
  clear BL HRES
  obtain ⟨j, uk, un, nk, nm, hj, rfl, rfl, rfl, RK, SK, NL, ON, HRS, BK, NA⟩ := hrel
  clear NA0
  have XK : Hid (PrB w (.slice ao ns.length ca) (.slice (some ⟨bb, bof, none⟩) os.length cb) wr) := X1.out.belowB BK.out zz
  obtain ⟨ka, kc, rfl, _, _⟩ := RK.out.len
  obtain ⟨-, zk, a0, a1, -⟩ := XK.out
  by_cases hlt : j < os.length
  · have hltI : (j : Int) < (os.length : Int) := by omega
    obtain ⟨q0, q1, q2, q3, q4⟩ := (HC.out j hlt).below (XK.out.1) hbb
    obtain ⟨hp, hd⟩ := HOS.out j hlt
    have HGO : Hid ((doO nk (oAt os j) z).1 ≠ 0 → ((doO nk (oAt os j) z).1, j, nk, nm) = res) := fun hne => (runO_bad hlt hne).symm.trans HRS.out
    have HGN : Hid ((doO nk (oAt os j) z).1 = 0 → runO z (os.drop (j + 1)) (doO nk (oAt os j) z).2.1 (j + 1) (nm ++ [(doO nk (oAt os j) z).2.2]) = res) := fun he => (runO_good hlt he).symm.trans HRS.out
    have SN : Hid (Snd (doO nk (oAt os j) z).2.1) := doO_snd SK.out _ HZ.out
    have CD := l3Do_any wr _ nk (oAt os j) z RK.out SK.out.2.2 (fun i hi => by rw [nAt_get hi]; exact SK.out.2.1 _ (List.getElem_mem hi)) hp hd
    unfold DoPost at CD
    have HNA : Hid (∀ (a : Option Addr) (c : Nat) (l : List Nd), Fresh wr (.slice ka nk.length kc) (.slice a l.length c) → l = [] ∨ NotAt (.slice a l.length c) un) := by
     intro a c l hf
     rcases hf with h9 | ⟨n, c, h9⟩ | ⟨g, n, c, h9, hg⟩
     · rw [h9]
       rcases NA.out with h8 | h8
       · left
         simp only [Value.slice.injEq] at h9
         exact List.eq_nil_of_length_eq_zero (by rw [h9.2.1, h8]; rfl)
       · exact .inr h8
     · rw [h9]
       exact .inr (fun b o n c e => by simp at e)
     · rw [h9]
       refine .inr (fun b o n c e => ?_)
       simp at e
       intro e2
       have := (ON.out.lt b e2).2
       omega
    clear RK SK HRS
    generalize oAt os j = oj at *
    go_wp2_with fail
    refine CD.mono ?_
    rintro e w2 ⟨v2, rfl, r2, f2, b2⟩
    clear CD q0 q1 q2 q3 q4 a0 a1
    have X2 := hd9 (XK.out.below b2)
    have B2 := hd9 (BK.out.trans (b2.mono BK.out.size))
    have O2 : Hid (w2.ownsRow w1.heap.size 9 1 un j (nm.map Value.string)) := rowP_below ON.out b2
    generalize doO nk oj z = dd at *
    obtain ⟨a2, c2, rfl, _, _⟩ := r2.len
    have R2 : Hid (RdN w2 (.slice a2 dd.2.1.length c2) dd.2.1) := r2
    have N2 : Hid (dd.2.1 = [] ∨ NotAt (.slice a2 dd.2.1.length c2) un) := HNA.out _ _ _ f2
    have s2 := b2.size
    clear r2 b2 f2 XK BK HNA
    by_cases hc : dd.1 = 0
    · have HN2 : Hid (runO z (os.drop (j + 1)) dd.2.1 (j + 1) (nm ++ [dd.2.2]) = res) := HGN.out hc
      rw [hc]
      clear HGO HGN ON
      obtain ⟨-, z2, -⟩ := X2.out
      go_wp2_with (at_builtin; go_must (refine wpList_append_lies _ rfl _ _ 126 rfl w1.heap.size 9 i0 (.string ByteArray.empty) 1 16 Tryz.underlying126 hi hz0 hz1 hz2 rfl (by decide) _ _ _ rfl (O2.out.alloc _) ⟨w2.heap.size, 0, none⟩ 1 1 [.string dd.2.2] rfl rfl (cell_one_new _ _ _) (by intro u hu; simp at hu; subst hu; rfl) (by decide) ?c3 ?c4 ?c5 (w2.heap.size + 1) (by simp) ?_))
      case c3 => unfold maxLen; omega
      case c4 => omega
      case c5 => have := B2.out.size; simp; omega
      intro g3 cap3 w3 ho3 hg3 hat _
      have bg : Below w1.heap.size w2 w3 := ((Below.refl _ w2).alloc B2.out.size _).grown hg3 (by have := B2.out.size; simp; omega) (fun q hq => (O2.out.lt q hq).1)
      have hgb : w2.grownBy w3 un.ownBlock := World.grownBy.trans (World.grownBy_alloc w2 _ _) hg3
      have R3 : Hid (RdN w3 (.slice a2 dd.2.1.length c2) dd.2.1) := R2.out.grown hgb N2.out
      have N3 : Hid (dd.2.1 = [] ∨ NotAt (.slice a2 dd.2.1.length c2) (.slice (some ⟨g3, 0, none⟩) (j + 1) cap3)) := by
       by_cases he : dd.2.1 = []
       · exact .inl he
       refine .inr (fun b o n c e => ?_)
       rcases hat with h9 | h9
       · rcases N2.out with h8 | h8
         · exact absurd h8 he
         · have := h8 b o n c e
           rw [h9] at this
           exact this
       · obtain ⟨ao', cap', e', -, -, h3⟩ := R2.out
         simp only [Value.slice.injEq] at e e'
         obtain ⟨rfl, -, -⟩ := e'
         rcases h3 with h3 | ⟨b', o', h4, hb, -⟩
         · exact absurd h3 he
         · rw [h4] at e
           simp at e
           simp [Value.ownBlock]
           omega
      have B3 := hd9 (B2.out.trans bg)
      have NL3 : Hid ((nm ++ [dd.2.2]).length = j + 1) := by show _ = _; rw [List.length_append, NL.out]; rfl
      have O3 : Hid (w3.ownsRow w1.heap.size 9 1 (.slice (some ⟨g3, 0, none⟩) (j + 1) cap3) (j + 1) ((nm ++ [dd.2.2]).map Value.string)) := by
       show World.ownsRow _ _ _ _ _ _ _; rw [List.map_append]; exact ho3
      clear ho3 hg3 hat bg hgb R2 N2 O2 B2 X2
      go_wp2
      go_roundw
      case rel => exact ⟨j + 1, _, _, dd.2.1, nm ++ [dd.2.2], by omega, rfl, rfl, by go_num, R3, SN, NL3, O3, HN2, B3, N3⟩
      case measure => simp [intOf]; omega
    · have HN2 : Hid ((dd.1, j, nk, nm) = res) := HGO.out hc
      have hcb : (dd.1 == 0) = false := by simpa using hc
      clear HGO HGN ON O2 N2 R2
      obtain ⟨-, z2, -, -, ⟨d0, d1, d2, d3, d4⟩, df⟩ := X2.out
      have f0 := df 0
      have f1 := df 1
      have f2 := df 2
      have f3 := df 3
      have f4 := df 4
      clear df
      have FB : Hid (∀ W', Below w.heap.size w2 W' → Below w.heap.size w W') := fun W' hW => X2.out.1.trans hW
      generalize dd.1 = d9 at *
      clear X2 B2
      go_wp2
      refine bodyPost_ret (v := .agg #[.int .i64 d9, .int .i64 (j : Int), .slice none 0 0, .int .i64 0, .slice none 0 0]) (by simp [results, Tryz.results77, go_sem, d0, d1, d2, d3, d4]) rfl ?_
      rw [← HN2.out]
      refine ⟨FB.out _ ?_, .inl ⟨hc, rfl⟩⟩
      repeat (first | exact Below.refl _ _ | refine Below.setCell ?_ (by simp; try omega) _)
  · have hjn : j = os.length := by omega
    have HN2 : Hid ((0, j, nk, nm) = res) := by
     have := HRS.out
     rw [List.drop_of_length_le (by omega)] at this
     exact this
    subst hjn
    go_wp2_with fail
    clear a0 a1
    refine (l3Diff_any wr _ _ ns nk (HR.out.below XK.out.1) RK.out hn SK.out.2.2).mono ?_
    rintro e w2 ⟨v2, rfl, o2, b2⟩
    have X2 := hd9 (XK.out.below b2)
    have O2 : Hid (w2.ownsRow w1.heap.size 9 1 un os.length (nm.map Value.string)) := rowP_below ON.out b2
    obtain ⟨ea, ec, rfl, _, _⟩ := (OwnE.rd o2).len
    have E2 : Hid (OwnE 139 w2 wr.heap.size (.slice ea (dif ns nk).length ec) (dif ns nk)) := o2
    clear o2 b2 XK ON RK SK HRS
    obtain ⟨-, z2, -, -, ⟨d0, d1, d2, d3, d4⟩, df⟩ := X2.out
    have f0 := df 0
    have f1 := df 1
    have f2 := df 2
    have f3 := df 3
    have f4 := df 4
    clear df
    have FB : Hid (∀ W', Below w.heap.size w2 W' → Below w.heap.size w W') := fun W' hW => X2.out.1.trans hW
    have hzr : w1.heap.size ≤ wr.heap.size := BK.out.size
    have hun : ∃ ua uc, un = .slice ua os.length uc := by
     rcases O2.out.2 with ⟨rfl, h0⟩ | ⟨g, cap, cur, rfl, -⟩
     · exact ⟨_, _, by rw [h0]⟩
     · exact ⟨_, _, rfl⟩
    obtain ⟨ua, uc, rfl⟩ := hun
    have HDL : Hid ((dif ns nk).length = (dif ns nk).length) := rfl
    clear X2 BK NA HC HOS
    go_wp2
    refine bodyPost_ret (v := .agg #[.int .i64 0, .int .i64 0, .slice ua os.length uc, .int .i64 z, .slice ea (dif ns nk).length ec]) (by simp [results, Tryz.results77, go_sem, d0, d1, d2, d3, d4]) rfl ?_
    rw [← HN2.out]
    refine ⟨FB.out _ ?_, .inr ⟨rfl, _, _, rfl, ?_, ?_⟩⟩
    · repeat (first | exact Below.refl _ _ | refine Below.setCell ?_ (by simp; try omega) _)
    · refine rowP_mono (lo := w1.heap.size) ?_ (by omega)
      show World.ownsRow _ _ _ _ _ nm.length (nm.map Value.string)
      rw [NL.out]
      iterate 5 refine ownsRow_setCell_below ?_ (by simp; omega) _
      exact O2.out
    · unfold OwnE
      refine rowP_mono (lo := wr.heap.size) ?_ (by omega)
      iterate 5 refine ownsRow_setCell_below ?_ (by simp; omega) _
      exact E2.out
end Go.Proofs.YtcopcegamadkgaaGreatDoor


