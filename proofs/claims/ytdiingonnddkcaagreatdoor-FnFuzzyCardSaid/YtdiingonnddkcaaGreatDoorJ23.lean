import Derived.Test.YtdiingonnddkcaaGreatDoorJ22
import Derived.Deep.RegionLaw
import Derived.Deep.AppendLies
import Derived.Test.YtdiingonnddkcaaGreatDoorJ02
namespace Go.Proofs.YtdiingonnddkcaaGreatDoor
open Go.RowKit Go.Shelf

theorem QR.new (W : World) (k B : Nat) (v : Value) (s : Sr) (h : SRX W k B s) (t1 t2 t3 : TypeId) : QR W k B v (.slice none 0 0) [] s (((W.alloc (.cells #[v] t1)).alloc (.cells #[.slice none 0 0] t2)).alloc (.cells #[.slice none 0 0] t3)) := by
  have b : Below W.heap.size W (((W.alloc (.cells #[v] t1)).alloc (.cells #[.slice none 0 0] t2)).alloc (.cells #[.slice none 0 0] t3)) := (((Below.refl _ _).alloc (Nat.le_refl _) _).alloc (by simp) _).alloc (by simp; omega) _
  exact ⟨h.keep (b.mono h.lt), Tch.of b, by go_simp, by go_simp, by go_simp, by go_simp, by go_simp, World.ownsRow_nil _ _ _ _, by simp⟩
theorem BoxO.turn {w w' : World} {b k : Nat} {o : Op5} (h : BoxO w b o) (t : Tch k w w') (hne : b ≠ k) : BoxO w' b o := by
  obtain ⟨xl, c0, c1, c2, c3, c4⟩ := h
  have e := t.2 b hne xl
  exact ⟨Nat.lt_of_lt_of_le xl t.size, (World.cell?_of_block (w := w) (a := ⟨b, 0, none⟩) e).trans c0, (World.cell?_of_block (w := w) (a := ⟨b, 1, none⟩) e).trans c1, (World.cell?_of_block (w := w) (a := ⟨b, 2, none⟩) e).trans c2, (World.cell?_of_block (w := w) (a := ⟨b, 3, none⟩) e).trans c3, (World.cell?_of_block (w := w) (a := ⟨b, 4, none⟩) e).trans c4⟩
theorem BoxO.put {w : World} {b : Nat} {o o' : Op5} (h : BoxO w b o) : BoxO (((((w.setCell ⟨b, 0, none⟩ (.int .i64 o'.kind)).setCell ⟨b, 1, none⟩ (.string o'.path)).setCell ⟨b, 2, none⟩ (.string o'.data)).setCell ⟨b, 3, none⟩ (.int .i64 o'.ver)).setCell ⟨b, 4, none⟩ (.bool o'.seq)) b o' := by
  obtain ⟨xl, c0, c1, c2, c3, c4⟩ := h
  refine ⟨by simpa using xl, ?_, ?_, ?_, ?_, ?_⟩ <;> go_simp
theorem field_prep (x0 x1 x2 x3 x4 : Value) (W : World) : (Instr.field 37 (.agg #[x0, x1, x2, x3, x4]) 0).run Tryz.prog W = .ok x0 W := by kernel_rfl
def setO (w : World) (b : Nat) (o : Op5) : World := ((((w.setCell ⟨b, 0, none⟩ (.int .i64 o.kind)).setCell ⟨b, 1, none⟩ (.string o.path)).setCell ⟨b, 2, none⟩ (.string o.data)).setCell ⟨b, 3, none⟩ (.int .i64 o.ver)).setCell ⟨b, 4, none⟩ (.bool o.seq)
theorem setO_below (w : World) (b : Nat) (o : Op5) : Below b w (setO w b o) := by
  unfold setO
  iterate 5 refine Below.setCell ?_ (by show b ≤ b; exact Nat.le_refl _) _
  exact Below.refl _ _

set_option maxHeartbeats 8000000 in
set_option maxRecDepth 100000 in
theorem req_k (W : World) (k B : Nat) (s : Sr) (v : Value) (ns : List Nd) (h : SRX W k B s) (ho : RdN W v ns) (hlo : OffK k v) (hn : ns.length ≤ 1000000) (hsz : SzT ns) :
    Calls Tryz.prog 23 #[.pointer (some ⟨k, 0, none⟩), .agg #[v]] W fun e w' => ∃ u, e = .returned (.agg #[u]) ∧ OwnOps w' W.heap.size u (s.req ns).1 ∧ SRX w' k B (s.req ns).2 ∧ Tch k W w' := by
  obtain ⟨i0, hi, hz0, hz1, hz2⟩ := info_parts Tryz.infoO9
  have hk1 := h.kB
  have hk2 := h.lt
  have hkW : k < W.heap.size := by omega
  obtain ⟨av, cv, rfl⟩ : ∃ a c, v = .slice a ns.length c := by
    obtain ⟨a, c, h0, _⟩ := ho.len
    exact ⟨a, c, h0⟩
  have HLO : Hid (OffK k (.slice av ns.length cv)) := hlo
  have HSZ : Hid (SzT ns) := hsz
  have HRD : Hid (∀ w', Tch k W w' → RdN w' (.slice av ns.length cv) ns) := fun w' t => ho.tchK hlo t
  have Q0 : Hid (QR W k B (.slice av ns.length cv) (.slice none 0 0) [] s (((W.alloc (.cells #[.slice av ns.length cv] 25)).alloc (.cells #[.slice none 0 0] 28)).alloc (.cells #[.slice none 0 0] 28))) := QR.new W k B _ s h _ _ _
  have HRN : Hid (s.reqN = if (s.next 3).1 = 0 then (1 + ((s.next 3).2.next 5).1, ((s.next 3).2.next 5).2) else (1, (s.next 3).2)) := rfl
  have HREQ : Hid (s.req ns = s.reqN.2.rops ns s.reqN.1 s.reqN.1) := rfl
  clear h ho hlo hsz
  go_enter Tryz.func23, Tryz.ntmps23
  go_wp2_with fail
  generalize ((W.alloc (.cells #[.slice av ns.length cv] 25)).alloc (.cells #[.slice none 0 0] 28)).alloc (.cells #[.slice none 0 0] 28) = w0 at *
  refine (next_x _ k B 3 s Q0.out.src (by omega)).mono ?_
  rintro e w1 ⟨rfl, s1, t1⟩
  have Q1 : Hid (QR W k B (.slice av ns.length cv) (.slice none 0 0) [] (s.next 3).2 w1) := Q0.out.next s1 t1 hkW
  clear s1 t1 Q0
  generalize s.next 3 = n3 at *
  by_cases h0 : n3.1 = 0
  · have h0I : ((n3.1 : Int) == 0) = true := by simp [h0]
    have h0J : (n3.1 : Int) = 0 := by omega
    rw [if_pos h0] at HRN
    go_wp2_with fail
    refine (next_x _ k B 5 n3.2 Q1.out.src (by omega)).mono ?_
    rintro e w2 ⟨rfl, s2, t2⟩
    have Q2 : Hid (QR W k B (.slice av ns.length cv) (.slice none 0 0) [] (n3.2.next 5).2 w2) := Q1.out.next s2 t2 hkW
    have hlt5 := n3.2.next_lt 5 (by omega)
    clear s2 t2 Q1 h0I h0J
    generalize n3.2.next 5 = n5 at *
    rw [HRN.out] at HREQ
    clear HRN
    go_wp2
    go_loopw [7] (fun i wr => ∃ (j : Nat) (u : Value), j ≤ (1 + n5.1) ∧ i = .int .i64 j ∧ Hid (QR W k B (.slice av ns.length cv) u (n5.2.rops ns (1 + n5.1) j).1 (n5.2.rops ns (1 + n5.1) j).2 wr)) (fun i _ => (1 + n5.1) - (intOf i).toNat)
    case atStart => exact ⟨0, _, Nat.zero_le _, rfl, Q2⟩
    case round =>
      clear Q2
      obtain ⟨j, u, hj, rfl, HQ⟩ := hrel
      obtain ⟨ua, uc, rfl⟩ := HQ.out.own.slice
      by_cases hlt : j < (1 + n5.1)
      · have hltI : (j : Int) < 1 + (n5.1 : Int) := by omega
        have HST : Hid (n5.2.rops ns (1 + n5.1) (j + 1) = ((n5.2.rops ns (1 + n5.1) j).1 ++ [((n5.2.rops ns (1 + n5.1) j).2.rop ns (1 + n5.1)).1], ((n5.2.rops ns (1 + n5.1) j).2.rop ns (1 + n5.1)).2)) := rfl
        have hol : (n5.2.rops ns (1 + n5.1) j).1.length ≤ 5 := by rw [n5.2.rops_len ns (1 + n5.1) j]; omega
        generalize n5.2.rops ns (1 + n5.1) j = q at *
        have ct := HQ.out.ct
        go_wp2_with fail
        clear ct
        refine (op_k _ k B q.2 _ ns HQ.out.src (HRD.out _ HQ.out.tch) HLO.out hn (fun i _ => (HSZ.out i).1)).mono ?_
        rintro e w3 ⟨rfl, s3, t3⟩
        have Q3 : Hid (QR W k B (.slice av ns.length cv) (.slice ua q.1.length uc) q.1 (q.2.op ns).2 w3) := HQ.out.next s3 t3 hkW
        have HOS : Hid (SzO (q.2.op ns).1) := q.2.op_sz HSZ.out
        have HRP : Hid (q.2.rop ns (1 + n5.1) = if 1 < (1 + n5.1) then (if ((q.2.op ns).2.next 4).1 = 0 then ((q.2.op ns).1, ((q.2.op ns).2.next 4).2) else Sr.tries ns 4 ((q.2.op ns).1, ((q.2.op ns).2.next 4).2)) else q.2.op ns) := rfl
        clear s3 t3 HQ
        generalize q.2.op ns = oq at *
        have bA : Below w3.heap.size w3 (w3.alloc (.cells #[.int .i64 oq.1.kind, .string oq.1.path, .string oq.1.data, .int .i64 oq.1.ver, .bool oq.1.seq] 40)) := (Below.refl _ _).alloc (Nat.le_refl _) _
        have Q4 : Hid (QR W k B (.slice av ns.length cv) (.slice ua q.1.length uc) q.1 oq.2 (w3.alloc (.cells #[.int .i64 oq.1.kind, .string oq.1.path, .string oq.1.data, .int .i64 oq.1.ver, .bool oq.1.seq] 40))) := Q3.out.below bA hkW
        have X4 : Hid (BoxO (w3.alloc (.cells #[.int .i64 oq.1.kind, .string oq.1.path, .string oq.1.data, .int .i64 oq.1.ver, .bool oq.1.seq] 40)) w3.heap.size oq.1) := BoxO.new _ _ _
        have F4 : Hid (∀ i, (w3.alloc (.cells #[.int .i64 oq.1.kind, .string oq.1.path, .string oq.1.data, .int .i64 oq.1.ver, .bool oq.1.seq] 40)).frozen? ⟨w3.heap.size, i, none⟩ = false) := fun i => by simp
        have hOB : W.heap.size + 3 ≤ w3.heap.size := Q3.out.lt
        have hkO : w3.heap.size ≠ k := by omega
        have HVB : Hid (∀ g, Value.ownBlock (.slice ua q.1.length uc) = some g → g < w3.heap.size) := fun g e => (World.ownsRow.lt Q3.out.own g e).2
        clear bA Q3
        by_cases hN1 : 1 < (1 + n5.1)
        · have hN1I : (1 : Int) < 1 + (n5.1 : Int) := by omega
          rw [if_pos hN1] at HRP
          go_wp2_with fail
          generalize w3.alloc (.cells #[.int .i64 oq.1.kind, .string oq.1.path, .string oq.1.data, .int .i64 oq.1.ver, .bool oq.1.seq] 40) = w4' at *
          generalize w3.heap.size = OB at *
          refine (next_x _ k B 4 oq.2 Q4.out.src (by omega)).mono ?_
          rintro e w5 ⟨rfl, s5, t5⟩
          have Q5 : Hid (QR W k B (.slice av ns.length cv) (.slice ua q.1.length uc) q.1 (oq.2.next 4).2 w5) := Q4.out.next s5 t5 hkW
          have X5 : Hid (BoxO w5 OB oq.1) := X4.out.turn t5 hkO
          have F5 : Hid (∀ i, w5.frozen? ⟨OB, i, none⟩ = false) := fun i => (World.frozen?_of_block (t5.2 OB hkO X4.out.1)).trans (F4.out i)
          clear s5 t5 Q4 X4 F4
          generalize oq.2.next 4 = n4 at *
          by_cases h4 : n4.1 = 0
          · rw [if_pos h4] at HRP
            have h4I : ((n4.1 : Int) == 0) = true := by simp [h4]
            have h4J : (n4.1 : Int) = 0 := by omega
            have HOW : Hid (∀ ob, (World.alloc w5 ob).ownsRow (W.heap.size + 3) 40 5 (.slice ua q.1.length uc) q.1.length (orow q.1)) := fun ob => World.ownsRow.alloc Q5.out.own ob
            have HLT : W.heap.size + 3 ≤ w5.heap.size := by
              have h9 := Q5.out.lt
              have e9 : w5.heap.size = w5.heap.size := rfl
              omega
            have HCL : Hid (∀ j u, (opL oq.1)[j]? = some u → (World.alloc w5 (.cells #[.int .i64 oq.1.kind, .string oq.1.path, .string oq.1.data, .int .i64 oq.1.ver, .bool oq.1.seq] 40)).cell? ((⟨w5.heap.size, 0, none⟩ : Addr).add j) = some u) := by
              have h9 := opL_cells w5 oq.1 40
              have e9 : w5.heap.size = w5.heap.size := rfl
              rw [e9] at h9
              exact h9
            obtain ⟨xl, c0, c1, c2, c3, c4⟩ := X5.out
            have co : w5.cell? ⟨W.heap.size + 1 + 1, 0, none⟩ = some (.slice ua q.1.length uc) := Q5.out.co
            have fo : w5.frozen? ⟨W.heap.size + 1 + 1, 0, none⟩ = false := Q5.out.fo
            have hne2 : W.heap.size + 1 + 1 ≠ OB := by omega
            go_wp2_with (at_builtin; go_must (refine wpList_append_lies _ rfl _ _ 26 rfl (W.heap.size + 3) 40 i0 _ 5 56 Tryz.underlying26 hi hz0 hz1 hz2 rfl (by omega) (.slice ua q.1.length uc) q.1.length (orow q.1) rfl (HOW.out _) ⟨w5.heap.size, 0, none⟩ 1 1 (opL oq.1) rfl rfl HCL.out (opL_one _) (by omega) (by unfold maxLen; omega) (by omega) (by simp; omega) (w5.heap.size + 1) (by simp) ?_))
            intro g4 cap4 w4 ho4 hg4 hat4 hlt4
            obtain ⟨P4, q4, q5⟩ := Q5.out.push (by omega) ho4 hg4
            have q6 : w4.cell? ⟨W.heap.size + 1 + 1, 0, none⟩ = some (.slice ua q.1.length uc) := q4
            have q7 : w4.frozen? ⟨W.heap.size + 1 + 1, 0, none⟩ = false := q5
            all_goals
              have HP : Hid (QR W k B (.slice av ns.length cv) (.slice (some ⟨g4, 0, none⟩) (q.1.length + 1) cap4) (q.1 ++ [oq.1]) n4.2 (w4.setCell ⟨W.heap.size + 2, 0, none⟩ (.slice (some ⟨g4, 0, none⟩) (q.1.length + 1) cap4))) := P4
              clear P4 q4 q5 ho4 hg4 hat4 hlt4 HOW HCL xl c0 c1 c2 c3 c4 co fo Q5 X5 F5 HVB HOS
              go_wp2
              go_roundw
              case rel => exact ⟨j + 1, _, by omega, by go_num, by rw [HST.out, HRP.out]; exact HP⟩
              case measure => simp [intOf]; omega
          · rw [if_neg h4] at HRP
            have h4I : ((n4.1 : Int) == 0) = false := by simp; omega
            have h4J : ¬ (n4.1 : Int) = 0 := by omega
            have h4K : ((n4.1 : Int) != 0) = true := by simp; omega
            go_wp2
            go_loopw [9] (fun i wr => ∃ (t : Nat) (p : Op5 × Sr), t ≤ 4 ∧ i = .int .i64 t ∧ Hid (QR W k B (.slice av ns.length cv) (.slice ua q.1.length uc) q.1 p.2 wr) ∧ Hid (BoxO wr OB p.1) ∧ Hid (∀ i, wr.frozen? ⟨OB, i, none⟩ = false) ∧ Hid (SzO p.1) ∧ Hid (q.2.rop ns (1 + n5.1) = Sr.tries ns (4 - t) p)) (fun i _ => 4 - (intOf i).toNat)
            case atStart => exact ⟨0, (oq.1, n4.2), by omega, rfl, Q5, X5, F5, HOS, HRP⟩
            case round =>
              clear Q5 X5 F5 HOS HRP h4I h4J h4 h4K
              obtain ⟨t, p, ht, rfl, Q6, X6, F6, Z6, R6⟩ := hrel
              rename_i wr
              by_cases htl : t < 4
              · have htI : (t : Int) < 4 := by omega
                obtain ⟨m, hm⟩ : ∃ m, 4 - t = m + 1 := ⟨3 - t, by omega⟩
                have hm2 : 4 - (t + 1) = m := by omega
                have R7 : Hid (q.2.rop ns (1 + n5.1) = if prC ns p.1 = 0 then p else Sr.tries ns m (p.2.op ns)) := by
                  have := R6.out
                  rw [hm] at this
                  exact this
                have RO : Hid (RdO (wr.alloc (.cells #[.int .i64 p.1.kind, .string p.1.path, .string p.1.data, .int .i64 p.1.ver, .bool p.1.seq] 40)) (.slice (some ⟨wr.heap.size, 0, none⟩) 1 1) [p.1]) := rdO_one wr p.1 _
                have b7 : Below wr.heap.size wr (wr.alloc (.cells #[.int .i64 p.1.kind, .string p.1.path, .string p.1.data, .int .i64 p.1.ver, .bool p.1.seq] 40)) := (Below.refl _ _).alloc (Nat.le_refl _) _
                have Q7 : Hid (QR W k B (.slice av ns.length cv) (.slice ua q.1.length uc) q.1 p.2 (wr.alloc (.cells #[.int .i64 p.1.kind, .string p.1.path, .string p.1.data, .int .i64 p.1.ver, .bool p.1.seq] 40))) := Q6.out.below b7 hkW
                have X7 : Hid (BoxO (wr.alloc (.cells #[.int .i64 p.1.kind, .string p.1.path, .string p.1.data, .int .i64 p.1.ver, .bool p.1.seq] 40)) OB p.1) := X6.out.below b7
                have F7 : Hid (∀ i, (wr.alloc (.cells #[.int .i64 p.1.kind, .string p.1.path, .string p.1.data, .int .i64 p.1.ver, .bool p.1.seq] 40)).frozen? ⟨OB, i, none⟩ = false) := fun i => (b7.frozen (p := ⟨OB, i, none⟩) X6.out.1).trans (F6.out i)
                obtain ⟨xl, c0, c1, c2, c3, c4⟩ := X6.out
                have ct := Q6.out.ct
                go_wp2_with fail
                clear xl c0 c1 c2 c3 c4 ct b7 Q6 X6 F6 R6
                generalize wr.alloc (.cells #[.int .i64 p.1.kind, .string p.1.path, .string p.1.data, .int .i64 p.1.ver, .bool p.1.seq] 40) = w7 at *
                refine (prep1 _ _ _ ns p.1 (HRD.out _ Q7.out.tch) RO.out (by omega) HSZ.out Z6.out).mono ?_
                rintro e w8 ⟨i8, a1, n1, d1, z8, a2, n2, d2, rfl, b8⟩
                have Q8 : Hid (QR W k B (.slice av ns.length cv) (.slice ua q.1.length uc) q.1 p.2 w8) := Q7.out.below b8 hkW
                have X8 : Hid (BoxO w8 OB p.1) := X7.out.below b8
                have F8 : Hid (∀ i, w8.frozen? ⟨OB, i, none⟩ = false) := fun i => (b8.frozen (p := ⟨OB, i, none⟩) X7.out.1).trans (F7.out i)
                clear b8 Q7 X7 F7 RO
                have hf9 := field_prep (.int .i64 (prC ns p.1)) (.int .i64 i8) (.slice a1 n1 d1) (.int .i64 z8) (.slice a2 n2 d2) w8
                by_cases hc : prC ns p.1 = 0
                · rw [if_pos hc] at R7
                  have hcb : (prC ns p.1 == 0) = true := by simpa using hc
                  rw [hc] at hf9
                  have HOW : Hid (∀ ob, (World.alloc w8 ob).ownsRow (W.heap.size + 3) 40 5 (.slice ua q.1.length uc) q.1.length (orow q.1)) := fun ob => World.ownsRow.alloc Q8.out.own ob
                  have HLT : W.heap.size + 3 ≤ w8.heap.size := by
                    have h9 := Q8.out.lt
                    have e9 : w8.heap.size = w8.heap.size := rfl
                    omega
                  have HCL : Hid (∀ j u, (opL p.1)[j]? = some u → (World.alloc w8 (.cells #[.int .i64 p.1.kind, .string p.1.path, .string p.1.data, .int .i64 p.1.ver, .bool p.1.seq] 40)).cell? ((⟨w8.heap.size, 0, none⟩ : Addr).add j) = some u) := by
                    have h9 := opL_cells w8 p.1 40
                    have e9 : w8.heap.size = w8.heap.size := rfl
                    rw [e9] at h9
                    exact h9
                  obtain ⟨xl, c0, c1, c2, c3, c4⟩ := X8.out
                  have co : w8.cell? ⟨W.heap.size + 1 + 1, 0, none⟩ = some (.slice ua q.1.length uc) := Q8.out.co
                  have fo : w8.frozen? ⟨W.heap.size + 1 + 1, 0, none⟩ = false := Q8.out.fo
                  have hne2 : W.heap.size + 1 + 1 ≠ OB := by omega
                  go_wp2_with (at_builtin; go_must (refine wpList_append_lies _ rfl _ _ 26 rfl (W.heap.size + 3) 40 i0 _ 5 56 Tryz.underlying26 hi hz0 hz1 hz2 rfl (by omega) (.slice ua q.1.length uc) q.1.length (orow q.1) rfl (HOW.out _) ⟨w8.heap.size, 0, none⟩ 1 1 (opL p.1) rfl rfl HCL.out (opL_one _) (by omega) (by unfold maxLen; omega) (by omega) (by simp; omega) (w8.heap.size + 1) (by simp) ?_))
                  intro g4 cap4 w4 ho4 hg4 hat4 hlt4
                  obtain ⟨P4, q4, q5⟩ := Q8.out.push (by omega) ho4 hg4
                  have q6 : w4.cell? ⟨W.heap.size + 1 + 1, 0, none⟩ = some (.slice ua q.1.length uc) := q4
                  have q7 : w4.frozen? ⟨W.heap.size + 1 + 1, 0, none⟩ = false := q5
                  all_goals
                    have HP : Hid (QR W k B (.slice av ns.length cv) (.slice (some ⟨g4, 0, none⟩) (q.1.length + 1) cap4) (q.1 ++ [p.1]) p.2 (w4.setCell ⟨W.heap.size + 2, 0, none⟩ (.slice (some ⟨g4, 0, none⟩) (q.1.length + 1) cap4))) := P4
                    clear P4 q4 q5 ho4 hg4 hat4 hlt4 HOW HCL xl c0 c1 c2 c3 c4 co fo Q8 X8 F8 HVB Z6
                    go_wp2
                    go_roundw
                    case rel => exact ⟨j + 1, _, by omega, by go_num, by rw [HST.out, R7.out]; exact HP⟩
                    case measure => simp [intOf]; omega
                · rw [if_neg hc] at R7
                  have hcb : (prC ns p.1 == 0) = false := by simpa using hc
                  have ct := Q8.out.ct
                  go_wp2_with fail
                  clear ct
                  refine (op_k _ k B p.2 _ ns Q8.out.src (HRD.out _ Q8.out.tch) HLO.out hn (fun i _ => (HSZ.out i).1)).mono ?_
                  rintro e w9 ⟨rfl, s9, t9⟩
                  have Q9 : Hid (QR W k B (.slice av ns.length cv) (.slice ua q.1.length uc) q.1 (p.2.op ns).2 w9) := Q8.out.next s9 t9 hkW
                  have X9 : Hid (BoxO w9 OB p.1) := X8.out.turn t9 hkO
                  have F9 : Hid (∀ i, w9.frozen? ⟨OB, i, none⟩ = false) := fun i => (World.frozen?_of_block (t9.2 OB hkO X8.out.1)).trans (F8.out i)
                  have Z9 : Hid (SzO (p.2.op ns).1) := p.2.op_sz HSZ.out
                  clear s9 t9 Q8 X8 F8
                  have R9 : Hid (q.2.rop ns (1 + n5.1) = Sr.tries ns (4 - (t + 1)) (p.2.op ns)) := by rw [hm2]; exact R7.out
                  generalize p.2.op ns = pn at *
                  have Q10 : Hid (QR W k B (.slice av ns.length cv) (.slice ua q.1.length uc) q.1 pn.2 (setO w9 OB pn.1)) := Q9.out.far (setO_below _ _ _) hOB (by omega) HVB.out
                  have X10 : Hid (BoxO (setO w9 OB pn.1) OB pn.1) := X9.out.put
                  have F10 : Hid (∀ i, (setO w9 OB pn.1).frozen? ⟨OB, i, none⟩ = false) := fun i => by unfold setO; simp only [World.frozen?_setCell]; exact F9.out i
                  unfold setO at Q10 X10 F10
                  obtain ⟨xl, c0, c1, c2, c3, c4⟩ := X9.out
                  have f0 := F9.out 0
                  have f1 := F9.out 1
                  have f2 := F9.out 2
                  have f3 := F9.out 3
                  have f4 := F9.out 4
                  clear Q9 X9 F9 R7
                  go_wp2
                  go_roundw
                  case rel => exact ⟨t + 1, pn, by omega, by go_num, Q10, X10, F10, Z9, R9⟩
                  case measure => simp [intOf]; omega
              · have ht4 : t = 4 := by omega
                subst ht4
                have R7 : Hid (q.2.rop ns (1 + n5.1) = p) := R6.out
                have HOW : Hid (∀ ob, (World.alloc wr ob).ownsRow (W.heap.size + 3) 40 5 (.slice ua q.1.length uc) q.1.length (orow q.1)) := fun ob => World.ownsRow.alloc Q6.out.own ob
                have HLT : W.heap.size + 3 ≤ wr.heap.size := by
                  have h9 := Q6.out.lt
                  have e9 : wr.heap.size = wr.heap.size := rfl
                  omega
                have HCL : Hid (∀ j u, (opL p.1)[j]? = some u → (World.alloc wr (.cells #[.int .i64 p.1.kind, .string p.1.path, .string p.1.data, .int .i64 p.1.ver, .bool p.1.seq] 40)).cell? ((⟨wr.heap.size, 0, none⟩ : Addr).add j) = some u) := by
                  have h9 := opL_cells wr p.1 40
                  have e9 : wr.heap.size = wr.heap.size := rfl
                  rw [e9] at h9
                  exact h9
                obtain ⟨xl, c0, c1, c2, c3, c4⟩ := X6.out
                have co : wr.cell? ⟨W.heap.size + 1 + 1, 0, none⟩ = some (.slice ua q.1.length uc) := Q6.out.co
                have fo : wr.frozen? ⟨W.heap.size + 1 + 1, 0, none⟩ = false := Q6.out.fo
                have hne2 : W.heap.size + 1 + 1 ≠ OB := by omega
                go_wp2_with (at_builtin; go_must (refine wpList_append_lies _ rfl _ _ 26 rfl (W.heap.size + 3) 40 i0 _ 5 56 Tryz.underlying26 hi hz0 hz1 hz2 rfl (by omega) (.slice ua q.1.length uc) q.1.length (orow q.1) rfl (HOW.out _) ⟨wr.heap.size, 0, none⟩ 1 1 (opL p.1) rfl rfl HCL.out (opL_one _) (by omega) (by unfold maxLen; omega) (by omega) (by simp; omega) (wr.heap.size + 1) (by simp) ?_))
                intro g4 cap4 w4 ho4 hg4 hat4 hlt4
                obtain ⟨P4, q4, q5⟩ := Q6.out.push (by omega) ho4 hg4
                have q6 : w4.cell? ⟨W.heap.size + 1 + 1, 0, none⟩ = some (.slice ua q.1.length uc) := q4
                have q7 : w4.frozen? ⟨W.heap.size + 1 + 1, 0, none⟩ = false := q5
                all_goals
                  have HP : Hid (QR W k B (.slice av ns.length cv) (.slice (some ⟨g4, 0, none⟩) (q.1.length + 1) cap4) (q.1 ++ [p.1]) p.2 (w4.setCell ⟨W.heap.size + 2, 0, none⟩ (.slice (some ⟨g4, 0, none⟩) (q.1.length + 1) cap4))) := P4
                  clear P4 q4 q5 ho4 hg4 hat4 hlt4 HOW HCL xl c0 c1 c2 c3 c4 co fo Q6 X6 F6 HVB Z6 R6
                  go_wp2
                  go_roundw
                  case rel => exact ⟨j + 1, _, by omega, by go_num, by rw [HST.out, R7.out]; exact HP⟩
                  case measure => simp [intOf]; omega
        · have hN1I : ¬ (1 : Int) < 1 + (n5.1 : Int) := by omega
          rw [if_neg hN1] at HRP
          have HOW : Hid (∀ ob, (World.alloc (w3.alloc (.cells #[.int .i64 oq.1.kind, .string oq.1.path, .string oq.1.data, .int .i64 oq.1.ver, .bool oq.1.seq] 40)) ob).ownsRow (W.heap.size + 3) 40 5 (.slice ua q.1.length uc) q.1.length (orow q.1)) := fun ob => World.ownsRow.alloc Q4.out.own ob
          have HLT : W.heap.size + 3 ≤ (w3.heap.size + 1) := by
            have h9 := Q4.out.lt
            have e9 : (w3.alloc (.cells #[.int .i64 oq.1.kind, .string oq.1.path, .string oq.1.data, .int .i64 oq.1.ver, .bool oq.1.seq] 40)).heap.size = (w3.heap.size + 1) := by simp
            omega
          have HCL : Hid (∀ j u, (opL oq.1)[j]? = some u → (World.alloc (w3.alloc (.cells #[.int .i64 oq.1.kind, .string oq.1.path, .string oq.1.data, .int .i64 oq.1.ver, .bool oq.1.seq] 40)) (.cells #[.int .i64 oq.1.kind, .string oq.1.path, .string oq.1.data, .int .i64 oq.1.ver, .bool oq.1.seq] 40)).cell? ((⟨(w3.heap.size + 1), 0, none⟩ : Addr).add j) = some u) := by
            have h9 := opL_cells (w3.alloc (.cells #[.int .i64 oq.1.kind, .string oq.1.path, .string oq.1.data, .int .i64 oq.1.ver, .bool oq.1.seq] 40)) oq.1 40
            have e9 : (w3.alloc (.cells #[.int .i64 oq.1.kind, .string oq.1.path, .string oq.1.data, .int .i64 oq.1.ver, .bool oq.1.seq] 40)).heap.size = (w3.heap.size + 1) := by simp
            rw [e9] at h9
            exact h9
          obtain ⟨xl, c0, c1, c2, c3, c4⟩ := X4.out
          have co : (w3.alloc (.cells #[.int .i64 oq.1.kind, .string oq.1.path, .string oq.1.data, .int .i64 oq.1.ver, .bool oq.1.seq] 40)).cell? ⟨W.heap.size + 1 + 1, 0, none⟩ = some (.slice ua q.1.length uc) := Q4.out.co
          have fo : (w3.alloc (.cells #[.int .i64 oq.1.kind, .string oq.1.path, .string oq.1.data, .int .i64 oq.1.ver, .bool oq.1.seq] 40)).frozen? ⟨W.heap.size + 1 + 1, 0, none⟩ = false := Q4.out.fo
          have hne2 : W.heap.size + 1 + 1 ≠ w3.heap.size := by omega
          go_wp2_with (at_builtin; go_must (refine wpList_append_lies _ rfl _ _ 26 rfl (W.heap.size + 3) 40 i0 _ 5 56 Tryz.underlying26 hi hz0 hz1 hz2 rfl (by omega) (.slice ua q.1.length uc) q.1.length (orow q.1) rfl (HOW.out _) ⟨(w3.heap.size + 1), 0, none⟩ 1 1 (opL oq.1) rfl rfl HCL.out (opL_one _) (by omega) (by unfold maxLen; omega) (by omega) (by simp; omega) ((w3.heap.size + 1) + 1) (by simp) ?_))
          intro g4 cap4 w4 ho4 hg4 hat4 hlt4
          obtain ⟨P4, q4, q5⟩ := Q4.out.push (by omega) ho4 hg4
          have q6 : w4.cell? ⟨W.heap.size + 1 + 1, 0, none⟩ = some (.slice ua q.1.length uc) := q4
          have q7 : w4.frozen? ⟨W.heap.size + 1 + 1, 0, none⟩ = false := q5
          all_goals
            have HP : Hid (QR W k B (.slice av ns.length cv) (.slice (some ⟨g4, 0, none⟩) (q.1.length + 1) cap4) (q.1 ++ [oq.1]) oq.2 (w4.setCell ⟨W.heap.size + 2, 0, none⟩ (.slice (some ⟨g4, 0, none⟩) (q.1.length + 1) cap4))) := P4
            clear P4 q4 q5 ho4 hg4 hat4 hlt4 HOW HCL xl c0 c1 c2 c3 c4 co fo Q4 X4 F4 HVB HOS
            go_wp2
            go_roundw
            case rel => exact ⟨j + 1, _, by omega, by go_num, by rw [HST.out, HRP.out]; exact HP⟩
            case measure => simp [intOf]; omega
      · have hjn : j = (1 + n5.1) := by omega
        have hltI : ¬ (j : Int) < 1 + (n5.1 : Int) := by omega
        have co : wr.cell? ⟨W.heap.size + 1 + 1, 0, none⟩ = some (.slice ua (n5.2.rops ns (1 + n5.1) j).1.length uc) := HQ.out.co
        have cr := HQ.out.cr
        have fr := HQ.out.fr
        have F : Hid (OwnOps (wr.setCell ⟨W.heap.size + 1, 0, none⟩ (.slice ua (n5.2.rops ns (1 + n5.1) j).1.length uc)) W.heap.size (.slice ua (n5.2.rops ns (1 + n5.1) j).1.length uc) (s.req ns).1 ∧ SRX (wr.setCell ⟨W.heap.size + 1, 0, none⟩ (.slice ua (n5.2.rops ns (1 + n5.1) j).1.length uc)) k B (s.req ns).2 ∧ Tch k W (wr.setCell ⟨W.heap.size + 1, 0, none⟩ (.slice ua (n5.2.rops ns (1 + n5.1) j).1.length uc))) := by
          have e : s.req ns = n5.2.rops ns (1 + n5.1) j := by rw [HREQ.out, hjn]
          rw [e]
          refine ⟨rowP_mono (World.ownsRow.kept HQ.out.own (grownBy_set _ _ _ _ _ (World.grownBy.refl _ _)) (.inr (fun e => ?_))) (by omega), HQ.out.src.keep ((Below.refl _ _).setCell (by show B ≤ W.heap.size + 1; omega) _), HQ.out.tch.then ((Below.refl _ _).setCell (by show W.heap.size ≤ W.heap.size + 1; omega) _)⟩
          have := (World.ownsRow.lt HQ.out.own _ e).1
          omega
        clear HQ hjn
        go_wp2
        exact bodyPost_ret (v := .agg #[.slice ua (n5.2.rops ns (1 + n5.1) j).1.length uc]) (by simp [results, Tryz.results23, go_sem, cr]) rfl ⟨_, rfl, F.out.1, F.out.2.1, F.out.2.2⟩
  · have h0I : ((n3.1 : Int) == 0) = false := by simp; omega
    have h0J : ¬ (n3.1 : Int) = 0 := by omega
    rw [if_neg h0] at HRN
    rw [HRN.out] at HREQ
    clear HRN
    go_wp2
    go_loopw [7] (fun i wr => ∃ (j : Nat) (u : Value), j ≤ 1 ∧ i = .int .i64 j ∧ Hid (QR W k B (.slice av ns.length cv) u (n3.2.rops ns 1 j).1 (n3.2.rops ns 1 j).2 wr)) (fun i _ => 1 - (intOf i).toNat)
    case atStart => exact ⟨0, _, Nat.zero_le _, rfl, Q1⟩
    case round =>
      clear Q1
      obtain ⟨j, u, hj, rfl, HQ⟩ := hrel
      obtain ⟨ua, uc, rfl⟩ := HQ.out.own.slice
      by_cases hlt : j < 1
      · have hltI : (j : Int) < 1 := by omega
        have HST : Hid (n3.2.rops ns 1 (j + 1) = ((n3.2.rops ns 1 j).1 ++ [((n3.2.rops ns 1 j).2.rop ns 1).1], ((n3.2.rops ns 1 j).2.rop ns 1).2)) := rfl
        have hol : (n3.2.rops ns 1 j).1.length ≤ 5 := by rw [n3.2.rops_len ns 1 j]; omega
        generalize n3.2.rops ns 1 j = q at *
        have ct := HQ.out.ct
        go_wp2_with fail
        clear ct
        refine (op_k _ k B q.2 _ ns HQ.out.src (HRD.out _ HQ.out.tch) HLO.out hn (fun i _ => (HSZ.out i).1)).mono ?_
        rintro e w3 ⟨rfl, s3, t3⟩
        have Q3 : Hid (QR W k B (.slice av ns.length cv) (.slice ua q.1.length uc) q.1 (q.2.op ns).2 w3) := HQ.out.next s3 t3 hkW
        have HOS : Hid (SzO (q.2.op ns).1) := q.2.op_sz HSZ.out
        have HRP : Hid (q.2.rop ns 1 = if 1 < 1 then (if ((q.2.op ns).2.next 4).1 = 0 then ((q.2.op ns).1, ((q.2.op ns).2.next 4).2) else Sr.tries ns 4 ((q.2.op ns).1, ((q.2.op ns).2.next 4).2)) else q.2.op ns) := rfl
        clear s3 t3 HQ
        generalize q.2.op ns = oq at *
        have bA : Below w3.heap.size w3 (w3.alloc (.cells #[.int .i64 oq.1.kind, .string oq.1.path, .string oq.1.data, .int .i64 oq.1.ver, .bool oq.1.seq] 40)) := (Below.refl _ _).alloc (Nat.le_refl _) _
        have Q4 : Hid (QR W k B (.slice av ns.length cv) (.slice ua q.1.length uc) q.1 oq.2 (w3.alloc (.cells #[.int .i64 oq.1.kind, .string oq.1.path, .string oq.1.data, .int .i64 oq.1.ver, .bool oq.1.seq] 40))) := Q3.out.below bA hkW
        have X4 : Hid (BoxO (w3.alloc (.cells #[.int .i64 oq.1.kind, .string oq.1.path, .string oq.1.data, .int .i64 oq.1.ver, .bool oq.1.seq] 40)) w3.heap.size oq.1) := BoxO.new _ _ _
        have F4 : Hid (∀ i, (w3.alloc (.cells #[.int .i64 oq.1.kind, .string oq.1.path, .string oq.1.data, .int .i64 oq.1.ver, .bool oq.1.seq] 40)).frozen? ⟨w3.heap.size, i, none⟩ = false) := fun i => by simp
        have hOB : W.heap.size + 3 ≤ w3.heap.size := Q3.out.lt
        have hkO : w3.heap.size ≠ k := by omega
        have HVB : Hid (∀ g, Value.ownBlock (.slice ua q.1.length uc) = some g → g < w3.heap.size) := fun g e => (World.ownsRow.lt Q3.out.own g e).2
        clear bA Q3
        rw [if_neg (by omega)] at HRP
        have HOW : Hid (∀ ob, (World.alloc (w3.alloc (.cells #[.int .i64 oq.1.kind, .string oq.1.path, .string oq.1.data, .int .i64 oq.1.ver, .bool oq.1.seq] 40)) ob).ownsRow (W.heap.size + 3) 40 5 (.slice ua q.1.length uc) q.1.length (orow q.1)) := fun ob => World.ownsRow.alloc Q4.out.own ob
        have HLT : W.heap.size + 3 ≤ (w3.heap.size + 1) := by
          have h9 := Q4.out.lt
          have e9 : (w3.alloc (.cells #[.int .i64 oq.1.kind, .string oq.1.path, .string oq.1.data, .int .i64 oq.1.ver, .bool oq.1.seq] 40)).heap.size = (w3.heap.size + 1) := by simp
          omega
        have HCL : Hid (∀ j u, (opL oq.1)[j]? = some u → (World.alloc (w3.alloc (.cells #[.int .i64 oq.1.kind, .string oq.1.path, .string oq.1.data, .int .i64 oq.1.ver, .bool oq.1.seq] 40)) (.cells #[.int .i64 oq.1.kind, .string oq.1.path, .string oq.1.data, .int .i64 oq.1.ver, .bool oq.1.seq] 40)).cell? ((⟨(w3.heap.size + 1), 0, none⟩ : Addr).add j) = some u) := by
          have h9 := opL_cells (w3.alloc (.cells #[.int .i64 oq.1.kind, .string oq.1.path, .string oq.1.data, .int .i64 oq.1.ver, .bool oq.1.seq] 40)) oq.1 40
          have e9 : (w3.alloc (.cells #[.int .i64 oq.1.kind, .string oq.1.path, .string oq.1.data, .int .i64 oq.1.ver, .bool oq.1.seq] 40)).heap.size = (w3.heap.size + 1) := by simp
          rw [e9] at h9
          exact h9
        obtain ⟨xl, c0, c1, c2, c3, c4⟩ := X4.out
        have co : (w3.alloc (.cells #[.int .i64 oq.1.kind, .string oq.1.path, .string oq.1.data, .int .i64 oq.1.ver, .bool oq.1.seq] 40)).cell? ⟨W.heap.size + 1 + 1, 0, none⟩ = some (.slice ua q.1.length uc) := Q4.out.co
        have fo : (w3.alloc (.cells #[.int .i64 oq.1.kind, .string oq.1.path, .string oq.1.data, .int .i64 oq.1.ver, .bool oq.1.seq] 40)).frozen? ⟨W.heap.size + 1 + 1, 0, none⟩ = false := Q4.out.fo
        have hne2 : W.heap.size + 1 + 1 ≠ w3.heap.size := by omega
        go_wp2_with (at_builtin; go_must (refine wpList_append_lies _ rfl _ _ 26 rfl (W.heap.size + 3) 40 i0 _ 5 56 Tryz.underlying26 hi hz0 hz1 hz2 rfl (by omega) (.slice ua q.1.length uc) q.1.length (orow q.1) rfl (HOW.out _) ⟨(w3.heap.size + 1), 0, none⟩ 1 1 (opL oq.1) rfl rfl HCL.out (opL_one _) (by omega) (by unfold maxLen; omega) (by omega) (by simp; omega) ((w3.heap.size + 1) + 1) (by simp) ?_))
        intro g4 cap4 w4 ho4 hg4 hat4 hlt4
        obtain ⟨P4, q4, q5⟩ := Q4.out.push (by omega) ho4 hg4
        have q6 : w4.cell? ⟨W.heap.size + 1 + 1, 0, none⟩ = some (.slice ua q.1.length uc) := q4
        have q7 : w4.frozen? ⟨W.heap.size + 1 + 1, 0, none⟩ = false := q5
        all_goals
          have HP : Hid (QR W k B (.slice av ns.length cv) (.slice (some ⟨g4, 0, none⟩) (q.1.length + 1) cap4) (q.1 ++ [oq.1]) oq.2 (w4.setCell ⟨W.heap.size + 2, 0, none⟩ (.slice (some ⟨g4, 0, none⟩) (q.1.length + 1) cap4))) := P4
          clear P4 q4 q5 ho4 hg4 hat4 hlt4 HOW HCL xl c0 c1 c2 c3 c4 co fo Q4 X4 F4 HVB HOS
          go_wp2
          go_roundw
          case rel => exact ⟨j + 1, _, by omega, by go_num, by rw [HST.out, HRP.out]; exact HP⟩
          case measure => simp [intOf]; omega
      · have hjn : j = 1 := by omega
        have hltI : ¬ (j : Int) < 1 := by omega
        have co : wr.cell? ⟨W.heap.size + 1 + 1, 0, none⟩ = some (.slice ua (n3.2.rops ns 1 j).1.length uc) := HQ.out.co
        have cr := HQ.out.cr
        have fr := HQ.out.fr
        have F : Hid (OwnOps (wr.setCell ⟨W.heap.size + 1, 0, none⟩ (.slice ua (n3.2.rops ns 1 j).1.length uc)) W.heap.size (.slice ua (n3.2.rops ns 1 j).1.length uc) (s.req ns).1 ∧ SRX (wr.setCell ⟨W.heap.size + 1, 0, none⟩ (.slice ua (n3.2.rops ns 1 j).1.length uc)) k B (s.req ns).2 ∧ Tch k W (wr.setCell ⟨W.heap.size + 1, 0, none⟩ (.slice ua (n3.2.rops ns 1 j).1.length uc))) := by
          have e : s.req ns = n3.2.rops ns 1 j := by rw [HREQ.out, hjn]
          rw [e]
          refine ⟨rowP_mono (World.ownsRow.kept HQ.out.own (grownBy_set _ _ _ _ _ (World.grownBy.refl _ _)) (.inr (fun e => ?_))) (by omega), HQ.out.src.keep ((Below.refl _ _).setCell (by show B ≤ W.heap.size + 1; omega) _), HQ.out.tch.then ((Below.refl _ _).setCell (by show W.heap.size ≤ W.heap.size + 1; omega) _)⟩
          have := (World.ownsRow.lt HQ.out.own _ e).1
          omega
        clear HQ hjn
        go_wp2
        exact bodyPost_ret (v := .agg #[.slice ua (n3.2.rops ns 1 j).1.length uc]) (by simp [results, Tryz.results23, go_sem, cr]) rfl ⟨_, rfl, F.out.1, F.out.2.1, F.out.2.2⟩


/-- A node of a wide tree. -/
def widO (i : Nat) : Nd := ⟨⟨#[47, 110]⟩ ++ ⟨(six 5 i 4).toArray⟩, ByteArray.empty, 0, 0, 0, 0, 0⟩
/-- The root and so many nodes below it. -/
def widN : Nat → List Nd
  | 0 => [rootN]
  | n + 1 => widN n ++ [widO (n + 1)]
theorem widN_len : ∀ n, (widN n).length = n + 1
  | 0 => rfl
  | n + 1 => by show (widN n ++ [_]).length = _; rw [List.length_append, widN_len n]; rfl

/-- What a wide tree's making holds. -/
structure WD (W : World) (TB : Nat) (v : Value) (ns : List Nd) (w : World) : Prop where
  bel : Below W.heap.size W w
  own : OwnN 42 w W.heap.size v ns
  ct : w.cell? ⟨TB, 0, none⟩ = some v
  ft : w.frozen? ⟨TB, 0, none⟩ = false
  cr : w.cell? ⟨W.heap.size, 0, none⟩ = some (.slice none 0 0)
  fr : w.frozen? ⟨W.heap.size, 0, none⟩ = false
  tb : W.heap.size < TB
  lt : TB < w.heap.size
  vt : v.ownBlock ≠ some TB
  vr : v.ownBlock ≠ some W.heap.size
theorem WD.push {W w w' w4 : World} {TB g cap : Nat} {v : Value} {ns : List Nd} {n : Nd} {ob : Obj} (h : WD W TB v ns w) (bw : Below w.heap.size w w') (ho : w4.ownsRow W.heap.size 42 7 (.slice (some ⟨g, 0, none⟩) (ns.length + 1) cap) (ns.length + 1) (nrow ns ++ ndL n)) (hg : (w'.alloc ob).grownBy w4 v.ownBlock) (hat : v.ownBlock = some g ∨ g = w'.heap.size + 1) :
    WD W TB (.slice (some ⟨g, 0, none⟩) (ns.length + 1) cap) (ns ++ [n]) (w4.setCell ⟨TB, 0, none⟩ (.slice (some ⟨g, 0, none⟩) (ns.length + 1) cap)) ∧ w4.cell? ⟨TB, 0, none⟩ = some v ∧ w4.frozen? ⟨TB, 0, none⟩ = false := by
  have G : w'.grownBy w4 v.ownBlock := World.grownBy.trans (World.grownBy_alloc w' ob _) hg
  have htb := h.tb
  have hlt := h.lt
  have hs := bw.size
  have hs4 := G.size
  have B4 : Below W.heap.size w' w4 := ⟨G.os, G.tape, G.output, G.size, fun q hq => G.block q (by omega) (fun e => by have := (World.ownsRow.lt h.own q e.symm).1; omega)⟩
  have q1 : w4.cell? ⟨TB, 0, none⟩ = some v := (G.cell_far ⟨TB, 0, none⟩ (by show TB < _; omega) (fun e => h.vt e.symm)).trans ((bw.cell (p := ⟨TB, 0, none⟩) hlt).trans h.ct)
  have q2 : w4.frozen? ⟨TB, 0, none⟩ = false := (G.frozen_far ⟨TB, 0, none⟩ (by show TB < _; omega) (fun e => h.vt e.symm)).trans ((bw.frozen (p := ⟨TB, 0, none⟩) hlt).trans h.ft)
  have q3 : w4.cell? ⟨W.heap.size, 0, none⟩ = some (.slice none 0 0) := (G.cell_far ⟨W.heap.size, 0, none⟩ (by show W.heap.size < _; omega) (fun e => h.vr e.symm)).trans ((bw.cell (p := ⟨W.heap.size, 0, none⟩) (by show W.heap.size < _; omega)).trans h.cr)
  have q4 : w4.frozen? ⟨W.heap.size, 0, none⟩ = false := (G.frozen_far ⟨W.heap.size, 0, none⟩ (by show W.heap.size < _; omega) (fun e => h.vr e.symm)).trans ((bw.frozen (p := ⟨W.heap.size, 0, none⟩) (by show W.heap.size < _; omega)).trans h.fr)
  have hne : Value.ownBlock (.slice (some ⟨g, 0, none⟩) (ns.length + 1) cap) ≠ some TB := by
    rcases hat with e | e
    · rw [show Value.ownBlock (.slice (some ⟨g, 0, none⟩) (ns.length + 1) cap) = some g from rfl, ← e]; exact h.vt
    · simp [Value.ownBlock]; omega
  have hne2 : Value.ownBlock (.slice (some ⟨g, 0, none⟩) (ns.length + 1) cap) ≠ some W.heap.size := by
    rcases hat with e | e
    · rw [show Value.ownBlock (.slice (some ⟨g, 0, none⟩) (ns.length + 1) cap) = some g from rfl, ← e]; exact h.vr
    · simp [Value.ownBlock]; omega
  have ho' : OwnN 42 w4 W.heap.size (.slice (some ⟨g, 0, none⟩) (ns.length + 1) cap) (ns ++ [n]) := by
    unfold OwnN
    rw [List.length_append, nrow_one]
    exact ho
  refine ⟨⟨(h.bel.trans ((bw.mono (by omega)).trans B4)).setCell (by show _ ≤ TB; omega) _, OwnN.setO ho' hne _, World.cell?_setCell_same _ _ _ q1, by rw [World.frozen?_setCell]; exact q2, (World.cell?_setCell_other _ _ _ _ (by intro e; injection e with e; omega)).trans q3, by rw [World.frozen?_setCell]; exact q4, htb, by simp; omega, hne, hne2⟩, q1, q2⟩

set_option maxHeartbeats 4000000 in
set_option maxRecDepth 100000 in
theorem wide_x (W : World) (N : Nat) (h1 : 1 ≤ N) (hN : N ≤ 1001) :
    Calls Tryz.prog 54 #[.int .i64 (N : Int)] W fun e w' => ∃ v, e = .returned (.agg #[v]) ∧ OwnN 42 w' W.heap.size v (widN (N - 1)) ∧ Below W.heap.size W w' := by
  obtain ⟨i0, hi, hz0, hz1, hz2⟩ := info_parts Tryz.infoN
  have BR : Hid (Below W.heap.size W (W.alloc (.cells #[.slice none 0 0] 25))) := (Below.refl _ _).alloc (Nat.le_refl _) _
  go_enter Tryz.func54, Tryz.ntmps54
  go_wp2_with fail
  refine (specNewTree_any _).mono ?_
  rintro e w1 ⟨rfl, n1, b1⟩
  have hsz : (W.alloc (.cells #[.slice none 0 0] 25)).heap.size = W.heap.size + 1 := by simp
  rw [hsz] at n1 b1 ⊢
  have s1 := n1.lt
  have c1 := (b1.cell (p := ⟨W.heap.size, 0, none⟩) (show W.heap.size < _ by omega)).trans (show (W.alloc (.cells #[.slice none 0 0] 25)).cell? ⟨W.heap.size, 0, none⟩ = some (.slice none 0 0) by simp)
  have f1 := (b1.frozen (p := ⟨W.heap.size, 0, none⟩) (show W.heap.size < _ by omega)).trans (show (W.alloc (.cells #[.slice none 0 0] 25)).frozen? ⟨W.heap.size, 0, none⟩ = false by simp)
  have bA : Below w1.heap.size w1 (w1.alloc (.cells #[.slice (some ⟨W.heap.size + 1 + 1, 0, none⟩) 1 1] 25)) := (Below.refl _ _).alloc (Nat.le_refl _) _
  have bW : Below W.heap.size W w1 := BR.out.trans (b1.mono (by omega))
  have G1 : Hid (WD W w1.heap.size (.slice (some ⟨W.heap.size + 1 + 1, 0, none⟩) 1 1) [rootN] (w1.alloc (.cells #[.slice (some ⟨W.heap.size + 1 + 1, 0, none⟩) 1 1] 25))) := by
    refine ⟨bW.trans (bA.mono (by omega)), (ownN_root n1 (by omega)).below bA, by simp, by simp, (bA.cell (p := ⟨W.heap.size, 0, none⟩) (show W.heap.size < _ by omega)).trans c1, (bA.frozen (p := ⟨W.heap.size, 0, none⟩) (show W.heap.size < _ by omega)).trans f1, by omega, by simp, ?_, ?_⟩
    · simp [Value.ownBlock]; omega
    · simp [Value.ownBlock]; omega
  clear n1 b1 c1 f1 bA bW BR hsz
  go_wp2
  generalize w1.alloc (.cells #[.slice (some ⟨W.heap.size + 1 + 1, 0, none⟩) 1 1] 25) = w2 at *
  generalize w1.heap.size = TB at *
  go_loopw [4] (fun i wr => ∃ (j : Nat) (v : Value), j + 1 ≤ N ∧ i = .int .i64 ((j : Int) + 1) ∧ Hid (WD W TB v (widN j) wr)) (fun i _ => N - (intOf i).toNat)
  case atStart => exact ⟨0, _, by omega, rfl, G1⟩
  case round =>
    clear G1
    obtain ⟨j, v, hj, rfl, HG⟩ := hrel
    obtain ⟨av, cv, rfl⟩ := OwnN.slice9 HG.out.own
    by_cases hlt : j + 1 < N
    · have hltI : (j : Int) + 1 < (N : Int) := by omega
      have HNX : Hid (widN (j + 1) = widN j ++ [widO (j + 1)]) := rfl
      have hwl : (widN j).length ≤ 1001 := by rw [widN_len j]; omega
      have HWO : Hid (widO (j + 1) = ⟨⟨#[47, 110]⟩ ++ ⟨(six 5 (j + 1) 4).toArray⟩, ByteArray.empty, 0, 0, 0, 0, 0⟩) := rfl
      generalize widN j = ns at *
      have ct := HG.out.ct
      have ft := HG.out.ft
      have zr := HG.out.lt
      have HCL : Hid (Calls Tryz.prog 63 #[.int .i64 ((j : Int) + 1), .int .i64 4] wr.drew fun e w' => e = .returned (.string ⟨(six 5 (j + 1) 4).toArray⟩) ∧ w'.cell? ⟨TB, 0, none⟩ = some (.slice av ns.length cv) ∧ w'.frozen? ⟨TB, 0, none⟩ = false ∧ (∀ ob, (w'.alloc ob).cell? ⟨TB, 0, none⟩ = some (.slice av ns.length cv)) ∧ Hid (Below wr.heap.size wr w')) := by
        have hh := l3Six_any 4 wr.drew (j + 1) 4 (by omega) (by omega) (by omega) (by decide) (by omega) (by omega)
        rw [show ((j + 1 : Nat) : Int) = (j : Int) + 1 by omega] at hh
        refine hh.mono ?_
        rintro e w' ⟨rfl, b⟩
        have bb : Below wr.heap.size wr w' := (below_drewN' wr 1).trans b
        have q1 := (bb.cell (p := ⟨TB, 0, none⟩) HG.out.lt).trans HG.out.ct
        refine ⟨rfl, q1, (bb.frozen (p := ⟨TB, 0, none⟩) HG.out.lt).trans HG.out.ft, fun ob => ?_, bb⟩
        have ba : Below w'.heap.size w' (w'.alloc ob) := (Below.refl _ _).alloc (Nat.le_refl _) _
        exact (ba.cell (p := ⟨TB, 0, none⟩) (Nat.lt_of_lt_of_le HG.out.lt bb.size)).trans q1
      have hsl := six_len 5 (j + 1) 4
      have HOW : Hid (∀ W' ob, Below wr.heap.size wr W' → (World.alloc W' ob).ownsRow W.heap.size 42 7 (.slice av ns.length cv) ns.length (nrow ns)) := fun W' ob hW' => World.ownsRow.alloc (HG.out.own.below hW') ob
      have HBS : Hid (∀ W', Below wr.heap.size wr W' → W.heap.size ≤ W'.heap.size) := fun W' hW' => by have := HG.out.tb; have := hW'.size; show _ ≤ _; omega
      generalize six 5 (j + 1) 4 = L at *
      have hL9 : ¬ 9223372036854775807 < 2 + L.length := by omega
      go_wp2_with fail
      go_region_law (first
        | (refine step_append_lies _ (by rfl) _ _ _ (by rfl) W.heap.size 42 i0 _ 7 72 Tryz.underlying23 hi hz0 hz1 hz2 rfl (by omega) (.slice av ns.length cv) ns.length (nrow ns) (by rfl) (HOW.out w' _ bw.out) ⟨w'.heap.size, 0, none⟩ 1 1 (ndL ⟨⟨#[47, 110]⟩ ++ ⟨L.toArray⟩, ByteArray.empty, 0, 0, 0, 0, 0⟩) (by rfl) (by rfl) (ndL_cells w' ⟨⟨#[47, 110]⟩ ++ ⟨L.toArray⟩, ByteArray.empty, 0, 0, 0, 0, 0⟩ _) (ndL_one _)
            (by omega) (by unfold maxLen; omega) (by omega) (by have := HBS.out w' bw.out; simp; omega) (w'.heap.size + 1) (by simp) ?_; intro g4 cap4 w4 ho4 hg4 hat4 hlt4; obtain ⟨P4, q4, q5⟩ := HG.out.push bw.out ho4 hg4 hat4)
        | (go_simp; go_at_call 63; refine HCL.out.mono ?_; rintro e w' ⟨rfl, k4, k5, k6, bw⟩))
      all_goals
        have HP : Hid (WD W TB (.slice (some ⟨g4, 0, none⟩) (ns.length + 1) cap4) (widN (j + 1)) (w4.setCell ⟨TB, 0, none⟩ (.slice (some ⟨g4, 0, none⟩) (ns.length + 1) cap4))) := by
          rw [HNX.out, HWO.out]; exact P4
        clear P4 q4 q5 ho4 hg4 hat4 hlt4 k4 k5 k6 bw HG HOW HBS HCL ct ft
        go_wp2
        go_roundw
        case rel => exact ⟨j + 1, _, by omega, by go_num, HP⟩
        case measure => simp [intOf]; omega
    · have hjn : j + 1 = N := by omega
      have hjI : (j : Int) + 1 = (N : Int) := by omega
      have HJ : Hid (N - 1 = j) := by show _ = _; omega
      have hltI : ¬ (j : Int) + 1 < (N : Int) := by omega
      have ct := HG.out.ct
      have cr := HG.out.cr
      have fr := HG.out.fr
      have F : Hid (OwnN 42 (wr.setCell ⟨W.heap.size, 0, none⟩ (.slice av (widN j).length cv)) W.heap.size (.slice av (widN j).length cv) (widN (N - 1)) ∧ Below W.heap.size W (wr.setCell ⟨W.heap.size, 0, none⟩ (.slice av (widN j).length cv))) := by
        rw [HJ.out]
        exact ⟨OwnN.setO HG.out.own HG.out.vr _, HG.out.bel.setCell (by show W.heap.size ≤ W.heap.size; exact Nat.le_refl _) _⟩
      clear HG hjn
      go_wp2
      exact bodyPost_ret (v := .agg #[.slice av (widN j).length cv]) (by simp [results, Tryz.results54, go_sem, cr]) rfl ⟨_, rfl, F.out.1, F.out.2⟩


theorem wi_keep {ns : List Nd} (h : Asc ns) (n : Nd) {a : Nd} (ha : a ∈ ns) (hne : (a.path.toList == n.path.toList) = false) : a ∈ wiN ns n := by
  rw [wi_form n h]
  rw [← List.take_append_drop (plc ns n.path) ns] at ha
  rcases List.mem_append.1 ha with ha | ha
  · exact List.mem_append.2 (.inl ha)
  · refine List.mem_append.2 (.inr (List.mem_cons_of_mem _ ?_))
    rw [← wo_drop ns n.path h]
    exact List.mem_filter.2 ⟨ha, by rw [hne]; rfl⟩
/-- The root stays. -/
def HasR (ns : List Nd) : Prop := ∃ a ∈ ns, (a.path.toList == [47]) = true
theorem HasR.wi {ns : List Nd} (h : HasR ns) (ha : Asc ns) (n : Nd) : HasR (wiN ns n) := by
  obtain ⟨a, h1, h2⟩ := h
  cases e : (a.path.toList == n.path.toList) with
  | false => exact ⟨a, wi_keep ha n h1 e, h2⟩
  | true =>
    refine ⟨n, ?_, ?_⟩
    · rw [wi_form n ha]; exact List.mem_append.2 (.inr (List.mem_cons_self ..))
    · rw [beq_iff_eq] at e h2 ⊢; rw [← e]; exact h2
theorem HasR.wo {ns : List Nd} (h : HasR ns) {p : ByteArray} (hp : (p.toList == [47]) = false) : HasR (woN ns p) := by
  obtain ⟨a, h1, h2⟩ := h
  refine ⟨a, List.mem_filter.2 ⟨h1, ?_⟩, h2⟩
  cases e : (a.path.toList == p.toList) with
  | false => rfl
  | true => rw [beq_iff_eq] at e h2; rw [← e, h2] at hp; simp at hp
theorem HasR.to {ns : List Nd} (h : HasR ns) (ha : Asc ns) (p : ByteArray) (z : Int) : HasR (toN ns p z) := by
  unfold toN
  split
  · exact h.wi ha _
  · exact h
theorem wfO_root {o : Op5} (h : wfO o = true) (hk : o.kind = 2) : (o.path.toList == [47]) = false := by
  unfold wfO at h
  simp only [hk] at h
  simp at h
  simpa using h.2.2
theorem doO_root {ns : List Nd} (h : HasR ns) (ha : Asc ns) (o : Op5) (z : Int) : HasR (doO ns o z).2.1 := by
  unfold doO
  cases hw : wfO o with
  | false => exact h
  | true =>
    simp only [Bool.not_true, Bool.false_eq_true, if_false]
    by_cases h1 : o.kind = 1
    · rw [if_pos h1]
      repeat' split
      all_goals (first | exact h | exact (h.wi ha _).to (asc_wi ha _) _ _)
    · rw [if_neg h1]
      by_cases h2 : o.kind = 2
      · rw [if_pos h2]
        repeat' split
        all_goals (first | exact h | exact (h.wo (wfO_root hw h2)).to (asc_wo ha _) _ _)
      · rw [if_neg h2]
        repeat' split
        all_goals (first | exact h | exact h.wi ha _)
theorem Sr.grow_root (s : Sr) : ∀ i, i ≤ 1000000 → HasR (s.grow i).1
  | 0, _ => ⟨rootN, by simp [Sr.grow], by rw [ByteArray.toList_eq]; rfl⟩
  | i + 1, h => by
    have ih := s.grow_root i (by omega)
    unfold Sr.grow
    split
    · exact doO_root ih (s.grow_inv i (by omega)).1.1 _ _
    · exact ih
theorem HasR.pos {ns : List Nd} (h : HasR ns) : 0 < ns.length := by obtain ⟨a, h1, -⟩ := h; exact List.length_pos_of_mem h1



theorem grown_set9 {w w' : World} {g : Nat} (h : w.grownBy w' (some g)) (j : Nat) (u : Value) : w.grownBy (w'.setCell ⟨g, j, none⟩ u) (some g) := World.grownBy.trans h (grownBy_set w' w' g j u (World.grownBy.refl _ _))
theorem GR.setNd {W w6 : World} {k B TB g cv i : Nat} {ns : List Nd} {s : Sr} (hg : GR W k B TB (.slice (some ⟨g, 0, none⟩) ns.length cv) ns s w6) (hil : i < ns.length) (hk2 : B ≤ W.heap.size) (x : Nd) :
    GR W k B TB (.slice (some ⟨g, 0, none⟩) ns.length cv) (ns.set i x) s (((((((w6.setCell ⟨g, i * 7, none⟩ (.string x.path)).setCell ⟨g, i * 7 + 1, none⟩ (.string x.data)).setCell ⟨g, i * 7 + 2, none⟩ (.int .i64 x.ver)).setCell ⟨g, i * 7 + 3, none⟩ (.int .i64 x.cver)).setCell ⟨g, i * 7 + 4, none⟩ (.int .i64 x.cz)).setCell ⟨g, i * 7 + 5, none⟩ (.int .i64 x.mz)).setCell ⟨g, i * 7 + 6, none⟩ (.int .i64 x.pz)) := by
  have hgW : W.heap.size ≤ g := (World.ownsRow.lt hg.own g rfl).1
  have hgT : g ≠ TB := fun e => hg.vt (by rw [← e]; rfl)
  have hgR : g ≠ W.heap.size := fun e => hg.vr (by rw [← e]; rfl)
  have h1 := nstored hg.own i hil x
  have G := grown_set9 (grown_set9 (grown_set9 (grown_set9 (grown_set9 (grown_set9 (grown_set9 (World.grownBy.refl w6 (some g)) (i * 7) (.string x.path)) (i * 7 + 1) (.string x.data)) (i * 7 + 2) (.int .i64 x.ver)) (i * 7 + 3) (.int .i64 x.cver)) (i * 7 + 4) (.int .i64 x.cz)) (i * 7 + 5) (.int .i64 x.mz)) (i * 7 + 6) (.int .i64 x.pz)
  revert h1 G
  generalize ((((((w6.setCell ⟨g, i * 7, none⟩ (.string x.path)).setCell ⟨g, i * 7 + 1, none⟩ (.string x.data)).setCell ⟨g, i * 7 + 2, none⟩ (.int .i64 x.ver)).setCell ⟨g, i * 7 + 3, none⟩ (.int .i64 x.cver)).setCell ⟨g, i * 7 + 4, none⟩ (.int .i64 x.cz)).setCell ⟨g, i * 7 + 5, none⟩ (.int .i64 x.mz)).setCell ⟨g, i * 7 + 6, none⟩ (.int .i64 x.pz) = w7
  intro h1 G
  have h2 : OwnN 42 w7 W.heap.size (.slice (some ⟨g, 0, none⟩) ns.length cv) (ns.set i x) := by
    unfold OwnN; rw [List.length_set]; exact h1
  have hb : Below W.heap.size w6 w7 := ⟨G.os, G.tape, G.output, G.size, fun q hq => G.block q (by have := hg.lt; have := hg.tb; omega) (fun e => by injection e with e; omega)⟩
  have htb := hg.tb
  have hlt := hg.lt
  exact ⟨hg.src.keep (hb.mono hk2), hg.tch.then hb, h2, (G.cell_far ⟨TB, 0, none⟩ hlt (fun e => hgT (by injection e with e; exact e.symm))).trans hg.ct, (G.frozen_far ⟨TB, 0, none⟩ hlt (fun e => hgT (by injection e with e; exact e.symm))).trans hg.ft, (G.cell_far ⟨W.heap.size, 0, none⟩ (by show W.heap.size < _; omega) (fun e => hgR (by injection e with e; exact e.symm))).trans hg.cr, (G.frozen_far ⟨W.heap.size, 0, none⟩ (by show W.heap.size < _; omega) (fun e => hgR (by injection e with e; exact e.symm))).trans hg.fr, hg.tb, Nat.lt_of_lt_of_le hg.lt hb.size, hg.vt, hg.vr⟩
theorem GR.outN {W w7 : World} {k B TB g cv n : Nat} {ms : List Nd} {s : Sr} (hg : GR W k B TB (.slice (some ⟨g, 0, none⟩) n cv) ms s w7) (hk2 : B ≤ W.heap.size) :
    RdN (w7.setCell ⟨W.heap.size, 0, none⟩ (.slice (some ⟨g, 0, none⟩) n cv)) (.slice (some ⟨g, 0, none⟩) n cv) ms ∧ SRX (w7.setCell ⟨W.heap.size, 0, none⟩ (.slice (some ⟨g, 0, none⟩) n cv)) k B s ∧ Tch k W (w7.setCell ⟨W.heap.size, 0, none⟩ (.slice (some ⟨g, 0, none⟩) n cv)) := by
  have hb : Below W.heap.size w7 (w7.setCell ⟨W.heap.size, 0, none⟩ (.slice (some ⟨g, 0, none⟩) n cv)) := (Below.refl _ _).setCell (by show W.heap.size ≤ W.heap.size; exact Nat.le_refl _) _
  exact ⟨(OwnN.setO hg.own hg.vr _).rd, hg.src.keep (hb.mono hk2), hg.tch.then hb⟩

end Go.Proofs.YtdiingonnddkcaaGreatDoor


