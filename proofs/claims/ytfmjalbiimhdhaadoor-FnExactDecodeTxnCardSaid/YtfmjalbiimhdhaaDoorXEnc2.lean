import Derived.Test.YtfmjalbiimhdhaaDoorXEnc
import Derived.Test.YtfmjalbiimhdhaaDoorLValidTxn
namespace Go.Proofs.YtfmjalbiimhdhaaDoor
open Go.RowKit Go.Shelf

theorem BxE.new (w : World) (e : Ef) : BxE (w.alloc (.cells #[.string e.nd.path, .string e.nd.data, .int .i64 e.nd.ver, .int .i64 e.nd.cver, .int .i64 e.nd.cz, .int .i64 e.nd.mz, .int .i64 e.nd.pz, .int .u8 (mkB e)] 97)) w.heap.size e := by
  have := heap_alloc_new w (.cells #[.string e.nd.path, .string e.nd.data, .int .i64 e.nd.ver, .int .i64 e.nd.cver, .int .i64 e.nd.cz, .int .i64 e.nd.mz, .int .i64 e.nd.pz, .int .u8 (mkB e)] 97)
  exact ⟨⟨⟨_, _, _, this, by decide⟩, (cell_of this _).trans rfl, (cell_of this _).trans rfl, (cell_of this _).trans rfl, (cell_of this _).trans rfl, (cell_of this _).trans rfl, (cell_of this _).trans rfl, (cell_of this _).trans rfl⟩, (cell_of this _).trans rfl⟩

set_option maxHeartbeats 1000000 in
set_option maxRecDepth 100000 in
theorem encTxn_row (w : World) (z : Int) (b o n cap : Nat) (ns : List Ef) (hp : ns.length = n) (hb : b < w.heap.size) (hc : ∀ i, i < n → CellsE w b (o + i * 8) (eAt ns i)) (hR : RdE w (.slice (some ⟨b, o, none⟩) n cap) ns)
    (hsz : ∀ i, (eAt ns i).nd.path.size ≤ 1048576 ∧ (eAt ns i).nd.data.size ≤ 1048576) :
    Calls Tryd.prog 44 #[.agg #[.int .i64 z, .slice (some ⟨b, o, none⟩) n cap]] w fun e w' => ∃ v', e = .returned v' ∧ Own .u8 5 w' w.heap.size v' (txnB z ns) ∧ Below w.heap.size w w' := by
  have HC : Hid (∀ i, i < n → CellsE w b (o + i * 8) (eAt ns i)) := hc
  have HP : Hid (ns.length = n) := hp
  have HR : Hid (RdE w (.slice (some ⟨b, o, none⟩) n cap) ns) := hR
  have HZ : Hid (∀ i, (eAt ns i).nd.path.size ≤ 1048576 ∧ (eAt ns i).nd.data.size ≤ 1048576) := hsz
  have B0 : Hid (Below w.heap.size w (w.alloc (.cells #[.int .i64 z, .slice (some ⟨b, o, none⟩) n cap] 40))) := (Below.refl _ _).alloc (Nat.le_refl _) _
  have X0 : Hid (BoxX (w.alloc (.cells #[.int .i64 z, .slice (some ⟨b, o, none⟩) n cap] 40)) w.heap.size z (.slice (some ⟨b, o, none⟩) n cap)) := BoxX.new _ _ _ _
  clear hc hp hR hsz
  go_enter Tryd.func44, Tryd.ntmps44
  go_wp2_with fail
  generalize w.alloc (.cells #[.int .i64 z, .slice (some ⟨b, o, none⟩) n cap] 40) = w0 at *
  refine (implTxn_any _ _ _ ns (HR.out.below B0.out) HZ.out).mono ?_
  rintro e w1 ⟨rfl, b1⟩
  have B1 : Hid (Below w.heap.size w w1) := B0.out.trans (b1.mono B0.out.size)
  have X1 : Hid (BoxX w1 w.heap.size z (.slice (some ⟨b, o, none⟩) n cap)) := X0.out.below b1
  clear b1 X0 B0
  by_cases hok : okTxn z ns = true
  rotate_left
  · have hok' : okTxn z ns = false := by simpa using hok
    have HT : Hid (txnB z ns = []) := by show _ = _; unfold txnB; rw [if_neg hok]
    rw [hok']
    clear hok hok'
    go_wp2
    go_ret
    exact ⟨_, rfl, (by rw [HT.out]; exact World.ownsRow_nil _ _ _ _), B1.out⟩
  obtain ⟨g1, g2, g3, g4⟩ := okTxn_all hok
  rw [HP.out] at g3 g4
  obtain ⟨Z, rfl⟩ : ∃ Z : Nat, z = (Z : Int) := ⟨z.toNat, by omega⟩
  have HT : Hid (txnB Z ns = bigR Z 4 ++ bigR n 2 ++ effsB ns) := by show _ = _; unfold txnB; rw [if_pos hok, HP.out, Int.toNat_natCast]
  have HOK : Hid (∀ k, k < n → okEf (eAt ns k) = true) := g4
  have HLN : Hid (∀ k, k ≤ n → (effsB (ns.take k)).length ≤ k * 189) := fun k hk => effsB_len (fun k hk => g4 k (by rw [← HP.out]; exact hk)) k (by rw [HP.out]; exact hk)
  rw [hok]
  clear hok g4
  obtain ⟨z1, c0, c1⟩ := X1.out
  have s1 : w.heap.size + 1 ≤ w1.heap.size := z1
  have D1 : Hid (Below (w.heap.size + 1) w1 w1) := Below.refl _ _
  have C1 : Hid (w1.cell? ⟨w.heap.size, 1, none⟩ = some (.slice (some ⟨b, o, none⟩) n cap)) := c1
  go_wp2_with fail
  refine (implNumber_any w1 (w.heap.size + 1) (.slice none 0 0) [] Z 4 (World.ownsRow_nil _ _ _ _) s1 (by simp) (by omega)).mono ?_
  rintro e w2 ⟨v2, rfl, o2, b2, -⟩
  have O2 : Hid (Own .u8 5 w2 (w.heap.size + 1) v2 (bigR Z 4)) := o2
  have D2 : Hid (Below (w.heap.size + 1) w1 w2) := b2
  clear o2 b2 c0 c1 D1
  have c1 := (D2.out.cell (p := ⟨w.heap.size, 1, none⟩) (Nat.lt_succ_self _)).trans C1.out
  have s2 : w.heap.size + 1 ≤ w2.heap.size := Nat.le_trans s1 D2.out.size
  go_wp2_with fail
  refine (implNumber_any w2 (w.heap.size + 1) v2 (bigR Z 4) n 2 O2.out s2 (by rw [bigR_len]; omega) (by omega)).mono ?_
  rintro e w3 ⟨v3, rfl, o3, b3, -⟩
  obtain ⟨H, hH⟩ : ∃ H, H = bigR Z 4 ++ bigR n 2 := ⟨_, rfl⟩
  have HH : Hid (H.length = 6) := by show _ = _; rw [hH, List.length_append, bigR_len, bigR_len]
  rw [← hH] at o3 HT
  have O3 : Hid (Own .u8 5 w3 (w.heap.size + 1) v3 (H ++ effsB (ns.take 0))) := by show Own _ _ _ _ _ _; rw [List.take_zero, show effsB [] = [] from rfl, List.append_nil]; exact o3
  have D3 : Hid (Below (w.heap.size + 1) w1 w3) := D2.out.trans b3
  clear o3 b3 hH O2 D2 c1
  have c1 := (D3.out.cell (p := ⟨w.heap.size, 1, none⟩) (Nat.lt_succ_self _)).trans C1.out
  go_wp2
  go_loopw [3, 21] (fun vi vk wr => ∃ k : Nat, k ≤ n ∧ vk = .int .i64 k ∧ Hid (Own .u8 5 wr (w.heap.size + 1) vi (H ++ effsB (ns.take k))) ∧ Hid (Below (w.heap.size + 1) w1 wr)) (fun _ i _ => n - (intOf i).toNat)
  case atStart => exact ⟨0, Nat.zero_le _, rfl, O3, D3⟩
  case round =>
    clear c1
    obtain ⟨k, hk, rfl, HW, HD⟩ := hrel
    have sD : w.heap.size + 1 ≤ wr.heap.size := Nat.le_trans s1 HD.out.size
    by_cases hlt : k < n
    · have hltI : (k : Int) < (n : Int) := by omega
      obtain ⟨c0, c1, c2, c3, c4, c5, c6, c7⟩ := ((HC.out k hlt).below B1.out hb).below HD.out (Nat.lt_succ_of_lt hb)
      go_wp2_with fail
      clear c0 c1 c2 c3 c4 c5 c6 c7
      refine (imageOf_any _ (eAt ns k)).mono ?_
      rintro e w4 ⟨rfl, b4⟩
      have D4 : Hid (Below (w.heap.size + 1) w1 w4) := (HD.out.alloc sD _).trans (b4.mono (by simp; omega))
      have O4 : Hid (Own .u8 5 w4 (w.heap.size + 1) u3 (H ++ effsB (ns.take k))) := (HW.out.below ((Below.refl _ _).alloc (Nat.le_refl _) _)).below b4
      have s4 : w.heap.size + 1 ≤ w4.heap.size := Nat.le_trans s1 D4.out.size
      clear b4 HW HD
      go_wp2_with fail
      refine (encEff_any _ (w.heap.size + 1) u3 (H ++ effsB (ns.take k)) w4.heap.size (eAt ns k) ?e1 ?e2 ?e3 ?e4 (HOK.out k hlt)).mono ?_
      case e1 => exact O4.out.below ((Below.refl _ _).alloc (Nat.le_refl _) _)
      case e2 => simp; omega
      case e3 => have := HLN.out k hk; rw [List.length_append, HH.out]; omega
      case e4 => exact BxE.new _ _
      rintro e w5 ⟨v5, rfl, o5, b5, -⟩
      have O5 : Hid (Own .u8 5 w5 (w.heap.size + 1) v5 (H ++ effsB (ns.take (k + 1)))) := by
        rw [List.append_assoc, effsB_succ ns k (by rw [HP.out]; exact hlt)] at o5; exact o5
      have D5 : Hid (Below (w.heap.size + 1) w1 w5) := (D4.out.alloc s4 _).trans b5
      clear o5 b5 O4 D4
      go_wp2
      exact ⟨⟨k + 1, by omega, by go_num, O5, D5⟩, by simp [intOf]; omega⟩
    · have hkn : k = n := by omega
      subst hkn
      go_wp2
      go_ret
      refine ⟨_, rfl, ?_, B1.out.trans (HD.out.mono (Nat.le_succ _))⟩
      rw [HT.out, ← effsB_all ns k (by rw [HP.out]; exact Nat.le_refl _)]
      exact HW.out.mono (Nat.le_succ _)

set_option maxHeartbeats 1000000 in
set_option maxRecDepth 100000 in
theorem encTxn_nil (w : World) (z : Int) (ao : Option Addr) (cap : Nat) (hc : cap ≤ maxLen) :
    Calls Tryd.prog 44 #[.agg #[.int .i64 z, .slice ao 0 cap]] w fun e w' => ∃ v', e = .returned v' ∧ Own .u8 5 w' w.heap.size v' (txnB z []) ∧ Below w.heap.size w w' := by
  have HR : Hid (RdE w (.slice ao 0 cap) []) := ⟨ao, cap, rfl, Nat.zero_le _, hc, .inl rfl⟩
  have B0 : Hid (Below w.heap.size w (w.alloc (.cells #[.int .i64 z, .slice ao 0 cap] 40))) := (Below.refl _ _).alloc (Nat.le_refl _) _
  have X0 : Hid (BoxX (w.alloc (.cells #[.int .i64 z, .slice ao 0 cap] 40)) w.heap.size z (.slice ao 0 cap)) := BoxX.new _ _ _ _
  clear hc
  go_enter Tryd.func44, Tryd.ntmps44
  go_wp2_with fail
  generalize w.alloc (.cells #[.int .i64 z, .slice ao 0 cap] 40) = w0 at *
  refine (implTxn_any _ _ _ [] (HR.out.below B0.out) (fun i => by simp [eAt, ef0, nd0])).mono ?_
  rintro e w1 ⟨rfl, b1⟩
  have B1 : Hid (Below w.heap.size w w1) := B0.out.trans (b1.mono B0.out.size)
  have X1 : Hid (BoxX w1 w.heap.size z (.slice ao 0 cap)) := X0.out.below b1
  clear b1 X0 B0
  by_cases hok : okTxn z [] = true
  rotate_left
  · have hok' : okTxn z [] = false := by simpa using hok
    have HT : Hid (txnB z [] = []) := by show _ = _; unfold txnB; rw [if_neg hok]
    rw [hok']
    clear hok hok'
    go_wp2
    go_ret
    exact ⟨_, rfl, (by rw [HT.out]; exact World.ownsRow_nil _ _ _ _), B1.out⟩
  obtain ⟨g1, g2, -, -⟩ := okTxn_all hok
  obtain ⟨Z, rfl⟩ : ∃ Z : Nat, z = (Z : Int) := ⟨z.toNat, by omega⟩
  have HT : Hid (txnB Z [] = bigR Z 4 ++ bigR 0 2) := by show _ = _; unfold txnB; rw [if_pos hok, Int.toNat_natCast]; simp [effsB]
  rw [hok]
  clear hok
  obtain ⟨z1, c0, c1⟩ := X1.out
  have s1 : w.heap.size + 1 ≤ w1.heap.size := z1
  have C1 : Hid (w1.cell? ⟨w.heap.size, 1, none⟩ = some (.slice ao 0 cap)) := c1
  go_wp2_with fail
  refine (implNumber_any w1 (w.heap.size + 1) (.slice none 0 0) [] Z 4 (World.ownsRow_nil _ _ _ _) s1 (by simp) (by omega)).mono ?_
  rintro e w2 ⟨v2, rfl, o2, b2, -⟩
  have O2 : Hid (Own .u8 5 w2 (w.heap.size + 1) v2 (bigR Z 4)) := o2
  have D2 : Hid (Below (w.heap.size + 1) w1 w2) := b2
  clear o2 b2 c0 c1
  have c1 := (D2.out.cell (p := ⟨w.heap.size, 1, none⟩) (Nat.lt_succ_self _)).trans C1.out
  have s2 : w.heap.size + 1 ≤ w2.heap.size := Nat.le_trans s1 D2.out.size
  go_wp2_with fail
  refine (implNumber_any w2 (w.heap.size + 1) v2 (bigR Z 4) 0 2 O2.out s2 (by rw [bigR_len]; omega) (by omega)).mono ?_
  rintro e w3 ⟨v3, rfl, o3, b3, -⟩
  have O3 : Hid (Own .u8 5 w3 w.heap.size v3 (txnB Z [])) := by rw [HT.out]; exact o3.mono (Nat.le_succ _)
  have D3 : Hid (Below (w.heap.size + 1) w1 w3) := D2.out.trans b3
  clear o3 b3 O2 D2 c1
  have c1 := (D3.out.cell (p := ⟨w.heap.size, 1, none⟩) (Nat.lt_succ_self _)).trans C1.out
  go_wp2
  go_rounds 1
  go_ret
  exact ⟨_, rfl, O3.out, B1.out.trans (D3.out.mono (Nat.le_succ _))⟩

theorem encTxn_any (w : World) (z : Int) (v : Value) (ns : List Ef) (h : RdE w v ns) (hsz : ∀ i, (eAt ns i).nd.path.size ≤ 1048576 ∧ (eAt ns i).nd.data.size ≤ 1048576) :
    Calls Tryd.prog 44 #[.agg #[.int .i64 z, v]] w fun e w' => ∃ v', e = .returned v' ∧ Own .u8 5 w' w.heap.size v' (txnB z ns) ∧ Below w.heap.size w w' := by
  have h0 := h
  obtain ⟨ao, cap, rfl, h1, h2, h3⟩ := h
  rcases h3 with rfl | ⟨b, o, rfl, hb, hc⟩
  · exact encTxn_nil w z ao cap h2
  · exact encTxn_row w z b o ns.length cap ns rfl hb hc h0 hsz

end Go.Proofs.YtfmjalbiimhdhaaDoor
