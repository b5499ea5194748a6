import Derived.Test.YtdiingonnddkcaaGreatDoorK05
import Derived.Test.YtdiingonnddkcaaGreatDoorK03
import Derived.Deep.RegionHeld3
namespace Go.Proofs.YtdiingonnddkcaaGreatDoor
open Go.RowKit

/-- A value that does not lie in block k. -/
def OffK (k : Nat) (v : Value) : Prop := ∀ b o n c, v = .slice (some ⟨b, o, none⟩) n c → b ≠ k
theorem RdN.tchK {w w' : World} {k : Nat} {v : Value} {ns : List Nd} (h : RdN w v ns) (ho : OffK k v) (t : Tch k w w') : RdN w' v ns := by
  obtain ⟨ao, cap, rfl, h1, h2, h3⟩ := h
  refine ⟨ao, cap, rfl, h1, h2, ?_⟩
  rcases h3 with h3 | ⟨b, off, rfl, hlt, hc⟩
  · exact .inl h3
  · refine .inr ⟨b, off, rfl, Nat.lt_of_lt_of_le hlt t.size, fun i hi => ?_⟩
    have hb := t.2 b (ho b off _ _ rfl) hlt
    have q : ∀ j, w'.cell? ⟨b, j, none⟩ = w.cell? ⟨b, j, none⟩ := fun j => World.cell?_of_block (a := ⟨b, j, none⟩) hb
    obtain ⟨c0, c1, c2, c3, c4, c5, c6⟩ := hc i hi
    exact ⟨(q _).trans c0, (q _).trans c1, (q _).trans c2, (q _).trans c3, (q _).trans c4, (q _).trans c5, (q _).trans c6⟩
theorem OwnN.offK {w : World} {lo k : Nat} {e : TypeId} {v : Value} {ns : List Nd} (h : OwnN e w lo v ns) (hk : k < lo) : OffK k v := by
  intro b o n c e
  have := (World.ownsRow.lt h b (by rw [e]; rfl)).1
  omega

/-- A path near a tree's. -/
def Sr.near (s : Sr) (ns : List Nd) : ByteArray × Sr :=
  if ns.length = 0 then (⟨s.path.1.toArray⟩, s.path.2)
  else if ((s.next ns.length).2.next 2).1 = 0 then ((nAt ns (s.next ns.length).1).path, ((s.next ns.length).2.next 2).2)
  else ((if (nAt ns (s.next ns.length).1).path.toList == [47] then ⟨#[]⟩ else (nAt ns (s.next ns.length).1).path) ++ ⟨#[47]⟩ ++ ⟨#[UInt8.ofNat (97 + (((s.next ns.length).2.next 2).2.next 4).1)]⟩, (((s.next ns.length).2.next 2).2.next 4).2)
set_option maxHeartbeats 4000000 in
set_option maxRecDepth 100000 in
theorem near_k (W : World) (k B : Nat) (s : Sr) (v : Value) (ns : List Nd) (h : SRX W k B s) (ho : RdN W v ns) (hlo : OffK k v) (hn : ns.length ≤ 1000000) (hps : ∀ i, i < ns.length → (nAt ns i).path.size ≤ 1000) :
    Calls Tryz.prog 85 #[.pointer (some ⟨k, 0, none⟩), .agg #[v]] W fun e w' => e = .returned (.string (s.near ns).1) ∧ SRX w' k B (s.near ns).2 ∧ Tch k W w' := by
  have HS : Hid (SRX W k B s) := h
  have hk1 := h.kB
  have hk2 := h.lt
  have BA : Hid (Below W.heap.size W (W.alloc (.cells #[v] 25))) := (Below.refl _ _).alloc (Nat.le_refl _) _
  have S0 : Hid (SRX (W.alloc (.cells #[v] 25)) k B s) := h.keep (BA.out.mono hk2)
  have T0 : Hid (Tch k W (W.alloc (.cells #[v] 25))) := Tch.of BA.out
  have HC0 : Hid ((W.alloc (.cells #[v] 25)).cell? ⟨W.heap.size, 0, none⟩ = some v) := by
    show _ = _
    simp
  have HO : Hid (RdN W v ns) := ho
  have hsz : (W.alloc (.cells #[v] 25)).heap.size = W.heap.size + 1 := by simp
  obtain ⟨res, hres⟩ : ∃ res, res = s.near ns := ⟨_, rfl⟩
  have HRES : Hid (s.near ns = res) := hres.symm
  rw [← hres]
  clear h hres
  by_cases hz : ns.length = 0
  · have hns : ns = [] := List.eq_nil_of_length_eq_zero hz
    subst hns
    obtain ⟨ao, ca, rfl, -⟩ := ho
    all_goals
      clear HO hlo
      have HP : Hid ((⟨s.path.1.toArray⟩, s.path.2) = res) := HRES.out
      clear HRES
      go_enter Tryz.func85, Tryz.ntmps85
      have c0 := HC0.out
      go_wp2_with fail
      generalize W.alloc _ = w0 at *
      refine (path_x w0 k B s S0.out).mono ?_
      rintro e w1 ⟨rfl, s1, t1⟩
      have F : Hid (SRX w1 k B s.path.2 ∧ Tch k W w1) := ⟨s1, T0.out.trans t1⟩
      clear s1 t1
      go_wp2
      go_ret
      rw [← HP.out]
      exact ⟨rfl, F.out.1, F.out.2⟩
  obtain ⟨g, go, ca, rfl, hgW, HCL⟩ : ∃ g go ca, v = .slice (some ⟨g, go, none⟩) ns.length ca ∧ g < W.heap.size ∧ Hid (∀ i, i < ns.length → CellsN W g (go + i * 7) (nAt ns i)) := by
    obtain ⟨ao, ca, rfl, -, -, h3⟩ := ho
    rcases h3 with h3 | ⟨b, off, rfl, hlt, hc⟩
    · rw [h3] at hz; simp at hz
    · exact ⟨b, off, ca, rfl, hlt, hc⟩
  have hgk : g ≠ k := hlo g go _ _ rfl
  have hzI : ¬ (ns.length : Int) = 0 := by omega
  have hzb : ((ns.length : Int) == 0) = false := beq_eq_false_iff_ne.2 hzI
  clear ho
  have HRS : Hid ((if ((s.next ns.length).2.next 2).1 = 0 then ((nAt ns (s.next ns.length).1).path, ((s.next ns.length).2.next 2).2)
    else ((if (nAt ns (s.next ns.length).1).path.toList == [47] then ⟨#[]⟩ else (nAt ns (s.next ns.length).1).path) ++ ⟨#[47]⟩ ++ ⟨#[UInt8.ofNat (97 + (((s.next ns.length).2.next 2).2.next 4).1)]⟩, (((s.next ns.length).2.next 2).2.next 4).2)) = res) := by
    have := HRES.out
    unfold Sr.near at this
    rw [if_neg hz] at this
    exact this
  clear HRES
  have HKEEP : Hid (∀ W', Tch k W W' → W'.heap[W.heap.size]? = (W.alloc (.cells #[.slice (some ⟨g, go, none⟩) ns.length ca] 25)).heap[W.heap.size]? → W'.cell? ⟨W.heap.size, 0, none⟩ = some (.slice (some ⟨g, go, none⟩) ns.length ca) ∧ ∀ i, i < ns.length → W'.cell? ⟨g, go + i * 7, none⟩ = some (.string (nAt ns i).path)) := by
    intro W' t hh
    refine ⟨(World.cell?_of_block (w := W.alloc _) (a := ⟨W.heap.size, 0, none⟩) hh).trans HC0.out, fun i hi => ?_⟩
    exact (World.cell?_of_block (w := W) (a := ⟨g, go + i * 7, none⟩) (t.2 g hgk hgW)).trans (HCL.out i hi).1
  have c0 := HC0.out
  go_enter Tryz.func85, Tryz.ntmps85
  go_wp2_with fail
  have hh0 : Hid ((W.alloc (.cells #[.slice (some ⟨g, go, none⟩) ns.length ca] 25)).heap[W.heap.size]? = (W.alloc (.cells #[.slice (some ⟨g, go, none⟩) ns.length ca] 25)).heap[W.heap.size]?) := rfl
  have HKP : Hid (∀ W', Tch k (W.alloc (.cells #[.slice (some ⟨g, go, none⟩) ns.length ca] 25)) W' → W'.cell? ⟨W.heap.size, 0, none⟩ = some (.slice (some ⟨g, go, none⟩) ns.length ca) ∧ ∀ i, i < ns.length → W'.cell? ⟨g, go + i * 7, none⟩ = some (.string (nAt ns i).path)) := fun W' t => HKEEP.out W' (T0.out.trans t) (t.2 _ (by omega) (by rw [hsz]; omega))
  clear HKEEP hh0 c0 HC0 HS HO BA
  generalize W.alloc (.cells #[.slice (some ⟨g, go, none⟩) ns.length ca] 25) = w0 at *
  have hS0 := HKP.out w0.drew (Tch.of (below_drewN' w0 1))
  have SP : Hid (SRX w0.drew k B s) := S0.out.keep ((below_drewN' w0 1).mono S0.out.lt)
  have TP : Hid (Tch k w0 w0.drew) := Tch.of (below_drewN' w0 1)
  refine wp_region_held_drew (S := fun w9 => w9.cell? ⟨W.heap.size, 0, none⟩ = some (.slice (some ⟨g, go, none⟩) ns.length ca) ∧ ∀ i, i < ns.length → w9.cell? ⟨g, go + i * 7, none⟩ = some (.string (nAt ns i).path)) (by kernel_rfl) (hS0) (fun hHeld => ?_)
  clear hS0
  generalize w0.drew = w0d at *
  refine wpAnyH_take (i := 0) (oi := { dst := some 12, op := _, type := _, pos := _, after := _, guard := _ }) (v := ?v1) rfl (by kernel_rfl) (by kernel_rfl) (by kernel_rfl) (fun _ _ _ h => h) (Or.inl ⟨by rfl, ?hy1⟩) (by assumption) ?rest1
  case hy1 =>
    intro w9 hS9
    obtain ⟨hq0, hq1⟩ := hS9
    go_simp
    try with_reducible rfl
  try simp only [Act.put, List.setIfInBounds_toArray, List.set_cons_zero, List.set_cons_succ]
  refine wpAnyH_take (i := 1) (oi := { dst := some 13, op := _, type := _, pos := _, after := _, guard := _ }) (v := (.slice (some ⟨g, go, none⟩) ns.length ca)) rfl (by kernel_rfl) (by kernel_rfl) (by kernel_rfl) (fun _ _ _ h => h) (Or.inl ⟨by rfl, ?hy2⟩) (by assumption) ?rest2
  case hy2 =>
    intro w9 hS9
    obtain ⟨hq0, hq1⟩ := hS9
    go_simp
    try with_reducible rfl
  try simp only [Act.put, List.setIfInBounds_toArray, List.set_cons_zero, List.set_cons_succ]
  refine wpAnyH_take (i := 2) (oi := { dst := some 14, op := _, type := _, pos := _, after := _, guard := _ }) (v := ?v3) rfl (by kernel_rfl) (by kernel_rfl) (by kernel_rfl) (fun _ _ _ h => h) (Or.inl ⟨by rfl, ?hy3⟩) (by assumption) ?rest3
  case hy3 =>
    intro w9 hS9
    obtain ⟨hq0, hq1⟩ := hS9
    go_simp
    try with_reducible rfl
  try simp only [Act.put, List.setIfInBounds_toArray, List.set_cons_zero, List.set_cons_succ]
  refine wpAnyH_take (i := 3) (oi := { dst := some 15, op := _, type := _, pos := _, after := _, guard := _ }) (v := ?v4) rfl (by kernel_rfl) (by kernel_rfl) (by kernel_rfl) (fun _ _ _ h => h) (Or.inl ⟨by rfl, ?hy4⟩) (by assumption) ?rest4
  case hy4 =>
    intro w9 hS9
    obtain ⟨hq0, hq1⟩ := hS9
    go_simp
    try with_reducible rfl
  try simp only [Act.put, List.setIfInBounds_toArray, List.set_cons_zero, List.set_cons_succ]
  refine wpAnyH_take (i := 4) (oi := { dst := some 16, op := _, type := _, pos := _, after := _, guard := _ }) (v := (.slice (some ⟨g, go, none⟩) ns.length ca)) rfl (by kernel_rfl) (by kernel_rfl) (by kernel_rfl) (fun _ _ _ h => h) (Or.inl ⟨by rfl, ?hy5⟩) (by assumption) ?rest5
  case hy5 =>
    intro w9 hS9
    obtain ⟨hq0, hq1⟩ := hS9
    go_simp
    try with_reducible rfl
  try simp only [Act.put, List.setIfInBounds_toArray, List.set_cons_zero, List.set_cons_succ]
  refine wpAnyH_take (i := 5) (oi := { dst := some 17, op := _, type := _, pos := _, after := _, guard := _ }) (v := ?v6) rfl (by kernel_rfl) (by kernel_rfl) (by kernel_rfl) (fun _ _ _ h => h) (Or.inl ⟨by rfl, ?hy6⟩) (by assumption) ?rest6
  case hy6 =>
    intro w9 hS9
    obtain ⟨hq0, hq1⟩ := hS9
    go_simp
    try with_reducible rfl
  try simp only [Act.put, List.setIfInBounds_toArray, List.set_cons_zero, List.set_cons_succ]
  refine wpAnyH_ready (rs := [6]) (by kernel_rfl) (by simp) ?_
  refine AllReadyH.cons (o := { dst := some 18, op := _, type := _, pos := _, after := _, guard := _ }) rfl (fun K hK => ?_) AllReadyH.nil
  go_simp
  refine (next_x _ k B ns.length s SP.out (by omega)).mono ?_
  rintro e w1 ⟨rfl, s1, t1⟩
  have hn1 := s.next_lt ns.length (by omega)
  have hn1I : ((s.next ns.length).1 : Int) < (ns.length : Int) := by omega
  generalize hX1 : (s.next ns.length).1 = n1 at *
  have S1 : Hid (SRX w1 k B (s.next ns.length).2) := s1
  have T1 : Hid (Tch k w0 w1) := TP.out.trans t1
  have hSn := HKP.out _ (TP.out.trans t1)
  clear s1 t1 SP TP
  refine hK.out _ _ (hSn) (fun hx9 => ?_)
  clear hK K hHeld hx9
  have hHeld := hSn
  try simp only [Act.put, List.setIfInBounds_toArray, List.set_cons_zero, List.set_cons_succ]
  refine wpAnyH_take (i := 7) (oi := { dst := some 19, op := _, type := _, pos := _, after := _, guard := _ }) (v := (.pointer (some ⟨g, go + n1 * 7, none⟩))) rfl (by kernel_rfl) (by kernel_rfl) (by kernel_rfl) (fun _ _ _ h => h) (Or.inl ⟨by rfl, ?hy7⟩) (by assumption) ?rest7
  case hy7 =>
    intro w9 hS9
    obtain ⟨hq0, hq1⟩ := hS9
    have hqa := hq1 n1 hn1
    go_simp
    try with_reducible rfl
  try simp only [Act.put, List.setIfInBounds_toArray, List.set_cons_zero, List.set_cons_succ]
  refine wpAnyH_take (i := 8) (oi := { dst := some 20, op := _, type := _, pos := _, after := _, guard := _ }) (v := (.pointer (some ⟨g, go + n1 * 7, none⟩))) rfl (by kernel_rfl) (by kernel_rfl) (by kernel_rfl) (fun _ _ _ h => h) (Or.inl ⟨by rfl, ?hy8⟩) (by assumption) ?rest8
  case hy8 =>
    intro w9 hS9
    obtain ⟨hq0, hq1⟩ := hS9
    have hqa := hq1 n1 hn1
    go_simp
    try with_reducible rfl
  try simp only [Act.put, List.setIfInBounds_toArray, List.set_cons_zero, List.set_cons_succ]
  refine wpAnyH_take (i := 9) (oi := { dst := some 21, op := _, type := _, pos := _, after := _, guard := _ }) (v := (.string (nAt ns n1).path)) rfl (by kernel_rfl) (by kernel_rfl) (by kernel_rfl) (fun _ _ _ h => h) (Or.inl ⟨by rfl, ?hy9⟩) (by assumption) ?rest9
  case hy9 =>
    intro w9 hS9
    obtain ⟨hq0, hq1⟩ := hS9
    have hqa := hq1 n1 hn1
    go_simp
    try with_reducible rfl
  try simp only [Act.put, List.setIfInBounds_toArray, List.set_cons_zero, List.set_cons_succ]
  refine wpAnyH_take (i := 10) (oi := { dst := some 5, op := _, type := _, pos := _, after := _, guard := _ }) (v := ?v10) rfl (by kernel_rfl) (by kernel_rfl) (by kernel_rfl) (fun _ _ _ h => h) (Or.inl ⟨by rfl, ?hy10⟩) (by assumption) ?rest10
  case hy10 =>
    intro w9 hS9
    obtain ⟨hq0, hq1⟩ := hS9
    go_simp
    try with_reducible rfl
  try simp only [Act.put, List.setIfInBounds_toArray, List.set_cons_zero, List.set_cons_succ]
  refine wpAnyH_done (by kernel_rfl) ?_ _
  clear hHeld hSn
  try simp only [Act.put, List.setIfInBounds_toArray, List.set_cons_zero, List.set_cons_succ]
  have HR1 : Hid ((if ((s.next ns.length).2.next 2).1 = 0 then ((nAt ns n1).path, ((s.next ns.length).2.next 2).2)
    else ((if (nAt ns n1).path.toList == [47] then ⟨#[]⟩ else (nAt ns n1).path) ++ ⟨#[47]⟩ ++ ⟨#[UInt8.ofNat (97 + (((s.next ns.length).2.next 2).2.next 4).1)]⟩, (((s.next ns.length).2.next 2).2.next 4).2)) = res) := by
    exact HRS.out
  clear HRS hX1 HKP
  generalize (s.next ns.length).2 = r1 at *
  have hp9 : (nAt ns n1).path.size ≤ 1000 := hps n1 hn1
  clear hps
  generalize (nAt ns n1).path = p at *
  go_wp2_with fail
  refine (next_x _ k B 2 r1 S1.out (by omega)).mono ?_
  rintro e w2 ⟨rfl, s2, t2⟩
  have hn2 := r1.next_lt 2 (by omega)
  generalize (r1.next 2).2 = r2 at *
  generalize (r1.next 2).1 = n2 at *
  have S2 : Hid (SRX w2 k B r2) := s2
  have T2 : Hid (Tch k w0 w2) := T1.out.trans t2
  clear s2 t2 S1 T1
  by_cases h0 : n2 = 0
  · subst h0
    rw [if_pos rfl] at HR1
    go_wp2
    go_ret
    rw [← HR1.out]
    exact ⟨rfl, S2.out, T0.out.trans T2.out⟩
  rw [if_neg h0] at HR1
  have h0b : ((n2 : Int) == 0) = false := beq_eq_false_iff_ne.2 (by omega)
  have HC : Hid (∀ (W : World) (m3 : Nat), (convert 22 9 (.slice (some ⟨W.heap.size, 0, none⟩) 1 1)).run Tryz.prog (W.alloc (.cells #[.int .u8 (97 + (m3 : Int))] 5)) = .ok (.string ⟨[UInt8.ofNat (97 + m3)].toArray⟩) (W.alloc (.cells #[.int .u8 (97 + (m3 : Int))] 5))) := by
    intro W m3
    have := conv_any (rd_one W (97 + m3))
    rw [strOf_one] at this
    rw [show (97 : Int) + (m3 : Int) = ((97 + m3 : Nat) : Int) by omega]
    exact this
  have HF : Hid (∀ (w3 : World) (m3 : Nat), Tch k w0 w3 → SRX w3 k B (r2.next 4).2 → SRX (w3.alloc (.cells #[.int .u8 (97 + (m3 : Int))] 5)) k B (r2.next 4).2 ∧ Tch k W (w3.alloc (.cells #[.int .u8 (97 + (m3 : Int))] 5))) := by
    intro w3 m3 t3 s3
    have bA : Below w3.heap.size w3 (w3.alloc (.cells #[.int .u8 (97 + (m3 : Int))] 5)) := (Below.refl _ _).alloc (Nat.le_refl _) _
    exact ⟨s3.keep (bA.mono s3.lt), (T0.out.trans t3).trans (Tch.of bA)⟩
  cases hp : (p.toList == [47]) with
  | true =>
    rw [hp, if_pos rfl] at HR1
    go_wp2_with fail
    refine (next_x _ k B 4 r2 S2.out (by omega)).mono ?_
    rintro e w3 ⟨rfl, s3, t3⟩
    have hn3 := r2.next_lt 4 (by omega)
    have F := HF.out w3 (r2.next 4).1 (T2.out.trans t3) s3
    have hcv := HC.out w3 (r2.next 4).1
    have HFF : Hid (SRX (w3.alloc (.cells #[.int .u8 (97 + ((r2.next 4).1 : Int))] 5)) k B (r2.next 4).2 ∧ Tch k W (w3.alloc (.cells #[.int .u8 (97 + ((r2.next 4).1 : Int))] 5))) := F
    clear F HF HC S2 T2 s3 t3
    generalize (r2.next 4).2 = r3 at *
    generalize (r2.next 4).1 = m3 at *
    go_wp2
    go_ret
    rw [← HR1.out]
    exact ⟨by rw [UInt8.ofNat_add]; rfl, HFF.out.1, HFF.out.2⟩
  | false =>
    rw [hp, if_neg (by simp)] at HR1
    go_wp2_with fail
    refine (next_x _ k B 4 r2 S2.out (by omega)).mono ?_
    rintro e w3 ⟨rfl, s3, t3⟩
    have hn3 := r2.next_lt 4 (by omega)
    have F := HF.out w3 (r2.next 4).1 (T2.out.trans t3) s3
    have hcv := HC.out w3 (r2.next 4).1
    have HFF : Hid (SRX (w3.alloc (.cells #[.int .u8 (97 + ((r2.next 4).1 : Int))] 5)) k B (r2.next 4).2 ∧ Tch k W (w3.alloc (.cells #[.int .u8 (97 + ((r2.next 4).1 : Int))] 5))) := F
    clear F HF HC S2 T2 s3 t3
    generalize (r2.next 4).2 = r3 at *
    generalize (r2.next 4).1 = m3 at *
    go_wp2
    go_ret
    rw [← HR1.out]
    exact ⟨by rw [UInt8.ofNat_add]; rfl, HFF.out.1, HFF.out.2⟩

theorem near_x (W : World) (k B lo : Nat) (s : Sr) (v : Value) (ns : List Nd) (h : SRX W k B s) (ho : OwnN 42 W lo v ns) (hlo : k < lo) (hn : ns.length ≤ 1000000) (hps : ∀ i, i < ns.length → (nAt ns i).path.size ≤ 1000) :
    Calls Tryz.prog 85 #[.pointer (some ⟨k, 0, none⟩), .agg #[v]] W fun e w' => e = .returned (.string (s.near ns).1) ∧ SRX w' k B (s.near ns).2 ∧ Tch k W w' := near_k W k B s v ns h ho.rd (OwnN.offK ho hlo) hn hps


/-- Drawn data. -/
def Sr.data (s : Sr) : ByteArray × Sr :=
  if (s.next 8).1 = 0 then (⟨#[]⟩, (s.next 8).2)
  else if (s.next 8).1 = 1 then (strOfNums ((s.next 8).2.bytes 64).1, ((s.next 8).2.bytes 64).2)
  else (strOfNums (((s.next 8).2.next 4).2.bytes (1 + ((s.next 8).2.next 4).1)).1, (((s.next 8).2.next 4).2.bytes (1 + ((s.next 8).2.next 4).1)).2)
theorem Sr.data_len (s : Sr) : s.data.1.size ≤ 64 := by
  unfold Sr.data
  split
  · exact Nat.zero_le _
  · split
    · rw [strOfNums_size, Sr.bytes_len]; exact Nat.le_refl _
    · rw [strOfNums_size, Sr.bytes_len]
      have := (s.next 8).2.next_lt 4 (by omega)
      omega

set_option maxHeartbeats 2000000 in
set_option maxRecDepth 100000 in
theorem data_x (W : World) (k B : Nat) (s : Sr) (h : SRX W k B s) :
    Calls Tryz.prog 86 #[.pointer (some ⟨k, 0, none⟩)] W fun e w' => e = .returned (.string s.data.1) ∧ SRX w' k B s.data.2 ∧ Tch k W w' := by
  have HS : Hid (SRX W k B s) := h
  obtain ⟨res, hres⟩ : ∃ res, res = s.data := ⟨_, rfl⟩
  have HR : Hid ((if (s.next 8).1 = 0 then (⟨#[]⟩, (s.next 8).2)
    else if (s.next 8).1 = 1 then (strOfNums ((s.next 8).2.bytes 64).1, ((s.next 8).2.bytes 64).2)
    else (strOfNums (((s.next 8).2.next 4).2.bytes (1 + ((s.next 8).2.next 4).1)).1, (((s.next 8).2.next 4).2.bytes (1 + ((s.next 8).2.next 4).1)).2)) = res) := hres.symm
  rw [← hres]
  clear h hres
  go_enter Tryz.func86, Tryz.ntmps86
  go_wp2_with fail
  refine (next_x _ k B 8 s HS.out (by omega)).mono ?_
  rintro e w1 ⟨rfl, s1, t1⟩
  have hn1 := s.next_lt 8 (by omega)
  generalize (s.next 8).2 = r1 at *
  generalize (s.next 8).1 = n1 at *
  have S1 : Hid (SRX w1 k B r1) := s1
  have T1 : Hid (Tch k W w1) := t1
  clear s1 t1 HS
  by_cases h0 : n1 = 0
  · subst h0
    rw [if_pos rfl] at HR
    go_wp2
    go_ret
    rw [← HR.out]
    exact ⟨rfl, S1.out, T1.out⟩
  rw [if_neg h0] at HR
  have h0b : ((n1 : Int) == 0) = false := beq_eq_false_iff_ne.2 (by omega)
  by_cases h1 : n1 = 1
  · subst h1
    rw [if_pos rfl] at HR
    have CB := bytes_x w1 k B 64 r1 S1.out (by omega)
    generalize r1.bytes 64 = q at *
    go_wp2_with fail
    refine CB.mono ?_
    rintro e w2 ⟨v2, rfl, o2, s2, t2⟩
    clear CB
    have hcv := conv_any o2.rd
    obtain ⟨a2, c2, rfl, -⟩ := o2.rd.len
    have F : Hid (SRX w2 k B q.2 ∧ Tch k W w2) := ⟨s2, T1.out.trans t2⟩
    clear o2 s2 t2 S1 T1
    go_wp2
    go_ret
    rw [← HR.out]
    exact ⟨rfl, F.out.1, F.out.2⟩
  rw [if_neg h1] at HR
  have h1b : ((n1 : Int) == 1) = false := beq_eq_false_iff_ne.2 (by omega)
  go_wp2_with fail
  refine (next_x _ k B 4 r1 S1.out (by omega)).mono ?_
  rintro e w2 ⟨rfl, s2, t2⟩
  have hn2 := r1.next_lt 4 (by omega)
  generalize (r1.next 4).2 = r2 at *
  generalize (r1.next 4).1 = n2 at *
  have S2 : Hid (SRX w2 k B r2) := s2
  have T2 : Hid (Tch k W w2) := T1.out.trans t2
  clear s2 t2 S1 T1
  go_wp2_with fail
  rw [show (1 : Int) + (n2 : Int) = ((1 + n2 : Nat) : Int) by omega]
  have CB := bytes_x w2 k B (1 + n2) r2 S2.out (by omega)
  generalize r2.bytes (1 + n2) = q at *
  refine CB.mono ?_
  rintro e w3 ⟨v3, rfl, o3, s3, t3⟩
  clear CB
  have hcv := conv_any o3.rd
  obtain ⟨a3, c3, rfl, -⟩ := o3.rd.len
  have F : Hid (SRX w3 k B q.2 ∧ Tch k W w3) := ⟨s3, T2.out.trans t3⟩
  clear o3 s3 t3 S2 T2
  go_wp2
  go_ret
  rw [← HR.out]
  exact ⟨rfl, F.out.1, F.out.2⟩

end Go.Proofs.YtdiingonnddkcaaGreatDoor


