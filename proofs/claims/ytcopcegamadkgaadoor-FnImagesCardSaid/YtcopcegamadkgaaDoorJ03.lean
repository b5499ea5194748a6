import Derived.Test.YtcopcegamadkgaaDoorJ02
import Derived.Test.YtcopcegamadkgaaDoorJ01
import Derived.Deep.RegionHeld3
import Derived.Lib.Bytealg
import Derived.Laws.Externs
import Derived.Defers
import Derived.Recover
namespace Go.Proofs.YtcopcegamadkgaaDoor
open Go.RowKit

/-- A value that does not lie in block k. -/
def OffK (k : Nat) (v : Value) : Prop := ∀ b o n c, v = .slice (some ⟨b, o, none⟩) n c → b ≠ k
theorem RdN.tchK {w w' : World} {k : Nat} {v : Value} {ns : List Nd} (h : RdN w v ns) (ho : OffK k v) (t : Tch k w w') : RdN w' v ns := by
  obtain ⟨ao, cap, rfl, h1, h2, h3⟩ := h
  refine ⟨ao, cap, rfl, h1, h2, ?_⟩
  rcases h3 with h3 | ⟨b, off, rfl, hlt, hc⟩
  · exact .inl h3
  · refine .inr ⟨b, off, rfl, Nat.lt_of_lt_of_le hlt t.size, fun i hi => ?_⟩
    have hb := t.2 b (ho b off _ _ rfl) hlt
    have q : ∀ j, w'.cell? ⟨b, j, none⟩ = w.cell? ⟨b, j, none⟩ := fun j => World.cell?_of_block (a := ⟨b, j, none⟩) hb
    obtain ⟨c0, c1, c2, c3, c4, c5, c6⟩ := hc i hi
    exact ⟨(q _).trans c0, (q _).trans c1, (q _).trans c2, (q _).trans c3, (q _).trans c4, (q _).trans c5, (q _).trans c6⟩
theorem OwnN.offK {w : World} {lo k : Nat} {e : TypeId} {v : Value} {ns : List Nd} (h : OwnN e w lo v ns) (hk : k < lo) : OffK k v := by
  intro b o n c e
  have := (World.ownsRow.lt h b (by rw [e]; rfl)).1
  omega

/-- A path near a tree's. -/
def Sr.near (s : Sr) (ns : List Nd) : ByteArray × Sr :=
  if ns.length = 0 then (⟨s.path.1.toArray⟩, s.path.2)
  else if ((s.next ns.length).2.next 2).1 = 0 then ((nAt ns (s.next ns.length).1).path, ((s.next ns.length).2.next 2).2)
  else ((if (nAt ns (s.next ns.length).1).path.toList == [47] then ⟨#[]⟩ else (nAt ns (s.next ns.length).1).path) ++ ⟨#[47]⟩ ++ ⟨#[UInt8.ofNat (97 + (((s.next ns.length).2.next 2).2.next 4).1)]⟩, (((s.next ns.length).2.next 2).2.next 4).2)
set_option maxHeartbeats 4000000 in
set_option maxRecDepth 100000 in
theorem near_k (W : World) (k B : Nat) (s : Sr) (v : Value) (ns : List Nd) (h : SRX W k B s) (ho : RdN W v ns) (hlo : OffK k v) (hn : ns.length ≤ 1000000) (hps : ∀ i, i < ns.length → (nAt ns i).path.size ≤ 1000) :
    Calls Tryd.prog 124 #[.pointer (some ⟨k, 0, none⟩), .agg #[v]] W fun e w' => e = .returned (.string (s.near ns).1) ∧ SRX w' k B (s.near ns).2 ∧ Tch k W w' := by
  have HS : Hid (SRX W k B s) := h
  have hk1 := h.kB
  have hk2 := h.lt
  have BA : Hid (Below W.heap.size W (W.alloc (.cells #[v] 36))) := (Below.refl _ _).alloc (Nat.le_refl _) _
  have S0 : Hid (SRX (W.alloc (.cells #[v] 36)) k B s) := h.keep (BA.out.mono hk2)
  have T0 : Hid (Tch k W (W.alloc (.cells #[v] 36))) := Tch.of BA.out
  have HC0 : Hid ((W.alloc (.cells #[v] 36)).cell? ⟨W.heap.size, 0, none⟩ = some v) := by
    show _ = _
    simp
  have HO : Hid (RdN W v ns) := ho
  have hsz : (W.alloc (.cells #[v] 36)).heap.size = W.heap.size + 1 := by simp
  obtain ⟨res, hres⟩ : ∃ res, res = s.near ns := ⟨_, rfl⟩
  have HRES : Hid (s.near ns = res) := hres.symm
  rw [← hres]
  clear h hres
  by_cases hz : ns.length = 0
  · have hns : ns = [] := List.eq_nil_of_length_eq_zero hz
    subst hns
    obtain ⟨ao, ca, rfl, -⟩ := ho
    all_goals
      clear HO hlo
      have HP : Hid ((⟨s.path.1.toArray⟩, s.path.2) = res) := HRES.out
      clear HRES
      go_enter Tryd.func124, Tryd.ntmps124
      have c0 := HC0.out
      go_wp2_with fail
      generalize W.alloc _ = w0 at *
      refine (path_x w0 k B s S0.out).mono ?_
      rintro e w1 ⟨rfl, s1, t1⟩
      have F : Hid (SRX w1 k B s.path.2 ∧ Tch k W w1) := ⟨s1, T0.out.trans t1⟩
      clear s1 t1
      go_wp2
      go_ret
      rw [← HP.out]
      exact ⟨rfl, F.out.1, F.out.2⟩
  obtain ⟨g, go, ca, rfl, hgW, HCL⟩ : ∃ g go ca, v = .slice (some ⟨g, go, none⟩) ns.length ca ∧ g < W.heap.size ∧ Hid (∀ i, i < ns.length → CellsN W g (go + i * 7) (nAt ns i)) := by
    obtain ⟨ao, ca, rfl, -, -, h3⟩ := ho
    rcases h3 with h3 | ⟨b, off, rfl, hlt, hc⟩
    · rw [h3] at hz; simp at hz
    · exact ⟨b, off, ca, rfl, hlt, hc⟩
  have hgk : g ≠ k := hlo g go _ _ rfl
  have hzI : ¬ (ns.length : Int) = 0 := by omega
  have hzb : ((ns.length : Int) == 0) = false := beq_eq_false_iff_ne.2 hzI
  clear ho
  have HRS : Hid ((if ((s.next ns.length).2.next 2).1 = 0 then ((nAt ns (s.next ns.length).1).path, ((s.next ns.length).2.next 2).2)
    else ((if (nAt ns (s.next ns.length).1).path.toList == [47] then ⟨#[]⟩ else (nAt ns (s.next ns.length).1).path) ++ ⟨#[47]⟩ ++ ⟨#[UInt8.ofNat (97 + (((s.next ns.length).2.next 2).2.next 4).1)]⟩, (((s.next ns.length).2.next 2).2.next 4).2)) = res) := by
    have := HRES.out
    unfold Sr.near at this
    rw [if_neg hz] at this
    exact this
  clear HRES
  have HKEEP : Hid (∀ W', Tch k W W' → W'.heap[W.heap.size]? = (W.alloc (.cells #[.slice (some ⟨g, go, none⟩) ns.length ca] 36)).heap[W.heap.size]? → W'.cell? ⟨W.heap.size, 0, none⟩ = some (.slice (some ⟨g, go, none⟩) ns.length ca) ∧ ∀ i, i < ns.length → W'.cell? ⟨g, go + i * 7, none⟩ = some (.string (nAt ns i).path)) := by
    intro W' t hh
    refine ⟨(World.cell?_of_block (w := W.alloc _) (a := ⟨W.heap.size, 0, none⟩) hh).trans HC0.out, fun i hi => ?_⟩
    exact (World.cell?_of_block (w := W) (a := ⟨g, go + i * 7, none⟩) (t.2 g hgk hgW)).trans (HCL.out i hi).1
  have c0 := HC0.out
  go_enter Tryd.func124, Tryd.ntmps124
  go_wp2_with fail
  have hh0 : Hid ((W.alloc (.cells #[.slice (some ⟨g, go, none⟩) ns.length ca] 36)).heap[W.heap.size]? = (W.alloc (.cells #[.slice (some ⟨g, go, none⟩) ns.length ca] 36)).heap[W.heap.size]?) := rfl
  have HKP : Hid (∀ W', Tch k (W.alloc (.cells #[.slice (some ⟨g, go, none⟩) ns.length ca] 36)) W' → W'.cell? ⟨W.heap.size, 0, none⟩ = some (.slice (some ⟨g, go, none⟩) ns.length ca) ∧ ∀ i, i < ns.length → W'.cell? ⟨g, go + i * 7, none⟩ = some (.string (nAt ns i).path)) := fun W' t => HKEEP.out W' (T0.out.trans t) (t.2 _ (by omega) (by rw [hsz]; omega))
  clear HKEEP hh0 c0 HC0 HS HO BA
  generalize W.alloc (.cells #[.slice (some ⟨g, go, none⟩) ns.length ca] 36) = w0 at *
  have hS0 := HKP.out w0.drew (Tch.of (below_drewN' w0 1))
  have SP : Hid (SRX w0.drew k B s) := S0.out.keep ((below_drewN' w0 1).mono S0.out.lt)
  have TP : Hid (Tch k w0 w0.drew) := Tch.of (below_drewN' w0 1)
  refine wp_region_held_drew (S := fun w9 => w9.cell? ⟨W.heap.size, 0, none⟩ = some (.slice (some ⟨g, go, none⟩) ns.length ca) ∧ ∀ i, i < ns.length → w9.cell? ⟨g, go + i * 7, none⟩ = some (.string (nAt ns i).path)) (by kernel_rfl) (hS0) (fun hHeld => ?_)
  clear hS0
  generalize w0.drew = w0d at *
  refine wpAnyH_take (i := 0) (oi := { dst := some 12, op := _, type := _, pos := _, after := _, guard := _ }) (v := ?v1) rfl (by kernel_rfl) (by kernel_rfl) (by kernel_rfl) (fun _ _ _ h => h) (Or.inl ⟨by rfl, ?hy1⟩) (by assumption) ?rest1
  case hy1 =>
    intro w9 hS9
    obtain ⟨hq0, hq1⟩ := hS9
    go_simp
    try with_reducible rfl
  try simp only [Act.put, List.setIfInBounds_toArray, List.set_cons_zero, List.set_cons_succ]
  refine wpAnyH_take (i := 1) (oi := { dst := some 13, op := _, type := _, pos := _, after := _, guard := _ }) (v := (.slice (some ⟨g, go, none⟩) ns.length ca)) rfl (by kernel_rfl) (by kernel_rfl) (by kernel_rfl) (fun _ _ _ h => h) (Or.inl ⟨by rfl, ?hy2⟩) (by assumption) ?rest2
  case hy2 =>
    intro w9 hS9
    obtain ⟨hq0, hq1⟩ := hS9
    go_simp
    try with_reducible rfl
  try simp only [Act.put, List.setIfInBounds_toArray, List.set_cons_zero, List.set_cons_succ]
  refine wpAnyH_take (i := 2) (oi := { dst := some 14, op := _, type := _, pos := _, after := _, guard := _ }) (v := ?v3) rfl (by kernel_rfl) (by kernel_rfl) (by kernel_rfl) (fun _ _ _ h => h) (Or.inl ⟨by rfl, ?hy3⟩) (by assumption) ?rest3
  case hy3 =>
    intro w9 hS9
    obtain ⟨hq0, hq1⟩ := hS9
    go_simp
    try with_reducible rfl
  try simp only [Act.put, List.setIfInBounds_toArray, List.set_cons_zero, List.set_cons_succ]
  refine wpAnyH_take (i := 3) (oi := { dst := some 15, op := _, type := _, pos := _, after := _, guard := _ }) (v := ?v4) rfl (by kernel_rfl) (by kernel_rfl) (by kernel_rfl) (fun _ _ _ h => h) (Or.inl ⟨by rfl, ?hy4⟩) (by assumption) ?rest4
  case hy4 =>
    intro w9 hS9
    obtain ⟨hq0, hq1⟩ := hS9
    go_simp
    try with_reducible rfl
  try simp only [Act.put, List.setIfInBounds_toArray, List.set_cons_zero, List.set_cons_succ]
  refine wpAnyH_take (i := 4) (oi := { dst := some 16, op := _, type := _, pos := _, after := _, guard := _ }) (v := (.slice (some ⟨g, go, none⟩) ns.length ca)) rfl (by kernel_rfl) (by kernel_rfl) (by kernel_rfl) (fun _ _ _ h => h) (Or.inl ⟨by rfl, ?hy5⟩) (by assumption) ?rest5
  case hy5 =>
    intro w9 hS9
    obtain ⟨hq0, hq1⟩ := hS9
    go_simp
    try with_reducible rfl
  try simp only [Act.put, List.setIfInBounds_toArray, List.set_cons_zero, List.set_cons_succ]
  refine wpAnyH_take (i := 5) (oi := { dst := some 17, op := _, type := _, pos := _, after := _, guard := _ }) (v := ?v6) rfl (by kernel_rfl) (by kernel_rfl) (by kernel_rfl) (fun _ _ _ h => h) (Or.inl ⟨by rfl, ?hy6⟩) (by assumption) ?rest6
  case hy6 =>
    intro w9 hS9
    obtain ⟨hq0, hq1⟩ := hS9
    go_simp
    try with_reducible rfl
  try simp only [Act.put, List.setIfInBounds_toArray, List.set_cons_zero, List.set_cons_succ]
  refine wpAnyH_ready (rs := [6]) (by kernel_rfl) (by simp) ?_
  refine AllReadyH.cons (o := { dst := some 18, op := _, type := _, pos := _, after := _, guard := _ }) rfl (fun K hK => ?_) AllReadyH.nil
  go_simp
  refine (next_x _ k B ns.length s SP.out (by omega)).mono ?_
  rintro e w1 ⟨rfl, s1, t1⟩
  have hn1 := s.next_lt ns.length (by omega)
  have hn1I : ((s.next ns.length).1 : Int) < (ns.length : Int) := by omega
  generalize hX1 : (s.next ns.length).1 = n1 at *
  have S1 : Hid (SRX w1 k B (s.next ns.length).2) := s1
  have T1 : Hid (Tch k w0 w1) := TP.out.trans t1
  have hSn := HKP.out _ (TP.out.trans t1)
  clear s1 t1 SP TP
  refine hK.out _ _ (hSn) (fun hx9 => ?_)
  clear hK K hHeld hx9
  have hHeld := hSn
  try simp only [Act.put, List.setIfInBounds_toArray, List.set_cons_zero, List.set_cons_succ]
  refine wpAnyH_take (i := 7) (oi := { dst := some 19, op := _, type := _, pos := _, after := _, guard := _ }) (v := (.pointer (some ⟨g, go + n1 * 7, none⟩))) rfl (by kernel_rfl) (by kernel_rfl) (by kernel_rfl) (fun _ _ _ h => h) (Or.inl ⟨by rfl, ?hy7⟩) (by assumption) ?rest7
  case hy7 =>
    intro w9 hS9
    obtain ⟨hq0, hq1⟩ := hS9
    have hqa := hq1 n1 hn1
    go_simp
    try with_reducible rfl
  try simp only [Act.put, List.setIfInBounds_toArray, List.set_cons_zero, List.set_cons_succ]
  refine wpAnyH_take (i := 8) (oi := { dst := some 20, op := _, type := _, pos := _, after := _, guard := _ }) (v := (.pointer (some ⟨g, go + n1 * 7, none⟩))) rfl (by kernel_rfl) (by kernel_rfl) (by kernel_rfl) (fun _ _ _ h => h) (Or.inl ⟨by rfl, ?hy8⟩) (by assumption) ?rest8
  case hy8 =>
    intro w9 hS9
    obtain ⟨hq0, hq1⟩ := hS9
    have hqa := hq1 n1 hn1
    go_simp
    try with_reducible rfl
  try simp only [Act.put, List.setIfInBounds_toArray, List.set_cons_zero, List.set_cons_succ]
  refine wpAnyH_take (i := 9) (oi := { dst := some 21, op := _, type := _, pos := _, after := _, guard := _ }) (v := (.string (nAt ns n1).path)) rfl (by kernel_rfl) (by kernel_rfl) (by kernel_rfl) (fun _ _ _ h => h) (Or.inl ⟨by rfl, ?hy9⟩) (by assumption) ?rest9
  case hy9 =>
    intro w9 hS9
    obtain ⟨hq0, hq1⟩ := hS9
    have hqa := hq1 n1 hn1
    go_simp
    try with_reducible rfl
  try simp only [Act.put, List.setIfInBounds_toArray, List.set_cons_zero, List.set_cons_succ]
  refine wpAnyH_take (i := 10) (oi := { dst := some 5, op := _, type := _, pos := _, after := _, guard := _ }) (v := ?v10) rfl (by kernel_rfl) (by kernel_rfl) (by kernel_rfl) (fun _ _ _ h => h) (Or.inl ⟨by rfl, ?hy10⟩) (by assumption) ?rest10
  case hy10 =>
    intro w9 hS9
    obtain ⟨hq0, hq1⟩ := hS9
    go_simp
    try with_reducible rfl
  try simp only [Act.put, List.setIfInBounds_toArray, List.set_cons_zero, List.set_cons_succ]
  refine wpAnyH_done (by kernel_rfl) ?_ _
  clear hHeld hSn
  try simp only [Act.put, List.setIfInBounds_toArray, List.set_cons_zero, List.set_cons_succ]
  have HR1 : Hid ((if ((s.next ns.length).2.next 2).1 = 0 then ((nAt ns n1).path, ((s.next ns.length).2.next 2).2)
    else ((if (nAt ns n1).path.toList == [47] then ⟨#[]⟩ else (nAt ns n1).path) ++ ⟨#[47]⟩ ++ ⟨#[UInt8.ofNat (97 + (((s.next ns.length).2.next 2).2.next 4).1)]⟩, (((s.next ns.length).2.next 2).2.next 4).2)) = res) := by
    exact HRS.out
  clear HRS hX1 HKP
  generalize (s.next ns.length).2 = r1 at *
  have hp9 : (nAt ns n1).path.size ≤ 1000 := hps n1 hn1
  clear hps
  generalize (nAt ns n1).path = p at *
  go_wp2_with fail
  refine (next_x _ k B 2 r1 S1.out (by omega)).mono ?_
  rintro e w2 ⟨rfl, s2, t2⟩
  have hn2 := r1.next_lt 2 (by omega)
  generalize (r1.next 2).2 = r2 at *
  generalize (r1.next 2).1 = n2 at *
  have S2 : Hid (SRX w2 k B r2) := s2
  have T2 : Hid (Tch k w0 w2) := T1.out.trans t2
  clear s2 t2 S1 T1
  by_cases h0 : n2 = 0
  · subst h0
    rw [if_pos rfl] at HR1
    go_wp2
    go_ret
    rw [← HR1.out]
    exact ⟨rfl, S2.out, T0.out.trans T2.out⟩
  rw [if_neg h0] at HR1
  have h0b : ((n2 : Int) == 0) = false := beq_eq_false_iff_ne.2 (by omega)
  have HC : Hid (∀ (W : World) (m3 : Nat), (convert 24 9 (.slice (some ⟨W.heap.size, 0, none⟩) 1 1)).run Tryd.prog (W.alloc (.cells #[.int .u8 (97 + (m3 : Int))] 5)) = .ok (.string ⟨[UInt8.ofNat (97 + m3)].toArray⟩) (W.alloc (.cells #[.int .u8 (97 + (m3 : Int))] 5))) := by
    intro W m3
    have := conv_any (rd_one W (97 + m3))
    rw [strOf_one] at this
    rw [show (97 : Int) + (m3 : Int) = ((97 + m3 : Nat) : Int) by omega]
    exact this
  have HF : Hid (∀ (w3 : World) (m3 : Nat), Tch k w0 w3 → SRX w3 k B (r2.next 4).2 → SRX (w3.alloc (.cells #[.int .u8 (97 + (m3 : Int))] 5)) k B (r2.next 4).2 ∧ Tch k W (w3.alloc (.cells #[.int .u8 (97 + (m3 : Int))] 5))) := by
    intro w3 m3 t3 s3
    have bA : Below w3.heap.size w3 (w3.alloc (.cells #[.int .u8 (97 + (m3 : Int))] 5)) := (Below.refl _ _).alloc (Nat.le_refl _) _
    exact ⟨s3.keep (bA.mono s3.lt), (T0.out.trans t3).trans (Tch.of bA)⟩
  cases hp : (p.toList == [47]) with
  | true =>
    rw [hp, if_pos rfl] at HR1
    go_wp2_with fail
    refine (next_x _ k B 4 r2 S2.out (by omega)).mono ?_
    rintro e w3 ⟨rfl, s3, t3⟩
    have hn3 := r2.next_lt 4 (by omega)
    have F := HF.out w3 (r2.next 4).1 (T2.out.trans t3) s3
    have hcv := HC.out w3 (r2.next 4).1
    have HFF : Hid (SRX (w3.alloc (.cells #[.int .u8 (97 + ((r2.next 4).1 : Int))] 5)) k B (r2.next 4).2 ∧ Tch k W (w3.alloc (.cells #[.int .u8 (97 + ((r2.next 4).1 : Int))] 5))) := F
    clear F HF HC S2 T2 s3 t3
    generalize (r2.next 4).2 = r3 at *
    generalize (r2.next 4).1 = m3 at *
    go_wp2
    go_ret
    rw [← HR1.out]
    exact ⟨by rw [UInt8.ofNat_add]; rfl, HFF.out.1, HFF.out.2⟩
  | false =>
    rw [hp, if_neg (by simp)] at HR1
    go_wp2_with fail
    refine (next_x _ k B 4 r2 S2.out (by omega)).mono ?_
    rintro e w3 ⟨rfl, s3, t3⟩
    have hn3 := r2.next_lt 4 (by omega)
    have F := HF.out w3 (r2.next 4).1 (T2.out.trans t3) s3
    have hcv := HC.out w3 (r2.next 4).1
    have HFF : Hid (SRX (w3.alloc (.cells #[.int .u8 (97 + ((r2.next 4).1 : Int))] 5)) k B (r2.next 4).2 ∧ Tch k W (w3.alloc (.cells #[.int .u8 (97 + ((r2.next 4).1 : Int))] 5))) := F
    clear F HF HC S2 T2 s3 t3
    generalize (r2.next 4).2 = r3 at *
    generalize (r2.next 4).1 = m3 at *
    go_wp2
    go_ret
    rw [← HR1.out]
    exact ⟨by rw [UInt8.ofNat_add]; rfl, HFF.out.1, HFF.out.2⟩

theorem near_x (W : World) (k B lo : Nat) (s : Sr) (v : Value) (ns : List Nd) (h : SRX W k B s) (ho : OwnN 84 W lo v ns) (hlo : k < lo) (hn : ns.length ≤ 1000000) (hps : ∀ i, i < ns.length → (nAt ns i).path.size ≤ 1000) :
    Calls Tryd.prog 124 #[.pointer (some ⟨k, 0, none⟩), .agg #[v]] W fun e w' => e = .returned (.string (s.near ns).1) ∧ SRX w' k B (s.near ns).2 ∧ Tch k W w' := near_k W k B s v ns h ho.rd (OwnN.offK ho hlo) hn hps

end Go.Proofs.YtcopcegamadkgaaDoor

namespace Go.Proofs.YtcopcegamadkgaaDoor
open Go.RowKit

/-- Drawn data. -/
def Sr.data (s : Sr) : ByteArray × Sr :=
  if (s.next 8).1 = 0 then (⟨#[]⟩, (s.next 8).2)
  else if (s.next 8).1 = 1 then (strOfNums ((s.next 8).2.bytes 64).1, ((s.next 8).2.bytes 64).2)
  else (strOfNums (((s.next 8).2.next 4).2.bytes (1 + ((s.next 8).2.next 4).1)).1, (((s.next 8).2.next 4).2.bytes (1 + ((s.next 8).2.next 4).1)).2)
theorem Sr.data_len (s : Sr) : s.data.1.size ≤ 64 := by
  unfold Sr.data
  split
  · exact Nat.zero_le _
  · split
    · rw [strOfNums_size, Sr.bytes_len]; exact Nat.le_refl _
    · rw [strOfNums_size, Sr.bytes_len]
      have := (s.next 8).2.next_lt 4 (by omega)
      omega

set_option maxHeartbeats 2000000 in
set_option maxRecDepth 100000 in
theorem data_x (W : World) (k B : Nat) (s : Sr) (h : SRX W k B s) :
    Calls Tryd.prog 144 #[.pointer (some ⟨k, 0, none⟩)] W fun e w' => e = .returned (.string s.data.1) ∧ SRX w' k B s.data.2 ∧ Tch k W w' := by
  have HS : Hid (SRX W k B s) := h
  obtain ⟨res, hres⟩ : ∃ res, res = s.data := ⟨_, rfl⟩
  have HR : Hid ((if (s.next 8).1 = 0 then (⟨#[]⟩, (s.next 8).2)
    else if (s.next 8).1 = 1 then (strOfNums ((s.next 8).2.bytes 64).1, ((s.next 8).2.bytes 64).2)
    else (strOfNums (((s.next 8).2.next 4).2.bytes (1 + ((s.next 8).2.next 4).1)).1, (((s.next 8).2.next 4).2.bytes (1 + ((s.next 8).2.next 4).1)).2)) = res) := hres.symm
  rw [← hres]
  clear h hres
  go_enter Tryd.func144, Tryd.ntmps144
  go_wp2_with fail
  refine (next_x _ k B 8 s HS.out (by omega)).mono ?_
  rintro e w1 ⟨rfl, s1, t1⟩
  have hn1 := s.next_lt 8 (by omega)
  generalize (s.next 8).2 = r1 at *
  generalize (s.next 8).1 = n1 at *
  have S1 : Hid (SRX w1 k B r1) := s1
  have T1 : Hid (Tch k W w1) := t1
  clear s1 t1 HS
  by_cases h0 : n1 = 0
  · subst h0
    rw [if_pos rfl] at HR
    go_wp2
    go_ret
    rw [← HR.out]
    exact ⟨rfl, S1.out, T1.out⟩
  rw [if_neg h0] at HR
  have h0b : ((n1 : Int) == 0) = false := beq_eq_false_iff_ne.2 (by omega)
  by_cases h1 : n1 = 1
  · subst h1
    rw [if_pos rfl] at HR
    have CB := bytes_x w1 k B 64 r1 S1.out (by omega)
    generalize r1.bytes 64 = q at *
    go_wp2_with fail
    refine CB.mono ?_
    rintro e w2 ⟨v2, rfl, o2, s2, t2⟩
    clear CB
    have hcv := conv_any o2.rd
    obtain ⟨a2, c2, rfl, -⟩ := o2.rd.len
    have F : Hid (SRX w2 k B q.2 ∧ Tch k W w2) := ⟨s2, T1.out.trans t2⟩
    clear o2 s2 t2 S1 T1
    go_wp2
    go_ret
    rw [← HR.out]
    exact ⟨rfl, F.out.1, F.out.2⟩
  rw [if_neg h1] at HR
  have h1b : ((n1 : Int) == 1) = false := beq_eq_false_iff_ne.2 (by omega)
  go_wp2_with fail
  refine (next_x _ k B 4 r1 S1.out (by omega)).mono ?_
  rintro e w2 ⟨rfl, s2, t2⟩
  have hn2 := r1.next_lt 4 (by omega)
  generalize (r1.next 4).2 = r2 at *
  generalize (r1.next 4).1 = n2 at *
  have S2 : Hid (SRX w2 k B r2) := s2
  have T2 : Hid (Tch k W w2) := T1.out.trans t2
  clear s2 t2 S1 T1
  go_wp2_with fail
  rw [show (1 : Int) + (n2 : Int) = ((1 + n2 : Nat) : Int) by omega]
  have CB := bytes_x w2 k B (1 + n2) r2 S2.out (by omega)
  generalize r2.bytes (1 + n2) = q at *
  refine CB.mono ?_
  rintro e w3 ⟨v3, rfl, o3, s3, t3⟩
  clear CB
  have hcv := conv_any o3.rd
  obtain ⟨a3, c3, rfl, -⟩ := o3.rd.len
  have F : Hid (SRX w3 k B q.2 ∧ Tch k W w3) := ⟨s3, T2.out.trans t3⟩
  clear o3 s3 t3 S2 T2
  go_wp2
  go_ret
  rw [← HR.out]
  exact ⟨rfl, F.out.1, F.out.2⟩

end Go.Proofs.YtcopcegamadkgaaDoor

namespace Go.Proofs.YtcopcegamadkgaaDoor
open Go.RowKit

set_option maxHeartbeats 400000 in
theorem sorted_nil (w : World) (ao : Option Addr) (cap : Nat) :
    Calls Tryd.prog 55 #[.slice ao 0 cap] w fun e w' => e = .returned (.bool true) ∧ w' = w := by
  go_enter Tryd.func55, Tryd.ntmps55
  go_wp2
  go_rounds 1
  go_ret
  exact ⟨rfl, rfl⟩

theorem sorted_any (w : World) (v : Value) (ns : List Nd) (h : RdN w v ns) (hn : ns.length ≤ 1048576) (hsz : ∀ i, (nAt ns i).path.size ≤ 1048576 ∧ (nAt ns i).data.size ≤ 1048576) :
    Calls Tryd.prog 55 #[v] w fun e w' => e = .returned (.bool (okSorted ns)) ∧ Below w.heap.size w w' := by
  obtain ⟨ao, cap, rfl, k1, k2, k3⟩ := h
  rcases k3 with rfl | ⟨b, o, rfl, hb, hc⟩
  · refine (sorted_nil w ao cap).mono ?_
    rintro e w' ⟨rfl, rfl⟩
    exact ⟨rfl, Below.refl _ _⟩
  · exact sorted_row w b o ns.length cap ns rfl hn hb hsz hc

set_option maxHeartbeats 1000000 in
set_option maxRecDepth 100000 in
theorem specTree_any (w : World) (v : Value) (ns : List Nd) (h : RdN w v ns) (hn : ns.length ≤ 1048576) (hsz : ∀ i, (nAt ns i).path.size ≤ 1048576 ∧ (nAt ns i).data.size ≤ 1048576) :
    Calls Tryd.prog 14 #[.agg #[v]] w fun e w' => e = .returned (.bool (okTree ns)) ∧ Below w.heap.size w w' := by
  obtain ⟨ao, cap, rfl, k1, k2⟩ := h.len
  have B0 : Hid (Below w.heap.size w (w.alloc (.cells #[.slice ao ns.length cap] 36))) := (Below.refl _ _).alloc (Nat.le_refl _) _
  have HR : Hid (RdN (w.alloc (.cells #[.slice ao ns.length cap] 36)) (.slice ao ns.length cap) ns) := h.below B0.out
  clear h
  by_cases h1 : ns.length ≤ 1000
  · have h1I : (ns.length : Int) ≤ 1000 := by omega
    have HE : Hid (okTree ns = okSorted ns) := by show _ = _; unfold okTree; rw [decide_eq_true h1]; rfl
    go_enter Tryd.func14, Tryd.ntmps14
    go_wp2_with fail
    refine (sorted_any _ _ ns HR.out hn hsz).mono ?_
    rintro e w1 ⟨rfl, b1⟩
    have B1 : Hid (Below w.heap.size w w1) := B0.out.trans (b1.mono (by simp))
    clear b1
    go_wp2
    go_ret
    exact ⟨ret_b HE.out.symm, B1.out⟩
  · have h1I : ¬ (ns.length : Int) ≤ 1000 := by omega
    have HE : Hid (okTree ns = false) := by show _ = _; unfold okTree; rw [decide_eq_false h1]; rfl
    go_enter Tryd.func14, Tryd.ntmps14
    go_wp2
    go_ret
    exact ⟨ret_b HE.out.symm, B0.out⟩

theorem BoxN.all {w : World} {B : Nat} {n : Nd} (h : BoxN w B n) : w.cell? ⟨B, 0, none⟩ = some (.string n.path) ∧ w.cell? ⟨B, 1, none⟩ = some (.string n.data) ∧ w.cell? ⟨B, 2, none⟩ = some (.int .i64 n.ver) ∧ w.cell? ⟨B, 3, none⟩ = some (.int .i64 n.cver) ∧ w.cell? ⟨B, 4, none⟩ = some (.int .i64 n.cz) ∧ w.cell? ⟨B, 5, none⟩ = some (.int .i64 n.mz) ∧ w.cell? ⟨B, 6, none⟩ = some (.int .i64 n.pz) := ⟨h.c0, h.c1, h.c2, h.c3, h.c4, h.c5, h.c6⟩

set_option maxHeartbeats 4000000 in
set_option maxRecDepth 100000 in
theorem implTree_row (w : World) (b o n cap : Nat) (ns : List Nd) (hp : ns.length = n) (hn : n ≤ 1000) (hb : b < w.heap.size) (hsz : ∀ i, (nAt ns i).path.size ≤ 1048576 ∧ (nAt ns i).data.size ≤ 1048576)
    (hc : ∀ i, i < n → CellsN w b (o + i * 7) (nAt ns i)) :
    Calls Tryd.prog 15 #[.agg #[.slice (some ⟨b, o, none⟩) n cap]] w fun e w' => e = .returned (.bool (okSorted ns)) ∧ Below w.heap.size w w' := by
  have HC : Hid (∀ i, i < n → CellsN w b (o + i * 7) (nAt ns i)) := hc
  have HP : Hid (ns.length = n) := hp
  have HZ : Hid (∀ i, (nAt ns i).path.size ≤ 1048576 ∧ (nAt ns i).data.size ≤ 1048576) := hsz
  have h1I : ¬ (1000 : Int) < (n : Int) := by omega
  clear hc hp hsz
  have B0 : Hid (Below w.heap.size w (w.alloc (.cells #[.slice (some ⟨b, o, none⟩) n cap] 36))) := (Below.refl _ _).alloc (Nat.le_refl _) _
  have c00 : Hid ((w.alloc (.cells #[.slice (some ⟨b, o, none⟩) n cap] 36)).cell? ⟨w.heap.size, 0, none⟩ = some (.slice (some ⟨b, o, none⟩) n cap)) := by show _ = _; simp
  have z0 : w.heap.size < (w.alloc (.cells #[.slice (some ⟨b, o, none⟩) n cap] 36)).heap.size := by simp
  go_enter Tryd.func15, Tryd.ntmps15
  go_wp2
  generalize w.alloc (.cells #[.slice (some ⟨b, o, none⟩) n cap] 36) = w0 at *
  go_loopw [12] (fun i wr => ∃ k : Nat, k ≤ n ∧ i = .int .i64 k ∧ Hid (∀ t, t < k → okAt ns t = true) ∧ Hid (Below w0.heap.size w0 wr)) (fun i _ => n - (intOf i).toNat)
  case atStart => exact ⟨0, Nat.zero_le _, rfl, (fun t ht => by omega), Below.refl _ _⟩
  case round =>
    obtain ⟨k, hk, rfl, HA, HG⟩ := hrel
    have HG0 : Hid (Below w.heap.size w wr) := B0.out.trans (HG.out.mono (by omega))
    by_cases hlt : k < n
    · have hltI : (k : Int) < (n : Int) := by omega
      have g0 : (0 : Int) ≤ (k : Int) := by omega
      have HLT : Hid (k < ns.length) := by rw [HP.out]; exact hlt
      obtain ⟨c0, c1, c2, c3, c4, c5, c6⟩ := (HC.out k hlt).below HG0.out hb
      have XN : Hid (BoxN (wr.alloc (.cells #[.string (nAt ns k).path, .string (nAt ns k).data, .int .i64 (nAt ns k).ver, .int .i64 (nAt ns k).cver, .int .i64 (nAt ns k).cz, .int .i64 (nAt ns k).mz, .int .i64 (nAt ns k).pz] 84)) wr.heap.size (nAt ns k)) := BoxN.new _ _ _
      have BN : Hid (Below wr.heap.size wr (wr.alloc (.cells #[.string (nAt ns k).path, .string (nAt ns k).data, .int .i64 (nAt ns k).ver, .int .i64 (nAt ns k).cver, .int .i64 (nAt ns k).cz, .int .i64 (nAt ns k).mz, .int .i64 (nAt ns k).pz] 84))) := (Below.refl _ _).alloc (Nat.le_refl _) _
      go_wp2
      clear c0 c1 c2 c3 c4 c5 c6
      generalize wr.alloc (.cells #[.string (nAt ns k).path, .string (nAt ns k).data, .int .i64 (nAt ns k).ver, .int .i64 (nAt ns k).cver, .int .i64 (nAt ns k).cz, .int .i64 (nAt ns k).mz, .int .i64 (nAt ns k).pz] 84) = wn at *
      have zr := HG.out.size
      obtain ⟨B, hB⟩ : ∃ B, B = wr.heap.size := ⟨_, rfl⟩
      rw [← hB] at XN
      rw [← hB]
      have HBn : Hid (∀ W, Below wn.heap.size wn W → Below w.heap.size w W) := fun W hW => (HG0.out.trans (BN.out.mono HG0.out.size)).trans (hW.mono (Nat.le_trans HG0.out.size BN.out.size))
      have HBz : Hid (∀ W, Below wn.heap.size wn W → Hid (Below w0.heap.size w0 W)) := fun W hW => (HG.out.trans (BN.out.mono HG.out.size)).trans (hW.mono (Nat.le_trans HG.out.size BN.out.size))
      have CT : Hid (∀ W, Below wn.heap.size wn W → W.cell? ⟨w.heap.size, 0, none⟩ = some (.slice (some ⟨b, o, none⟩) n cap)) := fun W hW => ((HBz.out W hW).out.cell (p := ⟨w.heap.size, 0, none⟩) z0).trans c00.out
      have HE : Hid (∀ q, Calls Tryd.prog 56 #[.agg #[.string (nAt ns k).path, .string (nAt ns k).data, .int .i64 (nAt ns k).ver, .int .i64 (nAt ns k).cver, .int .i64 (nAt ns k).cz, .int .i64 (nAt ns k).mz, .int .i64 (nAt ns k).pz]] (wn.drewN q) fun e w' => e = .returned (.bool (okNd (nAt ns k))) ∧ Hid (Below wn.heap.size wn w')) := by
        intro q
        refine (implNode_any _ (nAt ns k) (HZ.out k).2).mono ?_
        rintro e w' ⟨rfl, b'⟩
        exact ⟨rfl, (below_drewN' wn q).trans b'⟩
      have HD : Hid (Below wn.heap.size wn wn.drew) := below_drewN' wn 1
      have HHB : Hid (B = wr.heap.size) := hB
      clear hB BN
      cases hok : okNd (nAt ns k) with
      | false =>
        have HOK : Hid (okNd (nAt ns k) = false) := hok
        have HN : Hid (okSorted ns = false) := sorted_no HLT.out (by unfold okAt; rw [hok]; rfl)
        clear hok
        refine wp_region_held_drew (S := fun W => Hid (Below wn.heap.size wn W) ∧ (W.cell? ⟨B, 0, none⟩ = some (.string (nAt ns k).path) ∧ W.cell? ⟨B, 1, none⟩ = some (.string (nAt ns k).data) ∧ W.cell? ⟨B, 2, none⟩ = some (.int .i64 (nAt ns k).ver) ∧ W.cell? ⟨B, 3, none⟩ = some (.int .i64 (nAt ns k).cver) ∧ W.cell? ⟨B, 4, none⟩ = some (.int .i64 (nAt ns k).cz) ∧ W.cell? ⟨B, 5, none⟩ = some (.int .i64 (nAt ns k).mz) ∧ W.cell? ⟨B, 6, none⟩ = some (.int .i64 (nAt ns k).pz))) (by kernel_rfl) (⟨HD, (XN.out.below HD.out).all⟩) (fun hHeld => ?_)
        refine wpAnyH_take (i := 0) (oi := { dst := some 17, op := _, type := _, pos := _, after := _, guard := _ }) (v := ?v1) rfl (by kernel_rfl) (by kernel_rfl) (by kernel_rfl) (fun _ _ _ h => h) (Or.inl ⟨by rfl, ?hy1⟩) (by assumption) ?rest1
        case hy1 =>
          intro w9 hS9
          obtain ⟨-, hS9⟩ := hS9
          go_simp
          try with_reducible rfl
        try simp only [Act.put, List.setIfInBounds_toArray, List.set_cons_zero, List.set_cons_succ]
        refine wpAnyH_ready (rs := [1]) (by kernel_rfl) (by simp) ?_
        refine AllReadyH.cons (o := { dst := some 18, op := _, type := _, pos := _, after := _, guard := _ }) rfl (fun K hK => ?_) AllReadyH.nil
        go_simp
        refine (HE.out 1).mono ?_
        rintro e w' ⟨rfl, HB⟩
        rw [HOK.out]
        refine hK.out _ _ ((show (fun W => Hid (Below wn.heap.size wn W) ∧ (W.cell? ⟨B, 0, none⟩ = some (.string (nAt ns k).path) ∧ W.cell? ⟨B, 1, none⟩ = some (.string (nAt ns k).data) ∧ W.cell? ⟨B, 2, none⟩ = some (.int .i64 (nAt ns k).ver) ∧ W.cell? ⟨B, 3, none⟩ = some (.int .i64 (nAt ns k).cver) ∧ W.cell? ⟨B, 4, none⟩ = some (.int .i64 (nAt ns k).cz) ∧ W.cell? ⟨B, 5, none⟩ = some (.int .i64 (nAt ns k).mz) ∧ W.cell? ⟨B, 6, none⟩ = some (.int .i64 (nAt ns k).pz))) w' from ⟨HB, (XN.out.below HB.out).all⟩)) (fun _ => ?_)
        clear hK K hHeld
        have hHeld := (show (fun W => Hid (Below wn.heap.size wn W) ∧ (W.cell? ⟨B, 0, none⟩ = some (.string (nAt ns k).path) ∧ W.cell? ⟨B, 1, none⟩ = some (.string (nAt ns k).data) ∧ W.cell? ⟨B, 2, none⟩ = some (.int .i64 (nAt ns k).ver) ∧ W.cell? ⟨B, 3, none⟩ = some (.int .i64 (nAt ns k).cver) ∧ W.cell? ⟨B, 4, none⟩ = some (.int .i64 (nAt ns k).cz) ∧ W.cell? ⟨B, 5, none⟩ = some (.int .i64 (nAt ns k).mz) ∧ W.cell? ⟨B, 6, none⟩ = some (.int .i64 (nAt ns k).pz))) w' from ⟨HB, (XN.out.below HB.out).all⟩)
        try simp only [Act.put, List.setIfInBounds_toArray, List.set_cons_zero, List.set_cons_succ]
        refine wpAnyH_take (i := 2) (oi := { dst := some 19, op := _, type := _, pos := _, after := _, guard := _ }) (v := ?v2) rfl (by kernel_rfl) (by kernel_rfl) (by kernel_rfl) (fun _ _ _ h => h) (Or.inl ⟨by rfl, ?hy2⟩) (by assumption) ?rest2
        case hy2 =>
          intro w9 hS9
          obtain ⟨-, hS9⟩ := hS9
          go_simp
          try with_reducible rfl
        try simp only [Act.put, List.setIfInBounds_toArray, List.set_cons_zero, List.set_cons_succ]
        refine wpAnyH_take (i := 3) (oi := { dst := some 20, op := _, type := _, pos := _, after := _, guard := _ }) (v := ?v3) rfl (by kernel_rfl) (by kernel_rfl) (by kernel_rfl) (fun _ _ _ h => h) (Or.inl ⟨by rfl, ?hy3⟩) (by assumption) ?rest3
        case hy3 =>
          intro w9 hS9
          obtain ⟨-, hS9⟩ := hS9
          go_simp
          try with_reducible rfl
        try simp only [Act.put, List.setIfInBounds_toArray, List.set_cons_zero, List.set_cons_succ]
        refine wpAnyH_take (i := 4) (oi := { dst := some 21, op := _, type := _, pos := _, after := _, guard := _ }) (v := undef) rfl (by kernel_rfl) (by kernel_rfl) (by kernel_rfl) (fun _ _ _ h => h) (Or.inr ⟨by rfl, rfl⟩) (by assumption) ?_
        try simp only [Act.put, List.setIfInBounds_toArray, List.set_cons_zero, List.set_cons_succ]
        refine wpAnyH_take (i := 5) (oi := { dst := some 22, op := _, type := _, pos := _, after := _, guard := _ }) (v := undef) rfl (by kernel_rfl) (by kernel_rfl) (by kernel_rfl) (fun _ _ _ h => h) (Or.inr ⟨by rfl, rfl⟩) (by assumption) ?_
        try simp only [Act.put, List.setIfInBounds_toArray, List.set_cons_zero, List.set_cons_succ]
        refine wpAnyH_take (i := 6) (oi := { dst := some 23, op := _, type := _, pos := _, after := _, guard := _ }) (v := undef) rfl (by kernel_rfl) (by kernel_rfl) (by kernel_rfl) (fun _ _ _ h => h) (Or.inr ⟨by rfl, rfl⟩) (by assumption) ?_
        try simp only [Act.put, List.setIfInBounds_toArray, List.set_cons_zero, List.set_cons_succ]
        refine wpAnyH_take (i := 7) (oi := { dst := some 24, op := _, type := _, pos := _, after := _, guard := _ }) (v := undef) rfl (by kernel_rfl) (by kernel_rfl) (by kernel_rfl) (fun _ _ _ h => h) (Or.inr ⟨by rfl, rfl⟩) (by assumption) ?_
        try simp only [Act.put, List.setIfInBounds_toArray, List.set_cons_zero, List.set_cons_succ]
        refine wpAnyH_take (i := 8) (oi := { dst := some 25, op := _, type := _, pos := _, after := _, guard := _ }) (v := undef) rfl (by kernel_rfl) (by kernel_rfl) (by kernel_rfl) (fun _ _ _ h => h) (Or.inr ⟨by rfl, rfl⟩) (by assumption) ?_
        try simp only [Act.put, List.setIfInBounds_toArray, List.set_cons_zero, List.set_cons_succ]
        refine wpAnyH_take (i := 9) (oi := { dst := some 26, op := _, type := _, pos := _, after := _, guard := _ }) (v := undef) rfl (by kernel_rfl) (by kernel_rfl) (by kernel_rfl) (fun _ _ _ h => h) (Or.inr ⟨by rfl, rfl⟩) (by assumption) ?_
        try simp only [Act.put, List.setIfInBounds_toArray, List.set_cons_zero, List.set_cons_succ]
        refine wpAnyH_take (i := 10) (oi := { dst := some 27, op := _, type := _, pos := _, after := _, guard := _ }) (v := undef) rfl (by kernel_rfl) (by kernel_rfl) (by kernel_rfl) (fun _ _ _ h => h) (Or.inr ⟨by rfl, rfl⟩) (by assumption) ?_
        try simp only [Act.put, List.setIfInBounds_toArray, List.set_cons_zero, List.set_cons_succ]
        refine wpAnyH_take (i := 11) (oi := { dst := some 28, op := _, type := _, pos := _, after := _, guard := _ }) (v := undef) rfl (by kernel_rfl) (by kernel_rfl) (by kernel_rfl) (fun _ _ _ h => h) (Or.inr ⟨by rfl, rfl⟩) (by assumption) ?_
        try simp only [Act.put, List.setIfInBounds_toArray, List.set_cons_zero, List.set_cons_succ]
        refine wpAnyH_take (i := 12) (oi := { dst := some 29, op := _, type := _, pos := _, after := _, guard := _ }) (v := undef) rfl (by kernel_rfl) (by kernel_rfl) (by kernel_rfl) (fun _ _ _ h => h) (Or.inr ⟨by rfl, rfl⟩) (by assumption) ?_
        try simp only [Act.put, List.setIfInBounds_toArray, List.set_cons_zero, List.set_cons_succ]
        refine wpAnyH_take (i := 13) (oi := { dst := some 30, op := _, type := _, pos := _, after := _, guard := _ }) (v := undef) rfl (by kernel_rfl) (by kernel_rfl) (by kernel_rfl) (fun _ _ _ h => h) (Or.inr ⟨by rfl, rfl⟩) (by assumption) ?_
        try simp only [Act.put, List.setIfInBounds_toArray, List.set_cons_zero, List.set_cons_succ]
        refine wpAnyH_take (i := 14) (oi := { dst := some 31, op := _, type := _, pos := _, after := _, guard := _ }) (v := undef) rfl (by kernel_rfl) (by kernel_rfl) (by kernel_rfl) (fun _ _ _ h => h) (Or.inr ⟨by rfl, rfl⟩) (by assumption) ?_
        try simp only [Act.put, List.setIfInBounds_toArray, List.set_cons_zero, List.set_cons_succ]
        refine wpAnyH_take (i := 15) (oi := { dst := some 32, op := _, type := _, pos := _, after := _, guard := _ }) (v := undef) rfl (by kernel_rfl) (by kernel_rfl) (by kernel_rfl) (fun _ _ _ h => h) (Or.inr ⟨by rfl, rfl⟩) (by assumption) ?_
        try simp only [Act.put, List.setIfInBounds_toArray, List.set_cons_zero, List.set_cons_succ]
        refine wpAnyH_take (i := 16) (oi := { dst := some 33, op := _, type := _, pos := _, after := _, guard := _ }) (v := undef) rfl (by kernel_rfl) (by kernel_rfl) (by kernel_rfl) (fun _ _ _ h => h) (Or.inr ⟨by rfl, rfl⟩) (by assumption) ?_
        try simp only [Act.put, List.setIfInBounds_toArray, List.set_cons_zero, List.set_cons_succ]
        refine wpAnyH_take (i := 17) (oi := { dst := some 34, op := _, type := _, pos := _, after := _, guard := _ }) (v := undef) rfl (by kernel_rfl) (by kernel_rfl) (by kernel_rfl) (fun _ _ _ h => h) (Or.inr ⟨by rfl, rfl⟩) (by assumption) ?_
        try simp only [Act.put, List.setIfInBounds_toArray, List.set_cons_zero, List.set_cons_succ]
        refine wpAnyH_take (i := 18) (oi := { dst := some 35, op := _, type := _, pos := _, after := _, guard := _ }) (v := ?v4) rfl (by kernel_rfl) (by kernel_rfl) (by kernel_rfl) (fun _ _ _ h => h) (Or.inl ⟨by rfl, ?hy4⟩) (by assumption) ?rest4
        case hy4 =>
          intro w9 hS9
          obtain ⟨-, hS9⟩ := hS9
          go_simp
          try with_reducible rfl
        try simp only [Act.put, List.setIfInBounds_toArray, List.set_cons_zero, List.set_cons_succ]
        refine wpAnyH_done (by kernel_rfl) ?_ _
        clear hHeld
        go_wp2
        go_ret
        exact ⟨ret_b HN.out.symm, HBn.out _ HB.out⟩
      | true =>
        have HOK : Hid (okNd (nAt ns k) = true) := hok
        clear hok
        cases k with
        | zero =>
          have HT : Hid (okAt ns 0 = true) := by show _ = _; rw [okAt_zero]; exact HOK.out
          have g2 : (0 : Int) < (n : Int) := by omega
          refine wp_region_held_drew (S := fun W => Hid (Below wn.heap.size wn W) ∧ (W.cell? ⟨B, 0, none⟩ = some (.string (nAt ns 0).path) ∧ W.cell? ⟨B, 1, none⟩ = some (.string (nAt ns 0).data) ∧ W.cell? ⟨B, 2, none⟩ = some (.int .i64 (nAt ns 0).ver) ∧ W.cell? ⟨B, 3, none⟩ = some (.int .i64 (nAt ns 0).cver) ∧ W.cell? ⟨B, 4, none⟩ = some (.int .i64 (nAt ns 0).cz) ∧ W.cell? ⟨B, 5, none⟩ = some (.int .i64 (nAt ns 0).mz) ∧ W.cell? ⟨B, 6, none⟩ = some (.int .i64 (nAt ns 0).pz))) (by kernel_rfl) (⟨HD, (XN.out.below HD.out).all⟩) (fun hHeld => ?_)
          refine wpAnyH_take (i := 0) (oi := { dst := some 17, op := _, type := _, pos := _, after := _, guard := _ }) (v := ?v5) rfl (by kernel_rfl) (by kernel_rfl) (by kernel_rfl) (fun _ _ _ h => h) (Or.inl ⟨by rfl, ?hy5⟩) (by assumption) ?rest5
          case hy5 =>
            intro w9 hS9
            obtain ⟨-, hS9⟩ := hS9
            go_simp
            try with_reducible rfl
          try simp only [Act.put, List.setIfInBounds_toArray, List.set_cons_zero, List.set_cons_succ]
          refine wpAnyH_ready (rs := [1]) (by kernel_rfl) (by simp) ?_
          refine AllReadyH.cons (o := { dst := some 18, op := _, type := _, pos := _, after := _, guard := _ }) rfl (fun K hK => ?_) AllReadyH.nil
          go_simp
          refine (HE.out 1).mono ?_
          rintro e w' ⟨rfl, HB⟩
          rw [HOK.out]
          refine hK.out _ _ ((show (fun W => Hid (Below wn.heap.size wn W) ∧ (W.cell? ⟨B, 0, none⟩ = some (.string (nAt ns 0).path) ∧ W.cell? ⟨B, 1, none⟩ = some (.string (nAt ns 0).data) ∧ W.cell? ⟨B, 2, none⟩ = some (.int .i64 (nAt ns 0).ver) ∧ W.cell? ⟨B, 3, none⟩ = some (.int .i64 (nAt ns 0).cver) ∧ W.cell? ⟨B, 4, none⟩ = some (.int .i64 (nAt ns 0).cz) ∧ W.cell? ⟨B, 5, none⟩ = some (.int .i64 (nAt ns 0).mz) ∧ W.cell? ⟨B, 6, none⟩ = some (.int .i64 (nAt ns 0).pz))) w' from ⟨HB, (XN.out.below HB.out).all⟩)) (fun _ => ?_)
          clear hK K hHeld
          have hHeld := (show (fun W => Hid (Below wn.heap.size wn W) ∧ (W.cell? ⟨B, 0, none⟩ = some (.string (nAt ns 0).path) ∧ W.cell? ⟨B, 1, none⟩ = some (.string (nAt ns 0).data) ∧ W.cell? ⟨B, 2, none⟩ = some (.int .i64 (nAt ns 0).ver) ∧ W.cell? ⟨B, 3, none⟩ = some (.int .i64 (nAt ns 0).cver) ∧ W.cell? ⟨B, 4, none⟩ = some (.int .i64 (nAt ns 0).cz) ∧ W.cell? ⟨B, 5, none⟩ = some (.int .i64 (nAt ns 0).mz) ∧ W.cell? ⟨B, 6, none⟩ = some (.int .i64 (nAt ns 0).pz))) w' from ⟨HB, (XN.out.below HB.out).all⟩)
          try simp only [Act.put, List.setIfInBounds_toArray, List.set_cons_zero, List.set_cons_succ]
          refine wpAnyH_take (i := 2) (oi := { dst := some 19, op := _, type := _, pos := _, after := _, guard := _ }) (v := ?v6) rfl (by kernel_rfl) (by kernel_rfl) (by kernel_rfl) (fun _ _ _ h => h) (Or.inl ⟨by rfl, ?hy6⟩) (by assumption) ?rest6
          case hy6 =>
            intro w9 hS9
            obtain ⟨-, hS9⟩ := hS9
            go_simp
            try with_reducible rfl
          try simp only [Act.put, List.setIfInBounds_toArray, List.set_cons_zero, List.set_cons_succ]
          refine wpAnyH_take (i := 3) (oi := { dst := some 20, op := _, type := _, pos := _, after := _, guard := _ }) (v := ?v7) rfl (by kernel_rfl) (by kernel_rfl) (by kernel_rfl) (fun _ _ _ h => h) (Or.inl ⟨by rfl, ?hy7⟩) (by assumption) ?rest7
          case hy7 =>
            intro w9 hS9
            obtain ⟨-, hS9⟩ := hS9
            go_simp
            try with_reducible rfl
          try simp only [Act.put, List.setIfInBounds_toArray, List.set_cons_zero, List.set_cons_succ]
          refine wpAnyH_take (i := 4) (oi := { dst := some 21, op := _, type := _, pos := _, after := _, guard := _ }) (v := ?v8) rfl (by kernel_rfl) (by kernel_rfl) (by kernel_rfl) (fun _ _ _ h => h) (Or.inl ⟨by rfl, ?hy8⟩) (by assumption) ?rest8
          case hy8 =>
            intro w9 hS9
            obtain ⟨-, hS9⟩ := hS9
            go_simp
            try with_reducible rfl
          try simp only [Act.put, List.setIfInBounds_toArray, List.set_cons_zero, List.set_cons_succ]
          refine wpAnyH_take (i := 5) (oi := { dst := some 22, op := _, type := _, pos := _, after := _, guard := _ }) (v := ?v9) rfl (by kernel_rfl) (by kernel_rfl) (by kernel_rfl) (fun _ _ _ h => h) (Or.inl ⟨by rfl, ?hy9⟩) (by assumption) ?rest9
          case hy9 =>
            intro w9 hS9
            obtain ⟨-, hS9⟩ := hS9
            go_simp
            try with_reducible rfl
          try simp only [Act.put, List.setIfInBounds_toArray, List.set_cons_zero, List.set_cons_succ]
          refine wpAnyH_take (i := 6) (oi := { dst := some 23, op := _, type := _, pos := _, after := _, guard := _ }) (v := ?v10) rfl (by kernel_rfl) (by kernel_rfl) (by kernel_rfl) (fun _ _ _ h => h) (Or.inl ⟨by rfl, ?hy10⟩) (by assumption) ?rest10
          case hy10 =>
            intro w9 hS9
            obtain ⟨-, hS9⟩ := hS9
            go_simp
            try with_reducible rfl
          try simp only [Act.put, List.setIfInBounds_toArray, List.set_cons_zero, List.set_cons_succ]
          refine wpAnyH_take (i := 7) (oi := { dst := some 24, op := _, type := _, pos := _, after := _, guard := _ }) (v := undef) rfl (by kernel_rfl) (by kernel_rfl) (by kernel_rfl) (fun _ _ _ h => h) (Or.inr ⟨by rfl, rfl⟩) (by assumption) ?_
          try simp only [Act.put, List.setIfInBounds_toArray, List.set_cons_zero, List.set_cons_succ]
          refine wpAnyH_take (i := 8) (oi := { dst := some 25, op := _, type := _, pos := _, after := _, guard := _ }) (v := undef) rfl (by kernel_rfl) (by kernel_rfl) (by kernel_rfl) (fun _ _ _ h => h) (Or.inr ⟨by rfl, rfl⟩) (by assumption) ?_
          try simp only [Act.put, List.setIfInBounds_toArray, List.set_cons_zero, List.set_cons_succ]
          refine wpAnyH_take (i := 9) (oi := { dst := some 26, op := _, type := _, pos := _, after := _, guard := _ }) (v := undef) rfl (by kernel_rfl) (by kernel_rfl) (by kernel_rfl) (fun _ _ _ h => h) (Or.inr ⟨by rfl, rfl⟩) (by assumption) ?_
          try simp only [Act.put, List.setIfInBounds_toArray, List.set_cons_zero, List.set_cons_succ]
          refine wpAnyH_take (i := 10) (oi := { dst := some 27, op := _, type := _, pos := _, after := _, guard := _ }) (v := undef) rfl (by kernel_rfl) (by kernel_rfl) (by kernel_rfl) (fun _ _ _ h => h) (Or.inr ⟨by rfl, rfl⟩) (by assumption) ?_
          try simp only [Act.put, List.setIfInBounds_toArray, List.set_cons_zero, List.set_cons_succ]
          refine wpAnyH_take (i := 11) (oi := { dst := some 28, op := _, type := _, pos := _, after := _, guard := _ }) (v := undef) rfl (by kernel_rfl) (by kernel_rfl) (by kernel_rfl) (fun _ _ _ h => h) (Or.inr ⟨by rfl, rfl⟩) (by assumption) ?_
          try simp only [Act.put, List.setIfInBounds_toArray, List.set_cons_zero, List.set_cons_succ]
          refine wpAnyH_take (i := 12) (oi := { dst := some 29, op := _, type := _, pos := _, after := _, guard := _ }) (v := undef) rfl (by kernel_rfl) (by kernel_rfl) (by kernel_rfl) (fun _ _ _ h => h) (Or.inr ⟨by rfl, rfl⟩) (by assumption) ?_
          try simp only [Act.put, List.setIfInBounds_toArray, List.set_cons_zero, List.set_cons_succ]
          refine wpAnyH_take (i := 13) (oi := { dst := some 30, op := _, type := _, pos := _, after := _, guard := _ }) (v := undef) rfl (by kernel_rfl) (by kernel_rfl) (by kernel_rfl) (fun _ _ _ h => h) (Or.inr ⟨by rfl, rfl⟩) (by assumption) ?_
          try simp only [Act.put, List.setIfInBounds_toArray, List.set_cons_zero, List.set_cons_succ]
          refine wpAnyH_take (i := 14) (oi := { dst := some 31, op := _, type := _, pos := _, after := _, guard := _ }) (v := undef) rfl (by kernel_rfl) (by kernel_rfl) (by kernel_rfl) (fun _ _ _ h => h) (Or.inr ⟨by rfl, rfl⟩) (by assumption) ?_
          try simp only [Act.put, List.setIfInBounds_toArray, List.set_cons_zero, List.set_cons_succ]
          refine wpAnyH_take (i := 15) (oi := { dst := some 32, op := _, type := _, pos := _, after := _, guard := _ }) (v := undef) rfl (by kernel_rfl) (by kernel_rfl) (by kernel_rfl) (fun _ _ _ h => h) (Or.inr ⟨by rfl, rfl⟩) (by assumption) ?_
          try simp only [Act.put, List.setIfInBounds_toArray, List.set_cons_zero, List.set_cons_succ]
          refine wpAnyH_take (i := 16) (oi := { dst := some 33, op := _, type := _, pos := _, after := _, guard := _ }) (v := undef) rfl (by kernel_rfl) (by kernel_rfl) (by kernel_rfl) (fun _ _ _ h => h) (Or.inr ⟨by rfl, rfl⟩) (by assumption) ?_
          try simp only [Act.put, List.setIfInBounds_toArray, List.set_cons_zero, List.set_cons_succ]
          refine wpAnyH_take (i := 17) (oi := { dst := some 34, op := _, type := _, pos := _, after := _, guard := _ }) (v := ?v11) rfl (by kernel_rfl) (by kernel_rfl) (by kernel_rfl) (fun _ _ _ h => h) (Or.inl ⟨by rfl, ?hy11⟩) (by assumption) ?rest11
          case hy11 =>
            intro w9 hS9
            obtain ⟨-, hS9⟩ := hS9
            go_simp
            try with_reducible rfl
          try simp only [Act.put, List.setIfInBounds_toArray, List.set_cons_zero, List.set_cons_succ]
          refine wpAnyH_take (i := 18) (oi := { dst := some 35, op := _, type := _, pos := _, after := _, guard := _ }) (v := ?v12) rfl (by kernel_rfl) (by kernel_rfl) (by kernel_rfl) (fun _ _ _ h => h) (Or.inl ⟨by rfl, ?hy12⟩) (by assumption) ?rest12
          case hy12 =>
            intro w9 hS9
            obtain ⟨-, hS9⟩ := hS9
            go_simp
            try with_reducible rfl
          try simp only [Act.put, List.setIfInBounds_toArray, List.set_cons_zero, List.set_cons_succ]
          refine wpAnyH_done (by kernel_rfl) ?_ _
          clear hHeld
          go_wp2
          go_roundw
          case rel => exact ⟨0 + 1, by omega, by go_num, (fun t ht => by by_cases e : t = 0; (subst e; exact HT.out); exact HA.out t (by omega)), HBz.out _ HB.out⟩
          case measure => simp [intOf]; omega
        | succ j =>
          have g1 : (0 : Int) ≤ (j : Int) + 1 := by omega
          have g2 : (j : Int) + 1 < (n : Int) := by omega
          have g3 : (0 : Int) ≤ (j : Int) := by omega
          have g4 : (j : Int) < (n : Int) := by omega
          have g5 : (0 : Int) < (j : Int) + 1 := by omega
          have g6 : IntKind.i64.wrap (j : Int) = (j : Int) := by rw [IntKind.wrap_i64]; omega
          cases hcmp : ltP (nAt ns j).path (nAt ns (j + 1)).path with
          | true =>
            have HT : Hid (okAt ns (j + 1) = true) := by show _ = _; rw [okAt_succ, HOK.out, hcmp]; rfl
            have l1 : Op.bytesLess (nAt ns j).path.toList (nAt ns (j + 1)).path.toList = true := hcmp
            clear hcmp
            refine wp_region_held_drew (S := fun W => Hid (Below wn.heap.size wn W) ∧ (W.cell? ⟨B, 0, none⟩ = some (.string (nAt ns (j + 1)).path) ∧ W.cell? ⟨B, 1, none⟩ = some (.string (nAt ns (j + 1)).data) ∧ W.cell? ⟨B, 2, none⟩ = some (.int .i64 (nAt ns (j + 1)).ver) ∧ W.cell? ⟨B, 3, none⟩ = some (.int .i64 (nAt ns (j + 1)).cver) ∧ W.cell? ⟨B, 4, none⟩ = some (.int .i64 (nAt ns (j + 1)).cz) ∧ W.cell? ⟨B, 5, none⟩ = some (.int .i64 (nAt ns (j + 1)).mz) ∧ W.cell? ⟨B, 6, none⟩ = some (.int .i64 (nAt ns (j + 1)).pz)) ∧ W.cell? ⟨w.heap.size, 0, none⟩ = some (.slice (some ⟨b, o, none⟩) n cap) ∧ W.cell? ⟨b, o + j * 7, none⟩ = some (.string (nAt ns j).path)) (by kernel_rfl) (⟨HD, (XN.out.below HD.out).all, (CT.out _ HD.out), ((HC.out j (by omega)).below (HBn.out _ HD.out) hb).c0⟩) (fun hHeld => ?_)
            refine wpAnyH_take (i := 0) (oi := { dst := some 17, op := _, type := _, pos := _, after := _, guard := _ }) (v := ?v13) rfl (by kernel_rfl) (by kernel_rfl) (by kernel_rfl) (fun _ _ _ h => h) (Or.inl ⟨by rfl, ?hy13⟩) (by assumption) ?rest13
            case hy13 =>
              intro w9 hS9
              obtain ⟨-, hS9⟩ := hS9
              go_simp
              try with_reducible rfl
            try simp only [Act.put, List.setIfInBounds_toArray, List.set_cons_zero, List.set_cons_succ]
            refine wpAnyH_ready (rs := [1]) (by kernel_rfl) (by simp) ?_
            refine AllReadyH.cons (o := { dst := some 18, op := _, type := _, pos := _, after := _, guard := _ }) rfl (fun K hK => ?_) AllReadyH.nil
            go_simp
            refine (HE.out 1).mono ?_
            rintro e w' ⟨rfl, HB⟩
            rw [HOK.out]
            refine hK.out _ _ ((show (fun W => Hid (Below wn.heap.size wn W) ∧ (W.cell? ⟨B, 0, none⟩ = some (.string (nAt ns (j + 1)).path) ∧ W.cell? ⟨B, 1, none⟩ = some (.string (nAt ns (j + 1)).data) ∧ W.cell? ⟨B, 2, none⟩ = some (.int .i64 (nAt ns (j + 1)).ver) ∧ W.cell? ⟨B, 3, none⟩ = some (.int .i64 (nAt ns (j + 1)).cver) ∧ W.cell? ⟨B, 4, none⟩ = some (.int .i64 (nAt ns (j + 1)).cz) ∧ W.cell? ⟨B, 5, none⟩ = some (.int .i64 (nAt ns (j + 1)).mz) ∧ W.cell? ⟨B, 6, none⟩ = some (.int .i64 (nAt ns (j + 1)).pz)) ∧ W.cell? ⟨w.heap.size, 0, none⟩ = some (.slice (some ⟨b, o, none⟩) n cap) ∧ W.cell? ⟨b, o + j * 7, none⟩ = some (.string (nAt ns j).path)) w' from ⟨HB, (XN.out.below HB.out).all, (CT.out _ HB.out), ((HC.out j (by omega)).below (HBn.out _ HB.out) hb).c0⟩)) (fun _ => ?_)
            clear hK K hHeld
            have hHeld := (show (fun W => Hid (Below wn.heap.size wn W) ∧ (W.cell? ⟨B, 0, none⟩ = some (.string (nAt ns (j + 1)).path) ∧ W.cell? ⟨B, 1, none⟩ = some (.string (nAt ns (j + 1)).data) ∧ W.cell? ⟨B, 2, none⟩ = some (.int .i64 (nAt ns (j + 1)).ver) ∧ W.cell? ⟨B, 3, none⟩ = some (.int .i64 (nAt ns (j + 1)).cver) ∧ W.cell? ⟨B, 4, none⟩ = some (.int .i64 (nAt ns (j + 1)).cz) ∧ W.cell? ⟨B, 5, none⟩ = some (.int .i64 (nAt ns (j + 1)).mz) ∧ W.cell? ⟨B, 6, none⟩ = some (.int .i64 (nAt ns (j + 1)).pz)) ∧ W.cell? ⟨w.heap.size, 0, none⟩ = some (.slice (some ⟨b, o, none⟩) n cap) ∧ W.cell? ⟨b, o + j * 7, none⟩ = some (.string (nAt ns j).path)) w' from ⟨HB, (XN.out.below HB.out).all, (CT.out _ HB.out), ((HC.out j (by omega)).below (HBn.out _ HB.out) hb).c0⟩)
            try simp only [Act.put, List.setIfInBounds_toArray, List.set_cons_zero, List.set_cons_succ]
            refine wpAnyH_take (i := 2) (oi := { dst := some 19, op := _, type := _, pos := _, after := _, guard := _ }) (v := ?v14) rfl (by kernel_rfl) (by kernel_rfl) (by kernel_rfl) (fun _ _ _ h => h) (Or.inl ⟨by rfl, ?hy14⟩) (by assumption) ?rest14
            case hy14 =>
              intro w9 hS9
              obtain ⟨-, hS9⟩ := hS9
              go_simp
              try with_reducible rfl
            try simp only [Act.put, List.setIfInBounds_toArray, List.set_cons_zero, List.set_cons_succ]
            refine wpAnyH_take (i := 3) (oi := { dst := some 20, op := _, type := _, pos := _, after := _, guard := _ }) (v := ?v15) rfl (by kernel_rfl) (by kernel_rfl) (by kernel_rfl) (fun _ _ _ h => h) (Or.inl ⟨by rfl, ?hy15⟩) (by assumption) ?rest15
            case hy15 =>
              intro w9 hS9
              obtain ⟨-, hS9⟩ := hS9
              go_simp
              try with_reducible rfl
            try simp only [Act.put, List.setIfInBounds_toArray, List.set_cons_zero, List.set_cons_succ]
            refine wpAnyH_take (i := 4) (oi := { dst := some 21, op := _, type := _, pos := _, after := _, guard := _ }) (v := ?v16) rfl (by kernel_rfl) (by kernel_rfl) (by kernel_rfl) (fun _ _ _ h => h) (Or.inl ⟨by rfl, ?hy16⟩) (by assumption) ?rest16
            case hy16 =>
              intro w9 hS9
              obtain ⟨-, hS9⟩ := hS9
              go_simp
              try with_reducible rfl
            try simp only [Act.put, List.setIfInBounds_toArray, List.set_cons_zero, List.set_cons_succ]
            refine wpAnyH_take (i := 5) (oi := { dst := some 22, op := _, type := _, pos := _, after := _, guard := _ }) (v := ?v17) rfl (by kernel_rfl) (by kernel_rfl) (by kernel_rfl) (fun _ _ _ h => h) (Or.inl ⟨by rfl, ?hy17⟩) (by assumption) ?rest17
            case hy17 =>
              intro w9 hS9
              obtain ⟨-, hS9⟩ := hS9
              go_simp
              try with_reducible rfl
            try simp only [Act.put, List.setIfInBounds_toArray, List.set_cons_zero, List.set_cons_succ]
            refine wpAnyH_take (i := 6) (oi := { dst := some 23, op := _, type := _, pos := _, after := _, guard := _ }) (v := ?v18) rfl (by kernel_rfl) (by kernel_rfl) (by kernel_rfl) (fun _ _ _ h => h) (Or.inl ⟨by rfl, ?hy18⟩) (by assumption) ?rest18
            case hy18 =>
              intro w9 hS9
              obtain ⟨-, hS9⟩ := hS9
              go_simp
              try with_reducible rfl
            try simp only [Act.put, List.setIfInBounds_toArray, List.set_cons_zero, List.set_cons_succ]
            refine wpAnyH_take (i := 7) (oi := { dst := some 24, op := _, type := _, pos := _, after := _, guard := _ }) (v := ?v19) rfl (by kernel_rfl) (by kernel_rfl) (by kernel_rfl) (fun _ _ _ h => h) (Or.inl ⟨by rfl, ?hy19⟩) (by assumption) ?rest19
            case hy19 =>
              intro w9 hS9
              obtain ⟨-, hS9⟩ := hS9
              go_simp
              try with_reducible rfl
            try simp only [Act.put, List.setIfInBounds_toArray, List.set_cons_zero, List.set_cons_succ]
            refine wpAnyH_take (i := 8) (oi := { dst := some 25, op := _, type := _, pos := _, after := _, guard := _ }) (v := ?v20) rfl (by kernel_rfl) (by kernel_rfl) (by kernel_rfl) (fun _ _ _ h => h) (Or.inl ⟨by rfl, ?hy20⟩) (by assumption) ?rest20
            case hy20 =>
              intro w9 hS9
              obtain ⟨-, hS9⟩ := hS9
              go_simp
              try with_reducible rfl
            try simp only [Act.put, List.setIfInBounds_toArray, List.set_cons_zero, List.set_cons_succ]
            refine wpAnyH_take (i := 9) (oi := { dst := some 26, op := _, type := _, pos := _, after := _, guard := _ }) (v := ?v21) rfl (by kernel_rfl) (by kernel_rfl) (by kernel_rfl) (fun _ _ _ h => h) (Or.inl ⟨by rfl, ?hy21⟩) (by assumption) ?rest21
            case hy21 =>
              intro w9 hS9
              obtain ⟨-, hS9⟩ := hS9
              go_simp
              try with_reducible rfl
            try simp only [Act.put, List.setIfInBounds_toArray, List.set_cons_zero, List.set_cons_succ]
            refine wpAnyH_take (i := 10) (oi := { dst := some 27, op := _, type := _, pos := _, after := _, guard := _ }) (v := ?v22) rfl (by kernel_rfl) (by kernel_rfl) (by kernel_rfl) (fun _ _ _ h => h) (Or.inl ⟨by rfl, ?hy22⟩) (by assumption) ?rest22
            case hy22 =>
              intro w9 hS9
              obtain ⟨-, hS9⟩ := hS9
              go_simp
              try with_reducible rfl
            try simp only [Act.put, List.setIfInBounds_toArray, List.set_cons_zero, List.set_cons_succ]
            refine wpAnyH_take (i := 11) (oi := { dst := some 28, op := _, type := _, pos := _, after := _, guard := _ }) (v := ?v23) rfl (by kernel_rfl) (by kernel_rfl) (by kernel_rfl) (fun _ _ _ h => h) (Or.inl ⟨by rfl, ?hy23⟩) (by assumption) ?rest23
            case hy23 =>
              intro w9 hS9
              obtain ⟨-, hS9⟩ := hS9
              go_simp
              try with_reducible rfl
            try simp only [Act.put, List.setIfInBounds_toArray, List.set_cons_zero, List.set_cons_succ]
            refine wpAnyH_take (i := 12) (oi := { dst := some 29, op := _, type := _, pos := _, after := _, guard := _ }) (v := ?v24) rfl (by kernel_rfl) (by kernel_rfl) (by kernel_rfl) (fun _ _ _ h => h) (Or.inl ⟨by rfl, ?hy24⟩) (by assumption) ?rest24
            case hy24 =>
              intro w9 hS9
              obtain ⟨-, hS9⟩ := hS9
              go_simp
              try with_reducible rfl
            try simp only [Act.put, List.setIfInBounds_toArray, List.set_cons_zero, List.set_cons_succ]
            refine wpAnyH_take (i := 13) (oi := { dst := some 30, op := _, type := _, pos := _, after := _, guard := _ }) (v := ?v25) rfl (by kernel_rfl) (by kernel_rfl) (by kernel_rfl) (fun _ _ _ h => h) (Or.inl ⟨by rfl, ?hy25⟩) (by assumption) ?rest25
            case hy25 =>
              intro w9 hS9
              obtain ⟨-, hS9⟩ := hS9
              go_simp
              try with_reducible rfl
            try simp only [Act.put, List.setIfInBounds_toArray, List.set_cons_zero, List.set_cons_succ]
            refine wpAnyH_take (i := 14) (oi := { dst := some 31, op := _, type := _, pos := _, after := _, guard := _ }) (v := ?v26) rfl (by kernel_rfl) (by kernel_rfl) (by kernel_rfl) (fun _ _ _ h => h) (Or.inl ⟨by rfl, ?hy26⟩) (by assumption) ?rest26
            case hy26 =>
              intro w9 hS9
              obtain ⟨-, hS9⟩ := hS9
              go_simp
              try with_reducible rfl
            try simp only [Act.put, List.setIfInBounds_toArray, List.set_cons_zero, List.set_cons_succ]
            refine wpAnyH_take (i := 15) (oi := { dst := some 32, op := _, type := _, pos := _, after := _, guard := _ }) (v := ?v27) rfl (by kernel_rfl) (by kernel_rfl) (by kernel_rfl) (fun _ _ _ h => h) (Or.inl ⟨by rfl, ?hy27⟩) (by assumption) ?rest27
            case hy27 =>
              intro w9 hS9
              obtain ⟨-, hS9⟩ := hS9
              go_simp
              try with_reducible rfl
            try simp only [Act.put, List.setIfInBounds_toArray, List.set_cons_zero, List.set_cons_succ]
            refine wpAnyH_take (i := 16) (oi := { dst := some 33, op := _, type := _, pos := _, after := _, guard := _ }) (v := ?v28) rfl (by kernel_rfl) (by kernel_rfl) (by kernel_rfl) (fun _ _ _ h => h) (Or.inl ⟨by rfl, ?hy28⟩) (by assumption) ?rest28
            case hy28 =>
              intro w9 hS9
              obtain ⟨-, hS9⟩ := hS9
              go_simp
              try with_reducible rfl
            try simp only [Act.put, List.setIfInBounds_toArray, List.set_cons_zero, List.set_cons_succ]
            refine wpAnyH_take (i := 17) (oi := { dst := some 34, op := _, type := _, pos := _, after := _, guard := _ }) (v := ?v29) rfl (by kernel_rfl) (by kernel_rfl) (by kernel_rfl) (fun _ _ _ h => h) (Or.inl ⟨by rfl, ?hy29⟩) (by assumption) ?rest29
            case hy29 =>
              intro w9 hS9
              obtain ⟨-, hS9⟩ := hS9
              go_simp
              try with_reducible rfl
            try simp only [Act.put, List.setIfInBounds_toArray, List.set_cons_zero, List.set_cons_succ]
            refine wpAnyH_take (i := 18) (oi := { dst := some 35, op := _, type := _, pos := _, after := _, guard := _ }) (v := ?v30) rfl (by kernel_rfl) (by kernel_rfl) (by kernel_rfl) (fun _ _ _ h => h) (Or.inl ⟨by rfl, ?hy30⟩) (by assumption) ?rest30
            case hy30 =>
              intro w9 hS9
              obtain ⟨-, hS9⟩ := hS9
              go_simp
              try with_reducible rfl
            try simp only [Act.put, List.setIfInBounds_toArray, List.set_cons_zero, List.set_cons_succ]
            refine wpAnyH_done (by kernel_rfl) ?_ _
            clear hHeld
            go_wp2
            go_roundw
            case rel => exact ⟨(j + 1) + 1, by omega, by go_num, (fun t ht => by by_cases e : t = (j + 1); (subst e; exact HT.out); exact HA.out t (by omega)), HBz.out _ HB.out⟩
            case measure => simp [intOf]; omega
          | false =>
            have HN : Hid (okSorted ns = false) := sorted_no HLT.out (by rw [okAt_succ, hcmp, Bool.and_false])
            have l1 : Op.bytesLess (nAt ns j).path.toList (nAt ns (j + 1)).path.toList = false := hcmp
            clear hcmp
            refine wp_region_held_drew (S := fun W => Hid (Below wn.heap.size wn W) ∧ (W.cell? ⟨B, 0, none⟩ = some (.string (nAt ns (j + 1)).path) ∧ W.cell? ⟨B, 1, none⟩ = some (.string (nAt ns (j + 1)).data) ∧ W.cell? ⟨B, 2, none⟩ = some (.int .i64 (nAt ns (j + 1)).ver) ∧ W.cell? ⟨B, 3, none⟩ = some (.int .i64 (nAt ns (j + 1)).cver) ∧ W.cell? ⟨B, 4, none⟩ = some (.int .i64 (nAt ns (j + 1)).cz) ∧ W.cell? ⟨B, 5, none⟩ = some (.int .i64 (nAt ns (j + 1)).mz) ∧ W.cell? ⟨B, 6, none⟩ = some (.int .i64 (nAt ns (j + 1)).pz)) ∧ W.cell? ⟨w.heap.size, 0, none⟩ = some (.slice (some ⟨b, o, none⟩) n cap) ∧ W.cell? ⟨b, o + j * 7, none⟩ = some (.string (nAt ns j).path)) (by kernel_rfl) (⟨HD, (XN.out.below HD.out).all, (CT.out _ HD.out), ((HC.out j (by omega)).below (HBn.out _ HD.out) hb).c0⟩) (fun hHeld => ?_)
            refine wpAnyH_take (i := 0) (oi := { dst := some 17, op := _, type := _, pos := _, after := _, guard := _ }) (v := ?v31) rfl (by kernel_rfl) (by kernel_rfl) (by kernel_rfl) (fun _ _ _ h => h) (Or.inl ⟨by rfl, ?hy31⟩) (by assumption) ?rest31
            case hy31 =>
              intro w9 hS9
              obtain ⟨-, hS9⟩ := hS9
              go_simp
              try with_reducible rfl
            try simp only [Act.put, List.setIfInBounds_toArray, List.set_cons_zero, List.set_cons_succ]
            refine wpAnyH_ready (rs := [1]) (by kernel_rfl) (by simp) ?_
            refine AllReadyH.cons (o := { dst := some 18, op := _, type := _, pos := _, after := _, guard := _ }) rfl (fun K hK => ?_) AllReadyH.nil
            go_simp
            refine (HE.out 1).mono ?_
            rintro e w' ⟨rfl, HB⟩
            rw [HOK.out]
            refine hK.out _ _ ((show (fun W => Hid (Below wn.heap.size wn W) ∧ (W.cell? ⟨B, 0, none⟩ = some (.string (nAt ns (j + 1)).path) ∧ W.cell? ⟨B, 1, none⟩ = some (.string (nAt ns (j + 1)).data) ∧ W.cell? ⟨B, 2, none⟩ = some (.int .i64 (nAt ns (j + 1)).ver) ∧ W.cell? ⟨B, 3, none⟩ = some (.int .i64 (nAt ns (j + 1)).cver) ∧ W.cell? ⟨B, 4, none⟩ = some (.int .i64 (nAt ns (j + 1)).cz) ∧ W.cell? ⟨B, 5, none⟩ = some (.int .i64 (nAt ns (j + 1)).mz) ∧ W.cell? ⟨B, 6, none⟩ = some (.int .i64 (nAt ns (j + 1)).pz)) ∧ W.cell? ⟨w.heap.size, 0, none⟩ = some (.slice (some ⟨b, o, none⟩) n cap) ∧ W.cell? ⟨b, o + j * 7, none⟩ = some (.string (nAt ns j).path)) w' from ⟨HB, (XN.out.below HB.out).all, (CT.out _ HB.out), ((HC.out j (by omega)).below (HBn.out _ HB.out) hb).c0⟩)) (fun _ => ?_)
            clear hK K hHeld
            have hHeld := (show (fun W => Hid (Below wn.heap.size wn W) ∧ (W.cell? ⟨B, 0, none⟩ = some (.string (nAt ns (j + 1)).path) ∧ W.cell? ⟨B, 1, none⟩ = some (.string (nAt ns (j + 1)).data) ∧ W.cell? ⟨B, 2, none⟩ = some (.int .i64 (nAt ns (j + 1)).ver) ∧ W.cell? ⟨B, 3, none⟩ = some (.int .i64 (nAt ns (j + 1)).cver) ∧ W.cell? ⟨B, 4, none⟩ = some (.int .i64 (nAt ns (j + 1)).cz) ∧ W.cell? ⟨B, 5, none⟩ = some (.int .i64 (nAt ns (j + 1)).mz) ∧ W.cell? ⟨B, 6, none⟩ = some (.int .i64 (nAt ns (j + 1)).pz)) ∧ W.cell? ⟨w.heap.size, 0, none⟩ = some (.slice (some ⟨b, o, none⟩) n cap) ∧ W.cell? ⟨b, o + j * 7, none⟩ = some (.string (nAt ns j).path)) w' from ⟨HB, (XN.out.below HB.out).all, (CT.out _ HB.out), ((HC.out j (by omega)).below (HBn.out _ HB.out) hb).c0⟩)
            try simp only [Act.put, List.setIfInBounds_toArray, List.set_cons_zero, List.set_cons_succ]
            refine wpAnyH_take (i := 2) (oi := { dst := some 19, op := _, type := _, pos := _, after := _, guard := _ }) (v := ?v32) rfl (by kernel_rfl) (by kernel_rfl) (by kernel_rfl) (fun _ _ _ h => h) (Or.inl ⟨by rfl, ?hy32⟩) (by assumption) ?rest32
            case hy32 =>
              intro w9 hS9
              obtain ⟨-, hS9⟩ := hS9
              go_simp
              try with_reducible rfl
            try simp only [Act.put, List.setIfInBounds_toArray, List.set_cons_zero, List.set_cons_succ]
            refine wpAnyH_take (i := 3) (oi := { dst := some 20, op := _, type := _, pos := _, after := _, guard := _ }) (v := ?v33) rfl (by kernel_rfl) (by kernel_rfl) (by kernel_rfl) (fun _ _ _ h => h) (Or.inl ⟨by rfl, ?hy33⟩) (by assumption) ?rest33
            case hy33 =>
              intro w9 hS9
              obtain ⟨-, hS9⟩ := hS9
              go_simp
              try with_reducible rfl
            try simp only [Act.put, List.setIfInBounds_toArray, List.set_cons_zero, List.set_cons_succ]
            refine wpAnyH_take (i := 4) (oi := { dst := some 21, op := _, type := _, pos := _, after := _, guard := _ }) (v := ?v34) rfl (by kernel_rfl) (by kernel_rfl) (by kernel_rfl) (fun _ _ _ h => h) (Or.inl ⟨by rfl, ?hy34⟩) (by assumption) ?rest34
            case hy34 =>
              intro w9 hS9
              obtain ⟨-, hS9⟩ := hS9
              go_simp
              try with_reducible rfl
            try simp only [Act.put, List.setIfInBounds_toArray, List.set_cons_zero, List.set_cons_succ]
            refine wpAnyH_take (i := 5) (oi := { dst := some 22, op := _, type := _, pos := _, after := _, guard := _ }) (v := ?v35) rfl (by kernel_rfl) (by kernel_rfl) (by kernel_rfl) (fun _ _ _ h => h) (Or.inl ⟨by rfl, ?hy35⟩) (by assumption) ?rest35
            case hy35 =>
              intro w9 hS9
              obtain ⟨-, hS9⟩ := hS9
              go_simp
              try with_reducible rfl
            try simp only [Act.put, List.setIfInBounds_toArray, List.set_cons_zero, List.set_cons_succ]
            refine wpAnyH_take (i := 6) (oi := { dst := some 23, op := _, type := _, pos := _, after := _, guard := _ }) (v := ?v36) rfl (by kernel_rfl) (by kernel_rfl) (by kernel_rfl) (fun _ _ _ h => h) (Or.inl ⟨by rfl, ?hy36⟩) (by assumption) ?rest36
            case hy36 =>
              intro w9 hS9
              obtain ⟨-, hS9⟩ := hS9
              go_simp
              try with_reducible rfl
            try simp only [Act.put, List.setIfInBounds_toArray, List.set_cons_zero, List.set_cons_succ]
            refine wpAnyH_take (i := 7) (oi := { dst := some 24, op := _, type := _, pos := _, after := _, guard := _ }) (v := ?v37) rfl (by kernel_rfl) (by kernel_rfl) (by kernel_rfl) (fun _ _ _ h => h) (Or.inl ⟨by rfl, ?hy37⟩) (by assumption) ?rest37
            case hy37 =>
              intro w9 hS9
              obtain ⟨-, hS9⟩ := hS9
              go_simp
              try with_reducible rfl
            try simp only [Act.put, List.setIfInBounds_toArray, List.set_cons_zero, List.set_cons_succ]
            refine wpAnyH_take (i := 8) (oi := { dst := some 25, op := _, type := _, pos := _, after := _, guard := _ }) (v := ?v38) rfl (by kernel_rfl) (by kernel_rfl) (by kernel_rfl) (fun _ _ _ h => h) (Or.inl ⟨by rfl, ?hy38⟩) (by assumption) ?rest38
            case hy38 =>
              intro w9 hS9
              obtain ⟨-, hS9⟩ := hS9
              go_simp
              try with_reducible rfl
            try simp only [Act.put, List.setIfInBounds_toArray, List.set_cons_zero, List.set_cons_succ]
            refine wpAnyH_take (i := 9) (oi := { dst := some 26, op := _, type := _, pos := _, after := _, guard := _ }) (v := ?v39) rfl (by kernel_rfl) (by kernel_rfl) (by kernel_rfl) (fun _ _ _ h => h) (Or.inl ⟨by rfl, ?hy39⟩) (by assumption) ?rest39
            case hy39 =>
              intro w9 hS9
              obtain ⟨-, hS9⟩ := hS9
              go_simp
              try with_reducible rfl
            try simp only [Act.put, List.setIfInBounds_toArray, List.set_cons_zero, List.set_cons_succ]
            refine wpAnyH_take (i := 10) (oi := { dst := some 27, op := _, type := _, pos := _, after := _, guard := _ }) (v := ?v40) rfl (by kernel_rfl) (by kernel_rfl) (by kernel_rfl) (fun _ _ _ h => h) (Or.inl ⟨by rfl, ?hy40⟩) (by assumption) ?rest40
            case hy40 =>
              intro w9 hS9
              obtain ⟨-, hS9⟩ := hS9
              go_simp
              try with_reducible rfl
            try simp only [Act.put, List.setIfInBounds_toArray, List.set_cons_zero, List.set_cons_succ]
            refine wpAnyH_take (i := 11) (oi := { dst := some 28, op := _, type := _, pos := _, after := _, guard := _ }) (v := ?v41) rfl (by kernel_rfl) (by kernel_rfl) (by kernel_rfl) (fun _ _ _ h => h) (Or.inl ⟨by rfl, ?hy41⟩) (by assumption) ?rest41
            case hy41 =>
              intro w9 hS9
              obtain ⟨-, hS9⟩ := hS9
              go_simp
              try with_reducible rfl
            try simp only [Act.put, List.setIfInBounds_toArray, List.set_cons_zero, List.set_cons_succ]
            refine wpAnyH_take (i := 12) (oi := { dst := some 29, op := _, type := _, pos := _, after := _, guard := _ }) (v := ?v42) rfl (by kernel_rfl) (by kernel_rfl) (by kernel_rfl) (fun _ _ _ h => h) (Or.inl ⟨by rfl, ?hy42⟩) (by assumption) ?rest42
            case hy42 =>
              intro w9 hS9
              obtain ⟨-, hS9⟩ := hS9
              go_simp
              try with_reducible rfl
            try simp only [Act.put, List.setIfInBounds_toArray, List.set_cons_zero, List.set_cons_succ]
            refine wpAnyH_take (i := 13) (oi := { dst := some 30, op := _, type := _, pos := _, after := _, guard := _ }) (v := ?v43) rfl (by kernel_rfl) (by kernel_rfl) (by kernel_rfl) (fun _ _ _ h => h) (Or.inl ⟨by rfl, ?hy43⟩) (by assumption) ?rest43
            case hy43 =>
              intro w9 hS9
              obtain ⟨-, hS9⟩ := hS9
              go_simp
              try with_reducible rfl
            try simp only [Act.put, List.setIfInBounds_toArray, List.set_cons_zero, List.set_cons_succ]
            refine wpAnyH_take (i := 14) (oi := { dst := some 31, op := _, type := _, pos := _, after := _, guard := _ }) (v := ?v44) rfl (by kernel_rfl) (by kernel_rfl) (by kernel_rfl) (fun _ _ _ h => h) (Or.inl ⟨by rfl, ?hy44⟩) (by assumption) ?rest44
            case hy44 =>
              intro w9 hS9
              obtain ⟨-, hS9⟩ := hS9
              go_simp
              try with_reducible rfl
            try simp only [Act.put, List.setIfInBounds_toArray, List.set_cons_zero, List.set_cons_succ]
            refine wpAnyH_take (i := 15) (oi := { dst := some 32, op := _, type := _, pos := _, after := _, guard := _ }) (v := ?v45) rfl (by kernel_rfl) (by kernel_rfl) (by kernel_rfl) (fun _ _ _ h => h) (Or.inl ⟨by rfl, ?hy45⟩) (by assumption) ?rest45
            case hy45 =>
              intro w9 hS9
              obtain ⟨-, hS9⟩ := hS9
              go_simp
              try with_reducible rfl
            try simp only [Act.put, List.setIfInBounds_toArray, List.set_cons_zero, List.set_cons_succ]
            refine wpAnyH_take (i := 16) (oi := { dst := some 33, op := _, type := _, pos := _, after := _, guard := _ }) (v := ?v46) rfl (by kernel_rfl) (by kernel_rfl) (by kernel_rfl) (fun _ _ _ h => h) (Or.inl ⟨by rfl, ?hy46⟩) (by assumption) ?rest46
            case hy46 =>
              intro w9 hS9
              obtain ⟨-, hS9⟩ := hS9
              go_simp
              try with_reducible rfl
            try simp only [Act.put, List.setIfInBounds_toArray, List.set_cons_zero, List.set_cons_succ]
            refine wpAnyH_take (i := 17) (oi := { dst := some 34, op := _, type := _, pos := _, after := _, guard := _ }) (v := ?v47) rfl (by kernel_rfl) (by kernel_rfl) (by kernel_rfl) (fun _ _ _ h => h) (Or.inl ⟨by rfl, ?hy47⟩) (by assumption) ?rest47
            case hy47 =>
              intro w9 hS9
              obtain ⟨-, hS9⟩ := hS9
              go_simp
              try with_reducible rfl
            try simp only [Act.put, List.setIfInBounds_toArray, List.set_cons_zero, List.set_cons_succ]
            refine wpAnyH_take (i := 18) (oi := { dst := some 35, op := _, type := _, pos := _, after := _, guard := _ }) (v := ?v48) rfl (by kernel_rfl) (by kernel_rfl) (by kernel_rfl) (fun _ _ _ h => h) (Or.inl ⟨by rfl, ?hy48⟩) (by assumption) ?rest48
            case hy48 =>
              intro w9 hS9
              obtain ⟨-, hS9⟩ := hS9
              go_simp
              try with_reducible rfl
            try simp only [Act.put, List.setIfInBounds_toArray, List.set_cons_zero, List.set_cons_succ]
            refine wpAnyH_done (by kernel_rfl) ?_ _
            clear hHeld
            go_wp2
            go_ret
            exact ⟨ret_b HN.out.symm, HBn.out _ HB.out⟩
    · have HY : Hid (okSorted ns = true) := sorted_yes (fun t ht => HA.out t (by rw [HP.out] at ht; omega))
      go_wp2
      go_ret
      exact ⟨ret_b HY.out.symm, HG0.out⟩

set_option maxHeartbeats 400000 in
theorem implTree_nil (w : World) (ao : Option Addr) (cap : Nat) :
    Calls Tryd.prog 15 #[.agg #[.slice ao 0 cap]] w fun e w' => e = .returned (.bool true) ∧ Below w.heap.size w w' := by
  go_enter Tryd.func15, Tryd.ntmps15
  go_wp2
  go_rounds 1
  go_ret
  exact ⟨rfl, (Below.refl _ _).alloc (Nat.le_refl _) _⟩

set_option maxHeartbeats 400000 in
theorem implTree_long (w : World) (ao : Option Addr) (n cap : Nat) (h : 1000 < n) :
    Calls Tryd.prog 15 #[.agg #[.slice ao n cap]] w fun e w' => e = .returned (.bool false) ∧ Below w.heap.size w w' := by
  have h1I : (1000 : Int) < (n : Int) := by omega
  go_enter Tryd.func15, Tryd.ntmps15
  go_wp2
  go_ret
  exact ⟨rfl, (Below.refl _ _).alloc (Nat.le_refl _) _⟩

theorem implTree_any (w : World) (v : Value) (ns : List Nd) (h : RdN w v ns) (hsz : ∀ i, (nAt ns i).path.size ≤ 1048576 ∧ (nAt ns i).data.size ≤ 1048576) :
    Calls Tryd.prog 15 #[.agg #[v]] w fun e w' => e = .returned (.bool (okTree ns)) ∧ Below w.heap.size w w' := by
  obtain ⟨ao, cap, rfl, k1, k2, k3⟩ := h
  by_cases hl : 1000 < ns.length
  · have : okTree ns = false := by unfold okTree; rw [decide_eq_false (by omega)]; rfl
    rw [this]
    exact implTree_long w ao ns.length cap hl
  · have : okTree ns = okSorted ns := by unfold okTree; rw [decide_eq_true (by omega)]; rfl
    rw [this]
    rcases k3 with rfl | ⟨b, o, rfl, hb, hc⟩
    · exact implTree_nil w ao cap
    · exact implTree_row w b o ns.length cap ns rfl (by omega) hb hsz hc

end Go.Proofs.YtcopcegamadkgaaDoor

namespace Go.Proofs.YtcopcegamadkgaaDoor
open Go.RowKit Go.Shelf

theorem cmp_eq0 : ∀ a b : List UInt8, (Lib.compareBytes a b = 0) ↔ a = b
  | [], [] => by simp [Lib.compareBytes]
  | [], _ :: _ => by simp [Lib.compareBytes]
  | _ :: _, [] => by simp [Lib.compareBytes]
  | a :: l, b :: m => by
    unfold Lib.compareBytes
    by_cases h1 : a < b
    · have h3 : ¬ a = b := fun e => by subst e; exact absurd h1 (UInt8.lt_irrefl _)
      simp [h1, h3]
    · by_cases h2 : b < a
      · have h3 : ¬ a = b := fun e => by subst e; exact absurd h2 h1
        simp [h1, h2, h3]
      · have h3 : a = b := UInt8.le_antisymm (UInt8.not_lt.1 h2) (UInt8.not_lt.1 h1)
        subst h3
        simp [h1, cmp_eq0 l m]
/-- How two texts stand to one another. -/
def cmpP (a b : ByteArray) : Int := Lib.compareBytes a.data.toList b.data.toList

end Go.Proofs.YtcopcegamadkgaaDoor

namespace Go.Proofs.YtcopcegamadkgaaDoor
open Go.RowKit Go.Shelf

def fnd (ns : List Nd) (p : ByteArray) (L : Nat) : Bool := decide (L < ns.length) && (cmpP (nAt ns L).path p == 0)

end Go.Proofs.YtcopcegamadkgaaDoor

namespace Go.Proofs.YtcopcegamadkgaaDoor
open Go.RowKit

theorem ofInt_wrap64 (x : Nat) : (BitVec.ofInt 64 (wrap64 (x : Int))).toNat = x % 18446744073709551616 := by
  rw [BitVec.toNat_ofInt]
  unfold wrap64
  omega

theorem i64_join (x b : Nat) (hb : b < 256) : bits .or .i64 (wrap64 ((x : Int) * 256)) (b : Int) = wrap64 (((x * 256 + b : Nat) : Int)) := by
  show IntKind.i64.wrap ((BitVec.ofInt 64 (wrap64 ((x : Int) * 256)) ||| BitVec.ofInt 64 (b : Int)).toNat : Int) = _
  have e1 : (BitVec.ofInt 64 (wrap64 ((x : Int) * 256))).toNat = x * 256 % 18446744073709551616 := by
    have := ofInt_wrap64 (x * 256)
    rw [Int.natCast_mul] at this
    exact this
  have e2 : (BitVec.ofInt 64 (b : Int)).toNat = b := by
    rw [BitVec.ofInt_natCast, BitVec.toNat_ofNat]; exact Nat.mod_eq_of_lt (by omega)
  rw [BitVec.toNat_or, e1, e2, nat_join 8 (x * 256 % 18446744073709551616) b (by simp only [Nat.reducePow]; omega) (by simpa using hb), IntKind.wrap_i64]
  unfold wrap64
  omega

/-- The wrap of a number that was wrapped and moved. -/
theorem wrap64_shl (x : Nat) : wrap64 (wrap64 (x : Int) * 256) = wrap64 ((x : Int) * 256) := by unfold wrap64; omega

end Go.Proofs.YtcopcegamadkgaaDoor

namespace Go.Proofs.YtcopcegamadkgaaDoor
open Go.RowKit

def badChain : List PanicEntry := [{ v := .iface 146 (.agg #[]), recovered := false }]

set_option maxHeartbeats 400000 in
set_option maxRecDepth 100000 in
theorem take_bad (w : World) (k n c m : Nat) (ao : Option Addr) (h0 : w.cell? ⟨k, 0, none⟩ = some (.slice ao n c)) (hm : n < m) :
    Calls Tryd.prog 132 #[.pointer (some ⟨k, 0, none⟩), .int .i64 m] w fun e w' => e = .panicked badChain ∧ w' = w := by
  have hI : (n : Int) < (m : Int) := by omega
  go_enter Tryd.func132, Tryd.ntmps132
  go_wp2
  exact ⟨rfl, rfl, rfl⟩

def TakePost (w : World) (k b o n c m : Nat) (e : Ending) (w' : World) : Prop := e = .returned (.slice (some ⟨b, o, none⟩) m c) ∧ ∃ o', (o' = o + m ∨ n = m) ∧ w' = w.setCell ⟨k, 0, none⟩ (.slice (some ⟨b, o', none⟩) (n - m) (c - m))

set_option maxHeartbeats 400000 in
set_option maxRecDepth 100000 in
theorem take_ok (w : World) (k b o n c m : Nat) (h0 : w.cell? ⟨k, 0, none⟩ = some (.slice (some ⟨b, o, none⟩) n c)) (hz : w.frozen? ⟨k, 0, none⟩ = false) (hm : m ≤ n) (hm0 : 0 < m) (hc : n ≤ c) :
    Calls Tryd.prog 132 #[.pointer (some ⟨k, 0, none⟩), .int .i64 m] w fun e w' => TakePost w k b o n c m e w' := by
  have hI : ¬ (n : Int) < (m : Int) := by omega
  by_cases hcm : c = m
  · subst hcm
    go_enter Tryd.func132, Tryd.ntmps132
    go_wp2
    go_ret
    exact ⟨rfl, o, .inr (by omega), by rw [Nat.sub_self, show n - c = 0 by omega]⟩
  · have hcm' : m < c := by omega
    go_enter Tryd.func132, Tryd.ntmps132
    go_wp2
    go_ret
    exact ⟨rfl, o + m, .inl rfl, rfl⟩

/-- A reader: what is left of the bytes, in the world from before. -/
def RS (w0 w : World) (k : Nat) (ys : List Int) : Prop :=
  w0.heap.size ≤ k ∧ k < w.heap.size ∧ w.frozen? ⟨k, 0, none⟩ = false ∧ Below w0.heap.size w0 w ∧ ∃ v, w.cell? ⟨k, 0, none⟩ = some v ∧ Rd .u8 w0 v ys

theorem RS.drewN {w0 w : World} {k : Nat} {ys : List Int} (h : RS w0 w k ys) (q : Nat) : RS w0 (w.drewN q) k ys :=
  ⟨h.1, h.2.1, h.2.2.1, h.2.2.2.1.trans ((below_drewN' w q).mono h.2.2.2.1.size), h.2.2.2.2⟩

theorem RS.keep {w0 w w' : World} {k B : Nat} {ys : List Int} (h : RS w0 w k ys) (hb : Below B w w') (hk : k < B) : RS w0 w' k ys := by
  obtain ⟨h1, h2, h3, h4, v, h5, h6⟩ := h
  exact ⟨h1, Nat.lt_of_lt_of_le h2 hb.size, (hb.frozen (p := ⟨k, 0, none⟩) hk).trans h3, h4.trans (hb.mono (by omega)), v, (hb.cell (p := ⟨k, 0, none⟩) hk).trans h5, h6⟩

theorem RS.set {w0 w : World} {k : Nat} {ys zs : List Int} {v : Value} (h : RS w0 w k ys) (hv : Rd .u8 w0 v zs) : RS w0 (w.setCell ⟨k, 0, none⟩ v) k zs := by
  obtain ⟨h1, h2, h3, h4, u, h5, h6⟩ := h
  refine ⟨h1, by simpa using h2, ?_, h4.setCell h1 _, v, World.cell?_setCell_same _ _ _ h5, hv⟩
  rw [World.frozen?_setCell]; exact h3

theorem Rd.split {k : IntKind} {w : World} {b o n c : Nat} {ys : List Int} (h : Rd k w (.slice (some ⟨b, o, none⟩) n c) ys) (m : Nat) (hm : m ≤ n) (hm0 : 0 < m) :
    Rd k w (.slice (some ⟨b, o, none⟩) m c) (ys.take m) ∧ ∀ o', (o' = o + m ∨ n = m) → Rd k w (.slice (some ⟨b, o', none⟩) (n - m) (c - m)) (ys.drop m) := by
  obtain ⟨ao, cap, e, h1, h2, h3⟩ := h
  simp only [Value.slice.injEq] at e
  obtain ⟨rfl, rfl, rfl⟩ := e
  rcases h3 with rfl | ⟨b', o', e', hb, hc⟩
  · simp at hm; omega
  · simp only [Option.some.injEq, Addr.mk.injEq, and_true] at e'
    obtain ⟨rfl, rfl⟩ := e'
    refine ⟨⟨some ⟨b, o, none⟩, c, by rw [List.length_take, Nat.min_eq_left hm], by rw [List.length_take]; omega, h2, .inr ⟨b, o, rfl, hb, fun i hi => ?_⟩⟩, fun o' ho' => ⟨some ⟨b, o', none⟩, c - m, by rw [List.length_drop], by rw [List.length_drop]; omega, by omega, ?_⟩⟩
    · rw [List.length_take] at hi
      rw [hc i (by omega)]
      simp [List.getD, List.getElem?_take_of_lt (show i < m by omega)]
    · rcases ho' with rfl | hnm
      · refine .inr ⟨b, o + m, rfl, hb, fun i hi => ?_⟩
        rw [List.length_drop] at hi
        rw [Nat.add_assoc, hc (m + i) (by omega)]
        simp [List.getD]
      · exact .inl (List.drop_eq_nil_of_le (by omega))

theorem take_any (w0 w : World) (k m : Nat) (ys : List Int) (h : RS w0 w k ys) (hm : m ≤ ys.length) (hm0 : 0 < m) :
    Calls Tryd.prog 132 #[.pointer (some ⟨k, 0, none⟩), .int .i64 m] w fun e w' => ∃ b o c v', e = .returned (.slice (some ⟨b, o, none⟩) m c) ∧ b < w0.heap.size ∧ (∀ i, i < m → w0.cell? ⟨b, o + i, none⟩ = some (.int .u8 (ys.getD i 0))) ∧ RS w0 w' k (ys.drop m) ∧ w' = w.setCell ⟨k, 0, none⟩ v' := by
  obtain ⟨h1, h2, h3, h4, v, h5, h6⟩ := h
  have h6' := h6
  obtain ⟨ao, c, rfl, g1, g2, g3⟩ := h6
  rcases g3 with rfl | ⟨b, o, rfl, hb, hc⟩
  · simp at hm; omega
  · refine (take_ok w k b o ys.length c m h5 h3 hm hm0 g1).mono ?_
    rintro e w' ⟨rfl, o', ho', rfl⟩
    exact ⟨b, o, c, _, rfl, hb, fun i hi => hc i (by omega), RS.set ⟨h1, h2, h3, h4, _, h5, h6'⟩ ((Rd.split h6' m hm hm0).2 o' ho'), rfl⟩

theorem take_none (w0 w : World) (k m : Nat) (ys : List Int) (h : RS w0 w k ys) (hm : ys.length < m) :
    Calls Tryd.prog 132 #[.pointer (some ⟨k, 0, none⟩), .int .i64 m] w fun e w' => e = .panicked badChain ∧ w' = w := by
  obtain ⟨-, -, -, -, v, h5, h6⟩ := h
  obtain ⟨ao, c, rfl, -, -, -⟩ := h6
  exact take_bad w k _ c m ao h5 hm

set_option maxHeartbeats 400000 in
set_option maxRecDepth 100000 in
theorem number_none (w0 w : World) (k m : Nat) (ys : List Int) (h : RS w0 w k ys) (hm : ys.length < m) :
    Calls Tryd.prog 99 #[.pointer (some ⟨k, 0, none⟩), .int .i64 m] w fun e w' => e = .panicked badChain ∧ w' = w := by
  have H : Hid (Calls Tryd.prog 132 #[.pointer (some ⟨k, 0, none⟩), .int .i64 m] w fun e w' => e = .panicked badChain ∧ w' = w) := take_none w0 w k m ys h hm
  clear h hm
  go_enter Tryd.func99, Tryd.ntmps99
  go_wp2_with fail
  refine H.out.mono ?_
  rintro e w1 ⟨rfl, rfl⟩
  exact ⟨rfl, rfl, rfl⟩

set_option maxHeartbeats 400000 in
set_option maxRecDepth 100000 in
theorem number_any (w0 w : World) (k m : Nat) (ys : List Int) (h : RS w0 w k ys) (hm : m ≤ ys.length) (hm0 : 0 < m) (hm8 : m ≤ 8) (hby : Byt ys) :
    Calls Tryd.prog 99 #[.pointer (some ⟨k, 0, none⟩), .int .i64 m] w fun e w' => e = .returned (.int .i64 (wrap64 ((numB (ys.take m) : Nat) : Int))) ∧ RS w0 w' k (ys.drop m) ∧ ∃ v' q, w' = (w.setCell ⟨k, 0, none⟩ v').drewN q := by
  have H : Hid (Calls Tryd.prog 132 #[.pointer (some ⟨k, 0, none⟩), .int .i64 m] w fun e w' => ∃ b o c v', e = .returned (.slice (some ⟨b, o, none⟩) m c) ∧ b < w0.heap.size ∧ (∀ i, i < m → w0.cell? ⟨b, o + i, none⟩ = some (.int .u8 (ys.getD i 0))) ∧ RS w0 w' k (ys.drop m) ∧ w' = w.setCell ⟨k, 0, none⟩ v') := take_any w0 w k m ys h hm hm0
  have HBY : Hid (Byt ys) := hby
  have HM : Hid (m ≤ ys.length) := hm
  clear h hby hm
  go_enter Tryd.func99, Tryd.ntmps99
  go_wp2_with fail
  refine H.out.mono ?_
  rintro e w1 ⟨b, o, c, v', rfl, hb, hc, hr, hw⟩
  have HC : Hid (∀ i, i < m → w0.cell? ⟨b, o + i, none⟩ = some (.int .u8 (ys.getD i 0))) := hc
  have HR : Hid (RS w0 w1 k (ys.drop m)) := hr
  have HW : Hid (w1 = w.setCell ⟨k, 0, none⟩ v') := hw
  clear hc hr hw
  go_wp2
  go_loopw [5, 12] (fun vn vi wr => ∃ (i : Nat) (z : Int), i ≤ m ∧ vi = .int .i64 i ∧ vn = .int .i64 z ∧ Hid (z = wrap64 ((numB (ys.take i) : Nat) : Int)) ∧ ∃ q, wr = w1.drewN q) (fun _ i _ => m - (intOf i).toNat)
  case atStart => exact ⟨0, 0, Nat.zero_le _, rfl, rfl, (by show (0 : Int) = _; unfold wrap64; rw [List.take_zero, numB_nil]; rfl), 0, rfl⟩
  case round =>
    obtain ⟨i, z, hi, rfl, rfl, HZ, q, rfl⟩ := hrel
    by_cases hlt : i < m
    · have hI : (i : Int) < (m : Int) := by omega
      obtain ⟨x, hx, hxe⟩ := byt_at HBY.out i
      have c1 : w1.cell? ⟨b, o + i, none⟩ = some (.int .u8 (x : Int)) := by rw [HR.out.2.2.2.1.cell (p := ⟨b, o + i, none⟩) hb, HC.out i hlt, hxe]
      have HXE : Hid (ys.getD i 0 = (x : Int)) := hxe
      have hxI : (x : Int) < 256 := by omega
      clear hxe
      have HN : Hid (bits .or .i64 (wrap64 (z * 256)) (x : Int) = wrap64 ((numB (ys.take (i + 1)) : Nat) : Int)) := by
        show _ = _
        have ht : ys.take (i + 1) = ys.take i ++ [(x : Int)] := by
          have hl : i < ys.length := by have := HM.out; omega
          have he := HXE.out
          simp only [List.getD, List.getElem?_eq_getElem hl, Option.getD_some] at he
          rw [List.take_succ_eq_append_getElem hl, he]
        rw [ht, numB_snoc, HZ.out, wrap64_shl, i64_join _ _ hx, Int.toNat_natCast]
      go_wp2
      exact ⟨⟨i + 1, _, by omega, by go_num, rfl, HN, q, rfl⟩, by simp [intOf]; omega⟩
    · have him : i = m := by omega
      subst him
      have HRQ : Hid (RS w0 (w1.drewN q) k (ys.drop i)) := HR.out.drewN q
      have HWQ : Hid (∃ v' q', w1.drewN q = (w.setCell ⟨k, 0, none⟩ v').drewN q') := ⟨v', q, by rw [HW.out]⟩
      go_wp2
      go_ret
      exact ⟨ret_int HZ.out, HRQ.out, HWQ.out⟩

end Go.Proofs.YtcopcegamadkgaaDoor

namespace Go.Proofs.YtcopcegamadkgaaDoor
open Go.RowKit

/-- A text at the head of bytes, and what is behind it. -/
def rdT : List Int → Option (ByteArray × List Int)
  | [] => none
  | y :: r => if y.toNat ≤ r.length then some (strOfNums (r.take y.toNat), r.drop y.toNat) else none
def num4 (ys : List Int) (i : Nat) : Int := ((numB ((ys.drop (4 * i)).take 4) : Nat) : Int)
/-- A node at the head of bytes, and what is behind it. -/
def rdNd (ys : List Int) : Option (Nd × List Int) :=
  match rdT ys with
  | none => none
  | some (p, r1) =>
    match rdT r1 with
    | none => none
    | some (d, r2) => if 20 ≤ r2.length then some (⟨p, d, num4 r2 0, num4 r2 1, num4 r2 2, num4 r2 3, num4 r2 4⟩, r2.drop 20) else none
theorem byt_drop {ys : List Int} (h : Byt ys) (n : Nat) : Byt (ys.drop n) := fun x hx => h x (List.mem_of_mem_drop hx)
theorem rdT_some {ys r : List Int} {s : ByteArray} (h : rdT ys = some (s, r)) : ∃ y t, ys = y :: t ∧ y.toNat ≤ t.length ∧ s = strOfNums (t.take y.toNat) ∧ r = t.drop y.toNat := by
  cases ys with
  | nil => simp [rdT] at h
  | cons y t =>
    simp only [rdT] at h
    by_cases hy : y.toNat ≤ t.length
    · rw [if_pos hy] at h
      simp only [Option.some.injEq, Prod.mk.injEq] at h
      exact ⟨y, t, rfl, hy, h.1.symm, h.2.symm⟩
    · rw [if_neg hy] at h; cases h
theorem rdT_byt {ys r : List Int} {s : ByteArray} (h : rdT ys = some (s, r)) (hb : Byt ys) : Byt r ∧ r.length < ys.length ∧ s.size < 256 := by
  obtain ⟨y, t, rfl, h1, rfl, rfl⟩ := rdT_some h
  refine ⟨fun x hx => hb x (List.mem_cons_of_mem _ (List.mem_of_mem_drop hx)), by simp; omega, ?_⟩
  have := hb y (by simp)
  rw [strOfNums_size, List.length_take]
  omega
theorem rdNd_byt {ys r : List Int} {n : Nd} (h : rdNd ys = some (n, r)) (hb : Byt ys) : Byt r ∧ r.length < ys.length ∧ n.path.size < 256 ∧ n.data.size < 256 := by
  unfold rdNd at h
  cases h1 : rdT ys with
  | none => rw [h1] at h; cases h
  | some q =>
    obtain ⟨p, r1⟩ := q
    rw [h1] at h
    simp only at h
    cases h2 : rdT r1 with
    | none => rw [h2] at h; cases h
    | some q2 =>
      obtain ⟨d, r2⟩ := q2
      rw [h2] at h
      simp only at h
      by_cases h3 : 20 ≤ r2.length
      · rw [if_pos h3] at h
        simp only [Option.some.injEq, Prod.mk.injEq] at h
        obtain ⟨rfl, rfl⟩ := h
        have b1 := rdT_byt h1 hb
        have b2 := rdT_byt h2 b1.1
        refine ⟨byt_drop b2.1 _, ?_, b1.2.2, b2.2.2⟩
        rw [List.length_drop]; omega
      · rw [if_neg h3] at h; cases h

/-- All nodes of bytes. -/
def pNs : Nat → List Int → Option (List Nd)
  | 0, ys => if ys = [] then some [] else none
  | f + 1, ys => if ys = [] then some [] else
    match rdNd ys with
    | none => none
    | some (n, r) => (pNs f r).map (n :: ·)
theorem pNs_nil (f : Nat) : pNs f [] = some [] := by cases f <;> simp [pNs]
theorem pNs_none {f : Nat} {ys : List Int} (h : ys ≠ []) (hr : rdNd ys = none) : pNs f ys = none := by
  cases f with
  | zero => simp [pNs, h]
  | succ f => simp [pNs, h, hr]
theorem pNs_some {f : Nat} {ys r : List Int} {n : Nd} (h : ys ≠ []) (hr : rdNd ys = some (n, r)) : pNs (f + 1) ys = (pNs f r).map (n :: ·) := by simp [pNs, h, hr]
/-- A way through the bytes: what was read, and what is left. -/
def Par (ys : List Int) (ns : List Nd) (r : List Int) : Prop := ∃ f, r.length ≤ f ∧ pNs ys.length ys = (pNs f r).map (ns ++ ·) ∧ ns.length + r.length ≤ ys.length
theorem Par.start (ys : List Int) : Par ys [] ys := ⟨ys.length, Nat.le_refl _, by simp, by simp⟩
theorem Par.step {ys : List Int} {ns : List Nd} {r r' : List Int} {n : Nd} (h : Par ys ns r) (hb : Byt r) (hr : rdNd r = some (n, r')) : Par ys (ns ++ [n]) r' := by
  obtain ⟨f, hf, he, hl⟩ := h
  have h1 := (rdNd_byt hr hb).2.1
  have hne : r ≠ [] := fun e => by rw [e] at h1; simp at h1
  cases f with
  | zero => omega
  | succ f =>
    refine ⟨f, by omega, ?_, by simp; omega⟩
    rw [he, pNs_some hne hr, Option.map_map]
    congr 1
    funext l
    simp
theorem Par.done {ys : List Int} {ns : List Nd} (h : Par ys ns []) : pNs ys.length ys = some ns := by
  obtain ⟨f, -, he, -⟩ := h
  rw [he, pNs_nil]; simp
theorem Par.bad {ys : List Int} {ns : List Nd} {r : List Int} (h : Par ys ns r) (hne : r ≠ []) (hr : rdNd r = none) : pNs ys.length ys = none := by
  obtain ⟨f, -, he, -⟩ := h
  rw [he, pNs_none hne hr]; rfl
/-- What bytes are, read as a tree. -/
def decT (ys : List Int) : Option (List Nd) :=
  match pNs ys.length ys with
  | none => none
  | some ns => if okTree ns then some ns else none

end Go.Proofs.YtcopcegamadkgaaDoor

namespace Go.Proofs.YtcopcegamadkgaaDoor
open Go.RowKit

set_option maxHeartbeats 400000 in
set_option maxRecDepth 100000 in
theorem take_zero (w : World) (k n c : Nat) (ao : Option Addr) (h0 : w.cell? ⟨k, 0, none⟩ = some (.slice ao n c)) (hz : w.frozen? ⟨k, 0, none⟩ = false) :
    Calls Tryd.prog 132 #[.pointer (some ⟨k, 0, none⟩), .int .i64 0] w fun e w' => e = .returned (.slice ao 0 c) ∧ w' = w.setCell ⟨k, 0, none⟩ (.slice ao n c) := by
  have hI : ¬ (n : Int) < 0 := by omega
  go_enter Tryd.func132, Tryd.ntmps132
  cases ao with
  | none =>
    go_wp2
    go_ret
    exact ⟨rfl, rfl⟩
  | some a =>
    go_wp2
    go_ret
    exact ⟨rfl, rfl⟩

theorem take_gen (w0 w : World) (k m : Nat) (ys : List Int) (h : RS w0 w k ys) (hm : m ≤ ys.length) :
    Calls Tryd.prog 132 #[.pointer (some ⟨k, 0, none⟩), .int .i64 m] w fun e w' => ∃ v1, e = .returned v1 ∧ Rd .u8 w0 v1 (ys.take m) ∧ RS w0 w' k (ys.drop m) ∧ w.grownBy w' (some k) := by
  have h' := h
  obtain ⟨h1, h2, h3, h4, v, h5, h6⟩ := h
  have h6' := h6
  obtain ⟨ao, c, rfl, g1, g2, g3⟩ := h6
  by_cases hm0 : m = 0
  · subst hm0
    refine (take_zero w k ys.length c ao h5 h3).mono ?_
    rintro e w' ⟨rfl, rfl⟩
    refine ⟨_, rfl, ⟨ao, c, by simp, Nat.zero_le _, g2, .inl (List.take_zero)⟩, ?_, grownBy_set _ _ _ _ _ (World.grownBy.refl _ _)⟩
    rw [List.drop_zero]
    exact RS.set h' h6'
  · rcases g3 with rfl | ⟨b, o, rfl, hb, hc⟩
    · simp at hm; omega
    · refine (take_ok w k b o ys.length c m h5 h3 hm (by omega) g1).mono ?_
      rintro e w' ⟨rfl, o', ho', rfl⟩
      have hs := Rd.split h6' m hm (by omega)
      exact ⟨_, rfl, hs.1, RS.set h' (hs.2 o' ho'), grownBy_set _ _ _ _ _ (World.grownBy.refl _ _)⟩

set_option maxHeartbeats 400000 in
set_option maxRecDepth 100000 in
theorem oneByte_any (w0 w : World) (k : Nat) (y : Int) (r : List Int) (h : RS w0 w k (y :: r)) :
    Calls Tryd.prog 131 #[.pointer (some ⟨k, 0, none⟩)] w fun e w' => e = .returned (.int .u8 y) ∧ RS w0 w' k r ∧ w.grownBy w' (some k) := by
  have H : Hid (Calls Tryd.prog 132 #[.pointer (some ⟨k, 0, none⟩), .int .i64 1] w fun e w' => ∃ b o c, e = .returned (.slice (some ⟨b, o, none⟩) 1 c) ∧ w'.cell? ⟨b, o, none⟩ = some (.int .u8 y) ∧ Hid (RS w0 w' k r) ∧ Hid (w.grownBy w' (some k))) := by
    refine (take_any w0 w k 1 (y :: r) h (by simp) (by omega)).mono ?_
    rintro e w' ⟨b, o, c, v', rfl, hb, hc, hr, rfl⟩
    have h0 := hc 0 (by omega)
    refine ⟨b, o, c, rfl, ?_, (by show RS _ _ _ _; simpa using hr), grownBy_set _ _ _ _ _ (World.grownBy.refl _ _)⟩
    rw [hr.2.2.2.1.cell (p := ⟨b, o, none⟩) hb]
    simpa using h0
  clear h
  go_enter Tryd.func131, Tryd.ntmps131
  go_wp2_with fail
  refine H.out.mono ?_
  rintro e w1 ⟨b, o, c, rfl, hc, hr, hg⟩
  go_wp2
  go_ret
  exact ⟨rfl, hr.out, hg.out⟩

set_option maxHeartbeats 400000 in
set_option maxRecDepth 100000 in
theorem oneByte_none (w0 w : World) (k : Nat) (h : RS w0 w k []) :
    Calls Tryd.prog 131 #[.pointer (some ⟨k, 0, none⟩)] w fun e w' => e = .panicked badChain ∧ w' = w := by
  have H : Hid (Calls Tryd.prog 132 #[.pointer (some ⟨k, 0, none⟩), .int .i64 1] w fun e w' => e = .panicked badChain ∧ w' = w) := take_none w0 w k 1 [] h (by simp)
  clear h
  go_enter Tryd.func131, Tryd.ntmps131
  go_wp2_with fail
  refine H.out.mono ?_
  rintro e w1 ⟨rfl, rfl⟩
  exact ⟨rfl, rfl, rfl⟩

def TxPost (w0 w : World) (k : Nat) (ys : List Int) (e : Ending) (w' : World) : Prop :=
  w.grownBy w' (some k) ∧ ((rdT ys = none ∧ e = .panicked badChain) ∨ ∃ s r, rdT ys = some (s, r) ∧ e = .returned (.string s) ∧ RS w0 w' k r)

set_option maxHeartbeats 400000 in
set_option maxRecDepth 100000 in
theorem text_any (w0 w : World) (k : Nat) (ys : List Int) (h : RS w0 w k ys) (hby : Byt ys) :
    Calls Tryd.prog 98 #[.pointer (some ⟨k, 0, none⟩)] w fun e w' => TxPost w0 w k ys e w' := by
  have HS : Hid (RS w0 w k ys) := h
  clear h
  go_enter Tryd.func98, Tryd.ntmps98
  go_wp2_with fail
  cases ys with
  | nil =>
    refine (oneByte_none w0 w k HS.out).mono ?_
    rintro e w1 ⟨rfl, rfl⟩
    exact ⟨rfl, World.grownBy.refl _ _, .inl ⟨rfl, rfl⟩⟩
  | cons y r =>
    have hy := hby y (by simp)
    obtain ⟨m, rfl⟩ : ∃ m : Nat, y = (m : Int) := ⟨y.toNat, by omega⟩
    have hm : m < 256 := by omega
    clear hby hy
    refine (oneByte_any w0 w k m r HS.out).mono ?_
    rintro e w1 ⟨rfl, r1, g1⟩
    have R1 : Hid (RS w0 w1 k r) := r1
    have G1 : Hid (w.grownBy w1 (some k)) := g1
    clear r1 g1 HS
    have hmI : (m : Int) < 256 := by omega
    go_wp2_with fail
    by_cases hl : m ≤ r.length
    · refine (take_gen w0 w1 k m r R1.out hl).mono ?_
      rintro e w2 ⟨v2, rfl, rd2, r2, g2⟩
      have hcv := conv_any (rd2.below r2.2.2.2.1)
      have HP : Hid (TxPost w0 w k ((m : Int) :: r) (.returned (.string (strOfNums (r.take m)))) w2) := by
        refine ⟨G1.out.trans g2, .inr ⟨_, _, ?_, rfl, r2⟩⟩
        simp only [rdT, Int.toNat_natCast]
        rw [if_pos hl]
      clear rd2 r2 g2 R1 G1
      go_wp2
      go_ret
      exact HP.out
    · refine (take_none w0 w1 k m r R1.out (by omega)).mono ?_
      rintro e w2 ⟨rfl, rfl⟩
      refine ⟨rfl, G1.out, .inl ⟨?_, rfl⟩⟩
      simp only [rdT, Int.toNat_natCast]
      rw [if_neg hl]

end Go.Proofs.YtcopcegamadkgaaDoor

namespace Go.Proofs.YtcopcegamadkgaaDoor
open Go.RowKit

def stP (b p : Nat) : Value := .agg #[.pointer (some ⟨b, p + 2, none⟩), .pointer (some ⟨b, p + 3, none⟩), .pointer (some ⟨b, p + 4, none⟩), .pointer (some ⟨b, p + 5, none⟩), .pointer (some ⟨b, p + 6, none⟩)]

set_option maxHeartbeats 1000000 in
set_option maxRecDepth 100000 in
theorem stats_any (w : World) (b p : Nat) :
    Calls Tryd.prog 95 #[.pointer (some ⟨b, p, none⟩)] w fun e w' => e = .returned (stP b p) ∧ Below w.heap.size w w' := by
  go_enter Tryd.func95, Tryd.ntmps95
  go_wp2
  refine wp_region_held_drew (S := fun _ => True) (by kernel_rfl) (trivial) (fun hHeld => ?_)
  refine wpAnyH_take (i := 0) (oi := { dst := some 3, op := _, type := _, pos := _, after := _, guard := _ }) (v := (.pointer (some ⟨b, p, none⟩))) rfl (by kernel_rfl) (by kernel_rfl) (by kernel_rfl) (fun _ _ _ h => h) (Or.inl ⟨by rfl, ?hy1⟩) (by assumption) ?rest1
  case hy1 =>
    intro w9 hS9
    go_simp
    try with_reducible rfl
  try simp only [Act.put, List.setIfInBounds_toArray, List.set_cons_zero, List.set_cons_succ]
  refine wpAnyH_take (i := 1) (oi := { dst := some 4, op := _, type := _, pos := _, after := _, guard := _ }) (v := (.pointer (some ⟨b, p, none⟩))) rfl (by kernel_rfl) (by kernel_rfl) (by kernel_rfl) (fun _ _ _ h => h) (Or.inl ⟨by rfl, ?hy2⟩) (by assumption) ?rest2
  case hy2 =>
    intro w9 hS9
    go_simp
    try with_reducible rfl
  try simp only [Act.put, List.setIfInBounds_toArray, List.set_cons_zero, List.set_cons_succ]
  refine wpAnyH_take (i := 2) (oi := { dst := some 5, op := _, type := _, pos := _, after := _, guard := _ }) (v := (.pointer (some ⟨b, p, none⟩))) rfl (by kernel_rfl) (by kernel_rfl) (by kernel_rfl) (fun _ _ _ h => h) (Or.inl ⟨by rfl, ?hy3⟩) (by assumption) ?rest3
  case hy3 =>
    intro w9 hS9
    go_simp
    try with_reducible rfl
  try simp only [Act.put, List.setIfInBounds_toArray, List.set_cons_zero, List.set_cons_succ]
  refine wpAnyH_take (i := 3) (oi := { dst := some 6, op := _, type := _, pos := _, after := _, guard := _ }) (v := (.pointer (some ⟨b, p + 2, none⟩))) rfl (by kernel_rfl) (by kernel_rfl) (by kernel_rfl) (fun _ _ _ h => h) (Or.inl ⟨by rfl, ?hy4⟩) (by assumption) ?rest4
  case hy4 =>
    intro w9 hS9
    go_simp
    try with_reducible rfl
  try simp only [Act.put, List.setIfInBounds_toArray, List.set_cons_zero, List.set_cons_succ]
  refine wpAnyH_take (i := 4) (oi := { dst := some 7, op := _, type := _, pos := _, after := _, guard := _ }) (v := (.pointer (some ⟨b, p, none⟩))) rfl (by kernel_rfl) (by kernel_rfl) (by kernel_rfl) (fun _ _ _ h => h) (Or.inl ⟨by rfl, ?hy5⟩) (by assumption) ?rest5
  case hy5 =>
    intro w9 hS9
    go_simp
    try with_reducible rfl
  try simp only [Act.put, List.setIfInBounds_toArray, List.set_cons_zero, List.set_cons_succ]
  refine wpAnyH_take (i := 5) (oi := { dst := some 8, op := _, type := _, pos := _, after := _, guard := _ }) (v := (.pointer (some ⟨b, p, none⟩))) rfl (by kernel_rfl) (by kernel_rfl) (by kernel_rfl) (fun _ _ _ h => h) (Or.inl ⟨by rfl, ?hy6⟩) (by assumption) ?rest6
  case hy6 =>
    intro w9 hS9
    go_simp
    try with_reducible rfl
  try simp only [Act.put, List.setIfInBounds_toArray, List.set_cons_zero, List.set_cons_succ]
  refine wpAnyH_take (i := 6) (oi := { dst := some 9, op := _, type := _, pos := _, after := _, guard := _ }) (v := (.pointer (some ⟨b, p, none⟩))) rfl (by kernel_rfl) (by kernel_rfl) (by kernel_rfl) (fun _ _ _ h => h) (Or.inl ⟨by rfl, ?hy7⟩) (by assumption) ?rest7
  case hy7 =>
    intro w9 hS9
    go_simp
    try with_reducible rfl
  try simp only [Act.put, List.setIfInBounds_toArray, List.set_cons_zero, List.set_cons_succ]
  refine wpAnyH_take (i := 7) (oi := { dst := some 10, op := _, type := _, pos := _, after := _, guard := _ }) (v := (.pointer (some ⟨b, p + 3, none⟩))) rfl (by kernel_rfl) (by kernel_rfl) (by kernel_rfl) (fun _ _ _ h => h) (Or.inl ⟨by rfl, ?hy8⟩) (by assumption) ?rest8
  case hy8 =>
    intro w9 hS9
    go_simp
    try with_reducible rfl
  try simp only [Act.put, List.setIfInBounds_toArray, List.set_cons_zero, List.set_cons_succ]
  refine wpAnyH_take (i := 8) (oi := { dst := some 11, op := _, type := _, pos := _, after := _, guard := _ }) (v := (.pointer (some ⟨b, p, none⟩))) rfl (by kernel_rfl) (by kernel_rfl) (by kernel_rfl) (fun _ _ _ h => h) (Or.inl ⟨by rfl, ?hy9⟩) (by assumption) ?rest9
  case hy9 =>
    intro w9 hS9
    go_simp
    try with_reducible rfl
  try simp only [Act.put, List.setIfInBounds_toArray, List.set_cons_zero, List.set_cons_succ]
  refine wpAnyH_take (i := 9) (oi := { dst := some 12, op := _, type := _, pos := _, after := _, guard := _ }) (v := (.pointer (some ⟨b, p, none⟩))) rfl (by kernel_rfl) (by kernel_rfl) (by kernel_rfl) (fun _ _ _ h => h) (Or.inl ⟨by rfl, ?hy10⟩) (by assumption) ?rest10
  case hy10 =>
    intro w9 hS9
    go_simp
    try with_reducible rfl
  try simp only [Act.put, List.setIfInBounds_toArray, List.set_cons_zero, List.set_cons_succ]
  refine wpAnyH_take (i := 10) (oi := { dst := some 13, op := _, type := _, pos := _, after := _, guard := _ }) (v := (.pointer (some ⟨b, p, none⟩))) rfl (by kernel_rfl) (by kernel_rfl) (by kernel_rfl) (fun _ _ _ h => h) (Or.inl ⟨by rfl, ?hy11⟩) (by assumption) ?rest11
  case hy11 =>
    intro w9 hS9
    go_simp
    try with_reducible rfl
  try simp only [Act.put, List.setIfInBounds_toArray, List.set_cons_zero, List.set_cons_succ]
  refine wpAnyH_take (i := 11) (oi := { dst := some 14, op := _, type := _, pos := _, after := _, guard := _ }) (v := (.pointer (some ⟨b, p + 4, none⟩))) rfl (by kernel_rfl) (by kernel_rfl) (by kernel_rfl) (fun _ _ _ h => h) (Or.inl ⟨by rfl, ?hy12⟩) (by assumption) ?rest12
  case hy12 =>
    intro w9 hS9
    go_simp
    try with_reducible rfl
  try simp only [Act.put, List.setIfInBounds_toArray, List.set_cons_zero, List.set_cons_succ]
  refine wpAnyH_take (i := 12) (oi := { dst := some 15, op := _, type := _, pos := _, after := _, guard := _ }) (v := (.pointer (some ⟨b, p, none⟩))) rfl (by kernel_rfl) (by kernel_rfl) (by kernel_rfl) (fun _ _ _ h => h) (Or.inl ⟨by rfl, ?hy13⟩) (by assumption) ?rest13
  case hy13 =>
    intro w9 hS9
    go_simp
    try with_reducible rfl
  try simp only [Act.put, List.setIfInBounds_toArray, List.set_cons_zero, List.set_cons_succ]
  refine wpAnyH_take (i := 13) (oi := { dst := some 16, op := _, type := _, pos := _, after := _, guard := _ }) (v := (.pointer (some ⟨b, p, none⟩))) rfl (by kernel_rfl) (by kernel_rfl) (by kernel_rfl) (fun _ _ _ h => h) (Or.inl ⟨by rfl, ?hy14⟩) (by assumption) ?rest14
  case hy14 =>
    intro w9 hS9
    go_simp
    try with_reducible rfl
  try simp only [Act.put, List.setIfInBounds_toArray, List.set_cons_zero, List.set_cons_succ]
  refine wpAnyH_take (i := 14) (oi := { dst := some 17, op := _, type := _, pos := _, after := _, guard := _ }) (v := (.pointer (some ⟨b, p, none⟩))) rfl (by kernel_rfl) (by kernel_rfl) (by kernel_rfl) (fun _ _ _ h => h) (Or.inl ⟨by rfl, ?hy15⟩) (by assumption) ?rest15
  case hy15 =>
    intro w9 hS9
    go_simp
    try with_reducible rfl
  try simp only [Act.put, List.setIfInBounds_toArray, List.set_cons_zero, List.set_cons_succ]
  refine wpAnyH_take (i := 15) (oi := { dst := some 18, op := _, type := _, pos := _, after := _, guard := _ }) (v := (.pointer (some ⟨b, p + 5, none⟩))) rfl (by kernel_rfl) (by kernel_rfl) (by kernel_rfl) (fun _ _ _ h => h) (Or.inl ⟨by rfl, ?hy16⟩) (by assumption) ?rest16
  case hy16 =>
    intro w9 hS9
    go_simp
    try with_reducible rfl
  try simp only [Act.put, List.setIfInBounds_toArray, List.set_cons_zero, List.set_cons_succ]
  refine wpAnyH_take (i := 16) (oi := { dst := some 19, op := _, type := _, pos := _, after := _, guard := _ }) (v := (.pointer (some ⟨b, p, none⟩))) rfl (by kernel_rfl) (by kernel_rfl) (by kernel_rfl) (fun _ _ _ h => h) (Or.inl ⟨by rfl, ?hy17⟩) (by assumption) ?rest17
  case hy17 =>
    intro w9 hS9
    go_simp
    try with_reducible rfl
  try simp only [Act.put, List.setIfInBounds_toArray, List.set_cons_zero, List.set_cons_succ]
  refine wpAnyH_take (i := 17) (oi := { dst := some 20, op := _, type := _, pos := _, after := _, guard := _ }) (v := (.pointer (some ⟨b, p, none⟩))) rfl (by kernel_rfl) (by kernel_rfl) (by kernel_rfl) (fun _ _ _ h => h) (Or.inl ⟨by rfl, ?hy18⟩) (by assumption) ?rest18
  case hy18 =>
    intro w9 hS9
    go_simp
    try with_reducible rfl
  try simp only [Act.put, List.setIfInBounds_toArray, List.set_cons_zero, List.set_cons_succ]
  refine wpAnyH_take (i := 18) (oi := { dst := some 21, op := _, type := _, pos := _, after := _, guard := _ }) (v := (.pointer (some ⟨b, p, none⟩))) rfl (by kernel_rfl) (by kernel_rfl) (by kernel_rfl) (fun _ _ _ h => h) (Or.inl ⟨by rfl, ?hy19⟩) (by assumption) ?rest19
  case hy19 =>
    intro w9 hS9
    go_simp
    try with_reducible rfl
  try simp only [Act.put, List.setIfInBounds_toArray, List.set_cons_zero, List.set_cons_succ]
  refine wpAnyH_take (i := 19) (oi := { dst := some 22, op := _, type := _, pos := _, after := _, guard := _ }) (v := (.pointer (some ⟨b, p + 6, none⟩))) rfl (by kernel_rfl) (by kernel_rfl) (by kernel_rfl) (fun _ _ _ h => h) (Or.inl ⟨by rfl, ?hy20⟩) (by assumption) ?rest20
  case hy20 =>
    intro w9 hS9
    go_simp
    try with_reducible rfl
  try simp only [Act.put, List.setIfInBounds_toArray, List.set_cons_zero, List.set_cons_succ]
  refine wpAnyH_take (i := 20) (oi := { dst := some 23, op := _, type := _, pos := _, after := _, guard := _ }) (v := (stP b p)) rfl (by kernel_rfl) (by kernel_rfl) (by kernel_rfl) (fun _ _ _ h => h) (Or.inl ⟨by rfl, ?hy21⟩) (by assumption) ?rest21
  case hy21 =>
    intro w9 hS9
    go_simp
    rfl
  try simp only [Act.put, List.setIfInBounds_toArray, List.set_cons_zero, List.set_cons_succ]
  refine wpAnyH_ready (rs := [21]) (by kernel_rfl) (by simp) ?_
  refine AllReadyH.cons (o := { dst := none, op := _, type := _, pos := _, after := _, guard := _ }) rfl (fun K hK => ?_) AllReadyH.nil
  unfold stP
  go_simp
  refine hK.out _ _ trivial (fun hx9 => ?_)
  clear hK K hHeld hx9
  refine wpAnyH_done (by kernel_rfl) ?_ _
  go_wp2
  refine bodyPost_ret (v := stP b p) (by simp [results, Tryd.results95, go_sem, stP]) rfl ⟨rfl, ?_⟩
  exact ((Below.refl _ _).alloc (Nat.le_refl _) _).trans ((below_drewN' _ 1).mono (by simp))

end Go.Proofs.YtcopcegamadkgaaDoor

namespace Go.Proofs.YtcopcegamadkgaaDoor
open Go.RowKit

/-- The cells of a box of another type are kept. -/
theorem KT.box {e t : TypeId} {w w' : World} {b : Nat} {A : Array Value} {f : Nat × Nat} (h : KT e w w') (hb : w.heap[b]? = some (.cells A t f)) (ht : t ≠ e) : w'.heap[b]? = some (.cells A t f) := by
  have hlt := (Array.getElem?_eq_some_iff.1 hb).1
  rw [h.2 b hlt (by rw [hb]; rintro ⟨cur, h⟩; injection h with h; injection h with _ h2; exact ht h2), hb]
/-- A node at the head of a box of its own. -/
def BxN (w : World) (b : Nat) (n : Nd) : Prop := (∃ A t f, w.heap[b]? = some (.cells A t f) ∧ t ≠ 5) ∧ CellsN w b 0 n
theorem BxN.keep {w w' : World} {b : Nat} {n : Nd} (h : BxN w b n) (hk : KT 5 w w') : BxN w' b n := by
  obtain ⟨⟨A, t, f, h1, h2⟩, h3⟩ := h
  have h4 := hk.box h1 h2
  have e : ∀ q, w'.cell? ⟨b, q, none⟩ = w.cell? ⟨b, q, none⟩ := fun q => World.cell?_of_block (a := ⟨b, q, none⟩) (by show w'.heap[b]? = w.heap[b]?; rw [h4, h1])
  exact ⟨⟨A, t, f, h4, h2⟩, (e _).trans h3.c0, (e _).trans h3.c1, (e _).trans h3.c2, (e _).trans h3.c3, (e _).trans h3.c4, (e _).trans h3.c5, (e _).trans h3.c6⟩
theorem BxN.below {w w' : World} {b : Nat} {n : Nd} (h : BxN w b n) (hk : Below w.heap.size w w') : BxN w' b n := h.keep ((KT.refl _ _).below hk)
theorem BxN.cells {w : World} {b : Nat} {n : Nd} (h : BxN w b n) : CellsN w b 0 n := h.2
theorem cell_of {w : World} {b : Nat} {A : Array Value} {t : TypeId} {f : Nat × Nat} (h : w.heap[b]? = some (.cells A t f)) (q : Nat) : w.cell? ⟨b, q, none⟩ = A[q]? := by simp [World.cell?, h]
theorem KT.cell {e t : TypeId} {w w' : World} {b : Nat} {A : Array Value} {f : Nat × Nat} (h : KT e w w') (hb : w.heap[b]? = some (.cells A t f)) (ht : t ≠ e) (q : Nat) : w'.cell? ⟨b, q, none⟩ = w.cell? ⟨b, q, none⟩ :=
  World.cell?_of_block (a := ⟨b, q, none⟩) (by show w'.heap[b]? = w.heap[b]?; rw [h.box hb ht, hb])

/-- The images of the first k of five numbers. -/
def stK (a b c d e k : Nat) : List Int := ([a, b, c, d, e].take k).flatMap fun z => bigR z 4
theorem stK_len (a b c d e k : Nat) : (stK a b c d e k).length ≤ 20 := by
  unfold stK
  match k with
  | 0 => simp
  | 1 => simp [bigR_len]
  | 2 => simp [bigR_len]
  | 3 => simp [bigR_len]
  | 4 => simp [bigR_len]
  | k + 5 => simp [bigR_len]
theorem stK_0 (a b c d e : Nat) : stK a b c d e 0 ++ bigR a 4 = stK a b c d e 1 := by simp [stK]
theorem stK_1 (a b c d e : Nat) : stK a b c d e 1 ++ bigR b 4 = stK a b c d e 2 := by simp [stK]
theorem stK_2 (a b c d e : Nat) : stK a b c d e 2 ++ bigR c 4 = stK a b c d e 3 := by simp [stK]
theorem stK_3 (a b c d e : Nat) : stK a b c d e 3 ++ bigR d 4 = stK a b c d e 4 := by simp [stK]
theorem stK_4 (a b c d e : Nat) : stK a b c d e 4 ++ bigR e 4 = stK a b c d e 5 := by simp [stK]

theorem ix_0 (W : World) (b : Nat) : (Instr.index 142 (.agg #[.pointer (some ⟨b, 2, none⟩), .pointer (some ⟨b, 3, none⟩), .pointer (some ⟨b, 4, none⟩), .pointer (some ⟨b, 5, none⟩), .pointer (some ⟨b, 6, none⟩)]) (.int .i64 0)).run Tryd.prog W = .ok (.pointer (some ⟨b, 2, none⟩)) W := by kernel_rfl
theorem ix_1 (W : World) (b : Nat) : (Instr.index 142 (.agg #[.pointer (some ⟨b, 2, none⟩), .pointer (some ⟨b, 3, none⟩), .pointer (some ⟨b, 4, none⟩), .pointer (some ⟨b, 5, none⟩), .pointer (some ⟨b, 6, none⟩)]) (.int .i64 1)).run Tryd.prog W = .ok (.pointer (some ⟨b, 3, none⟩)) W := by kernel_rfl
theorem ix_2 (W : World) (b : Nat) : (Instr.index 142 (.agg #[.pointer (some ⟨b, 2, none⟩), .pointer (some ⟨b, 3, none⟩), .pointer (some ⟨b, 4, none⟩), .pointer (some ⟨b, 5, none⟩), .pointer (some ⟨b, 6, none⟩)]) (.int .i64 2)).run Tryd.prog W = .ok (.pointer (some ⟨b, 4, none⟩)) W := by kernel_rfl
theorem ix_3 (W : World) (b : Nat) : (Instr.index 142 (.agg #[.pointer (some ⟨b, 2, none⟩), .pointer (some ⟨b, 3, none⟩), .pointer (some ⟨b, 4, none⟩), .pointer (some ⟨b, 5, none⟩), .pointer (some ⟨b, 6, none⟩)]) (.int .i64 3)).run Tryd.prog W = .ok (.pointer (some ⟨b, 5, none⟩)) W := by kernel_rfl
theorem ix_4 (W : World) (b : Nat) : (Instr.index 142 (.agg #[.pointer (some ⟨b, 2, none⟩), .pointer (some ⟨b, 3, none⟩), .pointer (some ⟨b, 4, none⟩), .pointer (some ⟨b, 5, none⟩), .pointer (some ⟨b, 6, none⟩)]) (.int .i64 4)).run Tryd.prog W = .ok (.pointer (some ⟨b, 6, none⟩)) W := by kernel_rfl

set_option maxHeartbeats 1000000 in
set_option maxRecDepth 100000 in
theorem encNode_any (w : World) (base : Nat) (v : Value) (xs : List Int) (b : Nat) (n : Nd) (h : Own .u8 5 w base v xs) (hb : base ≤ w.heap.size) (hl : xs.length ≤ 1000000) (hx : BxN w b n) (hn : okNd n = true) :
    Calls Tryd.prog 54 #[.pointer (some ⟨b, 0, none⟩), v] w fun e w' => ∃ v', e = .returned v' ∧ Own .u8 5 w' base v' (xs ++ nodeB n) ∧ Below base w w' ∧ KT 5 w w' := by
  obtain ⟨p1, p2, p3, p4, p5, p6, p7⟩ := okNd_all hn
  have HO : Hid (Own .u8 5 w base v xs) := h
  have HX : Hid (BxN w b n) := hx
  clear h hx hn
  obtain ⟨c0, c1, c2, c3, c4, c5, c6⟩ := HX.out.cells
  go_enter Tryd.func54, Tryd.ntmps54
  go_wp2_with fail
  refine (implText_any w base v xs n.path HO.out hb (by omega) (by omega)).mono ?_
  rintro e w1 ⟨v1, rfl, o1, b1, k1⟩
  have O1 : Hid (Own .u8 5 w1 base v1 (xs ++ txB n.path)) := o1
  have B1 : Hid (Below base w w1) := b1
  have X1 : Hid (BxN w1 b n) := HX.out.keep k1
  have K1 : Hid (KT 5 w w1) := k1
  have s1 := b1.size
  clear o1 b1 k1 c0 c1 c2 c3 c4 c5 c6
  obtain ⟨c0, c1, c2, c3, c4, c5, c6⟩ := X1.out.cells
  go_wp2_with fail
  refine (implText_any w1 base v1 _ n.data O1.out (by omega) (by rw [List.length_append, txB_len]; omega) (by omega)).mono ?_
  rintro e w2 ⟨v2, rfl, o2, b2, k2⟩
  have O2 : Hid (Own .u8 5 w2 base v2 (xs ++ txB n.path ++ txB n.data)) := o2
  have B2 : Hid (Below base w w2) := B1.out.trans b2
  have X2 : Hid (BxN w2 b n) := X1.out.keep k2
  have K2 : Hid (KT 5 w w2) := K1.out.trans k2
  have s2 := B2.out.size
  clear o2 b2 k2 c0 c1 c2 c3 c4 c5 c6 O1 X1 K1
  go_wp2_with fail
  refine (stats_any w2 b 0).mono ?_
  rintro e w3 ⟨rfl, b3⟩
  have O3 : Hid (Own .u8 5 w3 base v2 (xs ++ txB n.path ++ txB n.data)) := O2.out.below b3
  have B3 : Hid (Below base w w3) := B2.out.trans (b3.mono (by omega))
  have X3 : Hid (BxN w3 b n) := X2.out.below b3
  have K3 : Hid (KT 5 w w3) := K2.out.below b3
  clear b3 O2 X2 K2
  obtain ⟨z0, hz0⟩ : ∃ z : Nat, n.ver = (z : Int) := ⟨n.ver.toNat, by omega⟩
  obtain ⟨z1, hz1⟩ : ∃ z : Nat, n.cver = (z : Int) := ⟨n.cver.toNat, by omega⟩
  obtain ⟨z2, hz2⟩ : ∃ z : Nat, n.cz = (z : Int) := ⟨n.cz.toNat, by omega⟩
  obtain ⟨z3, hz3⟩ : ∃ z : Nat, n.mz = (z : Int) := ⟨n.mz.toNat, by omega⟩
  obtain ⟨z4, hz4⟩ : ∃ z : Nat, n.pz = (z : Int) := ⟨n.pz.toNat, by omega⟩
  have HZ : Hid (nodeB n = txB n.path ++ txB n.data ++ stK z0 z1 z2 z3 z4 5) := by
    show _ = _
    unfold nodeB stB stK
    simp [hz0, hz1, hz2, hz3, hz4]
  have HZ0 : Hid (n.ver = (z0 : Int)) := hz0
  have HZ1 : Hid (n.cver = (z1 : Int)) := hz1
  have HZ2 : Hid (n.cz = (z2 : Int)) := hz2
  have HZ3 : Hid (n.mz = (z3 : Int)) := hz3
  have HZ4 : Hid (n.pz = (z4 : Int)) := hz4
  have HL : Hid (∀ k, (xs ++ txB n.path ++ txB n.data ++ stK z0 z1 z2 z3 z4 k).length ≤ 1048576) := by
    intro k
    have := stK_len z0 z1 z2 z3 z4 k
    simp only [List.length_append, txB_len]
    omega
  clear hz0 hz1 hz2 hz3 hz4 p3 p4 p5 p6 p7
  obtain ⟨ys, hys⟩ : ∃ ys, ys = xs ++ txB n.path ++ txB n.data := ⟨_, rfl⟩
  have HYS : Hid (xs ++ nodeB n = ys ++ stK z0 z1 z2 z3 z4 5) := by show _ = _; rw [HZ.out, hys]; simp only [List.append_assoc]
  rw [← hys] at O3 HL
  clear hys HZ
  unfold stP
  go_wp2
  go_loopw [1, 23] (fun vi vk wr => ∃ k : Nat, k ≤ 5 ∧ vk = .int .i64 k ∧ Hid (Own .u8 5 wr base vi (ys ++ stK z0 z1 z2 z3 z4 k)) ∧ Hid (Below base w wr) ∧ Hid (KT 5 w wr) ∧ Hid (BxN wr b n)) (fun _ i _ => 5 - (intOf i).toNat)
  case atStart => exact ⟨0, by omega, rfl, by show Own _ _ _ _ _ _; unfold stK; simp; exact O3.out, B3, K3, X3⟩
  case round =>
    obtain ⟨k, hk, rfl, HW, HB, HK, HXr⟩ := hrel
    have sB := HB.out.size
    obtain ⟨-, -, c2, c3, c4, c5, c6⟩ := HXr.out.cells
    rw [HZ0.out] at c2
    rw [HZ1.out] at c3
    rw [HZ2.out] at c4
    rw [HZ3.out] at c5
    rw [HZ4.out] at c6
    rcases (show k = 0 ∨ k = 1 ∨ k = 2 ∨ k = 3 ∨ k = 4 ∨ k = 5 by omega) with rfl | rfl | rfl | rfl | rfl | rfl
    · have hix := fun W => ix_0 W b
      go_wp2_with fail
      clear hix
      refine (implNumber_any wr base _ _ z0 4 HW.out (by omega) (HL.out _) (by omega)).mono ?_
      rintro e w4 ⟨v4, rfl, o4, b4, k4⟩
      have O4 : Hid (Own .u8 5 w4 base v4 (ys ++ stK z0 z1 z2 z3 z4 1)) := by rw [List.append_assoc, stK_0] at o4; exact o4
      have B4 : Hid (Below base w w4) := HB.out.trans b4
      have K4 : Hid (KT 5 w w4) := HK.out.trans k4
      have X4 : Hid (BxN w4 b n) := HXr.out.keep k4
      clear o4 b4 k4 HW HB HK HXr c2 c3 c4 c5 c6
      go_wp2
      exact ⟨⟨1, by omega, rfl, O4, B4, K4, X4⟩, by simp [intOf]⟩
    · have hix := fun W => ix_1 W b
      go_wp2_with fail
      clear hix
      refine (implNumber_any wr base _ _ z1 4 HW.out (by omega) (HL.out _) (by omega)).mono ?_
      rintro e w4 ⟨v4, rfl, o4, b4, k4⟩
      have O4 : Hid (Own .u8 5 w4 base v4 (ys ++ stK z0 z1 z2 z3 z4 2)) := by rw [List.append_assoc, stK_1] at o4; exact o4
      have B4 : Hid (Below base w w4) := HB.out.trans b4
      have K4 : Hid (KT 5 w w4) := HK.out.trans k4
      have X4 : Hid (BxN w4 b n) := HXr.out.keep k4
      clear o4 b4 k4 HW HB HK HXr c2 c3 c4 c5 c6
      go_wp2
      exact ⟨⟨2, by omega, rfl, O4, B4, K4, X4⟩, by simp [intOf]⟩
    · have hix := fun W => ix_2 W b
      go_wp2_with fail
      clear hix
      refine (implNumber_any wr base _ _ z2 4 HW.out (by omega) (HL.out _) (by omega)).mono ?_
      rintro e w4 ⟨v4, rfl, o4, b4, k4⟩
      have O4 : Hid (Own .u8 5 w4 base v4 (ys ++ stK z0 z1 z2 z3 z4 3)) := by rw [List.append_assoc, stK_2] at o4; exact o4
      have B4 : Hid (Below base w w4) := HB.out.trans b4
      have K4 : Hid (KT 5 w w4) := HK.out.trans k4
      have X4 : Hid (BxN w4 b n) := HXr.out.keep k4
      clear o4 b4 k4 HW HB HK HXr c2 c3 c4 c5 c6
      go_wp2
      exact ⟨⟨3, by omega, rfl, O4, B4, K4, X4⟩, by simp [intOf]⟩
    · have hix := fun W => ix_3 W b
      go_wp2_with fail
      clear hix
      refine (implNumber_any wr base _ _ z3 4 HW.out (by omega) (HL.out _) (by omega)).mono ?_
      rintro e w4 ⟨v4, rfl, o4, b4, k4⟩
      have O4 : Hid (Own .u8 5 w4 base v4 (ys ++ stK z0 z1 z2 z3 z4 4)) := by rw [List.append_assoc, stK_3] at o4; exact o4
      have B4 : Hid (Below base w w4) := HB.out.trans b4
      have K4 : Hid (KT 5 w w4) := HK.out.trans k4
      have X4 : Hid (BxN w4 b n) := HXr.out.keep k4
      clear o4 b4 k4 HW HB HK HXr c2 c3 c4 c5 c6
      go_wp2
      exact ⟨⟨4, by omega, rfl, O4, B4, K4, X4⟩, by simp [intOf]⟩
    · have hix := fun W => ix_4 W b
      go_wp2_with fail
      clear hix
      refine (implNumber_any wr base _ _ z4 4 HW.out (by omega) (HL.out _) (by omega)).mono ?_
      rintro e w4 ⟨v4, rfl, o4, b4, k4⟩
      have O4 : Hid (Own .u8 5 w4 base v4 (ys ++ stK z0 z1 z2 z3 z4 5)) := by rw [List.append_assoc, stK_4] at o4; exact o4
      have B4 : Hid (Below base w w4) := HB.out.trans b4
      have K4 : Hid (KT 5 w w4) := HK.out.trans k4
      have X4 : Hid (BxN w4 b n) := HXr.out.keep k4
      clear o4 b4 k4 HW HB HK HXr c2 c3 c4 c5 c6
      go_wp2
      exact ⟨⟨5, by omega, rfl, O4, B4, K4, X4⟩, by simp [intOf]⟩
    · clear c2 c3 c4 c5 c6
      go_wp2
      go_ret
      exact ⟨_, rfl, (by rw [HYS.out]; exact HW.out), HB.out, HK.out⟩

end Go.Proofs.YtcopcegamadkgaaDoor

namespace Go.Proofs.YtcopcegamadkgaaDoor
open Go.RowKit

theorem grown_of {w w' : World} (h : Below w.heap.size w w') (row : Option Nat) : w.grownBy w' row := ⟨h.os, h.tape, h.output, h.size, fun k hk _ => h.block k hk⟩
theorem grown_alloc (w : World) (o : Obj) (row : Option Nat) : w.grownBy (w.alloc o) row := grown_of ((Below.refl _ _).alloc (Nat.le_refl _) o) row
theorem grown_new {w W : World} {row : Option Nat} {B : Nat} (h : w.grownBy W row) (hB : w.heap.size ≤ B) (i : Nat) (u : Value) : w.grownBy (W.setCell ⟨B, i, none⟩ u) row :=
  ⟨h.os, h.tape, h.output, by simpa using h.size, fun k hk hne => by
    rw [← h.block k hk hne]
    exact Below.heap_setCell _ _ _ _ (by show k ≠ B; omega)⟩
/-- A local node that may be written. -/
def NB (W : World) (B : Nat) (n : Nd) : Prop := BoxN W B n ∧ ∀ j, W.frozen? ⟨B, j, none⟩ = false
theorem NB.turn {W W' : World} {B : Nat} {n : Nd} {row : Option Nat} (h : NB W B n) (hg : W.grownBy W' row) (hne : some B ≠ row) : NB W' B n := by
  have hb := hg.block B h.1.lt hne
  have e : ∀ q, W'.cell? ⟨B, q, none⟩ = W.cell? ⟨B, q, none⟩ := fun q => World.cell?_of_block (a := ⟨B, q, none⟩) hb
  refine ⟨⟨Nat.lt_of_lt_of_le h.1.lt hg.size, (e _).trans h.1.c0, (e _).trans h.1.c1, (e _).trans h.1.c2, (e _).trans h.1.c3, (e _).trans h.1.c4, (e _).trans h.1.c5, (e _).trans h.1.c6⟩, fun j => ?_⟩
  rw [World.frozen?_of_block (a := ⟨B, j, none⟩) hb]; exact h.2 j
theorem NB.other {W : World} {B B' : Nat} {n : Nd} (h : NB W B n) (hne : B ≠ B') (i : Nat) (u : Value) : NB (W.setCell ⟨B', i, none⟩ u) B n := by
  have e : ∀ q, (W.setCell ⟨B', i, none⟩ u).cell? ⟨B, q, none⟩ = W.cell? ⟨B, q, none⟩ := fun q => World.cell?_setCell_other _ _ _ _ (by intro e; injection e with e; omega)
  refine ⟨⟨by simpa using h.1.lt, (e _).trans h.1.c0, (e _).trans h.1.c1, (e _).trans h.1.c2, (e _).trans h.1.c3, (e _).trans h.1.c4, (e _).trans h.1.c5, (e _).trans h.1.c6⟩, fun j => ?_⟩
  rw [World.frozen?_setCell]; exact h.2 j
theorem NB.put0 {W : World} {B : Nat} {n : Nd} (h : NB W B n) (s : ByteArray) : NB (W.setCell ⟨B, 0, none⟩ (Value.string s)) B { n with path := s } := by
  have e : ∀ q, q ≠ 0 → (W.setCell ⟨B, 0, none⟩ (Value.string s)).cell? ⟨B, q, none⟩ = W.cell? ⟨B, q, none⟩ := fun q hq => World.cell?_setCell_other _ _ _ _ (by intro e; injection e with _ e; omega)
  refine ⟨⟨by simpa using h.1.lt, World.cell?_setCell_same _ _ _ h.1.c0, (e 1 (by omega)).trans h.1.c1, (e 2 (by omega)).trans h.1.c2, (e 3 (by omega)).trans h.1.c3, (e 4 (by omega)).trans h.1.c4, (e 5 (by omega)).trans h.1.c5, (e 6 (by omega)).trans h.1.c6⟩, fun j => ?_⟩
  rw [World.frozen?_setCell]; exact h.2 j
theorem NB.put1 {W : World} {B : Nat} {n : Nd} (h : NB W B n) (s : ByteArray) : NB (W.setCell ⟨B, 1, none⟩ (Value.string s)) B { n with data := s } := by
  have e : ∀ q, q ≠ 1 → (W.setCell ⟨B, 1, none⟩ (Value.string s)).cell? ⟨B, q, none⟩ = W.cell? ⟨B, q, none⟩ := fun q hq => World.cell?_setCell_other _ _ _ _ (by intro e; injection e with _ e; omega)
  refine ⟨⟨by simpa using h.1.lt, (e 0 (by omega)).trans h.1.c0, World.cell?_setCell_same _ _ _ h.1.c1, (e 2 (by omega)).trans h.1.c2, (e 3 (by omega)).trans h.1.c3, (e 4 (by omega)).trans h.1.c4, (e 5 (by omega)).trans h.1.c5, (e 6 (by omega)).trans h.1.c6⟩, fun j => ?_⟩
  rw [World.frozen?_setCell]; exact h.2 j
theorem NB.put2 {W : World} {B : Nat} {n : Nd} (h : NB W B n) (s : Int) : NB (W.setCell ⟨B, 2, none⟩ (Value.int .i64 s)) B { n with ver := s } := by
  have e : ∀ q, q ≠ 2 → (W.setCell ⟨B, 2, none⟩ (Value.int .i64 s)).cell? ⟨B, q, none⟩ = W.cell? ⟨B, q, none⟩ := fun q hq => World.cell?_setCell_other _ _ _ _ (by intro e; injection e with _ e; omega)
  refine ⟨⟨by simpa using h.1.lt, (e 0 (by omega)).trans h.1.c0, (e 1 (by omega)).trans h.1.c1, World.cell?_setCell_same _ _ _ h.1.c2, (e 3 (by omega)).trans h.1.c3, (e 4 (by omega)).trans h.1.c4, (e 5 (by omega)).trans h.1.c5, (e 6 (by omega)).trans h.1.c6⟩, fun j => ?_⟩
  rw [World.frozen?_setCell]; exact h.2 j
theorem NB.put3 {W : World} {B : Nat} {n : Nd} (h : NB W B n) (s : Int) : NB (W.setCell ⟨B, 3, none⟩ (Value.int .i64 s)) B { n with cver := s } := by
  have e : ∀ q, q ≠ 3 → (W.setCell ⟨B, 3, none⟩ (Value.int .i64 s)).cell? ⟨B, q, none⟩ = W.cell? ⟨B, q, none⟩ := fun q hq => World.cell?_setCell_other _ _ _ _ (by intro e; injection e with _ e; omega)
  refine ⟨⟨by simpa using h.1.lt, (e 0 (by omega)).trans h.1.c0, (e 1 (by omega)).trans h.1.c1, (e 2 (by omega)).trans h.1.c2, World.cell?_setCell_same _ _ _ h.1.c3, (e 4 (by omega)).trans h.1.c4, (e 5 (by omega)).trans h.1.c5, (e 6 (by omega)).trans h.1.c6⟩, fun j => ?_⟩
  rw [World.frozen?_setCell]; exact h.2 j
theorem NB.put4 {W : World} {B : Nat} {n : Nd} (h : NB W B n) (s : Int) : NB (W.setCell ⟨B, 4, none⟩ (Value.int .i64 s)) B { n with cz := s } := by
  have e : ∀ q, q ≠ 4 → (W.setCell ⟨B, 4, none⟩ (Value.int .i64 s)).cell? ⟨B, q, none⟩ = W.cell? ⟨B, q, none⟩ := fun q hq => World.cell?_setCell_other _ _ _ _ (by intro e; injection e with _ e; omega)
  refine ⟨⟨by simpa using h.1.lt, (e 0 (by omega)).trans h.1.c0, (e 1 (by omega)).trans h.1.c1, (e 2 (by omega)).trans h.1.c2, (e 3 (by omega)).trans h.1.c3, World.cell?_setCell_same _ _ _ h.1.c4, (e 5 (by omega)).trans h.1.c5, (e 6 (by omega)).trans h.1.c6⟩, fun j => ?_⟩
  rw [World.frozen?_setCell]; exact h.2 j
theorem NB.put5 {W : World} {B : Nat} {n : Nd} (h : NB W B n) (s : Int) : NB (W.setCell ⟨B, 5, none⟩ (Value.int .i64 s)) B { n with mz := s } := by
  have e : ∀ q, q ≠ 5 → (W.setCell ⟨B, 5, none⟩ (Value.int .i64 s)).cell? ⟨B, q, none⟩ = W.cell? ⟨B, q, none⟩ := fun q hq => World.cell?_setCell_other _ _ _ _ (by intro e; injection e with _ e; omega)
  refine ⟨⟨by simpa using h.1.lt, (e 0 (by omega)).trans h.1.c0, (e 1 (by omega)).trans h.1.c1, (e 2 (by omega)).trans h.1.c2, (e 3 (by omega)).trans h.1.c3, (e 4 (by omega)).trans h.1.c4, World.cell?_setCell_same _ _ _ h.1.c5, (e 6 (by omega)).trans h.1.c6⟩, fun j => ?_⟩
  rw [World.frozen?_setCell]; exact h.2 j
theorem NB.put6 {W : World} {B : Nat} {n : Nd} (h : NB W B n) (s : Int) : NB (W.setCell ⟨B, 6, none⟩ (Value.int .i64 s)) B { n with pz := s } := by
  have e : ∀ q, q ≠ 6 → (W.setCell ⟨B, 6, none⟩ (Value.int .i64 s)).cell? ⟨B, q, none⟩ = W.cell? ⟨B, q, none⟩ := fun q hq => World.cell?_setCell_other _ _ _ _ (by intro e; injection e with _ e; omega)
  refine ⟨⟨by simpa using h.1.lt, (e 0 (by omega)).trans h.1.c0, (e 1 (by omega)).trans h.1.c1, (e 2 (by omega)).trans h.1.c2, (e 3 (by omega)).trans h.1.c3, (e 4 (by omega)).trans h.1.c4, (e 5 (by omega)).trans h.1.c5, World.cell?_setCell_same _ _ _ h.1.c6⟩, fun j => ?_⟩
  rw [World.frozen?_setCell]; exact h.2 j
theorem NB.new (w : World) (n : Nd) (t : TypeId) : NB (w.alloc (.cells #[.string n.path, .string n.data, .int .i64 n.ver, .int .i64 n.cver, .int .i64 n.cz, .int .i64 n.mz, .int .i64 n.pz] t)) w.heap.size n := ⟨BoxN.new w n t, fun j => (by go_simp)⟩
theorem RS.new {w0 w w' : World} {k : Nat} {ys : List Int} (h : RS w0 w k ys) (hb : Below w.heap.size w w') : RS w0 w' k ys := h.keep hb h.2.1
theorem RS.setOther {w0 w : World} {k B : Nat} {ys : List Int} (h : RS w0 w k ys) (hB : k ≠ B) (h0 : w0.heap.size ≤ B) (i : Nat) (u : Value) : RS w0 (w.setCell ⟨B, i, none⟩ u) k ys := by
  obtain ⟨h1, h2, h3, h4, v, h5, h6⟩ := h
  refine ⟨h1, by simpa using h2, by rw [World.frozen?_setCell]; exact h3, h4.setCell h0 _, v, ?_, h6⟩
  rw [World.cell?_setCell_other _ _ _ _ (by intro e; injection e with e; omega)]; exact h5
theorem wrap4 {ys : List Int} (h : Byt ys) : wrap64 ((numB (ys.take 4) : Nat) : Int) = ((numB (ys.take 4) : Nat) : Int) := by
  have hb := (bigR_numB (ys.take 4).length (ys.take 4) rfl (fun x hx => h x (List.mem_of_mem_take hx))).2
  have h1 : 256 ^ (ys.take 4).length ≤ 256 ^ 4 := Nat.pow_le_pow_right (by omega) (by rw [List.length_take]; omega)
  have h2 : numB (ys.take 4) < 4294967296 := Nat.lt_of_lt_of_le hb h1
  unfold wrap64
  omega
def ndV (n : Nd) : Value := .agg #[.string n.path, .string n.data, .int .i64 n.ver, .int .i64 n.cver, .int .i64 n.cz, .int .i64 n.mz, .int .i64 n.pz]
def ndK (p d : ByteArray) (a : Nat → Int) (k : Nat) : Nd := ⟨p, d, if 0 < k then a 0 else 0, if 1 < k then a 1 else 0, if 2 < k then a 2 else 0, if 3 < k then a 3 else 0, if 4 < k then a 4 else 0⟩
def NdPost (w0 w : World) (k : Nat) (ys : List Int) (e : Ending) (w' : World) : Prop :=
  w.grownBy w' (some k) ∧ ((rdNd ys = none ∧ e = .panicked badChain) ∨ ∃ n r, rdNd ys = some (n, r) ∧ e = .returned (ndV n) ∧ RS w0 w' k r)

set_option maxHeartbeats 2000000 in
set_option maxRecDepth 100000 in
theorem nodeImage_any (w0 w : World) (k : Nat) (ys : List Int) (h : RS w0 w k ys) (hby : Byt ys) :
    Calls Tryd.prog 60 #[.pointer (some ⟨k, 0, none⟩)] w fun e w' => NdPost w0 w k ys e w' := by
  have hk := h.2.1
  have hk0 := h.1
  have HBY : Hid (Byt ys) := hby
  have HS : Hid (RS w0 w k ys) := h
  clear h hby
  have A1 : Hid (RS w0 ((w.alloc (.cells #[.string ⟨#[]⟩, .string ⟨#[]⟩, .int .i64 0, .int .i64 0, .int .i64 0, .int .i64 0, .int .i64 0] 86)).alloc (.cells #[.string ⟨#[]⟩, .string ⟨#[]⟩, .int .i64 0, .int .i64 0, .int .i64 0, .int .i64 0, .int .i64 0] 86)) k ys) := (HS.out.new ((Below.refl _ _).alloc (Nat.le_refl _) _)).new ((Below.refl _ _).alloc (Nat.le_refl _) _)
  have N2 : Hid (NB ((w.alloc (.cells #[.string ⟨#[]⟩, .string ⟨#[]⟩, .int .i64 0, .int .i64 0, .int .i64 0, .int .i64 0, .int .i64 0] 86)).alloc (.cells #[.string ⟨#[]⟩, .string ⟨#[]⟩, .int .i64 0, .int .i64 0, .int .i64 0, .int .i64 0, .int .i64 0] 86)) w.heap.size nd0) := (NB.new w nd0 _).turn (grown_alloc _ _ none) (by simp)
  have N3 : Hid (NB ((w.alloc (.cells #[.string ⟨#[]⟩, .string ⟨#[]⟩, .int .i64 0, .int .i64 0, .int .i64 0, .int .i64 0, .int .i64 0] 86)).alloc (.cells #[.string ⟨#[]⟩, .string ⟨#[]⟩, .int .i64 0, .int .i64 0, .int .i64 0, .int .i64 0, .int .i64 0] 86)) (w.heap.size + 1) nd0) := by
    have := NB.new (w.alloc (.cells #[.string ⟨#[]⟩, .string ⟨#[]⟩, .int .i64 0, .int .i64 0, .int .i64 0, .int .i64 0, .int .i64 0] 86)) nd0 86
    rw [show (w.alloc (.cells #[.string ⟨#[]⟩, .string ⟨#[]⟩, .int .i64 0, .int .i64 0, .int .i64 0, .int .i64 0, .int .i64 0] 86)).heap.size = w.heap.size + 1 by simp] at this
    exact this
  have G1 : Hid (w.grownBy ((w.alloc (.cells #[.string ⟨#[]⟩, .string ⟨#[]⟩, .int .i64 0, .int .i64 0, .int .i64 0, .int .i64 0, .int .i64 0] 86)).alloc (.cells #[.string ⟨#[]⟩, .string ⟨#[]⟩, .int .i64 0, .int .i64 0, .int .i64 0, .int .i64 0, .int .i64 0] 86)) (some k)) := (grown_alloc _ _ _).trans (grown_alloc _ _ _)
  go_enter Tryd.func60, Tryd.ntmps60
  go_wp2_with fail
  generalize ((w.alloc (.cells #[.string ⟨#[]⟩, .string ⟨#[]⟩, .int .i64 0, .int .i64 0, .int .i64 0, .int .i64 0, .int .i64 0] 86)).alloc (.cells #[.string ⟨#[]⟩, .string ⟨#[]⟩, .int .i64 0, .int .i64 0, .int .i64 0, .int .i64 0, .int .i64 0] 86)) = w1 at *
  refine (text_any w0 w1 k ys A1.out HBY.out).mono ?_
  rintro e w2 ⟨g2, hp⟩
  rcases hp with ⟨hp, rfl⟩ | ⟨p, r1, hp, rfl, hr2⟩
  · exact ⟨rfl, G1.out.trans g2, .inl ⟨by unfold rdNd; rw [hp], rfl⟩⟩
  have HP1 : Hid (rdT ys = some (p, r1)) := hp
  have HB1 : Hid (Byt r1) := (rdT_byt hp HBY.out).1
  have G2 : Hid (w.grownBy w2 (some k)) := G1.out.trans g2
  have N22 : Hid (NB w2 w.heap.size nd0) := N2.out.turn g2 (by simp; omega)
  have N32 : Hid (NB w2 (w.heap.size + 1) nd0) := N3.out.turn g2 (by simp; omega)
  have R2 : Hid (RS w0 w2 k r1) := hr2
  clear hp g2 hr2 N2 N3 A1 G1
  have d0 := N32.out.1.c0
  have f0 := N32.out.2 0
  have N33 : Hid (NB (w2.setCell ⟨w.heap.size + 1, 0, none⟩ (.string p)) (w.heap.size + 1) { nd0 with path := p }) := N32.out.put0 p
  have N23 : Hid (NB (w2.setCell ⟨w.heap.size + 1, 0, none⟩ (.string p)) w.heap.size nd0) := N22.out.other (by omega) _ _
  have R3 : Hid (RS w0 (w2.setCell ⟨w.heap.size + 1, 0, none⟩ (.string p)) k r1) := R2.out.setOther (by omega) (by omega) _ _
  have G3 : Hid (w.grownBy (w2.setCell ⟨w.heap.size + 1, 0, none⟩ (.string p)) (some k)) := grown_new G2.out (by omega) _ _
  go_wp2_with fail
  clear d0 f0 N32 N22 R2 G2
  generalize w2.setCell ⟨w.heap.size + 1, 0, none⟩ (.string p) = w3 at *
  refine (text_any w0 w3 k r1 R3.out HB1.out).mono ?_
  rintro e w4 ⟨g4, hp⟩
  rcases hp with ⟨hp, rfl⟩ | ⟨d, r2, hp, rfl, hr4⟩
  · refine ⟨rfl, G3.out.trans g4, .inl ⟨?_, rfl⟩⟩
    unfold rdNd; rw [HP1.out]; simp only; rw [hp]
  have HP2 : Hid (rdT r1 = some (d, r2)) := hp
  have HB2 : Hid (Byt r2) := (rdT_byt hp HB1.out).1
  have G4 : Hid (w.grownBy w4 (some k)) := G3.out.trans g4
  have N24 : Hid (NB w4 w.heap.size nd0) := N23.out.turn g4 (by simp; omega)
  have N34 : Hid (NB w4 (w.heap.size + 1) { nd0 with path := p }) := N33.out.turn g4 (by simp; omega)
  have R4 : Hid (RS w0 w4 k r2) := hr4
  clear hp g4 hr4 N23 N33 R3 G3
  have d1 := N34.out.1.c1
  have f1 := N34.out.2 1
  have N35 : Hid (NB (w4.setCell ⟨w.heap.size + 1, 1, none⟩ (.string d)) (w.heap.size + 1) (ndK p d (num4 r2) 0)) := N34.out.put1 d
  have N25 : Hid (NB (w4.setCell ⟨w.heap.size + 1, 1, none⟩ (.string d)) w.heap.size nd0) := N24.out.other (by omega) _ _
  have R5 : Hid (RS w0 (w4.setCell ⟨w.heap.size + 1, 1, none⟩ (.string d)) k r2) := R4.out.setOther (by omega) (by omega) _ _
  have G5 : Hid (w.grownBy (w4.setCell ⟨w.heap.size + 1, 1, none⟩ (.string d)) (some k)) := grown_new G4.out (by omega) _ _
  go_wp2_with fail
  clear d1 f1 N34 N24 R4 G4
  generalize w4.setCell ⟨w.heap.size + 1, 1, none⟩ (.string d) = w5 at *
  refine (stats_any w5 (w.heap.size + 1) 0).mono ?_
  rintro e w6 ⟨rfl, b6⟩
  have G6 : Hid (w.grownBy w6 (some k)) := G5.out.trans (grown_of b6 _)
  have N26 : Hid (NB w6 w.heap.size nd0) := N25.out.turn (grown_of b6 none) (by simp)
  have N36 : Hid (NB w6 (w.heap.size + 1) (ndK p d (num4 r2) 0)) := N35.out.turn (grown_of b6 none) (by simp)
  have R6 : Hid (RS w0 w6 k (r2.drop (4 * 0))) := by show RS _ _ _ _; rw [Nat.mul_zero, List.drop_zero]; exact R5.out.new b6
  clear b6 N25 N35 R5 G5
  unfold stP
  go_wp2
  go_loopw [15] (fun vi wr => ∃ i : Nat, i ≤ 5 ∧ vi = .int .i64 i ∧ Hid (4 * i ≤ r2.length) ∧ Hid (w.grownBy wr (some k)) ∧ Hid (NB wr w.heap.size nd0) ∧ Hid (NB wr (w.heap.size + 1) (ndK p d (num4 r2) i)) ∧ Hid (RS w0 wr k (r2.drop (4 * i)))) (fun i _ => 5 - (intOf i).toNat)
  case atStart => exact ⟨0, by omega, rfl, Nat.zero_le _, G6, N26, N36, R6⟩
  case round =>
    obtain ⟨i, hi, rfl, HL, HG, HN2, HN3, HR⟩ := hrel
    have hl := HL.out
    rcases (show i = 0 ∨ i = 1 ∨ i = 2 ∨ i = 3 ∨ i = 4 ∨ i = 5 by omega) with rfl | rfl | rfl | rfl | rfl | rfl
    · have hix := fun W => ix_0 W (w.heap.size + 1)
      go_wp2_with fail
      clear hix
      by_cases hlt : 4 ≤ r2.length
      rotate_left
      · refine (number_none w0 wr k 4 _ HR.out (by rw [List.length_drop]; omega)).mono ?_
        rintro e w7 ⟨rfl, rfl⟩
        refine ⟨rfl, HG.out, .inl ⟨?_, rfl⟩⟩
        unfold rdNd; rw [HP1.out]; simp only; rw [HP2.out]; simp only; rw [if_neg (by omega)]
      refine (number_any w0 wr k 4 _ HR.out (by rw [List.length_drop]; omega) (by omega) (by omega) (byt_drop HB2.out _)).mono ?_
      rintro e w7 ⟨rfl, r7, v7, q7, rfl⟩
      rw [wrap4 (byt_drop HB2.out _)]
      have g7 : wr.grownBy ((wr.setCell ⟨k, 0, none⟩ v7).drewN q7) (some k) := (grownBy_set _ _ _ _ _ (World.grownBy.refl _ _)).trans (grown_of (below_drewN' _ q7) _)
      have HG7 : Hid (w.grownBy ((wr.setCell ⟨k, 0, none⟩ v7).drewN q7) (some k)) := HG.out.trans g7
      have N27 : Hid (NB ((wr.setCell ⟨k, 0, none⟩ v7).drewN q7) w.heap.size nd0) := HN2.out.turn g7 (by simp; omega)
      have N37 : Hid (NB ((wr.setCell ⟨k, 0, none⟩ v7).drewN q7) (w.heap.size + 1) (ndK p d (num4 r2) 0)) := HN3.out.turn g7 (by simp; omega)
      have R7 : Hid (RS w0 ((wr.setCell ⟨k, 0, none⟩ v7).drewN q7) k (r2.drop (4 * 1))) := by rw [List.drop_drop] at r7; exact r7
      clear r7 g7 HG HN2 HN3 HR HL
      generalize (wr.setCell ⟨k, 0, none⟩ v7).drewN q7 = w7 at *
      have d0 := N37.out.1.c2
      have f0 := N37.out.2 2
      have N38 : Hid (NB (w7.setCell ⟨w.heap.size + 1, 2, none⟩ (.int .i64 (num4 r2 0))) (w.heap.size + 1) (ndK p d (num4 r2) 1)) := N37.out.put2 (num4 r2 0)
      have N28 : Hid (NB (w7.setCell ⟨w.heap.size + 1, 2, none⟩ (.int .i64 (num4 r2 0))) w.heap.size nd0) := N27.out.other (by omega) _ _
      have R8 : Hid (RS w0 (w7.setCell ⟨w.heap.size + 1, 2, none⟩ (.int .i64 (num4 r2 0))) k (r2.drop (4 * 1))) := R7.out.setOther (by omega) (by omega) _ _
      have G8 : Hid (w.grownBy (w7.setCell ⟨w.heap.size + 1, 2, none⟩ (.int .i64 (num4 r2 0))) (some k)) := grown_new HG7.out (by omega) _ _
      go_wp2
      exact ⟨⟨1, by omega, rfl, by show 4 * 1 ≤ _; omega, G8, N28, N38, R8⟩, by simp [intOf]⟩
    · have hix := fun W => ix_1 W (w.heap.size + 1)
      go_wp2_with fail
      clear hix
      by_cases hlt : 8 ≤ r2.length
      rotate_left
      · refine (number_none w0 wr k 4 _ HR.out (by rw [List.length_drop]; omega)).mono ?_
        rintro e w7 ⟨rfl, rfl⟩
        refine ⟨rfl, HG.out, .inl ⟨?_, rfl⟩⟩
        unfold rdNd; rw [HP1.out]; simp only; rw [HP2.out]; simp only; rw [if_neg (by omega)]
      refine (number_any w0 wr k 4 _ HR.out (by rw [List.length_drop]; omega) (by omega) (by omega) (byt_drop HB2.out _)).mono ?_
      rintro e w7 ⟨rfl, r7, v7, q7, rfl⟩
      rw [wrap4 (byt_drop HB2.out _)]
      have g7 : wr.grownBy ((wr.setCell ⟨k, 0, none⟩ v7).drewN q7) (some k) := (grownBy_set _ _ _ _ _ (World.grownBy.refl _ _)).trans (grown_of (below_drewN' _ q7) _)
      have HG7 : Hid (w.grownBy ((wr.setCell ⟨k, 0, none⟩ v7).drewN q7) (some k)) := HG.out.trans g7
      have N27 : Hid (NB ((wr.setCell ⟨k, 0, none⟩ v7).drewN q7) w.heap.size nd0) := HN2.out.turn g7 (by simp; omega)
      have N37 : Hid (NB ((wr.setCell ⟨k, 0, none⟩ v7).drewN q7) (w.heap.size + 1) (ndK p d (num4 r2) 1)) := HN3.out.turn g7 (by simp; omega)
      have R7 : Hid (RS w0 ((wr.setCell ⟨k, 0, none⟩ v7).drewN q7) k (r2.drop (4 * 2))) := by rw [List.drop_drop] at r7; exact r7
      clear r7 g7 HG HN2 HN3 HR HL
      generalize (wr.setCell ⟨k, 0, none⟩ v7).drewN q7 = w7 at *
      have d0 := N37.out.1.c3
      have f0 := N37.out.2 3
      have N38 : Hid (NB (w7.setCell ⟨w.heap.size + 1, 3, none⟩ (.int .i64 (num4 r2 1))) (w.heap.size + 1) (ndK p d (num4 r2) 2)) := N37.out.put3 (num4 r2 1)
      have N28 : Hid (NB (w7.setCell ⟨w.heap.size + 1, 3, none⟩ (.int .i64 (num4 r2 1))) w.heap.size nd0) := N27.out.other (by omega) _ _
      have R8 : Hid (RS w0 (w7.setCell ⟨w.heap.size + 1, 3, none⟩ (.int .i64 (num4 r2 1))) k (r2.drop (4 * 2))) := R7.out.setOther (by omega) (by omega) _ _
      have G8 : Hid (w.grownBy (w7.setCell ⟨w.heap.size + 1, 3, none⟩ (.int .i64 (num4 r2 1))) (some k)) := grown_new HG7.out (by omega) _ _
      go_wp2
      exact ⟨⟨2, by omega, rfl, by show 4 * 2 ≤ _; omega, G8, N28, N38, R8⟩, by simp [intOf]⟩
    · have hix := fun W => ix_2 W (w.heap.size + 1)
      go_wp2_with fail
      clear hix
      by_cases hlt : 12 ≤ r2.length
      rotate_left
      · refine (number_none w0 wr k 4 _ HR.out (by rw [List.length_drop]; omega)).mono ?_
        rintro e w7 ⟨rfl, rfl⟩
        refine ⟨rfl, HG.out, .inl ⟨?_, rfl⟩⟩
        unfold rdNd; rw [HP1.out]; simp only; rw [HP2.out]; simp only; rw [if_neg (by omega)]
      refine (number_any w0 wr k 4 _ HR.out (by rw [List.length_drop]; omega) (by omega) (by omega) (byt_drop HB2.out _)).mono ?_
      rintro e w7 ⟨rfl, r7, v7, q7, rfl⟩
      rw [wrap4 (byt_drop HB2.out _)]
      have g7 : wr.grownBy ((wr.setCell ⟨k, 0, none⟩ v7).drewN q7) (some k) := (grownBy_set _ _ _ _ _ (World.grownBy.refl _ _)).trans (grown_of (below_drewN' _ q7) _)
      have HG7 : Hid (w.grownBy ((wr.setCell ⟨k, 0, none⟩ v7).drewN q7) (some k)) := HG.out.trans g7
      have N27 : Hid (NB ((wr.setCell ⟨k, 0, none⟩ v7).drewN q7) w.heap.size nd0) := HN2.out.turn g7 (by simp; omega)
      have N37 : Hid (NB ((wr.setCell ⟨k, 0, none⟩ v7).drewN q7) (w.heap.size + 1) (ndK p d (num4 r2) 2)) := HN3.out.turn g7 (by simp; omega)
      have R7 : Hid (RS w0 ((wr.setCell ⟨k, 0, none⟩ v7).drewN q7) k (r2.drop (4 * 3))) := by rw [List.drop_drop] at r7; exact r7
      clear r7 g7 HG HN2 HN3 HR HL
      generalize (wr.setCell ⟨k, 0, none⟩ v7).drewN q7 = w7 at *
      have d0 := N37.out.1.c4
      have f0 := N37.out.2 4
      have N38 : Hid (NB (w7.setCell ⟨w.heap.size + 1, 4, none⟩ (.int .i64 (num4 r2 2))) (w.heap.size + 1) (ndK p d (num4 r2) 3)) := N37.out.put4 (num4 r2 2)
      have N28 : Hid (NB (w7.setCell ⟨w.heap.size + 1, 4, none⟩ (.int .i64 (num4 r2 2))) w.heap.size nd0) := N27.out.other (by omega) _ _
      have R8 : Hid (RS w0 (w7.setCell ⟨w.heap.size + 1, 4, none⟩ (.int .i64 (num4 r2 2))) k (r2.drop (4 * 3))) := R7.out.setOther (by omega) (by omega) _ _
      have G8 : Hid (w.grownBy (w7.setCell ⟨w.heap.size + 1, 4, none⟩ (.int .i64 (num4 r2 2))) (some k)) := grown_new HG7.out (by omega) _ _
      go_wp2
      exact ⟨⟨3, by omega, rfl, by show 4 * 3 ≤ _; omega, G8, N28, N38, R8⟩, by simp [intOf]⟩
    · have hix := fun W => ix_3 W (w.heap.size + 1)
      go_wp2_with fail
      clear hix
      by_cases hlt : 16 ≤ r2.length
      rotate_left
      · refine (number_none w0 wr k 4 _ HR.out (by rw [List.length_drop]; omega)).mono ?_
        rintro e w7 ⟨rfl, rfl⟩
        refine ⟨rfl, HG.out, .inl ⟨?_, rfl⟩⟩
        unfold rdNd; rw [HP1.out]; simp only; rw [HP2.out]; simp only; rw [if_neg (by omega)]
      refine (number_any w0 wr k 4 _ HR.out (by rw [List.length_drop]; omega) (by omega) (by omega) (byt_drop HB2.out _)).mono ?_
      rintro e w7 ⟨rfl, r7, v7, q7, rfl⟩
      rw [wrap4 (byt_drop HB2.out _)]
      have g7 : wr.grownBy ((wr.setCell ⟨k, 0, none⟩ v7).drewN q7) (some k) := (grownBy_set _ _ _ _ _ (World.grownBy.refl _ _)).trans (grown_of (below_drewN' _ q7) _)
      have HG7 : Hid (w.grownBy ((wr.setCell ⟨k, 0, none⟩ v7).drewN q7) (some k)) := HG.out.trans g7
      have N27 : Hid (NB ((wr.setCell ⟨k, 0, none⟩ v7).drewN q7) w.heap.size nd0) := HN2.out.turn g7 (by simp; omega)
      have N37 : Hid (NB ((wr.setCell ⟨k, 0, none⟩ v7).drewN q7) (w.heap.size + 1) (ndK p d (num4 r2) 3)) := HN3.out.turn g7 (by simp; omega)
      have R7 : Hid (RS w0 ((wr.setCell ⟨k, 0, none⟩ v7).drewN q7) k (r2.drop (4 * 4))) := by rw [List.drop_drop] at r7; exact r7
      clear r7 g7 HG HN2 HN3 HR HL
      generalize (wr.setCell ⟨k, 0, none⟩ v7).drewN q7 = w7 at *
      have d0 := N37.out.1.c5
      have f0 := N37.out.2 5
      have N38 : Hid (NB (w7.setCell ⟨w.heap.size + 1, 5, none⟩ (.int .i64 (num4 r2 3))) (w.heap.size + 1) (ndK p d (num4 r2) 4)) := N37.out.put5 (num4 r2 3)
      have N28 : Hid (NB (w7.setCell ⟨w.heap.size + 1, 5, none⟩ (.int .i64 (num4 r2 3))) w.heap.size nd0) := N27.out.other (by omega) _ _
      have R8 : Hid (RS w0 (w7.setCell ⟨w.heap.size + 1, 5, none⟩ (.int .i64 (num4 r2 3))) k (r2.drop (4 * 4))) := R7.out.setOther (by omega) (by omega) _ _
      have G8 : Hid (w.grownBy (w7.setCell ⟨w.heap.size + 1, 5, none⟩ (.int .i64 (num4 r2 3))) (some k)) := grown_new HG7.out (by omega) _ _
      go_wp2
      exact ⟨⟨4, by omega, rfl, by show 4 * 4 ≤ _; omega, G8, N28, N38, R8⟩, by simp [intOf]⟩
    · have hix := fun W => ix_4 W (w.heap.size + 1)
      go_wp2_with fail
      clear hix
      by_cases hlt : 20 ≤ r2.length
      rotate_left
      · refine (number_none w0 wr k 4 _ HR.out (by rw [List.length_drop]; omega)).mono ?_
        rintro e w7 ⟨rfl, rfl⟩
        refine ⟨rfl, HG.out, .inl ⟨?_, rfl⟩⟩
        unfold rdNd; rw [HP1.out]; simp only; rw [HP2.out]; simp only; rw [if_neg (by omega)]
      refine (number_any w0 wr k 4 _ HR.out (by rw [List.length_drop]; omega) (by omega) (by omega) (byt_drop HB2.out _)).mono ?_
      rintro e w7 ⟨rfl, r7, v7, q7, rfl⟩
      rw [wrap4 (byt_drop HB2.out _)]
      have g7 : wr.grownBy ((wr.setCell ⟨k, 0, none⟩ v7).drewN q7) (some k) := (grownBy_set _ _ _ _ _ (World.grownBy.refl _ _)).trans (grown_of (below_drewN' _ q7) _)
      have HG7 : Hid (w.grownBy ((wr.setCell ⟨k, 0, none⟩ v7).drewN q7) (some k)) := HG.out.trans g7
      have N27 : Hid (NB ((wr.setCell ⟨k, 0, none⟩ v7).drewN q7) w.heap.size nd0) := HN2.out.turn g7 (by simp; omega)
      have N37 : Hid (NB ((wr.setCell ⟨k, 0, none⟩ v7).drewN q7) (w.heap.size + 1) (ndK p d (num4 r2) 4)) := HN3.out.turn g7 (by simp; omega)
      have R7 : Hid (RS w0 ((wr.setCell ⟨k, 0, none⟩ v7).drewN q7) k (r2.drop (4 * 5))) := by rw [List.drop_drop] at r7; exact r7
      clear r7 g7 HG HN2 HN3 HR HL
      generalize (wr.setCell ⟨k, 0, none⟩ v7).drewN q7 = w7 at *
      have d0 := N37.out.1.c6
      have f0 := N37.out.2 6
      have N38 : Hid (NB (w7.setCell ⟨w.heap.size + 1, 6, none⟩ (.int .i64 (num4 r2 4))) (w.heap.size + 1) (ndK p d (num4 r2) 5)) := N37.out.put6 (num4 r2 4)
      have N28 : Hid (NB (w7.setCell ⟨w.heap.size + 1, 6, none⟩ (.int .i64 (num4 r2 4))) w.heap.size nd0) := N27.out.other (by omega) _ _
      have R8 : Hid (RS w0 (w7.setCell ⟨w.heap.size + 1, 6, none⟩ (.int .i64 (num4 r2 4))) k (r2.drop (4 * 5))) := R7.out.setOther (by omega) (by omega) _ _
      have G8 : Hid (w.grownBy (w7.setCell ⟨w.heap.size + 1, 6, none⟩ (.int .i64 (num4 r2 4))) (some k)) := grown_new HG7.out (by omega) _ _
      go_wp2
      exact ⟨⟨5, by omega, rfl, by show 4 * 5 ≤ _; omega, G8, N28, N38, R8⟩, by simp [intOf]⟩
    · obtain ⟨⟨-, y0, y1, y2, y3, y4, y5, y6⟩, -⟩ := HN3.out
      obtain ⟨⟨-, x0, x1, x2, x3, x4, x5, x6⟩, xf⟩ := HN2.out
      have hl20 : 20 ≤ r2.length := by omega
      have HRD : Hid (rdNd ys = some (ndK p d (num4 r2) 5, r2.drop 20)) := by
        show _ = _
        unfold rdNd; rw [HP1.out]; simp only; rw [HP2.out]; simp only; rw [if_pos hl20]
        rfl
      obtain ⟨nn, hnn⟩ : ∃ nn, nn = ndK p d (num4 r2) 5 := ⟨_, rfl⟩
      rw [← hnn] at y0 y1 y2 y3 y4 y5 y6 HRD
      clear hnn
      go_wp2
      refine bodyPost_ret (v := ndV nn) (by simp [results, Tryd.results60, go_sem, ndV, x0, x1, x2, x3, x4, x5, x6]) rfl ⟨?_, .inr ⟨nn, r2.drop 20, HRD.out, rfl, ?_⟩⟩
      · iterate 7 refine grown_new ?_ (Nat.le_refl _) _ _
        exact HG.out
      · iterate 7 refine RS.setOther ?_ (by omega) (by omega) _ _
        exact HR.out

end Go.Proofs.YtcopcegamadkgaaDoor

namespace Go.Proofs.YtcopcegamadkgaaDoor
open Go.RowKit

theorem assert_bad (W : World) (v : Value) : (Instr.typeAssert (.iface 146 v) 20 146 true).run Tryd.prog W = .ok (.tuple #[v, .bool true]) W := by kernel_rfl

set_option maxHeartbeats 400000 in
theorem end_nil (w : World) : Calls Tryd.prog 58 #[.nilIface] w fun e w' => e = .returned (.tuple #[]) ∧ w' = w := by
  go_enter Tryd.func58, Tryd.ntmps58
  go_wp2
  exact bodyPost_ret (results_none rfl _ _ _) rfl ⟨rfl, rfl⟩

set_option maxHeartbeats 400000 in
theorem end_bad (w : World) : Calls Tryd.prog 58 #[.iface 146 (.agg #[])] w fun e w' => e = .returned (.tuple #[]) ∧ Below w.heap.size w w' := by
  have ha : ∀ (W : World) (v : Value), (Instr.typeAssert (.iface 146 v) 20 146 true).run Tryd.prog W = .ok (.tuple #[v, .bool true]) W := fun W v => assert_bad W v
  go_enter Tryd.func58, Tryd.ntmps58
  go_wp2
  go_end0
  exact ⟨rfl, (Below.refl _ _).alloc (Nat.le_refl _) _⟩

theorem catchT_bad (older : List PanicEntry) (w : World) :
    CallsD Tryd.prog 57 #[] (.panicking ({ v := .iface 146 (.agg #[]), recovered := false } :: older)) w fun e u' w' =>
      e = .returned (.tuple #[]) ∧ u' = .panicking ({ v := .iface 146 (.agg #[]), recovered := true } :: older) ∧ Below w.heap.size w w' := by
  refine callsD_of_wpS Tryd.func57 rfl fun c₀ cs hu => ?_
  apply wpS_region
  simp [wpOpsS, go_sem, recoverD, hu, Tryd.ntmps57]
  refine (end_bad w).mono ?_
  rintro e w' ⟨rfl, bw⟩
  simp_all [bodyPostS, results, Tryd.results57]
theorem catchT_idle (w : World) :
    CallsD Tryd.prog 57 #[] .returning w fun e u' w' => e = .returned (.tuple #[]) ∧ u' = .returning ∧ w' = w := by
  refine callsD_of_wpS Tryd.func57 rfl fun c₀ cs hu => ?_
  apply wpS_region
  simp [wpOpsS, go_sem, recoverD, hu, Tryd.ntmps57]
  refine (end_nil w).mono ?_
  rintro e w' ⟨rfl, rfl⟩
  cases c₀
  simp_all [bodyPostS, results, Tryd.results57]

end Go.Proofs.YtcopcegamadkgaaDoor

