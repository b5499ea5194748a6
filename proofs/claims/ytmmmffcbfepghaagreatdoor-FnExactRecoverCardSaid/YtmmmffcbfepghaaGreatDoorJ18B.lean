import Derived.Test.YtmmmffcbfepghaaGreatDoorJ18A
import Derived.Test.YtmmmffcbfepghaaGreatDoorJ17B
set_option maxRecDepth 100000
set_option maxHeartbeats 16000000
set_option linter.unusedVariables false
set_option linter.unusedSimpArgs false
namespace Go.Proofs.YtmmmffcbfepghaaGreatDoor
open Go.RowKit Go.Shelf
variable {yg:Bool} {L S code e limit:Int} {ps q rs:List (Int × List Int)} {Z7 xs:List Int} {ns:List Nd} {B BW M b ca cb dl hi k n sn:Nat} {ao bo:Option Addr} {r:UD} {c o x y:YU} {a1 a2 v v1 v2 vt:Value} {W W' w w':World}
theorem JE (h:WR S L Z7.length ps=false∨1936<ps.length):rcv Z7 ps S L limit=Zq 4:=by
 unfold rcv;rw [ZY h]
theorem Fe (S L:Int) (dl:Nat) (ps:List (Int × List Int)):(WR S L dl ps=false∨1936<ps.length)∨(WR S L dl ps=true∧ps.length≤1936):=by
 cases WR S L dl ps with
 | false=>exact .inl (.inl rfl)
 | true =>
  by_cases h:1936<ps.length
  · exact .inl (.inr h)
  exact .inr ⟨rfl,by omega⟩
theorem GS (w:World) (v1 v2:Value) (Z7:List Int) (ps:List (Int × List Int)) (S L limit:Int) (hd:Rd .u8 w v1 Z7) (hp:XP w v2 ps) (hdl:Z7.length≤1048576) (hn:ps.length≤1048576) (XV:∀i,(pD ps i).length≤1048576) (hby:YL (ZC Z7 ps)) :
    Calls Tryz.prog 5 #[.agg #[v1,v2],.agg #[.int .i64 S,.int .i64 L],.int .i64 limit] w (Yn w (rcv Z7 ps S L limit)):=by
 rcases Fe S L Z7.length ps with h | ⟨h1,h2⟩
 · refine (Hp w v1 v2 Z7 ps S L limit hd hp hdl hn XV h).mono ?_
   rintro e w' ⟨rfl,b⟩;rw [JE h];exact U3 rfl rfl rfl b
 exact Hc w v1 v2 Z7 ps S L limit hd hp hdl h2 XV hby h1
theorem GR (w:World) (v1 v2:Value) (Z7:List Int) (ps:List (Int × List Int)) (S L limit:Int) (hd:Rd .u8 w v1 Z7) (hp:XP w v2 ps) (hdl:Z7.length≤1048576) (hn:ps.length≤1048576) (XV:∀i,(pD ps i).length≤1048576) (hby:YL (ZC Z7 ps)) (ht:U1 w) (h0:0<w.heap.size) (hlim:-9223372036854775808≤limit∧limit≤9223372036854775807) :
    Calls Tryz.prog 8 #[.agg #[v1,v2],.agg #[.int .i64 S,.int .i64 L],.int .i64 limit] w (Yn w (rcv Z7 ps S L limit)):=by
 rcases Fe S L Z7.length ps with h | ⟨h1,h2⟩
 · refine (GT w v1 v2 Z7 ps S L limit hd hp hdl hn XV h).mono ?_
   rintro e w' ⟨rfl,b⟩;rw [JE h];exact U3 rfl rfl rfl b
 obtain ⟨sn,rfl⟩:∃sn:Nat,L=(sn:Int):=by
  obtain ⟨hc,-,-⟩:=(XU S L Z7.length ps).1 h1;obtain ⟨-,hL1,hL2⟩:=(Zs S L).1 hc;exact ⟨L.toNat,by omega⟩
 exact GU w v1 v2 Z7 ps S sn limit hd hp hdl h2 XV hby h1 ht h0 hlim
structure BY (r:UD):Prop where
 n:r.ns.length≤100000
 d:r.Z7.length≤1048576
 p:r.ps.length≤1048576
 t:tot r.ps≤1048576
 q:∀i,i<r.ps.length→0<(pD r.ps i).length
theorem yq (h:XY dl ps=true):ps.length≤2000∧∀p ∈ ps,p.2.length=64:=by
 have h9:=(Yv dl ps).1 h;refine ⟨h9.2.2.2.1,fun q hq=>?_⟩;obtain ⟨i,hi,rfl⟩:=ur hq;have h8:=(h9.2.2.2.2 i hi).2.2;unfold pD at h8;rw [DT,VM hi] at h8;exact h8
theorem JD (hn:r.ns.length≤100000) (hd:r.Z7.length≤1048576) (hp:r.ps.length≤2000) (hq:∀p ∈ r.ps,p.2.length=64):BY r:=by
 refine ⟨hn,hd,by omega,?_,fun i hi=>?_⟩
 · have:=uF r.ps (fun p hp=>by rw [hq p hp];omega)
   omega
 unfold pD;rw [DT,VM hi];have:=hq _ (Na hi);show 0<(r.ps[i]).2.length;omega
theorem D8 (c:Int):BY (Zq c):=JD (by simp [Zq]) (by simp [Zq]) (by simp [Zq]) (by simp [Zq])
theorem DZ {log:List Int} {r:List Nd × Int × Nat} (hf:WR S L Z7.length ps=true) (hn:ps.length≤1936) (hdl:Z7.length≤1048576) (hb:0≤x.b∧x.b≤1) (hl:log.length=L.toNat*64) (hr:r.1.length≤100000):BY (UC Z7 ps S L limit code x log r e):=by
 have hV:=(Fp log (Zu log e.toNat) hf hn hb (by rw [SH];exact hl) L.toNat ZW).1;obtain ⟨h1,h2⟩:=yq hV;have h3:=yq ((XU S L Z7.length ps).1 hf).2.1;unfold UC;generalize WZ (YM S L x.b true) log (Zu log e.toNat) 0 L.toNat=rs at *
 split
 · exact JD hr hdl h3.1 h3.2
 split
 · refine JD (by simp [Zq]) hdl ?_ ?_
   · show (ps++rs.take limit.toNat).length≤2000
     rw [YE,YC];rw [YE] at h1;omega
   intro p hp
   rcases Sw.1 hp with h | h
   · exact h3.2 p h
   exact h2 p (Sw.2 (.inr (Vp h)))
 exact JD hr (ZP (Er _ _) hdl) (by simp) (by simp)
theorem yp (ns:List Nd) (start:Int) (a:List Int):(Y6 ns start a).1.length≤100000:=by
 have:=(zv (ns:=ns) (start:=start) (a:=a)).1;omega
theorem JC (hf:WR S L Z7.length ps=true) (hn:ps.length≤1936) (hdl:Z7.length≤1048576) (hb:0≤x.b∧x.b≤1):BY (Xx Z7 ps S L limit x y yg):=by
 have hl:(Yo Z7 ps S L x.b true).length=L.toNat*64:=by
  have h9:=(Ti (log:=true) hf hb).1;unfold Rx at h9
  simpa using h9
 unfold Xx
 split
 · exact DZ hf hn hdl hb hl (yp _ _ _)
 split
 · exact D8 3
 split
 · exact D8 3
 exact DZ hf hn hdl hb hl (yp _ _ _)
theorem vH (hdl:Z7.length≤1048576):BY (rcv Z7 ps S L limit):=by
 rcases Fe S L Z7.length ps with h | ⟨h1,h2⟩
 · rw [JE h]
   exact D8 4
 unfold rcv;rw [Z3 (by rw [h1];simp;omega)]
 cases e0:Ww S (blk (ZC Z7 ps) 0) with
 | false =>
  cases e1:Ww S (blk (ZC Z7 ps) 1) with
  | false=>simp;exact D8 3
  | true=>simp;exact JC h1 h2 hdl (Wo e1).2.1
 | true =>
  simp only [Bool.true_eq_false,false_and,false_or,Sm]
  split
  · rename_i hc
    exact JC h1 h2 hdl (Wo hc.1).2.1
  exact JC h1 h2 hdl (Wo e0).2.1
theorem XH (w:World) (S L:Int) :
    Calls Tryz.prog 7 #[.agg #[.int .i64 S,.int .i64 L]] w (Ze w (.agg #[.int .i64 S,.int .i64 L])):=by
 have BA:Hid (∀o1 o2 o3,ZX w (((w.alloc o1).alloc o2).alloc o3)):=fun o1 o2 o3=>((ZR.alloc ZW _).alloc (by simp) _).alloc (by simp;omega) _
 go_enter Tryz.func7,Tryz.ntmps7
 go_wp2;refine ZT (v:=.agg #[.int .i64 S,.int .i64 L]) (by simp [results,Tryz.results7,go_sem]) rfl ⟨rfl,?_⟩
 repeat (first | exact BA.out _ _ _ | refine Zf ?_ (by simp) _)
def Ug:Code→Code
 | .seq a _=>a
 | c=>c
theorem GQ {ys:List Int} (hx:YL xs) (hy:YL ys) (o:Nat):YL (splice xs o ys):=by
 intro z hz;unfold splice at hz
 simp only [Sw] at hz
 rcases hz with h | h | h
 · exact hx z (Vp h)
 · exact hy z h
 exact hx z (Wf h)
theorem vG (h:YL Z7) (hp:∀i,i<ps.length→YL (pD ps i)):YL (ZC Z7 ps):=by
 unfold ZC
 split
 · have key:∀n,n≤ps.length→YL (Nj Z7 ps (fun _=>64) n):=by
    intro n
    induction n with
    | zero=>intro _;exact h
    | succ n ih=>intro hn;exact GQ (ih (by omega)) (fun z hz=>hp n (by omega) z (Vp hz)) _
   exact key _ ZW
 intro z hz;simp at hz
structure Jt (w:World) (ao bo:Option Addr) (dl ca n cb:Nat) (S L:Int) (BW M:Nat) (r:UD) (vt a1 a2:Value) (W:World):Prop where
 f:XM w ao bo dl ca n cb S L W
 b:St W BW (Wg r vt a1 a2).toList
 m:M≤W.heap.size
 bm:BW<M
 wm:w.heap.size+2≤M
 rows:∀W',Below M W W'→VL W' vt r.ns∧Rd .u8 W' a1 r.Z7∧XP W' a2 r.ps
 k:U1 W
theorem Jt.t (h:Jt w ao bo dl ca n cb S L BW M r vt a1 a2 W):VL W vt r.ns:=(h.rows W ZR).1
theorem Jt.d (h:Jt w ao bo dl ca n cb S L BW M r vt a1 a2 W):Rd .u8 W a1 r.Z7:=(h.rows W ZR).2.1
theorem Jt.p (h:Jt w ao bo dl ca n cb S L BW M r vt a1 a2 W):XP W a2 r.ps:=(h.rows W ZR).2.2
theorem Jt.ZL (h:Jt w ao bo dl ca n cb S L BW M r vt a1 a2 W) (hb:Below B W W') (hB:M≤B):Jt w ao bo dl ca n cb S L BW M r vt a1 a2 W':=by
 have hm:=h.m;have h1:=h.bm;have h2:=h.wm;exact ⟨h.f.ZL (hb.mono (by omega)),h.b.ZL hb (by omega),ZP hm hb.size,h1,h2,fun W2 k=>h.rows W2 ((hb.mono hB).trans k),fun i hi=>(hb.cell (p:=⟨0,i,none⟩) (show 0<B by omega)).trans (h.k i hi)⟩
theorem Jt.below (h:Jt w ao bo dl ca n cb S L BW M r vt a1 a2 W) (hb:ZX W W'):Jt w ao bo dl ca n cb S L BW M r vt a1 a2 W':=h.ZL hb h.m
structure vF (w:World) (ao bo:Option Addr) (dl ca n cb:Nat) (S L:Int) (W:World):Prop where
 f:XM w ao bo dl ca n cb S L W
 k:U1 W
 wm:w.heap.size+2≤W.heap.size
theorem vF.ZL (h:vF w ao bo dl ca n cb S L W) (hb:Below B W W') (hB:w.heap.size+2≤B):vF w ao bo dl ca n cb S L W' :=
 ⟨h.f.ZL (hb.mono hB),fun i hi=>(hb.cell (p:=⟨0,i,none⟩) (show 0<B by omega)).trans (h.k i hi),ZP h.wm hb.size⟩
theorem vF.below (h:vF w ao bo dl ca n cb S L W) (hb:ZX W W'):vF w ao bo dl ca n cb S L W':=h.ZL hb h.wm
theorem Qa (w:World) (r:UD) (vt v1 v2 ut u1 u2:Value) (ht:VL w vt r.ns) (hu:VL w ut r.ns) (h1:Rd .u8 w v1 r.Z7) (g1:Rd .u8 w u1 r.Z7) (h2:XP w v2 r.ps) (g2:XP w u2 r.ps) (hb:BY r) :
    Calls Tryz.prog 9 #[.agg (Wg r vt v1 v2),.agg (Wg r ut u1 u2)] w (Ze w (.bool true)):=by
 have hn:=hb.n;refine Fv w r vt v1 v2 ut u1 u2 ht hu h1 g1 h2 g2 (by omega) (fun W a1 a2 a3 a4=>?_);refine (Ob W _ _ _ _ r.Z7 r.Z7 r.ps r.ps a1 a2 a3 a4 hb.p).mono ?_;rintro e w' ⟨rfl,b⟩;exact ⟨by simp,b⟩
end Go.Proofs.YtmmmffcbfepghaaGreatDoor
