import Derived.Test.YtmmmffcbfepghaaGreatDoorJ16B
import Derived.Test.YtmmmffcbfepghaaGreatDoorJ12A
set_option maxRecDepth 100000
set_option maxHeartbeats 16000000
set_option linter.unusedVariables false
set_option linter.unusedSimpArgs false
namespace Go.Proofs.YtmmmffcbfepghaaGreatDoor
open Go.RowKit Go.Shelf
variable {g0 g1:Bool} {S:Int} {ys:List Int} {b lo:Nat} {x0 x1:YU} {e:TypeId} {v:Value} {W w w':World}
theorem yD (h:Ww S ys=true):Xw S (Rw ys):=by
 obtain ⟨h1,h2,h3,-⟩:=Wo h;exact ⟨⟨by show 0≤nG ys;omega,h1.2⟩,h2,h3⟩
def dG (ys:List Int):Bool:=decide (Ub ys)
def dS (ys:List Int):YU:=if Ub ys then Rw ys else ⟨0,0,0,0,0⟩
theorem vN (ys:List Int):UM ys=.agg #[.bool (dG ys),.int .i64 (dS ys).g,.int .i64 (dS ys).b,.int .i64 (dS ys).s,.int .i64 (dS ys).l,.int .i64 (dS ys).c]:=by
 unfold UM dG dS
 by_cases h:Ub ys
 · rw [ZY h,ZY h,YS h];rfl
 rw [Z3 h,Z3 h,Zl h]
theorem yC (h:Ww S ys=true):dS ys=Rw ys:=by
 unfold Ww at h
 simp only [Yg,Zg] at h
 unfold dS;rw [ZY h.1]
theorem yB (S:Int) (ys:List Int):Ww S ys=(dG ys && decide ((dS ys).l≤S*64)):=by
 unfold Ww dG dS
 by_cases h:Ub ys
 · rw [ZY h];rfl
 rw [Zl h];rfl
structure JL (W:World) (b:Nat) (g0 g1:Bool) (x0 x1:YU):Prop where
 lt:b<W.heap.size
 fz:∀j,W.frozen? ⟨b,j,none⟩=false
 k0:W.cell? ⟨b,0,none⟩=some (.bool g0)
 k1:W.cell? ⟨b,1,none⟩=some (.int .i64 x0.g)
 k2:W.cell? ⟨b,2,none⟩=some (.int .i64 x0.b)
 k3:W.cell? ⟨b,3,none⟩=some (.int .i64 x0.s)
 k4:W.cell? ⟨b,4,none⟩=some (.int .i64 x0.l)
 k5:W.cell? ⟨b,5,none⟩=some (.int .i64 x0.c)
 k6:W.cell? ⟨b,6,none⟩=some (.bool g1)
 k7:W.cell? ⟨b,7,none⟩=some (.int .i64 x1.g)
 k8:W.cell? ⟨b,8,none⟩=some (.int .i64 x1.b)
 k9:W.cell? ⟨b,9,none⟩=some (.int .i64 x1.s)
 k10:W.cell? ⟨b,10,none⟩=some (.int .i64 x1.l)
 k11:W.cell? ⟨b,11,none⟩=some (.int .i64 x1.c)
theorem JL.below {W':World} {m:Nat} (h:JL W b g0 g1 x0 x1) (hb:Below m W W') (hm:b<m):JL W' b g0 g1 x0 x1 :=
 have q:∀j,W'.cell? ⟨b,j,none⟩=W.cell? ⟨b,j,none⟩:=fun j=>hb.cell (p:=⟨b,j,none⟩) hm
 ⟨ZB h.lt hb.size,fun j=>(hb.frozen (p:=⟨b,j,none⟩) hm).trans (h.fz j),(q _).trans h.k0,(q _).trans h.k1,(q _).trans h.k2,(q _).trans h.k3,(q _).trans h.k4,(q _).trans h.k5,(q _).trans h.k6,(q _).trans h.k7,(q _).trans h.k8,(q _).trans h.k9,(q _).trans h.k10,(q _).trans h.k11⟩
theorem JL.set0 (h:JL W b g0 g1 x0 x1) (g:Bool):JL (W.setCell ⟨b,0,none⟩ (.bool g)) b g g1 x0 x1 :=
 ⟨by simpa using h.lt,fun j=>by rw [Yb];exact h.fz j,XI h.k0,Z6 h.k1 (by decide),Z6 h.k2 (by decide),Z6 h.k3 (by decide),Z6 h.k4 (by decide),Z6 h.k5 (by decide),Z6 h.k6 (by decide),Z6 h.k7 (by decide),Z6 h.k8 (by decide),Z6 h.k9 (by decide),Z6 h.k10 (by decide),Z6 h.k11 (by decide)⟩
theorem JL.oP (h:JL W b g0 g1 x0 x1) (g:Bool):JL (W.setCell ⟨b,6,none⟩ (.bool g)) b g0 g x0 x1 :=
 ⟨by simpa using h.lt,fun j=>by rw [Yb];exact h.fz j,Z6 h.k0 (by decide),Z6 h.k1 (by decide),Z6 h.k2 (by decide),Z6 h.k3 (by decide),Z6 h.k4 (by decide),Z6 h.k5 (by decide),XI h.k6,Z6 h.k7 (by decide),Z6 h.k8 (by decide),Z6 h.k9 (by decide),Z6 h.k10 (by decide),Z6 h.k11 (by decide)⟩
theorem JL.new (W:World) (g0 g1:Bool) (x0 x1:YU) (t:TypeId):JL (W.alloc (.cells #[.bool g0,.int .i64 x0.g,.int .i64 x0.b,.int .i64 x0.s,.int .i64 x0.l,.int .i64 x0.c,.bool g1,.int .i64 x1.g,.int .i64 x1.b,.int .i64 x1.s,.int .i64 x1.l,.int .i64 x1.c] t)) W.heap.size g0 g1 x0 x1:=by
 refine ⟨by simp,fun j=>by simp,?_,?_,?_,?_,?_,?_,?_,?_,?_,?_,?_,?_⟩ <;> (rw [cell_of (WJ W _)];rfl)
theorem Hc (w:World) (v1 v2:Value) (Z7:List Int) (ps:List (Int × List Int)) (S L limit:Int) (hd:Rd .u8 w v1 Z7) (hp:XP w v2 ps) (hdl:Z7.length≤1048576) (hn:ps.length≤1936) (XV:∀i,(pD ps i).length≤1048576) (hby:YL (ZC Z7 ps)) (hf:WR S L Z7.length ps=true) :
    Calls Tryz.prog 5 #[.agg #[v1,v2],.agg #[.int .i64 S,.int .i64 L],.int .i64 limit] w (Yn w (rcv Z7 ps S L limit)):=by
 obtain ⟨ao,ca,rfl,-⟩:=hd.len;obtain ⟨bo,cb,hv2,-⟩:=id hp;subst hv2;obtain ⟨hcf,hv,hdz⟩:=(XU S L Z7.length ps).1 hf;obtain ⟨⟨hS1,hS2⟩,hL1,hL2⟩:=(Zs S L).1 hcf;have S0:Hid (PE w (.slice ao Z7.length ca) (.slice bo ps.length cb) S L (((w.alloc (.cells #[.slice ao Z7.length ca,.slice bo ps.length cb] 36)).alloc (.cells #[.int .i64 S,.int .i64 L] 41)).alloc (.cells #[.int .i64 0,.int .i64 0,.int .i64 0,.int .i64 0,.int .i64 0,.int .i64 0,.int .i64 0,.slice none 0 0,.int .i64 0,.int .i64 0,.slice none 0 0,.slice none 0 0] 38))):=PE.new _ _ _ _ _;have HF:Hid (∀W,ZX w W→Calls Tryz.prog 16 #[.agg #[.slice ao Z7.length ca,.slice bo ps.length cb],.agg #[.int .i64 S,.int .i64 L]] W (Ze W (.bool true))):=by
  intro W hW;have h9:=Uk W ao bo Z7.length ca ps.length cb ps S L (hp.below hW) rfl hdl (by omega) XV;rw [hf] at h9;exact h9
 have Ua:Hid (∀W (i:Nat),i≤1→ZX w W→Calls Tryz.prog 18 #[.agg #[.slice ao Z7.length ca,.slice bo ps.length cb],.int .i64 (i:Int)] W fun e w'=>∃v',e=.returned v'∧Own .u8 5 w' W.heap.size v' (blk (ZC Z7 ps) i)∧ZX W w'):=by
  intro W i hi hW;have h9:=QU W _ _ Z7 ps (i:Int) (hd.below hW) (hp.below hW) hdl (by omega) XV;rw [Ei hv (by omega)] at h9;exact h9
 have Zh:Hid (∀W v' (i:Nat) lo,Own .u8 5 W lo v' (blk (ZC Z7 ps) i)→Calls Tryz.prog 17 #[v'] W (Ze W (.agg #[.bool (dG (blk (ZC Z7 ps) i)),.int .i64 (dS (blk (ZC Z7 ps) i)).g,.int .i64 (dS (blk (ZC Z7 ps) i)).b,.int .i64 (dS (blk (ZC Z7 ps) i)).s,.int .i64 (dS (blk (ZC Z7 ps) i)).l,.int .i64 (dS (blk (ZC Z7 ps) i)).c]))):=by
  intro W v' i lo ho;have h9:=Hk W v' _ ho.rd (fun y hy=>hby y (Wf (Vp hy)));rw [vN] at h9;exact h9
 have ud:¬(1936:Int)<(ps.length:Int):=by omega
 obtain ⟨RES,Ms⟩:∃r,r=rcv Z7 ps S L limit:=⟨_,rfl⟩;rw [←Ms];have Um:Hid (RES=if Ww S (blk (ZC Z7 ps) 0)=false∧Ww S (blk (ZC Z7 ps) 1)=false then Zq 3
     else if Ww S (blk (ZC Z7 ps) 0)=false∨(Ww S (blk (ZC Z7 ps) 1)=true∧nG (blk (ZC Z7 ps) 0)<nG (blk (ZC Z7 ps) 1))
      then Xx Z7 ps S L limit (Rw (blk (ZC Z7 ps) 1)) (Rw (blk (ZC Z7 ps) 0)) (Ww S (blk (ZC Z7 ps) 0))
      else Xx Z7 ps S L limit (Rw (blk (ZC Z7 ps) 0)) (Rw (blk (ZC Z7 ps) 1)) (Ww S (blk (ZC Z7 ps) 1))):=by
  show _=_;rw [Ms];unfold rcv;rw [Z3 (by rw [hf];simp;omega)]
 clear Ms
 go_enter Tryz.func5,Tryz.ntmps5
 go_wp2_with fail
 generalize ((w.alloc _).alloc _).alloc _=w0 at *;refine (HF.out _ S0.out.YJ).mono ?_;rintro e w1 ⟨rfl,b1⟩;have S1:=Z8 (S0.out.below b1);clear b1 S0 HF;have q1:=S1.out.d1
 go_wp2_with fail
 clear q1;have qn:=Z8 (S1.out.below (below_drewN' w1 1));refine ZF (S:=PE w (.slice ao Z7.length ca) (.slice bo ps.length cb) S L) (by kernel_rfl) (qn.out) (fun Z9=>?_);refine ZV ?_ (by kernel_rfl) (fun _=>id) Z9 ?_ ?_
 rotate_left
 · intro w9 Z4;obtain ⟨-,-,d0,d1,c0,c1,-⟩:=Z4;go_simp;try with_reducible rfl
 refine ZA 3 (.agg #[.slice ao Z7.length ca,.slice bo ps.length cb]) rfl (by kernel_rfl) (fun _=>id) Z9 ?hy2 ?_
 case hy2=>intro w9 Z4;obtain ⟨-,-,d0,d1,c0,c1,-⟩:=Z4;go_simp
 refine ZS 1 rfl (by kernel_rfl) (fun K hK=>?_);go_simp;refine (Ua.out _ 0 (by omega) Z9.YJ).mono ?_;rintro e w2 ⟨u2,rfl,o2,b2⟩;have hN:=Z9.below b2;have O2:Hid (Own .u8 5 w2 (w1.drewN 1).heap.size u2 (blk (ZC Z7 ps) 0)):=o2;clear o2 b2;refine hK.out _ _ hN (fun ZI=>?_);clear hK K Z9;have Z9:=ZI;clear ZI;refine ZS 2 rfl (by kernel_rfl) (fun K hK=>?_);go_simp;refine (Zh.out _ u2 0 _ O2.out).mono ?_;rintro e w3 ⟨rfl,b3⟩;have hN:=Z9.below b3;clear b3 O2;refine hK.out _ _ hN (fun ZI=>?_);clear hK K Z9;have Z9:=ZI;clear ZI;refine ZS 4 rfl (by kernel_rfl) (fun K hK=>?_);go_simp;refine (Ua.out _ 1 (by omega) Z9.YJ).mono ?_;rintro e w4 ⟨u4,rfl,o4,b4⟩;have hN:=Z9.below b4;have O4:=Z8 o4;clear o4 b4;refine hK.out _ _ hN (fun ZI=>?_);clear hK K Z9;have Z9:=ZI;clear ZI;refine ZS 5 rfl (by kernel_rfl) (fun K hK=>?_);go_simp;refine (Zh.out _ u4 1 _ O4.out).mono ?_;rintro e w5 ⟨rfl,b5⟩;have hN:=Z9.below b5;clear b5 O4;refine hK.out _ _ hN (fun ZI=>?_);clear hK K Z9;have Z9:=ZI;clear ZI;refine ZS 6 rfl (by kernel_rfl) (fun K hK=>?_);have bA:ZX w5 (w5.alloc (.cells #[.bool (dG (blk (ZC Z7 ps) 0)),.int .i64 (dS (blk (ZC Z7 ps) 0)).g,.int .i64 (dS (blk (ZC Z7 ps) 0)).b,.int .i64 (dS (blk (ZC Z7 ps) 0)).s,.int .i64 (dS (blk (ZC Z7 ps) 0)).l,.int .i64 (dS (blk (ZC Z7 ps) 0)).c,.bool (dG (blk (ZC Z7 ps) 1)),.int .i64 (dS (blk (ZC Z7 ps) 1)).g,.int .i64 (dS (blk (ZC Z7 ps) 1)).b,.int .i64 (dS (blk (ZC Z7 ps) 1)).s,.int .i64 (dS (blk (ZC Z7 ps) 1)).l,.int .i64 (dS (blk (ZC Z7 ps) 1)).c] 52)):=ZR.alloc ZW _;have hN:=Z9.below bA;have SL:Hid (JL (w5.alloc (.cells #[.bool (dG (blk (ZC Z7 ps) 0)),.int .i64 (dS (blk (ZC Z7 ps) 0)).g,.int .i64 (dS (blk (ZC Z7 ps) 0)).b,.int .i64 (dS (blk (ZC Z7 ps) 0)).s,.int .i64 (dS (blk (ZC Z7 ps) 0)).l,.int .i64 (dS (blk (ZC Z7 ps) 0)).c,.bool (dG (blk (ZC Z7 ps) 1)),.int .i64 (dS (blk (ZC Z7 ps) 1)).g,.int .i64 (dS (blk (ZC Z7 ps) 1)).b,.int .i64 (dS (blk (ZC Z7 ps) 1)).s,.int .i64 (dS (blk (ZC Z7 ps) 1)).l,.int .i64 (dS (blk (ZC Z7 ps) 1)).c] 52)) w5.heap.size (dG (blk (ZC Z7 ps) 0)) (dG (blk (ZC Z7 ps) 1)) (dS (blk (ZC Z7 ps) 0)) (dS (blk (ZC Z7 ps) 1))):=JL.new _ _ _ _ _ _;have sf:=Z9.lt;clear bA;go_simp;refine hK.out _ _ hN (fun ZI=>?_);clear hK K Z9;have Z9:=ZI;clear ZI;refine ZV (.slice (some ⟨w5.heap.size,0,none⟩) 2 2) (by kernel_rfl) (fun _=>id) Z9 ?oO ?_
 case oO =>
  intro w9 Z4;clear Z4;go_simp
 refine ZM (by kernel_rfl) ?_ _
 try simp only [Act.put,Zk,Zj,Zi]
 have S6:Hid (PE w (.slice ao Z7.length ca) (.slice bo ps.length cb) S L (w5.alloc (.cells #[.bool (dG (blk (ZC Z7 ps) 0)),.int .i64 (dS (blk (ZC Z7 ps) 0)).g,.int .i64 (dS (blk (ZC Z7 ps) 0)).b,.int .i64 (dS (blk (ZC Z7 ps) 0)).s,.int .i64 (dS (blk (ZC Z7 ps) 0)).l,.int .i64 (dS (blk (ZC Z7 ps) 0)).c,.bool (dG (blk (ZC Z7 ps) 1)),.int .i64 (dS (blk (ZC Z7 ps) 1)).g,.int .i64 (dS (blk (ZC Z7 ps) 1)).b,.int .i64 (dS (blk (ZC Z7 ps) 1)).s,.int .i64 (dS (blk (ZC Z7 ps) 1)).l,.int .i64 (dS (blk (ZC Z7 ps) 1)).c] 52))):=Z9;clear Z9 hN Ua Zh S1 qn;generalize w5.alloc _=w6 at *;generalize w5.heap.size=SB at *;obtain ⟨g0,hg0⟩:∃g,g=dG (blk (ZC Z7 ps) 0):=⟨_,rfl⟩;obtain ⟨g1,hg1⟩:∃g,g=dG (blk (ZC Z7 ps) 1):=⟨_,rfl⟩;obtain ⟨x0,hx0⟩:∃g,g=dS (blk (ZC Z7 ps) 0):=⟨_,rfl⟩;obtain ⟨x1,hx1⟩:∃g,g=dS (blk (ZC Z7 ps) 1):=⟨_,rfl⟩;rw [←hg0,←hg1,←hx0,←hx1] at SL;have MT:Hid (Ww S (blk (ZC Z7 ps) 0)=(g0 && decide (x0.l≤S*64))):=by show _=_;rw [yB,hg0,hx0]
 have wH:Hid (Ww S (blk (ZC Z7 ps) 1)=(g1 && decide (x1.l≤S*64))):=by show _=_;rw [yB,hg1,hx1]
 have HX0:=Z8 hx0;have Fz:=Z8 hx1;clear hg0 hg1 hx0 hx1;go_wp2
 go_loopw [8] (fun vi wr=>∃j:Nat,j≤2∧vi=.int .i64 j∧Hid (PE w (.slice ao Z7.length ca) (.slice bo ps.length cb) S L wr)∧Hid (JL wr SB (if 0<j then Ww S (blk (ZC Z7 ps) 0) else g0) (if 1<j then Ww S (blk (ZC Z7 ps) 1) else g1) x0 x1)) (fun i _=>2 - (intOf i).toNat)
 case atStart=>exact ⟨0,by omega,rfl,S6,SL⟩
 case round =>
  clear S6 SL;obtain ⟨j,hj,rfl,S7,SL⟩:=hrel
  by_cases hlt:j<2
  · have YN:(j:Int)<2:=by omega
    obtain ⟨gj,xl,k0,k4,Qc⟩:∃(gj:Bool) (xl:Int),wr.cell? ⟨SB,j*6,none⟩=some (.bool gj)∧wr.cell? ⟨SB,j*6+4,none⟩=some (.int .i64 xl)∧Hid (JL (wr.setCell ⟨SB,j*6,none⟩ (.bool (gj && decide (xl≤S*64)))) SB (if 0<j+1 then Ww S (blk (ZC Z7 ps) 0) else g0) (if 1<j+1 then Ww S (blk (ZC Z7 ps) 1) else g1) x0 x1):=by
     have hj2:j=0∨j=1:=by omega
     rcases hj2 with rfl | rfl
     · refine ⟨g0,x0.l,SL.out.k0,SL.out.k4,?_⟩
       have h9:=SL.out.set0 (g0 && decide (x0.l≤S*64));rw [←MT.out] at h9;rw [←MT.out];exact h9
     refine ⟨g1,x1.l,SL.out.k6,SL.out.k10,?_⟩;have h9:=SL.out.oP (g1 && decide (x1.l≤S*64));rw [←wH.out] at h9;rw [←wH.out];exact h9
    have fz:=SL.out.fz (j*6);have Zm:=SL.out.lt;have cS:=S7.out.c0;have Zx:Hid (∀g',PE w (.slice ao Z7.length ca) (.slice bo ps.length cb) S L (wr.setCell ⟨SB,j*6,none⟩ (.bool g'))):=fun g'=>S7.out.ZL ((yj SB wr).setCell (by show SB≤SB;omega) _) (by omega)
    have vq:Hid (∀g',(wr.setCell ⟨SB,j*6,none⟩ (.bool g')).cell? ⟨SB,j*6+4,none⟩=some (.int .i64 xl)∧(wr.setCell ⟨SB,j*6,none⟩ (.bool g')).cell? ⟨w.heap.size+1,0,none⟩=some (.int .i64 S)):=fun g'=>⟨Z6 k4 (by omega),(Zx.out g').c0⟩
    clear MT wH
    go_wp2_with fail
    refine ZF (S:=fun W=>W.cell? ⟨SB,j*6+4,none⟩=some (.int .i64 xl)∧W.cell? ⟨w.heap.size+1,0,none⟩=some (.int .i64 S)) (by kernel_rfl) (⟨k4,cS⟩) (fun Z9=>?_)
    iterate 6 (refine ZV ?_ (by kernel_rfl) (fun _=>id) Z9 ?_ ?_;rotate_left;· intro w9 Z4;obtain ⟨y4,yS⟩:=Z4;go_simp;try with_reducible rfl)
    refine ZS 6 rfl (by kernel_rfl) (fun K hK=>?_);go_simp;refine hK.out _ _ Z9 (fun ZI=>?_);clear hK K ZI
    cases gj with
    | false =>
     refine ZV ?_ (by kernel_rfl) (fun _=>id) Z9 ?_ ?_
     rotate_left
     · intro w9 Z4;obtain ⟨y4,yS⟩:=Z4;go_simp;try with_reducible rfl
     iterate 10 (refine TU (by kernel_rfl) (fun _=>id) Z9 ?_)
     iterate 3 (refine ZV ?_ (by kernel_rfl) (fun _=>id) Z9 ?_ ?_;rotate_left;· intro w9 Z4;obtain ⟨y4,yS⟩:=Z4;go_simp;try with_reducible rfl)
     refine ZS 21 rfl (by kernel_rfl) (fun K hK=>?_);go_simp;refine hK.out _ _ (vq.out false) (fun ZI=>?_);clear hK K ZI;refine ZM (by kernel_rfl) ?_ _
     try simp only [Act.put,Zk,Zj,Zi]
     have S8:=Z8 (Zx.out false);clear Z9 Zx vq SL S7 k0 k4 fz cS;go_wp2
     go_roundw
     case rel=>exact ⟨j+1,by omega,by go_num,PE.below S8.out (below_drewN' _ 1),JL.below Qc.out (below_drewN' _ 1) (by simpa using Zm)⟩
     case measure=>simp [intOf];omega
    | true =>
     iterate 9 (refine ZV ?_ (by kernel_rfl) (fun _=>id) Z9 ?_ ?_;rotate_left;· intro w9 Z4;obtain ⟨y4,yS⟩:=Z4;go_simp;try with_reducible rfl)
     refine ZV (.int .i64 (S*64)) (by kernel_rfl) (fun _=>id) Z9 ?_ ?_
     · intro w9 Z4;clear Z4;go_simp;rw [Xf];omega
     iterate 4 (refine ZV ?_ (by kernel_rfl) (fun _=>id) Z9 ?_ ?_;rotate_left;· intro w9 Z4;obtain ⟨y4,yS⟩:=Z4;go_simp;try with_reducible rfl)
     refine ZS 21 rfl (by kernel_rfl) (fun K hK=>?_);go_simp;refine hK.out _ _ (vq.out (decide (xl≤S*64))) (fun ZI=>?_);clear hK K ZI;refine ZM (by kernel_rfl) ?_ _
     try simp only [Act.put,Zk,Zj,Zi]
     have S8:=Z8 (Zx.out (decide (xl≤S*64)));clear Z9 Zx vq SL S7 k0 k4 fz cS;go_wp2
     go_roundw
     case rel=>exact ⟨j+1,by omega,by go_num,PE.below S8.out (below_drewN' _ 1),JL.below Qc.out (below_drewN' _ 1) (by simpa using Zm)⟩
     case measure=>simp [intOf];omega
  have hj2:j=2:=by omega
  have YN:¬(j:Int)<2:=by omega
  have ZG:Hid (JL wr SB (Ww S (blk (ZC Z7 ps) 0)) (Ww S (blk (ZC Z7 ps) 1)) x0 x1):=by
   have h9:=SL.out;rw [hj2] at h9;exact h9
  clear SL hj2;obtain ⟨c0,c1,c2,c3,c4,c5,c6,c7,c8,c9,c10,c11⟩:=S7.out.rx.cells;dsimp only [Zq] at c0 c1 c2 c3 c4 c5 c6 c7 c8 c9 c10 c11;have f0:=S7.out.rx.frozen 0;have f1:=S7.out.rx.frozen 1;have f2:=S7.out.rx.frozen 2;have f3:=S7.out.rx.frozen 3;have f4:=S7.out.rx.frozen 4;have f5:=S7.out.rx.frozen 5;have f6:=S7.out.rx.frozen 6;have f7:=S7.out.rx.frozen 7;have f8:=S7.out.rx.frozen 8;have f9:=S7.out.rx.frozen 9;have f10:=S7.out.rx.frozen 10;have f11:=S7.out.rx.frozen 11;have k0:=ZG.out.k0;have k6:=ZG.out.k6
  iterate 22 (try (first | go_values | go_skip | go_guarded | go_step | go_upon | go_back))
  rename_i pn h10 K8 h8;have ZK:Hid (∀(t63 t64 t65 t66 t67 t68 t69 t70 t71 t72 t73 t74:Value) (W:World),PE w (.slice ao Z7.length ca) (.slice bo ps.length cb) S L W→JL W SB (Ww S (blk (ZC Z7 ps) 0)) (Ww S (blk (ZC Z7 ps) 1)) x0 x1→(Ww S (blk (ZC Z7 ps) 0)=true∨Ww S (blk (ZC Z7 ps) 1)=true)→pn { tmps:=#[.agg #[.slice ao Z7.length ca,.slice bo ps.length cb],.agg #[.int .i64 S,.int .i64 L],.int .i64 limit,.pointer (some ⟨w.heap.size,0,none⟩),.pointer (some ⟨w.heap.size+1,0,none⟩),undef,.pointer (some ⟨w.heap.size+1+1,0,none⟩),.slice (some ⟨SB,0,none⟩) 2 2,.int .i64 (j:Int),undef,undef,undef,undef,undef,undef,undef,undef,undef,undef,undef,.agg #[.slice ao Z7.length ca,.slice bo ps.length cb],.agg #[.int .i64 S,.int .i64 L],.bool true,.bool false,.bool false,.pointer (some ⟨w.heap.size,1,none⟩),.slice bo ps.length cb,.int .i64 (ps.length:Int),.bool (decide ((1936:Int)<(ps.length:Int))),.bool (decide ((1936:Int)<(ps.length:Int))),undef,.agg #[.slice ao Z7.length ca,.slice bo ps.length cb],u2,.agg #[.bool (dG (blk (ZC Z7 ps) 0)),.int .i64 (dS (blk (ZC Z7 ps) 0)).g,.int .i64 (dS (blk (ZC Z7 ps) 0)).b,.int .i64 (dS (blk (ZC Z7 ps) 0)).s,.int .i64 (dS (blk (ZC Z7 ps) 0)).l,.int .i64 (dS (blk (ZC Z7 ps) 0)).c],.agg #[.slice ao Z7.length ca,.slice bo ps.length cb],u4,.agg #[.bool (dG (blk (ZC Z7 ps) 1)),.int .i64 (dS (blk (ZC Z7 ps) 1)).g,.int .i64 (dS (blk (ZC Z7 ps) 1)).b,.int .i64 (dS (blk (ZC Z7 ps) 1)).s,.int .i64 (dS (blk (ZC Z7 ps) 1)).l,.int .i64 (dS (blk (ZC Z7 ps) 1)).c],.slice (some ⟨SB,0,none⟩) 2 2,.int .i64 (j:Int),.bool false,u40,u41,u42,u43,u44,u45,u46,u47,u48,u49,u50,u51,u52,u53,u54,u55,u56,u57,u58,u59,u60,u61,u62,t63,t64,t65,t66,t67,t68,t69,t70,t71,t72,t73,t74,undef,undef,undef,undef,undef,undef,undef,undef,undef,undef,undef,undef,undef,undef,undef,undef,undef,undef,undef,undef,undef,undef,undef,undef,undef,undef,undef,undef,undef,undef,undef,undef,undef,undef,undef,undef,undef,undef,undef,undef,undef,undef,undef,undef,undef,undef,undef,undef,undef,undef,undef,undef,undef,undef,undef,undef,undef,undef,undef,undef,undef,undef,undef,undef,undef,undef,undef,undef,undef,undef,undef,undef,undef,undef,undef,undef,undef,undef,undef,undef,undef,undef,undef,undef,undef,undef,undef,undef,undef,undef,undef,undef,undef,undef,undef,undef,undef,undef,undef,undef,undef,undef,undef,undef,undef,undef,undef,undef,undef,undef,undef,undef,undef,undef,undef,undef,undef,undef,undef,undef,undef,undef,undef,undef,undef,undef,undef,undef,undef,undef,undef,undef,undef,undef,undef,undef,undef,undef,undef,undef,undef,undef,undef,undef,undef,undef,undef,undef,undef,undef,undef,undef,undef,undef,undef,undef,undef,undef,undef,undef,undef,undef,undef,undef,undef,undef,undef,undef,undef,undef,undef,undef,undef,undef,undef,undef,undef,undef,undef,undef,undef,undef,undef,undef,undef,undef,undef,undef,undef,undef,undef,undef,undef,undef,undef,undef,undef,undef,undef],defers:=[] } W):=by
   intro t63 t64 t65 t66 t67 t68 t69 t70 t71 t72 t73 t74 W hS hL hg;refine h10 _ _ ?_;have rG:=Z8 hS;have Z5:=Z8 hL;clear hS hL S7 ZG k0 k6 c0 c1 c2 c3 c4 c5 c6 c7 c8 c9 c10 c11 f0 f1 f2 f3 f4 f5 f6 f7 f8 f9 f10 f11 h8 h10;have ZE:Hid (Ww S (blk (ZC Z7 ps) 0)=true→x0=Rw (blk (ZC Z7 ps) 0)):=fun h9=>by rw [HX0.out];exact yC h9
   have HXB:Hid (Ww S (blk (ZC Z7 ps) 1)=true→x1=Rw (blk (ZC Z7 ps) 1)):=fun h9=>by rw [Fz.out];exact yC h9
   have qv:Hid (Ww S (blk (ZC Z7 ps) 0)=true→Xw S x0):=fun h9=>by rw [ZE.out h9];exact yD h9
   have Zd:Hid (Ww S (blk (ZC Z7 ps) 1)=true→Xw S x1):=fun h9=>by rw [HXB.out h9];exact yD h9
   clear MT wH HX0 Fz;generalize Ww S (blk (ZC Z7 ps) 0)=G0 at *;generalize Ww S (blk (ZC Z7 ps) 1)=G1 at *;have G:=Z5.out.lt;have HW3:=Z8 rG.out.lt;have k0:=Z5.out.k0;have k1:=Z5.out.k1;have k2:=Z5.out.k2;have k3:=Z5.out.k3;have k4:=Z5.out.k4;have k5:=Z5.out.k5;have k6:=Z5.out.k6;have k7:=Z5.out.k7;have k8:=Z5.out.k8;have k9:=Z5.out.k9;have k10:=Z5.out.k10;have k11:=Z5.out.k11
   iterate 46 (try (first | go_values | go_skip | go_guarded | go_step | go_upon | go_back))
   rename_i YD YY X7 h12;have xP:ZX W (W.alloc (.cells #[.bool G0,.int .i64 x0.g,.int .i64 x0.b,.int .i64 x0.s,.int .i64 x0.l,.int .i64 x0.c] 52)):=ZR.alloc ZW _;have yE:ZX W ((W.alloc (.cells #[.bool G0,.int .i64 x0.g,.int .i64 x0.b,.int .i64 x0.s,.int .i64 x0.l,.int .i64 x0.c] 52)).alloc (.cells #[.bool G1,.int .i64 x1.g,.int .i64 x1.b,.int .i64 x1.s,.int .i64 x1.l,.int .i64 x1.c] 52)):=xP.alloc (by simp) _;have T:Hid (St ((W.alloc (.cells #[.bool G0,.int .i64 x0.g,.int .i64 x0.b,.int .i64 x0.s,.int .i64 x0.l,.int .i64 x0.c] 52)).alloc (.cells #[.bool G1,.int .i64 x1.g,.int .i64 x1.b,.int .i64 x1.s,.int .i64 x1.l,.int .i64 x1.c] 52)) W.heap.size [.bool G0,.int .i64 x0.g,.int .i64 x0.b,.int .i64 x0.s,.int .i64 x0.l,.int .i64 x0.c]):=(St.new W _ _).below (ZR.alloc ZW _);have ZZ:Hid (St ((W.alloc (.cells #[.bool G0,.int .i64 x0.g,.int .i64 x0.b,.int .i64 x0.s,.int .i64 x0.l,.int .i64 x0.c] 52)).alloc (.cells #[.bool G1,.int .i64 x1.g,.int .i64 x1.b,.int .i64 x1.s,.int .i64 x1.l,.int .i64 x1.c] 52)) (W.heap.size+1) [.bool G1,.int .i64 x1.g,.int .i64 x1.b,.int .i64 x1.s,.int .i64 x1.l,.int .i64 x1.c]):=by
    have h9:=St.new (W.alloc (.cells #[.bool G0,.int .i64 x0.g,.int .i64 x0.b,.int .i64 x0.s,.int .i64 x0.l,.int .i64 x0.c] 52)) #[.bool G1,.int .i64 x1.g,.int .i64 x1.b,.int .i64 x1.s,.int .i64 x1.l,.int .i64 x1.c] 52;rw [XE] at h9;exact h9
   have ZD:=Z8 (rG.out.below yE);have U:=Z8 (Z5.out.below yE G);have ZU:Hid (∀(t82 t83 t84 t85 t86 t87 t88 t89 t90 t91 t92 t93 t94 t95 t96 t97 t98 t99 t100 t101 t102 t103:Value) (W':World) (yg:Bool) (x y:YU),PE w (.slice ao Z7.length ca) (.slice bo ps.length cb) S L W'→St W' W.heap.size [.bool true,.int .i64 x.g,.int .i64 x.b,.int .i64 x.s,.int .i64 x.l,.int .i64 x.c]→St W' (W.heap.size+1) [.bool yg,.int .i64 y.g,.int .i64 y.b,.int .i64 y.s,.int .i64 y.l,.int .i64 y.c]→Xw S x→(yg=true→Xw S y)→RES=Xx Z7 ps S L limit x y yg→YD { tmps:=#[.agg #[.slice ao Z7.length ca,.slice bo ps.length cb],.agg #[.int .i64 S,.int .i64 L],.int .i64 limit,.pointer (some ⟨w.heap.size,0,none⟩),.pointer (some ⟨w.heap.size+1,0,none⟩),undef,.pointer (some ⟨w.heap.size+1+1,0,none⟩),.slice (some ⟨SB,0,none⟩) 2 2,.int .i64 (j:Int),.pointer (some ⟨W.heap.size,0,none⟩),.pointer (some ⟨W.heap.size+1,0,none⟩),undef,undef,undef,undef,undef,undef,undef,undef,undef,.agg #[.slice ao Z7.length ca,.slice bo ps.length cb],.agg #[.int .i64 S,.int .i64 L],.bool true,.bool false,.bool false,.pointer (some ⟨w.heap.size,1,none⟩),.slice bo ps.length cb,.int .i64 (ps.length:Int),.bool (decide ((1936:Int)<(ps.length:Int))),.bool (decide ((1936:Int)<(ps.length:Int))),undef,.agg #[.slice ao Z7.length ca,.slice bo ps.length cb],u2,.agg #[.bool (dG (blk (ZC Z7 ps) 0)),.int .i64 (dS (blk (ZC Z7 ps) 0)).g,.int .i64 (dS (blk (ZC Z7 ps) 0)).b,.int .i64 (dS (blk (ZC Z7 ps) 0)).s,.int .i64 (dS (blk (ZC Z7 ps) 0)).l,.int .i64 (dS (blk (ZC Z7 ps) 0)).c],.agg #[.slice ao Z7.length ca,.slice bo ps.length cb],u4,.agg #[.bool (dG (blk (ZC Z7 ps) 1)),.int .i64 (dS (blk (ZC Z7 ps) 1)).g,.int .i64 (dS (blk (ZC Z7 ps) 1)).b,.int .i64 (dS (blk (ZC Z7 ps) 1)).s,.int .i64 (dS (blk (ZC Z7 ps) 1)).l,.int .i64 (dS (blk (ZC Z7 ps) 1)).c],.slice (some ⟨SB,0,none⟩) 2 2,.int .i64 (j:Int),.bool false,u40,u41,u42,u43,u44,u45,u46,u47,u48,u49,u50,u51,u52,u53,u54,u55,u56,u57,u58,u59,u60,u61,u62,t63,t64,t65,t66,t67,t68,t69,t70,t71,t72,t73,t74,undef,.slice (some ⟨SB,0,none⟩) 2 2,.pointer (some ⟨SB,0,none⟩),.agg #[.bool G0,.int .i64 x0.g,.int .i64 x0.b,.int .i64 x0.s,.int .i64 x0.l,.int .i64 x0.c],.slice (some ⟨SB,0,none⟩) 2 2,.pointer (some ⟨SB,6,none⟩),.agg #[.bool G1,.int .i64 x1.g,.int .i64 x1.b,.int .i64 x1.s,.int .i64 x1.l,.int .i64 x1.c],t82,t83,t84,t85,t86,t87,t88,t89,t90,t91,t92,t93,t94,t95,t96,t97,t98,t99,t100,t101,t102,t103,undef,undef,undef,undef,undef,undef,undef,undef,undef,undef,undef,undef,undef,undef,undef,undef,undef,undef,undef,undef,undef,undef,undef,undef,undef,undef,undef,undef,undef,undef,undef,undef,undef,undef,undef,undef,undef,undef,undef,undef,undef,undef,undef,undef,undef,undef,undef,undef,undef,undef,undef,undef,undef,undef,undef,undef,undef,undef,undef,undef,undef,undef,undef,undef,undef,undef,undef,undef,undef,undef,undef,undef,undef,undef,undef,undef,undef,undef,undef,undef,undef,undef,undef,undef,undef,undef,undef,undef,undef,undef,undef,undef,undef,undef,undef,undef,undef,undef,undef,undef,undef,undef,undef,undef,undef,undef,undef,undef,undef,undef,undef,undef,undef,undef,undef,undef,undef,undef,undef,undef,undef,undef,undef,undef,undef,undef,undef,undef,undef,undef,undef,undef,undef,undef,undef,undef,undef,undef,undef,undef,undef,undef,undef,undef,undef,undef,undef,undef,undef,undef,undef,undef,undef,undef,undef,undef,undef,undef,undef,undef,undef,undef,undef,undef,undef,undef,undef,undef,undef,undef],defers:=[] } W'):=by
    intro t82 t83 t84 t85 t86 t87 t88 t89 t90 t91 t92 t93 t94 t95 t96 t97 t98 t99 t100 t101 t102 t103 W' yg x y YX YW YV YT YQ YP;refine YY _ _ ?_;obtain ⟨ln,hln⟩:∃ln:Nat,L=(ln:Int):=⟨L.toNat,by omega⟩;subst hln;exact Fj YX YW YV HW3.out hd hp hdl hn XV hby hf YT YQ YP
   clear YY k0 k1 k2 k3 k4 k5 k6 k7 k8 k9 k10 k11 xP yE rG Z5;generalize (W.alloc _).alloc _=W2 at *;have n0:=T.out.cl 0 _ rfl;have n1:=T.out.cl 1 _ rfl;have o0:=ZZ.out.cl 0 _ rfl;have o1:=ZZ.out.cl 1 _ rfl
   cases G0 with
   | true =>
    have ex:=ZE.out rfl
    cases G1 with
    | false =>
     have hR:RES=Xx Z7 ps S L limit x0 x1 false:=by
      rw [Um.out,ex]
      simp
      exact SK _ _ _ _ _ _ _ _
     clear Um ZE HXB ex;go_wp2;exact ZU.out _ _ _ _ _ _ _ _ _ _ _ _ _ _ _ _ _ _ _ _ _ _ W2 false x0 x1 ZD.out T.out ZZ.out (qv.out (by simp)) (fun h=>by cases h) hR
    | true =>
     have ey:=HXB.out rfl
     by_cases hgt:x0.g<x1.g
     · have hR:RES=Xx Z7 ps S L limit x1 x0 true:=by
        have h9:nG (blk (ZC Z7 ps) 0)<nG (blk (ZC Z7 ps) 1):=by
         rw [ex,ey] at hgt;exact hgt
        rw [Um.out,ex,ey]
        simp [h9]
       clear Um ZE HXB ex ey;have k0:=U.out.k0;have k1:=U.out.k1;have k2:=U.out.k2;have k3:=U.out.k3;have k4:=U.out.k4;have k5:=U.out.k5;have k6:=U.out.k6;have k7:=U.out.k7;have k8:=U.out.k8;have k9:=U.out.k9;have k10:=U.out.k10;have k11:=U.out.k11;have q0:=T.out.cl 0 _ rfl;have YB:=T.out.fz 0;have q1:=T.out.cl 1 _ rfl;have YA:=T.out.fz 1;have q2:=T.out.cl 2 _ rfl;have Yz:=T.out.fz 2;have q3:=T.out.cl 3 _ rfl;have Yy:=T.out.fz 3;have q4:=T.out.cl 4 _ rfl;have Yx:=T.out.fz 4;have q5:=T.out.cl 5 _ rfl;have Yw:=T.out.fz 5;clear n0 n1 o0 o1;have n0:=T.out.cl 0 _ rfl;have n1:=T.out.cl 1 _ rfl;have o0:=ZZ.out.cl 0 _ rfl;have o1:=ZZ.out.cl 1 _ rfl;have Zw:Hid (St ((((((W2.setCell ⟨W.heap.size,0,none⟩ (.bool true)).setCell ⟨W.heap.size,1,none⟩ (.int .i64 x1.g)).setCell ⟨W.heap.size,2,none⟩ (.int .i64 x1.b)).setCell ⟨W.heap.size,3,none⟩ (.int .i64 x1.s)).setCell ⟨W.heap.size,4,none⟩ (.int .i64 x1.l)).setCell ⟨W.heap.size,5,none⟩ (.int .i64 x1.c)) W.heap.size [.bool true,.int .i64 x1.g,.int .i64 x1.b,.int .i64 x1.s,.int .i64 x1.l,.int .i64 x1.c]):=((((((T.out.set 0 (.bool true)).set 1 (.int .i64 x1.g)).set 2 (.int .i64 x1.b)).set 3 (.int .i64 x1.s)).set 4 (.int .i64 x1.l)).set 5 (.int .i64 x1.c));have Q:Hid (St ((((((W2.setCell ⟨W.heap.size,0,none⟩ (.bool true)).setCell ⟨W.heap.size,1,none⟩ (.int .i64 x1.g)).setCell ⟨W.heap.size,2,none⟩ (.int .i64 x1.b)).setCell ⟨W.heap.size,3,none⟩ (.int .i64 x1.s)).setCell ⟨W.heap.size,4,none⟩ (.int .i64 x1.l)).setCell ⟨W.heap.size,5,none⟩ (.int .i64 x1.c)) (W.heap.size+1) [.bool true,.int .i64 x1.g,.int .i64 x1.b,.int .i64 x1.s,.int .i64 x1.l,.int .i64 x1.c]):=((((((ZZ.out.other (by omega)).other (by omega)).other (by omega)).other (by omega)).other (by omega)).other (by omega));have D:Hid (Below W.heap.size W2 ((((((W2.setCell ⟨W.heap.size,0,none⟩ (.bool true)).setCell ⟨W.heap.size,1,none⟩ (.int .i64 x1.g)).setCell ⟨W.heap.size,2,none⟩ (.int .i64 x1.b)).setCell ⟨W.heap.size,3,none⟩ (.int .i64 x1.s)).setCell ⟨W.heap.size,4,none⟩ (.int .i64 x1.l)).setCell ⟨W.heap.size,5,none⟩ (.int .i64 x1.c))):=by
        iterate 6 refine Zf ?_ (by show W.heap.size≤W.heap.size;omega) _
        exact ZR
       have m0:=(D.out.cell (p:=⟨SB,0,none⟩) G).trans k0;have m1:=(D.out.cell (p:=⟨SB,1,none⟩) G).trans k1;have m2:=(D.out.cell (p:=⟨SB,2,none⟩) G).trans k2;have m3:=(D.out.cell (p:=⟨SB,3,none⟩) G).trans k3;have m4:=(D.out.cell (p:=⟨SB,4,none⟩) G).trans k4;have m5:=(D.out.cell (p:=⟨SB,5,none⟩) G).trans k5;have p0:=Q.out.cl 0 _ rfl;have vP:=Q.out.fz 0;have p1:=Q.out.cl 1 _ rfl;have vO:=Q.out.fz 1;have p2:=Q.out.cl 2 _ rfl;have qr:=Q.out.fz 2;have p3:=Q.out.cl 3 _ rfl;have qq:=Q.out.fz 3;have p4:=Q.out.cl 4 _ rfl;have qp:=Q.out.fz 4;have p5:=Q.out.cl 5 _ rfl;have Yv:=Q.out.fz 5;have Zb:Hid (St ((((((((((((W2.setCell ⟨W.heap.size,0,none⟩ (.bool true)).setCell ⟨W.heap.size,1,none⟩ (.int .i64 x1.g)).setCell ⟨W.heap.size,2,none⟩ (.int .i64 x1.b)).setCell ⟨W.heap.size,3,none⟩ (.int .i64 x1.s)).setCell ⟨W.heap.size,4,none⟩ (.int .i64 x1.l)).setCell ⟨W.heap.size,5,none⟩ (.int .i64 x1.c)).setCell ⟨(W.heap.size+1),0,none⟩ (.bool true)).setCell ⟨(W.heap.size+1),1,none⟩ (.int .i64 x0.g)).setCell ⟨(W.heap.size+1),2,none⟩ (.int .i64 x0.b)).setCell ⟨(W.heap.size+1),3,none⟩ (.int .i64 x0.s)).setCell ⟨(W.heap.size+1),4,none⟩ (.int .i64 x0.l)).setCell ⟨(W.heap.size+1),5,none⟩ (.int .i64 x0.c)) W.heap.size [.bool true,.int .i64 x1.g,.int .i64 x1.b,.int .i64 x1.s,.int .i64 x1.l,.int .i64 x1.c]):=((((((Zw.out.other (by omega)).other (by omega)).other (by omega)).other (by omega)).other (by omega)).other (by omega));have Za:Hid (St ((((((((((((W2.setCell ⟨W.heap.size,0,none⟩ (.bool true)).setCell ⟨W.heap.size,1,none⟩ (.int .i64 x1.g)).setCell ⟨W.heap.size,2,none⟩ (.int .i64 x1.b)).setCell ⟨W.heap.size,3,none⟩ (.int .i64 x1.s)).setCell ⟨W.heap.size,4,none⟩ (.int .i64 x1.l)).setCell ⟨W.heap.size,5,none⟩ (.int .i64 x1.c)).setCell ⟨(W.heap.size+1),0,none⟩ (.bool true)).setCell ⟨(W.heap.size+1),1,none⟩ (.int .i64 x0.g)).setCell ⟨(W.heap.size+1),2,none⟩ (.int .i64 x0.b)).setCell ⟨(W.heap.size+1),3,none⟩ (.int .i64 x0.s)).setCell ⟨(W.heap.size+1),4,none⟩ (.int .i64 x0.l)).setCell ⟨(W.heap.size+1),5,none⟩ (.int .i64 x0.c)) (W.heap.size+1) [.bool true,.int .i64 x0.g,.int .i64 x0.b,.int .i64 x0.s,.int .i64 x0.l,.int .i64 x0.c]):=((((((Q.out.set 0 (.bool true)).set 1 (.int .i64 x0.g)).set 2 (.int .i64 x0.b)).set 3 (.int .i64 x0.s)).set 4 (.int .i64 x0.l)).set 5 (.int .i64 x0.c));have Y':Hid (PE w (.slice ao Z7.length ca) (.slice bo ps.length cb) S L ((((((((((((W2.setCell ⟨W.heap.size,0,none⟩ (.bool true)).setCell ⟨W.heap.size,1,none⟩ (.int .i64 x1.g)).setCell ⟨W.heap.size,2,none⟩ (.int .i64 x1.b)).setCell ⟨W.heap.size,3,none⟩ (.int .i64 x1.s)).setCell ⟨W.heap.size,4,none⟩ (.int .i64 x1.l)).setCell ⟨W.heap.size,5,none⟩ (.int .i64 x1.c)).setCell ⟨(W.heap.size+1),0,none⟩ (.bool true)).setCell ⟨(W.heap.size+1),1,none⟩ (.int .i64 x0.g)).setCell ⟨(W.heap.size+1),2,none⟩ (.int .i64 x0.b)).setCell ⟨(W.heap.size+1),3,none⟩ (.int .i64 x0.s)).setCell ⟨(W.heap.size+1),4,none⟩ (.int .i64 x0.l)).setCell ⟨(W.heap.size+1),5,none⟩ (.int .i64 x0.c))):=ZD.out.ZL (m:=W.heap.size) (by
        iterate 6 refine Zf ?_ (by show W.heap.size≤W.heap.size+1;omega) _
        exact D.out) HW3.out
       clear U T ZZ ZD D Zw Q;go_wp2;exact ZU.out _ _ _ _ _ _ _ _ _ _ _ _ _ _ _ _ _ _ _ _ _ _ _ true x1 x0 Y'.out Zb.out Za.out (Zd.out (by simp)) (fun _=>qv.out (by simp)) hR
     have hR:RES=Xx Z7 ps S L limit x0 x1 true:=by
      have h9:¬nG (blk (ZC Z7 ps) 0)<nG (blk (ZC Z7 ps) 1):=by
       rw [ex,ey] at hgt;exact hgt
      rw [Um.out,ex,ey]
      simp [h9]
     clear Um ZE HXB ex ey;go_wp2;exact ZU.out _ _ _ _ _ _ _ _ _ _ _ _ _ _ _ _ _ _ _ _ _ _ W2 true x0 x1 ZD.out T.out ZZ.out (qv.out (by simp)) (fun _=>Zd.out (by simp)) hR
   | false =>
    have hG1:G1=true:=by rcases hg with h9 | h9 <;> simp_all
    subst hG1;have ey:=HXB.out rfl;have hR:RES=Xx Z7 ps S L limit x1 x0 false:=by
     rw [Um.out,ey]
     simp
     exact SK _ _ _ _ _ _ _ _
    clear Um ZE HXB ey;have k0:=U.out.k0;have k1:=U.out.k1;have k2:=U.out.k2;have k3:=U.out.k3;have k4:=U.out.k4;have k5:=U.out.k5;have k6:=U.out.k6;have k7:=U.out.k7;have k8:=U.out.k8;have k9:=U.out.k9;have k10:=U.out.k10;have k11:=U.out.k11;have q0:=T.out.cl 0 _ rfl;have YB:=T.out.fz 0;have q1:=T.out.cl 1 _ rfl;have YA:=T.out.fz 1;have q2:=T.out.cl 2 _ rfl;have Yz:=T.out.fz 2;have q3:=T.out.cl 3 _ rfl;have Yy:=T.out.fz 3;have q4:=T.out.cl 4 _ rfl;have Yx:=T.out.fz 4;have q5:=T.out.cl 5 _ rfl;have Yw:=T.out.fz 5;clear n0 n1 o0 o1;have n0:=T.out.cl 0 _ rfl;have n1:=T.out.cl 1 _ rfl;have o0:=ZZ.out.cl 0 _ rfl;have o1:=ZZ.out.cl 1 _ rfl;have Zw:Hid (St ((((((W2.setCell ⟨W.heap.size,0,none⟩ (.bool true)).setCell ⟨W.heap.size,1,none⟩ (.int .i64 x1.g)).setCell ⟨W.heap.size,2,none⟩ (.int .i64 x1.b)).setCell ⟨W.heap.size,3,none⟩ (.int .i64 x1.s)).setCell ⟨W.heap.size,4,none⟩ (.int .i64 x1.l)).setCell ⟨W.heap.size,5,none⟩ (.int .i64 x1.c)) W.heap.size [.bool true,.int .i64 x1.g,.int .i64 x1.b,.int .i64 x1.s,.int .i64 x1.l,.int .i64 x1.c]):=((((((T.out.set 0 (.bool true)).set 1 (.int .i64 x1.g)).set 2 (.int .i64 x1.b)).set 3 (.int .i64 x1.s)).set 4 (.int .i64 x1.l)).set 5 (.int .i64 x1.c));have Q:Hid (St ((((((W2.setCell ⟨W.heap.size,0,none⟩ (.bool true)).setCell ⟨W.heap.size,1,none⟩ (.int .i64 x1.g)).setCell ⟨W.heap.size,2,none⟩ (.int .i64 x1.b)).setCell ⟨W.heap.size,3,none⟩ (.int .i64 x1.s)).setCell ⟨W.heap.size,4,none⟩ (.int .i64 x1.l)).setCell ⟨W.heap.size,5,none⟩ (.int .i64 x1.c)) (W.heap.size+1) [.bool true,.int .i64 x1.g,.int .i64 x1.b,.int .i64 x1.s,.int .i64 x1.l,.int .i64 x1.c]):=((((((ZZ.out.other (by omega)).other (by omega)).other (by omega)).other (by omega)).other (by omega)).other (by omega));have D:Hid (Below W.heap.size W2 ((((((W2.setCell ⟨W.heap.size,0,none⟩ (.bool true)).setCell ⟨W.heap.size,1,none⟩ (.int .i64 x1.g)).setCell ⟨W.heap.size,2,none⟩ (.int .i64 x1.b)).setCell ⟨W.heap.size,3,none⟩ (.int .i64 x1.s)).setCell ⟨W.heap.size,4,none⟩ (.int .i64 x1.l)).setCell ⟨W.heap.size,5,none⟩ (.int .i64 x1.c))):=by
     iterate 6 refine Zf ?_ (by show W.heap.size≤W.heap.size;omega) _
     exact ZR
    have m0:=(D.out.cell (p:=⟨SB,0,none⟩) G).trans k0;have m1:=(D.out.cell (p:=⟨SB,1,none⟩) G).trans k1;have m2:=(D.out.cell (p:=⟨SB,2,none⟩) G).trans k2;have m3:=(D.out.cell (p:=⟨SB,3,none⟩) G).trans k3;have m4:=(D.out.cell (p:=⟨SB,4,none⟩) G).trans k4;have m5:=(D.out.cell (p:=⟨SB,5,none⟩) G).trans k5;have p0:=Q.out.cl 0 _ rfl;have vP:=Q.out.fz 0;have p1:=Q.out.cl 1 _ rfl;have vO:=Q.out.fz 1;have p2:=Q.out.cl 2 _ rfl;have qr:=Q.out.fz 2;have p3:=Q.out.cl 3 _ rfl;have qq:=Q.out.fz 3;have p4:=Q.out.cl 4 _ rfl;have qp:=Q.out.fz 4;have p5:=Q.out.cl 5 _ rfl;have Yv:=Q.out.fz 5;have Zb:Hid (St ((((((((((((W2.setCell ⟨W.heap.size,0,none⟩ (.bool true)).setCell ⟨W.heap.size,1,none⟩ (.int .i64 x1.g)).setCell ⟨W.heap.size,2,none⟩ (.int .i64 x1.b)).setCell ⟨W.heap.size,3,none⟩ (.int .i64 x1.s)).setCell ⟨W.heap.size,4,none⟩ (.int .i64 x1.l)).setCell ⟨W.heap.size,5,none⟩ (.int .i64 x1.c)).setCell ⟨(W.heap.size+1),0,none⟩ (.bool false)).setCell ⟨(W.heap.size+1),1,none⟩ (.int .i64 x0.g)).setCell ⟨(W.heap.size+1),2,none⟩ (.int .i64 x0.b)).setCell ⟨(W.heap.size+1),3,none⟩ (.int .i64 x0.s)).setCell ⟨(W.heap.size+1),4,none⟩ (.int .i64 x0.l)).setCell ⟨(W.heap.size+1),5,none⟩ (.int .i64 x0.c)) W.heap.size [.bool true,.int .i64 x1.g,.int .i64 x1.b,.int .i64 x1.s,.int .i64 x1.l,.int .i64 x1.c]):=((((((Zw.out.other (by omega)).other (by omega)).other (by omega)).other (by omega)).other (by omega)).other (by omega));have Za:Hid (St ((((((((((((W2.setCell ⟨W.heap.size,0,none⟩ (.bool true)).setCell ⟨W.heap.size,1,none⟩ (.int .i64 x1.g)).setCell ⟨W.heap.size,2,none⟩ (.int .i64 x1.b)).setCell ⟨W.heap.size,3,none⟩ (.int .i64 x1.s)).setCell ⟨W.heap.size,4,none⟩ (.int .i64 x1.l)).setCell ⟨W.heap.size,5,none⟩ (.int .i64 x1.c)).setCell ⟨(W.heap.size+1),0,none⟩ (.bool false)).setCell ⟨(W.heap.size+1),1,none⟩ (.int .i64 x0.g)).setCell ⟨(W.heap.size+1),2,none⟩ (.int .i64 x0.b)).setCell ⟨(W.heap.size+1),3,none⟩ (.int .i64 x0.s)).setCell ⟨(W.heap.size+1),4,none⟩ (.int .i64 x0.l)).setCell ⟨(W.heap.size+1),5,none⟩ (.int .i64 x0.c)) (W.heap.size+1) [.bool false,.int .i64 x0.g,.int .i64 x0.b,.int .i64 x0.s,.int .i64 x0.l,.int .i64 x0.c]):=((((((Q.out.set 0 (.bool false)).set 1 (.int .i64 x0.g)).set 2 (.int .i64 x0.b)).set 3 (.int .i64 x0.s)).set 4 (.int .i64 x0.l)).set 5 (.int .i64 x0.c));have Y':Hid (PE w (.slice ao Z7.length ca) (.slice bo ps.length cb) S L ((((((((((((W2.setCell ⟨W.heap.size,0,none⟩ (.bool true)).setCell ⟨W.heap.size,1,none⟩ (.int .i64 x1.g)).setCell ⟨W.heap.size,2,none⟩ (.int .i64 x1.b)).setCell ⟨W.heap.size,3,none⟩ (.int .i64 x1.s)).setCell ⟨W.heap.size,4,none⟩ (.int .i64 x1.l)).setCell ⟨W.heap.size,5,none⟩ (.int .i64 x1.c)).setCell ⟨(W.heap.size+1),0,none⟩ (.bool false)).setCell ⟨(W.heap.size+1),1,none⟩ (.int .i64 x0.g)).setCell ⟨(W.heap.size+1),2,none⟩ (.int .i64 x0.b)).setCell ⟨(W.heap.size+1),3,none⟩ (.int .i64 x0.s)).setCell ⟨(W.heap.size+1),4,none⟩ (.int .i64 x0.l)).setCell ⟨(W.heap.size+1),5,none⟩ (.int .i64 x0.c))):=ZD.out.ZL (m:=W.heap.size) (by
     iterate 6 refine Zf ?_ (by show W.heap.size≤W.heap.size+1;omega) _
     exact D.out) HW3.out
    clear U T ZZ ZD D Zw Q;go_wp2;exact ZU.out _ _ _ _ _ _ _ _ _ _ _ _ _ _ _ _ _ _ _ _ _ _ _ false x1 x0 Y'.out Zb.out Za.out (Zd.out (by simp)) (fun h=>by cases h) hR
  clear h10
  cases h0:Ww S (blk (ZC Z7 ps) 0) with
  | false =>
   cases h1:Ww S (blk (ZC Z7 ps) 1) with
   | false =>
    rw [h0,h1] at Um;rw [h0] at k0;rw [h1] at k6;have BE:Hid (ZX w (Xt wr (w.heap.size+1+1) (Zq 3) (.slice none 0 0) (.slice none 0 0) (.slice none 0 0))):=S7.out.YJ.trans ((VD _ _ _ _ _ _).mono (by omega));obtain ⟨e0,e1,e2,e3,e4,e5,e6,e7,e8,e9,e10,e11⟩:=Xl (r:=Zq 3) (vt:=.slice none 0 0) (v1:=.slice none 0 0) (v2:=.slice none 0 0) S7.out.rx;unfold Xt Zq at BE e0 e1 e2 e3 e4 e5 e6 e7 e8 e9 e10 e11;dsimp only at BE e0 e1 e2 e3 e4 e5 e6 e7 e8 e9 e10 e11;have HP:Hid (∀w',ZX w w'→Yn w RES (.returned (.agg #[.int .i64 3,.int .i64 0,.int .i64 0,.int .i64 0,.int .i64 0,.int .i64 0,.int .i64 0,.slice none 0 0,.int .i64 0,.int .i64 0,.slice none 0 0,.slice none 0 0])) w'):=by
     intro w' hb;rw [Um.out]
     simp only [and_self,Rb]
     exact U3 rfl rfl rfl hb
    clear S7 ZG Um ZK;go_wp2;generalize ((((((((((((wr).setCell _ _).setCell _ _).setCell _ _).setCell _ _).setCell _ _).setCell _ _).setCell _ _).setCell _ _).setCell _ _).setCell _ _).setCell _ _).setCell _ _=wE at *;exact ZT (v:=.agg #[.int .i64 3,.int .i64 0,.int .i64 0,.int .i64 0,.int .i64 0,.int .i64 0,.int .i64 0,.slice none 0 0,.int .i64 0,.int .i64 0,.slice none 0 0,.slice none 0 0]) (by simp [results,Tryz.results5,go_sem,e0,e1,e2,e3,e4,e5,e6,e7,e8,e9,e10,e11]) rfl (HP.out _ BE.out)
   | true =>
    rw [h0] at k0;rw [h1] at k6;go_wp2;exact ZK.out _ _ _ _ _ _ _ _ _ _ _ _ _ S7.out ZG.out (.inr h1)
  | true =>
   rw [h0] at k0;go_wp2;exact ZK.out _ _ _ _ _ _ _ _ _ _ _ _ _ S7.out ZG.out (.inl h0)
end Go.Proofs.YtmmmffcbfepghaaGreatDoor
