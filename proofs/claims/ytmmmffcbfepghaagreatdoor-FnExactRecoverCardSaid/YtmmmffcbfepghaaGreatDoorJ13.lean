import Derived.Test.YtmmmffcbfepghaaGreatDoorJ12B
set_option maxRecDepth 100000
set_option maxHeartbeats 16000000
set_option linter.unusedVariables false
set_option linter.unusedSimpArgs false
namespace Go.Proofs.YtmmmffcbfepghaaGreatDoor
open Go.RowKit Go.Shelf
variable {L S ZN:Int} {Q ps:List (Int × List Int)} {D Z7 log xs ys:List Int} {ns:List Nd} {OL:List Value} {B NB OB a b dl g hi lo m n:Nat} {r:UD} {x:YU} {v v1 v2 va vb Ru vt:Value} {W W' w:World}
structure xS (w:World) (vt:Value) (W:World):Prop where
 YJ:ZX w W
 sx:St W w.heap.size [vt]
theorem xS.below (h:xS w vt W) (hb:ZX W W'):xS w vt W' :=
 ⟨h.YJ.trans (hb.mono h.YJ.size),h.sx.below hb⟩
theorem xS.new (w:World) (vt:Value):xS w vt ((w.alloc (.cells #[vt] 33)).alloc (.cells #[.slice none 0 0,.int .i64 0,.int .i64 0,.int .i64 0] 60))∧St ((w.alloc (.cells #[vt] 33)).alloc (.cells #[.slice none 0 0,.int .i64 0,.int .i64 0,.int .i64 0] 60)) (w.heap.size+1) [.slice none 0 0,.int .i64 0,.int .i64 0,.int .i64 0]:=by
 refine ⟨⟨(ZR.alloc ZW _).alloc (by simp) _,(St.new w _ _).below (ZR.alloc ZW _)⟩,?_⟩;have h9:=St.new (w.alloc (.cells #[vt] 33)) #[.slice none 0 0,.int .i64 0,.int .i64 0,.int .i64 0] 60;rw [XE] at h9;exact h9
theorem Sc (w:World) (b g N C:Nat) (S L start xb:Int) (ta:Option Addr) (tc:Nat) (ns:List Nd) (cont:List Int) (htr:VL w (.slice ta ns.length tc) ns) (hnn:ns.length≤1048576) (hsz:∀i,(Zy ns i).path.size≤1048576∧(Zy ns i).data.size≤1048576) (c0:w.cell? ⟨b,0,none⟩=some (.int .i64 S)) (c1:w.cell? ⟨b,1,none⟩=some (.int .i64 L)) (c6:w.cell? ⟨b,6,none⟩=some (.slice (some ⟨g,0,none⟩) N C)) (hlt:b<w.heap.size) (hr:Rd .u8 w (.slice (some ⟨g,0,none⟩) N C) cont) (hby:YL cont) (hN:cont.length=N) (NA:N≤1048576) (hc:Xh S L=true) (Hf:2+2*(S+L)≤((N / 64:Nat):Int)) (hb:0≤xb∧xb≤1) :
    Calls Tryz.prog 74 #[.pointer (some ⟨b,0,none⟩),.agg #[.slice ta ns.length tc],.int .i64 start,.int .i64 xb] w (VG w ns start (YR cont (YM S L xb true).toNat L.toNat)):=by
 obtain ⟨⟨hS1,hS2⟩,hL1,hL2⟩:=(Zs S L).1 hc;obtain ⟨sn,rfl⟩:∃sn:Nat,L=(sn:Int):=⟨L.toNat,by omega⟩;rw [XT];obtain ⟨f,hf⟩:∃f:Nat,YM S (sn:Int) xb true=(f:Int):=⟨(YM S (sn:Int) xb true).toNat,by
  have hk:xb=0∨xb=1:=by omega
  unfold YM
  rcases hk with rfl | rfl <;> simp <;> omega⟩
 have qC:(f+sn)*64≤N:=by
  have hk:xb=0∨xb=1:=by omega
  unfold YM at hf;have h2:N / 64*64≤N:=Bj _ _
  rcases hk with rfl | rfl <;> simp at hf <;> omega
 have qB:N≤C:=by
  obtain ⟨a8,c8,h8,h7,h6⟩:=hr.len
  simp only [Zc] at h8
  obtain ⟨-,h5,rfl⟩:=h8;omega
 rw [hf,XT];have hal:(YR cont f sn).length=sn*64:=VE _ _ _ (by omega);have HR:Hid (∀W,ZX w W→Rd .u8 W (.slice (some ⟨g,f*64,none⟩) (YR cont f sn).length (C - f*64)) (YR cont f sn)):=by
  intro W hW;have h9:=Rd.part (hr.below hW) hN (f*64) (sn*64) (by omega);rw [Wn] at h9;rw [hal];exact h9
 have Xe:Hid (YL (YR cont f sn)):=fun y hy=>hby y (Wf (Vp hy))
 have S0:Hid (xS w (.slice ta ns.length tc) ((w.alloc (.cells #[.slice ta ns.length tc] 33)).alloc (.cells #[.slice none 0 0,.int .i64 0,.int .i64 0,.int .i64 0] 60))):=(xS.new _ _).1;have R0:Hid (St ((w.alloc (.cells #[.slice ta ns.length tc] 33)).alloc (.cells #[.slice none 0 0,.int .i64 0,.int .i64 0,.int .i64 0] 60)) (w.heap.size+1) [.slice none 0 0,.int .i64 0,.int .i64 0,.int .i64 0]):=(xS.new _ _).2;have xU:Hid (∀W,Calls Tryz.prog 107 #[.agg #[.int .i64 S,.int .i64 (sn:Int)],.int .i64 xb] W (Ze W (.agg #[.int .i64 (f:Int),.int .i64 (sn:Int)]))):=by
  intro W;have h9:=PF W S (sn:Int) xb hc hb;rw [hf,show Rx S (sn:Int) true=(sn:Int) from rfl] at h9;exact h9
 have Bz:Hid (∀W,Calls Tryz.prog 103 #[.agg #[.int .i64 (f:Int),.int .i64 (sn:Int)],.slice (some ⟨g,0,none⟩) N C] W (Ze W (.slice (some ⟨g,f*64,none⟩) (YR cont f sn).length (C - f*64)))):=by
  intro W;rw [hal];exact Nw W g N C f sn qC (by omega) qB NA
 have FB:Hid (∀W,ZX w W→Calls Tryz.prog 106 #[.agg #[.slice ta ns.length tc],.int .i64 start,.slice (some ⟨g,f*64,none⟩) (YR cont f sn).length (C - f*64)] W (VG W ns start (YR cont f sn))):=fun W hW =>
  NK W ta tc ns start _ _ (YR cont f sn) (htr.below hW) hnn hsz (HR.out W hW) Xe.out (by omega) (.inr ⟨_,_,rfl⟩)
 have Vz:Hid (w.cell? ⟨b,0,none⟩=some (.int .i64 S)∧w.cell? ⟨b,1,none⟩=some (.int .i64 (sn:Int))∧w.cell? ⟨b,6,none⟩=some (.slice (some ⟨g,0,none⟩) N C)):=⟨c0,c1,c6⟩;clear hr c0 c1 c6 hc hf hby htr HR Xe hal hsz;generalize YR cont f sn=IM at *;generalize IM.length=il at *;generalize C - f*64=c9 at *;generalize f*64=fo at *;clear qC qB Hf hN NA
 go_enter Tryz.func74,Tryz.ntmps74
 go_wp2_with fail
 generalize (w.alloc _).alloc _=w0 at *;have Sd:=Z8 (S0.out.below (below_drewN' w0 1));have Z:=Z8 (R0.out.below (below_drewN' w0 1));refine ZF (S:=xS w (.slice ta ns.length tc)) (by kernel_rfl) (Sd.out) (fun Z9=>?_)
 iterate 7 (refine ZV ?_ (by kernel_rfl) (fun _=>id) Z9 ?_ ?_;rotate_left;· intro w9 Z4;have k0:=(Z4.YJ.cell (p:=⟨b,0,none⟩) hlt).trans Vz.out.1;have k1:=(Z4.YJ.cell (p:=⟨b,1,none⟩) hlt).trans Vz.out.2.1;have k6:=(Z4.YJ.cell (p:=⟨b,6,none⟩) hlt).trans Vz.out.2.2;have x0:=Z4.sx.cl 0 _ rfl;clear Z4;go_simp;try with_reducible rfl)
 refine ZA 8 ?v8 rfl (by kernel_rfl) (fun _=>id) Z9 ?qz ?_
 case qz =>
  intro w9 Z4;have k0:=(Z4.YJ.cell (p:=⟨b,0,none⟩) hlt).trans Vz.out.1;have k1:=(Z4.YJ.cell (p:=⟨b,1,none⟩) hlt).trans Vz.out.2.1;have k6:=(Z4.YJ.cell (p:=⟨b,6,none⟩) hlt).trans Vz.out.2.2;have x0:=Z4.sx.cl 0 _ rfl;clear Z4;go_simp
  try with_reducible rfl
 refine ZA 9 ?v9 rfl (by kernel_rfl) (fun _=>id) Z9 ?oY ?_
 case oY =>
  intro w9 Z4;have k0:=(Z4.YJ.cell (p:=⟨b,0,none⟩) hlt).trans Vz.out.1;have k1:=(Z4.YJ.cell (p:=⟨b,1,none⟩) hlt).trans Vz.out.2.1;have k6:=(Z4.YJ.cell (p:=⟨b,6,none⟩) hlt).trans Vz.out.2.2;have x0:=Z4.sx.cl 0 _ rfl;clear Z4;go_simp
  try with_reducible rfl
 refine ZA 10 ?v10 rfl (by kernel_rfl) (fun _=>id) Z9 ?sP ?_
 case sP =>
  intro w9 Z4;have k0:=(Z4.YJ.cell (p:=⟨b,0,none⟩) hlt).trans Vz.out.1;have k1:=(Z4.YJ.cell (p:=⟨b,1,none⟩) hlt).trans Vz.out.2.1;have k6:=(Z4.YJ.cell (p:=⟨b,6,none⟩) hlt).trans Vz.out.2.2;have x0:=Z4.sx.cl 0 _ rfl;clear Z4;go_simp
  try with_reducible rfl
 refine ZA 11 (.slice (some ⟨g,0,none⟩) N C) rfl (by kernel_rfl) (fun _=>id) Z9 ?yM ?_
 case yM =>
  intro w9 Z4;have k0:=(Z4.YJ.cell (p:=⟨b,0,none⟩) hlt).trans Vz.out.1;have k1:=(Z4.YJ.cell (p:=⟨b,1,none⟩) hlt).trans Vz.out.2.1;have k6:=(Z4.YJ.cell (p:=⟨b,6,none⟩) hlt).trans Vz.out.2.2;have x0:=Z4.sx.cl 0 _ rfl;clear Z4;go_simp
 refine ZS 7 rfl (by kernel_rfl) (fun K hK=>?_);go_simp;refine (xU.out _).mono ?_;rintro e w1 ⟨rfl,b1⟩;have N1:=Z9.below b1;have R1:=Z.out.below b1;clear b1;refine hK.out _ _ N1 (fun ZI=>?_);clear hK K Z9;have Z9:=ZI;clear ZI;refine ZS 12 rfl (by kernel_rfl) (fun K hK=>?_);go_simp;refine (Bz.out _).mono ?_;rintro e w2 ⟨rfl,b2⟩;have N2:=Z9.below b2;have R2:=R1.below b2;clear b2;refine hK.out _ _ N2 (fun ZI=>?_);clear hK K Z9;have Z9:=ZI;clear ZI;refine ZS 13 rfl (by kernel_rfl) (fun K hK=>?_);go_simp;refine (FB.out _ Z9.YJ).mono ?_;rintro e w3 ⟨va,vc,rfl,o3,b3⟩;have N3:=Z9.below b3;have R3:=R2.below b3;have O3:=Z8 o3;clear b3 o3;refine hK.out _ _ N3 (fun ZI=>?_);clear hK K Z9;have Z9:=ZI;clear ZI;have t0:=R3.cl 0 _ rfl;have t1:=R3.cl 1 _ rfl;have t2:=R3.cl 2 _ rfl;have t3:=R3.cl 3 _ rfl;have f0:=R3.fz 0;have f1:=R3.fz 1;have f2:=R3.fz 2;have f3:=R3.fz 3;have SE:Hid (St ((((w3.setCell ⟨w.heap.size+1,0,none⟩ (.slice va (Y6 ns start IM).1.length vc)).setCell ⟨w.heap.size+1,1,none⟩ (.int .i64 (Y6 ns start IM).2.1)).setCell ⟨w.heap.size+1,2,none⟩ (.int .i64 (((Y6 ns start IM).2.2:Nat):Int))).setCell ⟨w.heap.size+1,3,none⟩ (.int .i64 (SM ns start IM))) (w.heap.size+1) [(.slice va (Y6 ns start IM).1.length vc),(.int .i64 (Y6 ns start IM).2.1),(.int .i64 (((Y6 ns start IM).2.2:Nat):Int)),(.int .i64 (SM ns start IM))]):=((((R3.set 0 (.slice va (Y6 ns start IM).1.length vc)).set 1 (.int .i64 (Y6 ns start IM).2.1)).set 2 (.int .i64 (((Y6 ns start IM).2.2:Nat):Int))).set 3 (.int .i64 (SM ns start IM)));have BE:Hid (ZX w ((((w3.setCell ⟨w.heap.size+1,0,none⟩ (.slice va (Y6 ns start IM).1.length vc)).setCell ⟨w.heap.size+1,1,none⟩ (.int .i64 (Y6 ns start IM).2.1)).setCell ⟨w.heap.size+1,2,none⟩ (.int .i64 (((Y6 ns start IM).2.2:Nat):Int))).setCell ⟨w.heap.size+1,3,none⟩ (.int .i64 (SM ns start IM)))):=by
  iterate 4 refine Zf ?_ (by show w.heap.size≤w.heap.size+1;omega) _
  exact N3.YJ
 have OE:Hid (ZU 134 ((((w3.setCell ⟨w.heap.size+1,0,none⟩ (.slice va (Y6 ns start IM).1.length vc)).setCell ⟨w.heap.size+1,1,none⟩ (.int .i64 (Y6 ns start IM).2.1)).setCell ⟨w.heap.size+1,2,none⟩ (.int .i64 (((Y6 ns start IM).2.2:Nat):Int))).setCell ⟨w.heap.size+1,3,none⟩ (.int .i64 (SM ns start IM))) w.heap.size (.slice va (Y6 ns start IM).1.length vc) (Y6 ns start IM).1):=by
  have hne:(Value.slice va (Y6 ns start IM).1.length vc).ownBlock=none∨(Value.slice va (Y6 ns start IM).1.length vc).ownBlock≠some (w.heap.size+1):=.inr (fun e=>by have:=(ZO O3.out _ e).1;have:=R2.lt;omega);have o5:=ZU.mono O3.out N2.YJ.size;exact Yy (Yy (Yy (Yy o5 (grownBy_set _ _ (w.heap.size+1) 0 _ (YT _ _)) hne) (grownBy_set _ _ (w.heap.size+1) 1 _ (YT _ _)) hne) (grownBy_set _ _ (w.heap.size+1) 2 _ (YT _ _)) hne) (grownBy_set _ _ (w.heap.size+1) 3 _ (YT _ _)) hne
 refine ZS 14 rfl (by kernel_rfl) (fun K hK=>?_);clear xU Bz FB S0 Sd Vz;have TT:Hid (∀wE va vc,ZU 134 wE w.heap.size (.slice va (Y6 ns start IM).1.length vc) (Y6 ns start IM).1→ZX w wE→VG w ns start IM (.returned (.agg #[.slice va (Y6 ns start IM).1.length vc,.int .i64 (Y6 ns start IM).2.1,.int .i64 (((Y6 ns start IM).2.2:Nat):Int),.int .i64 (SM ns start IM)])) wE):=fun wE va vc ho hb=>⟨va,vc,rfl,ho,hb⟩
 clear O3;generalize hr1:(Y6 ns start IM).1.length=rl at *;generalize (Y6 ns start IM).2.1=r2 at *;generalize (Y6 ns start IM).2.2=r3 at *;generalize SM ns start IM=r4 at *;go_simp;have NE:xS w (.slice ta ns.length tc) ((((w3.setCell ⟨w.heap.size+1,0,none⟩ (.slice va rl vc)).setCell ⟨w.heap.size+1,1,none⟩ (.int .i64 r2)).setCell ⟨w.heap.size+1,2,none⟩ (.int .i64 (r3:Int))).setCell ⟨w.heap.size+1,3,none⟩ (.int .i64 r4)):=⟨BE.out,(((N3.sx.other (by omega)).other (by omega)).other (by omega)).other (by omega)⟩;refine hK.out _ _ NE (fun ZI=>?_);clear hK K ZI;refine ZM (by kernel_rfl) ?_ _
 try simp only [Act.put,Zk,Zj,Zi]
 clear t0 t1 t2 t3 f0 f1 f2 f3 NE N1 N2 N3 R1 R2 R3 Z9 R0 Z;generalize (((w3.setCell _ _).setCell _ _).setCell _ _).setCell _ _=wE at *;go_wp2;have e0:=SE.out.cl 0 _ rfl;have e1:=SE.out.cl 1 _ rfl;have e2:=SE.out.cl 2 _ rfl;have e3:=SE.out.cl 3 _ rfl;refine ZT (v:=.agg #[.slice va rl vc,.int .i64 r2,.int .i64 (r3:Int),.int .i64 r4]) (by simp [results,Tryz.results74,go_sem,e0,e1,e2,e3]) rfl ?_;exact TT.out wE va vc OE.out BE.out
def WY (S L:Int) (vd vp:Value) (lim made:Int) (vc:Value) (cg:Bool) (c:YU) (og:Bool) (o:YU) (code:Int) (vt:Value) (zx cnt en:Int):List Value:=[.int .i64 S,.int .i64 L,vd,vp,.int .i64 lim,.int .i64 made,vc,.bool cg,.int .i64 c.g,.int .i64 c.b,.int .i64 c.s,.int .i64 c.l,.int .i64 c.c,.bool og,.int .i64 o.g,.int .i64 o.b,.int .i64 o.s,.int .i64 o.l,.int .i64 o.c,.int .i64 code,vt,.int .i64 zx,.int .i64 cnt,.int .i64 en]
def TK (S:Int) (ys:List Int):YU:=if Ww S ys=true then Rw ys else ⟨0,0,0,0,0⟩
theorem sO (S:Int) (ys:List Int):qD S ys=.agg #[.bool (Ww S ys),.int .i64 (TK S ys).g,.int .i64 (TK S ys).b,.int .i64 (TK S ys).s,.int .i64 (TK S ys).l,.int .i64 (TK S ys).c]:=by
 unfold qD TK
 by_cases h:Ub ys∧nL ys≤S*64
 · have h2:Ww S ys=true:=by unfold Ww;simp [h.1,h.2]
   rw [ZY h,ZY h2,h2];rfl
 have h2:Ww S ys=false:=by
  unfold Ww
  cases h3:decide (Ub ys) with
  | false=>rfl
  | true =>
   have:¬nL ys≤S*64:=fun h4=>h ⟨EV h3,h4⟩
   simp [this]
 rw [Z3 h,Z3 (by rw [h2];simp),h2]
def yK (w:World) (b:Nat) (S L:Int) (vd vp:Value) (lim made:Int) (vc:Value) (code:Int) (vt:Value) (zx cnt en:Int) (g0 g1:Bool) (x0 x1:YU) (e:Ending) (w':World):Prop :=
 ∃(xg:Bool) (x:YU) (yg:Bool) (y:YU),e=.returned (.int .i64 (if xg=true then 1 else 4))∧St w' b (WY S L vd vp lim made vc xg x yg y code vt zx cnt en)∧Tw w b none w' none ∧
     ((¬x0.g<x1.g∧xg=g0∧x=x0∧yg=g1∧y=x1)∨(x0.g<x1.g∧xg=g1∧x=x1∧yg=g0∧y=x0))
theorem yJ (w:World) (b g N C:Nat) (S L:Int) (vd vp:Value) (lim made:Int) (vc:Value) (cg:Bool) (c:YU) (og:Bool) (o:YU) (code:Int) (vt:Value) (zx cnt en:Int) (cont:List Int) (Fq:vc=.slice (some ⟨g,0,none⟩) N C) (hs:St w b (WY S L vd vp lim made vc cg c og o code vt zx cnt en)) (hr:Rd .u8 w (.slice (some ⟨g,0,none⟩) N C) cont) (hby:YL cont) (hN:cont.length=N) (NA:N≤1048576) (Dc:128≤N) (hS:1≤S∧S≤64) :
    Calls Tryz.prog 33 #[.pointer (some ⟨b,0,none⟩)] w (yK w b S L vd vp lim made vc code vt zx cnt en (Ww S (blk cont 0)) (Ww S (blk cont 1)) (TK S (blk cont 0)) (TK S (blk cont 1))):=by
 subst Fq;have HG:Hid (∀W (i:Nat),i≤1→ZX w W→Calls Tryz.prog 72 #[.pointer (some ⟨b,0,none⟩),.int .i64 (i:Int)] W (Ze W (.agg #[.bool (Ww S (blk cont i)),.int .i64 (TK S (blk cont i)).g,.int .i64 (TK S (blk cont i)).b,.int .i64 (TK S (blk cont i)).s,.int .i64 (TK S (blk cont i)).l,.int .i64 (TK S (blk cont i)).c]))):=by
  intro W i hi hW;have hs':=hs.ZL hW hs.lt;have h9:=JT W b i g 0 N C S cont (hs'.cl 0 _ rfl) (hs'.cl 6 _ rfl) hs'.lt (hr.below hW) hby hN (by omega) NA hS;rw [sO] at h9;exact h9
 have HS:=Z8 hs;have MT:Hid (∀W,ZX w W→Calls Tryz.prog 72 #[.pointer (some ⟨b,0,none⟩),.int .i64 0] W (Ze W (.agg #[.bool (Ww S (blk cont 0)),.int .i64 (TK S (blk cont 0)).g,.int .i64 (TK S (blk cont 0)).b,.int .i64 (TK S (blk cont 0)).s,.int .i64 (TK S (blk cont 0)).l,.int .i64 (TK S (blk cont 0)).c]))):=fun W hW=>HG.out W 0 (by omega) hW
 have wH:Hid (∀W,ZX w W→Calls Tryz.prog 72 #[.pointer (some ⟨b,0,none⟩),.int .i64 1] W (Ze W (.agg #[.bool (Ww S (blk cont 1)),.int .i64 (TK S (blk cont 1)).g,.int .i64 (TK S (blk cont 1)).b,.int .i64 (TK S (blk cont 1)).s,.int .i64 (TK S (blk cont 1)).l,.int .i64 (TK S (blk cont 1)).c]))):=fun W hW=>HG.out W 1 (by omega) hW
 have hlt:=hs.lt;generalize Ww S (blk cont 0)=g0 at *;generalize Ww S (blk cont 1)=g1 at *;generalize TK S (blk cont 0)=x0 at *;generalize TK S (blk cont 1)=x1 at *
 go_enter Tryz.func33,Tryz.ntmps33
 go_wp2_with fail
 refine (MT.out _ ZR).mono ?_;rintro e w1 ⟨rfl,b1⟩
 go_wp2_with fail
 refine (wH.out _ b1).mono ?_;rintro e w2 ⟨rfl,b2⟩;have B2:=Z8 (Ye b1 b2);have S2:=Z8 (HS.out.ZL B2.out hlt);have q7:=S2.out.cl 7 _ rfl;have f7:=S2.out.fz 7;have q8:=S2.out.cl 8 _ rfl;have f8:=S2.out.fz 8;have q9:=S2.out.cl 9 _ rfl;have f9:=S2.out.fz 9;have He:=S2.out.cl 10 _ rfl;have f10:=S2.out.fz 10;have Hd:=S2.out.cl 11 _ rfl;have f11:=S2.out.fz 11;have oV:=S2.out.cl 12 _ rfl;have f12:=S2.out.fz 12;have oU:=S2.out.cl 13 _ rfl;have f13:=S2.out.fz 13;have Y:=S2.out.cl 14 _ rfl;have f14:=S2.out.fz 14;have V:=S2.out.cl 15 _ rfl;have f15:=S2.out.fz 15;have q16:=S2.out.cl 16 _ rfl;have f16:=S2.out.fz 16;have U:=S2.out.cl 17 _ rfl;have f17:=S2.out.fz 17;have T:=S2.out.cl 18 _ rfl;have f18:=S2.out.fz 18;have S3:Hid (St ((((((((((((w2.setCell ⟨b,7,none⟩ (.bool g0)).setCell ⟨b,8,none⟩ (.int .i64 x0.g)).setCell ⟨b,9,none⟩ (.int .i64 x0.b)).setCell ⟨b,10,none⟩ (.int .i64 x0.s)).setCell ⟨b,11,none⟩ (.int .i64 x0.l)).setCell ⟨b,12,none⟩ (.int .i64 x0.c)).setCell ⟨b,13,none⟩ (.bool g1)).setCell ⟨b,14,none⟩ (.int .i64 x1.g)).setCell ⟨b,15,none⟩ (.int .i64 x1.b)).setCell ⟨b,16,none⟩ (.int .i64 x1.s)).setCell ⟨b,17,none⟩ (.int .i64 x1.l)).setCell ⟨b,18,none⟩ (.int .i64 x1.c)) b (WY S L vd vp lim made (.slice (some ⟨g,0,none⟩) N C) g0 x0 g1 x1 code vt zx cnt en)):=((((((((((((S2.out.set 7 (.bool g0)).set 8 (.int .i64 x0.g)).set 9 (.int .i64 x0.b)).set 10 (.int .i64 x0.s)).set 11 (.int .i64 x0.l)).set 12 (.int .i64 x0.c)).set 13 (.bool g1)).set 14 (.int .i64 x1.g)).set 15 (.int .i64 x1.b)).set 16 (.int .i64 x1.s)).set 17 (.int .i64 x1.l)).set 18 (.int .i64 x1.c));have T3:Hid (Tw w b none ((((((((((((w2.setCell ⟨b,7,none⟩ (.bool g0)).setCell ⟨b,8,none⟩ (.int .i64 x0.g)).setCell ⟨b,9,none⟩ (.int .i64 x0.b)).setCell ⟨b,10,none⟩ (.int .i64 x0.s)).setCell ⟨b,11,none⟩ (.int .i64 x0.l)).setCell ⟨b,12,none⟩ (.int .i64 x0.c)).setCell ⟨b,13,none⟩ (.bool g1)).setCell ⟨b,14,none⟩ (.int .i64 x1.g)).setCell ⟨b,15,none⟩ (.int .i64 x1.b)).setCell ⟨b,16,none⟩ (.int .i64 x1.s)).setCell ⟨b,17,none⟩ (.int .i64 x1.l)).setCell ⟨b,18,none⟩ (.int .i64 x1.c)) none):=(Tw.Za B2.out b none).set.set.set.set.set.set.set.set.set.set.set.set
 go_wp2_with fail
 generalize ((((((((((((w2.setCell _ _).setCell _ _).setCell _ _).setCell _ _).setCell _ _).setCell _ _).setCell _ _).setCell _ _).setCell _ _).setCell _ _).setCell _ _).setCell _ _)=w3 at *;have Y:=S3.out.cl 14 _ rfl;have q8:=S3.out.cl 8 _ rfl
 go_quiet (fail)
 have S4:=Z8 (S3.out.below (below_drewN' w3 nq));have T4:=Z8 (T3.out.trans (Tw.Za (below_drewN' w3 nq) b none));generalize w3.drewN nq=w4 at *
 by_cases hx:x0.g<x1.g
 · go_wp2_with fail
   refine ZF (S:=fun _=>True) (by kernel_rfl) trivial (fun Z9=>?_);have S5:Hid (St w4.drew b (WY S L vd vp lim made (.slice (some ⟨g,0,none⟩) N C) g0 x0 g1 x1 code vt zx cnt en)):=S4.out.below (below_drewN' w4 1);have T5:Hid (Tw w b none w4.drew none):=T4.out.trans (Tw.Za (below_drewN' w4 1) b none);generalize w4.drew=w5 at *
   iterate 5 (refine ZV ?_ (by kernel_rfl) (fun _=>id) Z9 ?_ ?_;rotate_left;· intro w9 Z4;clear Z4;go_simp;try with_reducible rfl)
   refine ZA 6 ?v6 rfl (by kernel_rfl) (fun _=>id) Z9 ?sX ?_
   case sX =>
    intro w9 Z4;go_simp
    try with_reducible rfl
   refine ZA 7 ?v7 rfl (by kernel_rfl) (fun _=>id) Z9 ?tA ?_
   case tA =>
    intro w9 Z4;go_simp
    try with_reducible rfl
   refine ZA 8 ?v8 rfl (by kernel_rfl) (fun _=>id) Z9 ?qz ?_
   case qz =>
    intro w9 Z4;go_simp
    try with_reducible rfl
   have q7:=S5.out.cl 7 _ rfl;have f7:=S5.out.fz 7;have q8:=S5.out.cl 8 _ rfl;have f8:=S5.out.fz 8;have q9:=S5.out.cl 9 _ rfl;have f9:=S5.out.fz 9;have He:=S5.out.cl 10 _ rfl;have f10:=S5.out.fz 10;have Hd:=S5.out.cl 11 _ rfl;have f11:=S5.out.fz 11;have oV:=S5.out.cl 12 _ rfl;have f12:=S5.out.fz 12;have oU:=S5.out.cl 13 _ rfl;have f13:=S5.out.fz 13;have Y:=S5.out.cl 14 _ rfl;have f14:=S5.out.fz 14;have V:=S5.out.cl 15 _ rfl;have f15:=S5.out.fz 15;have q16:=S5.out.cl 16 _ rfl;have f16:=S5.out.fz 16;have U:=S5.out.cl 17 _ rfl;have f17:=S5.out.fz 17;have T:=S5.out.cl 18 _ rfl;have f18:=S5.out.fz 18;have SE:Hid (St ((((((((((((w5.setCell ⟨b,7,none⟩ (.bool g1)).setCell ⟨b,8,none⟩ (.int .i64 x1.g)).setCell ⟨b,9,none⟩ (.int .i64 x1.b)).setCell ⟨b,10,none⟩ (.int .i64 x1.s)).setCell ⟨b,11,none⟩ (.int .i64 x1.l)).setCell ⟨b,12,none⟩ (.int .i64 x1.c)).setCell ⟨b,13,none⟩ (.bool g0)).setCell ⟨b,14,none⟩ (.int .i64 x0.g)).setCell ⟨b,15,none⟩ (.int .i64 x0.b)).setCell ⟨b,16,none⟩ (.int .i64 x0.s)).setCell ⟨b,17,none⟩ (.int .i64 x0.l)).setCell ⟨b,18,none⟩ (.int .i64 x0.c)) b (WY S L vd vp lim made (.slice (some ⟨g,0,none⟩) N C) g1 x1 g0 x0 code vt zx cnt en)):=((((((((((((S5.out.set 7 (.bool g1)).set 8 (.int .i64 x1.g)).set 9 (.int .i64 x1.b)).set 10 (.int .i64 x1.s)).set 11 (.int .i64 x1.l)).set 12 (.int .i64 x1.c)).set 13 (.bool g0)).set 14 (.int .i64 x0.g)).set 15 (.int .i64 x0.b)).set 16 (.int .i64 x0.s)).set 17 (.int .i64 x0.l)).set 18 (.int .i64 x0.c));have TE:Hid (Tw w b none ((((((((((((w5.setCell ⟨b,7,none⟩ (.bool g1)).setCell ⟨b,8,none⟩ (.int .i64 x1.g)).setCell ⟨b,9,none⟩ (.int .i64 x1.b)).setCell ⟨b,10,none⟩ (.int .i64 x1.s)).setCell ⟨b,11,none⟩ (.int .i64 x1.l)).setCell ⟨b,12,none⟩ (.int .i64 x1.c)).setCell ⟨b,13,none⟩ (.bool g0)).setCell ⟨b,14,none⟩ (.int .i64 x0.g)).setCell ⟨b,15,none⟩ (.int .i64 x0.b)).setCell ⟨b,16,none⟩ (.int .i64 x0.s)).setCell ⟨b,17,none⟩ (.int .i64 x0.l)).setCell ⟨b,18,none⟩ (.int .i64 x0.c)) none):=T5.out.set.set.set.set.set.set.set.set.set.set.set.set;refine Wu 5 9 rfl rfl (by kernel_rfl) (fun K hK=>?_) (fun K hK=>?_)
   · skip
     go_simp;refine hK.out _ _ trivial (fun ZI=>?_);refine ZS 9 rfl (by kernel_rfl) (fun K hK=>?_);go_simp;refine hK.out _ _ trivial (fun ZI=>?_)
     iterate 2 (refine ZV ?_ (by kernel_rfl) (fun _=>id) Z9 ?_ ?_;rotate_left;· intro w9 Z4;clear Z4;go_simp;try with_reducible rfl)
     refine ZS 12 rfl (by kernel_rfl) (fun K hK=>?_);go_simp;refine hK.out _ _ trivial (fun ZI=>?_)
     iterate 2 (refine ZV ?_ (by kernel_rfl) (fun _=>id) Z9 ?_ ?_;rotate_left;· intro w9 Z4;clear Z4;go_simp;try with_reducible rfl)
     refine ZS 15 rfl (by kernel_rfl) (fun K hK=>?_);go_simp;refine hK.out _ _ trivial (fun ZI=>?_);refine ZM (by kernel_rfl) ?_ _
     try simp only [Act.put,Zk,Zj,Zi]
     generalize ((((((((((((w5.setCell _ _).setCell _ _).setCell _ _).setCell _ _).setCell _ _).setCell _ _).setCell _ _).setCell _ _).setCell _ _).setCell _ _).setCell _ _).setCell _ _)=w6 at *;have q7:=SE.out.cl 7 _ rfl
     cases g1 with
     | true =>
      go_wp2;go_ret;exact ⟨true,x1,g0,x0,rfl,SE.out,TE.out,.inr ⟨by omega,rfl,rfl,rfl,rfl⟩⟩
     | false =>
      go_wp2;go_ret;exact ⟨false,x1,g0,x0,rfl,SE.out,TE.out,.inr ⟨by omega,rfl,rfl,rfl,rfl⟩⟩
   skip
   go_simp;refine hK.out _ _ trivial (fun ZI=>?_);refine ZS 5 rfl (by kernel_rfl) (fun K hK=>?_);go_simp;refine hK.out _ _ trivial (fun ZI=>?_)
   iterate 2 (refine ZV ?_ (by kernel_rfl) (fun _=>id) Z9 ?_ ?_;rotate_left;· intro w9 Z4;clear Z4;go_simp;try with_reducible rfl)
   refine ZS 12 rfl (by kernel_rfl) (fun K hK=>?_);go_simp;refine hK.out _ _ trivial (fun ZI=>?_)
   iterate 2 (refine ZV ?_ (by kernel_rfl) (fun _=>id) Z9 ?_ ?_;rotate_left;· intro w9 Z4;clear Z4;go_simp;try with_reducible rfl)
   refine ZS 15 rfl (by kernel_rfl) (fun K hK=>?_);go_simp;refine hK.out _ _ trivial (fun ZI=>?_);refine ZM (by kernel_rfl) ?_ _
   try simp only [Act.put,Zk,Zj,Zi]
   generalize ((((((((((((w5.setCell _ _).setCell _ _).setCell _ _).setCell _ _).setCell _ _).setCell _ _).setCell _ _).setCell _ _).setCell _ _).setCell _ _).setCell _ _).setCell _ _)=w6 at *;have q7:=SE.out.cl 7 _ rfl
   cases g1 with
   | true =>
    go_wp2;go_ret;exact ⟨true,x1,g0,x0,rfl,SE.out,TE.out,.inr ⟨by omega,rfl,rfl,rfl,rfl⟩⟩
   | false =>
    go_wp2;go_ret;exact ⟨false,x1,g0,x0,rfl,SE.out,TE.out,.inr ⟨by omega,rfl,rfl,rfl,rfl⟩⟩
 have q7:=S4.out.cl 7 _ rfl
 cases g0 with
 | true =>
  go_wp2;go_ret;exact ⟨true,x0,g1,x1,rfl,S4.out,T4.out,.inl ⟨by omega,rfl,rfl,rfl,rfl⟩⟩
 | false =>
  go_wp2;go_ret;exact ⟨false,x0,g1,x1,rfl,S4.out,T4.out,.inl ⟨by omega,rfl,rfl,rfl,rfl⟩⟩
theorem Ed (im:List Int) (c:Int):Fw im c=GF im c:=by
 unfold Fw GF sQ
 cases h:Ty im with
 | none=>by_cases hc:((4294967295 - Tj 4294967295 im:Nat):Int)=c <;> simp [hc]
 | some ns=>rfl
theorem Pj (hf:WR S L Z7.length ps=true) (hb:0≤x.b∧x.b≤1):TQ Z7 ps S L x=GF ((YR (ZC Z7 ps) (YM S L x.b false).toNat S.toNat).take x.l.toNat) x.c:=by
 have ho:Qf S L Z7.length ps x.b=true:=by unfold Qf;rw [hf];simpa using hb
 unfold TQ yT Yo;rw [ZY ho,Ed]
 rfl
theorem Pi (hf:WR S L Z7.length ps=true) (hb:0≤ZN∧ZN≤1):Yo Z7 ps S L ZN true=YR (ZC Z7 ps) (YM S L ZN true).toNat L.toNat:=by
 have ho:Qf S L Z7.length ps ZN=true:=by unfold Qf;rw [hf];simpa using hb
 unfold Yo;rw [ZY ho]
 rfl
theorem Wo (h:Ww S ys=true):(1≤nG ys∧nG ys≤9223372036854775807)∧(0≤nB ys∧nB ys≤1)∧(0≤nL ys∧nL ys≤S*64)∧0≤nS ys∧nS ys≤2147483647:=by
 unfold Ww at h
 simp only [Yg,Zg] at h
 obtain ⟨⟨h1,h2⟩,h3⟩:=h;have hok:VP (nG ys) (nB ys) (nS ys) (nL ys) (nC ys)=true:=by
  cases e:VP (nG ys) (nB ys) (nS ys) (nL ys) (nC ys) with
  | true=>rfl
  | false =>
   unfold sup at h2;rw [e] at h2
   simp at h2
   rw [h2] at h1
   simp at h1
 unfold VP at hok
 simp only [Yg,Jr,Zg] at hok
 have hg:nG ys≤9223372036854775807:=by unfold nG wrap64;omega
 omega
theorem SK (Z7:List Int) (ps:List (Int × List Int)) (S L limit:Int) (x y y':YU):Xx Z7 ps S L limit x y false=Xx Z7 ps S L limit x y' false:=by
 unfold Xx
 cases TQ Z7 ps S L x with
 | some ns=>rfl
 | none=>simp
theorem Ph (h:Ww S ys=true):TK S ys=Rw ys:=ZY h
theorem JR (h:Ww S ys=false):TK S ys=⟨0,0,0,0,0⟩:=Z3 (by rw [h];simp)
theorem yI {limit:Int} {xg yg:Bool} {y:YU} (hf:WR S L Z7.length ps=true) (hn:ps.length≤1936)
    (h:(¬(TK S (blk (ZC Z7 ps) 0)).g<(TK S (blk (ZC Z7 ps) 1)).g∧xg=Ww S (blk (ZC Z7 ps) 0)∧x=TK S (blk (ZC Z7 ps) 0)∧yg=Ww S (blk (ZC Z7 ps) 1)∧y=TK S (blk (ZC Z7 ps) 1))∨((TK S (blk (ZC Z7 ps) 0)).g<(TK S (blk (ZC Z7 ps) 1)).g∧xg=Ww S (blk (ZC Z7 ps) 1)∧x=TK S (blk (ZC Z7 ps) 1)∧yg=Ww S (blk (ZC Z7 ps) 0)∧y=TK S (blk (ZC Z7 ps) 0))) :
    rcv Z7 ps S L limit=if xg=true then Xx Z7 ps S L limit x y yg else Zq 3:=by
 unfold rcv;rw [Z3 (by rw [hf];simp;omega)];generalize blk (ZC Z7 ps) 0=B0 at *;generalize blk (ZC Z7 ps) 1=B1 at *
 cases e0:Ww S B0 with
 | false =>
  rw [JR e0] at h
  cases e1:Ww S B1 with
  | false =>
   rw [JR e1] at h
   rcases h with ⟨-,rfl,-,-,-⟩ | ⟨-,rfl,-,-,-⟩
   · rw [e0];simp
   rw [e1];simp
  | true =>
   rw [Ph e1] at h;have hg:=(Wo e1).1.1
   rcases h with ⟨hlt,-⟩ | ⟨-,rfl,rfl,rfl,rfl⟩
   · exact absurd (show (0:Int)<nG B1 by omega) hlt
   rw [e0,e1]
   simp
   exact SK _ _ _ _ _ _ _ _
 | true =>
  rw [Ph e0] at h;have hg0:=(Wo e0).1.1
  cases e1:Ww S B1 with
  | false =>
   rw [JR e1] at h
   rcases h with ⟨-,rfl,rfl,rfl,rfl⟩ | ⟨hlt,-⟩
   · rw [e0,e1]
     simp
     exact SK _ _ _ _ _ _ _ _
   exact absurd (show nG B0<(0:Int) from hlt) (by omega)
  | true =>
   rw [Ph e1] at h
   rcases h with ⟨hlt,rfl,rfl,rfl,rfl⟩ | ⟨hlt,rfl,rfl,rfl,rfl⟩
   · have hlt':¬nG B0<nG B1:=hlt
     rw [e0,e1]
     simp [hlt']
   have hlt':nG B0<nG B1:=hlt;rw [e0,e1]
   simp [hlt']
theorem SJ {u:Value} {R:List Int} (h:Own .u8 5 w lo u R):Zz w lo w.heap.size u (.slice none 0 0) R [] (fun _=>.slice none 0 0) :=
 ⟨h,⟨Yf _ _ _ _,fun i hi=>by simp at hi,fun i j hi=>by simp at hi,fun i hi=>by simp at hi⟩,fun g hg=>(h.lt g hg).2,fun g hg=>by simp [Value.ownBlock] at hg,fun i hi=>by simp at hi,.inl rfl,fun i hi=>by simp at hi⟩
def Yn (w:World) (r:UD) (e:Ending) (w':World):Prop :=
 ∃vt v1 v2 dv,e=.returned (.agg (Wg r vt v1 v2))∧ZU 134 w' w.heap.size vt r.ns∧Zz w' w.heap.size w'.heap.size v1 v2 r.Z7 r.ps dv∧ZX w w'
theorem U3 {w':World} (hn:r.ns=[]) (hd:r.Z7=[]) (hp:r.ps=[]) (hb:ZX w w'):Yn w r (.returned (.agg (Wg r (.slice none 0 0) (.slice none 0 0) (.slice none 0 0)))) w':=by
 refine ⟨_,_,_,fun _=>.slice none 0 0,rfl,?_,?_,hb⟩
 · rw [hn];exact Yf _ _ _ _
 rw [hd,hp];exact SJ (Yf _ _ _ _)
structure PE (w:World) (v1 v2:Value) (S L:Int) (W:World):Prop where
 YJ:ZX w W
 lt:w.heap.size+3≤W.heap.size
 d0:W.cell? ⟨w.heap.size,0,none⟩=some v1
 d1:W.cell? ⟨w.heap.size,1,none⟩=some v2
 c0:W.cell? ⟨w.heap.size+1,0,none⟩=some (.int .i64 S)
 c1:W.cell? ⟨w.heap.size+1,1,none⟩=some (.int .i64 L)
 rx:TL W (w.heap.size+1+1) (Zq 0) (.slice none 0 0) (.slice none 0 0) (.slice none 0 0)
 fd:∀j,W.frozen? ⟨w.heap.size,j,none⟩=false
 fc:∀j,W.frozen? ⟨w.heap.size+1,j,none⟩=false
theorem PE.ZL (h:PE w v1 v2 S L W) (hb:Below m W W') (hm:w.heap.size+3≤m):PE w v1 v2 S L W':=by
 have hl:=h.lt;have q:∀b j,b<w.heap.size+3→W'.cell? ⟨b,j,none⟩=W.cell? ⟨b,j,none⟩:=fun b j h9=>hb.cell (p:=⟨b,j,none⟩) (show b<_ by omega)
 exact ⟨h.YJ.trans (hb.mono (by omega)),ZP hl hb.size,(q _ _ (by omega)).trans h.d0,(q _ _ (by omega)).trans h.d1,(q _ _ (by omega)).trans h.c0,(q _ _ (by omega)).trans h.c1,(hb.block _ (by omega)).trans h.rx,fun j=>(hb.frozen (p:=⟨w.heap.size,j,none⟩) (show w.heap.size<_ by omega)).trans (h.fd j),fun j=>(hb.frozen (p:=⟨w.heap.size+1,j,none⟩) (show w.heap.size+1<_ by omega)).trans (h.fc j)⟩
theorem PE.below (h:PE w v1 v2 S L W) (hb:ZX W W'):PE w v1 v2 S L W':=h.ZL hb h.lt
theorem PE.new (w:World) (v1 v2:Value) (S L:Int):PE w v1 v2 S L (((w.alloc (.cells #[v1,v2] 36)).alloc (.cells #[.int .i64 S,.int .i64 L] 41)).alloc (.cells #[.int .i64 0,.int .i64 0,.int .i64 0,.int .i64 0,.int .i64 0,.int .i64 0,.int .i64 0,.slice none 0 0,.int .i64 0,.int .i64 0,.slice none 0 0,.slice none 0 0] 38)):=by
 have b:ZX w (((w.alloc (.cells #[v1,v2] 36)).alloc (.cells #[.int .i64 S,.int .i64 L] 41)).alloc (.cells #[.int .i64 0,.int .i64 0,.int .i64 0,.int .i64 0,.int .i64 0,.int .i64 0,.int .i64 0,.slice none 0 0,.int .i64 0,.int .i64 0,.slice none 0 0,.slice none 0 0] 38)):=((ZR.alloc ZW _).alloc (by simp) _).alloc (by simp;omega) _;refine ⟨b,by simp,by go_simp,by go_simp,by go_simp,by go_simp,?_,fun j=>by go_simp,fun j=>by go_simp⟩;have h9:=TL.new ((w.alloc (.cells #[v1,v2] 36)).alloc (.cells #[.int .i64 S,.int .i64 L] 41)) (Zq 0) (.slice none 0 0) (.slice none 0 0) (.slice none 0 0)
 simp only [XE] at h9
 exact h9
theorem SI (ns:List Nd) (start:Int) (a:List Int):0≤SM ns start a∧SM ns start a≤(a.length:Int):=by
 unfold SM
 split
 · refine ⟨by omega,?_⟩
   have h:=(VC a.length a ZW).2.2;generalize (Y6 ns start a).2.2=k
   by_cases hk:k≤(Yl a.length a).length
   · have:=h k hk;omega
   have h2:=h _ ZW;have:pos (Yl a.length a) k=pos (Yl a.length a) (Yl a.length a).length:=by
    unfold pos;rw [We (by omega),We ZW]
   omega
 omega
theorem Qd (f:Int) (log want:List Int) (m:Nat):∀(n b:Nat),WZ f log want b (m+n)=WZ f log want b m++WZ f log want (b+m) n:=by
 induction m with
 | zero=>intro n b;simp [WZ]
 | succ m ih =>
  intro n b;rw [show m+1+n=(m+n)+1 by omega,WZ,WZ,ih,show b+(m+1)=b+1+m by omega,R9]
theorem WQ (f:Int) (log want:List Int) (b:Nat):WZ f log want 0 (b+1)=WZ f log want 0 b++(if blk log b=blk want b then [] else [(f+b,blk want b)]):=by
 rw [Qd];simp [WZ]
theorem Ui (f:Int) (log want:List Int):∀(n b:Nat),(WZ f log want b n).length≤n:=by
 intro n
 induction n with
 | zero=>intro b;simp [WZ]
 | succ n ih=>intro b;rw [WZ,YE];have:=ih (b+1);split <;> simp <;> omega
theorem yH (f:Int) (log want:List Int) (b n:Nat) (h:b≤n):(WZ f log want 0 n).take (WZ f log want 0 b).length=WZ f log want 0 b:=by
 obtain ⟨k,rfl⟩:∃k,n=b+k:=⟨n - b,by omega⟩;rw [Qd,List.take_left']
 rfl
theorem yG (f:Int) (log want:List Int) (b n:Nat) (h:b<n) (hd:blk log b≠blk want b):(WZ f log want 0 b).length<(WZ f log want 0 n).length:=by
 obtain ⟨k,rfl⟩:∃k,n=b+1+k:=⟨n - b - 1,by omega⟩;rw [Qd,WQ,Z3 hd]
 simp only [YE,XQ,Wv]
 omega
theorem CU (log:List Int) (n e i:Nat) (hl:log.length=n*64) (he:e≤log.length) (hi:i<n) :
    blk (Zu log e) i=(blk log i).take (min (e - i*64) 64)++zeros (64 - min (e - i*64) 64):=by
 have hbl:(blk log i).length=64:=by unfold blk;simp;omega
 apply xJ
 · simp [blk,Zu,zeros];omega
 intro j h1 h2;have hj:j<64:=by simp [blk,Zu,zeros] at h1;omega
 simp only [blk,Zu,zeros,List.getElem_take,List.getElem_drop,List.getElem_append,YC]
 by_cases h:i*64+j<e
 · have h3:j<min (e - i*64) 64:=by omega
   rw [dif_pos (by omega),dif_pos (by simp;omega)]
 rw [dif_neg (by omega),dif_neg (by simp;omega)]
 simp
theorem SH (log:List Int) (e:Nat):(Zu log e).length=log.length:=by unfold Zu zeros;simp;omega
theorem Nv {i:Nat} (h:xs.length=n*64) (hi:i<n):(blk xs i).length=64:=by unfold blk;simp;omega
theorem vS (D:List Int) (f l i:Nat) (hi:i<l):blk (YR D f l) i=blk D (f+i):=by
 unfold blk YR;rw [List.drop_take,uh,US,So (by omega),show f*64+i*64=(f+i)*64 by omega]
theorem Ec (h:YL (ZC Z7 ps)) (S L ZN:Int) (log:Bool):YL (Yo Z7 ps S L ZN log):=by
 unfold Yo
 split
 · exact fun y hy=>h y (Wf (Vp hy))
 intro y hy;simp at hy
theorem CS (h:YL log) (e:Nat):YL (Zu log e):=by
 intro y hy;unfold Zu zeros at hy
 rcases Sw.1 hy with h1 | h1
 · exact h y (Vp h1)
 rw [(List.mem_replicate.1 h1).2];omega
theorem Pg (hf:WR S L dl ps=true) (hb:0≤ZN∧ZN≤1) (hi:b<L.toNat):0≤YM S L ZN true∧YM S L ZN true≤1000∧YM S L ZN true+b<((dl / 64:Nat):Int)∧L.toNat≤64:=by
 obtain ⟨hc,-,hd⟩:=(XU S L dl ps).1 hf;obtain ⟨⟨hS1,hS2⟩,hL1,hL2⟩:=(Zs S L).1 hc;have hk:ZN=0∨ZN=1:=by omega
 unfold YM
 rcases hk with rfl | rfl <;> simp <;> omega
theorem CR {x:Int} (h:Ql dl ps x xs.length=true):XY dl (ps++[(x,xs)])=true:=by
 unfold Ql at h
 simp only [Yg,Zg] at h
 obtain ⟨⟨⟨h1,h2⟩,h3,h4⟩,h5⟩:=h;rw [Yv] at h1 ⊢;obtain ⟨k1,k2,k3,k4,k5⟩:=h1;refine ⟨k1,k2,k3,by simp;omega,fun i hi=>?_⟩
 simp only [YE,XQ,Wv] at hi
 by_cases e:i<ps.length
 · unfold zZ;rw [Xc _ _ _ e,NW _ _ _ e];exact k5 i e
 have e2:i=ps.length:=by omega
 subst e2;unfold zZ;rw [Xa,SR];exact ⟨h3,h4,h5⟩
theorem Fp (log want:List Int) (hf:WR S L dl ps=true) (hn:ps.length≤1936) (hb:0≤ZN∧ZN≤1) (hw:want.length=L.toNat*64):∀b,b≤L.toNat→XY dl (ps++WZ (YM S L ZN true) log want 0 b)=true∧(b<L.toNat→Ql dl (ps++WZ (YM S L ZN true) log want 0 b) (YM S L ZN true+b) (blk want b).length=true):=by
 have key:∀b,XY dl (ps++WZ (YM S L ZN true) log want 0 b)=true→(b<L.toNat→Ql dl (ps++WZ (YM S L ZN true) log want 0 b) (YM S L ZN true+b) (blk want b).length=true):=by
  intro b hv hlt;obtain ⟨r1,r2,r3,r4⟩:=Pg hf hb hlt;have hl:=Ui (YM S L ZN true) log want b 0;have oS:=Nv hw hlt;unfold Ql
  simp only [Yg,Zg]
  exact ⟨⟨⟨hv,by rw [YE];omega⟩,by omega,r3⟩,oS⟩
 intro b
 induction b with
 | zero =>
  intro _;have h0:XY dl (ps++WZ (YM S L ZN true) log want 0 0)=true:=by
   rw [WZ,Sz];exact ((XU S L dl ps).1 hf).2.1
  exact ⟨h0,key 0 h0⟩
 | succ b ih =>
  intro hle;obtain ⟨h1,h2⟩:=ih (by omega);have h3:XY dl (ps++WZ (YM S L ZN true) log want 0 (b+1))=true:=by
   rw [WQ]
   split
   · rw [Sz];exact h1
   rw [←R9];exact CR (h2 (by omega))
  exact ⟨h3,key _ h3⟩
theorem uI (h:XY dl ps=true) (i:Nat):(pD ps i).length≤1048576:=by
 by_cases hi:i<ps.length
 · rw [(((Yv dl ps).1 h).2.2.2.2 i hi).2.2];omega
 unfold pD;simp [List.getD,Sy (Bi hi)]
structure Xw (S:Int) (x:YU):Prop where
 g:0≤x.g∧x.g≤9223372036854775807
 b:0≤x.b∧x.b≤1
 l:0≤x.l∧x.l≤S*64
theorem Fo (r:UD) (vt v1 v2:Value) (h:g≠B):(Xt W B r vt v1 v2).heap[g]?=W.heap[g]?:=by
 unfold Xt
 iterate 12 refine (Mh _ _ _ g h).trans ?_
 rfl
theorem Uh {dv:Nat→Value} (hb:ZX w W) (hB:w.heap.size≤B) (hB1:B<lo) (hn:ZU 134 W lo vt r.ns) (hd:Zz W lo W.heap.size v1 v2 r.Z7 r.ps dv):Yn w r (.returned (.agg (Wg r vt v1 v2))) (Xt W B r vt v1 v2):=by
 have hs:=VD W B r vt v1 v2;have key:∀ {e:TypeId} {m n:Nat} {v:Value} {us:List Value},W.ownsRow lo e m v n us→(Xt W B r vt v1 v2).ownsRow w.heap.size e m v n us:=by
  intro e m n v us h;refine ⟨h.1,?_⟩
  rcases h.2 with hn | ⟨g,cap,cur,rfl,hbg,hgg,rest⟩
  · exact .inl hn
  refine .inr ⟨g,cap,cur,rfl,by omega,?_,rest⟩;rw [Fo r vt v1 v2 (by omega)];exact hgg
 refine ⟨vt,v1,v2,dv,rfl,key hn,⟨key hd.d,⟨key hd.p.1,fun i hi=>(hd.p.2.1 i hi).elim fun te h=>⟨te,key h⟩,hd.p.2.2.1,hd.p.2.2.2⟩,?_,?_,?_,hd.dp,hd.dq⟩,?_⟩
 · intro g hg;have:=hd.NY g hg;have:=hs.size;omega
 · intro g hg;have:=hd.Pm g hg;have:=hs.size;omega
 · intro i hi g hg;have:=hd.MK i hi g hg;have:=hs.size;omega
 exact hb.trans (hs.mono hB)
structure Kp (a b:Nat) (W W':World):Prop where
 os:W'.os=W.os
 tape:W'.tape=W.tape
 output:W'.output=W.output
 size:W.heap.size≤W'.heap.size
 block:∀q,q<W.heap.size→q≠a→q≠b→W'.heap[q]?=W.heap[q]?
theorem Kp.refl (a b:Nat) (W:World):Kp a b W W:=⟨rfl,rfl,rfl,ZW,fun _ _ _ _=>rfl⟩
theorem Kp.trans {A B C:World} (h:Kp a b A B) (k:Kp a b B C):Kp a b A C:=⟨k.os.trans h.os,k.tape.trans h.tape,k.output.trans h.output,ZP h.size k.size,fun q hq h1 h2=>(k.block q (ZB hq h.size) h1 h2).trans (h.block q hq h1 h2)⟩
theorem Kp.below (a b:Nat) (h:ZX W W'):Kp a b W W':=⟨h.os,h.tape,h.output,h.size,fun q hq _ _=>h.block q hq⟩
theorem Kp.CQ (a b:Nat) (W:World) (j:Nat) (x:Value):Kp a b W (W.setCell ⟨a,j,none⟩ x):=⟨rfl,rfl,rfl,by simp,fun q _ h1 _=>Mh W ⟨a,j,none⟩ x q h1⟩
theorem Kp.yF (a b:Nat) (W:World) (j:Nat) (x:Value):Kp a b W (W.setCell ⟨b,j,none⟩ x):=⟨rfl,rfl,rfl,by simp,fun q _ _ h2=>Mh W ⟨b,j,none⟩ x q h2⟩
theorem Kp.YJ (h:Kp a b W W') (hb:ZX w W) (ha:w.heap.size≤a) (hb':w.heap.size≤b):ZX w W' :=
 ⟨h.os.trans hb.os,h.tape.trans hb.tape,h.output.trans hb.output,ZP hb.size h.size,fun q hq=>(h.block q (by have:=hb.size;omega) (by omega) (by omega)).trans (hb.block q hq)⟩
theorem Kp.row (h:Kp a b W W') {e:TypeId} {us:List Value} (hr:W.ownsRow lo e m v n us) (ha:a<lo) (hb:b<lo):W'.ownsRow lo e m v n us:=by
 refine ⟨hr.1,?_⟩
 rcases hr.2 with hn | ⟨g,cap,cur,rfl,hbg,hgg,rest⟩
 · exact .inl hn
 exact .inr ⟨g,cap,cur,rfl,hbg,(h.block g (Array.getElem?_eq_some_iff.1 hgg).1 (by omega) (by omega)).trans hgg,rest⟩
theorem Kp.qy (h:Kp a b W W') {dv:Nat→Value} (hd:Zz W lo hi v1 v2 Z7 ps dv) (ha:a<lo) (hb:b<lo):Zz W' lo hi v1 v2 Z7 ps dv :=
 ⟨h.row hd.d ha hb,⟨h.row hd.p.1 ha hb,fun i hi=>(hd.p.2.1 i hi).elim fun te o=>⟨te,h.row o ha hb⟩,hd.p.2.2.1,hd.p.2.2.2⟩,hd.NY,hd.Pm,hd.MK,hd.dp,hd.dq⟩
theorem vR (h:Kp a b W W') (ho:Own .u8 5 W lo v xs) (ha:a<lo) (hb:b<lo):Own .u8 5 W' lo v xs:=h.row ho ha hb
structure Md (w:World) (S L:Int) (NB OB lo:Nat) (x:YU) (OL:List Value) (vt:Value) (ns:List Nd) (Ru:Value) (log:List Int) (va vb:Value) (D:List Int) (Q:List (Int × List Int)) (W:World):Prop where
 YJ:ZX w W
 d:St W w.heap.size [va,vb]
 c:St W (w.heap.size+1) [.int .i64 S,.int .i64 L]
 rx:TL W (w.heap.size+1+1) (Zq 0) (.slice none 0 0) (.slice none 0 0) (.slice none 0 0)
 n:St W NB [.bool true,.int .i64 x.g,.int .i64 x.b,.int .i64 x.s,.int .i64 x.l,.int .i64 x.c]
 o:St W OB OL
 rows:∀W',Kp w.heap.size OB W W'→ZU 134 W' lo vt ns∧Rd .u8 W' Ru log∧Rd .u8 W' va D∧XP W' vb Q
 nb:w.heap.size+3≤NB
 ob:NB<OB
theorem Md.below (h:Md w S L NB OB lo x OL vt ns Ru log va vb D Q W) (hb:ZX W W'):Md w S L NB OB lo x OL vt ns Ru log va vb D Q W' :=
 ⟨h.YJ.trans (hb.mono h.YJ.size),h.d.below hb,h.c.below hb,h.rx.below hb,h.n.below hb,h.o.below hb,fun W2 k=>h.rows W2 ((Kp.below _ _ hb).trans k),h.nb,h.ob⟩
theorem Md.Yu (h:Md w S L NB OB lo x OL vt ns Ru log va vb D Q W) (j:Nat) (u:Value):Md w S L NB OB lo x (OL.set j u) vt ns Ru log va vb D Q (W.setCell ⟨OB,j,none⟩ u):=by
 have h1:=h.nb;have h2:=h.ob;exact ⟨h.YJ.setCell (by show w.heap.size≤OB;omega) _,h.d.other (by omega),h.c.other (by omega),(Mh W ⟨OB,j,none⟩ u _ (by show w.heap.size+1+1≠OB;omega)).trans h.rx,h.n.other (by omega),h.o.set j u,fun W2 k=>h.rows W2 ((Kp.yF _ _ _ _ _).trans k),h1,h2⟩
theorem Md.qx (h:Md w S L NB OB lo x OL vt ns Ru log va vb D Q W) {X:Nat} {ua ub:Value} {D':List Int} {Q':List (Int × List Int)} {dv:Nat→Value} (hd:Zz W X hi ua ub D' Q' dv) (hl:OB<X):Md w S L NB OB lo x OL vt ns Ru log ua ub D' Q' ((W.setCell ⟨w.heap.size,0,none⟩ ua).setCell ⟨w.heap.size,1,none⟩ ub):=by
 have h1:=h.nb;have h2:=h.ob;have k2:Kp w.heap.size OB W ((W.setCell ⟨w.heap.size,0,none⟩ ua).setCell ⟨w.heap.size,1,none⟩ ub):=(Kp.CQ _ _ _ _ _).trans (Kp.CQ _ _ _ _ _);refine ⟨(h.YJ.setCell ZW _).setCell ZW _,(h.d.set 0 ua).set 1 ub,(h.c.other (by omega)).other (by omega),?_,(h.n.other (by omega)).other (by omega),(h.o.other (by omega)).other (by omega),fun W2 k=>?_,h1,h2⟩
 · have e1:=Mh (W.setCell ⟨w.heap.size,0,none⟩ ua) ⟨w.heap.size,1,none⟩ ub (w.heap.size+1+1) (by show _≠w.heap.size;omega)
   have e2:=Mh W ⟨w.heap.size,0,none⟩ ua (w.heap.size+1+1) (by show _≠w.heap.size;omega);exact (e1.trans e2).trans h.rx
 have h9:=h.rows W2 (k2.trans k);have o9:=(k2.trans k).qy hd (by omega) hl;exact ⟨h9.1,h9.2.1,o9.d.rd,o9.p.rd⟩
theorem JQ {c:Nat} (h:Rd .u8 W (.slice (some ⟨g,0,none⟩) n c) xs) (hb:(b+1)*64≤n):Rd .u8 W (.slice (some ⟨g,b*64,none⟩) ((b+1)*64 - b*64) (c - b*64)) (blk xs b):=by
 obtain ⟨ao,cap,e,h1,h2,h3⟩:=h
 simp only [Zc] at e
 obtain ⟨rfl,hn,rfl⟩:=e;have hl:(blk xs b).length=64:=by unfold blk;simp;omega
 refine ⟨some ⟨g,b*64,none⟩,c - b*64,?_,by omega,by omega,?_⟩
 · rw [hl,show (b+1)*64 - b*64=64 by omega]
 rcases h3 with h3 | ⟨b',o',e,hlt,hc⟩
 · rw [h3] at hn;simp at hn;omega
 simp only [Xu,uC] at e
 obtain ⟨rfl,rfl,-⟩:=e;refine .inr ⟨g,b*64,rfl,hlt,fun i hi=>?_⟩;rw [hl] at hi;have h9:=hc (b*64+i) (by omega);rw [Wn] at h9;rw [h9];have:(blk xs b).getD i 0=xs.getD (b*64+i) 0:=by
  unfold blk
  simp [List.getD,Pd,hi]
 rw [this]
def ou (Z7:List Int) (ps:List (Int × List Int)) (limit:Int) (TN:Nat→List (Int × List Int)) (ln bb ops:Nat) (D:List Int) (Q:List (Int × List Int)):Prop :=
 (bb≤ln∧Z7=D∧Q=ps++TN bb∧ops=(TN bb).length∧(0≤limit→(ops:Int)≤limit))∨(bb=ln+1∧0<(TN ln).length∧D=ZC Z7 (ps++TN ln)∧Q=[]∧ops=(TN ln).length+1∧¬(0≤limit∧limit≤((TN ln).length:Int)))
def Zd (n:Nat):Nat→Code→Code
 | 0,c=>c
 | k+1,.seq (.region i o d) b=>match i == n with
  | true=>.seq (.region i o d) b
  | false=>Zd n k b
 | k+1,.seq (.seq (.region i o d) a) b=>match i == n with
  | true=>.seq (.seq (.region i o d) a) b
  | false=>Zd n k b
 | k+1,.seq _ b=>Zd n k b
 | _,c=>c
def Yh (f:Func):Code:=match f.body with
 | some c=>c
 | none=>.skip
end Go.Proofs.YtmmmffcbfepghaaGreatDoor


