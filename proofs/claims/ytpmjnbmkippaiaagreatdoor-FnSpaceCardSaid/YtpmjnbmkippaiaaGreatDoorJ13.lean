import Derived.Test.YtpmjnbmkippaiaaGreatDoorJ12
import Derived.WalkMore
import Derived.Deep.DeepHandedRow
import Derived.ShutString
import Derived.ChangeOld
import Derived.ChangeMaps5
set_option maxRecDepth 100000
set_option maxHeartbeats 16000000
set_option linter.all false
namespace Go.Proofs.YtpmjnbmkippaiaaGreatDoor
section
open Go.RowKit Go.Shelf
variable {S:Int} {zs:List Int} {len sn:Nat} {W w:World}
def Kj (w:World) (ms:List Nd) (z2:Int) (z3:Nat) (z4:Int) (e:Ending) (w':World):Prop :=
 ∃va vc,e=.returned (.agg #[.slice va ms.length vc,.int .i64 z2,.int .i64 ((z3:Nat):Int),.int .i64 z4])∧XU 147 w' w.heap.size (.slice va ms.length vc) ms∧Zi w w'
theorem Hg (w:World) (b g N C:Nat) (S L start xb:Int) (ta:Option Addr) (tc:Nat) (ns:List Nd) (cont:List Int) (ms:List Nd) (z2:Int) (z3:Nat) (z4:Int) (J:∀W,Zi w W→Calls Tryz.prog 134 #[.agg #[.slice ta ns.length tc],.int .i64 start,.slice (some ⟨g,(Rx S L xb true).toNat*64,none⟩) (L.toNat*64) (C - (Rx S L xb true).toNat*64)] W (Kj W ms z2 z3 z4)) (c0:w.cell? ⟨b,0,none⟩=some (.int .i64 S)) (c1:w.cell? ⟨b,1,none⟩=some (.int .i64 L)) (c6:w.cell? ⟨b,6,none⟩=some (.slice (some ⟨g,0,none⟩) N C)) (hlt:b<w.heap.size) (hr:Rd .u8 w (.slice (some ⟨g,0,none⟩) N C) cont) (hby:Sn cont) (hN:cont.length=N) (Bn:N≤1048576) (hc:Wp S L=true) (vL:2+2*(S+L)≤((N / 64:Nat):Int)) (hb:0≤xb∧xb≤1) :
    Calls Tryz.prog 86 #[.pointer (some ⟨b,0,none⟩),.agg #[.slice ta ns.length tc],.int .i64 start,.int .i64 xb] w (Kj w ms z2 z3 z4):=by
 obtain ⟨⟨hS1,hS2⟩,hL1,hL2⟩:=(Xk S L).1 hc;obtain ⟨sn,rfl⟩:∃sn:Nat,L=(sn:Int):=⟨L.toNat,by omega⟩;rw [Ze] at J;obtain ⟨f,hf⟩:∃f:Nat,Rx S (sn:Int) xb true=(f:Int):=⟨(Rx S (sn:Int) xb true).toNat,by
  have hk:xb=0∨xb=1:=by omega
  unfold Rx
  rcases hk with rfl | rfl <;> simp <;> omega⟩
 have ko:(f+sn)*64≤N:=by
  have hk:xb=0∨xb=1:=by omega
  unfold Rx at hf;have h2:N / 64*64≤N:=Nat.div_mul_le_self _ _
  rcases hk with rfl | rfl <;> simp at hf <;> omega
 have lG:N≤C:=by
  obtain ⟨a8,c8,h8,h7,h6⟩:=hr.len
  simp only [ZC] at h8
  obtain ⟨-,h5,rfl⟩:=h8;omega
 rw [hf,Ze] at J;have hal:(Ma cont f sn).length=sn*64:=NZ _ _ _ (by omega);have S0:Hid (tD w (.slice ta ns.length tc) ((w.alloc (.cells #[.slice ta ns.length tc] 63)).alloc (.cells #[.slice none 0 0,.int .i64 0,.int .i64 0,.int .i64 0] 99))):=(tD.new _ _).1;have R0:Hid (St ((w.alloc (.cells #[.slice ta ns.length tc] 63)).alloc (.cells #[.slice none 0 0,.int .i64 0,.int .i64 0,.int .i64 0] 99)) (w.heap.size+1) [.slice none 0 0,.int .i64 0,.int .i64 0,.int .i64 0]):=(tD.new _ _).2;have tE:Hid (∀W,Calls Tryz.prog 79 #[.agg #[.int .i64 S,.int .i64 (sn:Int)],.int .i64 xb] W (Wj W (.agg #[.int .i64 (f:Int),.int .i64 (sn:Int)]))):=by
  intro W;have h9:=RF W S (sn:Int) xb hc hb;rw [hf,show I9 S (sn:Int) true=(sn:Int) from rfl] at h9;exact h9
 have yJ:Hid (∀W,Calls Tryz.prog 50 #[.agg #[.int .i64 (f:Int),.int .i64 (sn:Int)],.slice (some ⟨g,0,none⟩) N C] W (Wj W (.slice (some ⟨g,f*64,none⟩) (Ma cont f sn).length (C - f*64)))):=by
  intro W;rw [hal];exact QM W g N C f sn ko (by omega) lG Bn
 have Z':Hid (∀W,Zi w W→Calls Tryz.prog 134 #[.agg #[.slice ta ns.length tc],.int .i64 start,.slice (some ⟨g,f*64,none⟩) (Ma cont f sn).length (C - f*64)] W (Kj W ms z2 z3 z4)):=fun W hW=>by
  rw [hal];exact J W hW
 have SP:Hid (w.cell? ⟨b,0,none⟩=some (.int .i64 S)∧w.cell? ⟨b,1,none⟩=some (.int .i64 (sn:Int))∧w.cell? ⟨b,6,none⟩=some (.slice (some ⟨g,0,none⟩) N C)):=⟨c0,c1,c6⟩;clear hr c0 c1 c6 hc hf hby J hal;generalize Ma cont f sn=IM at *;generalize IM.length=il at *;generalize C - f*64=c9 at *;generalize f*64=fo at *;clear ko lG vL hN Bn
 go_enter Tryz.func86,Tryz.ntmps86
 go_wp2_with fail
 generalize (w.alloc _).alloc _=w0 at *;have Sd:=ZU (S0.out.below (below_drewN' w0 1));have Z8:=ZU (R0.out.below (below_drewN' w0 1));refine ZX (S:=tD w (.slice ta ns.length tc)) (by kernel_rfl) (Sd.out) (fun Z9=>?_);refine Zf (.agg #[.slice ta ns.length tc]) (by kernel_rfl) (fun _=>id) Z9 ?_ ?_
 · intro w9 ZQ;have k0:=(ZQ.WC.cell (p:=⟨b,0,none⟩) hlt).trans SP.out.1;have k1:=(ZQ.WC.cell (p:=⟨b,1,none⟩) hlt).trans SP.out.2.1;have k6:=(ZQ.WC.cell (p:=⟨b,6,none⟩) hlt).trans SP.out.2.2;have x0:=ZQ.sx.cl 0 _ rfl;clear ZQ;go_simp
 iterate 4 (refine Zf ?_ (by kernel_rfl) (fun _=>id) Z9 ?_ ?_;rotate_left;· intro w9 ZQ;have k0:=(ZQ.WC.cell (p:=⟨b,0,none⟩) hlt).trans SP.out.1;have k1:=(ZQ.WC.cell (p:=⟨b,1,none⟩) hlt).trans SP.out.2.1;have k6:=(ZQ.WC.cell (p:=⟨b,6,none⟩) hlt).trans SP.out.2.2;have x0:=ZQ.sx.cl 0 _ rfl;clear ZQ;go_simp;try with_reducible rfl)
 refine Zf (.agg #[.int .i64 S,.int .i64 (sn:Int)]) (by kernel_rfl) (fun _=>id) Z9 ?_ ?_
 · intro w9 ZQ;have k0:=(ZQ.WC.cell (p:=⟨b,0,none⟩) hlt).trans SP.out.1;have k1:=(ZQ.WC.cell (p:=⟨b,1,none⟩) hlt).trans SP.out.2.1;have k6:=(ZQ.WC.cell (p:=⟨b,6,none⟩) hlt).trans SP.out.2.2;have x0:=ZQ.sx.cl 0 _ rfl;clear ZQ;go_simp
 refine Zf ?_ (by kernel_rfl) (fun _=>id) Z9 ?_ ?_
 rotate_left
 · intro w9 ZQ;have k0:=(ZQ.WC.cell (p:=⟨b,0,none⟩) hlt).trans SP.out.1;have k1:=(ZQ.WC.cell (p:=⟨b,1,none⟩) hlt).trans SP.out.2.1;have k6:=(ZQ.WC.cell (p:=⟨b,6,none⟩) hlt).trans SP.out.2.2;have x0:=ZQ.sx.cl 0 _ rfl;clear ZQ;go_simp;try with_reducible rfl
 refine Yp 8 ?v8 rfl (by kernel_rfl) (fun _=>id) Z9 ?ru ?_
 case ru =>
  intro w9 ZQ;have k0:=(ZQ.WC.cell (p:=⟨b,0,none⟩) hlt).trans SP.out.1;have k1:=(ZQ.WC.cell (p:=⟨b,1,none⟩) hlt).trans SP.out.2.1;have k6:=(ZQ.WC.cell (p:=⟨b,6,none⟩) hlt).trans SP.out.2.2;have x0:=ZQ.sx.cl 0 _ rfl;clear ZQ;go_simp
  try with_reducible rfl
 refine Yp 9 ?v9 rfl (by kernel_rfl) (fun _=>id) Z9 ?ny ?_
 case ny =>
  intro w9 ZQ;have k0:=(ZQ.WC.cell (p:=⟨b,0,none⟩) hlt).trans SP.out.1;have k1:=(ZQ.WC.cell (p:=⟨b,1,none⟩) hlt).trans SP.out.2.1;have k6:=(ZQ.WC.cell (p:=⟨b,6,none⟩) hlt).trans SP.out.2.2;have x0:=ZQ.sx.cl 0 _ rfl;clear ZQ;go_simp
  try with_reducible rfl
 refine Yp 10 ?v10 rfl (by kernel_rfl) (fun _=>id) Z9 ?Dc ?_
 case Dc =>
  intro w9 ZQ;have k0:=(ZQ.WC.cell (p:=⟨b,0,none⟩) hlt).trans SP.out.1;have k1:=(ZQ.WC.cell (p:=⟨b,1,none⟩) hlt).trans SP.out.2.1;have k6:=(ZQ.WC.cell (p:=⟨b,6,none⟩) hlt).trans SP.out.2.2;have x0:=ZQ.sx.cl 0 _ rfl;clear ZQ;go_simp
  try with_reducible rfl
 refine Yp 11 (.slice (some ⟨g,0,none⟩) N C) rfl (by kernel_rfl) (fun _=>id) Z9 ?Ks ?_
 case Ks =>
  intro w9 ZQ;have k0:=(ZQ.WC.cell (p:=⟨b,0,none⟩) hlt).trans SP.out.1;have k1:=(ZQ.WC.cell (p:=⟨b,1,none⟩) hlt).trans SP.out.2.1;have k6:=(ZQ.WC.cell (p:=⟨b,6,none⟩) hlt).trans SP.out.2.2;have x0:=ZQ.sx.cl 0 _ rfl;clear ZQ;go_simp
 refine YS 7 rfl (by kernel_rfl) (fun K hK=>?_);go_simp;refine (tE.out _).mono ?_;rintro e w1 ⟨rfl,b1⟩;have N1:=Z9.below b1;have R1:=Z8.out.below b1;clear b1;refine hK.out _ _ N1 (fun YA=>?_);clear hK K Z9;have Z9:=YA;clear YA;refine YS 12 rfl (by kernel_rfl) (fun K hK=>?_);go_simp;refine (yJ.out _).mono ?_;rintro e w2 ⟨rfl,b2⟩;have N2:=Z9.below b2;have R2:=R1.below b2;clear b2;refine hK.out _ _ N2 (fun YA=>?_);clear hK K Z9;have Z9:=YA;clear YA;refine YS 13 rfl (by kernel_rfl) (fun K hK=>?_);go_simp;refine (Z'.out _ Z9.WC).mono ?_;rintro e w3 ⟨va,vc,rfl,o3,b3⟩;have N3:=Z9.below b3;have R3:=R2.below b3;have O3:=ZU o3;clear b3 o3;refine hK.out _ _ N3 (fun YA=>?_);clear hK K Z9;have Z9:=YA;clear YA;have t0:=R3.cl 0 _ rfl;have t1:=R3.cl 1 _ rfl;have t2:=R3.cl 2 _ rfl;have t3:=R3.cl 3 _ rfl;have f0:=R3.fz 0;have f1:=R3.fz 1;have f2:=R3.fz 2;have f3:=R3.fz 3;have SE:Hid (St ((((w3.setCell ⟨w.heap.size+1,0,none⟩ (.slice va ms.length vc)).setCell ⟨w.heap.size+1,1,none⟩ (.int .i64 z2)).setCell ⟨w.heap.size+1,2,none⟩ (.int .i64 ((z3:Nat):Int))).setCell ⟨w.heap.size+1,3,none⟩ (.int .i64 (z4))) (w.heap.size+1) [(.slice va ms.length vc),(.int .i64 z2),(.int .i64 ((z3:Nat):Int)),(.int .i64 (z4))]):=((((R3.set 0 (.slice va ms.length vc)).set 1 (.int .i64 z2)).set 2 (.int .i64 ((z3:Nat):Int))).set 3 (.int .i64 (z4)));have BE:Hid (Zi w ((((w3.setCell ⟨w.heap.size+1,0,none⟩ (.slice va ms.length vc)).setCell ⟨w.heap.size+1,1,none⟩ (.int .i64 z2)).setCell ⟨w.heap.size+1,2,none⟩ (.int .i64 ((z3:Nat):Int))).setCell ⟨w.heap.size+1,3,none⟩ (.int .i64 (z4)))):=by
  iterate 4 refine Below.setCell ?_ (by show w.heap.size≤w.heap.size+1;omega) _
  exact N3.WC
 have OE:Hid (XU 147 ((((w3.setCell ⟨w.heap.size+1,0,none⟩ (.slice va ms.length vc)).setCell ⟨w.heap.size+1,1,none⟩ (.int .i64 z2)).setCell ⟨w.heap.size+1,2,none⟩ (.int .i64 ((z3:Nat):Int))).setCell ⟨w.heap.size+1,3,none⟩ (.int .i64 (z4))) w.heap.size (.slice va ms.length vc) ms):=by
  have hne:(Value.slice va ms.length vc).ownBlock=none∨(Value.slice va ms.length vc).ownBlock≠some (w.heap.size+1):=.inr (fun e=>by have:=(ZT O3.out _ e).1;have:=R2.lt;omega);have o5:=XU.mono O3.out N2.WC.size;exact Zn (Zn (Zn (Zn o5 (grownBy_set _ _ (w.heap.size+1) 0 _ (Zz _ _)) hne) (grownBy_set _ _ (w.heap.size+1) 1 _ (Zz _ _)) hne) (grownBy_set _ _ (w.heap.size+1) 2 _ (Zz _ _)) hne) (grownBy_set _ _ (w.heap.size+1) 3 _ (Zz _ _)) hne
 refine YS 14 rfl (by kernel_rfl) (fun K hK=>?_);clear tE yJ Z' S0 Sd SP;have PO:Hid (∀wE va vc,XU 147 wE w.heap.size (.slice va ms.length vc) ms→Zi w wE→Kj w ms z2 z3 z4 (.returned (.agg #[.slice va ms.length vc,.int .i64 z2,.int .i64 ((z3:Nat):Int),.int .i64 (z4)])) wE):=fun wE va vc ho hb=>⟨va,vc,rfl,ho,hb⟩
 clear O3;generalize hr1:ms.length=rl at *;go_simp;have NE:tD w (.slice ta ns.length tc) ((((w3.setCell ⟨w.heap.size+1,0,none⟩ (.slice va rl vc)).setCell ⟨w.heap.size+1,1,none⟩ (.int .i64 z2)).setCell ⟨w.heap.size+1,2,none⟩ (.int .i64 (z3:Int))).setCell ⟨w.heap.size+1,3,none⟩ (.int .i64 z4)):=⟨BE.out,(((N3.sx.other (by omega)).other (by omega)).other (by omega)).other (by omega)⟩;refine hK.out _ _ NE (fun YA=>?_);clear hK K YA;refine ZR (by kernel_rfl) ?_ _
 try simp only [Act.put,WV,WU,WT]
 clear t0 t1 t2 t3 f0 f1 f2 f3 NE N1 N2 N3 R1 R2 R3 Z9 R0 Z8;generalize (((w3.setCell _ _).setCell _ _).setCell _ _).setCell _ _=wE at *;go_wp2;have e0:=SE.out.cl 0 _ rfl;have e1:=SE.out.cl 1 _ rfl;have e2:=SE.out.cl 2 _ rfl;have e3:=SE.out.cl 3 _ rfl;refine ZW (v:=.agg #[.slice va rl vc,.int .i64 z2,.int .i64 (z3:Int),.int .i64 z4]) (by simp [results,Tryz.results86,go_sem,e0,e1,e2,e3]) rfl ?_;exact PO.out wE va vc OE.out BE.out
def Bc (w:World) (b:Nat) (S L:Int) (vd vp:Value) (lim made:Int) (vc:Value) (cg:Bool) (c:Qi) (og:Bool) (o:Qi) (ms:List Nd) (z2:Int) (z3:Nat) (z4:Int) (e:Ending) (w':World):Prop :=
 Tw w b none w' none∧∃va V,e=.returned (.int .i64 3)∧St w' b (Oo S L vd vp lim made vc cg c og o 0 (.slice va ms.length V) z2 ((z3:Nat):Int) z4)∧XU 147 w' w.heap.size (.slice va ms.length V) ms
theorem ED (w:World) (b g N C:Nat) (S L:Int) (vd vp:Value) (lim made:Int) (vc:Value) (cg:Bool) (c:Qi) (og:Bool) (o:Qi) (code:Int) (vt:Value) (zx cnt en:Int) (cont:List Int) (hs:St w b (Oo S L vd vp lim made vc cg c og o code vt zx cnt en)) (nv:vc=.slice (some ⟨g,0,none⟩) N C) (hr:∀W,Tw w b none W none→Rd .u8 W (.slice (some ⟨g,0,none⟩) N C) cont) (hby:Sn cont) (hN:cont.length=N) (Bn:N≤1048576) (hc:Wp S L=true) (vL:2+2*(S+L)≤((N / 64:Nat):Int)) (ht:Po w) (hb0:0<b) (ns:List Nd) (hSD:qf ((Ma cont (Rx S L c.b false).toNat S.toNat).take c.l.toNat) c.c=some ns) (ms:List Nd) (z2:Int) (z3:Nat) (z4:Int) (Zm:∀W ta tc,Tw w b none W none→SK W (.slice ta ns.length tc) ns→St W b (Oo S L vd vp lim made vc cg c og o 0 vt zx cnt en)→Calls Tryz.prog 86 #[.pointer (some ⟨b,0,none⟩),.agg #[.slice ta ns.length tc],.int .i64 c.s,.int .i64 c.b] W (Kj W ms z2 z3 z4)) (hcb:0≤c.b∧c.b≤1) (hcl:0≤c.l∧c.l≤S*64) :
    Calls Tryz.prog 40 #[.pointer (some ⟨b,0,none⟩)] w (Bc w b S L vd vp lim made vc cg c og o ms z2 z3 z4):=by
 have hlt:=hs.lt;obtain ⟨ln,hln⟩:∃n:Nat,c.l=(n:Int):=⟨c.l.toNat,by omega⟩;have wH:Hid (∀W,Zi w W→Calls Tryz.prog 85 #[.pointer (some ⟨b,0,none⟩),.agg #[.int .i64 c.g,.int .i64 c.b,.int .i64 c.s,.int .i64 c.l,.int .i64 c.c]] W (vM W (qf ((Ma cont (Rx S L c.b false).toNat S.toNat).take c.l.toNat) c.c))):=by
  intro W hW;have hs':=hs.Xe hW hlt;have h9:=zB W b g N C ln S L c.g c.b c.s c.l c.c cont (hs'.cl 0 _ rfl) (hs'.cl 1 _ rfl) (by rw [←nv];exact hs'.cl 6 _ rfl) hs'.lt (hr W (Tw.YZ hW _ _)) hby hN Bn hc vL hcb hln hcl.2 (ht.below (by omega) hW) (by have:=hs'.lt;omega);rw [show ln=c.l.toNat by omega] at h9;exact h9
 have Dr:=ZU Zm;have HS:=ZU hs;clear hs hr ht hc hby hN vL hln nv;rw [hSD] at wH;clear hSD;have q8:=HS.out.cl 8 _ rfl;have q9:=HS.out.cl 9 _ rfl;have iW:=HS.out.cl 10 _ rfl;have iV:=HS.out.cl 11 _ rfl;have go:=HS.out.cl 12 _ rfl;have BA:Hid (Zi w (w.alloc (.cells #[.int .i64 c.g,.int .i64 c.b,.int .i64 c.s,.int .i64 c.l,.int .i64 c.c] 60))):=Yy.alloc YR _;have XA:Hid (St (w.alloc (.cells #[.int .i64 c.g,.int .i64 c.b,.int .i64 c.s,.int .i64 c.l,.int .i64 c.c] 60)) w.heap.size [.int .i64 c.g,.int .i64 c.b,.int .i64 c.s,.int .i64 c.l,.int .i64 c.c]):=St.new _ _ _
 go_enter Tryz.func40,Tryz.ntmps40
 go_wp2_with fail
 clear q8 q9 iW iV go;generalize w.alloc _=w0 at *;refine (wH.out _ BA.out).mono ?_;rintro e w1 ⟨b1,h1⟩;have B1:=ZU (WD BA.out b1);have X1:=ZU (XA.out.below b1);have YQ:=b1.size;clear b1 BA wH
 rcases h1 with ⟨hn,rfl⟩ | ⟨Zl,v,hsm,rfl,o1⟩
 · cases hn
 obtain rfl:ns=Zl:=Zc hsm;clear hsm;obtain ⟨va,V,Zk⟩:=XU.QW o1;subst Zk;have O1:=ZU o1;have BA:Zi w1 (w1.alloc (.cells #[.bool true,.slice va ns.length V] 135)):=Yy.alloc YR _;have B2:Hid (Zi w (w1.alloc (.cells #[.bool true,.slice va ns.length V] 135))):=B1.out.alloc B1.out.size _;have S2:=ZU (HS.out.Xe B2.out hlt);have X2:=ZU (X1.out.below BA);have Y2:Hid (St (w1.alloc (.cells #[.bool true,.slice va ns.length V] 135)) w1.heap.size [.bool true,.slice va ns.length V]):=St.new _ _ _;have O2:=ZU (XU.below O1.out BA);have hw1:=B1.out.size;have hw0:b<w0.heap.size:=by have:=XA.out.lt;omega
 clear HS B1 X1 XA O1 o1 BA;have Zj:=S2.out.cl 19 _ rfl;have f19:=S2.out.fz 19;have hx1:=X2.out.cl 1 _ rfl;have hx2:=X2.out.cl 2 _ rfl;have hy0:=Y2.out.cl 0 _ rfl;have hy1:=Y2.out.cl 1 _ rfl;have SA:Hid (St ((w1.alloc (.cells #[.bool true,.slice va ns.length V] 135)).setCell ⟨b,19,none⟩ (.int .i64 0)) b (Oo S L vd vp lim made vc cg c og o 0 vt zx cnt en)):=S2.out.set 19 _;have Zh:((w1.alloc (.cells #[.bool true,.slice va ns.length V] 135)).setCell ⟨b,19,none⟩ (.int .i64 0)).cell? ⟨w.heap.size,1,none⟩=some (.int .i64 c.b):=(X2.out.other (by omega)).cl 1 _ rfl;have Zg:((w1.alloc (.cells #[.bool true,.slice va ns.length V] 135)).setCell ⟨b,19,none⟩ (.int .i64 0)).cell? ⟨w.heap.size,2,none⟩=some (.int .i64 c.s):=(X2.out.other (by omega)).cl 2 _ rfl;have Zb:((w1.alloc (.cells #[.bool true,.slice va ns.length V] 135)).setCell ⟨b,19,none⟩ (.int .i64 0)).cell? ⟨w1.heap.size,1,none⟩=some (.slice va ns.length V):=(Y2.out.other (by omega)).cl 1 _ rfl;have TA:Hid (Tw w b none ((w1.alloc (.cells #[.bool true,.slice va ns.length V] 135)).setCell ⟨b,19,none⟩ (.int .i64 0)) none):=(Tw.YZ B2.out b none).set;have OA:Hid (XU 147 ((w1.alloc (.cells #[.bool true,.slice va ns.length V] 135)).setCell ⟨b,19,none⟩ (.int .i64 0)) w0.heap.size (.slice va ns.length V) ns):=Zn O2.out (grownBy_set _ _ b 19 _ (Zz _ _)) (.inr (fun e=>by have:=(ZT O2.out _ e).1;omega));clear S2 X2 Y2 O2 B2
 go_wp2_with fail
 clear Zj f19 hx1 hx2 hy0 hy1 Zh Zg Zb;generalize (w1.alloc _).setCell _ _=w3 at *;refine (Dr.out w3 va V TA.out OA.out.rd SA.out).mono ?_;rintro e w4 ⟨ra,rc,rfl,o4,b4⟩;have S4:=ZU (SA.out.below b4);have T4:=ZU (TA.out.trans (Tw.YZ b4 b none));have O4:=ZU (XU.mono o4 TA.out.size);have hnb:(Value.slice ra ms.length rc).ownBlock≠some b:=fun e=>by have:=(ZT o4 _ e).1;have:=SA.out.lt;omega
 have PO:Hid (∀wE,St wE b (Oo S L vd vp lim made vc cg c og o 0 (.slice ra ms.length rc) z2 ((z3:Nat):Int) z4)→XU 147 wE w.heap.size (.slice ra ms.length rc) ms→Tw w b none wE none→Bc w b S L vd vp lim made vc cg c og o ms z2 z3 z4 (.returned (.int .i64 3)) wE):=fun wE h1 h2 h3=>⟨h3,ra,rc,rfl,h1,h2⟩
 clear o4 b4 SA TA OA Dr;generalize hrl:ms.length=rl at *;have g20:=S4.out.fz 20;have g21:=S4.out.fz 21;have g22:=S4.out.fz 22;have g23:=S4.out.fz 23;have k21:=S4.out.cl 21 _ rfl;have k22:=S4.out.cl 22 _ rfl;have k23:=S4.out.cl 23 _ rfl;have k20:=S4.out.cl 20 _ rfl;have SE:Hid (St ((((w4.setCell ⟨b,20,none⟩ (.slice ra rl rc)).setCell ⟨b,21,none⟩ (.int .i64 z2)).setCell ⟨b,22,none⟩ (.int .i64 ((z3:Nat):Int))).setCell ⟨b,23,none⟩ (.int .i64 z4)) b (Oo S L vd vp lim made vc cg c og o 0 (.slice ra rl rc) z2 ((z3:Nat):Int) z4)):=(((S4.out.set 20 _).set 21 _).set 22 _).set 23 _;have TE:Hid (Tw w b none ((((w4.setCell ⟨b,20,none⟩ (.slice ra rl rc)).setCell ⟨b,21,none⟩ (.int .i64 z2)).setCell ⟨b,22,none⟩ (.int .i64 ((z3:Nat):Int))).setCell ⟨b,23,none⟩ (.int .i64 z4)) none):=T4.out.set.set.set.set;have OE:Hid (XU 147 ((((w4.setCell ⟨b,20,none⟩ (.slice ra rl rc)).setCell ⟨b,21,none⟩ (.int .i64 z2)).setCell ⟨b,22,none⟩ (.int .i64 ((z3:Nat):Int))).setCell ⟨b,23,none⟩ (.int .i64 z4)) w.heap.size (.slice ra rl rc) ms):=Zn (Zn (Zn (Zn O4.out (grownBy_set _ _ b 20 _ (Zz _ _)) (.inr hnb)) (grownBy_set _ _ b 21 _ (Zz _ _)) (.inr hnb)) (grownBy_set _ _ b 22 _ (Zz _ _)) (.inr hnb)) (grownBy_set _ _ b 23 _ (Zz _ _)) (.inr hnb);clear S4 T4 O4;go_wp2;go_ret;exact PO.out _ SE.out OE.out TE.out
attribute [local go_sem] Yv
theorem zg (nn:Nat) (hn1:1≤nn) (l Ba tb c:Nat) (a:Option Addr) (P:World→Prop) (hP:∀X Y,Zi X Y→P X→P Y) (W:World) (hW:P W) (h0:W.cell? ⟨Ba,0,none⟩=some (.pointer (some ⟨tb,0,none⟩))) (h1:W.cell? ⟨tb,0,none⟩=some (.slice a 0 c)) :
    CallsIn Fence.wide nn Tryz.prog 137 #[.func (.yield l) #[] #[],.pointer (some ⟨Ba,0,none⟩)] W fun e W'=>(∃v,e=.returned v)∧P W':=by
 have H0:=ZU hW;clear hP hW;refine Xb Tryz.func137 rfl trivial ?_ rfl
 simp only [Tryz.ntmps137,ZI,ZE,Y7,Nat.reduceAdd,Nat.reduceSub,YV,YU,YI,YT,Zd,Y3]
 gi_wp2
 gi_loopw [10] (fun i wr=>i=.int .i64 0∧wr=W) (fun _ _=>0)
 case atStart=>exact ⟨rfl,rfl⟩
 case round =>
  obtain ⟨rfl,rfl⟩:=hrel;gi_wp2;exact ⟨rfl,_,Wu rfl _ _ _,⟨_,rfl⟩,H0.out⟩
structure Cz (w w1 w2:World) (tb c:Nat) (a:Option Addr) (W:World):Prop where
 WC:Zi w W
 res:St W (w.heap.size+1) [.int .i64 0]
 bx:W.cell? ⟨w1.heap.size,0,none⟩=some (.pointer (some ⟨tb,0,none⟩))
 rows:W.cell? ⟨tb,0,none⟩=some (.slice a 0 c)
 sz:w2.heap.size≤W.heap.size
theorem JL (w:World) (b:Nat) (nz:∀W,Zi w W→Calls Tryz.prog 87 #[.pointer (some ⟨b,0,none⟩)] W (vH W [])) :
    Calls Tryz.prog 42 #[.pointer (some ⟨b,0,none⟩)] w (Wj w (.int .i64 6)):=by
 have nz:=ZU nz;have BA:Hid (Zi w ((w.alloc (.cells #[.pointer (some ⟨b,0,none⟩)] 93)).alloc (.cells #[.int .i64 0] 102))):=(Yy.alloc YR _).alloc (by simp) _;have Y0:Hid (St ((w.alloc (.cells #[.pointer (some ⟨b,0,none⟩)] 93)).alloc (.cells #[.int .i64 0] 102)) (w.heap.size+1) [.int .i64 0]):=by
  have h9:=St.new (w.alloc (.cells #[.pointer (some ⟨b,0,none⟩)] 93)) #[.int .i64 0] 102;rw [YF] at h9;exact h9
 refine (YK (n:=6)).1 ?_;refine callsIn_of_wp_marks Tryz.func42 rfl trivial ?_ rfl
 simp only [Tryz.ntmps42,ZI,ZE,Y7,Nat.reduceAdd,Nat.reduceSub,YV,YU,YI,YT,Zd,Y3]
 gi_wp2_with fail
 refine ⟨trivial,?_⟩;generalize (w.alloc _).alloc _=w0 at *;refine (YK.2 (nz.out _ BA.out)).mono ?_;rintro e w1 ⟨tb,mb,v,rfl,t1,b1⟩;have s0:=Y0.out.lt;have B1:=ZU (WD BA.out b1);have Y1:=ZU (Y0.out.below b1);obtain ⟨⟨tz,td,-⟩,-⟩:=t1.box;obtain ⟨a,c,rfl⟩:∃a c,v=.slice a 0 c:=by
  rcases t1.rows.2 with ⟨rfl,-⟩ | ⟨g,cap,cur,rfl,-⟩
  · exact ⟨_,_,rfl⟩
  exact ⟨_,_,rfl⟩
 have TD:=ZU td;have s1:=b1.size;clear b1 t1 BA Y0 nz td
 gi_wp2_with fail
 refine ⟨trivial,?_⟩;refine (all_in Fence.wide _ trivial rfl _ _).mono ?_;rintro e w2 ⟨rfl,hw2⟩;have s2:w2.heap.size=w1.heap.size+1:=by rw [hw2];simp
 have b2:Zi w1 w2:=by rw [hw2];exact Yy.alloc YR _
 have Z2:Hid (Cz w w1 w2 tb c a w2):=⟨WD B1.out b2,Y1.out.below b2,by rw [hw2];simp,(b2.cell (p:=⟨tb,0,none⟩) tz).trans TD.out,YR⟩;have s3:=B1.out.size;clear hw2 b2 B1 Y1 TD;have ZB:∀X Y,Zi X Y→Cz w w1 w2 tb c a X→Cz w w1 w2 tb c a Y:=fun X Y hb h =>
  ⟨h.WC.trans (hb.mono h.WC.size),h.res.below hb,(hb.cell (p:=⟨w1.heap.size,0,none⟩) (by have:=h.sz;show w1.heap.size<_;omega)).trans h.bx,(hb.cell (p:=⟨tb,0,none⟩) (by have:=h.sz;show tb<_;omega)).trans h.rows,ZJ h.sz hb.size⟩
 have ZN:∀X Y row,Cz w w1 w2 tb c a X→X.grownBy Y row→(∀r,row=some r→w2.heap.size≤r)→Cz w w1 w2 tb c a Y:=fun X Y row h hg hr =>
  have hb:∀q,q<w2.heap.size→Y.heap[q]?=X.heap[q]?:=fun q hq=>hg.block q (ZY hq h.sz) (fun e=>by have:=hr q e.symm;omega)
  ⟨h.WC.grown hg (by have:=h.WC.size;omega) (fun q e=>by have:=hr q e;omega),h.res.vG hg (fun e=>by have:=hr _ e.symm;omega),(ZP (w:=X) (a:=⟨w1.heap.size,0,none⟩) (hb _ (by show w1.heap.size<_;omega))).trans h.bx,(ZP (w:=X) (a:=⟨tb,0,none⟩) (hb _ (by show tb<_;omega))).trans h.rows,ZJ h.sz hg.size⟩
 have Z7:=ZU ZB;have Y':=ZU ZN;clear ZB ZN
 gi_wp2_with fail
 refine PJ (F:=Fence.wide) (n:=6) rfl (by omega) (gf:=137) (lb:=#[.pointer (some ⟨w1.heap.size,0,none⟩)]) rfl trivial (enters_of Tryz.func137 (by kernel_rfl) rfl)
  (fun (_:Unit) W=>Cz w w1 w2 tb c a W) (fun _ _ _=>False) (fun s _=>s) (fun _ _=>True) (fun _=>True) ()
  (fun s X Y row hs hg hr=>Y'.out X Y row hs hg (fun r e=>(hr r e).1)) (fun _ _=>trivial) (fun _ _ _ _ _ _ _ _=>trivial)
  (fun s vs W hp=>hp.elim) Z2.out (fun _ _ _ _=>False) (fun _ _ _ _ _ _ _ h=>h.elim) (fun _ _ _ _ _ _ h=>h.elim) (fun _ _ _ _ _ h=>h.elim) ?call ?done
 case call =>
  intro Bk W1 tk hY hb1 _ hs0 nf;refine (zg _ (by omega) _ _ tb c a (fun W=>Cz w w1 w2 tb c a W∧Bk W) (fun X Y hb h=>⟨Z7.out X Y hb h.1,tk X Y (Vf hb) h.2⟩) W1 ⟨hs0,nf⟩ hs0.bx hs0.rows).mono ?_;rintro e W' ⟨h1,h2,h3⟩;exact ⟨h1,(),trivial,h2,h3⟩
 case done =>
  rintro D s W hD hfin hS hK;have HS:=ZU hS;have HK:=ZU hK;clear hS hK hfin
  gi_wp2_with fail
  refine ⟨trivial,?_⟩;refine (YK.2 (zp W tb _ [] HS.out.rows ⟨a,c,rfl⟩)).mono ?_;rintro e Wy ⟨rfl,B⟩;have Q:=ZU (Z7.out _ _ B HS.out);have Y9:Hid (Wy.heap[D]?=some (.deferred (some []))):=(B.block D (Z3.mp HK.out).1).trans HK.out;clear B HS HK;have y0:=Q.out.res.cl 0 _ rfl;have yf:=Q.out.res.fz 0;gi_wp2;refine ⟨trivial,?_⟩;gi_wp2;have Y8:(Wy.setCell ⟨w.heap.size+1,0,none⟩ (.int .i64 6)).heap[D]?=some (.deferred (some [])):=(KeepsOthers.setCell _ _ _).same D _ Y9.out rfl;refine ⟨by simp,.inl ⟨_,_,rfl,run_takeDeferred Y8,?_⟩⟩;have GX:=grownBy_putObj' (Wy.setCell ⟨w.heap.size+1,0,none⟩ (.int .i64 6)) D (.deferred none);have YX:=(Q.out.res.set 0 (.int .i64 6)).vG GX (by simp;omega);have hsy:=Q.out.sz;have BX:Zi w ((Wy.setCell ⟨w.heap.size+1,0,none⟩ (.int .i64 6)).putObj D (.deferred none)):=(Q.out.WC.setCell (by simp) _).grown GX (by simp;omega) (fun q e=>by injection e with e;omega);generalize (Wy.setCell _ _).putObj D (.deferred none)=Z at *;have z0:=YX.cl 0 _ rfl;exact ⟨.int .i64 6,by simp [results,Tryz.results42,go_sem,z0],rfl,BX⟩
theorem Hf (w:World) (va:Option Addr) (dl ca:Nat) (YL:List Int) (hd:Rd .u8 w (.slice va dl ca) YL) (hdl:YL.length=dl) (hd1:dl≤1048576) :
    Calls Tryz.prog 37 #[.agg #[.slice va dl ca,.slice none 0 0]] w fun e w'=>∃a c g,e=.returned (.agg #[.slice a dl c,.slice (some ⟨g,0,none⟩) 0 1])∧Own .u8 5 w' w.heap.size (.slice a dl c) YL∧w.heap.size≤g∧w'.heap[g]?=some (.cells #[.int .i64 0,.slice none 0 0] 132 (0,0))∧Zi w w':=by
 obtain ⟨i0,hi,hz0,hz1,hz2⟩:=YN Tryz.qk;have hmk:=run_make (P:=Tryz.prog) ((w.alloc (.cells #[.slice va dl ca,.slice none 0 0] 52)).alloc (.cells #[.slice none 0 0,.slice none 0 0] 52)) 50 132 i0 (.agg #[.int .i64 0,.slice none 0 0]) Tryz.underlying50 hi hz0 .i64 .i64 0 1 (by decide) (by decide) (by rw [hz2];decide) (by decide);have hmc:madeCells (Value.agg #[.int .i64 0,.slice none 0 0]).cells ((1:Int).toNat*i0.size)=#[.int .i64 0,.slice none 0 0]:=by rw [hz1];kernel_rfl
 rw [hmc] at hmk;have HD:=ZU hd;have OM:=ZU hdl;clear hd hdl hmc
 go_enter Tryz.func37,Tryz.ntmps37
 go_wp2;clear hmk;have B3:Hid (Zi w (((w.alloc (.cells #[.slice va dl ca,.slice none 0 0] 52)).alloc (.cells #[.slice none 0 0,.slice none 0 0] 52)).alloc (.cells #[.int .i64 0,.slice none 0 0] 132))):=((Yy.alloc YR _).alloc (by simp) _).alloc (by simp;omega) _;have X0:Hid (St (((w.alloc (.cells #[.slice va dl ca,.slice none 0 0] 52)).alloc (.cells #[.slice none 0 0,.slice none 0 0] 52)).alloc (.cells #[.int .i64 0,.slice none 0 0] 132)) w.heap.size [.slice va dl ca,.slice none 0 0]):=((St.new w _ _).below (Yy.alloc YR _)).below (Yy.alloc YR _);have oh:Hid ((((w.alloc (.cells #[.slice va dl ca,.slice none 0 0] 52)).alloc (.cells #[.slice none 0 0,.slice none 0 0] 52)).alloc (.cells #[.int .i64 0,.slice none 0 0] 132)).heap[w.heap.size+2]?=some (.cells #[.int .i64 0,.slice none 0 0] 132 (0,0))):=by
  have:=Zs ((w.alloc (.cells #[.slice va dl ca,.slice none 0 0] 52)).alloc (.cells #[.slice none 0 0,.slice none 0 0] 52)) (.cells #[.int .i64 0,.slice none 0 0] 132);show _=_
  simpa using this
 have X1:Hid (SQ (((w.alloc (.cells #[.slice va dl ca,.slice none 0 0] 52)).alloc (.cells #[.slice none 0 0,.slice none 0 0] 52)).alloc (.cells #[.int .i64 0,.slice none 0 0] 132)) (w.heap.size+1) (.slice none 0 0) (.slice none 0 0)):=by
  have:=(SQ.new (w.alloc (.cells #[.slice va dl ca,.slice none 0 0] 52)) (.slice none 0 0) (.slice none 0 0) 52).below (Yy.alloc YR (.cells #[.int .i64 0,.slice none 0 0] 132));show SQ _ _ _ _
  simpa using this
 generalize ((w.alloc _).alloc _).alloc _=w3 at *
 go_loopw [3,14] (fun v i wr=>v=.slice (some ⟨w.heap.size+1+1,0,none⟩) 0 1∧i=.int .i64 0∧wr=w3) (fun _ _ _=>0)
 case atStart=>exact ⟨rfl,rfl,rfl⟩
 case round =>
  obtain ⟨rfl,rfl,rfl⟩:=hrel;have c0:=X0.out.cl 0 _ rfl
  go_wp2_with fail
  refine (Je _ _ YL (HD.out.below B3.out) (by have:=OM.out;omega)).mono ?_;rintro e w7 ⟨v7,rfl,o7,b7⟩;obtain ⟨a7,c7,rfl⟩:=o7.slice;rw [OM.out];have B7:=ZU (WD B3.out b7);have O7:Hid (Own .u8 5 w7 wr.heap.size (.slice a7 dl c7) YL):=by rw [←OM.out];exact o7
  have g3:=oh.out;have l3:=(Z3.mp g3).1;have G7:Hid (w7.heap[w.heap.size+2]?=some (.cells #[.int .i64 0,.slice none 0 0] 132 (0,0))):=(b7.block _ l3).trans g3;have Y6:=ZU (X1.out.below b7);have hb3:=B3.out.size;clear o7 b7 g3 c0;obtain ⟨⟨z7,d0,d1⟩,f0,f1⟩:=Y6.out;go_wp2;refine ZW (v:=.agg #[.slice a7 dl c7,.slice (some ⟨w.heap.size+1+1,0,none⟩) 0 1]) (by simp [results,Tryz.results37,go_sem,d0,d1]) rfl ⟨_,_,w.heap.size+1+1,rfl,?_,by omega,?_,?_⟩
  · have hl:∀j (u:Value) (W:World),Own .u8 5 W wr.heap.size (.slice a7 dl c7) YL→Own .u8 5 (W.setCell ⟨w.heap.size+1,j,none⟩ u) wr.heap.size (.slice a7 dl c7) YL:=fun j u W h=>Own.Vz h (by show w.heap.size+1<wr.heap.size;omega) u
    exact Own.mono (hl _ _ _ (hl _ _ _ O7.out)) (by omega)
  · rw [Below.heap_setCell _ _ _ _ (by simp),Below.heap_setCell _ _ _ _ (by simp)]
    exact G7.out
  repeat (first | exact B7.out | refine Below.setCell ?_ (by simp;try omega) _)
def X0:Qi:=⟨1,0,0,23,(C0:Int)⟩
def Z5:Qi:=⟨0,0,0,0,0⟩
def Qz (S:Int) (sn:Nat):List Int:=IZ (IY S (sn:Int))
def j7 (S:Int) (sn:Nat):zD:=⟨0,X0,0,[Yx],0,0,Qz S sn,[]⟩
theorem j6 (n:Nat):blk (IZ n) 0=zeros 64:=by
 unfold blk IZ;rw [Xg,XR,ZO,ZO,SC (Xl 64)]
theorem j5 (n:Nat):blk (IZ n) 1=L4:=by
 unfold blk IZ;rw [Uw,ZO,ZO,List.drop_left' (Xl 64),SC UH]
theorem qY (n a:Nat) (ha:151≤a):(IZ n).drop a=zeros (n*64 - a):=by
 unfold IZ;have e:(zeros 64++L4++I0).length=151:=by simp only [ZZ,Xl,UH,Tt]
 rw [Tc,XS (by rw [e];exact ha),e];unfold zeros;rw [List.drop_replicate,Zd,show n*64 - 151 - (a - 151)=n*64 - a by omega]
theorem Bb (n a m:Nat) (ha:151≤a) (hm:a+m≤n*64):((IZ n).drop a).take m=zeros m:=by
 rw [qY n a ha];unfold zeros;rw [List.take_replicate,YC (by omega)]
theorem m9 (n m:Nat) (h:23≤m):(((IZ n).drop 128).take m).take 23=I0:=by
 unfold IZ;have e:(zeros 64++L4).length=128:=by simp only [ZZ,Xl,UH]
 rw [ZO (zeros 64++L4),List.drop_left' e,U6,YC h,SC Tt]
theorem m6 (n:Nat):Sn (IZ n):=by
 intro x hx;unfold IZ zeros at hx
 simp only [Y4,List.mem_replicate] at hx
 have hs:∀x ∈ L4,0≤x∧x<256:=by
  have:L4.all (fun x=>decide (0≤x∧x<256))=true:=by decide +kernel
  intro x hx
  simpa using Yw.1 this x hx
 rcases hx with ((⟨-,rfl⟩ | hx) | hx) | ⟨-,rfl⟩
 · decide
 · exact hs x hx
 · exact vf x hx
 decide
theorem j0 (S:Int):Hs S (zeros 64)=false:=by
 have:decide (OD (zeros 64))=false:=by decide +kernel
 unfold Hs;rw [this];rfl
theorem jZ (hS:1≤S):Hs S L4=true:=by
 have h:decide (OD L4)=true:=by decide +kernel
 have hl:nL L4=23:=by decide +kernel
 unfold Hs;rw [h,hl];simp;omega
theorem jY:rz L4=X0:=by
 have h1:nG L4=1:=by decide +kernel
 have h2:nB L4=0:=by decide +kernel
 have h3:nS L4=0:=by decide +kernel
 have h4:nL L4=23:=by decide +kernel
 have h5:nC L4=(C0:Int):=by decide +kernel
 unfold rz X0;rw [h1,h2,h3,h4,h5]
theorem jX:Gj I0=some [Yx]:=by kernel_rfl
theorem gi:qf I0 (C0:Int)=some [Yx]:=by
 unfold qf;rw [Z0 (by rfl),jX]
theorem NW (hc:Wp S (sn:Int)=true):Kv S (sn:Int) (Qz S sn).length []=true:=by
 obtain ⟨h1,h2,h3⟩:=Mt hc;unfold Qz;rw [LB _ (by omega)];refine (RI _ _ _ _).2 ⟨hc,(Sq _ _).2 ⟨by omega,by omega,by omega,by simp,fun i hi=>by simp at hi⟩,by omega⟩
theorem M0 (hc:Wp S (sn:Int)=true):MA (Qz S sn) []=Qz S sn:=by
 obtain ⟨-,hv,-⟩:=(RI _ _ _ _).1 (NW hc);unfold MA;rw [Z0 hv];rfl
theorem ze (hc:Wp S (sn:Int)=true):gj (Qz S sn) [] S sn (Qz S sn).length (-1):=by
 obtain ⟨h1,h2,h3⟩:=Mt hc;refine ⟨NW hc,by simp,by rw [M0 hc];exact m6 _,by rw [M0 hc],?_,by decide⟩;unfold Qz;rw [LB _ (by omega)];omega
theorem mZ (hc:Wp S (sn:Int)=true):gq (Qz S sn) [] S (sn:Int) 0 true=zeros (sn*64):=by
 obtain ⟨h1,h2,h3⟩:=Mt hc;obtain ⟨⟨hS1,hS2⟩,hL1,hL2⟩:=(Xk S sn).1 hc;rw [Bm (NW hc) (by decide),M0 hc,Ze];unfold Ma Qz;refine Bb _ _ _ ?_ ?_ <;> unfold Rx <;> simp <;> omega
theorem EC (f:Int) (l:List Int):∀(n b:Nat),QN f l l b n=[]
 | 0,b=>rfl
 | n+1,b=>by rw [QN,Z0 rfl,EC f l n (b+1)];rfl
structure Rf (w W:World) (b g N C pg:Nat) (vd:Value) (D:List Int):Prop where
 WC:Zi w W
 dk:Own .u8 5 W w.heap.size vd D
 pw:W.heap[pg]?=some (.cells #[.int .i64 0,.slice none 0 0] 132 (0,0))
 Z6:w.heap.size≤pg
 ct:Own .u8 5 W w.heap.size (.slice (some ⟨g,0,none⟩) N C) D
 tab:Po W
 lo:w.heap.size≤b
 b0:0<b
 ne1:vd.ownBlock≠some b
 Z4:pg≠b
 ZV:g≠b
theorem Rf.tw {W':World} {b g N C pg:Nat} {vd:Value} {D:List Int} (h:Rf w W b g N C pg vd D) (t:Tw W b none W' none) (hz:0<W.heap.size):Rf w W' b g N C pg vd D:=by
 refine ⟨h.WC.trans (t.below h.WC.size (by have:=h.lo;omega) (fun g e=>by cases e)),?_,?_,h.Z6,?_,?_,h.lo,h.b0,h.ne1,h.Z4,h.ZV⟩
 · exact h.dk.LR t.LR (fun q e=>by cases e;exact h.ne1)
 · exact (t.block pg (Z3.mp h.pw).1 h.Z4 (by simp)).trans h.pw
 · exact h.ct.LR t.LR (fun q e=>by cases e;simpa [Value.ownBlock] using h.ZV)
 intro i hi;have hb:=h.b0;exact (ZP (w:=W) (a:=⟨0,i,none⟩) (t.block 0 hz (by omega) (by simp))).trans (h.tab i hi)
def iT (w:World) (b g N C pg:Nat) (vd:Value) (S:Int) (sn:Nat) (n:Int) (W:World):Prop :=
 Rf w W b g N C pg vd (Qz S sn) ∧
 ((n=0∧St W b (Oo S (sn:Int) vd (.slice (some ⟨pg,0,none⟩) 0 1) (-1) 0 (.slice (some ⟨g,0,none⟩) N C) false Z5 false Z5 0 (.slice none 0 0) 0 0 0)) ∨
 (n=1∧St W b (Oo S (sn:Int) vd (.slice (some ⟨pg,0,none⟩) 0 1) (-1) 0 (.slice (some ⟨g,0,none⟩) N C) true X0 false Z5 0 (.slice none 0 0) 0 0 0)) ∨
 ((n=3∨n=6)∧∃ta tc,St W b (Oo S (sn:Int) vd (.slice (some ⟨pg,0,none⟩) 0 1) (-1) 0 (.slice (some ⟨g,0,none⟩) N C) true X0 false Z5 0 (.slice ta 1 tc) 0 0 0)∧XU 147 W w.heap.size (.slice ta 1 tc) [Yx]∧Value.ownBlock (.slice ta 1 tc)≠some b))
def CK (w:World) (b g N C pg:Nat) (vd:Value) (S:Int) (sn:Nat) (n:Int) (e:Ending) (w':World):Prop :=
 ∃n',e=.returned (.int .i64 n')∧n<n'∧n'≤6∧iT w b g N C pg vd S sn n' w'
def CJ (w:World) (S:Int) (sn:Nat) (e:Ending) (w':World):Prop :=
 ∃vt v1 pg,e=.returned (.agg (qg (j7 S sn) vt v1 (.slice (some ⟨pg,0,none⟩) 0 1)))∧XU 147 w' w.heap.size vt [Yx]∧Own .u8 5 w' w.heap.size v1 (Qz S sn)∧w.heap.size≤pg∧w'.heap[pg]?=some (.cells #[.int .i64 0,.slice none 0 0] 132 (0,0))∧Zi w w'
section
variable {w W:World} {b g N C pg:Nat} {vd:Value} {S:Int} {sn:Nat}
theorem qX (hc:Wp S (sn:Int)=true) (hN:(Qz S sn).length=N) (h:Rf w W b g N C pg vd (Qz S sn))
    (hs:St W b (Oo S (sn:Int) vd (.slice (some ⟨pg,0,none⟩) 0 1) (-1) 0 (.slice (some ⟨g,0,none⟩) N C) false Z5 false Z5 0 (.slice none 0 0) 0 0 0)) :
    Calls Tryz.prog 39 #[.pointer (some ⟨b,0,none⟩)] W (CK w b g N C pg vd S sn 0):=by
 have H:=ze hc;rw [hN] at H;obtain ⟨-,vL,tH,hS,hs1,hs2⟩:=H.facts;have hr:=h.ct.rd;have hl:=H.len;have hb:=H.fu;rw [M0 hc] at hl hb;refine (vJ W b g N C S sn vd _ (-1) 0 _ false _ false _ 0 _ 0 0 0 (Qz S sn) rfl hs hr hb hl H.n9 tH hS).mono ?_;have e0:blk (Qz S sn) 0=zeros 64:=j6 _;have e1:blk (Qz S sn) 1=L4:=j5 _;rw [e0,e1,j0,jZ hS.1,nt (j0 S),rn (jZ hS.1),jY];rintro e w' ⟨xg,x,yg,y,rfl,s',t',⟨h1,-⟩ | ⟨-,rfl,rfl,rfl,rfl⟩⟩
 · exact absurd (show (0:Int)<1 by decide) h1
 exact ⟨1,by simp,by omega,by omega,h.tw t' (Ue (Zu _) hs.lt),.inr (.inl ⟨rfl,s'⟩)⟩
theorem mY (hc:Wp S (sn:Int)=true) (hN:(Qz S sn).length=N) (h:Rf w W b g N C pg vd (Qz S sn))
    (hs:St W b (Oo S (sn:Int) vd (.slice (some ⟨pg,0,none⟩) 0 1) (-1) 0 (.slice (some ⟨g,0,none⟩) N C) true X0 false Z5 0 (.slice none 0 0) 0 0 0)) :
    Calls Tryz.prog 40 #[.pointer (some ⟨b,0,none⟩)] W (CK w b g N C pg vd S sn 1):=by
 have H:=ze hc;rw [hN] at H;obtain ⟨-,vL,tH,hS,hs1,hs2⟩:=H.facts;have hl:=H.len;have hb:=H.fu;have hK:=Mt hc;rw [M0 hc] at hl hb;have hz:=Ue (Zu _) hs.lt;have hct:∀W',Tw W b none W' none→Rd .u8 W' (.slice (some ⟨g,0,none⟩) N C) (Qz S sn):=fun W' t=>by
  exact (h.tw t hz).ct.rd
 have lG:N≤C∧C≤maxLen:=by
  obtain ⟨a8,c8,h8,h7,h6⟩:=(hct W (Tw.refl W b none)).len
  simp only [ZC] at h8
  obtain ⟨-,h5,rfl⟩:=h8;omega
 have ZS:N=IY S (sn:Int)*64:=by rw [←hN];exact LB _ (by omega)
 have ef:(Rx S (sn:Int) 0 true).toNat=2+S.toNat:=by unfold Rx;simp;omega
 refine (ED W b g N C S sn vd _ (-1) 0 _ true X0 false Z5 0 _ 0 0 0 (Qz S sn) hs rfl hct hb hl H.n9 hc vL h.tab h.b0 [Yx] ?_ [Yx] 0 0 0 ?_ (by decide) (by show (0:Int)≤23∧(23:Int)≤S*64;omega)).mono ?_
 · have e:(Rx S (sn:Int) X0.b false).toNat=2:=by show (Rx S (sn:Int) 0 false).toNat=2;unfold Rx;simp
   rw [e];show qf ((((IZ (IY S (sn:Int))).drop 128).take (S.toNat*64)).take 23) (C0:Int)=_;rw [m9 _ _ (by omega)];exact gi
 · intro W' ta tc hT hR hs'
   refine Hg W' b g N C S sn 0 0 ta tc [Yx] (Qz S sn) [Yx] 0 0 0 (fun W2 hb2=>?_) (hs'.cl 0 _ rfl) (hs'.cl 1 _ rfl) (hs'.cl 6 _ rfl) hs'.lt (hct W' hT) hb hl H.n9 hc vL (by decide);have hr2:=(hct W' hT).below hb2;have hcell:=Rd.part hr2 hl ((Rx S (sn:Int) 0 true).toNat*64) ((sn:Int).toNat*64) (by rw [ef,Ze];omega);refine EE W2 ta tc [Yx] g _ _ _ (hR.below hb2) M4 ?_ (by rw [Ze];omega) (by rw [ef,Ze];omega) (by omega) (by rw [Ze];omega);obtain ⟨a8,c8,e8,-,-,h3⟩:=hcell
   simp only [ZC] at e8
   have hz0:(((Qz S sn).drop ((Rx S (sn:Int) 0 true).toNat*64)).take ((sn:Int).toNat*64))=zeros ((sn:Int).toNat*64):=by
    unfold Qz;exact Bb _ _ _ (by rw [ef];omega) (by rw [ef,Ze];omega)
   rw [hz0] at h3
   rcases h3 with h3 | ⟨b9,o9,e9,-,h3⟩
   · have:=ZM List.length h3
     rw [Xl,Ze] at this
     simp at this;omega
   rw [←e8.1] at e9;have h4:=h3 0 (by rw [Xl,Ze];omega)
   simp only [ZK,Ym,VB] at e9
   rw [←e9.1,←e9.2] at h4
   simp only [Yj,Za] at h4
   rw [h4];have:0<sn*64:=by omega
   simp [zeros,List.getD,this]
 rintro e w' ⟨t',va,V,rfl,s',o'⟩;refine ⟨3,rfl,by omega,by omega,h.tw t' hz,.inr (.inr ⟨.inl rfl,va,V,s',XU.mono o' (by have:=h.lo;have:=hs.lt;omega),?_⟩)⟩;intro e;have:=(ZT o' b e).1;have:=hs.lt;omega
theorem mX (hc:Wp S (sn:Int)=true) (hN:(Qz S sn).length=N) (h:Rf w W b g N C pg vd (Qz S sn)) {ta:Option Addr} {tc:Nat}
    (hs:St W b (Oo S (sn:Int) vd (.slice (some ⟨pg,0,none⟩) 0 1) (-1) 0 (.slice (some ⟨g,0,none⟩) N C) true X0 false Z5 0 (.slice ta 1 tc) 0 0 0)) (hn:XU 147 W w.heap.size (.slice ta 1 tc) [Yx]) (hne:Value.ownBlock (.slice ta 1 tc)≠some b) :
    Calls Tryz.prog 42 #[.pointer (some ⟨b,0,none⟩)] W (CK w b g N C pg vd S sn 3):=by
 have H:=ze hc;rw [hN] at H;obtain ⟨-,vL,tH,hS,hs1,hs2⟩:=H.facts;have hl:=H.len;rw [M0 hc] at hl;have hK:=Mt hc;have ZS:N=IY S (sn:Int)*64:=by rw [←hN];exact LB _ (by omega)
 have ef:Rx S (sn:Int) 0 true=((2+S.toNat:Nat):Int):=by unfold Rx;simp;omega
 have G:=mZ hc;rw [Bm (NW hc) (by decide),M0 hc,Ze,ef,Ze] at G;refine (JL W b (fun W2 hb2=>?_)).mono ?_
 · have ZL:=hs.below hb2
   have h9:=ER W2 b g N C (2+S.toNat) S sn vd _ (-1) 0 _ true X0 false Z5 0 _ 0 0 0 (Qz S sn) ZL rfl (h.ct.below hb2).rd hl H.n9 hc (by decide) ef (by omega) (by omega) hs2 (by omega);rw [G] at h9;have e9:Nb (zeros (sn*64)) 0=zeros (sn*64):=by unfold Nb;simp [Xl]
   rw [e9,EC] at h9;exact h9
 rintro e w' ⟨rfl,b'⟩;have t':Tw W b none w' none:=Tw.YZ b' _ _;exact ⟨6,rfl,by omega,by omega,h.tw t' (Ue (Zu _) hs.lt),.inr (.inr ⟨.inr rfl,ta,tc,hs.below b',hn.below b',hne⟩)⟩
theorem mW {n:Int} (h:iT w b g N C pg vd S sn n W) (h4:4≤n) :
    n=6∧Calls Tryz.prog 43 #[.pointer (some ⟨b,0,none⟩),.int .i64 6] W (CJ w S sn):=by
 obtain ⟨hr,h⟩:=h
 rcases h with ⟨rfl,-⟩ | ⟨rfl,-⟩ | ⟨hn,ta,tc,hs,ho,hne⟩
 iterate 2 omega
 refine ⟨by omega,?_⟩;obtain ⟨a,c,rfl⟩:=hr.dk.slice;refine (zy _ _ _ _ _ _ _ _ _ _ _ _ _ _ _ _ _ _ _ _ _ _ _ _ hs).mono ?_;rintro e w' ⟨rfl,b'⟩;exact ⟨_,_,pg,rfl,ho.below b',hr.dk.below b',hr.Z6,(b'.block pg (Z3.mp hr.pw).1).trans hr.pw,hr.WC.trans (b'.mono hr.WC.size)⟩
end
theorem EB (w:World) (v1:Value) (S:Int) (sn:Nat) (YL:List Int) (RES:zD) (T:YL=Qz S sn) (E:RES=j7 S sn) (hcf:Wp S (sn:Int)=true) (hd:Rd .u8 w v1 YL) (htab:Po w) (h0:0<w.heap.size) :
    Calls Tryz.prog 19 #[.agg #[v1,.slice none 0 0],.agg #[.int .i64 S,.int .i64 (sn:Int)],.int .i64 (-1)] w (CJ w S sn):=by
 obtain ⟨ao,ca,rfl,-⟩:=hd.len;have hp:J8 w (.slice none 0 0) []:=⟨none,0,rfl,YR,by decide,.inl rfl⟩;have hfit:Kv S (sn:Int) YL.length []=true:=by rw [T];exact NW hcf
 have hdl:YL.length≤1048576:=by rw [T];exact (ze hcf).n9
 have KE:∀i,(pD ([]:List (Int × List Int)) i).length≤1048576:=fun i=>by simp [pD]
 obtain ⟨-,hv,hdz⟩:=(RI S sn YL.length []).1 hfit;have lM:=ZU hcf;have S0:Hid (yF w (.slice ao YL.length ca) (.slice none 0 0) S (sn:Int) (((w.alloc (.cells #[.slice ao YL.length ca,.slice none 0 0] 52)).alloc (.cells #[.int .i64 S,.int .i64 (sn:Int)] 25)).alloc (.cells #[.int .i64 0,.int .i64 0,.int .i64 0,.int .i64 0,.int .i64 0,.int .i64 0,.int .i64 0,.slice none 0 0,.int .i64 0,.int .i64 0,.slice none 0 0,.slice none 0 0] 65))):=yF.new _ _ _ _ _;have HF:Hid (∀W,Zi w W→Calls Tryz.prog 36 #[.agg #[.slice ao YL.length ca,.slice none 0 0],.agg #[.int .i64 S,.int .i64 (sn:Int)]] W (Wj W (.bool true))):=by
  intro W hW;have h9:=Oq W ao none YL.length ca 0 0 [] S sn (hp.below hW) rfl hdl (Zu _) KE;rw [hfit] at h9;exact h9
 have hsy:MA YL []=YL:=by rw [T];exact M0 hcf
 have ZH:Hid (∀W,Zi w W→Calls Tryz.prog 37 #[.agg #[.slice ao YL.length ca,.slice none 0 0]] W fun e w'=>∃a c g,e=.returned (.agg #[.slice a YL.length c,.slice (some ⟨g,0,none⟩) 0 1])∧Own .u8 5 w' W.heap.size (.slice a YL.length c) YL∧W.heap.size≤g∧w'.heap[g]?=some (.cells #[.int .i64 0,.slice none 0 0] 132 (0,0))∧Zi W w'):=fun W hW=>Hf W ao YL.length ca YL (hd.below hW) rfl hdl
 have O:Hid (∀W,Zi w W→Calls Tryz.prog 38 #[.agg #[.slice ao YL.length ca,.slice none 0 0]] W fun e w'=>∃u,e=.returned u∧Own .u8 5 w' W.heap.size u YL∧Zi W w'):=fun W hW=>by
  have h9:=L8 W _ _ YL [] (hd.below hW) (hp.below hW) hdl (by simp) KE;rw [hsy] at h9;exact h9
 have fG:¬(1936:Int)<(0:Int):=by omega
 obtain ⟨⟨hS1,hS2⟩,hL1,hL2⟩:=(Xk S sn).1 hcf;have hpos:0<YL.length:=by omega
 have uW:=ZU E;have ZD:=ZU htab;have U:=ZU T;clear E hd hp KE htab hv hfit hdz hcf T
 go_enter Tryz.func19,Tryz.ntmps19
 go_wp2_with fail
 refine wp_scope_straight ?_
 go_wp2_with fail
 generalize ((w.alloc _).alloc _).alloc _=w0 at *;refine (HF.out _ S0.out.WC).mono ?_;rintro e w1 ⟨rfl,b1⟩;have S1:=ZU (S0.out.below b1);clear b1 S0 HF;have q1:=S1.out.d1
 go_wp2_with fail
 clear q1;have ZA:=ZU (S1.out.below (below_drewN' w1 1));refine ZX (S:=yF w (.slice ao YL.length ca) (.slice none 0 0) S (sn:Int)) (by kernel_rfl) (ZA.out) (fun Z9=>?_);refine Zf (.agg #[.int .i64 S,.int .i64 (sn:Int)]) (by kernel_rfl) (fun _=>id) Z9 ?_ ?_
 · intro w9 ZQ;obtain ⟨-,-,d0,d1,c0,c1,-⟩:=ZQ;go_simp
 refine Zf (.agg #[.slice ao YL.length ca,.slice none 0 0]) (by kernel_rfl) (fun _=>id) Z9 ?_ ?_
 · intro w9 ZQ;obtain ⟨-,-,d0,d1,c0,c1,-⟩:=ZQ;go_simp
 refine Yp 3 (.int .i64 (-1)) rfl (by kernel_rfl) (fun _=>id) Z9 ?hy3 ?_
 case hy3=>intro w9 ZQ;obtain ⟨-,-,d0,d1,c0,c1,-⟩:=ZQ;go_simp
 refine Yp 5 (.agg #[.slice ao YL.length ca,.slice none 0 0]) rfl (by kernel_rfl) (fun _=>id) Z9 ?hy4 ?_
 case hy4=>intro w9 ZQ;obtain ⟨-,-,d0,d1,c0,c1,-⟩:=ZQ;go_simp
 refine YS 2 rfl (by kernel_rfl) (fun K hK=>?_);go_simp;refine (ZH.out _ Z9.WC).mono ?_;rintro e w3 ⟨da,dc,pg,rfl,o3,Zy,Zx,b3⟩;have hN:=Z9.below b3;have B3:=ZU ((below_drewN' w1 1).trans (b3.mono YR));have D3:Hid (Own .u8 5 w3 w1.heap.size (.slice da YL.length dc) YL):=o3;have I:Hid (w3.heap[pg]?=some (.cells #[.int .i64 0,.slice none 0 0] 132 (0,0))∧w1.heap.size≤pg):=⟨Zx,Zy⟩;clear o3 b3 Zy Zx;refine hK.out _ _ hN (fun YA=>?_);clear hK K Z9;have Z9:=YA;clear YA;refine Yp 4 (.agg #[.slice da YL.length dc,.slice (some ⟨pg,0,none⟩) 0 1,.int .i64 (-1),.int .i64 0]) rfl (by kernel_rfl) (fun _=>id) Z9 ?DH ?_
 case DH=>intro w9 ZQ;obtain ⟨-,-,d0,d1,c0,c1,-⟩:=ZQ;go_simp
 refine YS 6 rfl (by kernel_rfl) (fun K hK=>?_);go_simp;refine (O.out _ Z9.WC).mono ?_;rintro e w4 ⟨u4,rfl,o4,b4⟩;obtain ⟨cg,C,rfl,Zw,Zv⟩:=o4.pos rfl hpos;have hN:=Z9.below b4;have s3:=B3.out.size;have B4:=ZU (B3.out.trans (b4.mono s3));have C4:=ZU (o4.mono s3);have D4:=ZU (Own.below D3.out b4);have M:Hid (w4.heap[pg]?=some (.cells #[.int .i64 0,.slice none 0 0] 132 (0,0))∧w1.heap.size≤pg∧pg<w4.heap.size):=by
  have l9:=(Z3.mp I.out.1).1;exact ⟨(b4.block pg l9).trans I.out.1,I.out.2,ZY l9 b4.size⟩
 clear o4 b4 B3 D3 I;refine hK.out _ _ hN (fun YA=>?_);clear hK K Z9;have Z9:=YA;clear YA;refine Zf (.agg #[.int .i64 S,.int .i64 (sn:Int),.slice da YL.length dc,.slice (some ⟨pg,0,none⟩) 0 1,.int .i64 (-1),.int .i64 0,.slice (some ⟨cg,0,none⟩) YL.length C,.bool false,.int .i64 0,.int .i64 0,.int .i64 0,.int .i64 0,.int .i64 0,.bool false,.int .i64 0,.int .i64 0,.int .i64 0,.int .i64 0,.int .i64 0,.int .i64 0,.slice none 0 0,.int .i64 0,.int .i64 0,.int .i64 0]) (by kernel_rfl) (fun _=>id) Z9 ?_ ?_
 · intro w9 ZQ;obtain ⟨-,-,d0,d1,c0,c1,-⟩:=ZQ;go_simp
 refine YS 8 rfl (by kernel_rfl) (fun K hK=>?_);have bA:Zi w4 (w4.alloc (.cells #[.int .i64 S,.int .i64 (sn:Int),.slice da YL.length dc,.slice (some ⟨pg,0,none⟩) 0 1,.int .i64 (-1),.int .i64 0,.slice (some ⟨cg,0,none⟩) YL.length C,.bool false,.int .i64 0,.int .i64 0,.int .i64 0,.int .i64 0,.int .i64 0,.bool false,.int .i64 0,.int .i64 0,.int .i64 0,.int .i64 0,.int .i64 0,.int .i64 0,.slice none 0 0,.int .i64 0,.int .i64 0,.int .i64 0] 101)):=Yy.alloc YR _;have hN:=Z9.below bA;have s4:=B4.out.size;have s5:w4.heap.size<(w4.alloc (.cells #[.int .i64 S,.int .i64 (sn:Int),.slice da YL.length dc,.slice (some ⟨pg,0,none⟩) 0 1,.int .i64 (-1),.int .i64 0,.slice (some ⟨cg,0,none⟩) YL.length C,.bool false,.int .i64 0,.int .i64 0,.int .i64 0,.int .i64 0,.int .i64 0,.bool false,.int .i64 0,.int .i64 0,.int .i64 0,.int .i64 0,.int .i64 0,.int .i64 0,.slice none 0 0,.int .i64 0,.int .i64 0,.int .i64 0] 101)).heap.size:=by simp
 have Zt:Hid (iT w1 w4.heap.size cg YL.length C pg (.slice da YL.length dc) S sn 0 (w4.alloc (.cells #[.int .i64 S,.int .i64 (sn:Int),.slice da YL.length dc,.slice (some ⟨pg,0,none⟩) 0 1,.int .i64 (-1),.int .i64 0,.slice (some ⟨cg,0,none⟩) YL.length C,.bool false,.int .i64 0,.int .i64 0,.int .i64 0,.int .i64 0,.int .i64 0,.bool false,.int .i64 0,.int .i64 0,.int .i64 0,.int .i64 0,.int .i64 0,.int .i64 0,.slice none 0 0,.int .i64 0,.int .i64 0,.int .i64 0] 101))):=by
  have hs:St (w4.alloc (.cells #[.int .i64 S,.int .i64 (sn:Int),.slice da YL.length dc,.slice (some ⟨pg,0,none⟩) 0 1,.int .i64 (-1),.int .i64 0,.slice (some ⟨cg,0,none⟩) YL.length C,.bool false,.int .i64 0,.int .i64 0,.int .i64 0,.int .i64 0,.int .i64 0,.bool false,.int .i64 0,.int .i64 0,.int .i64 0,.int .i64 0,.int .i64 0,.int .i64 0,.slice none 0 0,.int .i64 0,.int .i64 0,.int .i64 0] 101)) w4.heap.size (Oo S (sn:Int) (.slice da YL.length dc) (.slice (some ⟨pg,0,none⟩) 0 1) (-1) 0 (.slice (some ⟨cg,0,none⟩) YL.length C) false Z5 false Z5 0 (.slice none 0 0) 0 0 0):=St.new w4 _ _;have bW:=B4.out.trans (bA.mono s4);have hz1:=S1.out.lt;have Zr:=ZD.out.below h0 (S1.out.WC.trans (bW.mono S1.out.WC.size));have If:∀v:Value,(∀g,v.ownBlock=some g→g<w4.heap.size)→v.ownBlock≠some w4.heap.size:=fun v h e=>by have:=h _ e;omega
  refine ⟨?_,.inl ⟨rfl,hs⟩⟩;rw [←U.out];exact ⟨bW,Own.below D4.out bA,(bA.block pg M.out.2.2).trans M.out.1,M.out.2.1,Own.below C4.out bA,Zr,s4,by omega,If _ (fun g hg=>(ZT D4.out g hg).2),by have:=M.out.2.2;omega,by omega⟩
 clear bA;go_simp;refine hK.out _ _ hN (fun YA=>?_);clear hK K Z9;have Z9:=YA;clear YA;refine Zf (.pointer (some ⟨w4.heap.size,0,none⟩)) (by kernel_rfl) (fun _=>id) Z9 ?Y5 ?_
 case Y5 =>
  intro w9 ZQ;clear ZQ;go_simp
 refine ZR (by kernel_rfl) ?_ _
 try simp only [Act.put,WV,WU,WT]
 have S5:Hid (yF w (.slice ao YL.length ca) (.slice none 0 0) S (sn:Int) (w4.alloc (.cells #[.int .i64 S,.int .i64 (sn:Int),.slice da YL.length dc,.slice (some ⟨pg,0,none⟩) 0 1,.int .i64 (-1),.int .i64 0,.slice (some ⟨cg,0,none⟩) YL.length C,.bool false,.int .i64 0,.int .i64 0,.int .i64 0,.int .i64 0,.int .i64 0,.bool false,.int .i64 0,.int .i64 0,.int .i64 0,.int .i64 0,.int .i64 0,.int .i64 0,.slice none 0 0,.int .i64 0,.int .i64 0,.int .i64 0] 101))):=Z9;clear Z9 hN ZH O ZA B4 C4 D4 M ZD Zw Zv;generalize w4.alloc _=w5 at *;generalize hrb:w4.heap.size=rb at *;clear hrb;have hz1:=S1.out.lt;go_wp2;refine wp_label ?_;go_wp2
 go_loopw [8] (fun vn wr=>∃n:Int,vn=.int .i64 n∧0≤n∧n≤6∧Hid (iT w1 rb cg YL.length C pg (.slice da YL.length dc) S sn n wr)) (fun vn _=>(7 - intOf vn).toNat)
 case atStart=>exact ⟨0,rfl,by omega,by omega,Zt⟩
 case round =>
  clear Zt S5;obtain ⟨n,rfl,hn0,YO,z⟩:=hrel
  by_cases h4:n<4
  · rcases z.out with ⟨p1,⟨rfl,p2⟩ | ⟨rfl,p2⟩ | ⟨rfl | rfl,ta,tc,p2,p3,p4⟩⟩
    · have HC:=ZU (qX lM.out (by rw [U.out]) p1 p2)
      clear z
      go_wp2_with fail
      refine HC.out.mono ?_;rintro e w7 ⟨n',rfl,q1,q2,r7⟩;have R7:=ZU r7;clear HC r7;go_wp2
      go_roundw
      case rel=>exact ⟨n',rfl,by omega,q2,R7⟩
      case measure=>simp [intOf];omega
    · have HC:=ZU (mY lM.out (by rw [U.out]) p1 p2)
      clear z
      go_wp2_with fail
      refine HC.out.mono ?_;rintro e w7 ⟨n',rfl,q1,q2,r7⟩;have R7:=ZU r7;clear HC r7;go_wp2
      go_roundw
      case rel=>exact ⟨n',rfl,by omega,q2,R7⟩
      case measure=>simp [intOf];omega
    · have HC:=ZU (mX lM.out (by rw [U.out]) p1 p2 p3 p4)
      clear z
      go_wp2_with fail
      refine HC.out.mono ?_;rintro e w7 ⟨n',rfl,q1,q2,r7⟩;have R7:=ZU r7;clear HC r7;go_wp2
      go_roundw
      case rel=>exact ⟨n',rfl,by omega,q2,R7⟩
      case measure=>simp [intOf];omega
    omega
  have e0:(n == 0)=false:=by rw [YH];omega
  have e1:(n == 1)=false:=by rw [YH];omega
  have e2:(n == 2)=false:=by rw [YH];omega
  have e3:(n == 3)=false:=by rw [YH];omega
  obtain ⟨h6,hE⟩:=mW z.out (by omega);have HE:=ZU hE;clear hE z;subst h6
  go_wp2_with fail
  clear e0 e1 e2 e3;refine HE.out.mono ?_;rintro e w7 ⟨vt,x1,R,rfl,o7,d7,YM,YW,b7⟩;obtain ⟨xa,xc,rfl⟩:=d7.slice;obtain ⟨ta,tc,Zq⟩:=XU.QW o7;have Zp:vt=.slice ta 1 tc:=Zq;clear Zq;subst Zp;rw [←uW.out];rw [←U.out] at d7 ⊢;have X7:=DY.below S1.out.rx b7;have FIN:Hid (CJ w S sn (.returned (.agg (qg RES (.slice ta 1 tc) (.slice xa YL.length xc) (.slice (some ⟨R,0,none⟩) 0 1)))) (Qf w7 (w.heap.size+1+1) RES (.slice ta 1 tc) (.slice xa YL.length xc) (.slice (some ⟨R,0,none⟩) 0 1))):=by
   have gR:w7.grownBy (Qf w7 (w.heap.size+1+1) RES (.slice ta 1 tc) (.slice xa YL.length xc) (.slice (some ⟨R,0,none⟩) 0 1)) (some (w.heap.size+1+1)):=by
    unfold Qf;exact (grownBy_set _ _ (w.heap.size+1+1) 11 (.slice (some ⟨R,0,none⟩) 0 1) (grownBy_set _ _ (w.heap.size+1+1) 10 (.slice xa YL.length xc) (grownBy_set _ _ (w.heap.size+1+1) 9 (.int .i64 RES.ops) (grownBy_set _ _ (w.heap.size+1+1) 8 (.int .i64 RES.used) (grownBy_set _ _ (w.heap.size+1+1) 7 (.slice ta 1 tc) (grownBy_set _ _ (w.heap.size+1+1) 6 (.int .i64 RES.zx) (grownBy_set _ _ (w.heap.size+1+1) 5 (.int .i64 RES.sp.c) (grownBy_set _ _ (w.heap.size+1+1) 4 (.int .i64 RES.sp.l) (grownBy_set _ _ (w.heap.size+1+1) 3 (.int .i64 RES.sp.s) (grownBy_set _ _ (w.heap.size+1+1) 2 (.int .i64 RES.sp.b) (grownBy_set _ _ (w.heap.size+1+1) 1 (.int .i64 RES.sp.g) (grownBy_set _ _ (w.heap.size+1+1) 0 (.int .i64 RES.code) (Zz _ _)))))))))))))
   have hB:=S1.out.WC.trans (b7.mono S1.out.WC.size);refine ⟨_,_,R,by rw [uW.out],XU.mono (Zn o7 gR (.inr (fun e=>by have:=(ZT o7 _ e).1;omega))) (by omega),?_,by omega,(CM RES _ _ _ (by omega)).trans YW,hB.grown gR (by have:=hB.size;omega) (fun q e=>by injection e with e;omega)⟩;rw [←U.out];exact Own.mono (Zn d7 gR (.inr (fun e=>by have:=(ZT d7 _ e).1;omega))) (by omega)
  obtain ⟨c0,c1,c2,c3,c4,c5,c6,c7,c8,c9,c10,c11⟩:=X7.cells;dsimp only [nJ] at c0 c1 c2 c3 c4 c5 c6 c7 c8 c9 c10 c11;have fz:=X7.frozen;have f0:=fz 0;have f1:=fz 1;have f2:=fz 2;have f3:=fz 3;have f4:=fz 4;have f5:=fz 5;have f6:=fz 6;have f7:=fz 7;have f8:=fz 8;have f9:=fz 9;have f10:=fz 10;have f11:=fz 11;obtain ⟨e0,e1,e2,e3,e4,e5,e6,e7,e8,e9,e10,e11⟩:=CO (r:=RES) (vt:=.slice ta 1 tc) (v1:=.slice xa YL.length xc) (v2:=.slice (some ⟨R,0,none⟩) 0 1) X7;unfold Qf qg at FIN;unfold Qf at e0 e1 e2 e3 e4 e5 e6 e7 e8 e9 e10 e11;unfold qg;clear fz X7 HE o7 d7 b7;go_wp2;generalize ((((((((((((w7).setCell _ _).setCell _ _).setCell _ _).setCell _ _).setCell _ _).setCell _ _).setCell _ _).setCell _ _).setCell _ _).setCell _ _).setCell _ _).setCell _ _=wE at *;unfold Exit.noGoto;dsimp only;exact ZW (v:=.agg #[.int .i64 RES.code,.int .i64 RES.sp.g,.int .i64 RES.sp.b,.int .i64 RES.sp.s,.int .i64 RES.sp.l,.int .i64 RES.sp.c,.int .i64 RES.zx,.slice ta 1 tc,.int .i64 RES.used,.int .i64 RES.ops,.slice xa YL.length xc,.slice (some ⟨R,0,none⟩) 0 1]) (by simp [results,Tryz.results19,go_sem,e0,e1,e2,e3,e4,e5,e6,e7,e8,e9,e10,e11]) rfl FIN.out
def mV (w:World) (base:Nat) (v:Value) (D:List Int) (f l:Nat):Prop:=∃g C,v=.slice (some ⟨g,f*64,none⟩) (l*64) (C - f*64)∧Own .u8 5 w base (.slice (some ⟨g,0,none⟩) D.length C) D∧D.length≤C
theorem EA (w:World) (ao bo:Option Addr) (dl ca n cb:Nat) (YL:List Int) (ps:List (Int × List Int)) (S L Xc:Int) (log:Bool) (hd:Rd .u8 w (.slice ao dl ca) YL) (hdl:YL.length=dl) (hp:J8 w (.slice bo n cb) ps) (hl:ps.length=n) (hd1:dl≤1048576) (hn:n≤1048576) (KE:∀i,(pD ps i).length≤1048576)
    (hok:EV S L dl ps Xc=true) :
    Calls Tryz.prog 35 #[.agg #[.slice ao dl ca,.slice bo n cb],.agg #[.int .i64 S,.int .i64 L],.int .i64 Xc,.bool log] w fun e w'=>∃v',e=.returned v'∧mV w' w.heap.size v' (MA YL ps) (Rx S L Xc log).toNat (I9 S L log).toNat∧Zi w w':=by
 have HD:Hid (Rd .u8 w (.slice ao dl ca) YL):=hd;have OM:Hid (YL.length=dl):=hdl;have HP:Hid (J8 w (.slice bo n cb) ps):=hp;have HL:Hid (ps.length=n):=hl;have AK:Hid (∀i,(pD ps i).length≤1048576):=KE;obtain ⟨f,l,hf,hl',hf2,hl1,hl2,hfl,uV,YJ⟩:=kq (log:=log) hok;have h1:=((Nc ..).1 hok).1;have hb0:=((Nc ..).1 hok).2.1;have hb1:=((Nc ..).1 hok).2.2;have HF:Hid (Kv S L dl ps=true):=h1;have HC:Hid (Wp S L=true):=((RI ..).1 h1).1;have HV:Hid (QP dl ps=true):=((RI ..).1 h1).2.1;rw [hf,hl',Ze,Ze];have qW:Hid ((MA YL ps).length=dl):=by show _=_;rw [Ku (by rw [OM.out];exact HV.out),OM.out]
 have Pu:Hid ((Ma (MA YL ps) f l).length=l*64):=NZ _ _ _ (by rw [qW.out];exact uV);have O:Hid (∀(W:World),RH w ao bo dl ca n cb S L W→Calls Tryz.prog 38 #[.agg #[.slice ao dl ca,.slice bo n cb]] W fun e w'=>∃g c,e=.returned (.slice (some ⟨g,0,none⟩) dl c)∧Hid (Own .u8 5 w' w.heap.size (.slice (some ⟨g,0,none⟩) dl c) (MA YL ps))∧(dl≤c∧c≤maxLen)∧Zi W w'):=by
  intro W hF;refine (L8 W _ _ YL ps (HD.out.below hF.1.out.1) (HP.out.below hF.1.out.1) (by rw [OM.out];exact hd1) (by rw [HL.out];exact hn) AK.out).mono ?_;rintro e w' ⟨u,rfl,o,b⟩;have hlt:=hF.lt
  rcases o.row with ⟨rfl,h0⟩ | ⟨g,c,rfl,hg,h1,h2⟩
  · have:=qW.out;rw [h0] at this;simp at this;omega
  rw [qW.out] at o h1 ⊢;exact ⟨g,c,rfl,o.mono (by omega),⟨h1,h2⟩,b⟩
 have Zo:Hid (∀(W:World) (g c:Nat),Own .u8 5 W w.heap.size (.slice (some ⟨g,0,none⟩) dl c) (MA YL ps)→dl≤c→c≤maxLen→mV W w.heap.size (.slice (some ⟨g,f*64,none⟩) (l*64) (c - f*64)) (MA YL ps) f l):=by
  intro W g c h h1 h2;exact ⟨g,c,rfl,by rw [qW.out];exact h,by rw [qW.out];exact h1⟩
 have zF:Hid (∀W,(log=true→Calls Tryz.prog 79 #[.agg #[.int .i64 S,.int .i64 L],.int .i64 Xc] W (Wj W (.agg #[.int .i64 (f:Int),.int .i64 (l:Int)]))) ∧
     (log=false→Calls Tryz.prog 49 #[.agg #[.int .i64 S,.int .i64 L],.int .i64 Xc] W (Wj W (.agg #[.int .i64 (f:Int),.int .i64 (l:Int)])))):=by
  intro W;rw [←hf,←hl'];exact ⟨fun e=>by subst e;exact RF W S L Xc HC.out ⟨hb0,hb1⟩,fun e=>by subst e;exact So W S L Xc HC.out ⟨hb0,hb1⟩⟩
 clear hd hdl hp hl KE hok h1 hf hl'
 go_enter Tryz.func35,Tryz.ntmps35
 go_wp2_with fail
 have F1:Hid (RH w ao bo dl ca n cb S L ((w.alloc (.cells #[.slice ao dl ca,.slice bo n cb] 52)).alloc (.cells #[.int .i64 S,.int .i64 L] 25))):=RH.new _ _ _ _ _ _ _ _ _ _ _;generalize (w.alloc _).alloc _=w1 at *;refine (Oq _ ao bo dl ca n cb ps S L (HP.out.below F1.out.1.out.1) HL.out hd1 hn AK.out).mono ?_;rintro e w2 ⟨rfl,b2⟩;rw [HF.out];have F2:=ZU (F1.out.below b2);clear F1 b2;have t0:¬Xc<0:=by omega
 have YG:decide (Xc<0)=false:=by simpa using t0
 have t1:¬2≤Xc:=by omega
 have t1d:decide (2≤Xc)=false:=by simpa using t1
 have fy:Hid (∀W,RH w ao bo dl ca n cb S L W→True):=fun _ _=>trivial
 cases log with
 | true =>
  replace zF:Hid (∀W,Calls Tryz.prog 79 #[.agg #[.int .i64 S,.int .i64 L],.int .i64 Xc] W (Wj W (.agg #[.int .i64 (f:Int),.int .i64 (l:Int)]))):=fun W=>(zF.out W).1 rfl
  go_wp2_with fail
  refine ZX (S:=RH w ao bo dl ca n cb S L) (by kernel_rfl) (F2.out.below (below_drewN' w2 1)) (fun Z9=>?_)
  iterate 2 (refine Zf ?_ (by kernel_rfl) (fun _=>id) Z9 ?_ ?_;rotate_left;· intro w9 ZQ;obtain ⟨-,k0,k1,k2,k3⟩:=ZQ;go_simp;try with_reducible rfl)
  refine Yp 3 ?v27 rfl (by kernel_rfl) (fun _=>id) Z9 ?hy27 ?_
  case hy27=>intro w9 ZQ;obtain ⟨-,k0,k1,k2,k3⟩:=ZQ;go_simp;try with_reducible rfl
  refine YS 2 rfl (by kernel_rfl) (fun K hK=>?_);go_simp;refine (zF.out _).mono ?_;rintro e w3 ⟨rfl,b3⟩;have F3:Hid (RH w ao bo dl ca n cb S L w3):=Z9.below b3;clear b3;clear Z9;refine hK.out _ _ (F3.out) (fun Z9=>?_);clear hK K;refine YS 4 rfl (by kernel_rfl) (fun K hK=>?_);go_simp;refine (O.out _ F3.out).mono ?_;rintro e w4 ⟨g4,c4,rfl,O4,hc4,b4⟩;have F4:=ZU (F3.out.below b4);clear b4 F3;clear Z9;refine hK.out _ _ (F4.out) (fun Z9=>?_);clear hK K;refine YS 5 rfl (by kernel_rfl) (fun K hK=>?_);go_simp;refine (QM _ g4 dl c4 f l uV hl1 hc4.1 hd1).mono ?_;rintro e w5 ⟨rfl,b5⟩;have F5:=ZU (F4.out.below b5);have O5:=ZU (O4.out.below b5);clear b5 F4 O4;clear Z9;refine hK.out _ _ (F5.out) (fun Z9=>?_);clear hK K;refine Zf ?_ (by kernel_rfl) (fun _=>id) Z9 ?_ ?_
  rotate_left
  · intro w9 ZQ;obtain ⟨-,k0,k1,k2,k3⟩:=ZQ;go_simp;try with_reducible rfl
  refine ZR (by kernel_rfl) ?_ _
  try simp only [Act.put,WV,WU,WT]
  clear Z9;go_wp2;go_ret;exact ⟨_,rfl,Zo.out _ _ _ O5.out hc4.1 hc4.2,F5.out.1.out.1⟩
 | false =>
  replace zF:Hid (∀W,Calls Tryz.prog 49 #[.agg #[.int .i64 S,.int .i64 L],.int .i64 Xc] W (Wj W (.agg #[.int .i64 (f:Int),.int .i64 (l:Int)]))):=fun W=>(zF.out W).2 rfl
  go_wp2_with fail
  refine ZX (S:=RH w ao bo dl ca n cb S L) (by kernel_rfl) (F2.out.below (below_drewN' w2 1)) (fun Z9=>?_)
  iterate 2 (refine Zf ?_ (by kernel_rfl) (fun _=>id) Z9 ?_ ?_;rotate_left;· intro w9 ZQ;obtain ⟨-,k0,k1,k2,k3⟩:=ZQ;go_simp;try with_reducible rfl)
  refine Yp 3 ?v31 rfl (by kernel_rfl) (fun _=>id) Z9 ?hy31 ?_
  case hy31=>intro w9 ZQ;obtain ⟨-,k0,k1,k2,k3⟩:=ZQ;go_simp;try with_reducible rfl
  refine YS 2 rfl (by kernel_rfl) (fun K hK=>?_);go_simp;refine (zF.out _).mono ?_;rintro e w3 ⟨rfl,b3⟩;have F3:Hid (RH w ao bo dl ca n cb S L w3):=Z9.below b3;clear b3;clear Z9;refine hK.out _ _ (F3.out) (fun Z9=>?_);clear hK K;refine YS 4 rfl (by kernel_rfl) (fun K hK=>?_);go_simp;refine (O.out _ F3.out).mono ?_;rintro e w4 ⟨g4,c4,rfl,O4,hc4,b4⟩;have F4:=ZU (F3.out.below b4);clear b4 F3;clear Z9;refine hK.out _ _ (F4.out) (fun Z9=>?_);clear hK K;refine YS 5 rfl (by kernel_rfl) (fun K hK=>?_);go_simp;refine (QM _ g4 dl c4 f l uV hl1 hc4.1 hd1).mono ?_;rintro e w5 ⟨rfl,b5⟩;have F5:=ZU (F4.out.below b5);have O5:=ZU (O4.out.below b5);clear b5 F4 O4;clear Z9;refine hK.out _ _ (F5.out) (fun Z9=>?_);clear hK K;refine Zf ?_ (by kernel_rfl) (fun _=>id) Z9 ?_ ?_
  rotate_left
  · intro w9 ZQ;obtain ⟨-,k0,k1,k2,k3⟩:=ZQ;go_simp;try with_reducible rfl
  refine ZR (by kernel_rfl) ?_ _
  try simp only [Act.put,WV,WU,WT]
  clear Z9;go_wp2;go_ret;exact ⟨_,rfl,Zo.out _ _ _ O5.out hc4.1 hc4.2,F5.out.1.out.1⟩
--@FI
--@IF impl.A
def lw (xs:List Int) (i n:Nat):Nat:=if n≤1 then 0 else if xs.length=0 then i*7 % n else ((xs.getD (i % xs.length) 0).toNat+i / xs.length) % n
theorem jW (xs:List Int) (i n:Nat) (h:1≤n):lw xs i n<n:=by
 unfold lw
 by_cases h1:n≤1
 · rw [Z0 h1];omega
 rw [Z1 h1]
 split
 · exact Wg _ (by omega)
 exact Wg _ (by omega)
theorem uU (w:World) (b o m cap:Nat) (i n x:Nat) (hm:0<m) (hm1:m≤1099511627776) (hx:x<256) (hc:w.cell? ⟨b,o+i % m,none⟩=some (.int .u8 (x:Int))) (hi:i≤1099511627776) (hn:1<n) (hn1:n≤1099511627776) :
    Calls Tryz.prog 4 #[.slice (some ⟨b,o,none⟩) m cap,.int .i64 i,.int .i64 n] w fun e w'=>e=.returned (.int .i64 (((x+i / m) % n:Nat):Int))∧∃q,w'=w.drewN q:=by
 have h1:¬(n:Int)≤1:=by omega
 have h2:((m:Int) == 0)=false:=YH.2 (by omega);have h3:i % m<m:=Wg _ hm;have h4:(i:Int) % (m:Int)=((i % m:Nat):Int):=by omega
 have h5:(i:Int) / (m:Int)=((i / m:Nat):Int):=by omega
 have h6:i / m≤i:=Uk _ _;generalize i % m=a at *;generalize i / m=d at *;have h7:((m:Int) == 0)=false:=h2;have h8:((n:Int) == 0)=false:=YH.2 (by omega)
 go_enter Tryz.func4,Tryz.ntmps4
 go_wp2
 go_quiet (fail)
 go_wp2;go_ret;exact ⟨Pd (by rw [Int.natCast_emod,Int.natCast_add]),_,rfl⟩
theorem uT (w:World) (v:Value) (i n:Nat) (hn:n≤1) :
    Calls Tryz.prog 4 #[v,.int .i64 i,.int .i64 n] w fun e w'=>e=.returned (.int .i64 0)∧w'=w:=by
 have h1:(n:Int)≤1:=by omega
 go_enter Tryz.func4,Tryz.ntmps4
 go_wp2;go_ret;exact ⟨rfl,rfl⟩
theorem Ez (w:World) (ao:Option Addr) (cap i n:Nat) (hn:1<n) (hn1:n≤1099511627776) (hi:i≤1099511627776) :
    Calls Tryz.prog 4 #[.slice ao 0 cap,.int .i64 i,.int .i64 n] w fun e w'=>e=.returned (.int .i64 ((i*7 % n:Nat):Int))∧w'=w:=by
 have h1:¬(n:Int)≤1:=by omega
 have h8:((n:Int) == 0)=false:=YH.2 (by omega)
 go_enter Tryz.func4,Tryz.ntmps4
 go_wp2;go_ret;exact ⟨rfl,rfl⟩
theorem uS (w:World) (v:Value) (xs:List Int) (i n:Nat) (h:Rd .u8 w v xs) (hby:∀x ∈ xs,0≤x∧x<256) (hl:xs.length≤1099511627776) (hi:i≤1099511627776) (hn1:n≤1099511627776) :
    Calls Tryz.prog 4 #[v,.int .i64 i,.int .i64 n] w fun e w'=>e=.returned (.int .i64 ((lw xs i n:Nat):Int))∧∃q,w'=w.drewN q:=by
 unfold lw
 by_cases h1:n≤1
 · rw [Z0 h1]
   refine (uT w v i n h1).mono ?_;rintro e w' ⟨rfl,rfl⟩;exact ⟨rfl,0,rfl⟩
 rw [Z1 h1];obtain ⟨ao,cap,rfl,k1,k2,k3⟩:=h
 rcases k3 with rfl | ⟨b,o,rfl,hb,hc⟩
 · rw [Z0 (show ([]:List Int).length=0 from rfl)]
   refine (Ez w ao cap i n (by omega) hn1 hi).mono ?_;rintro e w' ⟨rfl,rfl⟩;exact ⟨rfl,0,rfl⟩
 by_cases h0:xs.length=0
 · rw [Z0 h0,h0]
   refine (Ez w _ cap i n (by omega) hn1 hi).mono ?_;rintro e w' ⟨rfl,rfl⟩;exact ⟨rfl,0,rfl⟩
 rw [Z1 h0];have hlt:i % xs.length<xs.length:=Wg _ (by omega);have hx:=hby _ (YP hlt);have e:xs.getD (i % xs.length) 0=(((xs.getD (i % xs.length) 0).toNat:Nat):Int):=by
  simp only [List.getD,ZF hlt,Xf];omega
 have hc':=hc _ hlt;rw [e] at hc';exact uU w b o xs.length cap i n _ (by omega) hl (by simp only [List.getD,ZF hlt,Xf];omega) hc' hi (by omega) hn1
def QL (n:Nat):Nat→Code→Code
 | 0,c=>c
 | k+1,.seq (.region i o d) b=>match i == n with
  | true=>.seq (.region i o d) b
  | false=>QL n k b
 | k+1,.seq (.seq (.region i o d) a) b=>match i == n with
  | true=>.seq (.seq (.region i o d) a) b
  | false=>QL n k b
 | k+1,.seq _ b=>QL n k b
 | _,c=>c
def Ms (f:Func):Code:=match f.body with
 | some c=>c
 | none=>.skip
end
section
open Go.ChangeShapes Go.WideShapes Go.ChangeAt Go.RowKit
variable {S:Int} {zs:List Int} {len sn:Nat} {W w:World}
theorem JJ (b o i:Nat):(⟨b,o,none⟩:Addr).add i=⟨b,o+i,none⟩:=YY ..
theorem jV {k:IntKind} {x:Addr} {cap:Nat} (hl:len≤cap) (hm:cap≤maxLen) (hz:zs.length=cap)
    (hcell:∀i,i<zs.length→w.cell? (x.add i)=some (.int k (zs.getD i 0))):Rd k w (.slice (some x) len cap) (zs.take len):=by
 have hlen:(zs.take len).length=len:=by simp;omega
 refine ⟨some x,cap,by rw [hlen],by rw [hlen];exact hl,hm,?_⟩
 by_cases h0:len=0
 · subst h0;exact .inl rfl
 right
 obtain ⟨b,off,spot⟩:=x;have hc:=hcell 0 (by omega);have hspot:spot=none:=by simpa [Addr.add] using World.cell?_spot hc
 subst hspot;refine ⟨b,off,rfl,?_,fun i hi=>?_⟩
 · have:=ZG w _ hc
   simpa [Addr.add] using this
 rw [hlen] at hi;have:=hcell i (by omega);rw [JJ] at this;rw [this]
 simp [List.getD,XP hi]
theorem mT (h:∀n ∈ zs,(Lit.int .u8 n).wf=true):Sn (zs.take len):=by
 intro x hx;have:=h x (Xa hx);have b:=bounds_u8 this;omega
theorem CI {H:Type} {enc:TypeId × Value→H} {a0:Option Addr} {qV cap0:Nat} {d0:DataW H} {p0:List MemPlace} {base:Nat} {b:Bool}
    (h0:DataW.Trod enc Tryz.prog W base (fun _=>true) b 22 (.slice a0 qV cap0) d0 p0):∃xs,Rd .u8 W (.slice a0 qV cap0) xs∧Sn xs:=by
 obtain ⟨fuel,hf⟩:=h0
 rcases open_ints Tryz.underlying22 Tryz.underlying5 (by kernel_rfl) hf with ⟨hcs,_⟩ | ⟨x,l,c,zs,hcs,_,hl,hm,hz,_,hcell,hwz⟩
 · simp [Value.cells] at hcs
   obtain ⟨rfl,rfl,rfl⟩:=hcs;exact ⟨[],⟨none,0,rfl,YR,Zu _,.inl rfl⟩,fun x hx=>by cases hx⟩
 simp [Value.cells] at hcs
 obtain ⟨rfl,rfl,rfl⟩:=hcs;exact ⟨zs.take qV,jV hl hm (by simpa using hz) hcell,mT hwz⟩
end
end Go.Proofs.YtpmjnbmkippaiaaGreatDoor


