import Derived.Test.YtpmjnbmkippaiaaGreatDoorJ09
import Derived.ArgAppend
set_option maxRecDepth 100000
set_option maxHeartbeats 16000000
set_option linter.unusedVariables false
set_option linter.unusedSimpArgs false
namespace Go.Proofs.YtpmjnbmkippaiaaGreatDoor
open Go.RowKit Go.Conc
theorem CY {P:Program} {w:World} {ops:Array Oper} {o:Oper} {a:Act} {K:Act→World→Prop} {Q:Exit→Act→World→Prop} {E:Prop} (hgd:o.guard=none) (s x:Operand) (t:TypeId)
    (ho:o.op=.call { callee:=.builtin .append,args:=#[s,x],argTypes:=#[t,t] }) (i:TypeInfo) (ht:P.underlying t=some (.slice 5)) (hi:P.info? 5=some i) (hsize:i.size=1)
    (g lo n cap:Nat) (xs:List Int) (hs:a.eval s=.slice (some ⟨g,lo,none⟩) n cap) (hn:xs.length=n) (hown:UJ w (.slice (some ⟨g,lo,none⟩) n cap) xs)
    (ad:Addr) (c:Nat) (F:List Int) (hx:a.eval x=.slice (some ad) F.length c) (hnews:∀j u,(F.map (Value.int .u8))[j]?=some u→w.cell? (ad.add j)=some u) (hroom:n+F.length≤cap)
    (h:∀w',UJ w' (.slice (some ⟨g,lo,none⟩) (n+F.length) cap) (xs++F)→w.grownBy w' (some g)→K (a.put o.dst (.slice (some ⟨g,lo,none⟩) (n+F.length) cap)) w') :
    if Region.wanted o (yielded ops a.tmps)=true then Oper.wp P o a w K Q else E:=by
 have hw:Region.wanted o (yielded ops a.tmps)=true:=by simp [Region.wanted,hgd]
 rw [Z0 hw];obtain ⟨g',lo',cp',pre,e1,h2,h3⟩:=hown
 simp only [ZC,ZK,Ym,VB] at e1
 obtain ⟨⟨rfl,rfl⟩,-,rfl⟩:=e1;rw [hn] at h3;have h3':w.ownsRow 0 5 1 (.slice (some ⟨g,0,none⟩) (lo+n) (lo+cap)) (lo+n) ((pre++xs).map (Value.int .u8)):=by
  have:=h3;unfold Own at this
  simpa [hn,h2] using this
 have hl:(F.map (Value.int .u8)).length=F.length*i.size:=by rw [hsize];simp
 have h1:∀u ∈ F.map (Value.int .u8),u.oneCell'=true:=Yi _ _;obtain ⟨w',hr,h4,h5⟩:=run_append_fits (P:=P) w 0 t o.type 5 i 1 ht hi hsize g (lo+n) (lo+cap) _ h3' ad F.length c (F.map (Value.int .u8)) (by simp) hnews h1 (by omega);have hcell:∀j,j<F.length→(w.cell? ⟨g,lo+n+j,none⟩).isSome=true∧w.frozen? ⟨g,lo+n+j,none⟩=false:=by
  rcases h3'.2 with ⟨e9,-⟩ | ⟨g9,gO,cur,e9,-,nQ,-,-,hcs,-⟩
  · simp at e9
  simp only [ZC,ZK,Ym,VB,Q0] at e9
  obtain ⟨rfl,rfl⟩:=e9;intro j hj
  constructor
  · rw [cell_of nQ]
    rw [Xj (by rw [hcs];omega)];rfl
  simp [World.frozen?,nQ]
 have r1:=run_append_room_cells (P:=P) (w:=w) t o.type 5 i ht hi g lo n cap ad F.length c (F.map (Value.int .u8)) hl hnews h1 hroom (fun j hj=>by rw [hsize,Yr];exact (hcell j (by simpa using hj)).1) (fun j hj=>by rw [hsize,Yr];exact (hcell j (by simpa using hj)).2);have r2:=run_append_room_cells (P:=P) (w:=w) t o.type 5 i ht hi g 0 (lo+n) (lo+cap) ad F.length c (F.map (Value.int .u8)) hl hnews h1 (by omega) (fun j hj=>by rw [hsize,Yr,Za];exact (hcell j (by simpa using hj)).1) (fun j hj=>by rw [hsize,Yr,Za];exact (hcell j (by simpa using hj)).2);have ew:w'=w.setCells g (lo+n*i.size) (F.map (Value.int .u8)):=by
  rw [hr] at r2;have e8:=r2
  simp only [Result.ok.injEq] at e8
  rw [e8.2,hsize,Yr,Yr,Za]
 rw [←ew] at r1;unfold Oper.wp execOp
 simp only [ho,resolve,invoke,builtin,XX,Ww,XH,WL,Yl,WO,hs,hx,r1]
 refine h w' ⟨g,lo,cap,pre,by rw [ZZ,hn],h2,?_⟩ h5;have e7:lo+(xs++F).length=lo+n+F.length:=by rw [ZZ,hn];omega
 rw [e7];exact QY (q:=lo+n+F.length) (by simp [h2,hn];omega) rfl (by rw [←ZO,Y6];exact h4)
theorem UJ.gr {w W:World} {v:Value} {xs:List Int} {r0:Option Nat} {sB:Nat} (h:UJ w v xs) (hg:Gr r0 sB w W) (hs:v.ownBlock≠some sB) (hr:v.ownBlock≠r0):UJ W v xs:=by
 obtain ⟨g,lo,cp,pre,rfl,h2,h3⟩:=h;refine ⟨g,lo,cp,pre,rfl,h2,h3.1,h3.2.imp id ?_⟩;rintro ⟨q,cap,cur,e4,e5,e6,e7⟩;have hq:q=g:=by
  simp only [ZC,ZK,Ym] at e4
  omega
 subst hq;exact ⟨q,cap,cur,e4,e5,(hg.block q (Z3.mp e6).1 (fun e=>hs (by rw [←e];rfl)) (fun e=>hr e)).trans e6,e7⟩
theorem Sv.grown {κ:Sc} {σ:Sx} {w W:World} {cp:Nat} {F:List Int} (h:Sv κ σ w) (h0:σ.off=0) (hcp:κ.L*64≤(cp:Int)) (hg:w.grownBy W (some κ.lb)) (hw:UJ W (.slice (some ⟨κ.lb,κ.lo,none⟩) (σ.full.length+F.length) cp) (σ.full++F)) :
    Sv κ { σ with full:=σ.full++F } (W.setCell ⟨κ.mB,11,none⟩ (.slice (some ⟨κ.lb,κ.lo,none⟩) (σ.full.length+F.length) cp))∧Gs κ w (W.setCell ⟨κ.mB,11,none⟩ (.slice (some ⟨κ.lb,κ.lo,none⟩) (σ.full.length+F.length) cp)):=by
 have hne:=h.ne;obtain ⟨vd,made,YN,a1,-⟩:=h.dk;have hs:w.heap.size≤(W.setCell ⟨κ.mB,11,none⟩ (.slice (some ⟨κ.lb,κ.lo,none⟩) (σ.full.length+F.length) cp)).heap.size:=by simpa using hg.size
 have hbl:∀q,q<w.heap.size→q≠κ.mB→q≠κ.lb→(W.setCell ⟨κ.mB,11,none⟩ (.slice (some ⟨κ.lb,κ.lo,none⟩) (σ.full.length+F.length) cp)).heap[q]?=w.heap[q]?:=fun q hq hn hl=>(Below.heap_setCell W ⟨κ.mB,11,none⟩ _ q hn).trans (hg.block q hq (fun e=>hl (by injection e)))
 have G:Gs κ w (W.setCell ⟨κ.mB,11,none⟩ (.slice (some ⟨κ.lb,κ.lo,none⟩) (σ.full.length+F.length) cp)):=⟨hg.os,hg.tape,hg.output,hs,fun q hq _ h2 _ h4=>hbl q hq h2 h4⟩;refine ⟨h.re G rfl (hbl _ a1.lt hne.1 hne.2.2.1) rfl (fun vt vq V b1 b2 b3 b4 b5 b6 b7 b8=>⟨vt,vq,cp,?_,b2,b3,b4,b5,b6,?_,hcp⟩) (fun Lv s r c1 c2 c3=>⟨Lv,s,r,(hbl _ (Z3.mp c1).1 hne.2.2.2.1.symm hne.2.2.2.2.2).trans c1,c2,c3⟩),G⟩
 · have e:=(Wo b1 hg.size (hg.block _ b1.lt (fun e=>hne.2.2.2.2.1 (by injection e)))).set 11 (.slice (some ⟨κ.lb,κ.lo,none⟩) (σ.full.length+F.length) cp)
   have e2:yB κ { σ with full:=σ.full++F } vt vq cp=(yB κ σ vt vq V).set 11 (.slice (some ⟨κ.lb,κ.lo,none⟩) (σ.full.length+F.length) cp):=by
    unfold yB
    simp only [h0,Si,Yj,ZZ,XY,List.set_cons_succ,List.set_cons_zero]
   rw [e2];exact e
 show UJ _ (.slice _ (σ.full++F).length _) _;rw [ZZ];exact hw.setAt (.inr (by simp [Value.ownBlock];exact fun e=>hne.2.2.2.2.1 e.symm))
theorem Sv.qZ {κ:Sc} {σ:Sx} {w:World} {vt vq:Value} {cp:Nat} (h:Sv κ σ w) (hb:St w κ.mB (yB κ σ vt vq cp)):Sv κ { σ with T:=σ.Q,zf:=σ.zq } ((w.setCell ⟨κ.mB,0,none⟩ vq).setCell ⟨κ.mB,1,none⟩ (.int .i64 (σ.zq:Int)))∧Gs κ w ((w.setCell ⟨κ.mB,0,none⟩ vq).setCell ⟨κ.mB,1,none⟩ (.int .i64 (σ.zq:Int))):=by
 have hne:=h.ne;obtain ⟨vd,made,YN,a1,-⟩:=h.dk;have hbl:∀q,q≠κ.mB→((w.setCell ⟨κ.mB,0,none⟩ vq).setCell ⟨κ.mB,1,none⟩ (.int .i64 (σ.zq:Int))).heap[q]?=w.heap[q]?:=fun q hn=>(Below.heap_setCell _ ⟨κ.mB,1,none⟩ _ q hn).trans (Below.heap_setCell w ⟨κ.mB,0,none⟩ _ q hn)
 have G:Gs κ w ((w.setCell ⟨κ.mB,0,none⟩ vq).setCell ⟨κ.mB,1,none⟩ (.int .i64 (σ.zq:Int))):=⟨rfl,rfl,rfl,by simp,fun q hq _ h2 _ _=>hbl q h2⟩;refine ⟨h.re G rfl (hbl _ hne.1) rfl (fun O U V b1 b2 b3 b4 b5 b6 b7 b8=>?_) (fun Lv s r c1 c2 c3=>⟨Lv,s,r,(hbl _ hne.2.2.2.1.symm).trans c1,c2,c3⟩),G⟩;obtain rfl:U=vq:=by
  have e1:=b1.cl 2 _ rfl;have e2:=hb.cl 2 _ rfl;exact Zc (e1.symm.trans e2)
 exact ⟨U,U,V,(b1.set 0 _).set 1 _,b3,b3,b4,b6,b6,(b7.setAt (.inr (by simp [Value.ownBlock];exact fun e=>hne.2.2.2.2.1 e.symm))).setAt (.inr (by simp [Value.ownBlock];exact fun e=>hne.2.2.2.2.1 e.symm)),b8⟩
theorem Sv.qY {κ:Sc} {σ:Sx} {w:World} (h:Sv κ σ w):Sv κ { σ with ql:=0 } (w.setCell ⟨κ.mB,5,none⟩ (.int .i64 0))∧Gs κ w (w.setCell ⟨κ.mB,5,none⟩ (.int .i64 0)):=by
 have hne:=h.ne;have hbl:∀q,q≠κ.mB→(w.setCell ⟨κ.mB,5,none⟩ (.int .i64 0)).heap[q]?=w.heap[q]?:=fun q hn=>Below.heap_setCell w ⟨κ.mB,5,none⟩ _ q hn
 have G:Gs κ w (w.setCell ⟨κ.mB,5,none⟩ (.int .i64 0)):=⟨rfl,rfl,rfl,by simp,fun q hq _ h2 _ _=>hbl q h2⟩;exact ⟨h.re G rfl (hbl _ hne.1) rfl (fun O U V b1 b2 b3 b4 b5 b6 b7 b8=>⟨O,U,V,b1.set 5 _,b2,b3,b4,b5,b6,b7.setAt (.inr (by simp [Value.ownBlock];exact fun e=>hne.2.2.2.2.1 e.symm)),b8⟩) (fun Lv s r c1 c2 c3=>⟨Lv,s,r,(hbl _ hne.2.2.2.1.symm).trans c1,c2,c3⟩),G⟩
theorem vw {S L b:Int} (hc:Wp S L=true) (hb:0≤b∧b≤1):0≤Ry S L b true∧Ry S L b true≤100000:=by
 obtain ⟨⟨hS1,hS2⟩,hL1,hL2⟩:=(Xk S L).1 hc;have:b=0∨b=1:=by omega
 rcases this with rfl | rfl <;> unfold Ry <;> simp <;> omega
theorem CW (κ:Sc) (σ:Sx) (w:World) (h:Sv κ σ w) (hf:0<σ.fs.length) (hN:σ.fs.length≤4096) (h0:σ.off=0) (hroom:((σ.full.length+σ.fs.flatten.length:Nat):Int)≤κ.L*64) (hc:Wp κ.S κ.L=true) (hb:0≤σ.b∧σ.b≤1) (hk:σ.k≤8000) (hz:σ.zq<1000000) (hsp:σ.pw=none∨σ.sn=none) (htab:iC κ w) :
    Calls Tryz.prog 72 #[.pointer (some ⟨κ.sB,0,none⟩)] w fun e w'=>e=.returned (.string (strOfNums (VS ⟨#[102,108,117,115,104,101,100]⟩ [σ.fs.length,σ.zq])))∧Gw κ w w'∧Sv κ { σ with T:=σ.Q,zf:=σ.zq,fs:=[],ql:=0,full:=σ.full++σ.fs.flatten,k:=σ.k+66,pw:=none } w':=by
 obtain ⟨i0,hi,hz0,hz1,hz2⟩:=YM Tryz.QZ;obtain ⟨⟨hS1,hS2⟩,hL1,hL2⟩:=(Xk κ.S κ.L).1 hc;obtain ⟨vt,vq,cp,b1,-⟩:=h.mm;obtain ⟨vd,made,YN,a1,-⟩:=h.dk;obtain ⟨Lv,s,r,c1,c2,c3⟩:=h.ch;have YY:0<σ.fs.flatten.length:=by
  have hlv:Lv.length=σ.fs.length:=c2.1;have h9:=(c2.2 0 (by omega)).2
  cases hfs:σ.fs with
  | nil=>rw [hfs] at hf;simp at hf
  | cons f fs =>
   rw [hfs] at h9
   simp only [XM] at h9
   simp only [TI,ZZ];omega
 have HQ:=ZU (pW w κ.sB κ.mB κ.c κ.cap s r false Lv σ.fs (a1.cl 0 _ rfl) (b1.cl 4 _ rfl) c1 c2 (by omega) (by omega));have HV:=ZU h;clear a1 b1 c1 c2 c3 h
 go_enter Tryz.func72,Tryz.ntmps72
 go_wp2_with fail
 refine HQ.out.mono ?_;rintro e w1 ⟨v3,rfl,o1,g1,r',c1⟩;obtain ⟨V1,G1⟩:=HV.out.taken g1 c1;generalize hF:σ.fs.flatten=F at *;obtain ⟨g3,C,rfl,hg3,YE⟩:=World.ownsRow.form o1 YY;obtain ⟨fO,fN,yA,b1,-,-,-,-,-,l1,l2⟩:=V1.mm;obtain ⟨fM,vF,jW,a1,-⟩:=V1.dk;have c0:=a1.cl 0 _ rfl;have m11:w1.cell? ⟨κ.mB,11,none⟩=some (.slice (some ⟨κ.lb,κ.lo,none⟩) σ.full.length yA):=by
  have e:=b1.cl 11 _ rfl
  simp only [h0,Si,Yj,XY] at e
  exact e
 have ni:(0:Int)<(σ.fs.length:Int):=by omega
 have C0:=ZU c0;have ZD:=ZU m11;have V2:Hid (Sv κ { σ with fs:=[] } w1.drew):=V1.below (below_drewN' w1 1);have G2:Hid (Gs κ w w1.drew):=G1.trans (Gs.YZ (below_drewN' w1 1));have L1:Hid (UJ w1.drew (.slice (some ⟨κ.lb,κ.lo,none⟩) σ.full.length yA) σ.full):=l1.below (below_drewN' w1 1);have O1:Hid (∀j u,(F.map (Value.int .u8))[j]?=some u→w1.drew.cell? ((⟨g3,0,none⟩:Addr).add j)=some u):=Ys o1 rfl;clear g1 c1 V1 G1 a1 b1 HQ HV o1 l1
 go_wp2_with fail
 refine ZX (S:=fun W=>W.cell? ⟨κ.sB,0,none⟩=some (.pointer (some ⟨κ.mB,0,none⟩))) (by kernel_rfl) C0.out (fun Z9=>?_);have ZV:Hid (w1.drew.cell? ⟨κ.mB,11,none⟩=some (.slice (some ⟨κ.lb,κ.lo,none⟩) σ.full.length yA)):=ZD.out;clear c0 m11 C0 ZD;generalize w1.drew=w2 at *
 iterate 10 (refine Zf ?_ (by kernel_rfl) (fun _=>id) Z9 ?_ ?_;rotate_left;· intro w9 ZQ;go_simp;try with_reducible rfl)
 refine Yp 11 ?v11 rfl (by kernel_rfl) (fun _=>id) Z9 ?KI ?_
 case KI=>intro w9 ZQ;go_simp;try with_reducible rfl
 refine YS 10 rfl (by kernel_rfl) (fun K hK=>?_);have k1:=ZV.out;go_simp;refine hK.out _ _ Z9 (fun YA=>?_);clear hK K k1;refine YS 12 rfl (by kernel_rfl) (fun K hK=>?_);refine CY rfl (.tmp 31) (.tmp 32) 22 rfl i0 Tryz.underlying22 hi hz1 κ.lb κ.lo σ.full.length yA σ.full rfl rfl L1.out ⟨g3,0,none⟩ C F rfl O1.out (by omega) ?_;intro w3 o3 g3';have hne:=V2.out.ne;obtain ⟨Yn,Yh,cp2,b2,-⟩:=V2.out.mm;obtain ⟨Yg,YX,YC,a2,-⟩:=V2.out.dk;have B3:=Wo b2 g3'.size (g3'.block _ b2.lt (fun e=>hne.2.2.2.2.1 (by injection e)));have A3:=Wo a2 g3'.size (g3'.block _ a2.lt (fun e=>hne.2.2.1 (by injection e)));have O3:=o3;have k11:w3.cell? ⟨κ.mB,11,none⟩=some (.slice (some ⟨κ.lb,κ.lo,none⟩) σ.full.length yA):=(ZP (w:=w2) (a:=⟨κ.mB,11,none⟩) (g3'.block _ b2.lt (fun e=>hne.2.2.2.2.1 (by injection e)))).trans ZV.out;clear Z9;refine hK.out _ _ (A3.cl 0 _ rfl) (fun Z9=>?_);clear hK K
 iterate 2 (refine Zf ?_ (by kernel_rfl) (fun _=>id) Z9 ?_ ?_;rotate_left;· intro w9 ZQ;go_simp;try with_reducible rfl)
 refine YS 15 rfl (by kernel_rfl) (fun K hK=>?_);have f11:=B3.fz 11;go_simp;have F4:=ZU (V2.out.grown h0 l2 g3' O3);have A4:=A3.other (c:=κ.mB) (j:=11) (x:=.slice (some ⟨κ.lb,κ.lo,none⟩) (σ.full.length+F.length) yA) hne.1;refine hK.out _ _ (A4.cl 0 _ rfl) (fun YA=>?_);have G4:=ZU (G2.out.trans F4.out.2);have V4:=ZU F4.out.1;clear hK K YA Z9 F4 A4 k11 f11 O3 B3 A3 b2 a2 o3 g3' V2 G2 L1 O1 ZV;refine ZR (by kernel_rfl) ?_ _
 try simp only [Act.put,WV,WU,WT]
 generalize w3.setCell _ _=w4 at *;have hDl:(σ.full++F).length=σ.full.length+F.length:=ZZ;generalize hD:σ.full++F=D at *;have HD:=ZU hD;have OO:=ZU hDl;clear hD hDl;obtain ⟨fL,fK,pQ,b4,-,-,-,-,-,l4,-⟩:=V4.out.mm;obtain ⟨ZB,y,Zx,a4,-⟩:=V4.out.dk;have A5:Hid (St w4.drew κ.sB (Ia (.pointer (some ⟨κ.mB,0,none⟩)) κ.S κ.L ZB (nP σ.pw) y)):=a4.below (below_drewN' w4 1);have B5:Hid (St w4.drew κ.mB (yB κ { σ with fs:=[],full:=D } fL fK pQ)):=b4.below (below_drewN' w4 1);have V5:Hid (Sv κ { σ with fs:=[],full:=D } w4.drew):=V4.out.below (below_drewN' w4 1);have G5:Hid (Gs κ w w4.drew):=G4.out.trans (Gs.YZ (below_drewN' w4 1));clear a4 b4 l4 V4 G4;have m11:w4.drew.cell? ⟨κ.mB,11,none⟩=some (.slice (some ⟨κ.lb,κ.lo,none⟩) D.length pQ):=by
  have e:=B5.out.cl 11 _ rfl
  simp only [h0,Si,Yj,XY] at e
  exact e
 have S5:w4.drew.cell? ⟨κ.sB,0,none⟩=some (.pointer (some ⟨κ.mB,0,none⟩))∧w4.drew.cell? ⟨κ.sB,1,none⟩=some (.int .i64 κ.S)∧w4.drew.cell? ⟨κ.sB,2,none⟩=some (.int .i64 κ.L)∧w4.drew.cell? ⟨κ.mB,7,none⟩=some (.int .i64 σ.b)∧w4.drew.cell? ⟨κ.mB,11,none⟩=some (.slice (some ⟨κ.lb,κ.lo,none⟩) D.length pQ):=⟨A5.out.cl 0 _ rfl,A5.out.cl 1 _ rfl,A5.out.cl 2 _ rfl,B5.out.cl 7 _ rfl,m11⟩
 go_wp2_with fail
 refine ZX (S:=fun W=>W.cell? ⟨κ.sB,0,none⟩=some (.pointer (some ⟨κ.mB,0,none⟩))∧W.cell? ⟨κ.sB,1,none⟩=some (.int .i64 κ.S)∧W.cell? ⟨κ.sB,2,none⟩=some (.int .i64 κ.L)∧W.cell? ⟨κ.mB,7,none⟩=some (.int .i64 σ.b)∧W.cell? ⟨κ.mB,11,none⟩=some (.slice (some ⟨κ.lb,κ.lo,none⟩) D.length pQ)) (by kernel_rfl) S5 (fun Z9=>?_);clear S5 m11;generalize w4.drew=w5 at *
 iterate 13 (refine Zf ?_ (by kernel_rfl) (fun _=>id) Z9 ?_ ?_;rotate_left;· intro w9 ZQ;obtain ⟨k0,k1,k2,k3,k4⟩:=ZQ;go_simp;try with_reducible rfl)
 refine Yp 14 ?v27 rfl (by kernel_rfl) (fun _=>id) Z9 ?hy27 ?_
 case hy27=>intro w9 ZQ;obtain ⟨k0,k1,k2,k3,k4⟩:=ZQ;go_simp;try with_reducible rfl
 refine Yp 15 ?v28 rfl (by kernel_rfl) (fun _=>id) Z9 ?hy28 ?_
 case hy28=>intro w9 ZQ;obtain ⟨k0,k1,k2,k3,k4⟩:=ZQ;go_simp;try with_reducible rfl
 refine Yp 16 ?v29 rfl (by kernel_rfl) (fun _=>id) Z9 ?hy29 ?_
 case hy29=>intro w9 ZQ;obtain ⟨k0,k1,k2,k3,k4⟩:=ZQ;go_simp;try with_reducible rfl
 refine Yp 17 ?v30 rfl (by kernel_rfl) (fun _=>id) Z9 ?vu ?_
 case vu=>intro w9 ZQ;obtain ⟨k0,k1,k2,k3,k4⟩:=ZQ;go_simp;try with_reducible rfl
 refine Yp 18 ?v31 rfl (by kernel_rfl) (fun _=>id) Z9 ?hy31 ?_
 case hy31=>intro w9 ZQ;obtain ⟨k0,k1,k2,k3,k4⟩:=ZQ;go_simp;try with_reducible rfl
 refine Yp 19 ?v32 rfl (by kernel_rfl) (fun _=>id) Z9 ?hy32 ?_
 case hy32=>intro w9 ZQ;obtain ⟨k0,k1,k2,k3,k4⟩:=ZQ;go_simp;try with_reducible rfl
 refine Yp 20 ?v33 rfl (by kernel_rfl) (fun _=>id) Z9 ?vh ?_
 case vh=>intro w9 ZQ;obtain ⟨k0,k1,k2,k3,k4⟩:=ZQ;go_simp;try with_reducible rfl
 refine Yp 21 ?v34 rfl (by kernel_rfl) (fun _=>id) Z9 ?hy34 ?_
 case hy34=>intro w9 ZQ;obtain ⟨k0,k1,k2,k3,k4⟩:=ZQ;go_simp;try with_reducible rfl
 refine YS 13 rfl (by kernel_rfl) (fun K hK=>?_);go_simp;refine (RI w5 κ.S κ.L σ.b hc hb).mono ?_;rintro e w6 ⟨rfl,b6⟩;have hs0:=A5.out.lt;have hm0:=B5.out.lt;have S6:w6.cell? ⟨κ.sB,0,none⟩=some (.pointer (some ⟨κ.mB,0,none⟩))∧w6.cell? ⟨κ.sB,1,none⟩=some (.int .i64 κ.S)∧w6.cell? ⟨κ.sB,2,none⟩=some (.int .i64 κ.L)∧w6.cell? ⟨κ.mB,7,none⟩=some (.int .i64 σ.b)∧w6.cell? ⟨κ.mB,11,none⟩=some (.slice (some ⟨κ.lb,κ.lo,none⟩) D.length pQ):=⟨(b6.cell (p:=⟨κ.sB,0,none⟩) hs0).trans Z9.1,(b6.cell (p:=⟨κ.sB,1,none⟩) hs0).trans Z9.2.1,(b6.cell (p:=⟨κ.sB,2,none⟩) hs0).trans Z9.2.2.1,(b6.cell (p:=⟨κ.mB,7,none⟩) hm0).trans Z9.2.2.2.1,(b6.cell (p:=⟨κ.mB,11,none⟩) hm0).trans Z9.2.2.2.2⟩;have I:=ZU (V5.out.below b6);have G6:=ZU (G5.out.trans (Gs.YZ b6));refine hK.out _ _ S6 (fun YA=>?_);clear hK K Z9 YA b6 V5 G5 A5 B5 hs0 hm0;obtain ⟨v0,hv0,q6⟩:=I.out.pq;obtain ⟨Yf,Yd,Zw,b6,-,-,-,-,-,l6,-⟩:=I.out.mm;have hne:=I.out.ne;have Zt:Zw=pQ:=by
  have e:=b6.cl 11 _ rfl
  simp only [h0,Si,Yj,XY] at e
  rw [S6.2.2.2.2] at e
  simp at e
  exact e.symm
 subst Zt;have HW:=ZU (No (Ry κ.S κ.L σ.b true) (Jg κ.S κ.L true) (.slice (some ⟨κ.lb,κ.lo,none⟩) D.length Zw) D σ.full.length q6 hk (vw hc hb) (fun W hW=>(UJ.gr l6 hW (by simp [Value.ownBlock];exact fun e=>hne.2.2.1 e.symm) (fun e=>by simp only [Value.ownBlock] at e;exact (I.out.pw _ e.symm).2.2.2.2.1 rfl)).rd) (by have:=OO.out;omega) (by have:=OO.out;omega));refine YS 22 rfl (by kernel_rfl) (fun K hK=>?_);go_simp;refine HW.out.mono ?_;rintro e w7 ⟨rfl,p7,-⟩;have P7:=ZU p7;obtain ⟨YW,Yc,ZS,Zr,Yb,Ya,a7,-,-,-,-,-,-,-,g7,-⟩:=p7;have hmw:some κ.mB≠σ.pw:=fun e=>(I.out.pw _ e.symm).2.2.1 rfl
 have b7:=Wo b6 g7.size (g7.block _ b6.lt hne.1.symm hmw);refine hK.out _ _ ⟨a7.cl 0 _ rfl,a7.cl 1 _ rfl,a7.cl 2 _ rfl,b7.cl 7 _ rfl,(ZP (w:=w6) (a:=⟨κ.mB,11,none⟩) (g7.block _ b6.lt hne.1.symm hmw)).trans S6.2.2.2.2⟩ (fun YA=>?_);clear hK K YA a7 b7 g7 b6 l6 S6 HW q6;refine ZR (by kernel_rfl) ?_ _
 try simp only [Act.put,WV,WU,WT]
 go_wp2_with fail
 refine (Hz P7.out (by omega)).mono ?_;rintro e w8 ⟨rfl,p8,-⟩;obtain ⟨V8,G8⟩:=I.out.ended hv0 p8 hsp;have V9:Hid (Sv κ { σ with fs:=[],full:=D,k:=σ.k+66,pw:=none } w8.drew):=V8.below (below_drewN' w8 1);have G9:Hid (Gw κ w w8.drew):=(G6.out.gw.trans G8).trans (Gs.YZ (below_drewN' w8 1)).gw;clear V8 G8 p8 P7 I G6;obtain ⟨X',X9,fP,b9,-,r9,-⟩:=V9.out.mm;obtain ⟨aq,cq,rfl,-,-⟩:=r9.len;obtain ⟨X8,YQ,YB,a9,-⟩:=V9.out.dk;have B9:=ZU b9;have A9:=ZU a9;have S9:w8.drew.cell? ⟨κ.sB,0,none⟩=some (.pointer (some ⟨κ.mB,0,none⟩))∧w8.drew.cell? ⟨κ.mB,2,none⟩=some (.slice aq σ.Q.length cq)∧w8.drew.cell? ⟨κ.mB,3,none⟩=some (.int .i64 (σ.zq:Int)):=⟨a9.cl 0 _ rfl,b9.cl 2 _ rfl,b9.cl 3 _ rfl⟩;clear a9 b9
 go_wp2_with fail
 refine ZX (S:=fun W=>W.cell? ⟨κ.sB,0,none⟩=some (.pointer (some ⟨κ.mB,0,none⟩))∧W.cell? ⟨κ.mB,2,none⟩=some (.slice aq σ.Q.length cq)∧W.cell? ⟨κ.mB,3,none⟩=some (.int .i64 (σ.zq:Int))) (by kernel_rfl) S9 (fun Z9=>?_);clear S9;generalize w8.drew=w9 at *
 iterate 13 (refine Zf ?_ (by kernel_rfl) (fun _=>id) Z9 ?_ ?_;rotate_left;· intro w9 ZQ;obtain ⟨k0,k1,k2⟩:=ZQ;go_simp;try with_reducible rfl)
 refine YS 13 rfl (by kernel_rfl) (fun K hK=>?_);have m0:=B9.out.cl 0 _ rfl;have m1:=B9.out.cl 1 _ rfl;have f0:=B9.out.fz 0;have f1:=B9.out.fz 1;go_simp;have F9:=ZU (V9.out.qZ B9.out);have ZN:=(A9.out.other (c:=κ.mB) (j:=0) (x:=.slice aq σ.Q.length cq) V9.out.ne.1).other (c:=κ.mB) (j:=1) (x:=.int .i64 (σ.zq:Int)) V9.out.ne.1;have B10:=(B9.out.set 0 (.slice aq σ.Q.length cq)).set 1 (.int .i64 (σ.zq:Int));have M:=ZU (G9.out.trans F9.out.2.gw);have m:=ZU F9.out.1;refine hK.out _ _ ⟨ZN.cl 0 _ rfl,B10.cl 2 _ rfl,B10.cl 3 _ rfl⟩ (fun YA=>?_);have ZL:=ZU ZN;have B11:=ZU B10;clear hK K YA m0 m1 f0 f1 F9 ZN B10 A9 B9 V9 G9 Z9;refine ZR (by kernel_rfl) ?_ _
 try simp only [Act.put,WV,WU,WT]
 generalize (w9.setCell _ _).setCell _ _=I9 at *;have c0:=ZL.out.cl 0 _ rfl;have m5:=B11.out.cl 5 _ rfl;have f5:=B11.out.fz 5;have Zp:=ZL.out.other (c:=κ.mB) (j:=5) (x:=.int .i64 0) m.out.ne.1;have R:=B11.out.set 5 (.int .i64 0);have c0':=Zp.cl 0 _ rfl;have YO:=R.cl 1 _ rfl;have FZ:=ZU m.out.qY;have Zo:=ZU (htab _ (M.out.trans FZ.out.2.gw))
 go_wp2_with fail
 have TT:=E2 (I9.setCell ⟨κ.mB,5,none⟩ (.int .i64 0)) ⟨#[102,108,117,115,104,101,100]⟩ σ.fs.length σ.zq (by decide) (by omega) hz Zo.out;have hsz:(I9.setCell ⟨κ.mB,5,none⟩ (.int .i64 0)).heap.size=I9.heap.size:=by simp
 have FIN:Hid (∀W,Below I9.heap.size (I9.setCell ⟨κ.mB,5,none⟩ (.int .i64 0)) W→Gw κ w W∧Sv κ { σ with T:=σ.Q,zf:=σ.zq,fs:=[],ql:=0,full:=D,k:=σ.k+66,pw:=none } W):=fun W hW=>by
  rw [←hsz] at hW;exact ⟨(M.out.trans FZ.out.2.gw).trans (Gs.YZ hW).gw,FZ.out.1.below hW⟩
 rw [hsz] at TT;refine TT.mono ?_;rintro e tx ⟨rfl,b12⟩;have YL:=ZU (FIN.out _ (b12.mono (by simp)));clear b12 FIN TT Zo FZ m M ZL B11 Zp R c0 m5 f5 c0' YO hsz;go_wp2;go_ret;refine ⟨rfl,?_⟩;rw [hF,HD.out];exact YL.out
 end Go.Proofs.YtpmjnbmkippaiaaGreatDoor
namespace Go.Proofs.YtpmjnbmkippaiaaGreatDoor
open Go.RowKit Go.Shelf
theorem E1 (w:World) (v vo:Value) (ns:List Nd) (os:List TO) (z:Int) (h:SK w v ns) (ho:JR w vo os) (hos:∀i,i<os.length→(Qg os i).path.size≤1048576∧(Qg os i).data.size≤1048576) (hb:RY ns os z=true)
    (hg : w.cell? ⟨5, 0, none⟩ = some (.iface 345 (.agg #[.pointer (some ⟨11, 182, none⟩)]))) (h0 : 5 < w.heap.size) (htab : Lib.TabIs Tryz.prog w "internal/strconv.uint64pow10" .u64 Lib.pow10Tab) :
    Calls Tryz.prog 125 #[.agg #[v],.agg #[vo],.int .i64 z] w fun e w'=>nu w ns z (RZ z os ns 0 []) e w':=by
 unfold RY at hb
 simp only [ZA,Zj] at hb
 obtain ⟨hok,h1,h2,h3,h4⟩:=hb;have Z':=ZU (P4.1 hok);have PX:=ZU hok;have hn:ns.length≤1000:=Z'.out.2.2;obtain ⟨ao,ca,rfl,_,_⟩:=h.len;obtain ⟨bo,cb,rfl,_,_⟩:=ho.len;have HR:=ZU h;have YK:=ZU ho;have lA:=ZU hos;have HG:=ZU hg;have HT:=ZU htab;have LW:Hid (∀i,(Ye ns i).path.size≤1048576∧(Ye ns i).data.size≤1048576):=by
  intro i
  by_cases hi:i<ns.length
  · have:=TX (Z'.out.2.1 _ (YP hi))
    rw [WF hi];omega
  have:Ye ns i=nd0:=by unfold Ye;simp [List.getD,Yk (show ns.length≤i by omega)]
  rw [this];simp [nd0]
 have lC:Hid (∀W,Zi w W→∀n:Int,0≤n→n≤2147483647→Calls Tryz.prog 249 #[.int .i64 n] W (Wj W (.string ⟨(six 12 n.toNat 6).toArray⟩))):=fun W hW n a b=>C6 W n a b (Ra HT.out hW)
 have xF:¬(os.length:Int)<1:=by omega
 have lq:¬(64:Int)<(os.length:Int):=by omega
 have HZ:Hid (PP z=true):=by show _=_;unfold PP;simp;omega
 have rV:Hid (∀W,Calls Tryz.prog 164 #[.int .i64 z] W fun e w'=>e=.returned (.bool true)∧W=w'):=fun W=>by
  have:=Fc W z;rw [Zm h3,Zm h4] at this;exact this.mono fun e w' h9=>⟨h9.1,h9.2.symm⟩
 have X0:Hid (zL w (.slice ao ns.length ca) (.slice bo os.length cb) (((w.alloc (.cells #[.slice ao ns.length ca] 63)).alloc (.cells #[.slice bo os.length cb] 41)).alloc (.cells #[.int .i64 0,.int .i64 0,.slice none 0 0,.int .i64 0,.slice none 0 0] 194))):=zL.new _ _ _ _ _ _;obtain ⟨res,hres⟩:∃res,res=RZ z os ns 0 []:=⟨_,rfl⟩;rw [←hres];have iE:=ZU hres;clear h ho hos hok hg htab hres
 go_enter Tryz.func125,Tryz.ntmps125
 go_wp2_with fail
 generalize ((w.alloc _).alloc _).alloc _=w0 at *;refine (UL _ _ ns (HR.out.below X0.out.1) LW.out).mono ?_;rintro e w1 ⟨rfl,b1⟩;rw [PX.out];have X1:=ZU (X0.out.below b1);clear b1 X0 PX;have zz:w.heap.size+3≤w1.heap.size:=X1.out.2.1;obtain ⟨-,-,a0,a1,-⟩:=X1.out;have Qs:=ZU (rk w1 ao ca ns (HR.out.below X1.out.1) hn)
 go_wp2_with (first | (go_at_call 164;refine (rV.out _).mono ?_;rintro e w' ⟨rfl,rfl⟩) | (go_at_call 166;refine Qs.out.mono ?_))
 rintro e w2 ⟨v2,rfl,o2,b2⟩;have X2:=ZU (X1.out.below b2);have B2:=ZU b2;have O2:=ZU o2;have V2:Hid (∀g,v2.ownBlock=some g→g<w2.heap.size):=fun g hg=>(ZT o2 g hg).2
 have s2:=b2.size;obtain ⟨Z7,Z6,rfl⟩:=o2.QU;clear o2 b2 Qs a0 a1;have B3:Hid (Zi w2 (w2.alloc (.cells #[.slice Z7 ns.length Z6,.int .i64 z] 243))):=Yy.alloc YR _;have D3:Hid (Df (w2.alloc (.cells #[.slice Z7 ns.length Z6,.int .i64 z] 243)) w2.heap.size w1.heap.size z (.slice Z7 ns.length Z6) ns):=⟨St.new _ _ _,O2.out.below B3.out,fun e=>by have:=V2.out _ e;omega,Z'.out⟩;have X3:=ZU (X2.out.below B3.out);have e3:(w2.alloc (.cells #[.slice Z7 ns.length Z6,.int .i64 z] 243)).heap.size=w2.heap.size+1:=by simp
 have E3:=ZU e3;clear e3 O2 V2 X2;obtain ⟨-,-,a0,a1,-⟩:=X3.out
 go_wp2_with fail
 clear a0 a1;generalize w2.alloc _=w3 at *;have lz:=ZU (WD B2.out B3.out);refine (zJ w1 w3 w2.heap.size z _ _ ns os lz.out D3.out B2.out.size (YK.out.below X1.out.1) lA.out HZ.out h1 h2 (fun W hW=>lC.out W (X1.out.1.trans (hW.mono X1.out.1.size)))).mono ?_;rw [←iE.out];rintro e w4 ⟨b4,hA | hA⟩
 · obtain ⟨hne,rfl⟩:=hA
   have X4:=ZU (X1.out.Xe b4 zz);have lr:=ZU (zu w4 (res.2.1:Int) res.1 ((X4.out.1.cell (p:=⟨5,0,none⟩) h0).trans HG.out) (by have:=b4.size;omega));clear b4;unfold Sp
   go_wp2_with (go_at_call 165;refine lr.out.mono ?_)
   rintro e w5 ⟨rfl,b5⟩;have X5:=ZU (X4.out.below b5);clear b5;obtain ⟨-,z5,-,-,⟨d0,d1,d2,d3,d4⟩,df⟩:=X5.out;have f0:=df 0;have f1:=df 1;have f2:=df 2;have f3:=df 3;have f4:=df 4;clear df
   go_wp2_with fail
   refine ZW (v:=.agg #[.int .i64 res.1,.int .i64 (res.2.1:Int),.slice none 0 0,.int .i64 0,.slice none 0 0]) (by simp [results,Tryz.results125,go_sem,d0,d1,d2,d3,d4]) rfl ⟨X5.out.1.trans ?_,.inl ⟨hne,rfl⟩⟩
   repeat (first | exact Yy | refine Below.setCell ?_ (by simp;try omega) _)
 obtain ⟨he0,vn,v4,rfl,nh,d4⟩:=hA;have X4:=ZU (X1.out.Xe b4 zz);have s4:=b4.size;have D4:=ZU d4;have N4:=ZU nh;clear b4 d4 nh
 go_wp2_with fail
 have s3:=lz.out.size;have e3:=E3.out;have X5:Hid (zL w (.slice ao ns.length ca) (.slice bo os.length cb) w4.drew):=X4.out.below (below_drewN' w4 1);have D5:Hid (Df w4.drew w2.heap.size w1.heap.size z v4 res.2.2.1):=D4.out.below (below_drewN' w4 1);have N5:Hid (w4.drew.ownsRow w3.heap.size 9 1 vn res.2.2.2.length (res.2.2.2.map Value.string)):=N4.out;have s5:w1.heap.size≤w4.drew.heap.size:=s4;clear X4 D4 N4 s4;refine ZX (S:=fun W=>W.cell? ⟨w.heap.size,0,none⟩=some (.slice ao ns.length ca)∧W.cell? ⟨w2.heap.size,0,none⟩=some v4) (by kernel_rfl) ⟨X5.out.2.2.1,D5.out.s.cl 0 _ rfl⟩ (fun Z9=>?_);generalize w4.drew=w5 at *
 iterate 8 (refine Zf ?_ (by kernel_rfl) (fun _=>id) Z9 ?_ ?_;rotate_left;· intro w9 ZQ;obtain ⟨k0,k1⟩:=ZQ;go_simp;try with_reducible rfl)
 refine YS 8 rfl (by kernel_rfl) (fun K hK=>?_);go_simp;refine (zI w5 _ _ ns res.2.2.1 (HR.out.below X5.out.1) D5.out.o.rd hn D5.out.n.2.2).mono ?_;rintro e w6 ⟨v6,rfl,o6,b6⟩;have X6:=ZU (X5.out.below b6);have D6:=ZU (D5.out.below b6);have N6:=ZU (Kw N5.out b6);obtain ⟨ea,ec,rfl⟩:=o6.QU;have E6:=ZU o6;have s6:=b6.size;clear o6 b6 Z9 X5 D5 N5;refine hK.out _ _ ⟨X6.out.2.2.1,D6.out.s.cl 0 _ rfl⟩ (fun Z9=>?_);clear hK K;have hun:∃ua uc,vn=.slice ua res.2.2.2.length uc:=by
  rcases N6.out.2 with ⟨rfl,hx⟩ | ⟨g,cap,cur,rfl,-⟩
  · exact ⟨_,_,by rw [hx]⟩
  exact ⟨_,_,rfl⟩
 obtain ⟨ua,uc,rfl⟩:=hun
 iterate 2 (refine Zf ?_ (by kernel_rfl) (fun _=>id) Z9 ?_ ?_;rotate_left;· intro w9 ZQ;clear ZQ;go_simp;try with_reducible rfl)
 obtain ⟨-,z6,-,-,⟨d0,d1,d2,d3,d4⟩,df⟩:=X6.out;have f0:=df 0;have f1:=df 1;have f2:=df 2;have f3:=df 3;have f4:=df 4;clear df;refine YS 11 rfl (by kernel_rfl) (fun K hK=>?_);go_simp;have T9:=ZU ((((((Tw.refl w6 (w.heap.size+1+1) none).set (j:=0) (x:=.int .i64 0)).set (j:=1) (x:=.int .i64 0)).set (j:=2) (x:=.slice ua res.2.2.2.length uc)).set (j:=3) (x:=.int .i64 z)).set (j:=4) (x:=.slice ea (UY ns res.2.2.1).length ec));have k0:=(ZP (w:=w6) (a:=⟨w.heap.size,0,none⟩) (T9.out.block w.heap.size (by omega) (by omega) (by simp))).trans X6.out.2.2.1;have k1:=(T9.out.st D6.out.s (by omega) (by simp)).cl 0 _ rfl;refine hK.out _ _ ⟨k0,k1⟩ (fun Z9=>?_);clear hK K k0 k1;refine ZR (by kernel_rfl) ?_ _
 try simp only [Act.put,WV,WU,WT]
 clear Z9;have HF:Hid (nu w ns z res (.returned (.agg #[.int .i64 0,.int .i64 0,.slice ua res.2.2.2.length uc,.int .i64 z,.slice ea (UY ns res.2.2.1).length ec])) (((((w6.setCell ⟨w.heap.size+1+1,0,none⟩ (.int .i64 0)).setCell ⟨w.heap.size+1+1,1,none⟩ (.int .i64 0)).setCell ⟨w.heap.size+1+1,2,none⟩ (.slice ua res.2.2.2.length uc)).setCell ⟨w.heap.size+1+1,3,none⟩ (.int .i64 z)).setCell ⟨w.heap.size+1+1,4,none⟩ (.slice ea (UY ns res.2.2.1).length ec))):=by
  refine ⟨X6.out.1.trans (T9.out.below (by omega) (by omega) (fun g h=>by cases h)),.inr ⟨he0,_,_,rfl,?_,?_⟩⟩
  · refine MB (lo:=w3.heap.size) (Hp N6.out T9.out (fun g hg=>?_) (fun g hg=>by simp)) (by omega)
    have:=(ZT N6.out g hg).1;omega
  unfold UM;refine MB (lo:=w5.heap.size) (Hp E6.out T9.out (fun g hg=>?_) (fun g hg=>by simp)) (by omega);have:=(ZT E6.out g hg).1;omega
 clear T9 N6 E6 X6 D6
 go_wp2_with fail
 exact ZW (v:=.agg #[.int .i64 0,.int .i64 0,.slice ua res.2.2.2.length uc,.int .i64 z,.slice ea (UY ns res.2.2.1).length ec]) (by simp [results,Tryz.results125,go_sem,d0,d1,d2,d3,d4]) rfl HF.out
def ng (nm:List ByteArray):List (List UInt8):=nm.map fun s=>s.data.toList
theorem qX (nm:List ByteArray):(ng nm).map sV=nm.map Value.string:=by
 unfold ng;rw [SF];apply Vw;intro s _
 simp [sV]
structure Pa where
 c:Int
 i:Int
 z:Int
 L:List (List UInt8)
 es:List Ef
def CV (ns:List Nd) (os:List TO) (z:Int):Pa :=
 if RY ns os z=true then
  (if (RZ z os ns 0 []).1=0 then ⟨0,0,z,ng (RZ z os ns 0 []).2.2.2,UY ns (RZ z os ns 0 []).2.2.1⟩
   else ⟨(RZ z os ns 0 []).1,((RZ z os ns 0 []).2.1:Nat),0,[],[]⟩)
 else ⟨9,0,0,[],[]⟩
def PA (w:World) (a:Pa) (e:Ending) (w':World):Prop :=
 ∃vn ve,e=.returned (.agg #[.int .i64 a.c,.int .i64 a.i,vn,.int .i64 a.z,ve])∧gM w' w.heap.size vn a.L∧UM 249 w' w.heap.size ve a.es∧Zi w w'
theorem PA.bad {w w':World} {c i z:Int} {e:Ending} (he:e=.returned (.agg #[.int .i64 c,.int .i64 i,.slice none 0 0,.int .i64 z,.slice none 0 0])) (hb:Zi w w'):PA w ⟨c,i,z,[],[]⟩ e w' :=
 ⟨_,_,he,ZH _ _ _ _,ZH _ _ _ _,hb⟩
theorem PA.ok {w w':World} {ns:List Nd} {os:List TO} {z:Int} {e:Ending} (hk:RY ns os z=true) (h:nu w ns z (RZ z os ns 0 []) e w'):PA w (CV ns os z) e w':=by
 obtain ⟨hb,h⟩:=h;unfold CV;rw [Z0 hk]
 rcases h with ⟨h0,he⟩ | ⟨h0,vn,ve,he,h1,h2⟩
 · rw [Z1 h0]
   exact PA.bad he hb
 rw [Z0 h0];refine ⟨vn,ve,he,?_,h2,hb⟩;show World.ownsRow _ _ _ _ _ _ _;rw [qX];have:(ng (RZ z os ns 0 []).2.2.2).length=(RZ z os ns 0 []).2.2.2.length:=by simp [ng]
 rw [this];exact h1
theorem zj (w:World) (v vo:Value) (ns:List Nd) (os:List TO) (z:Int) (h:SK w v ns) (ho:JR w vo os) (hsz:∀i,(Ye ns i).path.size≤1048576∧(Ye ns i).data.size≤1048576) (hos:∀i,(Qg os i).path.size≤1048576∧(Qg os i).data.size≤1048576)
    (hg : w.cell? ⟨5, 0, none⟩ = some (.iface 345 (.agg #[.pointer (some ⟨11, 182, none⟩)]))) (h0 : 5 < w.heap.size) (htab : Lib.TabIs Tryz.prog w "internal/strconv.uint64pow10" .u64 Lib.pow10Tab) :
    Calls Tryz.prog 125 #[.agg #[v],.agg #[vo],.int .i64 z] w fun e w'=>PA w (CV ns os z) e w':=by
 by_cases hk:RY ns os z=true
 · exact (E1 w v vo ns os z h ho (fun i _=>hos i) hk hg h0 htab).mono fun e w' h9=>PA.ok hk h9
 refine (Hn w v vo ns os z h ho hsz (by simpa using hk) hg h0).mono fun e w' h9=>?_
 unfold CV;rw [Z1 hk];exact PA.bad h9.1 h9.2
end Go.Proofs.YtpmjnbmkippaiaaGreatDoor
namespace Go.Proofs.YtpmjnbmkippaiaaGreatDoor
open Go.RowKit Go.Conc
theorem Sv.sent {κ:Sc} {σ:Sx} {W:World} {Lv:List Value} {s r:Nat} {v:Value} {f:List Int} (h:Sv κ σ W) (hc:W.heap[κ.c]?=some (.chan κ.cap Lv.toArray false s r false)) (hv:Rd .u8 W v f) (h0:0<f.length) (ME:Pp κ v) :
    Sv κ { σ with fs:=σ.fs++[f] } (W.setChan κ.c κ.cap (Lv.toArray.push v) false (s+1) r false)∧Gs κ W (W.setChan κ.c κ.cap (Lv.toArray.push v) false (s+1) r false):=by
 have hg:=Hx W κ.c κ.cap (Lv.toArray.push v) false (s+1) r false;have G:=Gs.Jb (κ:=κ) hg (.inr (.inr (.inl rfl)));have hne:=h.ne;obtain ⟨vd,made,YN,a1,-⟩:=h.dk;have hlt:=(Z3.mp hc).1;refine ⟨h.re G rfl (hg.block _ a1.lt (by simp;exact fun e=>hne.2.1 e)) rfl (fun vt vq cp b1 b2 b3 b4 b5 b6 b7 b8=>⟨vt,vq,cp,Wo b1 hg.size (hg.block _ b1.lt (by simp;exact fun e=>hne.2.2.2.1 e)),b2,b3,b4,b5,b6,UJ.kept b7 hg (.inr (by simp [Value.ownBlock];exact fun e=>hne.2.2.2.2.2 e.symm)),b8⟩) (fun lG s' r' c1 c2 c3=>⟨Lv++[v],s+1,r,?_,?_,?_⟩),G⟩
 · have:=heap_setChan W κ.c κ.cap (Lv.toArray.push v) false (s+1) r false hlt
   rw [this]
   simp
 all_goals
  rw [hc] at c1
  simp only [ZK,Obj.chan.injEq] at c1
  obtain ⟨-,e9,-⟩:=c1;have e8:Lv=lG:=by simpa using ZM Array.toList e9
  subst e8
 · refine ⟨by simp [c2.1],fun i hi=>?_⟩
   by_cases e:i<Lv.length
   · have e1:(Lv++[v]).getD i undef=Lv.getD i undef:=by simp [List.getD,Zy e]
     have e2:(σ.fs++[f]).getD i []=σ.fs.getD i []:=by simp [List.getD,Zy (show i<σ.fs.length by have:=c2.1;omega)]
     rw [e1,e2];exact c2.2 i e
   have e3:i=Lv.length:=by simp at hi;omega
   subst e3;have e1:(Lv++[v]).getD Lv.length undef=v:=by simp [List.getD]
   have e2:(σ.fs++[f]).getD Lv.length []=f:=by rw [c2.1];simp [List.getD]
   rw [e1,e2];exact ⟨pX hg hc hv,h0⟩
 intro i hi
 by_cases e:i<Lv.length
 · have e1:(Lv++[v]).getD i undef=Lv.getD i undef:=by simp [List.getD,Zy e]
   rw [e1];exact c3 i e
 have e3:i=Lv.length:=by simp at hi;omega
 subst e3;have e1:(Lv++[v]).getD Lv.length undef=v:=by simp [List.getD]
 rw [e1];exact ME
theorem Sv.fJ {κ:Sc} {σ:Sx} {w:World} (n:Nat) (h:Sv κ σ w):Sv κ { σ with ql:=n } (w.setCell ⟨κ.mB,5,none⟩ (.int .i64 (n:Int)))∧Gs κ w (w.setCell ⟨κ.mB,5,none⟩ (.int .i64 (n:Int))):=by
 have hne:=h.ne;have hbl:∀q,q≠κ.mB→(w.setCell ⟨κ.mB,5,none⟩ (.int .i64 (n:Int))).heap[q]?=w.heap[q]?:=fun q hn=>Below.heap_setCell w ⟨κ.mB,5,none⟩ _ q hn
 have G:Gs κ w (w.setCell ⟨κ.mB,5,none⟩ (.int .i64 (n:Int))):=⟨rfl,rfl,rfl,by simp,fun q hq _ h2 _ _=>hbl q h2⟩;exact ⟨h.re G rfl (hbl _ hne.1) rfl (fun O U V b1 b2 b3 b4 b5 b6 b7 b8=>⟨O,U,V,b1.set 5 _,b2,b3,b4,b5,b6,b7.setAt (.inr (by simp [Value.ownBlock];exact fun e=>hne.2.2.2.2.1 e.symm)),b8⟩) (fun Lv s r c1 c2 c3=>⟨Lv,s,r,(hbl _ hne.2.2.2.1.symm).trans c1,c2,c3⟩),G⟩
theorem Sv.nf {κ:Sc} {σ:Sx} {w:World} {v:Value} {Q:List Nd} {z:Nat} (h:Sv κ σ w) (hr:SK w v Q) (hn:PV v) (hf:Pp κ v):Sv κ { σ with Q:=Q,zq:=z } ((w.setCell ⟨κ.mB,2,none⟩ v).setCell ⟨κ.mB,3,none⟩ (.int .i64 (z:Int)))∧Gs κ w ((w.setCell ⟨κ.mB,2,none⟩ v).setCell ⟨κ.mB,3,none⟩ (.int .i64 (z:Int))):=by
 have hne:=h.ne;have hbl:∀q,q≠κ.mB→((w.setCell ⟨κ.mB,2,none⟩ v).setCell ⟨κ.mB,3,none⟩ (.int .i64 (z:Int))).heap[q]?=w.heap[q]?:=fun q hn=>(Below.heap_setCell _ ⟨κ.mB,3,none⟩ _ q hn).trans (Below.heap_setCell w ⟨κ.mB,2,none⟩ _ q hn)
 have G:Gs κ w ((w.setCell ⟨κ.mB,2,none⟩ v).setCell ⟨κ.mB,3,none⟩ (.int .i64 (z:Int))):=⟨rfl,rfl,rfl,by simp,fun q hq _ h2 _ _=>hbl q h2⟩;exact ⟨h.re G rfl (hbl _ hne.1) rfl (fun O U V b1 b2 b3 b4 b5 b6 b7 b8=>⟨O,v,V,(b1.set 2 _).set 3 _,b2,VM hr G.size (fun q hq hl=>hbl q (hf q hq).2.1),hn,b5,hf,(b7.setAt (.inr (by simp [Value.ownBlock];exact fun e=>hne.2.2.2.2.1 e.symm))).setAt (.inr (by simp [Value.ownBlock];exact fun e=>hne.2.2.2.2.1 e.symm)),b8⟩) (fun Lv s r c1 c2 c3=>⟨Lv,s,r,(hbl _ hne.2.2.2.1.symm).trans c1,c2,c3⟩),G⟩
theorem vg {w w':World} {v:Value} {ns:List Ef} (h:Gf w v ns) (hs:w.heap.size≤w'.heap.size) (hb:∀q,v.ownBlock=some q→q<w.heap.size→w'.heap[q]?=w.heap[q]?):Gf w' v ns:=by
 obtain ⟨ao,cp,rfl,h1,h2,h3⟩:=h;refine ⟨ao,cp,rfl,h1,h2,h3.imp id ?_⟩;rintro ⟨b,off,rfl,hlt,hcl⟩;refine ⟨b,off,rfl,ZY hlt hs,fun i hi=>?_⟩;have e:∀j,w'.cell? ⟨b,j,none⟩=w.cell? ⟨b,j,none⟩:=fun j=>ZP (w:=w) (a:=⟨b,j,none⟩) (hb b rfl hlt)
 have h9:=hcl i hi;exact ⟨(e _).trans h9.c0,(e _).trans h9.c1,(e _).trans h9.c2,(e _).trans h9.c3,(e _).trans h9.c4,(e _).trans h9.c5,(e _).trans h9.c6,(e _).trans h9.c7⟩
theorem vf {w w':World} {v:Value} {os:List TO} (h:JR w v os) (hs:w.heap.size≤w'.heap.size) (hb:∀q,v.ownBlock=some q→q<w.heap.size→w'.heap[q]?=w.heap[q]?):JR w' v os:=by
 obtain ⟨ao,cp,rfl,h1,h2,h3⟩:=h;refine ⟨ao,cp,rfl,h1,h2,h3.imp id ?_⟩;rintro ⟨b,off,rfl,hlt,hcl⟩;refine ⟨b,off,rfl,ZY hlt hs,fun i hi=>?_⟩;have e:∀j,w'.cell? ⟨b,j,none⟩=w.cell? ⟨b,j,none⟩:=fun j=>ZP (w:=w) (a:=⟨b,j,none⟩) (hb b rfl hlt)
 have h9:=hcl i hi;exact ⟨(e _).trans h9.1,(e _).trans h9.2.1,(e _).trans h9.2.2.1,(e _).trans h9.2.2.2.1,(e _).trans h9.2.2.2.2⟩
theorem Sv.jU {κ:Sc} {σ:Sx} {w:World} (h:Sv κ σ w):κ.sB<w.heap.size∧κ.mB<w.heap.size∧κ.c<w.heap.size∧κ.lb<w.heap.size:=by
 obtain ⟨vd,made,YN,a1,-⟩:=h.dk;obtain ⟨vt,vq,cp,b1,b2,b3,b4,b5,b6,b7,b8⟩:=h.mm;obtain ⟨Lv,s,r,c1,c2,c3⟩:=h.ch;exact ⟨a1.lt,b1.lt,(Z3.mp c1).1,(b7.lt κ.lb rfl).2⟩
theorem Sv.far {κ:Sc} {σ:Sx} {w:World} (h:Sv κ σ w) {v:Value} (hv:∀q,v.ownBlock=some q→w.heap.size≤q):Pp κ v:=by
 obtain ⟨h1,h2,h3,h4⟩:=h.jU;intro q hq;have:=hv q hq;exact ⟨by omega,by omega,by omega,by omega,fun hx=>by have:=(h.fx q hx).1;omega⟩
structure lp (κ:Sc) (N:Nat) (vo vn ve vx:Value) (os:List TO) (pa:ByteArray) (A:Pa) (b5:Nat) (W:World):Prop where
 hk:κ.sB<N∧κ.mB<N∧κ.c<N∧κ.lb<N
 ln:St W N [.int .i64 1,vo,.bool false,.string pa,vn]
 pr:St W b5 [.int .i64 A.c,.int .i64 A.i,ve,.int .i64 A.z,vx]
 lo:N<b5
 es:Gf W vx A.es
 xf:∀q,vx.ownBlock=some q→N≤q
 op:JR W vo os
 oF:Pp κ vo
theorem lp.gs {κ:Sc} {N:Nat} {vo vn ve vx:Value} {os:List TO} {pa:ByteArray} {A:Pa} {b5:Nat} {W W':World} (h:lp κ N vo vn ve vx os pa A b5 W) (hg:Gs κ W W'):lp κ N vo vn ve vx os pa A b5 W':=by
 obtain ⟨k1,k2,k3,k4⟩:=h.hk;have hl:=h.lo;have hb:∀q,N≤q→q<W.heap.size→W'.heap[q]?=W.heap[q]?:=fun q hq hl=>hg.block q hl (by omega) (by omega) (by omega) (by omega)
 exact ⟨h.hk,Wo h.ln hg.size (hb _ YR h.ln.lt),Wo h.pr hg.size (hb _ (Nat.le_of_lt hl) h.pr.lt),hl,vg h.es hg.size (fun q hq hl=>hb q (h.xf q hq) hl),h.xf,vf h.op hg.size (fun q hq hl=>hg.block q hl (h.oF q hq).1 (h.oF q hq).2.1 (h.oF q hq).2.2.1 (h.oF q hq).2.2.2.1),h.oF⟩
theorem qW (s:ByteArray) (z:Nat) (hs:s.size≤1000) (hz:z<1000000):(strOfNums (VS s [z])).size≤3000:=by
 have e:(strOfNums (VS s [z])).size=(VS s [z]).length:=by simp [strOfNums,ByteArray.size]
 have:=Fb [z] (by simpa using hz);rw [e];unfold VS;rw [ZZ,Wq]
 simp at this ⊢
 omega
theorem E0 (s:ByteArray):s++⟨#[]⟩=s:=by
 apply WM
 simp
end Go.Proofs.YtpmjnbmkippaiaaGreatDoor
namespace Go.Proofs.YtpmjnbmkippaiaaGreatDoor
open Go.RowKit Go.Shelf
theorem EZ (w:World) (vo vn:Value) (os:List TO) (h:JR w vo os) (hs:∀i,(Qg os i).seq=false) (hl:os.length≤1000) :
    Calls Tryz.prog 129 #[vo,vn] w (Wj w (.string ⟨#[]⟩)):=by
 obtain ⟨ao,cp,rfl,h1,h2,h3⟩:=h;have HR:=ZU h3;have HS:=ZU hs;clear h3 hs
 go_enter Tryz.func129,Tryz.ntmps129
 go_wp2_with fail
 have W0:Hid ((w.alloc (.cells #[.pointer none,.slice none 0 0] 180)).heap[w.heap.size]?=some (.cells #[.pointer none,.slice none 0 0] 180)):=Zs _ _;have B0:Hid (Zi w (w.alloc (.cells #[.pointer none,.slice none 0 0] 180))):=Yy.alloc YR _;generalize w.alloc _=w1 at *
 go_loopw [10] (fun v wr=>∃i:Nat,v=.int .i64 (i:Int)∧i≤os.length∧Hid (wr.heap[w.heap.size]?=some (.cells #[.pointer none,.slice none 0 0] 180))∧Hid (Zi w wr)) (fun v _=>((os.length:Int) - intOf v).toNat)
 case atStart=>exact ⟨0,rfl,Zu _,W0,B0⟩
 case round =>
  obtain ⟨i,rfl,hi,WH,BH⟩:=hrel
  by_cases hc:i<os.length
  · obtain ⟨b,off,rfl,hb,hcl⟩:=HR.out.resolve_left (fun e=>by rw [e] at hc;simp at hc)
    obtain ⟨k0,k1,k2,k3,k4⟩:=(hcl i hc).below BH.out hb;rw [HS.out i] at k4;clear hcl
    go_wp2_with fail
    have hw:=(Z3.mp WH.out).1;exact ⟨⟨i+1,by go_num,by omega,(Below.heap_alloc _ _ _ hw).trans WH.out,BH.out.alloc BH.out.size _⟩,by simp [intOf];omega⟩
  go_wp2_with fail
  refine (Tryz.Builder_String_empty w.heap.size w.heap.size wr (.inl ⟨YR,.slice none 0 0,WH.out,ZH _ _ _ _,by simp [Value.ownBlock]⟩) BH.out.size).mono ?_;rintro e w' ⟨rfl,b'⟩;have B2:=ZU (BH.out.trans b');clear b';go_wp2;go_ret;exact ⟨rfl,B2.out⟩
theorem tH.new (w:World) (e:Ef):tH (w.alloc (.cells #[.string e.nd.path,.string e.nd.data,.int .i64 e.nd.XT,.int .i64 e.nd.XQ,.int .i64 e.nd.cz,.int .i64 e.nd.mz,.int .i64 e.nd.pz,.int .u8 (Ii e)] 251)) w.heap.size e:=by
 have:=Zs w (.cells #[.string e.nd.path,.string e.nd.data,.int .i64 e.nd.XT,.int .i64 e.nd.XQ,.int .i64 e.nd.cz,.int .i64 e.nd.mz,.int .i64 e.nd.pz,.int .u8 (Ii e)] 251);exact ⟨⟨⟨_,_,_,this,by decide⟩,(cell_of this _).trans rfl,(cell_of this _).trans rfl,(cell_of this _).trans rfl,(cell_of this _).trans rfl,(cell_of this _).trans rfl,(cell_of this _).trans rfl,(cell_of this _).trans rfl⟩,(cell_of this _).trans rfl⟩
theorem CU (w:World) (z:Int) (b o n cap:Nat) (ns:List Ef) (hp:ns.length=n) (hb:b<w.heap.size) (hc:∀i,i<n→PD w b (o+i*8) (Vr ns i)) (hR:Gf w (.slice (some ⟨b,o,none⟩) n cap) ns)
    (hsz:∀i,(Vr ns i).nd.path.size≤1048576∧(Vr ns i).nd.data.size≤1048576) :
    Calls Tryz.prog 126 #[.agg #[.int .i64 z,.slice (some ⟨b,o,none⟩) n cap]] w fun e w'=>∃v',e=.returned v'∧Own .u8 5 w' w.heap.size v' (Va z ns)∧Zi w w':=by
 have HC:Hid (∀i,i<n→PD w b (o+i*8) (Vr ns i)):=hc;have HP:Hid (ns.length=n):=hp;have HR:Hid (Gf w (.slice (some ⟨b,o,none⟩) n cap) ns):=hR;have HZ:Hid (∀i,(Vr ns i).nd.path.size≤1048576∧(Vr ns i).nd.data.size≤1048576):=hsz;have B0:Hid (Zi w (w.alloc (.cells #[.int .i64 z,.slice (some ⟨b,o,none⟩) n cap] 192))):=Yy.alloc YR _;have X0:Hid (Ih (w.alloc (.cells #[.int .i64 z,.slice (some ⟨b,o,none⟩) n cap] 192)) w.heap.size z (.slice (some ⟨b,o,none⟩) n cap)):=Ih.new _ _ _ _;clear hc hp hR hsz
 go_enter Tryz.func126,Tryz.ntmps126
 go_wp2_with fail
 generalize w.alloc _=w0 at *;refine (Pv _ _ _ ns (HR.out.below B0.out) HZ.out).mono ?_;rintro e w1 ⟨rfl,b1⟩;have B1:=ZU (WD B0.out b1);have X1:=ZU (X0.out.below b1);clear b1 X0 B0
 by_cases hok:Tl z ns=true
 rotate_left
 · have hok':Tl z ns=false:=by simpa using hok
   have HT:Hid (Va z ns=[]):=by show _=_;unfold Va;rw [Z1 hok]
   rw [hok'];clear hok hok';go_wp2;go_ret;exact ⟨_,rfl,(by rw [HT.out];exact ZH _ _ _ _),B1.out⟩
 obtain ⟨g1,g2,g3,g4⟩:=MJ hok;rw [HP.out] at g3 g4;obtain ⟨Z,rfl⟩:∃Z:Nat,z=(Z:Int):=⟨z.toNat,by omega⟩;have HT:Hid (Va Z ns=Xo Z 4++Xo n 2++SL ns):=by show _=_;unfold Va;rw [Z0 hok,HP.out,Ze]
 have PX:Hid (∀k,k<n→Sm (Vr ns k)=true):=g4;have Pu:Hid (∀k,k≤n→(SL (ns.take k)).length≤k*189):=fun k hk=>Jh (fun k hk=>g4 k (by rw [←HP.out];exact hk)) k (by rw [HP.out];exact hk)
 rw [hok];clear hok g4;obtain ⟨z1,c0,c1⟩:=X1.out;have s1:w.heap.size+1≤w1.heap.size:=z1;have D1:Hid (Below (w.heap.size+1) w1 w1):=Yy;have C1:Hid (w1.cell? ⟨w.heap.size,1,none⟩=some (.slice (some ⟨b,o,none⟩) n cap)):=c1
 go_wp2_with fail
 refine (Wr w1 (w.heap.size+1) (.slice none 0 0) [] Z 4 (ZH _ _ _ _) s1 (by simp) (by omega)).mono ?_;rintro e w2 ⟨v2,rfl,o2,b2,-⟩;have O2:Hid (Own .u8 5 w2 (w.heap.size+1) v2 (Xo Z 4)):=o2;have D2:Hid (Below (w.heap.size+1) w1 w2):=b2;clear o2 b2 c0 c1 D1;have c1:=(D2.out.cell (p:=⟨w.heap.size,1,none⟩) (WK _)).trans C1.out;have s2:w.heap.size+1≤w2.heap.size:=ZJ s1 D2.out.size
 go_wp2_with fail
 refine (Wr w2 (w.heap.size+1) v2 (Xo Z 4) n 2 O2.out s2 (by rw [Xd];omega) (by omega)).mono ?_;rintro e w3 ⟨v3,rfl,o3,b3,-⟩;obtain ⟨H,hH⟩:∃H,H=Xo Z 4++Xo n 2:=⟨_,rfl⟩;have HH:Hid (H.length=6):=by show _=_;rw [hH,ZZ,Xd,Xd]
 rw [←hH] at o3 HT;have O3:Hid (Own .u8 5 w3 (w.heap.size+1) v3 (H++SL (ns.take 0))):=by show Own _ _ _ _ _ _;rw [WI,show SL []=[] from rfl,YD];exact o3
 have D3:=ZU (D2.out.trans b3);clear o3 b3 hH O2 D2 c1;have c1:=(D3.out.cell (p:=⟨w.heap.size,1,none⟩) (WK _)).trans C1.out;go_wp2
 go_loopw [3,21] (fun vi vk wr=>∃k:Nat,k≤n∧vk=.int .i64 k∧Hid (Own .u8 5 wr (w.heap.size+1) vi (H++SL (ns.take k)))∧Hid (Below (w.heap.size+1) w1 wr)) (fun _ i _=>n - (intOf i).toNat)
 case atStart=>exact ⟨0,Zu _,rfl,O3,D3⟩
 case round =>
  clear c1;obtain ⟨k,hk,rfl,HW,HD⟩:=hrel;have sD:w.heap.size+1≤wr.heap.size:=ZJ s1 HD.out.size
  by_cases hlt:k<n
  · have Rj:(k:Int)<(n:Int):=by omega
    obtain ⟨c0,c1,c2,c3,c4,c5,c6,c7⟩:=((HC.out k hlt).below B1.out hb).below HD.out (Nat.lt_succ_of_lt hb)
    go_wp2_with fail
    clear c0 c1 c2 c3 c4 c5 c6 c7;refine (FH _ (Vr ns k)).mono ?_;rintro e w4 ⟨rfl,b4⟩;have D4:Hid (Below (w.heap.size+1) w1 w4):=(HD.out.alloc sD _).trans (b4.mono (by simp;omega));have O4:Hid (Own .u8 5 w4 (w.heap.size+1) u3 (H++SL (ns.take k))):=(HW.out.below (Yy.alloc YR _)).below b4;have s4:w.heap.size+1≤w4.heap.size:=ZJ s1 D4.out.size;clear b4 HW HD
    go_wp2_with fail
    refine (Dv _ (w.heap.size+1) u3 (H++SL (ns.take k)) w4.heap.size (Vr ns k) ?e1 ?e2 ?e3 ?e4 (PX.out k hlt)).mono ?_
    case e1=>exact O4.out.below (Yy.alloc YR _)
    case e2=>simp;omega
    case e3=>have:=Pu.out k hk;rw [ZZ,HH.out];omega
    case e4=>exact tH.new _ _
    rintro e w5 ⟨v5,rfl,o5,b5,-⟩;have O5:Hid (Own .u8 5 w5 (w.heap.size+1) v5 (H++SL (ns.take (k+1)))):=by
     rw [ZO,KU ns k (by rw [HP.out];exact hlt)] at o5;exact o5
    have D5:Hid (Below (w.heap.size+1) w1 w5):=(D4.out.alloc s4 _).trans b5;clear o5 b5 O4 D4;go_wp2;exact ⟨⟨k+1,by omega,by go_num,O5,D5⟩,by simp [intOf];omega⟩
  have hkn:k=n:=by omega
  subst hkn;go_wp2;go_ret;refine ⟨_,rfl,?_,B1.out.trans (HD.out.mono (Ux _))⟩;rw [HT.out,←At ns k (by rw [HP.out];exact YR)];exact HW.out.mono (Ux _)
theorem CQ (w:World) (z:Int) (ao:Option Addr) (cap:Nat) (hc:cap≤maxLen) :
    Calls Tryz.prog 126 #[.agg #[.int .i64 z,.slice ao 0 cap]] w fun e w'=>∃v',e=.returned v'∧Own .u8 5 w' w.heap.size v' (Va z [])∧Zi w w':=by
 have HR:Hid (Gf w (.slice ao 0 cap) []):=⟨ao,cap,rfl,Zu _,hc,.inl rfl⟩;have B0:Hid (Zi w (w.alloc (.cells #[.int .i64 z,.slice ao 0 cap] 192))):=Yy.alloc YR _;have X0:Hid (Ih (w.alloc (.cells #[.int .i64 z,.slice ao 0 cap] 192)) w.heap.size z (.slice ao 0 cap)):=Ih.new _ _ _ _;clear hc
 go_enter Tryz.func126,Tryz.ntmps126
 go_wp2_with fail
 generalize w.alloc _=w0 at *;refine (Pv _ _ _ [] (HR.out.below B0.out) (fun i=>by simp [Vr,eN,nd0])).mono ?_;rintro e w1 ⟨rfl,b1⟩;have B1:=ZU (WD B0.out b1);have X1:=ZU (X0.out.below b1);clear b1 X0 B0
 by_cases hok:Tl z []=true
 rotate_left
 · have hok':Tl z []=false:=by simpa using hok
   have HT:Hid (Va z []=[]):=by show _=_;unfold Va;rw [Z1 hok]
   rw [hok'];clear hok hok';go_wp2;go_ret;exact ⟨_,rfl,(by rw [HT.out];exact ZH _ _ _ _),B1.out⟩
 obtain ⟨g1,g2,-,-⟩:=MJ hok;obtain ⟨Z,rfl⟩:∃Z:Nat,z=(Z:Int):=⟨z.toNat,by omega⟩;have HT:Hid (Va Z []=Xo Z 4++Xo 0 2):=by show _=_;unfold Va;rw [Z0 hok,Ze];simp [SL]
 rw [hok];clear hok;obtain ⟨z1,c0,c1⟩:=X1.out;have s1:w.heap.size+1≤w1.heap.size:=z1;have C1:Hid (w1.cell? ⟨w.heap.size,1,none⟩=some (.slice ao 0 cap)):=c1
 go_wp2_with fail
 refine (Wr w1 (w.heap.size+1) (.slice none 0 0) [] Z 4 (ZH _ _ _ _) s1 (by simp) (by omega)).mono ?_;rintro e w2 ⟨v2,rfl,o2,b2,-⟩;have O2:Hid (Own .u8 5 w2 (w.heap.size+1) v2 (Xo Z 4)):=o2;have D2:Hid (Below (w.heap.size+1) w1 w2):=b2;clear o2 b2 c0 c1;have c1:=(D2.out.cell (p:=⟨w.heap.size,1,none⟩) (WK _)).trans C1.out;have s2:w.heap.size+1≤w2.heap.size:=ZJ s1 D2.out.size
 go_wp2_with fail
 refine (Wr w2 (w.heap.size+1) v2 (Xo Z 4) 0 2 O2.out s2 (by rw [Xd];omega) (by omega)).mono ?_;rintro e w3 ⟨v3,rfl,o3,b3,-⟩;have O3:Hid (Own .u8 5 w3 w.heap.size v3 (Va Z [])):=by rw [HT.out];exact o3.mono (Ux _)
 have D3:=ZU (D2.out.trans b3);clear o3 b3 O2 D2 c1;have c1:=(D3.out.cell (p:=⟨w.heap.size,1,none⟩) (WK _)).trans C1.out;go_wp2
 go_rounds 1
 go_ret;exact ⟨_,rfl,O3.out,B1.out.trans (D3.out.mono (Ux _))⟩
theorem CO (w:World) (z:Int) (v:Value) (ns:List Ef) (h:Gf w v ns) (hsz:∀i,(Vr ns i).nd.path.size≤1048576∧(Vr ns i).nd.data.size≤1048576) :
    Calls Tryz.prog 126 #[.agg #[.int .i64 z,v]] w fun e w'=>∃v',e=.returned v'∧Own .u8 5 w' w.heap.size v' (Va z ns)∧Zi w w':=by
 have h0:=h;obtain ⟨ao,cap,rfl,h1,h2,h3⟩:=h
 rcases h3 with rfl | ⟨b,o,rfl,hb,hc⟩
 · exact CQ w z ao cap h2
 exact CU w z b o ns.length cap ns rfl hb hc h0 hsz
theorem EY {xs ys:List Int} (h:Sn xs) (h':Sn ys):Sn (xs++ys):=fun x hx=>by
 rcases Y4.1 hx with hx | hx
 · exact h x hx
 exact h' x hx
theorem Kt {s:ByteArray} (h:s.size<256):Sn (J0 s):=by
 intro x hx;unfold J0 at hx
 rcases Y4.1 hx with hx | hx
 · simp at hx;omega
 unfold U0 at hx;obtain ⟨b,-,rfl⟩:=List.mem_map.1 hx;have:=b.toNat_lt;omega
theorem P2 {n:Nd} (h:Wl n=true):Sn (Vy n):=by
 have hs:=TX h;intro x hx;unfold Vy iL at hx
 simp only [Y4] at hx
 rcases hx with (hx | hx) | ((((hx | hx) | hx) | hx) | hx)
 · exact Kt (by omega) x hx
 · exact Kt (by omega) x hx
 all_goals exact Tm _ _ x hx
theorem uZ (z:Int) (es:List Ef):Sn (Va z es):=by
 unfold Va
 split
 · rename_i h
   obtain ⟨-,-,-,h4⟩:=MJ h;refine EY (EY (Tm 4 _) (Tm 2 _)) ?_;intro x hx;unfold SL at hx;obtain ⟨e,he,hx⟩:=List.mem_flatMap.1 hx;obtain ⟨i,hi,rfl⟩:=List.mem_iff_getElem.1 he;have h5:=KV (h4 i hi);rw [Nz hi] at h5;have h6:=TX h5;unfold OM at hx
   split at hx
   · rcases Y4.1 hx with h | h
     · simp at h;subst h;omega
     exact Kt (by omega) x h
   rcases Y4.1 hx with h | h
   · simp at h;subst h;omega
   exact P2 h5 x h
 intro x hx;cases hx
end Go.Proofs.YtpmjnbmkippaiaaGreatDoor
namespace Go.Proofs.YtpmjnbmkippaiaaGreatDoor
theorem CM {xs:List Int} (h0:0<xs.length) (h1:xs.length≤2000):(fr xs).length=2+(8*xs.length+6) / 7:=by
 rw [wV h0 h1,ZZ,Jz];rfl
end Go.Proofs.YtpmjnbmkippaiaaGreatDoor
namespace Go.Proofs.YtpmjnbmkippaiaaGreatDoor
open Go.RowKit Go.Conc
def CL (κ:Sc) (σ:Sx) (A:Pa):ByteArray × Sx :=
 if A.c≠0 then (strOfNums (VS ⟨#[101,114,114,111,114]⟩ [A.c.toNat]),σ)
 else if κ.L*64<(((σ.full.length - σ.off)+(σ.ql+(fr (Va A.z A.es)).length):Nat):Int) then (strOfNums (VS ⟨#[101,114,114,111,114]⟩ [8]),σ)
 else (strOfNums (VS ⟨#[113,117,101,117,101,100]⟩ [A.z.toNat]),{ σ with Q:=PO σ.Q A.z A.es,zq:=A.z.toNat,fs:=σ.fs++[fr (Va A.z A.es)],ql:=σ.ql+(fr (Va A.z A.es)).length })
structure jT (w:World) (vo vn ve vx:Value) (pa:ByteArray) (A:Pa) (b5:Nat) (W:World):Prop where
 WC:Zi w W
 ln:St W w.heap.size [.int .i64 1,vo,.bool false,.string pa,vn]
 pr:St W b5 [.int .i64 A.c,.int .i64 A.i,ve,.int .i64 A.z,vx]
 lo:w.heap.size<b5
 es:Gf W vx A.es
 xf:∀q,vx.ownBlock=some q→w.heap.size≤q
theorem jT.below {w:World} {vo vn ve vx:Value} {pa:ByteArray} {A:Pa} {b5:Nat} {W W':World} (h:jT w vo vn ve vx pa A b5 W) (hb:Zi W W'):jT w vo vn ve vx pa A b5 W' :=
 ⟨h.WC.trans (hb.mono h.WC.size),h.ln.below hb,h.pr.below hb,h.lo,h.es.below hb,h.xf⟩
theorem EW (κ:Sc) (σ:Sx) (w:World) (h:Sv κ σ w) (vo vn:Value) (pa:ByteArray) (os:List TO) (ho:JR w vo os) (CK:Pp κ vo) (hseq:∀i,(Qg os i).seq=false) (hol:os.length≤1000) (hos:∀i,(Qg os i).path.size≤1048576∧(Qg os i).data.size≤1048576)
    (hQ:∀i,(Ye σ.Q i).path.size≤1048576∧(Ye σ.Q i).data.size≤1048576) (hz:σ.zq<900000) (A:Pa) (hA:CV σ.Q os ((σ.zq:Int)+1)=A) (fI:0≤A.c∧A.c<1000) (fH:0≤A.z∧A.z<1000000)
    (hes:∀i,(Vr A.es i).nd.path.size≤1048576∧(Vr A.es i).nd.data.size≤1048576) (him:A.c=0→0<(Va A.z A.es).length∧(Va A.z A.es).length≤2000) (hL:0≤κ.L∧κ.L≤64) (hfl:σ.full.length≤4096) (pP:σ.ql≤4096)
    (hroom:A.c=0→(((σ.full.length - σ.off)+(σ.ql+(fr (Va A.z A.es)).length):Nat):Int)≤κ.L*64→σ.fs.length<κ.cap)
    (hg:w.cell? ⟨5,0,none⟩=some (.iface 345 (.agg #[.pointer (some ⟨11,182,none⟩)]))) (htab:iC κ w) :
    Calls Tryz.prog 78 #[.pointer (some ⟨κ.sB,0,none⟩),.agg #[.int .i64 1,vo,.bool false,.string pa,vn]] w fun e w'=>e=.returned (.string (CL κ σ A).1)∧Gs κ w w'∧Sv κ (CL κ σ A).2 w':=by
 obtain ⟨vt,vq,cp,b1,b2,b3,b4,b5,b6,b7,b8⟩:=h.mm;obtain ⟨vd,made,YN,a1,-⟩:=h.dk;obtain ⟨qa,qc,rfl,-⟩:=SK.len b3;obtain ⟨oa,oc,rfl,-⟩:=ho.len;have hsb:=a1.lt;have hmb:=b1.lt;have hgb:=ZG w _ hg;have hb1:=(Below.refl w.heap.size w).alloc YR (.cells #[.int .i64 1,.slice oa os.length oc,.bool false,.string pa,vn] 43);have BL:Hid (Zi w (w.alloc (.cells #[.int .i64 1,.slice oa os.length oc,.bool false,.string pa,vn] 43))):=hb1;have LN:Hid (St (w.alloc (.cells #[.int .i64 1,.slice oa os.length oc,.bool false,.string pa,vn] 43)) w.heap.size [.int .i64 1,.slice oa os.length oc,.bool false,.string pa,vn]):=St.new _ _ _;have lB:Hid (∀W,Zi w W→Calls Tryz.prog 125 #[.agg #[.slice qa σ.Q.length qc],.agg #[.slice oa os.length oc],.int .i64 ((σ.zq:Int)+1)] W fun e w'=>PA W A e w'):=fun W hW=>by
  rw [←hA];exact zj W _ _ σ.Q os _ (b3.below hW) (ho.below hW) hQ hos ((hW.cell (p:=⟨5,0,none⟩) hgb).trans hg) (ZY hgb hW.size) (Ra (htab w (Gs.YZ Yy).gw) hW)
 have A1:=ZU a1;have B1:=ZU b1;have HV:=ZU h;have HO:=ZU ho;clear h a1 b1 b2 b3 b7 ho hb1;refine Nn Tryz.func78 rfl ?_
 simp only [Tryz.ntmps78,ZI,ZE,Y7,Nat.reduceAdd,Nat.reduceSub,YV,YU,YI,YT,Zd,Y3]
 refine VT (fun K hK=>Tv ?_);have HK:Hid _:=hK;clear hK
 go_wp2_with fail
 refine HK.out _ _ ?_;clear HK K;generalize w.alloc _=w1 at *;refine ri (fun a W=>∃(b5:Nat) (ve vx:Value) (u9 u10 u11 u12 u13 u14 u15 u16 u17 u18 u19 u20 u21 u22 u23 u24 u25 u26 u27 u28:Value),a={ tmps:=#[.pointer (some ⟨κ.sB,0,none⟩),.agg #[.int .i64 1,.slice oa os.length oc,.bool false,.string pa,vn],undef,.pointer (some ⟨w.heap.size,0,none⟩),.string ⟨#[]⟩,.pointer (some ⟨b5,0,none⟩),undef,undef,undef,u9,u10,u11,u12,u13,u14,u15,u16,u17,u18,u19,u20,u21,u22,u23,u24,u25,u26,u27,u28,undef,undef,undef,undef,undef,undef,undef,undef,undef,undef,undef,undef,undef,undef,undef,undef,undef,undef,undef,undef,undef,undef,undef,undef,undef,undef,undef,undef,undef,undef,undef,undef,undef,undef,undef,undef,undef,undef,undef,undef,undef,undef,undef,undef,undef,undef,undef,undef,undef,undef,undef,undef,undef,undef,undef,undef,undef,undef,undef,undef,undef,undef,undef,undef,undef,undef,undef,undef,undef,undef,undef,undef,undef,undef,undef,undef,undef,undef,undef,undef,undef,undef,undef,undef,undef,undef,undef,undef,undef,undef,undef,undef,undef,undef,undef,undef,undef,undef,undef,undef,undef,undef,undef,undef,undef,undef,undef],defers:=[] }∧Hid (jT w (.slice oa os.length oc) vn ve vx pa A b5 W)) ?rest (Tv ?_)
 case rest =>
  clear lB BL LN;rintro a W ⟨b5,ve,vx,u9,u10,u11,u12,u13,u14,u15,u16,u17,u18,u19,u20,u21,u22,u23,u24,u25,u26,u27,u28,rfl,HR⟩;obtain ⟨c,i,z,NL,es⟩:=A
  simp only at hA fI fH hes him hroom HR
  obtain ⟨cn,rfl⟩:∃cn:Nat,c=(cn:Int):=⟨c.toNat,by omega⟩;obtain ⟨Y,rfl⟩:∃Y:Nat,z=(Y:Int):=⟨z.toNat,by omega⟩;have V1:=ZU (HV.out.below HR.out.WC);have G1:Hid (Gs κ w W):=Gs.YZ HR.out.WC;have p0:=HR.out.pr.cl 0 _ rfl;have l2:=HR.out.ln.cl 2 _ rfl
  by_cases hc:cn=0
  · subst hc
    obtain ⟨hi0,hi1⟩:=him rfl;have hroom':=hroom rfl;have Zl:=ZU hroom';obtain ⟨xa,xc,rfl,-⟩:=Gf.len HR.out.es;have p3:=HR.out.pr.cl 3 _ rfl;have p4:=HR.out.pr.cl 4 _ rfl;have HE:=ZU (CO W (Y:Int) _ es HR.out.es hes);clear him hroom hroom';refine VT (fun K hK=>Tv ?_);have HK:Hid _:=hK;clear hK
    go_wp2_with fail
    refine HK.out _ _ ?_;clear HK K;refine VT (fun K hK=>Tv ?_);have HK:Hid _:=hK;clear hK
    go_wp2_with fail
    refine HK.out _ _ ?_;clear HK K;refine VT (fun K hK=>Tv ?_);have HK:Hid _:=hK;clear hK
    go_wp2_with fail
    refine HE.out.mono ?_;rintro e w2 ⟨v6,rfl,o6,b2⟩;have R2:=ZU (HR.out.below b2);have hz2:=R2.out.WC.size;have V2:=ZU (V1.out.below b2);have G2:=ZU (G1.out.trans (Gs.YZ b2));obtain ⟨ia,ic,rfl⟩:=Own.slice o6;have HF:=ZU (JY w2 _ _ o6.rd (uZ _ _) (by omega));have Z4:0<(fr (Va (Y:Int) es)).length∧(fr (Va (Y:Int) es)).length≤2300:=by rw [CM hi0 hi1];omega
    clear HE V1 G1 HR p0 l2 p3 p4 b2 o6;obtain ⟨il,hil⟩:∃n,n=(Va (Y:Int) es).length:=⟨_,rfl⟩;rw [←hil] at hi0 hi1 HF;rw [←hil];obtain ⟨F,hF⟩:∃F,F=fr (Va (Y:Int) es):=⟨_,rfl⟩;rw [←hF] at Z4 HF Zl;have Zk:=ZU hF;clear hF hil;have Yz:¬(2000:Int)<(il:Int):=by omega
    go_wp2_with fail
    refine HK.out _ _ ?_;clear HK K;refine VT (fun K hK=>Tv ?_);have HK:Hid _:=hK;clear hK
    go_wp2_with fail
    refine HK.out _ _ ?_;clear HK K;refine VT (fun K hK=>Tv ?_);have HK:Hid _:=hK;clear hK
    go_wp2_with fail
    refine HF.out.mono ?_;rintro e w3 ⟨v7,rfl,o7,b3⟩;have R3:=ZU (R2.out.below b3);have V3:=ZU (V2.out.below b3);have G3:=ZU (G2.out.trans (Gs.YZ b3));have s3:=b3.size;obtain ⟨fg,fc,rfl,Yv,Yu⟩:=o7.pos rfl (by omega);have O7:=ZU o7;clear HF V2 G2 R2 b3 o7;obtain ⟨X7,XZ,C,m3,q2,q3,q4,q5,q6,q7,q8⟩:=V3.out.mm;obtain ⟨XW,YJ,Yt,s3',-⟩:=V3.out.dk;have c0:=s3'.cl 0 _ rfl;have m5:=m3.cl 5 _ rfl;have hw1:IntKind.i64.wrap ((σ.ql:Int)+(F.length:Int))=(σ.ql:Int)+(F.length:Int):=by rw [Zq];omega
    go_wp2_with fail
    refine HK.out _ _ ?_;clear HK K;refine VT (fun K hK=>Tv ?_);have HK:Hid _:=hK;clear hK
    go_wp2_with fail
    refine HK.out _ _ ?_;clear HK K;refine VT (fun K hK=>Tv ?_);have HK:Hid _:=hK;clear hK
    go_wp2_with fail
    have b4:=below_drewN' w3 1;have R4:Hid (jT w (.slice oa os.length oc) vn ve (.slice xa es.length xc) pa ⟨0,i,(Y:Int),NL,es⟩ b5 w3.drew):=R3.out.below b4;have V4:Hid (Sv κ σ w3.drew):=V3.out.below b4;have G4:Hid (Gs κ w w3.drew):=G3.out.trans (Gs.YZ b4);have O8:Hid (Own .u8 5 w3.drew w2.heap.size (.slice (some ⟨fg,0,none⟩) F.length fc) F):=Own.below O7.out b4;obtain ⟨lg,lD⟩:∃n,n=σ.full.length - σ.off:=⟨_,rfl⟩;obtain ⟨la,hla⟩:∃x,x=κ.lo+(if σ.off=C then 0 else σ.off):=⟨_,rfl⟩;have m11:w3.cell? ⟨κ.mB,11,none⟩=some (.slice (some ⟨κ.lb,la,none⟩) lg (C - σ.off)):=by rw [lD,hla];exact m3.cl 11 _ rfl
    clear hla;have c2:=s3'.cl 2 _ rfl;have Yq:lg≤4096:=by omega
    have ZF:=ZU lD;clear lD V3 G3 R3 O7 m5 q2 q3 q4 q5 q6 q7 q8;refine ZX (S:=fun W=>W.cell? ⟨κ.sB,0,none⟩=some (.pointer (some ⟨κ.mB,0,none⟩))∧W.cell? ⟨κ.sB,2,none⟩=some (.int .i64 κ.L)∧W.cell? ⟨κ.mB,11,none⟩=some (.slice (some ⟨κ.lb,la,none⟩) lg (C - σ.off))) (by kernel_rfl) ⟨c0,c2,m11⟩ (fun Z9=>?_);clear c0 c2 m11 m3 s3' b4;generalize w3.drew=w4 at *
    iterate 9 (refine Zf ?_ (by kernel_rfl) (fun _=>id) Z9 ?_ ?_;rotate_left;· intro w9 ZQ;obtain ⟨k0,k1,k2⟩:=ZQ;go_simp;try with_reducible rfl)
    refine Zf (.int .i64 ((lg:Int)+((σ.ql:Int)+(F.length:Int)))) (by kernel_rfl) (fun _=>id) Z9 ?_ ?_
    · intro w9 ZQ;obtain ⟨k0,k1,k2⟩:=ZQ;go_simp;rw [Zq];omega
    iterate 5 (refine Zf ?_ (by kernel_rfl) (fun _=>id) Z9 ?_ ?_;rotate_left;· intro w9 ZQ;obtain ⟨k0,k1,k2⟩:=ZQ;go_simp;try with_reducible rfl)
    refine Zf (.int .i64 (κ.L*64)) (by kernel_rfl) (fun _=>id) Z9 ?_ ?_
    · intro w9 ZQ;obtain ⟨k0,k1,k2⟩:=ZQ;go_simp;rw [Zq];omega
    refine Zf ?_ (by kernel_rfl) (fun _=>id) Z9 ?_ ?_
    rotate_left
    · intro w9 ZQ;obtain ⟨k0,k1,k2⟩:=ZQ;go_simp;try with_reducible rfl
    refine ZR (by kernel_rfl) ?_ _
    try simp only [Act.put,WV,WU,WT]
    clear Z9
    by_cases hbig:κ.L*64<(lg:Int)+((σ.ql:Int)+(F.length:Int))
    · go_wp2_with fail
      have TT:Calls Tryz.prog 71 #[.string ⟨#[101,114,114,111,114]⟩,.slice (some ⟨w4.heap.size,0,none⟩) 1 1] (w4.alloc (.cells #[.int .i64 8] 2)) (Wj w4 (.string (strOfNums (VS ⟨#[101,114,114,111,114]⟩ [8])))):=Pk w4 _ 8 (by decide) (by decide) (htab _ G4.out.gw);refine TT.mono ?_;rintro e w5 ⟨rfl,Zh⟩;clear TT
      go_wp2_with fail
      go_ret;have e:CL κ σ ⟨((0:Nat):Int),i,(Y:Int),NL,es⟩=(strOfNums (VS ⟨#[101,114,114,111,114]⟩ [8]),σ):=by
       unfold CL;rw [Z1 (by simp),←Zk.out,←ZF.out,Z0 (by show κ.L*64<((lg+(σ.ql+F.length):Nat):Int);omega)]
      rw [e];exact ⟨rfl,G4.out.trans (Gs.YZ Zh),V4.out.below Zh⟩
    go_wp2_with fail
    refine HK.out _ _ ?_;clear HK K;obtain ⟨fL,fK,pQ,m4,-⟩:=V4.out.mm;obtain ⟨ZB,y,Zx,s4,-⟩:=V4.out.dk;obtain ⟨Lv,ss,rr,c1,c2,c3⟩:=V4.out.ch;have k0:=s4.cl 0 _ rfl;have k4:=m4.cl 4 _ rfl;have hcap:Lv.toArray.size<κ.cap:=by
     have:=Zl.out (by rw [←ZF.out];show ((lg+(σ.ql+F.length):Nat):Int)≤κ.L*64;omega);have e:=c2.1
     simp only [ZI];omega
    refine VT (fun K hK=>?_);have HK:Hid _:=hK;clear hK;refine KE (pre:=[0,1,2,3,4,5,6,7]) (suf:=[]) 8 rfl rfl ?_;refine ⟨_,.pointer (some ⟨κ.sB,0,none⟩),w4,rfl,by kernel_rfl,by kernel_rfl,?_⟩;refine ⟨_,.pointer (some ⟨κ.sB,0,none⟩),w4,rfl,by kernel_rfl,by kernel_rfl,?_⟩;refine ⟨_,.pointer (some ⟨κ.sB,0,none⟩),w4,rfl,by kernel_rfl,by kernel_rfl,?_⟩;refine ⟨_,.pointer (some ⟨κ.mB,0,none⟩),w4,rfl,by kernel_rfl,?_,?_⟩
    · go_simp
    refine ⟨_,.pointer (some ⟨κ.mB,0,none⟩),w4,rfl,by kernel_rfl,by kernel_rfl,?_⟩;refine ⟨_,.pointer (some ⟨κ.mB,4,none⟩),w4,rfl,by kernel_rfl,by kernel_rfl,?_⟩;refine ⟨_,.chan (some κ.c),w4,rfl,by kernel_rfl,?_,?_⟩
    · go_simp
    refine ⟨_,.slice (some ⟨fg,0,none⟩) F.length fc,w4,rfl,by kernel_rfl,by kernel_rfl,?_⟩;refine ⟨by kernel_rfl,#[scase κ.c (.slice (some ⟨fg,0,none⟩) F.length fc) undef],true,.send,undef,w4.setChan κ.c κ.cap (Lv.toArray.push (.slice (some ⟨fg,0,none⟩) F.length fc)) false (ss+1) rr false,?_,ww c1 hcap,?_⟩
    · kernel_rfl
    show K _ _;refine HK.out _ _ ?_;clear HK K;have ME:Pp κ (.slice (some ⟨fg,0,none⟩) F.length fc):=HV.out.far (fun q hq=>by
     simp only [Value.ownBlock,ZK] at hq
     have:=R4.out.WC.size;omega)
    obtain ⟨V5,G5⟩:=V4.out.sent c1 O8.out.rd Z4.1 ME;have V5:=ZU V5;have Q4:lp κ w.heap.size (.slice oa os.length oc) vn ve (.slice xa es.length xc) os pa ⟨0,i,(Y:Int),NL,es⟩ b5 w4:=⟨HV.out.jU,R4.out.ln,R4.out.pr,R4.out.lo,R4.out.es,R4.out.xf,HO.out.below R4.out.WC,CK⟩;have Q5:=ZU (Q4.gs G5);have G5:=ZU (G4.out.trans G5);clear Q4 V4 G4 R4 O8 c1 c2 c3 k0 k4 m4 s4 hcap ME HO;generalize w4.setChan κ.c κ.cap (Lv.toArray.push (.slice (some ⟨fg,0,none⟩) F.length fc)) false (ss+1) rr false=w5 at *;obtain ⟨I,G6⟩:=V5.out.fJ (σ.ql+F.length);rw [Int.natCast_add] at I G6;have I:=ZU I;have Q6:=ZU (Q5.out.gs G6);have G6:=ZU (G5.out.trans G6);obtain ⟨eF,eE,fG,m5,-⟩:=V5.out.mm;obtain ⟨XV,YH,Yo,s5,-⟩:=V5.out.dk;have k0:=s5.cl 0 _ rfl;have k5:=m5.cl 5 _ rfl;have f5:=m5.fz 5;clear V5 G5 Q5 m5 s5;refine Tv ?_
    go_wp2_with fail
    clear k0 k5 f5;generalize w5.setCell _ _=w6 at *;have b7:=below_drewN' w6 1;have V7:Hid (Sv κ { σ with fs:=σ.fs++[F],ql:=σ.ql+F.length } w6.drew):=I.out.below b7;have G7:Hid (Gs κ w w6.drew):=G6.out.trans (Gs.YZ b7);have Q7:Hid (lp κ w.heap.size (.slice oa os.length oc) vn ve (.slice xa es.length xc) os pa ⟨0,i,(Y:Int),NL,es⟩ b5 w6.drew):=Q6.out.gs (Gs.YZ b7);clear I G6 Q6 b7;obtain ⟨XS,XR,XP,m7,-,r7,n7,-,f7,-⟩:=V7.out.mm;obtain ⟨YW,ZS,Zr,s7,-⟩:=V7.out.dk;obtain ⟨ya,yc,rfl,-⟩:=SK.len r7;have M7:=ZU m7;have S7:=ZU s7;have jS:=ZU (JX w6.drew _ σ.Q (Y:Int) _ es r7 n7 Q7.out.es hQ hes);have k2:w6.drew.cell? ⟨κ.mB,2,none⟩=some (.slice ya σ.Q.length yc):=M7.out.cl 2 _ rfl;have K2:=ZU k2;clear k2 r7 n7 f7 m7 s7;refine ZX (S:=fun W=>W.cell? ⟨κ.sB,0,none⟩=some (.pointer (some ⟨κ.mB,0,none⟩))∧W.cell? ⟨b5,3,none⟩=some (.int .i64 (Y:Int))∧W.cell? ⟨b5,4,none⟩=some (.slice xa es.length xc)) (by kernel_rfl) ⟨S7.out.cl 0 _ rfl,Q7.out.pr.cl 3 _ rfl,Q7.out.pr.cl 4 _ rfl⟩ (fun Z9=>?_);generalize w6.drew=w7 at *
    iterate 11 (refine Zf ?_ (by kernel_rfl) (fun _=>id) Z9 ?_ ?_;rotate_left;· intro w9 ZQ;obtain ⟨k0,k1,k2⟩:=ZQ;go_simp;try with_reducible rfl)
    refine Yp 12 ?v29 rfl (by kernel_rfl) (fun _=>id) Z9 ?hy29 ?_
    case hy29=>intro w9 ZQ;obtain ⟨k0,k1,k2⟩:=ZQ;go_simp;try with_reducible rfl
    refine Yp 13 ?v30 rfl (by kernel_rfl) (fun _=>id) Z9 ?vu ?_
    case vu=>intro w9 ZQ;obtain ⟨k0,k1,k2⟩:=ZQ;go_simp;try with_reducible rfl
    refine Yp 15 ?v31 rfl (by kernel_rfl) (fun _=>id) Z9 ?hy31 ?_
    case hy31=>intro w9 ZQ;obtain ⟨k0,k1,k2⟩:=ZQ;go_simp;try with_reducible rfl
    refine Yp 16 ?v32 rfl (by kernel_rfl) (fun _=>id) Z9 ?hy32 ?_
    case hy32=>intro w9 ZQ;obtain ⟨k0,k1,k2⟩:=ZQ;go_simp;try with_reducible rfl
    refine Yp 17 ?v33 rfl (by kernel_rfl) (fun _=>id) Z9 ?vh ?_
    case vh=>intro w9 ZQ;obtain ⟨k0,k1,k2⟩:=ZQ;go_simp;try with_reducible rfl
    refine YS 11 rfl (by kernel_rfl) (fun K hK=>?_);have k2:=K2.out;go_simp;refine hK.out _ _ Z9 (fun YA=>?_);clear hK K k2 YA;refine YS 14 rfl (by kernel_rfl) (fun K hK=>?_);go_simp;refine jS.out.mono ?_;rintro e w8 ⟨v8,rfl,o8,X⟩;have hs7:=S7.out.lt;have Z5:=Q7.out.pr.lt;have XO:=M7.out.lt;obtain ⟨ra,rc,rfl⟩:=XU.QU o8;refine hK.out _ _ ⟨(X.cell (p:=⟨κ.sB,0,none⟩) hs7).trans Z9.1,(X.cell (p:=⟨b5,3,none⟩) Z5).trans Z9.2.1,(X.cell (p:=⟨b5,4,none⟩) Z5).trans Z9.2.2⟩ (fun YA=>?_);have Zb:w8.cell? ⟨κ.sB,0,none⟩=some (.pointer (some ⟨κ.mB,0,none⟩))∧w8.cell? ⟨b5,3,none⟩=some (.int .i64 (Y:Int))∧w8.cell? ⟨b5,4,none⟩=some (.slice xa es.length xc):=⟨(X.cell (p:=⟨κ.sB,0,none⟩) hs7).trans Z9.1,(X.cell (p:=⟨b5,3,none⟩) Z5).trans Z9.2.1,(X.cell (p:=⟨b5,4,none⟩) Z5).trans Z9.2.2⟩;have Z8:Pp κ (.slice ra (PO σ.Q (Y:Int) es).length rc):=V7.out.far (fun q hq=>(ZT o8 q hq).1);have V8:=V7.out.below X;obtain ⟨V9,G9⟩:=V8.nf (z:=Y) (XU.rd o8) (XU.qe o8) Z8;have V9:=ZU V9;have Q9:=ZU ((Q7.out.gs (Gs.YZ X)).gs G9);have G9:=ZU ((G7.out.trans (Gs.YZ X)).trans G9);have M8:=M7.out.below X;have S8:=S7.out.below X;have S9:=(S8.other (c:=κ.mB) (j:=2) (x:=.slice ra (PO σ.Q (Y:Int) es).length rc) HV.out.ne.1).other (c:=κ.mB) (j:=3) (x:=.int .i64 (Y:Int)) HV.out.ne.1;have k3:=M8.cl 2 _ rfl;have k4:=M8.cl 3 _ rfl;have f2:=M8.fz 2;have f3:=M8.fz 3;clear hK K YA Z9 jS o8 X V7 G7 Q7 M7 S7 K2 V8 Z8;have Z9:=Zb;clear Zb
    iterate 3 (refine Zf ?_ (by kernel_rfl) (fun _=>id) Z9 ?_ ?_;rotate_left;· intro w9 ZQ;obtain ⟨k0,k1,k2⟩:=ZQ;go_simp;try with_reducible rfl)
    refine YS 21 rfl (by kernel_rfl) (fun K hK=>?_);go_simp;refine hK.out _ _ ⟨S9.cl 0 _ rfl,Q9.out.pr.cl 3 _ rfl,Q9.out.pr.cl 4 _ rfl⟩ (fun YA=>?_);clear hK K YA Z9 k3 k4 f2 f3 M8 S8 S9;refine ZR (by kernel_rfl) ?_ _
    try simp only [Act.put,WV,WU,WT]
    generalize (w8.setCell _ _).setCell _ _=w9 at *;have b10:=below_drewN' w9 1;have m:Hid (Sv κ { σ with Q:=PO σ.Q (Y:Int) es,zq:=Y,fs:=σ.fs++[F],ql:=σ.ql+F.length } w9.drew):=V9.out.below b10;have M:Hid (Gs κ w w9.drew):=G9.out.trans (Gs.YZ b10);have J:Hid (lp κ w.heap.size (.slice oa os.length oc) vn ve (.slice xa es.length xc) os pa ⟨0,i,(Y:Int),NL,es⟩ b5 w9.drew):=Q9.out.gs (Gs.YZ b10);clear V9 G9 Q9 b10
    go_wp2_with fail
    refine ZX (S:=fun W=>W.cell? ⟨b5,3,none⟩=some (.int .i64 (Y:Int))∧W.cell? ⟨b5,2,none⟩=some ve∧W.cell? ⟨w.heap.size,1,none⟩=some (.slice oa os.length oc)) (by kernel_rfl) ⟨J.out.pr.cl 3 _ rfl,J.out.pr.cl 2 _ rfl,J.out.ln.cl 1 _ rfl⟩ (fun Z9=>?_);generalize w9.drew=I9 at *
    iterate 3 (refine Zf ?_ (by kernel_rfl) (fun _=>id) Z9 ?_ ?_;rotate_left;· intro w9 ZQ;obtain ⟨k0,k1,k2⟩:=ZQ;go_simp;try with_reducible rfl)
    refine Yp 5 ?v40 rfl (by kernel_rfl) (fun _=>id) Z9 ?Y' ?_
    case Y'=>intro w9 ZQ;obtain ⟨k0,k1,k2⟩:=ZQ;go_simp;try with_reducible rfl
    refine Yp 6 ?v41 rfl (by kernel_rfl) (fun _=>id) Z9 ?Y9 ?_
    case Y9=>intro w9 ZQ;obtain ⟨k0,k1,k2⟩:=ZQ;go_simp;try with_reducible rfl
    refine Yp 7 ?v42 rfl (by kernel_rfl) (fun _=>id) Z9 ?Y8 ?_
    case Y8=>intro w9 ZQ;obtain ⟨k0,k1,k2⟩:=ZQ;go_simp;try with_reducible rfl
    refine Yp 8 ?v43 rfl (by kernel_rfl) (fun _=>id) Z9 ?Y2 ?_
    case Y2=>intro w9 ZQ;obtain ⟨k0,k1,k2⟩:=ZQ;go_simp;try with_reducible rfl
    refine Yp 9 ?v44 rfl (by kernel_rfl) (fun _=>id) Z9 ?Y1 ?_
    case Y1=>intro w9 ZQ;obtain ⟨k0,k1,k2⟩:=ZQ;go_simp;try with_reducible rfl
    refine YS 3 rfl (by kernel_rfl) (fun K hK=>?_);go_simp;have TT:=ZU (Pk I9 ⟨#[113,117,101,117,101,100]⟩ Y (by decide) (by omega) (htab _ M.out.gw));have ba:Zi I9 (I9.alloc (.cells #[.int .i64 (Y:Int)] 2)):=Yy.alloc YR _;have Z2:=J.out.pr.lt;have Y0:=J.out.ln.lt;have hH1:∀W,Zi I9 W→W.cell? ⟨b5,3,none⟩=some (.int .i64 (Y:Int))∧W.cell? ⟨b5,2,none⟩=some ve∧W.cell? ⟨w.heap.size,1,none⟩=some (.slice oa os.length oc):=fun W hW=>⟨(hW.cell (p:=⟨b5,3,none⟩) Z2).trans Z9.1,(hW.cell (p:=⟨b5,2,none⟩) Z2).trans Z9.2.1,(hW.cell (p:=⟨w.heap.size,1,none⟩) Y0).trans Z9.2.2⟩
    refine hK.out _ _ (hH1 _ ba) (fun YA=>?_);clear hK K YA Z9 ba;refine YS 4 rfl (by kernel_rfl) (fun K hK=>?_);have CJ:=ZU hH1;clear hH1;go_simp;refine TT.out.mono ?_;rintro e fF ⟨rfl,b11⟩;refine hK.out _ _ (CJ.out _ b11) (fun YA=>?_);have Z9:=CJ.out _ b11;have YG:=ZU (qW ⟨#[113,117,101,117,101,100]⟩ Y (by decide) (by omega));have SN:=ZU (EZ fF _ ve os (J.out.op.below b11) hseq hol);have B11:=ZU b11;clear hK K YA TT b11;refine YS 10 rfl (by kernel_rfl) (fun K hK=>?_);go_simp;refine SN.out.mono ?_;rintro e tx ⟨rfl,b12⟩;have R:=ZU (WD B11.out b12);refine hK.out _ _ (CJ.out _ R.out) (fun YA=>?_);clear Z9;have Z9:=CJ.out _ R.out;clear hK K YA SN b12 B11 CJ;refine Zf (.string (strOfNums (VS ⟨#[113,117,101,117,101,100]⟩ [Y]))) (by kernel_rfl) (fun _=>id) Z9 ?_ ?_
    · intro w9 ZQ;clear ZQ;go_simp;rw [Z1 (by have:=YG.out;omega),E0]
    refine Zf ?_ (by kernel_rfl) (fun _=>id) Z9 ?_ ?_
    rotate_left
    · intro w9 ZQ;obtain ⟨k0,k1,k2⟩:=ZQ;go_simp;try with_reducible rfl
    refine ZR (by kernel_rfl) ?_ _
    try simp only [Act.put,WV,WU,WT]
    clear Z9
    go_wp2_with fail
    go_ret;have e:CL κ σ ⟨((0:Nat):Int),i,(Y:Int),NL,es⟩=(strOfNums (VS ⟨#[113,117,101,117,101,100]⟩ [Y]),{ σ with Q:=PO σ.Q (Y:Int) es,zq:=Y,fs:=σ.fs++[F],ql:=σ.ql+F.length }):=by
     unfold CL;rw [Z1 (by simp),←Zk.out,←ZF.out,Z1 (by show ¬κ.L*64<((lg+(σ.ql+F.length):Nat):Int);omega)]
     simp
    rw [e];exact ⟨rfl,M.out.trans (Gs.YZ R.out),m.out.below R.out⟩
  have hci:¬(cn:Int)=0:=by omega
  have hcb:((cn:Int) == 0)=false:=by simpa using hci
  have HC:=ZU hc;clear hc him hroom;refine VT (fun K hK=>Tv ?_);have HK:Hid _:=hK;clear hK
  go_wp2_with fail
  refine HK.out _ _ ?_;clear HK K;refine VT (fun K hK=>Tv ?_);have HK:Hid _:=hK;clear hK
  go_wp2_with fail
  have TT:=Pk W ⟨#[101,114,114,111,114]⟩ cn (by decide) (by omega) (htab _ G1.out.gw);refine TT.mono ?_;rintro e w3 ⟨rfl,b3⟩;clear TT
  go_wp2_with fail
  go_ret;have e:CL κ σ ⟨(cn:Int),i,(Y:Int),NL,es⟩=(strOfNums (VS ⟨#[101,114,114,111,114]⟩ [cn]),σ):=by
   unfold CL;rw [Z0 (by simpa using HC.out)]
   simp
  rw [e];exact ⟨rfl,G1.out.trans (Gs.YZ b3),V1.out.below b3⟩
 have BD:Hid (Zi w w1.drew):=BL.out.trans ((below_drewN' w1 1).mono BL.out.size);have LD:Hid (St w1.drew w.heap.size [.int .i64 1,.slice oa os.length oc,.bool false,.string pa,vn]):=LN.out.below (below_drewN' w1 1);refine ZX (S:=fun W=>Zi w W∧St W w.heap.size [.int .i64 1,.slice oa os.length oc,.bool false,.string pa,vn]) (by kernel_rfl) ⟨BD.out,LD.out⟩ (fun Z9=>?_);clear BD LD BL LN;generalize w1.drew=w2 at *
 iterate 18 (refine Zf ?_ (by kernel_rfl) (fun _=>id) Z9 ?_ ?_;rotate_left;· intro w9 ZQ;obtain ⟨kb,kl⟩:=ZQ;have k0:=(kb.cell (p:=⟨κ.sB,0,none⟩) hsb).trans (A1.out.cl 0 _ rfl);have k1:=(kb.cell (p:=⟨κ.mB,2,none⟩) hmb).trans (B1.out.cl 2 _ rfl);have k2:=(kb.cell (p:=⟨κ.mB,3,none⟩) hmb).trans (B1.out.cl 3 _ rfl);have k3:=kl.cl 1 _ rfl;clear kb kl;go_simp;try with_reducible rfl)
 refine Zf (.int .i64 ((σ.zq:Int)+1)) (by kernel_rfl) (fun _=>id) Z9 ?_ ?_
 · intro w9 ZQ;obtain ⟨kb,kl⟩:=ZQ;have k0:=(kb.cell (p:=⟨κ.sB,0,none⟩) hsb).trans (A1.out.cl 0 _ rfl);have k1:=(kb.cell (p:=⟨κ.mB,2,none⟩) hmb).trans (B1.out.cl 2 _ rfl);have k2:=(kb.cell (p:=⟨κ.mB,3,none⟩) hmb).trans (B1.out.cl 3 _ rfl);have k3:=kl.cl 1 _ rfl;clear kb kl;go_simp;rw [Zq];omega
 refine QG 19 20 rfl rfl (by kernel_rfl) (fun K hK=>?_) (fun K hK=>?_)
 · go_simp
   refine (lB.out _ Z9.1).mono ?_;rintro e w4 ⟨ve,vx,rfl,o1,o2,h4⟩;obtain ⟨xa,xc,rfl⟩:=UM.QU o2;obtain ⟨na,nl,nc,rfl⟩:∃a l c,ve=.slice a l c:=by rcases o1.2 with ⟨rfl,-⟩ | ⟨g,cap,cur,rfl,-⟩ <;> exact ⟨_,_,_,rfl⟩
   have Jf:Zi w w4∧St w4 w.heap.size [.int .i64 1,.slice oa os.length oc,.bool false,.string pa,vn]:=⟨Z9.1.trans (h4.mono Z9.1.size),Z9.2.below h4⟩;refine hK.out _ _ Jf (fun YA=>?_);have RE:=ZU (UM.rd o2);have XF:Hid (∀q,(Value.slice xa A.es.length xc).ownBlock=some q→w.heap.size≤q):=fun q hq=>by have:=(ZT o2 q hq).1;have:=Z9.1.size;omega
   clear hK K Z9 YA o1 o2 h4;refine YS 20 rfl (by kernel_rfl) (fun K hK=>?_);go_simp;have bA:Zi w4 (w4.alloc (.cells #[.int .i64 0,.int .i64 0,.slice none 0 0,.int .i64 0,.slice none 0 0] 194)):=Yy.alloc YR _;have yz:Zi w (w4.alloc (.cells #[.int .i64 0,.int .i64 0,.slice none 0 0,.int .i64 0,.slice none 0 0] 194))∧St (w4.alloc (.cells #[.int .i64 0,.int .i64 0,.slice none 0 0,.int .i64 0,.slice none 0 0] 194)) w.heap.size [.int .i64 1,.slice oa os.length oc,.bool false,.string pa,vn]:=⟨Jf.1.trans (bA.mono Jf.1.size),Jf.2.below bA⟩;refine hK.out _ _ yz (fun YA=>?_);clear hK K YA;refine YS 21 rfl (by kernel_rfl) (fun K hK=>?_);have hzz:=Jf.2.lt;have hne:w4.heap.size≠w.heap.size:=by omega
   have X5:=St.new w4 #[.int .i64 0,.int .i64 0,.slice none 0 0,.int .i64 0,.slice none 0 0] 194;have t0:=X5.cl 0 _ rfl;have t1:=X5.cl 1 _ rfl;have t2:=X5.cl 2 _ rfl;have t3:=X5.cl 3 _ rfl;have t4:=X5.cl 4 _ rfl;have f0:=X5.fz 0;have f1:=X5.fz 1;have f2:=X5.fz 2;have f3:=X5.fz 3;have f4:=X5.fz 4;have X6:=ZU (St.new w4 #[.int .i64 A.c,.int .i64 A.i,.slice na nl nc,.int .i64 A.z,.slice xa A.es.length xc] 194);have b6:Hid (Zi w4 (w4.alloc (.cells #[.int .i64 A.c,.int .i64 A.i,.slice na nl nc,.int .i64 A.z,.slice xa A.es.length xc] 194))):=Yy.alloc YR _;clear X5 bA;go_simp;refine hK.out _ _ ⟨Jf.1.trans (b6.out.mono Jf.1.size),Jf.2.below b6.out⟩ (fun YA=>?_);clear hK K YA t0 t1 t2 t3 t4 f0 f1 f2 f3 f4;refine ZR (by kernel_rfl) ?_ _
   try simp only [Act.put,WV,WU,WT]
   exact ⟨w4.heap.size,_,_,_,_,_,_,_,_,_,_,_,_,_,_,_,_,_,_,_,_,_,_,rfl,Jf.1.trans (b6.out.mono Jf.1.size),Jf.2.below b6.out,X6.out,hzz,RE.out.below b6.out,XF.out⟩
 · go_simp
   have bA:Zi w2 (w2.alloc (.cells #[.int .i64 0,.int .i64 0,.slice none 0 0,.int .i64 0,.slice none 0 0] 194)):=Yy.alloc YR _;have yz:Zi w (w2.alloc (.cells #[.int .i64 0,.int .i64 0,.slice none 0 0,.int .i64 0,.slice none 0 0] 194))∧St (w2.alloc (.cells #[.int .i64 0,.int .i64 0,.slice none 0 0,.int .i64 0,.slice none 0 0] 194)) w.heap.size [.int .i64 1,.slice oa os.length oc,.bool false,.string pa,vn]:=⟨Z9.1.trans (bA.mono Z9.1.size),Z9.2.below bA⟩;have X5:=ZU (St.new w2 #[.int .i64 0,.int .i64 0,.slice none 0 0,.int .i64 0,.slice none 0 0] 194);have hzz:=Z9.2.lt;refine hK.out _ _ yz (fun YA=>?_);clear hK K YA Z9 bA;generalize hb5:w2.heap.size=b5 at *;have Ng:b5<(w2.alloc (.cells #[.int .i64 0,.int .i64 0,.slice none 0 0,.int .i64 0,.slice none 0 0] 194)).heap.size:=by simp [hb5]
   generalize w2.alloc _=w3 at *;refine YS 19 rfl (by kernel_rfl) (fun K hK=>?_);go_simp;refine (lB.out _ yz.1).mono ?_;rintro e w4 ⟨ve,vx,rfl,o1,o2,h4⟩;obtain ⟨xa,xc,rfl⟩:=UM.QU o2;obtain ⟨na,nl,nc,rfl⟩:∃a l c,ve=.slice a l c:=by rcases o1.2 with ⟨rfl,-⟩ | ⟨g,cap,cur,rfl,-⟩ <;> exact ⟨_,_,_,rfl⟩
   have Jf:Zi w w4∧St w4 w.heap.size [.int .i64 1,.slice oa os.length oc,.bool false,.string pa,vn]:=⟨yz.1.trans (h4.mono yz.1.size),yz.2.below h4⟩;refine hK.out _ _ Jf (fun YA=>?_);have Y5:=X5.out.below h4;have XF:Hid (∀q,(Value.slice xa A.es.length xc).ownBlock=some q→w.heap.size≤q):=fun q hq=>by have:=(ZT o2 q hq).1;have:=yz.1.size;omega
   have hxe:(Value.slice xa A.es.length xc).ownBlock=none∨(Value.slice xa A.es.length xc).ownBlock≠some b5:=.inr (fun e=>by have:=(ZT o2 _ e).1;omega);have RE:=ZU (Zn (Zn (Zn (Zn (Zn o2 (grownBy_set _ _ b5 0 (.int .i64 A.c) (Zz _ _)) hxe) (grownBy_set _ _ b5 1 (.int .i64 A.i) (Zz _ _)) hxe) (grownBy_set _ _ b5 2 (.slice na nl nc) (Zz _ _)) hxe) (grownBy_set _ _ b5 3 (.int .i64 A.z) (Zz _ _)) hxe) (grownBy_set _ _ b5 4 (.slice xa A.es.length xc) (Zz _ _)) hxe);clear hK K YA o1 o2 h4 hxe yz X5;refine YS 21 rfl (by kernel_rfl) (fun K hK=>?_);have t0:=Y5.cl 0 _ rfl;have t1:=Y5.cl 1 _ rfl;have t2:=Y5.cl 2 _ rfl;have t3:=Y5.cl 3 _ rfl;have t4:=Y5.cl 4 _ rfl;have f0:=Y5.fz 0;have f1:=Y5.fz 1;have f2:=Y5.fz 2;have f3:=Y5.fz 3;have f4:=Y5.fz 4;have X6:=ZU (((((Y5.set 0 (.int .i64 A.c)).set 1 (.int .i64 A.i)).set 2 (.slice na nl nc)).set 3 (.int .i64 A.z)).set 4 (.slice xa A.es.length xc));have b6:Hid (Zi w (((((w4.setCell ⟨b5,0,none⟩ (.int .i64 A.c)).setCell ⟨b5,1,none⟩ (.int .i64 A.i)).setCell ⟨b5,2,none⟩ (.slice na nl nc)).setCell ⟨b5,3,none⟩ (.int .i64 A.z)).setCell ⟨b5,4,none⟩ (.slice xa A.es.length xc))):=by
    show Below _ _ _
    iterate 5 refine Below.setCell ?_ (Nat.le_of_lt hzz) _
    exact Jf.1
   have hne:w.heap.size≠b5:=by omega
   have l6:=ZU (((((Jf.2.other (c:=b5) (j:=0) (x:=.int .i64 A.c) hne).other (c:=b5) (j:=1) (x:=.int .i64 A.i) hne).other (c:=b5) (j:=2) (x:=.slice na nl nc) hne).other (c:=b5) (j:=3) (x:=.int .i64 A.z) hne).other (c:=b5) (j:=4) (x:=.slice xa A.es.length xc) hne);clear Y5;go_simp;refine hK.out _ _ ⟨b6.out,l6.out⟩ (fun YA=>?_);clear hK K YA t0 t1 t2 t3 t4 f0 f1 f2 f3 f4;refine ZR (by kernel_rfl) ?_ _
   try simp only [Act.put,WV,WU,WT]
   exact ⟨b5,_,_,_,_,_,_,_,_,_,_,_,_,_,_,_,_,_,_,_,_,_,_,rfl,b6.out,l6.out,X6.out,hzz,UM.rd RE.out,XF.out⟩
 end Go.Proofs.YtpmjnbmkippaiaaGreatDoor
namespace Go.Proofs.YtpmjnbmkippaiaaGreatDoor
open Go.RowKit Go.Conc
theorem MA {w:World} {v:Value} {ns:List Nd} {pB:Nat} {z o:Nat} (h:SK w v ns) (hn:ns≠[]) (hb:w.heap[pB]?=some (.cells #[.int .i64 (z:Int),.int .i64 (o:Int),.string ⟨#[]⟩,.slice none 0 0] 186 (0,0))):∀q,v.ownBlock=some q→q≠pB:=by
 obtain ⟨ao,cp,rfl,h1,h2,h3⟩:=h;obtain ⟨b,off,rfl,hlt,hcl⟩:=h3.resolve_left hn;rintro q hq rfl
 simp only [Value.ownBlock,ZK] at hq
 subst hq;have h9:=hcl 0 (List.length_pos_iff.2 hn);have c0:=h9.c0;have c1:=h9.c1;rw [cell_of hb] at c0 c1
 simp only [Xg,Yj] at c0 c1
 match off,c0,c1 with
 | 0,c0,_=>simp at c0
 | 1,c0,_=>simp at c0
 | 2,_,c1=>simp at c1
 | 3,c0,_=>simp at c0
 | k+4,c0,_=>simp at c0
theorem I2 {w:World} {lo pB:Nat} {v:Value} {xs:List Int} {cs:Array Value} (h:Own .u8 5 w lo v xs) (hb:w.heap[pB]?=some (.cells cs 186 (0,0))):v.ownBlock≠some pB:=by
 rcases h.2 with ⟨rfl,-⟩ | ⟨g,cap,cur,rfl,-,hg,-⟩
 · simp [Value.ownBlock]
 intro e
 simp only [Value.ownBlock,ZK] at e
 subst e;rw [hg] at hb
 injection hb with hb
 injection hb with _ h2
 exact absurd h2 (by decide)
theorem UJ.apart {w:World} {pB:Nat} {v:Value} {xs:List Int} {cs:Array Value} (h:UJ w v xs) (hb:w.heap[pB]?=some (.cells cs 186 (0,0))):v.ownBlock≠some pB:=by
 obtain ⟨g,lo,cp,pre,rfl,h2,h3⟩:=h;have h9:=I2 h3 hb
 simp only [Value.ownBlock] at h9 ⊢
 exact h9
theorem Sv.qV {κ:Sc} {σ:Sx} {w w':World} {pB z o:Nat} (h:Sv κ σ w) (hsn:σ.sn=some (pB,z,o)) (hem:σ.em=false) (hT:σ.T≠[]) (hQ:σ.Q≠[]) (hfs:σ.fs=[]) (hg:w.grownBy w' (some pB)):Sv κ { σ with em:=true } w'∧Gw κ w w':=by
 obtain ⟨vd,made,YN,a1,a2,a3,a4,a5⟩:=h.dk;obtain ⟨vt,vq,cp,b1,b2,b3,b4,b5,b6,b7,b8⟩:=h.mm;obtain ⟨Lv,s,r,c1,c2,c3⟩:=h.ch;obtain ⟨p1,p2,p3,p4,p5,p6⟩:=h.sn _ hsn;have hb:=p1.2 hem;have hs:=hg.size;have hbl:∀q,q<w.heap.size→q≠pB→w'.heap[q]?=w.heap[q]?:=fun q hq hn=>hg.block q hq (fun e=>hn (by injection e))
 have hL:Lv=[]:=Zg (by rw [c2.1,hfs];rfl);subst hL;obtain ⟨l1,l2,l3,l4⟩:=h.jU;refine ⟨⟨h.ne,fun x hx=>⟨ZY (h.fx x hx).1 hs,(h.fx x hx).2⟩,⟨vd,made,YN,Wo a1 hs (hbl _ l1 (Nat.ne_of_lt p2)),Zn a2 hg (.inr (I2 a2 hb)),a3,a4,a5⟩,⟨vt,vq,cp,Wo b1 hs (hbl _ l2 (Ne.symm p3)),VM b2 hs (fun q hq hl=>hbl q hl (MA b2 hT hb q hq)),VM b3 hs (fun q hq hl=>hbl q hl (MA b3 hQ hb q hq)),b4,b5,b6,UJ.kept b7 hg (.inr (UJ.apart b7 hb)),b8⟩,⟨[],s,r,(hbl _ l3 (Ne.symm p4)).trans c1,⟨c2.1,fun i hi=>absurd hi (by simp)⟩,c3⟩,fun p hp=>?_,h.pw.keep (fun g hl _ _ _ _ _ e=>hbl g hl (fun e9=>by rw [e9,hb] at e;simp at e))⟩,⟨hg.os,hg.tape,hg.output,hs,fun q hq _ _ _ _ e _=>hbl q hq (fun e9=>?_)⟩⟩
 · rw [hsn] at hp
   cases hp
   exact ⟨⟨ZY p1.1 hs,fun e=>by cases e⟩,p2,p3,p4,p5,p6⟩
 subst e9;exact e p2 (by rw [cell_of hb];rfl)
theorem Sv.m9 {κ:Sc} {σ:Sx} {w:World} (h:Sv κ σ w):Sv κ { σ with sn:=none } (w.setCell ⟨κ.mB,12,none⟩ (.pointer none))∧Gs κ w (w.setCell ⟨κ.mB,12,none⟩ (.pointer none)):=by
 have hne:=h.ne;obtain ⟨vd,made,YN,a1,a2,a3,a4,a5⟩:=h.dk;obtain ⟨vt,vq,cp,b1,b2,b3,b4,b5,b6,b7,b8⟩:=h.mm;obtain ⟨Lv,s,r,c1,c2,c3⟩:=h.ch;have hs:w.heap.size≤(w.setCell ⟨κ.mB,12,none⟩ (.pointer none)).heap.size:=by simp
 have hbl:∀q,q≠κ.mB→(w.setCell ⟨κ.mB,12,none⟩ (.pointer none)).heap[q]?=w.heap[q]?:=fun q hn=>Below.heap_setCell w ⟨κ.mB,12,none⟩ _ q hn
 have G:Gs κ w (w.setCell ⟨κ.mB,12,none⟩ (.pointer none)):=⟨rfl,rfl,rfl,hs,fun q hq _ h2 _ _=>hbl q h2⟩;refine ⟨⟨hne,fun x hx=>⟨ZY (h.fx x hx).1 hs,(h.fx x hx).2⟩,⟨vd,made,YN,Wo a1 hs (hbl _ hne.1),a2.setAt (.inr (fun e=>(a5 _ e).2.1 rfl)),a3,a4,a5⟩,⟨vt,vq,cp,b1.set 12 _,VM b2 hs (fun q hq _=>hbl q (b5 q hq).2.1),VM b3 hs (fun q hq _=>hbl q (b6 q hq).2.1),b4,b5,b6,b7.setAt (.inr (by simp [Value.ownBlock];exact fun e=>hne.2.2.2.2.1 e.symm)),b8⟩,⟨Lv,s,r,(hbl _ hne.2.2.2.1.symm).trans c1,⟨c2.1,fun i hi=>⟨Ri (c2.2 i hi).1 hs (fun q hq _=>hbl q (c3 i hi q hq).2.1),(c2.2 i hi).2⟩⟩,c3⟩,(fun p hp=>by cases hp),h.pw.keep (fun g _ _ h2 _ _ _ _=>hbl g h2)⟩,G⟩
theorem Sv.m6 {κ:Sc} {σ:Sx} {w:World} {cp:Nat} {g b s l r:Int} (o:Nat) (h:Sv κ σ w) (ho:σ.off+o≤σ.full.length) (hcp:∀vt vq cp',St w κ.mB (yB κ σ vt vq cp')→cp'=cp) :
    Sv κ { σ with g:=g,b:=b,s:=s,l:=l,r:=r,off:=σ.off+o,sn:=none } (((((((w.setCell ⟨κ.mB,6,none⟩ (.int .i64 g)).setCell ⟨κ.mB,7,none⟩ (.int .i64 b)).setCell ⟨κ.mB,8,none⟩ (.int .i64 s)).setCell ⟨κ.mB,9,none⟩ (.int .i64 l)).setCell ⟨κ.mB,10,none⟩ (.int .i64 r)).setCell ⟨κ.mB,11,none⟩ (.slice (some ⟨κ.lb,κ.lo+(if σ.off+o=cp then 0 else σ.off+o),none⟩) (σ.full.length - (σ.off+o)) (cp - (σ.off+o)))).setCell ⟨κ.mB,12,none⟩ (.pointer none)) ∧
    Gs κ w (((((((w.setCell ⟨κ.mB,6,none⟩ (.int .i64 g)).setCell ⟨κ.mB,7,none⟩ (.int .i64 b)).setCell ⟨κ.mB,8,none⟩ (.int .i64 s)).setCell ⟨κ.mB,9,none⟩ (.int .i64 l)).setCell ⟨κ.mB,10,none⟩ (.int .i64 r)).setCell ⟨κ.mB,11,none⟩ (.slice (some ⟨κ.lb,κ.lo+(if σ.off+o=cp then 0 else σ.off+o),none⟩) (σ.full.length - (σ.off+o)) (cp - (σ.off+o)))).setCell ⟨κ.mB,12,none⟩ (.pointer none)):=by
 have hne:=h.ne;obtain ⟨vd,made,YN,a1,a2,a3,a4,a5⟩:=h.dk;obtain ⟨vt,vq,cp',b1,b2,b3,b4,b5,b6,b7,b8⟩:=h.mm;obtain ⟨Lv,s',r',c1,c2,c3⟩:=h.ch;obtain rfl:=hcp _ _ _ b1;have b9:=(((((((b1.set 6 (.int .i64 g)).set 7 (.int .i64 b)).set 8 (.int .i64 s)).set 9 (.int .i64 l)).set 10 (.int .i64 r)).set 11 (.slice (some ⟨κ.lb,κ.lo+(if σ.off+o=cp' then 0 else σ.off+o),none⟩) (σ.full.length - (σ.off+o)) (cp' - (σ.off+o)))).set 12 (.pointer none));have hg:=grownBy_set _ _ κ.mB 12 (.pointer none) (grownBy_set _ _ κ.mB 11 (.slice (some ⟨κ.lb,κ.lo+(if σ.off+o=cp' then 0 else σ.off+o),none⟩) (σ.full.length - (σ.off+o)) (cp' - (σ.off+o))) (grownBy_set _ _ κ.mB 10 (.int .i64 r) (grownBy_set _ _ κ.mB 9 (.int .i64 l) (grownBy_set _ _ κ.mB 8 (.int .i64 s) (grownBy_set _ _ κ.mB 7 (.int .i64 b) (grownBy_set _ _ κ.mB 6 (.int .i64 g) (Zz w (some κ.mB))))))));generalize (((((((w.setCell _ _).setCell _ _).setCell _ _).setCell _ _).setCell _ _).setCell _ _).setCell _ _)=w' at *;have hs:=hg.size;obtain ⟨l1,l2,l3,l4⟩:=h.jU;have hbl:∀q,q<w.heap.size→q≠κ.mB→w'.heap[q]?=w.heap[q]?:=fun q hq hn=>hg.block q hq (fun e=>hn (by injection e))
 exact ⟨⟨hne,fun x hx=>⟨ZY (h.fx x hx).1 hs,(h.fx x hx).2⟩,⟨vd,made,YN,Wo a1 hs (hbl _ l1 hne.1),Zn a2 hg (.inr (fun e=>(a5 _ e).2.1 rfl)),a3,a4,a5⟩,⟨vt,vq,cp',b9,VM b2 hs (fun q hq hl=>hbl q hl (b5 q hq).2.1),VM b3 hs (fun q hq hl=>hbl q hl (b6 q hq).2.1),b4,b5,b6,UJ.kept b7 hg (.inr (by simp [Value.ownBlock];exact fun e=>hne.2.2.2.2.1 e.symm)),b8⟩,⟨Lv,s',r',(hbl _ l3 hne.2.2.2.1.symm).trans c1,⟨c2.1,fun i hi=>⟨Ri (c2.2 i hi).1 hs (fun q hq hl=>hbl q hl (c3 i hi q hq).2.1),(c2.2 i hi).2⟩⟩,c3⟩,(fun p hp=>by cases hp),h.pw.keep (fun g hl _ h2 _ _ _ _=>hbl g hl h2)⟩,Gs.Jb hg (.inr (.inl rfl))⟩
end Go.Proofs.YtpmjnbmkippaiaaGreatDoor
namespace Go.Proofs.YtpmjnbmkippaiaaGreatDoor
open Go.RowKit Go.Shelf
theorem zi (w:World) (sB:Nat) (P vd vp x5 x6 x7:Value) (S L:Int) (h:St w sB [P,.int .i64 S,.int .i64 L,vd,vp,x5,x6,x7]) :
    Calls Tryz.prog 17 #[.pointer (some ⟨sB,0,none⟩),.int .i64 (-1),.slice none 0 0] w fun e w'=>e=.returned (.tuple #[])∧St w' sB (Ia P S L vd vp 0)∧w.grownBy w' (some sB):=by
 have S1:=h.set 5 (.int .i64 (-1));have S2:=S1.set 6 (.int .i64 0);have S3:=S2.set 7 (.slice none 0 0);have c5:=h.cl 5 _ rfl;have f5:=h.fz 5;have c6:=S1.cl 6 _ rfl;have f6:=S1.fz 6;have c7:=S2.cl 7 _ rfl;have f7:=S2.fz 7;have FIN:=ZU (And.intro S3 (grownBy_set w _ sB 7 (.slice none 0 0) (grownBy_set w _ sB 6 (.int .i64 0) (grownBy_set w w sB 5 (.int .i64 (-1)) (Zz _ _)))));clear S1 S2 S3 h
 go_enter Tryz.func17,Tryz.ntmps17
 go_wp2_with fail
 exact ⟨rfl,_,by kernel_rfl,rfl,FIN.out⟩
theorem CI (w:World) (g:Nat) (hg:g≤1000000):Calls Tryz.prog 52 #[.int .i64 (g:Int)] w fun e w'=>e=.returned (.int .i64 ((g % 2:Nat):Int))∧w'=w:=by
 go_enter Tryz.func52,Tryz.ntmps52
 go_wp2;go_ret;exact ⟨by first | rfl | (simp;done) | (congr 2;omega),rfl⟩
def Rp (w:World) (B:Nat) (p d:ByteArray) (a b c e f:Int):Prop :=
 w.heap[B]?=some (.cells #[.string p,.string d,.int .i64 a,.int .i64 b,.int .i64 c,.int .i64 e,.int .i64 f] 147 (0,0))
theorem Rp.lt {w:World} {B:Nat} {p d:ByteArray} {a b c e f:Int} (h:Rp w B p d a b c e f):B<w.heap.size:=(Z3.1 h).1
def Vq:ByteArray:=⟨#[47]⟩
def empty:ByteArray:=⟨#[]⟩
theorem LP (w:World):Calls Tryz.prog 47 #[] w fun e w'=>e=.returned (.agg #[.slice (some ⟨w.heap.size+1,0,none⟩) 1 1])∧Rp w' (w.heap.size+1) Vq empty 0 0 0 0 0∧Zi w w':=by
 go_enter Tryz.func47,Tryz.ntmps47
 go_wp2;refine ZW (v:=.agg #[.slice (some ⟨w.heap.size+1,0,none⟩) 1 1]) (by simp [results,Tryz.results47,go_sem]) rfl ⟨rfl,?_,(Yy.alloc YR _).alloc (by simp) _⟩;have:=Zs (w.alloc (.cells #[.slice (some ⟨w.heap.size+1,0,none⟩) 1 1] 63)) (.cells #[.string Vq,.string empty,.int .i64 0,.int .i64 0,.int .i64 0,.int .i64 0,.int .i64 0] 147);rw [YF] at this;exact this
def m1:ByteArray:=⟨#[109,49]⟩
def m2:ByteArray:=⟨#[109,50]⟩
theorem Rp.set {w:World} {B:Nat} {cs:Array Value} {t:TypeId} (h:w.heap[B]?=some (.cells cs t (0,0))) (j:Nat) (u:Value):(w.setCell ⟨B,j,none⟩ u).heap[B]?=some (.cells (cs.setIfInBounds j u) t (0,0)):=by
 rw [setCell_eq_setRow w B j cs t (0,0) u h];exact WB w B cs _ t _ h
def Yx:Nd:=⟨Vq,empty,0,0,0,0,0⟩
theorem uY {w:World} {B:Nat} (h:Rp w B Vq empty 0 0 0 0 0):SK w (.slice (some ⟨B,0,none⟩) 1 1) [Yx]:=by
 refine ⟨_,1,rfl,YR,by unfold maxLen;omega,.inr ⟨B,0,rfl,h.lt,fun i hi=>?_⟩⟩;obtain rfl:i=0:=by simp at hi;omega
 have hc:=fun j=>cell_of h j
 refine ⟨?_,?_,?_,?_,?_,?_,?_⟩ <;> simp [hc,Ye,Yx]
theorem qU (i:Nat):(Ye [Yx] i).path.size≤1048576∧(Ye [Yx] i).data.size≤1048576:=by
 cases i with
 | zero=>exact ⟨by decide,by decide⟩
 | succ i=>exact ⟨by simp [Ye,nd0],by simp [Ye,nd0]⟩
theorem Nf:WE [Yx]=true:=by decide +kernel
theorem EV {e:TypeId} {w:World} {base:Nat} {v:Value} {xs:List Int} (h:Own .u8 e w base v xs) (hn:0<xs.length):∃g c,v=.slice (some ⟨g,0,none⟩) xs.length c:=by
 rcases h.2 with ⟨-,h0⟩ | ⟨g,cap,cur,rfl,-⟩
 · omega
 exact ⟨g,cap,rfl⟩
def Bc (w:World) (S L:Int) (W:World):Prop:=Zi w W∧Vg W w.heap.size (.int .i64 S) (.int .i64 L)∧SU W (w.heap.size+1) (.slice none 0 0) (.slice none 0 0)
theorem Bc.below {w:World} {S L:Int} {W W':World} (h:Bc w S L W) (hb:Zi W W'):Bc w S L W':=⟨h.1.trans (hb.mono h.1.size),h.2.1.below hb,h.2.2.below hb⟩
theorem Bc.lt {w:World} {S L:Int} {W:World} (h:Bc w S L W):w.heap.size+2≤W.heap.size:=h.2.2.1.1
theorem Bc.new (w:World) (S L:Int):Bc w S L ((w.alloc (.cells #[.int .i64 S,.int .i64 L] 25)).alloc (.cells #[.slice none 0 0,.slice none 0 0] 52)):=by
 refine ⟨(Yy.alloc YR _).alloc (by simp) _,(Vg.new w _ _ _).below (Yy.alloc YR _),?_⟩;have:=SU.new (w.alloc (.cells #[.int .i64 S,.int .i64 L] 25)) (.slice none 0 0) (.slice none 0 0) 52
 simpa using this
def I0:List Int:=Mg [Yx]
theorem Tu:I0.length=23:=by
 unfold I0 Mg Xn;rw [Z0 Nf]
 simp [Sb,Yx,Vq,empty]
 rfl
theorem uX:Sn I0:=by
 have:I0.all (fun x=>decide (0≤x∧x<256))=true:=by decide +kernel
 intro x hx;have:=Yw.1 this x hx
 simpa using this
def C0:Nat:=4294967295 - NS 4294967295 I0
theorem jR:C0≤4294967295:=Nat.sub_le _ _
def L5:List Int:=sup 1 0 0 23 (C0:Int)
theorem mZ:PC 1 0 0 23 (C0:Int)=true:=by
 have:=jR;unfold PC
 simp
 omega
theorem UI:L5.length=64:=by unfold L5 sup;rw [Z0 mZ];exact Lg _ _ _ _ _
def I1 (n:Nat):List Int:=zeros 64++L5++I0++zeros (n*64 - 151)
def IZ (S L:Int):Nat:=(2+2*(S+L)).toNat
theorem LB (n:Nat) (h:3≤n):(I1 n).length=n*64:=by
 unfold I1;simp only [ZZ,Xl,UI,Tu];omega
theorem Mz {S L:Int} (h:Wp S L=true):2+2*(S+L)=((IZ S L:Nat):Int)∧6≤IZ S L∧IZ S L≤258:=by
 obtain ⟨⟨h1,h2⟩,h3,h4⟩:=(Xk S L).1 h;unfold IZ;omega
theorem uW (n:Nat) (h:3≤n):splice (splice (zeros (n*64)) 128 I0) 64 L5=I1 n:=by
 apply Wn;intro j;have hz:(zeros (n*64)).length=n*64:=Xl _;rw [UN _ _ _ (by rw [length_splice _ _ _ (by rw [hz,Tu];omega),hz,UI];omega),UI,UN _ _ _ (by rw [hz,Tu];omega),Tu];unfold I1
 by_cases h1:j<64
 · rw [Z0 h1,Z0 (show j<128 by omega),ZO,ZO,Zy (by rw [Xl];exact h1)]
   unfold zeros;rw [WZ,WZ,Z0 (show j<n*64 by omega),Z0 h1]
 by_cases h2:j<128
 · rw [Z1 h1,Z0 (show j<64+64 by omega),ZO,ZO,Zv (by rw [Xl];omega),Xl,Zy (by rw [UI];omega)]
 by_cases h3:j<151
 · have e:j - 128=j - 64 - 64:=by omega
   rw [Z1 h1,Z1 (show ¬j<64+64 by omega),Z1 h2,Z0 (show j<128+23 by omega),ZO,ZO,Zv (by rw [Xl];omega),Xl,Zv (by rw [UI];omega),UI,Zy (by rw [Tu];omega),e]
 rw [Z1 h1,Z1 (show ¬j<64+64 by omega),Z1 h2,Z1 (show ¬j<128+23 by omega),ZO,ZO,Zv (by rw [Xl];omega),Xl,Zv (by rw [UI];omega),UI,Zv (by rw [Tu];omega),Tu];unfold zeros;rw [WZ,WZ]
 by_cases h4:j<n*64
 · rw [Z0 h4,Z0 (show j - 64 - 64 - 23<n*64 - 151 by omega)]
 rw [Z1 h4,Z1 (show ¬j - 64 - 64 - 23<n*64 - 151 by omega)]
end Go.Proofs.YtpmjnbmkippaiaaGreatDoor


