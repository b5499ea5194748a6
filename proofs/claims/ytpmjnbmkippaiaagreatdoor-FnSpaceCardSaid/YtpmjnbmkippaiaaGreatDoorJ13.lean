import Derived.Test.YtpmjnbmkippaiaaGreatDoorJ12
import Derived.Lib.ParseIntB
import Derived.Shelf.Strconv.ParseIntPublic10
import Derived.Shelf.GgClosure.StringsRunes
import Derived.Shelf.Strings.Prefix
import Derived.Shelf.Strings.Split
import Derived.Shelf.Slices.Turned
import Derived.Laws.RangeAny
set_option maxRecDepth 100000
set_option maxHeartbeats 16000000
set_option linter.unusedVariables false
set_option linter.unusedSimpArgs false
namespace Go.Proofs.YtpmjnbmkippaiaaGreatDoor
section
open Go.RowKit Go.Conc
variable {m:Int} {L:List ByteArray} {ys:List Int} {ns:List TO} {B i lo lo' n o pB z:Nat} {κ:Sc} {σ:Sx} {e te:TypeId} {c:UInt8} {a b d pe v vE:Value} {W w w' w1:World}
structure Em (κ:Sc) (σ:Sx) (w:World) (pB z o:Nat) (vE:Value) (ys:List Int) (W:World):Prop where
 sv:Sv κ { σ with em:=true } W
 gw:Gw κ w W
 pb:∃x2,St W pB [.int .i64 (z:Int),.int .i64 (o:Int),x2,vE]
 ow:Own .u8 5 W w.heap.size vE ys
theorem Em.below {W':World} (h:Em κ σ w pB z o vE ys W) (hb:Zi W W'):Em κ σ w pB z o vE ys W':=by
 obtain ⟨x2,p⟩:=h.pb;exact ⟨h.sv.below hb,h.gw.trans (Gs.YZ hb).gw,⟨x2,p.below hb⟩,h.ow.below hb⟩
theorem Em.cells (h:Em κ σ w pB z o vE ys W):W.cell? ⟨κ.sB,0,none⟩=some (.pointer (some ⟨κ.mB,0,none⟩))∧W.cell? ⟨κ.sB,1,none⟩=some (.int .i64 κ.S)∧W.cell? ⟨κ.sB,2,none⟩=some (.int .i64 κ.L)∧W.cell? ⟨pB,0,none⟩=some (.int .i64 (z:Int))∧W.cell? ⟨pB,3,none⟩=some vE∧W.cell? ⟨κ.mB,7,none⟩=some (.int .i64 σ.b)∧κ.mB<W.heap.size:=by
 obtain ⟨x2,p⟩:=h.pb;obtain ⟨vd,made,YN,a1,-⟩:=h.sv.dk;obtain ⟨vt,vq,cp,b1,-⟩:=h.sv.mm;exact ⟨a1.cl 0 _ rfl,a1.cl 1 _ rfl,a1.cl 2 _ rfl,p.cl 0 _ rfl,p.cl 3 _ rfl,b1.cl 7 _ rfl,b1.lt⟩
def dU (κ:Sc) (σ:Sx) (w:World) (z o:Nat) (e:Ending) (w':World):Prop :=
 Gw κ w w'∧∃l r,(((Xn σ.T).length:Int)≤κ.S*64∧e=.returned (.string (strOfNums (VS ⟨#[115,101,97,108,101,100]⟩ [z])))∧Sv κ { σ with k:=σ.k+135,g:=2,b:=1,s:=(z:Int),l:=l,r:=r,off:=o,sn:=none,em:=true,pw:=none } w')∨(κ.S*64<((Xn σ.T).length:Int)∧e=.returned (.string ⟨#[115,110,97,112,102,117,108,108]⟩)∧Sv κ { σ with sn:=none,em:=true } w')
theorem uT (κ:Sc) (σ:Sx) (w:World) (h:Sv κ σ w) (pB z o:Nat) (hsn:σ.sn=some (pB,z,o)) (hem:σ.em=false) (hT0:0<σ.T.length) (iB:σ.T.length≤1000) (fC:∀i,i<σ.T.length→Wl (Ye σ.T i)=true) (fB:∀i,i<σ.T.length→0<(Ye σ.T i).path.size) (fA:(Xn σ.T).length≤100000) (hTy:Sn (Xn σ.T)) (hQ:σ.Q≠[]) (hfs:σ.fs=[])
    (hpw : σ.pw = none) (hg : σ.g = 1) (hb : σ.b = 0) (hoff : σ.off = 0) (ho : o ≤ σ.full.length) (hfl : (σ.full.length : Int) ≤ κ.L * 64) (hz : z < 1000000) (hk : σ.k ≤ 1000) (hc : Wp κ.S κ.L = true) (htab : ∀ W, Gw κ w W → PJ W) (G : ∀ W, Gw κ w W → Lib.TabIs Tryz.prog W "internal/strconv.uint64pow10" .u64 Lib.pow10Tab) :
    Calls Tryz.prog 77 #[.pointer (some ⟨κ.sB,0,none⟩),.int .i64 1000] w (dU κ σ w z o):=by
 obtain ⟨⟨hS1,hS2⟩,hL1,hL2⟩:=(Xk κ.S κ.L).1 hc;obtain ⟨vt,vq,cp,b1,b2,-,-,b5,-⟩:=h.mm;obtain ⟨vd,made,YN,a1,-⟩:=h.dk;obtain ⟨p1,p2,p3,p4,p5,p6⟩:=h.sn _ hsn
 replace p2:=Q2 p2
 have hpb:=p1.2 hem;have hap:=MA b2 (List.length_pos_iff.1 hT0) hpb;obtain ⟨ta,tc,rfl,ht1,ht2⟩:=b2.len;obtain ⟨tb,tO,rfl⟩:∃tb tO,ta=some ⟨tb,tO,none⟩:=by
  obtain ⟨ao,fP,e9,-,-,h9⟩:=b2
  simp only [ZC] at e9
  rcases h9 with h9 | ⟨b,off,e8,-⟩
  · rw [h9] at hT0;simp at hT0
  exact ⟨b,off,e9.1.trans e8⟩
 have c0:=a1.cl 0 _ rfl;have m12:=b1.cl 12 _ rfl;rw [hsn] at m12;have m0:=b1.cl 0 _ rfl;have q2:w.cell? ⟨pB,2,none⟩=some (.string ⟨#[]⟩):=cell_of hpb 2;obtain ⟨lo1,lo2⟩:=zl fB;have lP:=ZU (JQ w pB _ σ.T q2 b2 iB lo1 lo2);have HV:=ZU h;have jS:=ZU hap;have O:=ZU hpb;have HB2:=ZU b2;unfold maxLen at ht2;clear a1 b1 b2 b5 hap hpb h
 go_enter Tryz.func77,Tryz.ntmps77
 go_wp2_with fail
 refine lP.out.mono ?_;rintro e w1 ⟨rfl,r1⟩;have R1:=ZU r1;have q3:w1.cell? ⟨pB,3,none⟩=some (.slice none 0 0):=(r1.cell (p:=⟨pB,3,none⟩) p1.lt).trans (cell_of O.out 3);have F:St w1 pB [.int .i64 (z:Int),.int .i64 (o:Int),.string ⟨#[]⟩,.slice none 0 0]:=by
  have e:w1.heap[pB]?=_:=(r1.block _ p1.lt).trans O.out;refine ⟨ZY p1.lt r1.size,fun j=>by simp [World.frozen?,e],fun j v hv=>?_⟩;rw [cell_of e];simpa using hv
 have E:=ZU (vD w1 pB _ _ _ σ.T F (HB2.out.below r1) iB jS.out fC (by show (Xn σ.T).length≤1000000;omega));have hmin:¬(1000:Int)<(σ.T.length:Int):=by omega
 clear lP r1 F c0 m12 m0 q2;have L8:(min (1000:Int) (σ.T.length:Int)).toNat=σ.T.length:=by omega
 go_wp2_with fail
 try rw [L8]
 clear L8 hmin;refine E.out.mono ?_;rintro e w2 ⟨rfl,l2,v2,st2,J,g2⟩;have U:Em κ σ w pB z o v2 (Xn σ.T) w2:=by
  obtain ⟨V2,G2⟩:=(HV.out.below R1.out).qV hsn hem (List.length_pos_iff.1 hT0) hQ hfs g2;exact ⟨V2,(Gs.YZ R1.out).gw.trans G2,⟨_,st2⟩,Own.mono J R1.out.size⟩
 obtain ⟨ea,ec,rfl⟩:=Own.slice J;have U:=ZU U;clear E jS HB2 O st2 J g2 R1 q3;have R:Hid (Em κ σ w pB z o (.slice ea (Xn σ.T).length ec) (Xn σ.T) w2.drew):=U.out.below (below_drewN' w2 1);clear U;obtain ⟨ys,hys⟩:∃y,y=Xn σ.T:=⟨_,rfl⟩;have su:=ZU hys;rw [←hys] at R fA hTy;clear hys;have e7:σ.T.flatMap Vy=ys:=su.out.symm
 try rw [e7]
 clear e7
 go_wp2_with fail
 rename_i KK Ib;obtain ⟨fi,hfi⟩:∃f:Int,f=Ry κ.S κ.L 1 false:=⟨_,rfl⟩;have hfin:0≤fi∧fi≤100000:=by rw [hfi];unfold Ry;simp;omega
 have lm:Hid (∀W,Em κ σ w pB z o (.slice ea ys.length ec) ys W→Calls Tryz.prog 123 #[.pointer (some ⟨κ.sB,0,none⟩)] W (Wj W (.int .i64 1))):=fun W hW=>by
  have k7:=hW.cells.2.2.2.2.2.1;rw [hb] at k7;exact Ot W κ.sB κ.mB 0 (by decide) hW.cells.1 k7
 have tD:Hid (∀W,Calls Tryz.prog 49 #[.agg #[.int .i64 κ.S,.int .i64 κ.L],.int .i64 1] W (Wj W (.agg #[.int .i64 fi,.int .i64 κ.S]))):=fun W=>by
  have h9:=Sr W κ.S κ.L 1 hc (by decide);rw [←hfi] at h9;exact h9
 clear hfi;have REST:Hid (∀(b9:Nat) (u10 u11 u12 u13 u14 u15 u16 u17 u18 u19 u20 u21 u22 u23 u24 u25 u26 u27 u28 u29 u30 u31 u32 u33 u34 u35 u36 u37 u38 u39 u40 u41 u42 u43 u44 u45 u46 u47 u48 u49 u50:Value) (W:World),Em κ σ w pB z o (.slice ea ys.length ec) ys W→W.heap[b9]?=some (.cells #[.int .i64 fi,.int .i64 κ.S] 111 (0,0))→KK { tmps:=#[.pointer (some ⟨κ.sB,0,none⟩),.int .i64 1000,undef,undef,.string ⟨#[]⟩,.pointer (some ⟨pB,0,none⟩),.slice (some ⟨tb,tO,none⟩) σ.T.length tc,.slice (some ⟨tb,tO,none⟩) σ.T.length tc,.int .i64 0,.pointer (some ⟨b9,0,none⟩),u10,u11,u12,u13,u14,u15,u16,u17,u18,u19,u20,u21,u22,u23,u24,u25,u26,u27,u28,u29,u30,u31,u32,u33,u34,u35,u36,u37,u38,u39,u40,u41,u42,u43,u44,u45,u46,u47,u48,u49,u50,undef,undef,undef,undef,undef,undef,undef,undef,undef,undef,undef,undef,undef,undef,undef,undef,undef,undef,undef,undef,undef,undef,undef,undef,undef,undef,undef,undef,undef,undef,undef,undef,undef,undef,undef,undef,undef,undef,undef,undef,undef],defers:=[] } W):=by
  intro b9 u10 u11 u12 u13 u14 u15 u16 u17 u18 u19 u20 u21 u22 u23 u24 u25 u26 u27 u28 u29 u30 u31 u32 u33 u34 u35 u36 u37 u38 u39 u40 u41 u42 u43 u44 u45 u46 u47 u48 u49 u50 W hW OY;refine Ib _ _ ?_;clear R lm tD Ib;have HW:=ZU hW;have H9:=ZU OY;have S9:Hid (Em κ σ w pB z o (.slice ea ys.length ec) ys W.drew):=HW.out.below (below_drewN' W 1);have G9:Hid (W.drew.heap[b9]?=some (.cells #[.int .i64 fi,.int .i64 κ.S] 111 (0,0))):=((below_drewN' W 1).block b9 (Z3.mp OY).1).trans OY;clear hW OY HW H9
  go_wp2_with fail
  refine ZX (S:=fun W=>W.cell? ⟨pB,3,none⟩=some (.slice ea ys.length ec)∧W.heap[b9]?=some (.cells #[.int .i64 fi,.int .i64 κ.S] 111 (0,0))) (by kernel_rfl) ⟨S9.out.cells.2.2.2.2.1,G9.out⟩ (fun Z9=>?_);generalize W.drew=w4 at *
  iterate 7 (refine Zf ?_ (by kernel_rfl) (fun _=>id) Z9 ?_ ?_;rotate_left;· intro w9 ZQ;have k0:=ZQ.1;have k1:w9.cell? ⟨b9,1,none⟩=some (.int .i64 κ.S):=cell_of ZQ.2 1;clear ZQ;go_simp;try with_reducible rfl)
  refine Zf (.int .i64 (κ.S*64)) (by kernel_rfl) (fun _=>id) Z9 ?_ ?_
  · intro w9 ZQ;have k0:=ZQ.1;have k1:w9.cell? ⟨b9,1,none⟩=some (.int .i64 κ.S):=cell_of ZQ.2 1;clear ZQ;go_simp;rw [Zq];omega
  refine Zf ?_ (by kernel_rfl) (fun _=>id) Z9 ?_ ?_
  rotate_left
  · intro w9 ZQ;have k0:=ZQ.1;have k1:w9.cell? ⟨b9,1,none⟩=some (.int .i64 κ.S):=cell_of ZQ.2 1;clear ZQ;go_simp;try with_reducible rfl
  refine ZR (by kernel_rfl) ?_ _
  try simp only [Act.put,WV,WU,WT]
  clear Z9
  by_cases hbig:κ.S*64<(ys.length:Int)
  · obtain ⟨k0,-,-,-,-,-,km⟩:=S9.out.cells
    obtain ⟨fL,fK,pQ,m4,-⟩:=S9.out.sv.mm;have m12:=m4.cl 12 _ rfl;have f12:=m4.fz 12;have FZ:=ZU S9.out.sv.m9;have GW:=ZU S9.out.gw;clear m4 S9 G9
    go_wp2_with fail
    go_ret;refine ⟨GW.out.trans FZ.out.2.gw,0,0,.inr ⟨by rw [←su.out];exact hbig,rfl,FZ.out.1⟩⟩
  go_wp2_with fail
  have lR:Hid (w4.drew.cell? ⟨κ.sB,0,none⟩=some (.pointer (some ⟨κ.mB,0,none⟩))):=S9.out.cells.1;have E5:Hid (Em κ σ w pB z o (.slice ea ys.length ec) ys w4.drew):=S9.out.below (below_drewN' w4 1);have G5:Hid (w4.drew.heap[b9]?=some (.cells #[.int .i64 fi,.int .i64 κ.S] 111 (0,0))):=((below_drewN' w4 1).block b9 (Z3.mp G9.out).1).trans G9.out;clear S9 G9;refine ZX (S:=fun W=>W.cell? ⟨pB,3,none⟩=some (.slice ea ys.length ec)∧W.heap[b9]?=some (.cells #[.int .i64 fi,.int .i64 κ.S] 111 (0,0))) (by kernel_rfl) ⟨E5.out.cells.2.2.2.2.1,G5.out⟩ (fun Z9=>?_);generalize w4.drew=w5 at *;refine Zf ?_ (by kernel_rfl) (fun _=>id) Z9 ?_ ?_
  rotate_left
  · intro w9 ZQ;have k0:=ZQ.1;have k1:w9.cell? ⟨b9,0,none⟩=some (.int .i64 fi):=cell_of ZQ.2 0;have k2:w9.cell? ⟨b9,1,none⟩=some (.int .i64 κ.S):=cell_of ZQ.2 1;clear ZQ;go_simp;try with_reducible rfl
  refine Zf (.agg #[.int .i64 fi,.int .i64 κ.S]) (by kernel_rfl) (fun _=>id) Z9 ?_ ?_
  · intro w9 ZQ;have k0:=ZQ.1;have k1:w9.cell? ⟨b9,0,none⟩=some (.int .i64 fi):=cell_of ZQ.2 0;have k2:w9.cell? ⟨b9,1,none⟩=some (.int .i64 κ.S):=cell_of ZQ.2 1;clear ZQ;go_simp;try with_reducible rfl
  iterate 5 (refine Zf ?_ (by kernel_rfl) (fun _=>id) Z9 ?_ ?_;rotate_left;· intro w9 ZQ;have k0:=ZQ.1;have k1:w9.cell? ⟨b9,0,none⟩=some (.int .i64 fi):=cell_of ZQ.2 0;have k2:w9.cell? ⟨b9,1,none⟩=some (.int .i64 κ.S):=cell_of ZQ.2 1;clear ZQ;go_simp;try with_reducible rfl)
  refine YS 7 rfl (by kernel_rfl) (fun K hK=>?_);obtain ⟨v0,hv0,q0⟩:=E5.out.sv.pq;have I:Ph none w5 κ.sB (.pointer (some ⟨κ.mB,0,none⟩)) κ.S κ.L v0 σ.k w5:=by
   have q9:=q0;rw [show ({ σ with em:=true }:Sx).pw=none from hpw] at q9;exact q9
  obtain ⟨hs1,hs2,hs3,hs4⟩:=HV.out.jU;have H:∀q,(Value.slice ea ys.length ec).ownBlock=some q→w.heap.size≤q:=fun q hq=>(ZT E5.out.ow q hq).1
  have C:Hid (Calls Tryz.prog 113 #[.pointer (some ⟨κ.sB,0,none⟩),.agg #[.int .i64 fi,.int .i64 κ.S],.slice ea ys.length ec,.int .i64 0] w5 fun e w'=>e=.returned (.tuple #[])∧Ph none w5 κ.sB (.pointer (some ⟨κ.mB,0,none⟩)) κ.S κ.L v0 (σ.k+65) w'∧KW κ.sB w5 w'):=No fi κ.S _ ys 0 I (by omega) hfin (fun W hW=>Ri E5.out.ow.rd hW.size (fun q hq hl=>hW.block q hl (fun e=>by have:=H q hq;omega) (by simp))) (by omega) (Zu _);obtain ⟨eF,eE,fG,m5,-,-,-,-,-,l5,l6⟩:=E5.out.sv.mm;obtain ⟨x2,P⟩:=E5.out.pb;have Z':σ.full.length≤fG:=by
   obtain ⟨_,_,e9,h9,-⟩:=l5.rd.len
   simp only [ZC] at e9
   have e8:=e9.2.2;have h8:σ.full.length≤_:=h9;omega
  have Z8:Hid (∀w6,Ph none w5 κ.sB (.pointer (some ⟨κ.mB,0,none⟩)) κ.S κ.L v0 (σ.k+65) w6→Calls Tryz.prog 124 #[.pointer (some ⟨κ.sB,0,none⟩),.pointer (some ⟨pB,0,none⟩)] w6 fun e w'=>e=.returned (.tuple #[])∧Gs κ w5 w'∧∃l r,Sv κ { σ with k:=σ.k+65+70,g:=2,b:=1,s:=(z:Int),l:=l,r:=r,off:=o,sn:=none,em:=true,pw:=none } w'):=fun w6 V =>
   uU κ { σ with em:=true } w5 w6 v0 (σ.k+65) pB z o _ eF eE fG ys ⟨I.more (by omega),m5,⟨x2,P⟩,E5.out.ow.rd,l5⟩ V E5.out.sv hv0 (Ne.symm p2) (Ne.symm p3) (fun e=>by have:=H _ e;omega) hpw hg hb hoff ho (by show σ.full.length≤4096;omega) Z' hTy (by omega) (by omega) hc hz (fun W hW=>htab W (E5.out.gw.trans hW.gw))
  have Z7:=ZU E5.out.gw;have PZ:Hid (∀W,Gs κ w5 W→W.cell? ⟨pB,0,none⟩=some (.int .i64 (z:Int))):=fun W hW=>(ZP (w:=w5) (a:=⟨pB,0,none⟩) (hW.block pB P.lt p2 p3 p4 p5)).trans (P.cl 0 _ rfl)
  clear q0 I m5 l5 l6 P E5 G5 H;go_simp;refine C.out.mono ?_;rintro e w6 ⟨rfl,V,k6⟩;have hN:w6.cell? ⟨pB,3,none⟩=some (.slice ea ys.length ec)∧w6.heap[b9]?=some (.cells #[.int .i64 fi,.int .i64 κ.S] 111 (0,0)):=by
   have oq:=V.gb.1;have hpl:=ZG w5 _ Z9.1;refine ⟨(ZP (w:=w5) (a:=⟨pB,3,none⟩) (oq.block pB hpl p2 (by simp))).trans Z9.1,(k6.block b9 (Z3.mp Z9.2).1 (fun e=>?_) (fun cs z' e=>?_)).trans Z9.2⟩
   · have c9:=cell_of Z9.2 0
     rw [e] at c9;have:=(lR.out).symm.trans c9
     simp at this
   rw [Z9.2] at e
   injection e with e
   injection e with _ e2
   exact absurd e2 (by decide)
  refine hK.out _ _ hN (fun YA=>?_);clear hK K YA Z9 hN C k6;refine ZR (by kernel_rfl) ?_ _
  try simp only [Act.put,WV,WU,WT]
  have Z6:=ZU (Z8.out _ V);clear Z8 V
  go_wp2_with fail
  refine Z6.out.mono ?_;rintro e w7 ⟨rfl,g7,l7,r7,v7⟩;have z7:=PZ.out _ g7;have TT:=Pk w7 ⟨#[115,101,97,108,101,100]⟩ z (by decide) hz (G _ (Z7.out.trans g7.gw));have V7:=ZU v7;have G7:=ZU (Z7.out.trans g7.gw);clear Z6 g7 v7 PZ
  go_wp2_with fail
  refine TT.mono ?_;rintro e w8 ⟨rfl,b8⟩;clear TT z7;go_wp2;go_ret;refine ⟨G7.out.trans (Gs.YZ b8).gw,l7,r7,.inl ⟨by rw [←su.out];omega,rfl,?_⟩⟩;have e9:σ.k+65+70=σ.k+135:=by omega
  have v8:=V7.out.below b8;rw [e9] at v8;exact v8
 refine ZX (S:=Em κ σ w pB z o (.slice ea ys.length ec) ys) (by kernel_rfl) R.out (fun Z9=>?_);clear R Ib;generalize w2.drew=w3 at *
 iterate 5 (refine Zf ?_ (by kernel_rfl) (fun _=>id) Z9 ?_ ?_;rotate_left;· intro w9 ZQ;obtain ⟨k0,k1,k2,-⟩:=ZQ.cells;clear ZQ;go_simp;try with_reducible rfl)
 refine QG 5 7 rfl rfl (by kernel_rfl) (fun K hK=>?_) (fun K hK=>?_)
 · skip
   go_simp;refine (lm.out _ Z9).mono ?_;rintro e w4 ⟨rfl,b8⟩;have hN:=Z9.below b8;refine hK.out _ _ hN (fun YA=>?_);clear hK K YA Z9 b8;have Z9:=hN;clear hN;refine QG 6 7 rfl rfl (by kernel_rfl) (fun K hK=>?_) (fun K hK=>?_)
   · skip
     go_simp;refine (tD.out _).mono ?_;rintro e w5 ⟨rfl,b8⟩;have hN:=Z9.below b8;refine hK.out _ _ hN (fun YA=>?_);clear hK K YA Z9 b8;have Z9:=hN;clear hN;refine YS 7 rfl (by kernel_rfl) (fun K hK=>?_);have hH2:=Z9;go_simp;have bA:Zi w5 (w5.alloc (.cells #[.int .i64 0,.int .i64 0] 111)):=Yy.alloc YR _;have hN:=Z9.below bA;refine hK.out _ _ hN (fun YA=>?_);clear hK K YA Z9 hN bA;refine YS 8 rfl (by kernel_rfl) (fun K hK=>?_);have X5:=St.new w5 #[.int .i64 0,.int .i64 0] 111;have t0:=X5.cl 0 _ rfl;have t1:=X5.cl 1 _ rfl;have f0:=X5.fz 0;have f1:=X5.fz 1;clear X5;go_simp;have bB:Zi w5 (w5.alloc (.cells #[.int .i64 fi,.int .i64 κ.S] 111)):=Yy.alloc YR _;have hN:=hH2.below bB;refine hK.out _ _ hN (fun YA=>?_);clear hK K YA t0 t1 f0 f1;refine ZR (by kernel_rfl) ?_ _
     try simp only [Act.put,WV,WU,WT]
     exact REST.out w5.heap.size _ _ _ _ _ _ _ _ _ _ _ _ _ _ _ _ _ _ _ _ _ _ _ _ _ _ _ _ _ _ _ _ _ _ _ _ _ _ _ _ _ _ hN (Zs w5 _)
   skip
   go_simp;have bA:Zi w4 (w4.alloc (.cells #[.int .i64 0,.int .i64 0] 111)):=Yy.alloc YR _;have hN:=Z9.below bA;refine hK.out _ _ hN (fun YA=>?_);have X5:Hid ((w4.alloc (.cells #[.int .i64 0,.int .i64 0] 111)).heap[w4.heap.size]?=some (.cells #[.int .i64 0,.int .i64 0] 111 (0,0))):=Zs w4 _;have CJ:=ZU Z9;have BA:=ZU bA;clear hK K YA Z9 bA;have Z9:=hN;clear hN;obtain ⟨b9,OY⟩:∃b,b=w4.heap.size:=⟨_,rfl⟩;rw [←OY] at X5;have Z:b9<(w4.alloc (.cells #[.int .i64 0,.int .i64 0] 111)).heap.size:=by simp [OY]
   rw [←OY];have GJ:=ZU OY;clear OY;generalize w4.alloc _=w5 at *;refine YS 6 rfl (by kernel_rfl) (fun K hK=>?_);go_simp;refine (tD.out _).mono ?_;rintro e w6 ⟨rfl,b8⟩;have hN:=Z9.below b8;refine hK.out _ _ hN (fun YA=>?_);have X6:Hid (w6.heap[b9]?=some (.cells #[.int .i64 0,.int .i64 0] 111 (0,0))):=(b8.block _ Z).trans X5.out;have Y:b9<w6.heap.size:=ZY Z b8.size;have BB:=ZU (WD BA.out b8);clear X5 BA Z b8;have X5:=X6;have BA:=BB;have Z:=Y;clear X6 BB Y;clear hK K YA Z9;have Z9:=hN;clear hN;refine YS 8 rfl (by kernel_rfl) (fun K hK=>?_);have t0:w6.cell? ⟨b9,0,none⟩=some (.int .i64 0):=cell_of X5.out 0;have t1:w6.cell? ⟨b9,1,none⟩=some (.int .i64 0):=cell_of X5.out 1;have f0:w6.frozen? ⟨b9,0,none⟩=false:=by simp [World.frozen?,X5.out]
   have f1:w6.frozen? ⟨b9,1,none⟩=false:=by simp [World.frozen?,X5.out]
   have X7:=ZU (Rp.set (Rp.set X5.out 0 (.int .i64 fi)) 1 (.int .i64 κ.S));have b7:Hid (Zi w4 ((w6.setCell ⟨b9,0,none⟩ (.int .i64 fi)).setCell ⟨b9,1,none⟩ (.int .i64 κ.S))):=by
    show Below _ _ _
    iterate 2 refine Below.setCell ?_ (U5 GJ.out.symm) _
    exact BA.out
   clear Z9;go_simp;have hN:=CJ.out.below b7.out;refine hK.out _ _ hN (fun YA=>?_);clear hK K YA t0 t1 f0 f1;refine ZR (by kernel_rfl) ?_ _
   try simp only [Act.put,WV,WU,WT]
   exact REST.out b9 _ _ _ _ _ _ _ _ _ _ _ _ _ _ _ _ _ _ _ _ _ _ _ _ _ _ _ _ _ _ _ _ _ _ _ _ _ _ _ _ _ _ hN X7.out
 skip
 go_simp;have bA:Zi w3 (w3.alloc (.cells #[.int .i64 0,.int .i64 0] 111)):=Yy.alloc YR _;have hN:=Z9.below bA;refine hK.out _ _ hN (fun YA=>?_);have X5:Hid ((w3.alloc (.cells #[.int .i64 0,.int .i64 0] 111)).heap[w3.heap.size]?=some (.cells #[.int .i64 0,.int .i64 0] 111 (0,0))):=Zs w3 _;have CJ:=ZU Z9;have BA:=ZU bA;clear hK K YA Z9 bA;have Z9:=hN;clear hN;obtain ⟨b9,OY⟩:∃b,b=w3.heap.size:=⟨_,rfl⟩;rw [←OY] at X5;have Z:b9<(w3.alloc (.cells #[.int .i64 0,.int .i64 0] 111)).heap.size:=by simp [OY]
 rw [←OY];have GJ:=ZU OY;clear OY;generalize w3.alloc _=w4 at *;refine YS 5 rfl (by kernel_rfl) (fun K hK=>?_);go_simp;refine (lm.out _ Z9).mono ?_;rintro e w5 ⟨rfl,b8⟩;have hN:=Z9.below b8;refine hK.out _ _ hN (fun YA=>?_);have X6:Hid (w5.heap[b9]?=some (.cells #[.int .i64 0,.int .i64 0] 111 (0,0))):=(b8.block _ Z).trans X5.out;have Y:b9<w5.heap.size:=ZY Z b8.size;have BB:=ZU (WD BA.out b8);clear X5 BA Z b8;have X5:=X6;have BA:=BB;have Z:=Y;clear X6 BB Y;clear hK K YA Z9;have Z9:=hN;clear hN;refine YS 6 rfl (by kernel_rfl) (fun K hK=>?_);go_simp;refine (tD.out _).mono ?_;rintro e w6 ⟨rfl,b8⟩;have hN:=Z9.below b8;refine hK.out _ _ hN (fun YA=>?_);have X6:Hid (w6.heap[b9]?=some (.cells #[.int .i64 0,.int .i64 0] 111 (0,0))):=(b8.block _ Z).trans X5.out;have Y:b9<w6.heap.size:=ZY Z b8.size;have BB:=ZU (WD BA.out b8);clear X5 BA Z b8;have X5:=X6;have BA:=BB;have Z:=Y;clear X6 BB Y;clear hK K YA Z9;have Z9:=hN;clear hN;refine YS 8 rfl (by kernel_rfl) (fun K hK=>?_);have t0:w6.cell? ⟨b9,0,none⟩=some (.int .i64 0):=cell_of X5.out 0;have t1:w6.cell? ⟨b9,1,none⟩=some (.int .i64 0):=cell_of X5.out 1;have f0:w6.frozen? ⟨b9,0,none⟩=false:=by simp [World.frozen?,X5.out]
 have f1:w6.frozen? ⟨b9,1,none⟩=false:=by simp [World.frozen?,X5.out]
 have X7:=ZU (Rp.set (Rp.set X5.out 0 (.int .i64 fi)) 1 (.int .i64 κ.S));have b7:Hid (Zi w3 ((w6.setCell ⟨b9,0,none⟩ (.int .i64 fi)).setCell ⟨b9,1,none⟩ (.int .i64 κ.S))):=by
  show Below _ _ _
  iterate 2 refine Below.setCell ?_ (U5 GJ.out.symm) _
  exact BA.out
 clear Z9;go_simp;have hN:=CJ.out.below b7.out;refine hK.out _ _ hN (fun YA=>?_);clear hK K YA t0 t1 f0 f1;refine ZR (by kernel_rfl) ?_ _
 try simp only [Act.put,WV,WU,WT]
 exact REST.out b9 _ _ _ _ _ _ _ _ _ _ _ _ _ _ _ _ _ _ _ _ _ _ _ _ _ _ _ _ _ _ _ _ _ _ _ _ _ _ _ _ _ _ hN X7.out
end
section
open Go.RowKit Go.Shelf
variable {m:Int} {L:List ByteArray} {ys:List Int} {ns:List TO} {B i lo lo' n o pB z:Nat} {κ:Sc} {σ:Sx} {e te:TypeId} {c:UInt8} {a b d pe v vE:Value} {W w w' w1:World}
def Kr (c:UInt8):Bool:=decide (48≤c.toNat) && decide (c.toNat≤57)
theorem Nc (c:UInt8):Kr c=true↔48≤c.toNat∧c.toNat≤57:=by unfold Kr;simp
def uS (acc:Nat) (l:List UInt8):Nat:=l.foldl (fun a c=>a*10+(c.toNat - 48)) acc
theorem Bb (acc:Nat):uS acc []=acc:=by unfold uS;exact List.foldl_nil
theorem ET (acc:Nat) (c:UInt8) (r:List UInt8):uS acc (c :: r)=uS (acc*10+(c.toNat - 48)) r:=by unfold uS;exact WS ..
theorem CF:∀(l:List UInt8) (acc:Nat),l.all Kr=true→uS acc l<(acc+1)*10 ^ l.length
 | [],acc,_=>by simp [Bb]
 | c :: r,acc,h=>by
  simp only [VR,ZA] at h
  have hc:=(Nc c).1 h.1;have:=CF r (acc*10+(c.toNat - 48)) h.2;rw [ET];refine ZY this ?_;rw [ZE,Uc,Nat.mul_comm (10 ^ r.length) 10,←Nat.mul_assoc];exact Nat.mul_le_mul_right _ (by omega)
def ES (l:List UInt8):Option Int :=
 if l.length=0∨9<l.length∨(l.head?=some 48∧1<l.length) then none
 else if l.all Kr=true then some (uS 0 l:Nat) else none
def SP (l:List UInt8):Option Int :=
 if 1<l.length∧l.head?=some 45 then (if l.tail.head?=some 48∨l.tail.head?=some 45 then none else (ES l.tail).map fun v=>-v) else ES l
theorem uR:∀(l:List UInt8) (acc M:Nat),(acc+1)*10 ^ l.length≤1000000000→1000000000≤M→Lib.parseUintM M acc l=if l.all Kr=true then .ok (uS acc l) else Lib.parseUintB 64 []
 | [],acc,M,_,_=>by simp [Lib.parseUintM,Bb]
 | c :: r,acc,M,h,hM=>by
  have hp:1≤10 ^ r.length:=Nat.pos_of_ne_zero (by simp);have e:(acc+1)*10 ^ (c :: r).length=((acc+1)*10)*10 ^ r.length:=by
   rw [ZE,Uc,Nat.mul_comm (10 ^ r.length) 10,←Nat.mul_assoc]
  rw [e] at h;have h1:(acc+1)*10≤1000000000:=ZJ (Nat.le_mul_of_pos_right _ hp) h;unfold Lib.parseUintM
  by_cases hc:48≤c.toNat∧c.toNat≤57
  · rw [Z0 hc,Z1 (by omega),Z1 (by omega)]
    rw [uR r _ M (ZJ (Nat.mul_le_mul_right _ (by omega)) h) hM]
    simp only [VR,(Nc c).2 hc,Xz,ET]
  rw [Z1 hc];have:Kr c=false:=by
   cases hd:Kr c with
   | false=>rfl
   | true=>exact absurd ((Nc c).1 hd) hc
  simp [this]
  rfl
theorem mY (r:List UInt8):Lib.parseIntB 64 (45 :: r)=match Lib.parseUintB 64 r with | .range=>.range | .ok u=>if 9223372036854775808<u then .range else .ok (-(u:Int)) | _=>Lib.parseIntB 64 []:=by
 have e45:(45:UInt8).toNat=45:=rfl;unfold Lib.parseIntB
 simp [e45]
 cases Lib.parseUintB 64 r <;> rfl
theorem mX (c:UInt8) (r:List UInt8) (h:c.toNat≠43) (h2:c.toNat≠45):Lib.parseIntB 64 (c :: r)=match Lib.parseUintB 64 (c :: r) with | .range=>.range | .ok u=>if 9223372036854775808≤u then .range else .ok (u:Int) | _=>Lib.parseIntB 64 []:=by
 unfold Lib.parseIntB
 simp [h,h2]
 cases Lib.parseUintB 64 (c :: r) <;> rfl
theorem zg {l d:List UInt8} (hd:d=if l.head?=some 45 then l.tail else l) (h0:l≠[48]) :
    (d=[]∨9<d.length∨(∃c,d.head?=some c∧(c.toNat<49∨57<c.toNat))→SP l=none) ∧
    (d≠[]→d.length≤9→(∀c,d.head?=some c→49≤c.toNat∧c.toNat≤57)→Lib.parseIntB 64 l=match SP l with | some v=>.ok v | none=>Lib.parseIntB 64 []):=by
 have key:∀x:List UInt8,x≠[48]→(x=[]∨9<x.length∨(∃c,x.head?=some c∧(c.toNat<49∨57<c.toNat)))→ES x=none:=by
  intro x hx h;unfold ES
  rcases h with rfl | h | ⟨c,hc,h⟩
  · simp
  · rw [Z0 (by omega)]
  by_cases h9:x.length=0∨9<x.length∨(x.head?=some 48∧1<x.length)
  · rw [Z0 h9]
  rw [Z1 h9,Z1];intro hall
  cases x with
  | nil=>simp at hc
  | cons y r =>
   simp only [List.head?_cons,ZK] at hc
   subst hc
   simp only [VR,ZA] at hall
   have hy:=(Nc y).1 hall.1;have Z5:y=48:=Uj (by show y.toNat=48;omega);subst Z5
   cases r with
   | nil=>exact hx rfl
   | cons z r=>exact h9 (.inr (.inr ⟨rfl,by simp⟩))
 have tj:∀x:List UInt8,x≠[]→x.length≤9→(∀c,x.head?=some c→49≤c.toNat∧c.toNat≤57)→ES x=(if x.all Kr=true then some (uS 0 x:Int) else none)∧Lib.parseUintB 64 x=(if x.all Kr=true then .ok (uS 0 x) else Lib.parseUintB 64 []):=by
  intro x hx hl hc;refine ⟨?_,?_⟩
  · unfold ES
    rw [Z1];rintro (h | h | ⟨h,-⟩)
    · exact hx (Zg h)
    · omega
    have:=hc _ h;have e:(48:UInt8).toNat=48:=rfl;omega
  unfold Lib.parseUintB;rw [Z1 hx];refine uR x 0 _ ?_ (by decide);have:10 ^ x.length≤10 ^ 9:=Wx (by omega) hl;omega
 by_cases hm:l.head?=some 45
 · rw [Z0 hm] at hd
   subst hd
   cases l with
   | nil=>simp at hm
   | cons c r =>
    simp only [List.head?_cons,ZK] at hm
    subst hm
    simp only [List.tail_cons]
    cases r with
    | nil=>exact ⟨fun _=>by decide,fun h=>absurd rfl h⟩
    | cons c r =>
     have e1:SP (45 :: c :: r)=(if c=48∨c=45 then none else (ES (c :: r)).map fun v=>-v):=by
      unfold SP;simp
     refine ⟨fun h=>?_,fun h1 h2 h3=>?_⟩
     · rw [e1]
       by_cases hc:c=48∨c=45
       · rw [Z0 hc]
       rw [Z1 hc,key (c :: r) (fun e=>hc (.inl (by injection e))) h]
       rfl
     have hc:=h3 c rfl;have e48:(48:UInt8).toNat=48:=rfl;have e45:(45:UInt8).toNat=45:=rfl;rw [e1,Z1 (by rintro (rfl | rfl) <;> omega)];obtain ⟨d1,d2⟩:=tj (c :: r) h1 h2 h3;rw [mY,d1,d2]
     by_cases ha:(c :: r).all Kr=true
     · rw [Z0 ha,Z0 ha]
       have:=CF (c :: r) 0 ha;have h9:10 ^ (c :: r).length≤10 ^ 9:=Wx (by omega) h2
       simp only [Sy]
       rw [Z1 (by omega)]
     rw [Z1 ha,Z1 ha]
     rfl
 rw [Z1 hm] at hd;subst hd;have e1:SP d=ES d:=by
  unfold SP;rw [Z1 (fun h=>hm h.2)]
 refine ⟨fun h=>by rw [e1];exact key d h0 h,fun h1 h2 h3=>?_⟩;obtain ⟨d1,d2⟩:=tj d h1 h2 h3;rw [e1,d1]
 cases d with
 | nil=>exact absurd rfl h1
 | cons c r =>
  have hc:=h3 c rfl;rw [mX c r (by omega) (by omega),d2]
  by_cases ha:(c :: r).all Kr=true
  · rw [Z0 ha,Z0 ha]
    have:=CF (c :: r) 0 ha;have h9:10 ^ (c :: r).length≤10 ^ 9:=Wx (by omega) h2;show (if 9223372036854775808≤uS 0 (c :: r) then _ else _)=_;rw [Z1 (by omega)]
  rw [Z1 ha,Z1 ha]
  rfl
theorem Tt (b:ByteArray):b.data.toList.length=b.size:=by rw [YJ];rfl
theorem CE (b:ByteArray) (i:Nat) (h:i<b.size):b.data.toList[i]?=some b[i]:=by
 rw [Array.getElem?_toList];exact Xj h
theorem qS (b:ByteArray) (h:0<b.size):b.data.toList.head?=some b[0]:=by
 rw [List.head?_eq_getElem?];exact CE b 0 h
def ER (w:World) (b:ByteArray) (e:Ending) (w':World):Prop:=∃v ok,e=.returned (.tuple #[.int .i64 v,.bool ok])∧Zi w w'∧ok=(SP b.data.toList).isSome∧∀x,SP b.data.toList=some x→v=x
theorem ER.no {b:ByteArray} {v:Int} (h:SP b.data.toList=none) (hb:Zi w w'):ER w b (.returned (.tuple #[.int .i64 v,.bool false])) w':=⟨v,false,rfl,hb,by rw [h];rfl,fun x hx=>by rw [h] at hx;cases hx⟩
end
section
open Go.Shelf
variable {m:Int} {L:List ByteArray} {ys:List Int} {ns:List TO} {B i lo lo' n o pB z:Nat} {κ:Sc} {σ:Sx} {e te:TypeId} {c:UInt8} {a b d pe v vE:Value} {W w w' w1:World}
def Tryz.Hk:Go.Shelf.Ren:=⟨fun | 174=>189 | 247=>214 | 245=>215 | 287=>235 | 279=>236 | 280=>237 | 281=>238 | 282=>239 | 321=>258 | 322=>259 | 316=>260 | 171=>262 | 205=>261 | 243=>270 | 246=>271 | 283=>216 | 284=>217 | 285=>218 | 286=>219 | 129=>241 | 317=>240 | 318=>242 | 319=>243 | 320=>244 | 337=>263 | 338=>264 | n=>n,fun | 9=>9 | 3=>3 | 2=>2 | 75=>182 | 85=>271 | 4=>4 | 167=>333 | 5=>5 | 53=>273 | 175=>334 | 46=>151 | 168=>336 | 37=>22 | 0=>0 | 210=>366 | 21=>21 | 127=>236 | 145=>376 | 143=>374 | 171=>313 | 173=>316 | 212=>340 | 51=>150 | 20=>20 | 213=>341 | 232=>377 | 233=>116 | 80=>84 | n=>n,fun | 15=>7 | 16=>8 | 17=>6 | 18=>9 | 19=>10 | n=>n⟩
theorem Tryz.EQ:Go.Proofs.LaysC.n174 Tryz.prog Tryz.Hk:={
 mixed:=by kernel_rfl
 f129:=Tryz.func241.trans (ZM some (by kernel_rfl))
 f171:=Tryz.func262.trans (ZM some (by kernel_rfl))
 f174:=Tryz.func189.trans (ZM some (by kernel_rfl))
 f205:=Tryz.func261.trans (ZM some (by kernel_rfl))
 f243:=Tryz.func270.trans (ZM some (by kernel_rfl))
 f245:=Tryz.func215.trans (ZM some (by kernel_rfl))
 f246:=Tryz.func271.trans (ZM some (by kernel_rfl))
 f247:=Tryz.func214.trans (ZM some (by kernel_rfl))
 f279:=Tryz.func236.trans (ZM some (by kernel_rfl))
 f280:=Tryz.func237.trans (ZM some (by kernel_rfl))
 f281:=Tryz.func238.trans (ZM some (by kernel_rfl))
 f282:=Tryz.func239.trans (ZM some (by kernel_rfl))
 f283:=Tryz.func216.trans (ZM some (by kernel_rfl))
 f284:=Tryz.func217.trans (ZM some (by kernel_rfl))
 f285:=Tryz.func218.trans (ZM some (by kernel_rfl))
 f286:=Tryz.func219.trans (ZM some (by kernel_rfl))
 f287:=Tryz.func235.trans (ZM some (by kernel_rfl))
 f316:=Tryz.func260.trans (ZM some (by kernel_rfl))
 f317:=Tryz.func240.trans (ZM some (by kernel_rfl))
 f318:=Tryz.func242.trans (ZM some (by kernel_rfl))
 f319:=Tryz.func243.trans (ZM some (by kernel_rfl))
 f320:=Tryz.func244.trans (ZM some (by kernel_rfl))
 f321:=Tryz.func258.trans (ZM some (by kernel_rfl))
 f322:=Tryz.func259.trans (ZM some (by kernel_rfl))
 f337:=Tryz.func263.trans (ZM some (by kernel_rfl))
 f338:=Tryz.func264.trans (ZM some (by kernel_rfl))
 t0:=Tryz.underlying0
 a0:=Tryz.isAgg0
 z0:=Tryz.sizeOf0
 v0:=Tryz.zeroValue0
 t2:=Tryz.underlying2
 a2:=Tryz.isAgg2
 z2:=Tryz.sizeOf2
 v2:=Tryz.zeroValue2
 t3:=Tryz.underlying3
 a3:=Tryz.isAgg3
 z3:=Tryz.sizeOf3
 v3:=Tryz.zeroValue3
 t4:=Tryz.underlying4
 a4:=Tryz.isAgg4
 z4:=Tryz.sizeOf4
 v4:=Tryz.zeroValue4
 t5:=Tryz.underlying5
 a5:=Tryz.isAgg5
 z5:=Tryz.sizeOf5
 v5:=Tryz.zeroValue5
 t9:=Tryz.underlying9
 a9:=Tryz.isAgg9
 z9:=Tryz.sizeOf9
 v9:=Tryz.zeroValue9
 t20:=Tryz.underlying20
 a20:=Tryz.isAgg20
 z20:=Tryz.sizeOf20
 v20:=Tryz.zeroValue20
 t21:=Tryz.underlying21
 a21:=Tryz.isAgg21
 z21:=Tryz.sizeOf21
 v21:=Tryz.zeroValue21
 t37:=Tryz.underlying22
 a37:=Tryz.isAgg22
 z37:=Tryz.sizeOf22
 v37:=Tryz.zeroValue22
 t46:=Tryz.underlying151
 a46:=Tryz.isAgg151
 z46:=Tryz.sizeOf151
 v46:=Tryz.zeroValue151
 t51:=Tryz.underlying150
 a51:=Tryz.isAgg150
 z51:=Tryz.sizeOf150
 v51:=Tryz.zeroValue150
 t53:=Tryz.underlying273
 a53:=Tryz.isAgg273
 z53:=Tryz.sizeOf273
 v53:=Tryz.zeroValue273
 t75:=Tryz.underlying182
 a75:=Tryz.isAgg182
 z75:=Tryz.sizeOf182
 v75:=Tryz.zeroValue182
 t85:=Tryz.underlying271
 a85:=Tryz.isAgg271
 z85:=Tryz.sizeOf271
 v85:=Tryz.zeroValue271
 t127:=Tryz.underlying236
 a127:=Tryz.isAgg236
 z127:=Tryz.sizeOf236
 v127:=Tryz.zeroValue236
 t143:=Tryz.underlying374
 a143:=Tryz.isAgg374
 z143:=Tryz.sizeOf374
 v143:=Tryz.zeroValue374
 t145:=Tryz.underlying376
 a145:=Tryz.isAgg376
 z145:=Tryz.sizeOf376
 v145:=Tryz.zeroValue376
 t167:=Tryz.underlying333
 a167:=Tryz.isAgg333
 z167:=Tryz.sizeOf333
 v167:=Tryz.zeroValue333
 t168:=Tryz.underlying336
 a168:=Tryz.isAgg336
 z168:=Tryz.sizeOf336
 v168:=Tryz.zeroValue336
 t171:=Tryz.underlying313
 a171:=Tryz.isAgg313
 z171:=Tryz.sizeOf313
 v171:=Tryz.zeroValue313
 t173:=Tryz.underlying316
 a173:=Tryz.isAgg316
 z173:=Tryz.sizeOf316
 v173:=Tryz.zeroValue316
 t175:=Tryz.underlying334
 a175:=Tryz.isAgg334
 z175:=Tryz.sizeOf334
 v175:=Tryz.zeroValue334
 t210:=Tryz.underlying366
 a210:=Tryz.isAgg366
 z210:=Tryz.sizeOf366
 v210:=Tryz.zeroValue366
 t212:=Tryz.underlying340
 a212:=Tryz.isAgg340
 z212:=Tryz.sizeOf340
 v212:=Tryz.zeroValue340
 t213:=Tryz.underlying341
 a213:=Tryz.isAgg341
 z213:=Tryz.sizeOf341
 t232:=Tryz.underlying377
 a232:=Tryz.isAgg377
 z232:=Tryz.sizeOf377
 v232:=Tryz.zeroValue377
 t233:=Tryz.underlying116
 a233:=Tryz.isAgg116
 z233:=Tryz.sizeOf116
 v233:=Tryz.zeroValue116
 g15:=by kernel_rfl
 g16:=by kernel_rfl
 g17:=by kernel_rfl
 g18:=by kernel_rfl
 g19:=by kernel_rfl
 t80:=Tryz.underlying84
 a80:=Tryz.isAgg84
 z80:=Tryz.sizeOf84
 v80:=Tryz.zeroValue84
 i0:=by kernel_rfl
 i2:=by kernel_rfl
 i3:=by kernel_rfl
 i4:=by kernel_rfl
 i5:=by kernel_rfl
 i9:=by kernel_rfl
 i20:=by kernel_rfl
 i21:=by kernel_rfl
 i37:=by kernel_rfl
 i46:=by kernel_rfl
 i51:=by kernel_rfl
 i53:=by kernel_rfl
 i75:=by kernel_rfl
 i80:=by kernel_rfl
 i85:=by kernel_rfl
 i127:=by kernel_rfl
 i143:=by kernel_rfl
 i145:=by kernel_rfl
 i167:=by kernel_rfl
 i168:=by kernel_rfl
 i171:=by kernel_rfl
 i173:=by kernel_rfl
 i175:=by kernel_rfl
 i210:=by kernel_rfl
 i212:=by kernel_rfl
 i232:=by kernel_rfl
 i233:=by kernel_rfl
 m15:=by kernel_rfl
 m16:=by kernel_rfl
 m17:=by kernel_rfl
 m18:=by kernel_rfl
 m19:=by kernel_rfl
 c0:=by kernel_rfl
 c2:=by kernel_rfl
 c3:=by kernel_rfl
 c4:=by kernel_rfl
 c5:=by kernel_rfl
 c9:=by kernel_rfl
 c20:=by kernel_rfl
 c21:=by kernel_rfl
 c37:=by kernel_rfl
 c46:=by kernel_rfl
 c51:=by kernel_rfl
 c53:=by kernel_rfl
 c75:=by kernel_rfl
 c80:=by kernel_rfl
 c85:=by kernel_rfl
 c127:=by kernel_rfl
 c143:=by kernel_rfl
 c145:=by kernel_rfl
 c167:=by kernel_rfl
 c168:=by kernel_rfl
 c171:=by kernel_rfl
 c173:=by kernel_rfl
 c175:=by kernel_rfl
 c210:=by kernel_rfl
 c212:=by kernel_rfl
 c213:=by kernel_rfl
 c232:=by kernel_rfl
 c233:=by kernel_rfl }
open Go.RowKit in
theorem Tryz.strconv_ParseInt_10_at64_ok (s:ByteArray) (hmax:s.size≤9223372036854775806) (v:Int) (h:Lib.parseIntB 64 s.data.toList=.ok v) (w:World) :
    Calls Tryz.prog 189 #[.string s,.int .i64 10,.int .i64 64] w fun e w'=>e=.returned (.tuple #[.int .i64 v,.nilIface])∧(w'=w∨∃t,w'=Lib.bytesWorld w 5 t):=Any.strconv_ParseInt_10_at64_ok Tryz.EQ s hmax v h w
open Go.RowKit in
theorem Tryz.Rh (s:ByteArray) (hlim:s.size≤281474976710656) (h:Lib.parseIntB 64 s.data.toList=Lib.parseIntB 64 []) (ev:Value) (w:World) (hv:w.cell? ⟨7,0,none⟩=some ev) (hev:ev=.nilIface∨∃te pe,ev=.iface te pe) :
    Calls Tryz.prog 189 #[.string s,.int .i64 10,.int .i64 64] w fun e w'=>∃N,e=.returned (.tuple #[.int .i64 (0),.iface 336 (.pointer (some ⟨N,0,none⟩))])∧w.heap.size≤N∧w'.heap[N]?=some (.cells #[.string ⟨#[80,97,114,115,101,73,110,116]⟩,.string s,ev] 366 (0,0))∧Zi w w':=Any.strconv_ParseInt_10_at64_syntax Tryz.EQ s hlim h ev w hv hev
def Tryz.Hj:Go.Shelf.Ren:=⟨fun | 17=>57 | 15=>100 | 20=>148 | n=>n,fun | 9=>9 | 23=>122 | 4=>4 | 3=>3 | 0=>0 | 21=>21 | n=>n,fun | n=>n⟩
theorem Tryz.uQ:Go.Proofs.LaysGw.n17 Tryz.prog Tryz.Hj:={
 mixed:=by kernel_rfl
 f15:=Tryz.func100.trans (ZM some (by kernel_rfl))
 f17:=Tryz.func57.trans (ZM some (by kernel_rfl))
 f20:=Tryz.func148.trans (ZM some (by kernel_rfl))
 t0:=Tryz.underlying0
 a0:=Tryz.isAgg0
 z0:=Tryz.sizeOf0
 v0:=Tryz.zeroValue0
 i0:=by kernel_rfl
 t3:=Tryz.underlying3
 a3:=Tryz.isAgg3
 z3:=Tryz.sizeOf3
 v3:=Tryz.zeroValue3
 i3:=by kernel_rfl
 t4:=Tryz.underlying4
 a4:=Tryz.isAgg4
 z4:=Tryz.sizeOf4
 v4:=Tryz.zeroValue4
 i4:=by kernel_rfl
 t9:=Tryz.underlying9
 a9:=Tryz.isAgg9
 z9:=Tryz.sizeOf9
 v9:=Tryz.zeroValue9
 i9:=by kernel_rfl
 t21:=Tryz.underlying21
 a21:=Tryz.isAgg21
 z21:=Tryz.sizeOf21
 v21:=Tryz.zeroValue21
 i21:=by kernel_rfl
 t23:=Tryz.underlying122
 a23:=Tryz.isAgg122
 z23:=Tryz.sizeOf122
 v23:=Tryz.zeroValue122
 i23:=by kernel_rfl }
open Go.RowKit Go.Lib in
theorem Tryz.strings_ContainsFunc_runes (g:Nat) (lb:Array Value) (eg:∀args w,(callFunc g args).run Tryz.prog w=.ok (.enter g args) w) (p:Nat→Bool) (s:ByteArray) (w:World) (hp:PredAtRunes Tryz.prog g lb p w) :
    Calls Tryz.prog 57 #[.string s,.func (.func g) #[] lb] w (Wj w (.bool (decide (0≤Lib.idxFunc p true s)))):=Any.strings_ContainsFunc_runes Tryz.uQ g lb eg p s w hp
def Tryz.EP:Go.Shelf.Ren:=⟨fun | 101=>188 | 208=>213 | 206=>221 | n=>n,fun | 9=>9 | 4=>4 | 3=>3 | n=>n,fun | n=>n⟩
theorem Tryz.qR:Go.Proofs.Lays.n101 Tryz.prog Tryz.EP:={
 mixed:=by kernel_rfl
 f101:=Tryz.func188.trans (ZM some (by kernel_rfl))
 f206:=Tryz.func221.trans (ZM some (by kernel_rfl))
 f208:=Tryz.func213.trans (ZM some (by kernel_rfl))
 t3:=Tryz.underlying3
 a3:=Tryz.isAgg3
 z3:=Tryz.sizeOf3
 v3:=Tryz.zeroValue3
 t4:=Tryz.underlying4
 a4:=Tryz.isAgg4
 z4:=Tryz.sizeOf4
 v4:=Tryz.zeroValue4
 t9:=Tryz.underlying9
 a9:=Tryz.isAgg9
 z9:=Tryz.sizeOf9
 v9:=Tryz.zeroValue9 }
open Go.RowKit Go.Lib in
theorem Tryz.strings_TrimPrefix (s p:ByteArray) (w:World) :
    Calls Tryz.prog 188 #[.string s,.string p] w fun e w'=>e=.returned (.string ⟨(Lib.trimPrefix s.data.toList p.data.toList).toArray⟩)∧w'=w:=Any.strings_TrimPrefix Tryz.qR s p w
def Tryz.EO:Go.Shelf.Ren:=⟨fun | 146=>23 | 221=>55 | 268=>97 | 138=>98 | 143=>99 | 195=>144 | 197=>145 | 218=>146 | 219=>147 | 260=>183 | 217=>184 | 225=>185 | 224=>186 | 267=>187 | 266=>211 | 314=>212 | n=>n,fun | 9=>9 | 31=>26 | 3=>3 | 4=>4 | 0=>0 | 105=>220 | 21=>21 | 5=>5 | 46=>151 | 119=>305 | 139=>308 | 138=>307 | 146=>309 | 51=>150 | n=>n,fun | 1=>1 | 3=>3 | 4=>4 | n=>n⟩
theorem Tryz.qQ:Go.Proofs.Lays.n146 Tryz.prog Tryz.EO:={
 mixed:=by kernel_rfl
 f138:=Tryz.func98.trans (ZM some (by kernel_rfl))
 f143:=Tryz.func99.trans (ZM some (by kernel_rfl))
 f146:=Tryz.func23.trans (ZM some (by kernel_rfl))
 f195:=Tryz.func144.trans (ZM some (by kernel_rfl))
 f197:=Tryz.func145.trans (ZM some (by kernel_rfl))
 f217:=Tryz.func184.trans (ZM some (by kernel_rfl))
 f218:=Tryz.func146.trans (ZM some (by kernel_rfl))
 f219:=Tryz.func147.trans (ZM some (by kernel_rfl))
 f221:=Tryz.func55.trans (ZM some (by kernel_rfl))
 f224:=Tryz.func186.trans (ZM some (by kernel_rfl))
 f225:=Tryz.func185.trans (ZM some (by kernel_rfl))
 f260:=Tryz.func183.trans (ZM some (by kernel_rfl))
 f266:=Tryz.func211.trans (ZM some (by kernel_rfl))
 f267:=Tryz.func187.trans (ZM some (by kernel_rfl))
 f268:=Tryz.func97.trans (ZM some (by kernel_rfl))
 f314:=Tryz.func212.trans (ZM some (by kernel_rfl))
 t0:=Tryz.underlying0
 a0:=Tryz.isAgg0
 z0:=Tryz.sizeOf0
 v0:=Tryz.zeroValue0
 t3:=Tryz.underlying3
 a3:=Tryz.isAgg3
 z3:=Tryz.sizeOf3
 v3:=Tryz.zeroValue3
 t4:=Tryz.underlying4
 a4:=Tryz.isAgg4
 z4:=Tryz.sizeOf4
 v4:=Tryz.zeroValue4
 t5:=Tryz.underlying5
 a5:=Tryz.isAgg5
 z5:=Tryz.sizeOf5
 v5:=Tryz.zeroValue5
 t9:=Tryz.underlying9
 a9:=Tryz.isAgg9
 z9:=Tryz.sizeOf9
 v9:=Tryz.zeroValue9
 t21:=Tryz.underlying21
 a21:=Tryz.isAgg21
 z21:=Tryz.sizeOf21
 v21:=Tryz.zeroValue21
 t31:=Tryz.underlying26
 a31:=Tryz.isAgg26
 z31:=Tryz.sizeOf26
 v31:=Tryz.zeroValue26
 t46:=Tryz.underlying151
 a46:=Tryz.isAgg151
 z46:=Tryz.sizeOf151
 v46:=Tryz.zeroValue151
 t51:=Tryz.underlying150
 a51:=Tryz.isAgg150
 z51:=Tryz.sizeOf150
 v51:=Tryz.zeroValue150
 t105:=Tryz.underlying220
 a105:=Tryz.isAgg220
 z105:=Tryz.sizeOf220
 v105:=Tryz.zeroValue220
 t119:=Tryz.underlying305
 a119:=Tryz.isAgg305
 z119:=Tryz.sizeOf305
 t138:=Tryz.underlying307
 a138:=Tryz.isAgg307
 z138:=Tryz.sizeOf307
 v138:=Tryz.zeroValue307
 t139:=Tryz.underlying308
 a139:=Tryz.isAgg308
 z139:=Tryz.sizeOf308
 v139:=Tryz.zeroValue308
 t146:=Tryz.underlying309
 a146:=Tryz.isAgg309
 z146:=Tryz.sizeOf309
 v146:=Tryz.zeroValue309
 g1:=by kernel_rfl
 g3:=by kernel_rfl
 g4:=by kernel_rfl }
open Go.RowKit Go.Lib in
theorem Tryz.strings_Split (s sep:ByteArray) (m:Int) (w:World) (hs:s.size<4294967281) (hm:w.cell? ⟨1,0,none⟩=some (.int .i64 m)) (h1:1≤sep.size) :
    Calls Tryz.prog 23 #[.string s,.string sep] w fun e w' =>
     e=.returned (.slice (some ⟨w.heap.size,0,none⟩) (Lib.countB s sep+1) (Lib.countB s sep+1))∧w'=w.alloc (.cells ((Lib.splitB sep 0 (Lib.countB s sep) s).map Value.string).toArray 9):=Any.strings_Split Tryz.qQ (by kernel_rfl) s sep m w hs hm h1
def Tryz.EN:Go.Shelf.Ren:=⟨fun | 110=>149 | 109=>102 | n=>n,fun | 31=>26 | 9=>9 | 4=>4 | 3=>3 | 0=>0 | n=>n,fun | n=>n⟩
theorem Tryz.qP:Go.Proofs.Lays.n110 Tryz.prog Tryz.EN:={
 mixed:=by kernel_rfl
 f109:=Tryz.func102.trans (ZM some (by kernel_rfl))
 f110:=Tryz.func149.trans (ZM some (by kernel_rfl))
 t0:=Tryz.underlying0
 a0:=Tryz.isAgg0
 z0:=Tryz.sizeOf0
 v0:=Tryz.zeroValue0
 t3:=Tryz.underlying3
 a3:=Tryz.isAgg3
 z3:=Tryz.sizeOf3
 v3:=Tryz.zeroValue3
 t4:=Tryz.underlying4
 a4:=Tryz.isAgg4
 z4:=Tryz.sizeOf4
 v4:=Tryz.zeroValue4
 t9:=Tryz.underlying9
 a9:=Tryz.isAgg9
 z9:=Tryz.sizeOf9
 v9:=Tryz.zeroValue9
 t31:=Tryz.underlying26
 a31:=Tryz.isAgg26
 z31:=Tryz.sizeOf26
 v31:=Tryz.zeroValue26 }
open Go.Lib in
theorem Tryz.slices_Contains_string (b off n c:Nat) (zs:List ByteArray) (x:ByteArray) (w:World) (hz:n≤zs.length) (hbig:n≤9223372036854775807) (hc:∀j,j<zs.length→w.cell? ⟨b,off+j,none⟩=some (.string (zs.getD j ByteArray.empty))) :
    Calls Tryz.prog 149 #[.slice (some ⟨b,off,none⟩) n c,.string x] w fun e w'=>e=.returned (.bool (Lib.containsS (zs.take n) x))∧w'=w:=Any.slices_Contains_string Tryz.qP b off n c zs x w hz hbig hc
end
section
open Go.RowKit Go.Shelf
variable {m:Int} {L:List ByteArray} {ys:List Int} {ns:List TO} {B i lo lo' n o pB z:Nat} {κ:Sc} {σ:Sx} {e te:TypeId} {c:UInt8} {a b d pe v vE:Value} {W w w' w1:World}
structure ze (w:World) (m:Int) (te:TypeId) (pe:Value):Prop where
 mx:w.cell? ⟨1,0,none⟩=some (.int .i64 m)
 es:w.cell? ⟨7,0,none⟩=some (.iface te pe)
theorem ze.later (h:ze w m te pe) (hb:Zi w w'):ze w' m te pe :=
 ⟨(hb.cell (p:=⟨1,0,none⟩) (ZG w _ h.mx)).trans h.mx,(hb.cell (p:=⟨7,0,none⟩) (ZG w _ h.es)).trans h.es⟩
theorem L4 (p:ByteArray):p.toList=p.data.toList:=by
 cases p with
 | mk a =>
  cases a with
  | mk l =>
   have e:(⟨l.toArray⟩:ByteArray).toList=l:=by simp
   exact e
theorem mW (l:List UInt8):Lib.trimPrefix l [45]=if l.head?=some 45 then l.tail else l:=by
 unfold Lib.trimPrefix Lib.hasPrefix
 cases l with
 | nil=>rfl
 | cons c r =>
  by_cases h:c=45
  · subst h;simp
  simp [h,Ne.symm h]
theorem Tg (b:ByteArray) (w:World) (hs:b.size≤1048576) (hg:ze w m te pe):Calls Tryz.prog 152 #[.string b] w fun e w'=>ER w b e w':=by
 by_cases h0:(b.toList == [48])=true
 case pos =>
  have hb:b.data.toList=[48]:=by rw [←L4];exact ZL.1 h0
  have hn:SP b.data.toList=some 0:=by rw [hb];rfl
  have HN:=ZU hn;clear hb hn
  go_enter Tryz.func152,Tryz.ntmps152
  go_wp2_with fail
  go_ret2
  exact ⟨0,true,rfl,Yy,by rw [HN.out];rfl,fun x hx=>by rw [HN.out] at hx;injection hx⟩
 case neg =>
  have h0':(b.toList == [48])=false:=by simpa using h0
  have hne:b.data.toList≠[48]:=fun e=>h0 (by rw [L4,e];rfl)
  have HP:=ZU (zg (l:=b.data.toList) rfl hne);have HG:=ZU hg;have HT:=ZU (Tryz.strings_TrimPrefix b ⟨#[45]⟩ w);rw [show (⟨#[45]⟩:ByteArray).data.toList=[45] from rfl,mW] at HT;clear h0 hne hg;generalize hd:(if b.data.toList.head?=some 45 then b.data.toList.tail else b.data.toList)=d at *;have HL:Hid (d.length≤1048576):=by
   show d.length≤_;rw [←hd];have:=Tt b
   split
   · rw [List.length_tail];omega
   omega
  clear hd;obtain ⟨D,hD⟩:∃D:ByteArray,D=⟨d.toArray⟩:=⟨_,rfl⟩;rw [←hD] at HT;have Z2:D.data.toList=d:=by rw [hD]
  subst Z2;clear hD;have hDl:=Tt D
  go_enter Tryz.func152,Tryz.ntmps152
  go_wp2_with fail
  refine HT.out.mono ?_;rintro e w1 ⟨rfl,rfl⟩;clear HT
  by_cases z:D.size=0
  case pos =>
   have hnil:D.data.toList=[]:=Zg (by omega);have hz:(D.toList == [])=true:=by rw [L4,hnil];rfl
   have ST:=ZU (HP.out.1 (.inl hnil));clear hnil HP HL hDl z
   go_wp2_with fail
   go_ret2
   exact ER.no ST.out Yy
  have hz:(D.toList == [])=false:=by
   rw [L4]
   cases hx:D.data.toList with
   | nil=>rw [hx] at hDl;simp at hDl;omega
   | cons c r=>rfl
  by_cases z9:9<D.size
  case pos =>
   have ZW:(9:Int)<(D.size:Int):=by omega
   have ST:=ZU (HP.out.1 (.inr (.inl (by omega))));clear HP HL hDl z9
   go_wp2_with fail
   go_ret2
   exact ER.no ST.out Yy
  have ZW:¬(9:Int)<(D.size:Int):=by omega
  have hD0:0<D.size:=by omega
  have hhd:=qS D hD0
  by_cases z1:D[0].toNat<49
  case pos =>
   have xF:((D[0].toNat:Nat):Int)<49:=by omega
   have ST:=ZU (HP.out.1 (.inr (.inr ⟨_,hhd,.inl z1⟩)));clear HP HL hDl z1 hhd
   go_wp2_with fail
   go_ret2
   exact ER.no ST.out Yy
  have xF:¬((D[0].toNat:Nat):Int)<49:=by omega
  by_cases z2:57<D[0].toNat
  case pos =>
   have lq:(57:Int)<((D[0].toNat:Nat):Int):=by omega
   have ST:=ZU (HP.out.1 (.inr (.inr ⟨_,hhd,.inr z2⟩)));clear HP HL hDl z2 hhd
   go_wp2_with fail
   go_ret2
   exact ER.no ST.out Yy
  have lq:¬(57:Int)<((D[0].toNat:Nat):Int):=by omega
  have hpi:=HP.out.2 (fun e=>by rw [e] at hDl;simp at hDl;omega) (by omega) (fun c hc=>by
   rw [hhd] at hc
   injection hc with hc
   subst hc;omega)
  cases hx:SP b.data.toList with
  | some v =>
   rw [hx] at hpi;have HC:=ZU (Tryz.strconv_ParseInt_10_at64_ok b (by omega) v hpi w1);have HX:=ZU hx;clear HP HL hDl hhd hpi hx z1 z2
   go_wp2_with fail
   refine HC.out.mono ?_;rintro e w2 ⟨rfl,hw⟩;have B2:Hid (Zi w1 w2):=by
    rcases hw with rfl | ⟨t,rfl⟩
    · exact Yy
    exact Lib.bytesWorld_below _ _ _
   clear hw HC
   go_wp2_with fail
   go_quiet (fail)
   have B3:=ZU (B2.out.trans ((below_drewN' w2 nq).mono B2.out.size));generalize w2.drewN nq=w3 at *
   go_wp2_with fail
   go_ret2
   exact ⟨v,true,rfl,B3.out,by rw [HX.out];rfl,fun x hx=>by rw [HX.out] at hx;injection hx⟩
  | none =>
   rw [hx] at hpi;have HC:=ZU (Tryz.Rh b (by omega) hpi (.iface te pe) w1 HG.out.es (.inr ⟨te,pe,rfl⟩));have HX:=ZU hx;clear HP HL hDl hhd hpi hx z1 z2
   go_wp2_with fail
   refine HC.out.mono ?_;rintro e w2 ⟨N,rfl,-,-,b2⟩;have B2:=ZU b2;clear b2 HC
   go_wp2_with fail
   go_quiet (fail)
   have B3:=ZU (B2.out.trans ((below_drewN' w2 nq).mono B2.out.size));generalize w2.drewN nq=w3 at *
   go_wp2_with fail
   go_ret2
   exact ER.no HX.out B3.out
def RC (c:UInt8):List UInt8→List UInt8→List (List UInt8)
 | cur,[]=>[cur]
 | cur,x :: l=>if x=c then cur :: RC c [] l else RC c (cur++[x]) l
theorem Nb (c:UInt8) (cur:List UInt8):RC c cur []=[cur]:=by rw [RC]
theorem Na (c:UInt8) (cur l:List UInt8):RC c cur (c :: l)=cur :: RC c [] l:=by rw [RC,Z0 rfl]
theorem M9 {x:UInt8} (h:x≠c) (cur l:List UInt8):RC c cur (x :: l)=RC c (cur++[x]) l:=by rw [RC,Z1 h]
theorem RQ :∀(l cur:List UInt8),c ∉ l→RC c cur l=[cur++l]
 | [],cur,_=>by rw [Nb,YD]
 | x :: l,cur,h=>by
  rw [M9 (fun e=>h (by rw [e];exact YO ..)),RQ l _ (fun hm=>h (Zp _ hm))]
  simp
theorem Rg :∀(a r cur:List UInt8),c ∉ a→RC c cur (a++c :: r)=(cur++a) :: RC c [] r
 | [],r,cur,_=>by rw [Zd,Na,YD]
 | x :: a,r,cur,h=>by
  rw [Y3,M9 (fun e=>h (by rw [e];exact YO ..)),Rg a r _ (fun hm=>h (Zp _ hm))]
  simp
theorem EL (c:UInt8):∀(l cur:List UInt8),0<(RC c cur l).length
 | [],cur=>by rw [Nb];simp
 | x :: l,cur=>by
  by_cases h:x=c
  · subst h;rw [Na];simp
  rw [M9 h];exact EL c l _
theorem Kq (c:UInt8):∀(l cur:List UInt8),(RC c cur l).length≤l.length+1∧∀a ∈ RC c cur l,a.length≤cur.length+l.length
 | [],cur=>by rw [Nb];simp
 | x :: l,cur=>by
  by_cases h:x=c
  · subst h
    obtain ⟨h1,h2⟩:=Kq x l [];rw [Na];refine ⟨by simp;omega,fun a ha=>?_⟩
    rcases Y9.1 ha with rfl | ha
    · simp
    have:=h2 a ha;simp at this ⊢;omega
  obtain ⟨h1,h2⟩:=Kq c l (cur++[x]);rw [M9 h];refine ⟨by simp;omega,fun a ha=>?_⟩;have:=h2 a ha;simp at this ⊢;omega
def UG (l:List UInt8):ByteArray:=⟨l.toArray⟩
theorem M6 (b:ByteArray):UG b.data.toList=b:=rfl
theorem Qu (l:List UInt8):(UG l).data.toList=l:=rfl
def UH (b:ByteArray):List ByteArray:=(RC 32 [] b.data.toList).map UG
theorem EK (s:ByteArray) (a b:Nat):(s.extract a b).data.toList=(s.data.toList.drop a).take (b - a):=by
 rw [Ve,UV,VL]
theorem qO:∀(k:Nat) (s:ByteArray),Lib.countB s ⟨#[32]⟩=k→Lib.splitB ⟨#[32]⟩ 0 k s=UH s:=by
 have hone:∀s:ByteArray,Lib.indexB s ⟨#[32]⟩=Lib.indexByte s.data.toList 32:=fun s=>Lib.index_one _ _
 intro k
 induction k with
 | zero =>
  intro s hk
  rcases Lib.indexB_cases s ⟨#[32]⟩ with h | ⟨i,h,-⟩
  · rw [Lib.splitB_miss _ _ _ _ h]
    have h9:=Lib.indexByte_none ((hone s).symm.trans h);unfold UH;rw [RQ _ _ (fun hm=>by obtain ⟨j,hj,e⟩:=Up hm;exact h9 j (by rw [ZF hj,e]))]
    rfl
  rw [Lib.countB_hit s _ i (by decide) h] at hk;omega
 | succ k ih =>
  intro s hk
  rcases Lib.indexB_cases s ⟨#[32]⟩ with h | ⟨i,h,hi⟩
  · rw [Lib.countB_miss s _ h] at hk;omega
  rw [Lib.countB_hit s _ i (by decide) h] at hk;rw [Lib.splitB_hit _ _ _ _ i h,ih _ (by omega)];obtain ⟨h1,h2⟩:=Lib.indexByte_some ((hone s).symm.trans h);have hs1:(⟨#[32]⟩:ByteArray).size=1:=rfl;rw [hs1] at hi ⊢;have hil:i<s.data.toList.length:=by rw [Tt];omega
  have hsp:s.data.toList=s.data.toList.take i++32 :: s.data.toList.drop (i+1):=by
   rw [ZF hil] at h1
   injection h1 with h1
   rw [←h1,←Yg hil,YQ]
  unfold UH
  conv=>rhs;rw [hsp,Rg _ _ _ (fun hm=>by
   obtain ⟨j,hj,e⟩:=Up hm;rw [Zw] at hj;exact h2 j (by omega) (by rw [←e,List.getElem_take,ZF]))]
  rw [Yl]
  congr 1
  · apply WM
    apply Array.toList_inj.1;rw [EK s 0 (i+0)]
    simp [UG]
  rw [EK s (i+1) s.size,Y8 (by rw [ZS,Tt];omega)]
def bI (b:ByteArray):List Int:=b.data.toList.map fun x=>(x.toNat:Int)
theorem QO (b:ByteArray):(bI b).length=b.size:=by unfold bI;rw [Zl,Tt]
theorem mV (b:ByteArray) (i:Nat) (h:i<b.size):(bI b).getD i 0=(b[i].toNat:Int):=by
 unfold bI;rw [List.getD,Yo,CE b i h]
 rfl
theorem uP (b:ByteArray) (a n:Nat):strOfNums (((bI b).drop a).take n)=UG ((b.data.toList.drop a).take n):=by
 unfold bI strOfNums UG;rw [List.map_drop.symm,UD.symm,SF]
 congr 2
 conv=>rhs;rw [←List.map_id (List.take n (List.drop a b.data.toList))]
 refine Vw fun x _=>?_
 simp
def Ro (w:World) (lo:Nat) (v:Value) (L:List ByteArray):Prop:=w.ownsRow lo 9 1 v L.length (L.map Value.string)
theorem Tryz.uO:(Tryz.prog.info? 9).map (fun i=>(i.zero,i.size,i.bytes))=some (some (.string ByteArray.empty),1,16):=by kernel_rfl
theorem qN (b:ByteArray) (fr i:Nat) (hf:fr≤i) (hi:i<b.size):(b.data.toList.drop fr).take (i+1 - fr)=(b.data.toList.drop fr).take (i - fr)++[b[i]]:=by
 rw [show i+1 - fr=(i - fr)+1 by omega,TF,Yt,show fr+(i - fr)=i by omega,CE b i hi]
 rfl
theorem drop_at (b:ByteArray) (i:Nat) (hi:i<b.size):b.data.toList.drop i=b[i] :: b.data.toList.drop (i+1):=by
 rw [Yg (by rw [Tt];exact hi)]
 congr 1
theorem mT {k:IntKind} {c:Nat} (h:Rd k w (.slice (some ⟨B,o,none⟩) n c) ys) (a m:Nat) (ZV:a+m≤n):Rd k w (.slice (some ⟨B,o+a,none⟩) m (c - a)) ((ys.drop a).take m):=by
 obtain ⟨ao,cap,e,h1,h2,h3⟩:=h
 simp only [ZC] at e
 obtain ⟨rfl,rfl,rfl⟩:=e;have hl:((ys.drop a).take m).length=m:=by rw [Zw,ZS];omega
 refine ⟨_,_,by rw [hl],by omega,by omega,?_⟩
 rcases h3 with rfl | ⟨b',o',e',hb,hc⟩
 · exact .inl (by simp)
 injection e' with e'
 injection e' with e1 e2
 subst e1 e2;refine .inr ⟨_,_,rfl,hb,fun i hi=>?_⟩;rw [hl] at hi;rw [Xu,hc (a+i) (by omega)]
 simp [List.getD,Yt,hi]
def Ko (c:UInt8):Bool:=decide (33≤c.toNat) && decide (c.toNat≤126)
theorem uN (c:UInt8):Ko c=true↔33≤c.toNat∧c.toNat≤126:=by unfold Ko;simp
def Wh (b:ByteArray):Bool:=decide (0<b.size) && b.data.toList.all Ko
def Yh (L:List ByteArray) (i:Nat):ByteArray:=L.getD i ⟨#[]⟩
theorem OT (h:i<L.length):Yh L i=L[i]:=by unfold Yh;rw [List.getD,ZF h];rfl
theorem Ro.cells (h:Ro w lo v L) (h0:0<L.length):∃g c,v=.slice (some ⟨g,0,none⟩) L.length c∧lo≤g∧g<w.heap.size∧L.length≤c∧c≤maxLen∧∀i,i<L.length→w.cell? ⟨g,i,none⟩=some (.string (Yh L i)):=by
 have h':=h
 rcases h.2 with ⟨-,h9⟩ | ⟨g,cap,cur,rfl,h1,h2,h3,h4,h5,h6⟩
 · omega
 refine ⟨g,cap,rfl,h1,(Z3.1 h2).1,h3,h4,fun i hi=>?_⟩;rw [Wv h' i (by omega),OT hi,Yo,ZF hi]
 rfl
theorem Ro.nil (w:World) (lo:Nat) (hl:lo≤w.heap.size):Ro (w.alloc (.cells #[] 9)) lo (.slice (some ⟨w.heap.size,0,none⟩) 0 0) []:=by
 have:=WX (base:=lo) (e:=9) (size:=1) w #[] 0 hl (by decide) rfl;show World.ownsRow _ _ _ _ _ _ _
 simpa using this
def TU (b:ByteArray):Bool:=b.toList == [59]
def NZ (b:ByteArray):ByteArray:=if (b.toList == [45])=true then ⟨#[]⟩ else b
def JO (f0 f1 f2:ByteArray):Option TO :=
 if (f0.toList == [99,114,101,97,116,101])=true then some ⟨1,f1,NZ f2,0,false⟩
 else if (f0.toList == [115,101,113])=true then some ⟨1,f1,NZ f2,0,true⟩
 else if (f0.toList == [100,101,108,101,116,101])=true then (SP f2.data.toList).map fun v=>⟨2,f1,⟨#[]⟩,v,false⟩
 else if (f0.toList == [99,104,101,99,107])=true then (SP f2.data.toList).map fun v=>⟨4,f1,⟨#[]⟩,v,false⟩
 else none
def JN (f0 f1 f2 f3:ByteArray):Option TO :=
 if (f0.toList == [115,101,116])=true then (SP f3.data.toList).map fun v=>⟨3,f1,NZ f2,v,false⟩ else none
def PT (L:List ByteArray):Option TO :=
 if L.any TU=true then none
 else if L.length=3 then JO (Yh L 0) (Yh L 1) (Yh L 2)
 else if L.length=4 then JN (Yh L 0) (Yh L 1) (Yh L 2) (Yh L 3)
 else none
def tr (w:World) (v:Value) (L:List ByteArray):Prop :=
 ∃ao cap,v=.slice ao L.length cap∧L.length≤cap∧cap≤maxLen ∧
  (L=[]∨∃b off,ao=some ⟨b,off,none⟩∧b<w.heap.size∧∀i,i<L.length→w.cell? ⟨b,off+i,none⟩=some (.string (Yh L i)))
theorem tr.below (h:tr w v L) (hb:Zi w w'):tr w' v L:=by
 obtain ⟨ao,cap,rfl,h1,h2,h3⟩:=h;refine ⟨ao,cap,rfl,h1,h2,h3.imp id ?_⟩;rintro ⟨b,off,rfl,hl,hc⟩;exact ⟨b,off,rfl,ZY hl hb.size,fun i hi=>(hb.cell (p:=⟨b,off+i,none⟩) hl).trans (hc i hi)⟩
def JM (w:World) (L:List ByteArray) (e:Ending) (w':World):Prop:=∃(o:TO) (ok:Bool),e=.returned (.tuple #[MV o,.bool ok])∧Zi w w'∧ok=(PT L).isSome∧∀x,PT L=some x→o=x
theorem JM.no {o:TO} (h:PT L=none) (hb:Zi w w'):JM w L (.returned (.tuple #[MV o,.bool false])) w':=⟨o,false,rfl,hb,by rw [h];rfl,fun x hx=>by rw [h] at hx;cases hx⟩
theorem JM.yes {o:TO} (h:PT L=some o) (hb:Zi w w'):JM w L (.returned (.tuple #[MV o,.bool true])) w':=⟨o,true,rfl,hb,by rw [h];rfl,fun x hx=>by rw [h] at hx;injection hx⟩
theorem QN (hb:Zi w w1) {c e:Value} (X:St w1 w.heap.size [a,b,c,d,e]) (o:TO) :
    Zi w (((((w1.setCell ⟨w.heap.size,0,none⟩ (.int .i64 o.kind)).setCell ⟨w.heap.size,1,none⟩ (.string o.path)).setCell ⟨w.heap.size,2,none⟩ (.string o.data)).setCell ⟨w.heap.size,3,none⟩ (.int .i64 o.XT)).setCell ⟨w.heap.size,4,none⟩ (.bool o.seq)) ∧
    St (((((w1.setCell ⟨w.heap.size,0,none⟩ (.int .i64 o.kind)).setCell ⟨w.heap.size,1,none⟩ (.string o.path)).setCell ⟨w.heap.size,2,none⟩ (.string o.data)).setCell ⟨w.heap.size,3,none⟩ (.int .i64 o.XT)).setCell ⟨w.heap.size,4,none⟩ (.bool o.seq)) w.heap.size [.int .i64 o.kind,.string o.path,.string o.data,.int .i64 o.XT,.bool o.seq] :=
 ⟨((((hb.setCell YR _).setCell YR _).setCell YR _).setCell YR _).setCell YR _,((((X.set 0 _).set 1 _).set 2 _).set 3 _).set 4 _⟩
def Pj (r:Nat):Bool:=decide (r<33) || decide (126<r)
theorem M5 (W:World) (x:Nat) (hx:x≤1114111):Calls Tryz.prog 58 #[.int .i32 (x:Int)] W fun e w'=>e=.returned (.bool (Pj x))∧w'=W:=by
 by_cases h1:x<33
 · have xF:(x:Int)<33:=by omega
   have HB:Hid (Pj x=true):=by show _=_;unfold Pj;rw [Zm h1];rfl
   go_enter Tryz.func58,Tryz.ntmps58
   go_wp2;go_ret;exact ⟨by rw [HB.out];rfl,rfl⟩
 have xF:¬(x:Int)<33:=by omega
 by_cases h2:126<x
 · have lq:(126:Int)<(x:Int):=by omega
   have HB:Hid (Pj x=true):=by show _=_;unfold Pj;rw [Zm h2,Bool.or_true]
   go_enter Tryz.func58,Tryz.ntmps58
   go_wp2;go_ret;exact ⟨by rw [HB.out];rfl,rfl⟩
 have lq:¬(126:Int)<(x:Int):=by omega
 have HB:Hid (Pj x=false):=by show _=_;unfold Pj;rw [Zo h1,Zo h2];rfl
 go_enter Tryz.func58,Tryz.ntmps58
 go_wp2;go_ret;exact ⟨by rw [HB.out];rfl,rfl⟩
theorem zd (w:World):PredAtRunes Tryz.prog 58 #[] Pj w:=fun W x hx _=>by
 refine (M5 W x hx).mono ?_;rintro e w' ⟨rfl,rfl⟩;exact ⟨rfl,0,rfl⟩
theorem EJ:∀args w,(callFunc 58 args).run Tryz.prog w=.ok (.enter 58 args) w:=enters_of Tryz.func58 (by kernel_rfl) rfl
theorem A8 (s:ByteArray):∀(f pos:Nat),s.size≤pos+f→(0≤Lib.idxFuncFrom Pj true s f pos↔(s.data.toList.drop pos).all Ko=false)
 | 0,pos,h=>by
  have hd:s.data.toList.drop pos=[]:=XS (by rw [Tt];omega);rw [hd]
  simp [Lib.idxFuncFrom]
 | f+1,pos,h=>by
  by_cases hp:pos<s.size
  · rw [drop_at s pos hp,VR]
    unfold Lib.idxFuncFrom;rw [Z0 hp]
    by_cases ha:s[pos].toNat<128
    · rw [decode_ascii s pos hp ha]
      simp only []
      cases hb:Pj s[pos].toNat with
      | true =>
       rw [Z0 rfl];have hno:Ko s[pos]=false:=by
        unfold Pj at hb;unfold Ko
        simp at hb ⊢
        omega
       rw [hno]
       simp
      | false =>
       rw [Z1 (by decide)];have qM:Ko s[pos]=true:=by
        unfold Pj at hb;rw [uN]
        simp at hb
        omega
       rw [qM,Xz];exact A8 s f (pos+1) (by omega)
    have hh:=decode_high s pos hp (by omega);have hb:Pj (Utf8.decode s pos).1=true:=by unfold Pj;simp;omega
    rw [Z0 hb];have hno:Ko s[pos]=false:=by unfold Ko;simp;omega
    rw [hno]
    simp
  rw [Lib.idxFuncFrom_end _ _ _ _ _ hp];have hd:s.data.toList.drop pos=[]:=XS (by rw [Tt];omega);rw [hd]
  simp
theorem JL (w:World) (b:ByteArray):Calls Tryz.prog 25 #[.string b] w (Wj w (.bool (!Wh b))):=by
 by_cases h0:b.size=0
 · have hn:b.data.toList=[]:=Zg (by rw [Tt];exact h0)
   have hz:(b.toList == [])=true:=by rw [L4,hn];rfl
   have HG:Hid (Wh b=false):=by show _=_;unfold Wh;rw [Zo (by omega)];rfl
   clear h0 hn
   go_enter Tryz.func25,Tryz.ntmps25
   go_wp2_with fail
   go_ret;exact ⟨by rw [HG.out];rfl,Yy⟩
 have hz:(b.toList == [])=false:=by
  rw [L4]
  cases hx:b.data.toList with
  | nil=>have:=Tt b;rw [hx] at this;simp at this;omega
  | cons c r=>rfl
 have hi:0≤Lib.idxFunc Pj true b↔(b.data.toList.drop 0).all Ko=false:=A8 b b.size 0 (by omega);rw [XR] at hi;have HG:Hid (decide (0≤Lib.idxFunc Pj true b)=!Wh b):=by
  show _=_;unfold Wh;rw [Zm (show 0<b.size by omega),Xz]
  cases hx:b.data.toList.all Ko with
  | true=>rw [Zo (fun h9=>by rw [hi.1 h9] at hx;cases hx)];rfl
  | false=>rw [Zm (hi.2 hx)];rfl
 have HC:=ZU (Tryz.strings_ContainsFunc_runes 58 #[] EJ Pj b w (zd w));rw [HG.out] at HC;clear h0 hi HG
 go_enter Tryz.func25,Tryz.ntmps25
 go_wp2_with fail
 refine HC.out.mono ?_;rintro e w1 ⟨rfl,b1⟩;have B1:=ZU b1;clear b1 HC
 go_wp2_with fail
 go_ret;exact ⟨rfl,B1.out⟩
def mS (n:TO):List Value:=[.int .i64 n.kind,.string n.path,.string n.data,.int .i64 n.XT,.bool n.seq]
def uM (ns:List TO):List Value:=ns.flatMap mS
theorem IY (n:TO) (ns:List TO):uM (n :: ns)=mS n++uM ns:=by simp [uM]
theorem EI:∀(ns:List TO) (i j:Nat),i<ns.length→j<5→(uM ns)[i*5+j]?=(mS (Qg ns i))[j]?
 | [],i,j,h,_=>by simp at h
 | n :: ns,0,j,_,hj=>by
  rw [IY,Xg,Za,Zy (by show j<5;exact hj)];rfl
 | n :: ns,i+1,j,h,hj=>by
  rw [IY,Zv (by show 5≤_;omega),show (i+1)*5+j - (mS n).length=i*5+j by show (i+1)*5+j - 5=_;omega,EI ns i j (by simpa using h) hj]
  rfl
def RP (e:TypeId) (w:World) (lo:Nat) (v:Value) (ns:List TO):Prop:=w.ownsRow lo e 5 v ns.length (uM ns)
theorem RP.rd (h:RP e w lo v ns):JR w v ns:=by
 rcases h.2 with ⟨rfl,h0⟩ | ⟨g,cap,cur,rfl,hb,hg,hn,hm,hs,ht⟩
 · have:ns=[]:=Zg h0
   subst this;exact ⟨none,0,rfl,YR,Zu _,.inl rfl⟩
 refine ⟨_,cap,rfl,hn,hm,.inr ⟨g,0,rfl,(Z3.1 hg).1,fun i hi=>?_⟩⟩;have c:∀j,j<5→w.cell? ⟨g,0+(i*5+j),none⟩=(mS (Qg ns i))[j]?:=fun j hj=>by
  have hh:=EI ns i j hi hj;have h9:(mS (Qg ns i))[j]?=some ((mS (Qg ns i)).getD j undef):=by
   match j,hj with
   | 0,_=>rfl
   | 1,_=>rfl
   | 2,_=>rfl
   | 3,_=>rfl
   | 4,_=>rfl
  rw [h9] at hh;have:=Ys h (g:=g) rfl (i*5+j) _ hh;rw [YY] at this;rw [this,h9]
 exact ⟨c 0 (by omega),c 1 (by omega),c 2 (by omega),c 3 (by omega),c 4 (by omega)⟩
theorem RP.below (h:RP e w lo v ns) (hb:Zi w w'):RP e w' lo v ns:=by
 refine ⟨h.1,?_⟩
 rcases h.2 with hn | ⟨g,cap,cur,rfl,hbg,hgg,rest⟩
 · exact .inl hn
 exact .inr ⟨g,cap,cur,rfl,hbg,by rw [hb.block g (Z3.1 hgg).1];exact hgg,rest⟩
theorem RP.mono (h:RP e w lo v ns) (hl:lo'≤lo):RP e w lo' v ns:=by
 refine ⟨h.1,?_⟩
 rcases h.2 with hn | ⟨g,cap,cur,rfl,hbg,rest⟩
 · exact .inl hn
 exact .inr ⟨g,cap,cur,rfl,ZJ hl hbg,rest⟩
theorem RP.slice (h:RP e w lo v ns):∃a c,v=.slice a ns.length c:=by
 obtain ⟨a,c,h0,_⟩:=h.rd.len;exact ⟨a,c,h0⟩
def mR (L:List ByteArray):Prop:=∀i,(Yh L i).size≤1048576
def U8:List ByteArray→Option (List Int)
 | []=>some []
 | b :: L=>match SP b.data.toList with | none=>none | some v=>(U8 L).map fun r=>v :: r
theorem Kn:∀(L:List ByteArray) (b:ByteArray),U8 (L++[b])=match U8 L with | none=>none | some r=>(SP b.data.toList).map fun v=>r++[v]
 | [],b=>by simp only [Zd,U8];cases SP b.data.toList <;> rfl
 | a :: L,b=>by
  simp only [Y3,U8,Kn L b]
  cases SP a.data.toList with
  | none=>rfl
  | some x =>
   cases U8 L with
   | none=>rfl
   | some r=>cases SP b.data.toList <;> rfl
theorem zc :∀ {k:Nat},U8 (L.take k)=none→U8 L=none:=by
 intro k h;rw [←YQ k L];generalize L.take k=A at *;generalize L.drop k=B at *
 induction A with
 | nil=>simp [U8] at h
 | cons a A ih =>
  simp only [Y3,U8] at h ⊢
  cases hx:SP a.data.toList with
  | none=>rfl
  | some x =>
   rw [hx] at h
   cases hy:U8 A with
   | none=>rw [ih hy];rfl
   | some r=>rw [hy] at h;cases h
theorem My:∀ {L:List ByteArray} {r:List Int},U8 L=some r→r.length=L.length
 | [],r,h=>by injection h with h;rw [←h];rfl
 | a :: L,r,h=>by
  simp only [U8] at h
  cases hx:SP a.data.toList with
  | none=>rw [hx] at h;cases h
  | some x =>
   rw [hx] at h
   cases hy:U8 L with
   | none=>rw [hy] at h;cases h
   | some q =>
    rw [hy] at h
    injection h with h
    rw [←h,ZE,My hy,ZE]
theorem Tryz.mQ:(Tryz.prog.info? 2).map (fun i=>(i.zero,i.size,i.bytes))=some (some (.int .i64 0),1,8):=by kernel_rfl
theorem uL {e:Nat} (h:i<e):Yh (L.take e) i=Yh L i:=by
 unfold Yh
 simp [List.getD,h]
theorem EH (L:List ByteArray) (e i:Nat):Yh (L.drop e) i=Yh L (e+i):=by
 unfold Yh
 simp [List.getD,Yt]
theorem qL {c:Nat} (h:tr w (.slice (some ⟨B,o,none⟩) n c) L) (a m:Nat) (ZV:a+m≤n):tr w (.slice (some ⟨B,o+a,none⟩) m (c - a)) ((L.drop a).take m):=by
 obtain ⟨ao,cap,e,h1,h2,h3⟩:=h
 simp only [ZC] at e
 obtain ⟨rfl,rfl,rfl⟩:=e;have hl:((L.drop a).take m).length=m:=by rw [Zw,ZS];omega
 refine ⟨_,_,by rw [hl],by omega,by omega,?_⟩
 rcases h3 with rfl | ⟨b',o',e',hb,hc⟩
 · exact .inl (by simp)
 injection e' with e'
 injection e' with e1 e2
 subst e1 e2;refine .inr ⟨_,_,rfl,hb,fun i hi=>?_⟩;rw [hl] at hi;rw [Xu,hc (a+i) (by omega),uL hi,EH]
def jQ:Nat→List ByteArray→Option (List TO)
 | 0,_=>none
 | n+1,L=>match PT (L.take (L.findIdx TU)) with
  | none=>none
  | some o=>if L.findIdx TU<L.length then (jQ n (L.drop (L.findIdx TU+1))).map fun r=>o :: r else some [o]
theorem uK (W:World) (lo:Nat) (hl:lo≤W.heap.size) (o:TO):RP 159 (W.alloc (.cells #[.int .i64 o.kind,.string o.path,.string o.data,.int .i64 o.XT,.bool o.seq] 159)) lo (.slice (some ⟨W.heap.size,0,none⟩) 1 1) [o] :=
 WX (base:=lo) (e:=159) (size:=5) W #[.int .i64 o.kind,.string o.path,.string o.data,.int .i64 o.XT,.bool o.seq] 1 hl (by decide) rfl
theorem uJ (w:World) (g cap:Nat) (L:List ByteArray) (hL:0<L.length) (pO:L.length≤cap) (hc:cap≤maxLen) (hcl:∀i,i<L.length→w.cell? ⟨g,i,none⟩=some (.string (Yh L i))) (hg:g<w.heap.size) :
    Calls Tryz.prog 56 #[.slice (some ⟨g,0,none⟩) L.length cap,.func (.func 25) #[] #[]] w fun e w'=>∃i:Int,e=.returned (.int .i64 i)∧decide (0≤i)=!(L.all Wh)∧Zi w w':=by
 unfold maxLen at hc;have Qs:=ZU hcl;clear hcl
 go_enter Tryz.func56,Tryz.ntmps56
 go_wp2_with fail
 go_loopw [8] (fun v8 wr=>∃i:Nat,v8=.int .i64 (i:Int)∧i≤L.length∧Hid (Zi w wr)∧Hid (∀j,j<i→Wh (Yh L j)=true)) (fun i _=>L.length - (intOf i).toNat)
 case atStart=>exact ⟨0,rfl,Zu _,Yy,fun j hj=>absurd hj (Nat.not_lt_zero _)⟩
 case round =>
  obtain ⟨i,rfl,hi,HB,HA⟩:=hrel
  by_cases hlt:i<L.length
  · have Rj:(i:Int)<(L.length:Int):=by omega
    have c0:=(HB.out.cell (p:=⟨g,i,none⟩) hg).trans (Qs.out i hlt);have EM:Hid (Wh (Yh L i)=false→L.all Wh=false):=fun h9=>by
     rw [VQ];exact ⟨_,YP hlt,by rw [←OT hlt,h9];decide⟩
    have Oc:Hid (Wh (Yh L i)=true→∀j,j<i+1→Wh (Yh L j)=true):=fun h9 j hj=>by
     by_cases e:j<i
     · exact HA.out j e
     rw [show j=i by omega];exact h9
    clear HA;generalize Yh L i=f at *
    go_wp2_with fail
    refine (JL wr f).mono ?_;rintro e w1 ⟨rfl,b1⟩;have B1:=ZU (WD HB.out b1);clear b1 HB c0
    cases hgd:Wh f with
    | false =>
     have HE:=ZU (EM.out hgd);clear EM Oc hgd
     go_wp2_with fail
     go_ret;exact ⟨(i:Int),rfl,by rw [HE.out,Zm (by omega)];rfl,B1.out⟩
    | true =>
     have HN:=ZU (Oc.out hgd);clear EM Oc hgd
     go_wp2_with fail
     exact ⟨⟨i+1,by go_num,hlt,B1,HN⟩,by simp [intOf];omega⟩
  have Rj:¬(i:Int)<(L.length:Int):=by omega
  have hall:L.all Wh=true:=by
   rw [Yw];intro x hx;obtain ⟨j,hj,e⟩:=Up hx;have:=HA.out j (by omega);rw [OT hj,e] at this;exact this
  have Z4:=ZU hall;clear hall HA
  go_wp2_with fail
  go_ret;exact ⟨-1,rfl,by rw [Z4.out];rfl,HB.out⟩
theorem zb (w:World) (g cap:Nat) (L:List ByteArray) (hL:0<L.length) (pO:L.length≤cap) (hc:cap≤maxLen) (hcl:∀i,i<L.length→w.cell? ⟨g,i,none⟩=some (.string (Yh L i))) (hg:g<w.heap.size) :
    Calls Tryz.prog 24 #[.slice (some ⟨g,0,none⟩) L.length cap,.func (.func 25) #[] #[]] w (Wj w (.bool (!(L.all Wh)))):=by
 have HI:=ZU (uJ w g cap L hL pO hc hcl hg);clear hcl
 go_enter Tryz.func24,Tryz.ntmps24
 go_wp2_with fail
 refine HI.out.mono ?_;rintro e w1 ⟨i,rfl,hi,b1⟩;have B1:=ZU b1;have HD:=ZU hi;clear b1 hi HI
 go_wp2_with fail
 go_ret;exact ⟨by rw [←HD.out];rfl,B1.out⟩
def uI (w:World) (L:List ByteArray) (e:Ending) (w':World):Prop:=∃(vo:Value) (ns:List Int) (ok:Bool),e=.returned (.tuple #[vo,.bool ok])∧Own .i64 2 w' w.heap.size vo ns∧Zi w w'∧ok=(U8 L).isSome∧∀x,U8 L=some x→ns=x
theorem Mx (w:World) (b o cap:Nat) (L:List ByteArray) (hL:0<L.length) (pO:L.length≤cap) (hc:cap≤maxLen) (hL1:L.length≤1048577) (hsz:mR L) (hcl:∀i,i<L.length→w.cell? ⟨b,o+i,none⟩=some (.string (Yh L i))) (hb:b<w.heap.size) (hg:ze w m te pe) :
    Calls Tryz.prog 106 #[.slice (some ⟨b,o,none⟩) L.length cap] w fun e w'=>uI w L e w':=by
 obtain ⟨iq,qK,hq0,qJ,qI⟩:=YM Tryz.mQ;unfold maxLen at hc;have Qs:=ZU hcl;have LW:=ZU hsz;have HG:=ZU hg;clear hcl hsz hg
 go_enter Tryz.func106,Tryz.ntmps106
 go_wp2_with fail
 go_loopw [4,11] (fun v4 v11 wr=>∃(i:Nat) (a:Option Addr) (co:Nat) (ns:List Int),v4=.slice a i co∧v11=.int .i64 (i:Int)∧i≤L.length∧Hid (ns.length=i)∧Hid (Own .i64 2 wr w.heap.size (.slice a i co) ns)∧Hid (Zi w wr)∧Hid (U8 (L.take i)=some ns)) (fun _ i _=>L.length - (intOf i).toNat)
 case atStart=>exact ⟨0,none,0,[],rfl,rfl,Zu _,rfl,ZH _ _ _ _,Yy,rfl⟩
 case round =>
  obtain ⟨i,a,co,ns,rfl,rfl,hi,HL,HO,HB,HN⟩:=hrel;have sB:=HB.out.size
  by_cases hlt:i<L.length
  · have Rj:(i:Int)<(L.length:Int):=by omega
    have c0:=(HB.out.cell (p:=⟨b,o+i,none⟩) hb).trans (Qs.out i hlt);have z0:=LW.out i;have htk:U8 (L.take (i+1))=(SP (Yh L i).data.toList).map fun v=>ns++[v]:=by
     rw [TF,ZF hlt,OT hlt];show U8 (L.take i++[L[i]])=_;rw [Kn,HN.out]
    have lT:=ZU htk;clear htk;generalize Yh L i=f at *
    go_wp2_with fail
    refine (Tg f wr z0 (HG.out.later HB.out)).mono ?_;rintro e w2 ⟨vv,ok,rfl,b2,hok,hvv⟩;have O2:Hid (Own .i64 2 w2 w.heap.size (.slice a i co) ns):=by
     have:=HO.out;exact ⟨this.1,this.2.imp id fun ⟨g,cap,cur,e1,e2,hg,r⟩=>⟨g,cap,cur,e1,e2,(b2.block _ (Z3.1 hg).1).trans hg,r⟩⟩
    have B2:=ZU (WD HB.out b2);have s2:=B2.out.size;have HQ:=ZU (And.intro hok hvv);clear b2 hok hvv HO HB c0
    cases ok with
    | false =>
     have hno:U8 L=none:=by
      refine zc (k:=i+1) ?_;rw [lT.out]
      cases hx:SP f.data.toList with
      | none=>rfl
      | some x=>have:=HQ.out.1;rw [hx] at this;cases this
     have ST:=ZU hno;clear hno lT HQ HN
     go_wp2_with fail
     go_ret2
     exact ⟨_,[],false,rfl,ZH _ _ _ _,B2.out,by rw [ST.out];rfl,fun x hx=>by rw [ST.out] at hx;cases hx⟩
    | true =>
     have hsome:U8 (L.take (i+1))=some (ns++[vv]):=by
      rw [lT.out];obtain ⟨x,hx⟩:=Option.isSome_iff_exists.1 HQ.out.1.symm;rw [hx,HQ.out.2 x hx]
      rfl
     have Pw:=ZU hsome;have OR:Hid (w2.ownsRow w.heap.size 2 1 (.slice a i co) i (ns.map (Value.int .i64))):=by
      have h9:=O2.out;unfold Own at h9;rw [HL.out] at h9;exact h9
     clear hsome lT HQ HN O2
     go_wp2_with (at_builtin;go_must (refine wpList_append_lies _ rfl _ _ 31 rfl w.heap.size 2 iq (.int .i64 0) 1 8 Tryz.underlying31 qK hq0 qJ qI rfl (by decide) _ _ _ rfl (OR.out.alloc _) ⟨w2.heap.size,0,none⟩ 1 1 [.int .i64 vv] rfl rfl (XW _ _ _) (by intro u hu;simp at hu;subst hu;rfl) (by decide) ?c3 ?c4 ?c5 _ rfl ?_))
     case c3=>unfold maxLen;omega
     case c4=>omega
     case c5=>first | omega | (simp;omega)
     intro g5 k5 w5 Rb hg5 Mw Ng;have O5:Hid (Own .i64 2 w5 w.heap.size (.slice (some ⟨g5,0,none⟩) (i+1) k5) (ns++[vv])):=by
      unfold Own;rw [ZZ,HL.out,Y6];exact Rb
     have B5:Hid (Zi w w5):=(B2.out.alloc s2 _).grown hg5 (by simp;omega) (fun q hq=>(ZT OR.out q hq).1);clear Rb hg5 Mw Ng OR B2
     go_wp2_with fail
     exact ⟨⟨i+1,some ⟨g5,0,none⟩,k5,ns++[vv],rfl,by go_num,hlt,by show _=_;rw [ZZ,HL.out];rfl,O5,B5,Pw⟩,by simp [intOf];omega⟩
  have Rj:¬(i:Int)<(L.length:Int):=by omega
  have hfull:U8 L=some ns:=by
   have:=HN.out
   rwa [Y8 (by omega)] at this
  have HF:=ZU hfull;clear hfull HN
  go_wp2_with fail
  go_ret2
  exact ⟨_,ns,true,rfl,HO.out,HB.out,by rw [HF.out];rfl,fun x hx=>by rw [HF.out] at hx;injection hx⟩
theorem Mv (w:World) (ao:Option Addr) (cap:Nat):Calls Tryz.prog 106 #[.slice ao 0 cap] w fun e w'=>uI w [] e w':=by
 go_enter Tryz.func106,Tryz.ntmps106
 go_wp2_with fail
 go_loopw [4,11] (fun v4 v11 wr=>v4=.slice none 0 0∧v11=.int .i64 0∧wr=w) (fun _ _ _=>0)
 case atStart=>exact ⟨rfl,rfl,rfl⟩
 case round =>
  obtain ⟨rfl,rfl,rfl⟩:=hrel
  go_wp2_with fail
  go_ret2
  exact ⟨_,[],true,rfl,ZH _ _ _ _,Yy,rfl,fun x hx=>by injection hx⟩
theorem Mu (w:World) (v:Value) (L:List ByteArray) (h:tr w v L) (hL1:L.length≤1048577) (hsz:mR L) (hg:ze w m te pe):Calls Tryz.prog 106 #[v] w fun e w'=>uI w L e w':=by
 obtain ⟨ao,cap,rfl,h1,h2,h3⟩:=h
 by_cases h0:0<L.length
 · rcases h3 with h3 | ⟨b,o,rfl,hb,hc⟩
   · rw [h3] at h0;simp at h0
   exact Mx w b o cap L h0 h1 h2 hL1 hsz hc hb hg
 have hn:L=[]:=Zg (by omega);subst hn;exact Mv w ao cap
structure Ln where
 kind:Int
 ops:List TO
 Rz:Bool
 path:ByteArray
 nums:List Int
def Oo:Ln:=⟨0,[],false,⟨#[]⟩,[]⟩
def nA (ns:List Int) (i:Nat):Int:=ns.getD i 0
def tq (v lo hi:Int):Bool:=decide (lo≤v) && decide (v≤hi)
def iA (f0:ByteArray) (ns:List Int):Ln :=
 if (f0.toList == [115,116,101,112])=true then (if ns.length=1∧tq (nA ns 0) 1 1000=true then ⟨7,[],false,⟨#[]⟩,ns⟩ else Oo)
 else if (f0.toList == [97,114,109])=true then (if 1≤ns.length∧tq (nA ns 0) 1 10000=true then ⟨8,[],false,⟨#[]⟩,ns⟩ else Oo)
 else if (f0.toList == [99,114,97,115,104])=true then ⟨9,[],false,⟨#[]⟩,ns⟩
 else if (f0.toList == [114,111,116])=true then (if ns.length=3∧tq (nA ns 0) 0 1=true∧tq (nA ns 1) 0 4095=true∧tq (nA ns 2) 1 255=true then ⟨10,[],false,⟨#[]⟩,ns⟩ else Oo)
 else Oo
def iz (L:List ByteArray):Ln :=
 match U8 (L.drop 1) with
 | none=>Oo
 | some ns=>if (L.drop 1).length≤2000 then iA (Yh L 0) ns else Oo
def ll (L:List ByteArray):Ln :=
 if L.length=2∧((Yh L 0).toList == [103,101,116])=true then ⟨3,[],false,Yh L 1,[]⟩
 else if L.length=2∧((Yh L 0).toList == [108,105,115,116])=true then ⟨4,[],false,Yh L 1,[]⟩
 else iz L
def uH (L:List ByteArray):Ln :=
 if L.length=1∧((Yh L 0).toList == [102,108,117,115,104])=true then ⟨2,[],false,⟨#[]⟩,[]⟩
 else if L.length=1∧((Yh L 0).toList == [100,117,109,112])=true then ⟨5,[],false,⟨#[]⟩,[]⟩
 else if L.length=1∧((Yh L 0).toList == [115,110,97,112])=true then ⟨6,[],false,⟨#[]⟩,[]⟩
 else if L.length=1∧((Yh L 0).toList == [114,101,99,111,118,101,114])=true then ⟨11,[],false,⟨#[]⟩,[]⟩
 else if L.length=1∧((Yh L 0).toList == [115,116,97,116,117,115])=true then ⟨12,[],false,⟨#[]⟩,[]⟩
 else ll L
def lk (L:List ByteArray):Ln :=
 match PT L with
 | some o=>⟨1,[o],false,⟨#[]⟩,[]⟩
 | none=>uH L
def dS (L:List ByteArray):Ln :=
 match jQ L.length (L.drop 1) with
 | some os=>⟨1,os,true,⟨#[]⟩,[]⟩
 | none=>Oo
def za (L:List ByteArray):Ln :=
 if ((Yh L 0).toList == [109,117,108,116,105])=true then dS L else lk L
def TQ (b:ByteArray):Ln:=if 60000<b.size then Oo else if (UH b).all Wh=true then za (UH b) else Oo
def mP (w:World) (l:Ln) (e:Ending) (w':World):Prop :=
 ∃(vo vn:Value),e=.returned (.agg #[.int .i64 l.kind,vo,.bool l.Rz,.string l.path,vn])∧RP 159 w' w.heap.size vo l.ops∧Own .i64 2 w' w.heap.size vn l.nums∧Zi w w'
theorem RO {k:Nat} {us:List Value} (h:w.ownsRow lo e k v n us) (hl:lo'≤lo):w.ownsRow lo' e k v n us :=
 ⟨h.1,h.2.imp id fun ⟨g,cap,cur,e1,e2,r⟩=>⟨g,cap,cur,e1,ZJ hl e2,r⟩⟩
theorem QM (hb:Zi w w1) {c e:Value} (X:St w1 w.heap.size [a,b,c,d,e]) (k:Int) (m:Bool) (p:ByteArray) {vo vn:Value} {os:List TO} {ns:List Int} (ho:RP 159 w1 (w.heap.size+1) vo os) (hn:Own .i64 2 w1 (w.heap.size+1) vn ns) :
    Zi w (((((w1.setCell ⟨w.heap.size,0,none⟩ (.int .i64 k)).setCell ⟨w.heap.size,1,none⟩ vo).setCell ⟨w.heap.size,2,none⟩ (.bool m)).setCell ⟨w.heap.size,3,none⟩ (.string p)).setCell ⟨w.heap.size,4,none⟩ vn) ∧
    St (((((w1.setCell ⟨w.heap.size,0,none⟩ (.int .i64 k)).setCell ⟨w.heap.size,1,none⟩ vo).setCell ⟨w.heap.size,2,none⟩ (.bool m)).setCell ⟨w.heap.size,3,none⟩ (.string p)).setCell ⟨w.heap.size,4,none⟩ vn) w.heap.size [.int .i64 k,vo,.bool m,.string p,vn] ∧
    RP 159 (((((w1.setCell ⟨w.heap.size,0,none⟩ (.int .i64 k)).setCell ⟨w.heap.size,1,none⟩ vo).setCell ⟨w.heap.size,2,none⟩ (.bool m)).setCell ⟨w.heap.size,3,none⟩ (.string p)).setCell ⟨w.heap.size,4,none⟩ vn) w.heap.size vo os ∧
    Own .i64 2 (((((w1.setCell ⟨w.heap.size,0,none⟩ (.int .i64 k)).setCell ⟨w.heap.size,1,none⟩ vo).setCell ⟨w.heap.size,2,none⟩ (.bool m)).setCell ⟨w.heap.size,3,none⟩ (.string p)).setCell ⟨w.heap.size,4,none⟩ vn) w.heap.size vn ns:=by
 have hlt:w.heap.size<w.heap.size+1:=WK _;refine ⟨((((hb.setCell YR _).setCell YR _).setCell YR _).setCell YR _).setCell YR _,((((X.set 0 _).set 1 _).set 2 _).set 3 _).set 4 _,?_,?_⟩
 · exact RO (ownsRow_setCell_below (ownsRow_setCell_below (ownsRow_setCell_below (ownsRow_setCell_below (ownsRow_setCell_below ho (a:=⟨w.heap.size,0,none⟩) hlt _) (a:=⟨w.heap.size,1,none⟩) hlt _) (a:=⟨w.heap.size,2,none⟩) hlt _) (a:=⟨w.heap.size,3,none⟩) hlt _) (a:=⟨w.heap.size,4,none⟩) hlt _) (Ux _)
 exact RO (ownsRow_setCell_below (ownsRow_setCell_below (ownsRow_setCell_below (ownsRow_setCell_below (ownsRow_setCell_below hn (a:=⟨w.heap.size,0,none⟩) hlt _) (a:=⟨w.heap.size,1,none⟩) hlt _) (a:=⟨w.heap.size,2,none⟩) hlt _) (a:=⟨w.heap.size,3,none⟩) hlt _) (a:=⟨w.heap.size,4,none⟩) hlt _) (Ux _)
end
end Go.Proofs.YtpmjnbmkippaiaaGreatDoor


