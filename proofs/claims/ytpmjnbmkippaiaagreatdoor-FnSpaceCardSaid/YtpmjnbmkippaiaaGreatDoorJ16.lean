import Derived.Test.YtpmjnbmkippaiaaGreatDoorJ15
import Derived.Test.YtpmjnbmkippaiaaGreatDoorJ07
set_option maxRecDepth 100000
set_option maxHeartbeats 16000000
set_option linter.all false
namespace Go.Proofs.YtpmjnbmkippaiaaGreatDoor
section
open Go.RowKit Go.Conc
variable {ys:List Int} {L S i j n o pB z:Nat} {κ:Sc} {σ:Sx} {vE:Value} {W w:World}
structure Em (κ:Sc) (σ:Sx) (w:World) (pB z o:Nat) (vE:Value) (ys:List Int) (W:World):Prop where
 sv:Sv κ { σ with em:=true } W
 gw:Gw κ w W
 pb:∃x2,St W pB [.int .i64 (z:Int),.int .i64 (o:Int),x2,vE]
 ow:Own .u8 5 W w.heap.size vE ys
theorem Em.below {W':World} (h:Em κ σ w pB z o vE ys W) (hb:Zi W W'):Em κ σ w pB z o vE ys W':=by
 obtain ⟨x2,p⟩:=h.pb;exact ⟨h.sv.below hb,h.gw.trans (Gs.YZ hb).gw,⟨x2,p.below hb⟩,h.ow.below hb⟩
theorem Em.cells (h:Em κ σ w pB z o vE ys W):W.cell? ⟨κ.sB,0,none⟩=some (.pointer (some ⟨κ.mB,0,none⟩))∧W.cell? ⟨κ.sB,1,none⟩=some (.int .i64 κ.S)∧W.cell? ⟨κ.sB,2,none⟩=some (.int .i64 κ.L)∧W.cell? ⟨pB,0,none⟩=some (.int .i64 (z:Int))∧W.cell? ⟨pB,3,none⟩=some vE∧W.cell? ⟨κ.mB,7,none⟩=some (.int .i64 σ.b)∧κ.mB<W.heap.size:=by
 obtain ⟨x2,p⟩:=h.pb;obtain ⟨vd,made,YL,a1,-⟩:=h.sv.dk;obtain ⟨vt,vq,cp,b1,-⟩:=h.sv.mm;exact ⟨a1.cl 0 _ rfl,a1.cl 1 _ rfl,a1.cl 2 _ rfl,p.cl 0 _ rfl,p.cl 3 _ rfl,b1.cl 7 _ rfl,b1.lt⟩
def eM (κ:Sc) (σ:Sx) (w:World) (z o:Nat) (e:Ending) (w':World):Prop :=
 Gw κ w w'∧∃l r,(((Xn σ.T).length:Int)≤κ.S*64∧e=.returned (.string (strOfNums (VS ⟨#[115,101,97,108,101,100]⟩ [z])))∧Sv κ { σ with k:=σ.k+135,g:=2,b:=1,s:=(z:Int),l:=l,r:=r,off:=o,sn:=none,em:=true,pw:=none } w')∨(κ.S*64<((Xn σ.T).length:Int)∧e=.returned (.string ⟨#[115,110,97,112,102,117,108,108]⟩)∧Sv κ { σ with sn:=none,em:=true } w')
theorem uG (κ:Sc) (σ:Sx) (w:World) (h:Sv κ σ w) (pB z o:Nat) (hsn:σ.sn=some (pB,z,o)) (hem:σ.em=false) (hT0:0<σ.T.length) (N:σ.T.length≤1000) (H:∀i,i<σ.T.length→Wl (Ye σ.T i)=true) (G:∀i,i<σ.T.length→0<(Ye σ.T i).path.size) (F:(Xn σ.T).length≤100000) (hTy:Sn (Xn σ.T)) (hQ:σ.Q≠[]) (hfs:σ.fs=[])
    (hpw : σ.pw = none) (hg : σ.g = 1) (hb : σ.b = 0) (hoff : σ.off = 0) (ho : o ≤ σ.full.length) (hfl : (σ.full.length : Int) ≤ κ.L * 64) (hz : z < 1000000) (hk : σ.k ≤ 1000) (hc : Wp κ.S κ.L = true) (htab : ∀ W, Gw κ w W → Po W) (Z7 : ∀ W, Gw κ w W → Lib.TabIs Tryz.prog W "internal/strconv.uint64pow10" .u64 Lib.pow10Tab) :
    Calls Tryz.prog 77 #[.pointer (some ⟨κ.sB,0,none⟩),.int .i64 1000] w (eM κ σ w z o):=by
 obtain ⟨⟨hS1,hS2⟩,hL1,hL2⟩:=(Xk κ.S κ.L).1 hc;obtain ⟨vt,vq,cp,b1,b2,-,-,b5,-⟩:=h.mm;obtain ⟨vd,made,YL,a1,-⟩:=h.dk;obtain ⟨p1,p2,p3,p4,p5,p6⟩:=h.sn _ hsn
 replace p2:=Q2 p2
 have hpb:=p1.2 hem;have hap:=Mr b2 (List.length_pos_iff.1 hT0) hpb;obtain ⟨ta,tc,rfl,ht1,ht2⟩:=b2.len;obtain ⟨tb,tO,rfl⟩:∃tb tO,ta=some ⟨tb,tO,none⟩:=by
  obtain ⟨ao,ge,e9,-,-,h9⟩:=b2
  simp only [ZC] at e9
  rcases h9 with h9 | ⟨b,off,e8,-⟩
  · rw [h9] at hT0;simp at hT0
  exact ⟨b,off,e9.1.trans e8⟩
 have c0:=a1.cl 0 _ rfl;have m12:=b1.cl 12 _ rfl;rw [hsn] at m12;have m0:=b1.cl 0 _ rfl;have q2:w.cell? ⟨pB,2,none⟩=some (.string ⟨#[]⟩):=cell_of hpb 2;obtain ⟨lo1,lo2⟩:=y7 G;have lZ:=ZU (JI w pB _ σ.T q2 b2 N lo1 lo2);have HV:=ZU h;have jQ:=ZU hap;have E:=ZU hpb;have HB2:=ZU b2;unfold maxLen at ht2;clear a1 b1 b2 b5 hap hpb h
 go_enter Tryz.func77,Tryz.ntmps77
 go_wp2_with fail
 refine lZ.out.mono ?_;rintro e w1 ⟨rfl,r1⟩;have R1:=ZU r1;have q3:w1.cell? ⟨pB,3,none⟩=some (.slice none 0 0):=(r1.cell (p:=⟨pB,3,none⟩) p1.lt).trans (cell_of E.out 3);have Z6:St w1 pB [.int .i64 (z:Int),.int .i64 (o:Int),.string ⟨#[]⟩,.slice none 0 0]:=by
  have e:w1.heap[pB]?=_:=(r1.block _ p1.lt).trans E.out;refine ⟨ZY p1.lt r1.size,fun j=>by simp [World.frozen?,e],fun j v hv=>?_⟩;rw [cell_of e];simpa using hv
 have Z5:=ZU (uP w1 pB _ _ _ σ.T Z6 (HB2.out.below r1) N jQ.out H (by show (Xn σ.T).length≤1000000;omega));have hmin:¬(1000:Int)<(σ.T.length:Int):=by omega
 clear lZ r1 Z6 c0 m12 m0 q2;have Mf:(min (1000:Int) (σ.T.length:Int)).toNat=σ.T.length:=by omega
 go_wp2_with fail
 try rw [Mf]
 clear Mf hmin;refine Z5.out.mono ?_;rintro e w2 ⟨rfl,l2,v2,st2,C,g2⟩;have M:Em κ σ w pB z o v2 (Xn σ.T) w2:=by
  obtain ⟨V2,G2⟩:=(HV.out.below R1.out).qM hsn hem (List.length_pos_iff.1 hT0) hQ hfs g2;exact ⟨V2,(Gs.YZ R1.out).gw.trans G2,⟨_,st2⟩,Own.mono C R1.out.size⟩
 obtain ⟨ea,ec,rfl⟩:=Own.slice C;have M:=ZU M;clear Z5 jQ HB2 E st2 C g2 R1 q3;have J:Hid (Em κ σ w pB z o (.slice ea (Xn σ.T).length ec) (Xn σ.T) w2.drew):=M.out.below (below_drewN' w2 1);clear M;obtain ⟨ys,hys⟩:∃y,y=Xn σ.T:=⟨_,rfl⟩;have tj:=ZU hys;rw [←hys] at J F hTy;clear hys;have e7:σ.T.flatMap Vy=ys:=tj.out.symm
 try rw [e7]
 clear e7
 go_wp2_with fail
 rename_i KK Hq;obtain ⟨fi,hfi⟩:∃f:Int,f=Rx κ.S κ.L 1 false:=⟨_,rfl⟩;have hfin:0≤fi∧fi≤100000:=by rw [hfi];unfold Rx;simp;omega
 have ly:Hid (∀W,Em κ σ w pB z o (.slice ea ys.length ec) ys W→Calls Tryz.prog 123 #[.pointer (some ⟨κ.sB,0,none⟩)] W (Wj W (.int .i64 1))):=fun W hW=>by
  have k7:=hW.cells.2.2.2.2.2.1;rw [hb] at k7;exact On W κ.sB κ.mB 0 (by decide) hW.cells.1 k7
 have tE:Hid (∀W,Calls Tryz.prog 49 #[.agg #[.int .i64 κ.S,.int .i64 κ.L],.int .i64 1] W (Wj W (.agg #[.int .i64 fi,.int .i64 κ.S]))):=fun W=>by
  have h9:=So W κ.S κ.L 1 hc (by decide);rw [←hfi] at h9;exact h9
 clear hfi;have REST:Hid (∀(b9:Nat) (u10 u11 u12 u13 u14 u15 u16 u17 u18 u19 u20 u21 u22 u23 u24 u25 u26 u27 u28 u29 u30 u31 u32 u33 u34 u35 u36 u37 u38 u39 u40 u41 u42 u43 u44 u45 u46 u47 u48 u49 u50:Value) (W:World),Em κ σ w pB z o (.slice ea ys.length ec) ys W→W.heap[b9]?=some (.cells #[.int .i64 fi,.int .i64 κ.S] 111 (0,0))→KK { tmps:=#[.pointer (some ⟨κ.sB,0,none⟩),.int .i64 1000,undef,undef,.string ⟨#[]⟩,.pointer (some ⟨pB,0,none⟩),.slice (some ⟨tb,tO,none⟩) σ.T.length tc,.slice (some ⟨tb,tO,none⟩) σ.T.length tc,.int .i64 0,.pointer (some ⟨b9,0,none⟩),u10,u11,u12,u13,u14,u15,u16,u17,u18,u19,u20,u21,u22,u23,u24,u25,u26,u27,u28,u29,u30,u31,u32,u33,u34,u35,u36,u37,u38,u39,u40,u41,u42,u43,u44,u45,u46,u47,u48,u49,u50,undef,undef,undef,undef,undef,undef,undef,undef,undef,undef,undef,undef,undef,undef,undef,undef,undef,undef,undef,undef,undef,undef,undef,undef,undef,undef,undef,undef,undef,undef,undef,undef,undef,undef,undef,undef,undef,undef,undef,undef,undef],defers:=[] } W):=by
  intro b9 u10 u11 u12 u13 u14 u15 u16 u17 u18 u19 u20 u21 u22 u23 u24 u25 u26 u27 u28 u29 u30 u31 u32 u33 u34 u35 u36 u37 u38 u39 u40 u41 u42 u43 u44 u45 u46 u47 u48 u49 u50 W hW OS;refine Hq _ _ ?_;clear J ly tE Hq;have HW:=ZU hW;have H9:=ZU OS;have S9:Hid (Em κ σ w pB z o (.slice ea ys.length ec) ys W.drew):=HW.out.below (below_drewN' W 1);have G9:Hid (W.drew.heap[b9]?=some (.cells #[.int .i64 fi,.int .i64 κ.S] 111 (0,0))):=((below_drewN' W 1).block b9 (Z3.mp OS).1).trans OS;clear hW OS HW H9
  go_wp2_with fail
  refine ZX (S:=fun W=>W.cell? ⟨pB,3,none⟩=some (.slice ea ys.length ec)∧W.heap[b9]?=some (.cells #[.int .i64 fi,.int .i64 κ.S] 111 (0,0))) (by kernel_rfl) ⟨S9.out.cells.2.2.2.2.1,G9.out⟩ (fun Z9=>?_);generalize W.drew=w4 at *
  iterate 7 (refine Zf ?_ (by kernel_rfl) (fun _=>id) Z9 ?_ ?_;rotate_left;· intro w9 ZQ;have k0:=ZQ.1;have k1:w9.cell? ⟨b9,1,none⟩=some (.int .i64 κ.S):=cell_of ZQ.2 1;clear ZQ;go_simp;try with_reducible rfl)
  refine Zf (.int .i64 (κ.S*64)) (by kernel_rfl) (fun _=>id) Z9 ?_ ?_
  · intro w9 ZQ;have k0:=ZQ.1;have k1:w9.cell? ⟨b9,1,none⟩=some (.int .i64 κ.S):=cell_of ZQ.2 1;clear ZQ;go_simp;rw [Zq];omega
  refine Zf ?_ (by kernel_rfl) (fun _=>id) Z9 ?_ ?_
  rotate_left
  · intro w9 ZQ;have k0:=ZQ.1;have k1:w9.cell? ⟨b9,1,none⟩=some (.int .i64 κ.S):=cell_of ZQ.2 1;clear ZQ;go_simp;try with_reducible rfl
  refine ZR (by kernel_rfl) ?_ _
  try simp only [Act.put,WV,WU,WT]
  clear Z9
  by_cases hbig:κ.S*64<(ys.length:Int)
  · obtain ⟨k0,-,-,-,-,-,km⟩:=S9.out.cells
    obtain ⟨fZ,fY,pY,m4,-⟩:=S9.out.sv.mm;have m12:=m4.cl 12 _ rfl;have f12:=m4.fz 12;have FZ:=ZU S9.out.sv.mN;have GW:=ZU S9.out.gw;clear m4 S9 G9
    go_wp2_with fail
    go_ret;refine ⟨GW.out.trans FZ.out.2.gw,0,0,.inr ⟨by rw [←tj.out];exact hbig,rfl,FZ.out.1⟩⟩
  go_wp2_with fail
  have ma:Hid (w4.drew.cell? ⟨κ.sB,0,none⟩=some (.pointer (some ⟨κ.mB,0,none⟩))):=S9.out.cells.1;have E5:Hid (Em κ σ w pB z o (.slice ea ys.length ec) ys w4.drew):=S9.out.below (below_drewN' w4 1);have G5:Hid (w4.drew.heap[b9]?=some (.cells #[.int .i64 fi,.int .i64 κ.S] 111 (0,0))):=((below_drewN' w4 1).block b9 (Z3.mp G9.out).1).trans G9.out;clear S9 G9;refine ZX (S:=fun W=>W.cell? ⟨pB,3,none⟩=some (.slice ea ys.length ec)∧W.heap[b9]?=some (.cells #[.int .i64 fi,.int .i64 κ.S] 111 (0,0))) (by kernel_rfl) ⟨E5.out.cells.2.2.2.2.1,G5.out⟩ (fun Z9=>?_);generalize w4.drew=w5 at *;refine Zf ?_ (by kernel_rfl) (fun _=>id) Z9 ?_ ?_
  rotate_left
  · intro w9 ZQ;have k0:=ZQ.1;have k1:w9.cell? ⟨b9,0,none⟩=some (.int .i64 fi):=cell_of ZQ.2 0;have k2:w9.cell? ⟨b9,1,none⟩=some (.int .i64 κ.S):=cell_of ZQ.2 1;clear ZQ;go_simp;try with_reducible rfl
  refine Zf (.agg #[.int .i64 fi,.int .i64 κ.S]) (by kernel_rfl) (fun _=>id) Z9 ?_ ?_
  · intro w9 ZQ;have k0:=ZQ.1;have k1:w9.cell? ⟨b9,0,none⟩=some (.int .i64 fi):=cell_of ZQ.2 0;have k2:w9.cell? ⟨b9,1,none⟩=some (.int .i64 κ.S):=cell_of ZQ.2 1;clear ZQ;go_simp;try with_reducible rfl
  iterate 5 (refine Zf ?_ (by kernel_rfl) (fun _=>id) Z9 ?_ ?_;rotate_left;· intro w9 ZQ;have k0:=ZQ.1;have k1:w9.cell? ⟨b9,0,none⟩=some (.int .i64 fi):=cell_of ZQ.2 0;have k2:w9.cell? ⟨b9,1,none⟩=some (.int .i64 κ.S):=cell_of ZQ.2 1;clear ZQ;go_simp;try with_reducible rfl)
  refine YS 7 rfl (by kernel_rfl) (fun K hK=>?_);obtain ⟨v0,hv0,q0⟩:=E5.out.sv.pq;have Z':Ph none w5 κ.sB (.pointer (some ⟨κ.mB,0,none⟩)) κ.S κ.L v0 σ.k w5:=by
   have q9:=q0;rw [show ({ σ with em:=true }:Sx).pw=none from hpw] at q9;exact q9
  obtain ⟨hs1,hs2,hs3,hs4⟩:=HV.out.jS;have Z8:∀q,(Value.slice ea ys.length ec).ownBlock=some q→w.heap.size≤q:=fun q hq=>(ZT E5.out.ow q hq).1
  have Z4:Hid (Calls Tryz.prog 113 #[.pointer (some ⟨κ.sB,0,none⟩),.agg #[.int .i64 fi,.int .i64 κ.S],.slice ea ys.length ec,.int .i64 0] w5 fun e w'=>e=.returned (.tuple #[])∧Ph none w5 κ.sB (.pointer (some ⟨κ.mB,0,none⟩)) κ.S κ.L v0 (σ.k+65) w'∧KW κ.sB w5 w'):=M9 fi κ.S _ ys 0 Z' (by omega) hfin (fun W hW=>Rg E5.out.ow.rd hW.size (fun q hq hl=>hW.block q hl (fun e=>by have:=Z8 q hq;omega) (by simp))) (by omega) (Zu _);obtain ⟨fq,fp,fU,m5,-,-,-,-,-,l5,l6⟩:=E5.out.sv.mm;obtain ⟨x2,I⟩:=E5.out.pb;have Z2:σ.full.length≤fU:=by
   obtain ⟨_,_,e9,h9,-⟩:=l5.rd.len
   simp only [ZC] at e9
   have e8:=e9.2.2;have h8:σ.full.length≤_:=h9;omega
  have ZW:Hid (∀w6,Ph none w5 κ.sB (.pointer (some ⟨κ.mB,0,none⟩)) κ.S κ.L v0 (σ.k+65) w6→Calls Tryz.prog 124 #[.pointer (some ⟨κ.sB,0,none⟩),.pointer (some ⟨pB,0,none⟩)] w6 fun e w'=>e=.returned (.tuple #[])∧Gs κ w5 w'∧∃l r,Sv κ { σ with k:=σ.k+65+70,g:=2,b:=1,s:=(z:Int),l:=l,r:=r,off:=o,sn:=none,em:=true,pw:=none } w'):=fun w6 O =>
   uH κ { σ with em:=true } w5 w6 v0 (σ.k+65) pB z o _ fq fp fU ys ⟨Z'.more (by omega),m5,⟨x2,I⟩,E5.out.ow.rd,l5⟩ O E5.out.sv hv0 (Ne.symm p2) (Ne.symm p3) (fun e=>by have:=Z8 _ e;omega) hpw hg hb hoff ho (by show σ.full.length≤4096;omega) Z2 hTy (by omega) (by omega) hc hz (fun W hW=>htab W (E5.out.gw.trans hW.gw))
  have ZV:=ZU E5.out.gw;have PZ:Hid (∀W,Gs κ w5 W→W.cell? ⟨pB,0,none⟩=some (.int .i64 (z:Int))):=fun W hW=>(ZP (w:=w5) (a:=⟨pB,0,none⟩) (hW.block pB I.lt p2 p3 p4 p5)).trans (I.cl 0 _ rfl)
  clear q0 Z' m5 l5 l6 I E5 G5 Z8;go_simp;refine Z4.out.mono ?_;rintro e w6 ⟨rfl,O,k6⟩;have hN:w6.cell? ⟨pB,3,none⟩=some (.slice ea ys.length ec)∧w6.heap[b9]?=some (.cells #[.int .i64 fi,.int .i64 κ.S] 111 (0,0)):=by
   have nK:=O.gb.1;have hpl:=ZG w5 _ Z9.1;refine ⟨(ZP (w:=w5) (a:=⟨pB,3,none⟩) (nK.block pB hpl p2 (by simp))).trans Z9.1,(k6.block b9 (Z3.mp Z9.2).1 (fun e=>?_) (fun cs z' e=>?_)).trans Z9.2⟩
   · have c9:=cell_of Z9.2 0
     rw [e] at c9;have:=(ma.out).symm.trans c9
     simp at this
   rw [Z9.2] at e
   injection e with e
   injection e with _ e2
   exact absurd e2 (by decide)
  refine hK.out _ _ hN (fun YA=>?_);clear hK K YA Z9 hN Z4 k6;refine ZR (by kernel_rfl) ?_ _
  try simp only [Act.put,WV,WU,WT]
  have ZN:=ZU (ZW.out _ O);clear ZW O
  go_wp2_with fail
  refine ZN.out.mono ?_;rintro e w7 ⟨rfl,g7,l7,r7,v7⟩;have z7:=PZ.out _ g7;have TT:=Pf w7 ⟨#[115,101,97,108,101,100]⟩ z (by decide) hz (Z7 _ (ZV.out.trans g7.gw));have V7:=ZU v7;have G7:=ZU (ZV.out.trans g7.gw);clear ZN g7 v7 PZ
  go_wp2_with fail
  refine TT.mono ?_;rintro e w8 ⟨rfl,b8⟩;clear TT z7;go_wp2;go_ret;refine ⟨G7.out.trans (Gs.YZ b8).gw,l7,r7,.inl ⟨by rw [←tj.out];omega,rfl,?_⟩⟩;have e9:σ.k+65+70=σ.k+135:=by omega
  have v8:=V7.out.below b8;rw [e9] at v8;exact v8
 refine ZX (S:=Em κ σ w pB z o (.slice ea ys.length ec) ys) (by kernel_rfl) J.out (fun Z9=>?_);clear J Hq;generalize w2.drew=w3 at *
 iterate 5 (refine Zf ?_ (by kernel_rfl) (fun _=>id) Z9 ?_ ?_;rotate_left;· intro w9 ZQ;obtain ⟨k0,k1,k2,-⟩:=ZQ.cells;clear ZQ;go_simp;try with_reducible rfl)
 refine QG 5 7 rfl rfl (by kernel_rfl) (fun K hK=>?_) (fun K hK=>?_)
 · skip
   go_simp;refine (ly.out _ Z9).mono ?_;rintro e w4 ⟨rfl,b8⟩;have hN:=Z9.below b8;refine hK.out _ _ hN (fun YA=>?_);clear hK K YA Z9 b8;have Z9:=hN;clear hN;refine QG 6 7 rfl rfl (by kernel_rfl) (fun K hK=>?_) (fun K hK=>?_)
   · skip
     go_simp;refine (tE.out _).mono ?_;rintro e w5 ⟨rfl,b8⟩;have hN:=Z9.below b8;refine hK.out _ _ hN (fun YA=>?_);clear hK K YA Z9 b8;have Z9:=hN;clear hN;refine YS 7 rfl (by kernel_rfl) (fun K hK=>?_);have hH2:=Z9;go_simp;have bA:Zi w5 (w5.alloc (.cells #[.int .i64 0,.int .i64 0] 111)):=Yy.alloc YR _;have hN:=Z9.below bA;refine hK.out _ _ hN (fun YA=>?_);clear hK K YA Z9 hN bA;refine YS 8 rfl (by kernel_rfl) (fun K hK=>?_);have X5:=St.new w5 #[.int .i64 0,.int .i64 0] 111;have t0:=X5.cl 0 _ rfl;have t1:=X5.cl 1 _ rfl;have f0:=X5.fz 0;have f1:=X5.fz 1;clear X5;go_simp;have bB:Zi w5 (w5.alloc (.cells #[.int .i64 fi,.int .i64 κ.S] 111)):=Yy.alloc YR _;have hN:=hH2.below bB;refine hK.out _ _ hN (fun YA=>?_);clear hK K YA t0 t1 f0 f1;refine ZR (by kernel_rfl) ?_ _
     try simp only [Act.put,WV,WU,WT]
     exact REST.out w5.heap.size _ _ _ _ _ _ _ _ _ _ _ _ _ _ _ _ _ _ _ _ _ _ _ _ _ _ _ _ _ _ _ _ _ _ _ _ _ _ _ _ _ _ hN (Zs w5 _)
   skip
   go_simp;have bA:Zi w4 (w4.alloc (.cells #[.int .i64 0,.int .i64 0] 111)):=Yy.alloc YR _;have hN:=Z9.below bA;refine hK.out _ _ hN (fun YA=>?_);have X5:Hid ((w4.alloc (.cells #[.int .i64 0,.int .i64 0] 111)).heap[w4.heap.size]?=some (.cells #[.int .i64 0,.int .i64 0] 111 (0,0))):=Zs w4 _;have Cy:=ZU Z9;have BA:=ZU bA;clear hK K YA Z9 bA;have Z9:=hN;clear hN;obtain ⟨b9,OS⟩:∃b,b=w4.heap.size:=⟨_,rfl⟩;rw [←OS] at X5;have Y:b9<(w4.alloc (.cells #[.int .i64 0,.int .i64 0] 111)).heap.size:=by simp [OS]
   rw [←OS];have GK:=ZU OS;clear OS;generalize w4.alloc _=w5 at *;refine YS 6 rfl (by kernel_rfl) (fun K hK=>?_);go_simp;refine (tE.out _).mono ?_;rintro e w6 ⟨rfl,b8⟩;have hN:=Z9.below b8;refine hK.out _ _ hN (fun YA=>?_);have X6:Hid (w6.heap[b9]?=some (.cells #[.int .i64 0,.int .i64 0] 111 (0,0))):=(b8.block _ Y).trans X5.out;have U:b9<w6.heap.size:=ZY Y b8.size;have BB:=ZU (WD BA.out b8);clear X5 BA Y b8;have X5:=X6;have BA:=BB;have Y:=U;clear X6 BB U;clear hK K YA Z9;have Z9:=hN;clear hN;refine YS 8 rfl (by kernel_rfl) (fun K hK=>?_);have t0:w6.cell? ⟨b9,0,none⟩=some (.int .i64 0):=cell_of X5.out 0;have t1:w6.cell? ⟨b9,1,none⟩=some (.int .i64 0):=cell_of X5.out 1;have f0:w6.frozen? ⟨b9,0,none⟩=false:=by simp [World.frozen?,X5.out]
   have f1:w6.frozen? ⟨b9,1,none⟩=false:=by simp [World.frozen?,X5.out]
   have X7:=ZU (Ro.set (Ro.set X5.out 0 (.int .i64 fi)) 1 (.int .i64 κ.S));have b7:Hid (Zi w4 ((w6.setCell ⟨b9,0,none⟩ (.int .i64 fi)).setCell ⟨b9,1,none⟩ (.int .i64 κ.S))):=by
    show Below _ _ _
    iterate 2 refine Below.setCell ?_ (U5 GK.out.symm) _
    exact BA.out
   clear Z9;go_simp;have hN:=Cy.out.below b7.out;refine hK.out _ _ hN (fun YA=>?_);clear hK K YA t0 t1 f0 f1;refine ZR (by kernel_rfl) ?_ _
   try simp only [Act.put,WV,WU,WT]
   exact REST.out b9 _ _ _ _ _ _ _ _ _ _ _ _ _ _ _ _ _ _ _ _ _ _ _ _ _ _ _ _ _ _ _ _ _ _ _ _ _ _ _ _ _ _ hN X7.out
 skip
 go_simp;have bA:Zi w3 (w3.alloc (.cells #[.int .i64 0,.int .i64 0] 111)):=Yy.alloc YR _;have hN:=Z9.below bA;refine hK.out _ _ hN (fun YA=>?_);have X5:Hid ((w3.alloc (.cells #[.int .i64 0,.int .i64 0] 111)).heap[w3.heap.size]?=some (.cells #[.int .i64 0,.int .i64 0] 111 (0,0))):=Zs w3 _;have Cy:=ZU Z9;have BA:=ZU bA;clear hK K YA Z9 bA;have Z9:=hN;clear hN;obtain ⟨b9,OS⟩:∃b,b=w3.heap.size:=⟨_,rfl⟩;rw [←OS] at X5;have Y:b9<(w3.alloc (.cells #[.int .i64 0,.int .i64 0] 111)).heap.size:=by simp [OS]
 rw [←OS];have GK:=ZU OS;clear OS;generalize w3.alloc _=w4 at *;refine YS 5 rfl (by kernel_rfl) (fun K hK=>?_);go_simp;refine (ly.out _ Z9).mono ?_;rintro e w5 ⟨rfl,b8⟩;have hN:=Z9.below b8;refine hK.out _ _ hN (fun YA=>?_);have X6:Hid (w5.heap[b9]?=some (.cells #[.int .i64 0,.int .i64 0] 111 (0,0))):=(b8.block _ Y).trans X5.out;have U:b9<w5.heap.size:=ZY Y b8.size;have BB:=ZU (WD BA.out b8);clear X5 BA Y b8;have X5:=X6;have BA:=BB;have Y:=U;clear X6 BB U;clear hK K YA Z9;have Z9:=hN;clear hN;refine YS 6 rfl (by kernel_rfl) (fun K hK=>?_);go_simp;refine (tE.out _).mono ?_;rintro e w6 ⟨rfl,b8⟩;have hN:=Z9.below b8;refine hK.out _ _ hN (fun YA=>?_);have X6:Hid (w6.heap[b9]?=some (.cells #[.int .i64 0,.int .i64 0] 111 (0,0))):=(b8.block _ Y).trans X5.out;have U:b9<w6.heap.size:=ZY Y b8.size;have BB:=ZU (WD BA.out b8);clear X5 BA Y b8;have X5:=X6;have BA:=BB;have Y:=U;clear X6 BB U;clear hK K YA Z9;have Z9:=hN;clear hN;refine YS 8 rfl (by kernel_rfl) (fun K hK=>?_);have t0:w6.cell? ⟨b9,0,none⟩=some (.int .i64 0):=cell_of X5.out 0;have t1:w6.cell? ⟨b9,1,none⟩=some (.int .i64 0):=cell_of X5.out 1;have f0:w6.frozen? ⟨b9,0,none⟩=false:=by simp [World.frozen?,X5.out]
 have f1:w6.frozen? ⟨b9,1,none⟩=false:=by simp [World.frozen?,X5.out]
 have X7:=ZU (Ro.set (Ro.set X5.out 0 (.int .i64 fi)) 1 (.int .i64 κ.S));have b7:Hid (Zi w3 ((w6.setCell ⟨b9,0,none⟩ (.int .i64 fi)).setCell ⟨b9,1,none⟩ (.int .i64 κ.S))):=by
  show Below _ _ _
  iterate 2 refine Below.setCell ?_ (U5 GK.out.symm) _
  exact BA.out
 clear Z9;go_simp;have hN:=Cy.out.below b7.out;refine hK.out _ _ hN (fun YA=>?_);clear hK K YA t0 t1 f0 f1;refine ZR (by kernel_rfl) ?_ _
 try simp only [Act.put,WV,WU,WT]
 exact REST.out b9 _ _ _ _ _ _ _ _ _ _ _ _ _ _ _ _ _ _ _ _ _ _ _ _ _ _ _ _ _ _ _ _ _ _ _ _ _ _ _ _ _ _ hN X7.out
structure qL (m:Int) (te:TypeId) (pe:Value) (W:World):Prop where
 tc:Po W
 pW : Lib.TabIs Tryz.prog W "internal/strconv.uint64pow10" .u64 Lib.pow10Tab
 er:W.cell? ⟨5,0,none⟩=some (.iface 345 (.agg #[.pointer (some ⟨11,182,none⟩)]))
 pl:Aq W m te pe
 fm:tT W
def Gl (m:Int) (te:TypeId) (pe:Value) (κ:Sc) (w:World):Prop:=∀W,Gw κ w W→qL m te pe W
theorem Gw.boxed {X:List Nat} {w':World} (h:Gw { κ with X:=X } w w'):Gw κ w w':=⟨h.os,h.tape,h.output,h.size,h.block⟩
section
variable {m:Int} {te:TypeId} {pe:Value} (κ:Sc) (σ:Sx) (w:World)
theorem Kh (h:Sv κ σ w) (hgl:Gl m te pe κ w) (hT:σ.T≠[]) (hQ:σ.Q≠[]) (vo vn:Value) (mu:Bool) (pa:ByteArray) (hf:σ.fs=[]) (hz:σ.zf<1000000) :
    Calls Tryz.prog 14 #[.pointer (some ⟨κ.sB,0,none⟩),.agg #[.int .i64 2,vo,.bool mu,.string pa,vn]] w fun e w'=>e=.returned (.string (strOfNums (VS ⟨#[102,108,117,115,104,101,100]⟩ [0,σ.zf])))∧Gw κ w w'∧∃ σ',σ'=σ∧Sv κ σ' w':=by
 refine Rz κ σ _ w h hT hQ 2 (by decide) (by decide) (by decide) (by decide) vo vn mu pa _ (fun W hW hb=>?_);refine EK W _ vo vn mu pa _ (fun w'=>Gw _ W w'∧∃ σ',σ'=σ∧Sv _ σ' w') (fun W2 hb2=>?_);have OS:=WD hb hb2;refine (CG { κ with X:=(w.heap.size+2) :: κ.X } σ W2 (hW.below hb2) hf hz (fun W3 g=>(hgl W3 ((Gs.YZ OS).gw.trans g.boxed)).pW)).mono ?_;rintro e w' ⟨rfl,g,v⟩;exact ⟨rfl,(Gs.YZ hb2).gw.trans g.gw,σ,rfl,v⟩
theorem Kg (h:Sv κ σ w) (hgl:Gl m te pe κ w) (hT:σ.T≠[]) (hQ:σ.Q≠[]) (vo vn:Value) (mu:Bool) (pa:ByteArray) (hf:0<σ.fs.length) (hN:σ.fs.length≤4096) (h0:σ.off=0) (hroom:((σ.full.length+σ.fs.flatten.length:Nat):Int)≤κ.L*64) (hc:Wp κ.S κ.L=true) (hb:0≤σ.b∧σ.b≤1) (hk:σ.k≤8000) (hz:σ.zq<1000000) (hsp:σ.pw=none∨σ.sn=none) :
    Calls Tryz.prog 14 #[.pointer (some ⟨κ.sB,0,none⟩),.agg #[.int .i64 2,vo,.bool mu,.string pa,vn]] w fun e w'=>e=.returned (.string (strOfNums (VS ⟨#[102,108,117,115,104,101,100]⟩ [σ.fs.length,σ.zq])))∧Gw κ w w'∧∃ σ',σ'={ σ with T:=σ.Q,zf:=σ.zq,fs:=[],ql:=0,full:=σ.full++σ.fs.flatten,k:=σ.k+66,pw:=none }∧Sv κ σ' w':=by
 refine Rz κ σ _ w h hT hQ 2 (by decide) (by decide) (by decide) (by decide) vo vn mu pa _ (fun W hW hb1=>?_);refine EK W _ vo vn mu pa _ (fun w'=>Gw _ W w'∧∃ σ',σ'=_∧Sv _ σ' w') (fun W2 hb2=>?_);have OS:=WD hb1 hb2;refine (CE { κ with X:=(w.heap.size+2) :: κ.X } σ W2 (hW.below hb2) hf hN h0 hroom hc hb hk hz hsp (fun W3 g=>(hgl W3 ((Gs.YZ OS).gw.trans g.boxed)).pW)).mono ?_;rintro e w' ⟨rfl,g,v⟩;exact ⟨rfl,(Gs.YZ hb2).gw.trans g,_,rfl,v⟩
theorem Eq (h:Sv κ σ w) (hgl:Gl m te pe κ w) (hT:σ.T≠[]) (hQ:σ.Q≠[]) (vo vn:Value) (mu:Bool) (pa:ByteArray) (hk:σ.k≤9000) (hsn:σ.sn=none) (hz:σ.zf<1000000) (hfl:σ.full.length≤4096) :
    Calls Tryz.prog 14 #[.pointer (some ⟨κ.sB,0,none⟩),.agg #[.int .i64 6,vo,.bool mu,.string pa,vn]] w fun e w'=>e=.returned (.string (strOfNums (VS ⟨#[115,116,97,114,116,101,100]⟩ [σ.zf])))∧Gw κ w w'∧∃ σ',(∃pB,σ'={ σ with k:=σ.k+1,pw:=none,sn:=some (pB,σ.zf,σ.full.length - σ.off),em:=false })∧Sv κ σ' w':=by
 refine Rz κ σ _ w h hT hQ 6 (by decide) (by decide) (by decide) (by decide) vo vn mu pa _ (fun W hW hb1=>?_);refine rh W _ vo vn mu pa _ (fun w'=>Gw _ W w'∧∃ σ',(∃pB,σ'=_)∧Sv _ σ' w') (fun W2 hb2=>?_);have OS:=WD hb1 hb2;refine (uQ { κ with X:=(w.heap.size+2) :: κ.X } σ W2 (hW.below hb2) hk hsn hz hfl (fun W3 g=>(hgl W3 ((Gs.YZ OS).gw.trans g.boxed)).pW)).mono ?_;rintro e w' ⟨rfl,g,pB,v⟩;exact ⟨rfl,(Gs.YZ hb2).gw.trans g,_,⟨pB,rfl⟩,v⟩
theorem Hc (h:Sv κ σ w) (hgl:Gl m te pe κ w) (hT:σ.T≠[]) (hQ:σ.Q≠[]) (vo vn:Value) (pa:ByteArray) (os:List TK) (ho:JZ w vo os) (CA:Pg κ vo) (V:∀q,vo.ownBlock=some q→q<w.heap.size) (hseq:∀i,(Ql os i).seq=false) (hol:os.length≤1000) (hos:∀i,(Ql os i).path.size≤1048576∧(Ql os i).data.size≤1048576)
    (ZL:∀i,(Ye σ.Q i).path.size≤1048576∧(Ye σ.Q i).data.size≤1048576) (hz:σ.zq<900000) (A:Pa) (hA:CD σ.Q os ((σ.zq:Int)+1)=A) (fW:0≤A.c∧A.c<1000) (fV:0≤A.z∧A.z<1000000)
    (hes:∀i,(Vr A.es i).nd.path.size≤1048576∧(Vr A.es i).nd.data.size≤1048576) (him:A.c=0→0<(Va A.z A.es).length∧(Va A.z A.es).length≤2000) (hL:0≤κ.L∧κ.L≤64) (hfl:σ.full.length≤4096) (pX:σ.ql≤4096)
    (hroom:A.c=0→(((σ.full.length - σ.off)+(σ.ql+(fr (Va A.z A.es)).length):Nat):Int)≤κ.L*64→σ.fs.length<κ.cap) :
    Calls Tryz.prog 14 #[.pointer (some ⟨κ.sB,0,none⟩),.agg #[.int .i64 1,vo,.bool false,.string pa,vn]] w fun e w'=>e=.returned (.string (CC κ σ A).1)∧Gw κ w w'∧∃ σ',σ'=(CC κ σ A).2∧Sv κ σ' w':=by
 refine Rz κ σ _ w h hT hQ 1 (by decide) (by decide) (by decide) (by decide) vo vn false pa _ (fun W hW hb1=>?_);refine C5 W _ vo vn false pa _ (fun w'=>Gw _ W w'∧∃ σ',σ'=_∧Sv _ σ' w') (fun W2 hb2=>?_);have OS:=WD hb1 hb2;refine (Er { κ with X:=(w.heap.size+2) :: κ.X } σ W2 (hW.below hb2) vo vn pa os (ho.below OS) (fun q hq=>?_) hseq hol hos ZL hz A hA fW fV hes him hL hfl pX hroom (hgl W2 (Gs.YZ OS).gw).er (fun W3 g=>(hgl W3 ((Gs.YZ OS).gw.trans g.boxed)).pW)).mono ?_
 · obtain ⟨q1,q2,q3,q4,q5⟩:=CA q hq
   have:=V q hq;refine ⟨q1,q2,q3,q4,fun e=>?_⟩
   rcases Y9.1 e with e | e
   · omega
   exact q5 e
 rintro e w' ⟨rfl,g,v⟩;exact ⟨rfl,(Gs.YZ hb2).gw.trans g.gw,_,rfl,v⟩
theorem Ep (h:Sv κ σ w) (hgl:Gl m te pe κ w) (hT:σ.T≠[]) (hQ:σ.Q≠[]) (vo vn:Value) (mu:Bool) (pa:ByteArray) (mQ:Rd .i64 w vn [1000]) (pB z o:Nat) (hsn:σ.sn=some (pB,z,o)) (hem:σ.em=false) (N:σ.T.length≤1000) (H:∀i,i<σ.T.length→Wl (Ye σ.T i)=true) (G:∀i,i<σ.T.length→0<(Ye σ.T i).path.size) (F:(Xn σ.T).length≤100000) (hTy:Sn (Xn σ.T)) (hfs:σ.fs=[])
    (hpw:σ.pw=none) (hg:σ.g=1) (hb:σ.b=0) (hoff:σ.off=0) (ho:o≤σ.full.length) (hfl:(σ.full.length:Int)≤κ.L*64) (hz:z<1000000) (hk:σ.k≤1000) (hc:Wp κ.S κ.L=true) :
    Calls Tryz.prog 14 #[.pointer (some ⟨κ.sB,0,none⟩),.agg #[.int .i64 7,vo,.bool mu,.string pa,vn]] w fun e w'=>e=.returned (.string (if ((Xn σ.T).length:Int)≤κ.S*64 then strOfNums (VS ⟨#[115,101,97,108,101,100]⟩ [z]) else ⟨#[115,110,97,112,102,117,108,108]⟩))∧Gw κ w w'∧∃ σ',(∃l r,σ'=if ((Xn σ.T).length:Int)≤κ.S*64 then { σ with k:=σ.k+135,g:=2,b:=1,s:=(z:Int),l:=l,r:=r,off:=o,sn:=none,em:=true,pw:=none } else { σ with sn:=none,em:=true })∧Sv κ σ' w':=by
 refine Rz κ σ _ w h hT hQ 7 (by decide) (by decide) (by decide) (by decide) vo vn mu pa _ (fun W hW hb1=>?_);refine rg W _ vo vn mu pa _ (fun w'=>Gw _ W w'∧∃ σ',(∃l r,σ'=_)∧Sv _ σ' w') 1000 (mQ.below hb1) (fun W2 hb2=>?_);have OS:=WD hb1 hb2;refine (uG { κ with X:=(w.heap.size+2) :: κ.X } σ W2 (hW.below hb2) pB z o hsn hem (List.length_pos_iff.2 hT) N H G F hTy hQ hfs hpw hg hb hoff ho hfl hz hk hc (fun W3 g=>(hgl W3 ((Gs.YZ OS).gw.trans g.boxed)).tc) (fun W3 g=>(hgl W3 ((Gs.YZ OS).gw.trans g.boxed)).pW)).mono ?_;rintro e w' ⟨g,l,r,⟨h1,rfl,v⟩ | ⟨h1,rfl,v⟩⟩
 · have h2:((Xn σ.T).length:Int)≤κ.S*64:=h1
   exact ⟨by rw [Z0 h2],(Gs.YZ hb2).gw.trans g,_,⟨l,r,(Z0 h2).symm⟩,v⟩
 have h2:¬((Xn σ.T).length:Int)≤κ.S*64:=by have h3:κ.S*64<((Xn σ.T).length:Int):=h1;omega
 exact ⟨by rw [Z1 h2],(Gs.YZ hb2).gw.trans g,_,⟨l,r,(Z1 h2).symm⟩,v⟩
end
end
section
open Go.RowKit Go.Shelf
variable {ys:List Int} {L S i j n o pB z:Nat} {κ:Sc} {σ:Sx} {vE:Value} {W w:World}
def pA:ByteArray:=⟨#[47,97]⟩
def xB (n:Nat):ByteArray:=⟨(List.replicate n (120:UInt8)).toArray⟩
theorem Tf (n:Nat):(xB n).size=n:=by simp [xB,ByteArray.size]
def Cx:Nd:=⟨Vq,empty,0,1,0,0,1⟩
def JH (n i:Nat):Nd:=⟨pA,xB n,(i:Int),0,1,(i:Int)+1,1⟩
def Vp (n i:Nat):List Nd:=[Cx,JH n i]
def opC (n:Nat):TK:=⟨1,pA,xB n,0,false⟩
def Kf (n:Nat):TK:=⟨3,pA,xB n,-1,false⟩
theorem mL:Vq.size=1:=rfl
theorem mJ:empty.size=0:=rfl
theorem mH:pA.size=2:=rfl
theorem A8:Xi pA=true:=by decide +kernel
theorem uF:Op.bytesLess Vq.toList pA.toList=true:=by decide +kernel
theorem jP:Op.bytesLess pA.toList Vq.toList=false:=by decide +kernel
theorem Eo:(Vq.toList == pA.toList)=false:=by decide +kernel
theorem jO:(pA.toList == Vq.toList)=false:=by decide +kernel
theorem pV:Op.bytesLess pA.toList pA.toList=false:=by decide +kernel
theorem uE:Op.bytesLess Vq.toList Vq.toList=false:=by decide +kernel
theorem jN:(pA.toList == [47])=false:=by decide +kernel
theorem mG:UZ pA=Vq:=by kernel_rfl
theorem Cw (hn:n≤64) (hi:i≤1000):Wl (JH n i)=true:=by
 unfold Wl PR JH
 simp [A8,Tf]
 omega
theorem Cv:Wl Cx=true:=by decide +kernel
theorem En:Ld [Yx]:=P4.1 M4
theorem NV (hn:n≤64) (hi:i≤1000):Ld (Vp n i):=by
 refine ⟨?_,?_,by simp [Vp]⟩
 · simp [Asc,Vp,Tz,Cx,JH,uF]
 simp [Vp,Cw hn hi,Cv]
theorem fT (hn:n≤64):OO (opC n)=true:=by
 unfold OO opC
 simp [A8,Tf,jN,hn]
theorem jM (hn:n≤64):OO (Kf n)=true:=by
 unfold OO Kf
 simp [A8,Tf,hn]
theorem fQ (hn:n≤64):Ry [Yx] (opC n) 1=(0,Vp n 0,pA):=by
 have e1:LX [Yx] ⟨pA,xB n,0,0,1,1,1⟩=[Yx,JH n 0]:=by
  unfold LX qt
  simp [GN,Yx,uF,Eo,JH]
 have e2:LX [Yx,JH n 0] { Yx with XQ:=1,pz:=1 }=Vp n 0:=by
  unfold LX qt
  simp [GN,Yx,jP,jO,uE,JH,Vp,Cx]
 unfold Ry;rw [fT hn]
 simp only [opC,mG,Uz,Bool.not_true,Yu,WW,Vo,A8]
 have f1:[Yx].findIdx (U9 Vq)=0:=by simp [VP,U9,Yx]
 have f2:[Yx].findIdx (U9 pA)=1:=by simp [VP,U9,Yx,Eo]
 rw [f1,f2,e1];have f3:[Yx,JH n 0].findIdx (U9 Vq)=0:=by simp [VP,U9,Yx]
 unfold toN;rw [f3]
 simp [Ye,LK]
 exact e2
theorem fP (hn:n≤64) (hi:i≤1000):Ry (Vp n i) (Kf n) ((i:Int)+2)=(0,Vp n (i+1),pA):=by
 have f2:(Vp n i).findIdx (U9 pA)=1:=by simp [VP,U9,Vp,Cx,JH,Eo]
 have e2:∀a:Nd,a.path=pA→LX (Vp n i) a=[Cx,a]:=by
  intro a ha;unfold LX qt
  simp [GN,Vp,Cx,JH,ha,uF,Eo,pV]
 unfold Ry;rw [jM hn]
 simp only [Kf]
 rw [Z1 (show ¬(!true)=true by decide),Z1 (show ¬(3:Int)=1 by decide),f2,Z1 (by simp [Vp]),Z1 (by simp),Z1 (show ¬(3:Int)=2 by decide),Z0 trivial,e2 _ rfl];have h1:¬(i:Int)=2147483647:=by omega
 simp [Vp,Ye,JH,LK,h1]
 omega
theorem fO (hn:n≤64) (z:Int):Ry [Yx] (Kf n) z=(2,[Yx],⟨#[]⟩):=by
 have f2:[Yx].findIdx (U9 pA)=1:=by simp [VP,U9,Yx,Eo]
 unfold Ry;rw [jM hn]
 simp [Kf,f2]
theorem jL (hn:n≤64):CD [Yx] [opC n] 1=⟨0,0,1,[[47,97]],UY [Yx] (Vp n 0)⟩:=by
 have e:R9 1 [opC n] [Yx] 0 []=(0,1,Vp n 0,[pA]):=by simp [R9,fQ hn]
 have h:RZ [Yx] [opC n] 1=true:=by unfold RZ;simp [M4]
 unfold CD;rw [Z0 h,e]
 simp [mP,pA]
theorem jK (hn:n≤64) (hi:i≤900):CD (Vp n i) [Kf n] ((i:Int)+2)=⟨0,0,(i:Int)+2,[[47,97]],UY (Vp n i) (Vp n (i+1))⟩:=by
 have e:R9 ((i:Int)+2) [Kf n] (Vp n i) 0 []=(0,1,Vp n (i+1),[pA]):=by simp [R9,fP hn (show i≤1000 by omega)]
 have h:RZ (Vp n i) [Kf n] ((i:Int)+2)=true:=by
  unfold RZ
  simp [P4.2 (NV hn (show i≤1000 by omega))]
  omega
 unfold CD;rw [Z0 h,e]
 simp [mP,pA]
theorem jJ (hn:n≤64):CD [Yx] [Kf n] 1=⟨2,0,0,[],[]⟩:=by
 have e:R9 1 [Kf n] [Yx] 0 []=(2,0,[Yx],[]):=by simp [R9,fO hn]
 have h:RZ [Yx] [Kf n] 1=true:=by unfold RZ;simp [M4]
 unfold CD;rw [Z0 h,e]
 simp
theorem pU :UY [Yx] (Vp n 0)=[TV Cx,TV (JH n 0)]:=by
 have h:LU Yx Cx=false:=by decide +kernel
 simp [Vp,UY,Tz,show Yx.path=Vq from rfl,show Cx.path=Vq from rfl,uE,h]
theorem pT :UY (Vp n i) (Vp n (i+1))=[TV (JH n (i+1))]:=by
 have h:LU Cx Cx=true:=by decide +kernel
 have h2:LU (JH n i) (JH n (i+1))=false:=by
  have:((i:Int) == ((i:Int)+1))=false:=by simp;omega
  simp [LU,JH,this]
 simp [Vp,UY,Tz,show Cx.path=Vq from rfl,show ∀k,(JH n k).path=pA from fun _=>rfl,uE,pV,h,h2]
theorem jI (hn:n≤64):Tm 1 (UY [Yx] (Vp n 0))=true:=It En (NV hn (by omega)) (by simp [Vp]) (by omega)
theorem jH (hn:n≤64) (hi:i≤900):Tm ((i:Int)+2) (UY (Vp n i) (Vp n (i+1)))=true:=It (NV hn (by omega)) (NV hn (by omega)) (by simp [Vp]) (by omega)
theorem jG (hn:n≤64):PQ [Yx] 1 (UY [Yx] (Vp n 0))=Vp n 0:=FM En (NV hn (by omega)) (by simp [Vp]) (by omega)
theorem jF (hn:n≤64) (hi:i≤900):PQ (Vp n i) ((i:Int)+2) (UY (Vp n i) (Vp n (i+1)))=Vp n (i+1):=FM (NV hn (by omega)) (NV hn (by omega)) (by simp [Vp]) (by omega)
theorem A7 (hn:n≤64):(Va 1 (UY [Yx] (Vp n 0))).length=55+n:=by
 unfold Va;rw [Z0 (jI hn),pU]
 simp [SL,OK,TV,Xd,Se,JH,Cx,Tf,mL,mJ,mH]
 omega
theorem A6 (hn:n≤64) (hi:i≤900):(Va ((i:Int)+2) (UY (Vp n i) (Vp n (i+1)))).length=31+n:=by
 unfold Va;rw [Z0 (jH hn hi),pT]
 simp [SL,OK,TV,Xd,Se,JH,Tf,mH]
 omega
def Xv (n:Nat):Nat:=2+(8*(55+n)+6) / 7
def Xh (n:Nat):Nat:=2+(8*(31+n)+6) / 7
theorem jE (hn:n≤64):(fr (Va 1 (UY [Yx] (Vp n 0)))).length=Xv n:=by
 rw [CW (by rw [A7 hn];omega) (by rw [A7 hn];omega),A7 hn];rfl
theorem mF (hn:n≤64) (hi:i≤900):(fr (Va ((i:Int)+2) (UY (Vp n i) (Vp n (i+1))))).length=Xh n:=by
 rw [CW (by rw [A6 hn hi];omega) (by rw [A6 hn hi];omega),A6 hn hi];rfl
theorem yY:(Xn [Yx]).length=23:=by simp [Xn,Se,Yx,mL,mJ]
theorem qK :(Xn (Vp n i)).length=23+24+n:=by
 simp [Xn,Vp,Se,JH,Cx,Tf,mL,mJ,mH]
 omega
def xL (n:Nat):List UInt8:=List.replicate n 120
def El (n:Nat):ByteArray:=UG ([99,114,101,97,116,101]++32 :: ([47,97]++32 :: xL n))
def Hb (n:Nat):ByteArray:=UG ([115,101,116]++32 :: ([47,97]++32 :: (xL n++32 :: [45,49])))
def NU:ByteArray:=⟨#[102,108,117,115,104]⟩
def DX:ByteArray:=⟨#[115,110,97,112]⟩
def A0:ByteArray:=⟨#[115,116,101,112,32,49,48,48,48]⟩
theorem jD (n:Nat):(32:UInt8) ∉ xL n:=by
 unfold xL;intro h;have:=(List.mem_replicate.1 h).2;exact absurd this (by decide)
theorem Ha (h:1≤n):Wi (UG (xL n))=true:=by
 unfold Wi;have h1:(UG (xL n)).size=n:=by simp [UG,ByteArray.size,xL]
 rw [Qy,h1]
 simp only [ZA,Zj]
 refine ⟨by omega,?_⟩;unfold xL;rw [Yw];intro c hc;rw [(List.mem_replicate.1 hc).2]
 decide
theorem qJ (n:Nat) (c:List UInt8) (hc:c.head?≠some 120) (h:1≤n):((UG (xL n)).toList == c)=false:=by
 have e:(UG (xL n)).toList=xL n:=by rw [YG];rfl
 rw [e];obtain ⟨m,rfl⟩:∃m,n=m+1:=⟨n - 1,by omega⟩
 cases c with
 | nil=>rfl
 | cons a c =>
  have:¬(120:UInt8)=a:=fun e=>hc (by simp [e])
  simp [xL,List.replicate_succ,this]
theorem uD (n:Nat):UK (El n)=[UG [99,114,101,97,116,101],pA,UG (xL n)]:=by
 unfold UK El;rw [Qy,Rh _ _ _ (by decide),Rh _ _ _ (by decide),RY _ _ (jD n)]
 rfl
theorem uC (n:Nat):UK (Hb n)=[UG [115,101,116],pA,UG (xL n),UG [45,49]]:=by
 unfold UK Hb;rw [Qy,Rh _ _ _ (by decide),Rh _ _ _ (by decide),Rh _ _ _ (jD n),RY _ _ (by decide)]
 rfl
theorem qI (h:1≤n) (hn:n≤64):TQ (El n)=⟨1,[opC n],false,⟨#[]⟩,[]⟩:=by
 have hs:(El n).size=10+n:=by simp [El,UG,ByteArray.size,xL];omega
 have g1:Wi (UG [99,114,101,97,116,101])=true:=by decide +kernel
 have g2:Wi pA=true:=by decide +kernel
 unfold TQ;rw [Z1 (by omega),uD];have ga:[UG [99,114,101,97,116,101],pA,UG (xL n)].all Wi=true:=by simp [g1,g2,Ha h]
 rw [Z0 ga,K0 (by show ((UG [99,114,101,97,116,101]).toList == [99,114,101,97,116,101])=true;decide +kernel)];have s1:TU (UG [99,114,101,97,116,101])=false:=by decide +kernel
 have s2:TU pA=false:=by decide +kernel
 have s3:TU (UG (xL n))=false:=qJ n _ (by decide) h;have e1:((UG [99,114,101,97,116,101]).toList == [99,114,101,97,116,101])=true:=by decide +kernel
 have e2:Og (UG (xL n))=xB n:=by unfold Og;rw [qJ n _ (by decide) h];rfl
 have eo:PV [UG [99,114,101,97,116,101],pA,UG (xL n)]=some (opC n):=by
  unfold PV
  simp only [List.any_cons,List.any_nil,s1,s2,s3,Bool.or_false,Yu,WW,ZE,Y7,Nat.reduceAdd,Vo,Yh,XM,Uq]
  unfold JY;rw [Z0 e1,e2]
  rfl
 rw [eo]
theorem AZ (h:1≤n) (hn:n≤64):TQ (Hb n)=⟨1,[Kf n],false,⟨#[]⟩,[]⟩:=by
 have hs:(Hb n).size=10+n:=by simp [Hb,UG,ByteArray.size,xL];omega
 have g1:Wi (UG [115,101,116])=true:=by decide +kernel
 have g2:Wi pA=true:=by decide +kernel
 have g3:Wi (UG [45,49])=true:=by decide +kernel
 unfold TQ;rw [Z1 (by omega),uC];have ga:[UG [115,101,116],pA,UG (xL n),UG [45,49]].all Wi=true:=by simp [g1,g2,g3,Ha h]
 rw [Z0 ga,BC (by show ((UG [115,101,116]).toList == [115,101,116])=true;decide +kernel)];have s1:TU (UG [115,101,116])=false:=by decide +kernel
 have s2:TU pA=false:=by decide +kernel
 have s3:TU (UG (xL n))=false:=qJ n _ (by decide) h;have s4:TU (UG [45,49])=false:=by decide +kernel
 have e1:((UG [115,101,116]).toList == [115,101,116])=true:=by decide +kernel
 have e2:Og (UG (xL n))=xB n:=by unfold Og;rw [qJ n _ (by decide) h];rfl
 have e3:SR (UG [45,49]).data.toList=some (-1):=by decide +kernel
 have eo:PV [UG [115,101,116],pA,UG (xL n),UG [45,49]]=some (Kf n):=by
  unfold PV
  simp only [List.any_cons,List.any_nil,s1,s2,s3,s4,Bool.or_false,Yu,WW,ZE,Y7,Nat.reduceAdd,Vo,Yh,XM,Uq,Nat.reduceEqDiff]
  unfold JX;rw [Z0 e1,e2,e3]
  rfl
 rw [eo]
theorem uB:UK NU=[NU]:=by unfold UK;rw [show NU.data.toList=[102,108,117,115,104] from rfl,RY _ _ (by decide)];rfl
theorem uA:UK DX=[DX]:=by unfold UK;rw [show DX.data.toList=[115,110,97,112] from rfl,RY _ _ (by decide)];rfl
theorem uz:UK A0=[UG [115,116,101,112],UG [49,48,48,48]]:=by
 unfold UK;rw [show A0.data.toList=[115,116,101,112]++32 :: [49,48,48,48] from rfl,Rh _ _ _ (by decide),RY _ _ (by decide)];rfl
theorem AY:TQ NU=⟨2,[],false,⟨#[]⟩,[]⟩:=by
 unfold TQ;rw [Z1 (by decide),uB,Z0 (by decide +kernel),Ji (by decide +kernel)];rfl
theorem qH:TQ DX=⟨6,[],false,⟨#[]⟩,[]⟩:=by
 unfold TQ;rw [Z1 (by decide),uA,Z0 (by decide +kernel),Fu (by decide +kernel)];rfl
theorem qG:TQ A0=⟨7,[],false,⟨#[]⟩,[1000]⟩:=by
 unfold TQ;rw [Z1 (by decide),uz,Z0 (by decide +kernel),Ft (by decide +kernel)];kernel_rfl
def Qt (n:Nat):List ByteArray:=[El n,NU]++List.replicate 110 (Hb n)++[NU,DX,A0,Hb n]
theorem Re (n:Nat):(Qt n).length=116:=by simp [Qt]
theorem uy (n k:Nat) (hk:k<116):(Qt n).getD k ⟨#[]⟩=if k=0 then El n else if k=1 then NU else if k<112 then Hb n else if k=112 then NU else if k=113 then DX else if k=114 then A0 else Hb n:=by
 unfold Qt;rw [List.getD,ZO]
 by_cases h2:k<2
 · rw [Zy (by simpa using h2)]
   have:k=0∨k=1:=by omega
   rcases this with rfl | rfl <;> simp
 rw [Zv (by simp;omega)]
 simp only [ZE,Y7,Nat.reduceAdd]
 by_cases h3:k<112
 · rw [Zy (by simp;omega),WZ,Z0 (by omega),Z1 (by omega),Z1 (by omega),Z0 h3];rfl
 rw [Zv (by simp;omega),XJ];have:k=112∨k=113∨k=114∨k=115:=by omega
 rcases this with rfl | rfl | rfl | rfl <;> simp
end
section
open Go.RowKit Go.Conc
variable {ys:List Int} {L S i j n o pB z:Nat} {κ:Sc} {σ:Sx} {vE:Value} {W w:World}
def tl (s:ByteArray) (zs:List Nat):ByteArray:=strOfNums (VS s zs)
def wQ:ByteArray:=⟨#[113,117,101,117,101,100]⟩
def wE:ByteArray:=⟨#[101,114,114,111,114]⟩
def wF:ByteArray:=⟨#[102,108,117,115,104,101,100]⟩
def wS:ByteArray:=⟨#[115,116,97,114,116,101,100]⟩
def wL:ByteArray:=⟨#[115,101,97,108,101,100]⟩
def wU:ByteArray:=⟨#[115,110,97,112,102,117,108,108]⟩
def VC (L n:Nat):Nat:=(L*64 - Xv n) / Xh n
def VZ (L n:Nat):Nat:=min 110 (VC L n)
def VY (S L n k:Nat):ByteArray :=
 if Xv n≤L*64 then
  if k=0 then tl wQ [1] else if k=1 then tl wF [1,1]
  else if k<112 then (if k - 2<VC L n then tl wQ [k] else tl wE [8])
  else if k=112 then tl wF [VZ L n,VZ L n+1] else if k=113 then tl wS [VZ L n+1]
  else if k=114 then (if 47+n≤S*64 then tl wL [VZ L n+1] else wU)
  else if 47+n≤S*64∨110<VC L n then tl wQ [VZ L n+2] else tl wE [8]
 else
  if k=0 then tl wE [8] else if k=1∨k=112 then tl wF [0,0] else if k=113 then tl wS [0] else if k=114 then tl wL [0] else tl wE [2]
def fk (σ:Sx):Prop:=σ.g=1∧σ.b=0∧σ.off=0
def Rt (σ:Sx):Prop:=σ.T=[Yx]∧σ.zf=0∧σ.Q=[Yx]∧σ.zq=0∧σ.fs=[]∧σ.ql=0∧σ.full=[]
structure Cr (n:Nat) (σ:Sx) (q f ln:Nat):Prop where
 Q:σ.Q=Vp n q
 zq:σ.zq=q+1
 T:σ.T=Vp n f
 zf:σ.zf=f+1
 le:f≤q
 fs:σ.fs.length=q - f
 fl:σ.fs.flatten.length=σ.ql
 ql:σ.ql=(q - f)*Xh n
 ln:σ.full.length - σ.off=ln
def Rk (S L n k:Nat) (σ:Sx):Prop :=
 (k≤1→σ.k=0)∧(k≤112→σ.k≤66)∧(k≤113→σ.k≤132)∧(k≤114→σ.k≤133∧fk σ)∧(k≤113→σ.sn=none)∧(k≤114→σ.em=false)∧(k=114→σ.pw=none)∧(k≤115→σ.full.length≤4096) ∧
 if Xv n≤L*64 then
  if k=0 then Rt σ
  else if k=1 then σ.T=[Yx]∧σ.zf=0∧σ.Q=Vp n 0∧σ.zq=1∧σ.fs.length=1∧σ.fs.flatten.length=Xv n∧σ.ql=Xv n∧σ.full=[]
  else if k≤112 then Cr n σ (min (k - 2) (VC L n)) 0 (Xv n)
  else if k=113 then Cr n σ (VZ L n) (VZ L n) (Xv n+VZ L n*Xh n)
  else if k=114 then Cr n σ (VZ L n) (VZ L n) (Xv n+VZ L n*Xh n)∧∃pB,σ.sn=some (pB,VZ L n+1,σ.full.length)
  else if k=115 then Cr n σ (VZ L n) (VZ L n) (if 47+n≤S*64 then 0 else Xv n+VZ L n*Xh n)
  else σ.T≠[]∧σ.Q≠[]
 else
  if k=114 then Rt σ∧∃pB,σ.sn=some (pB,0,0)
  else if k=115 then σ.Q=[Yx]∧σ.zq=0∧σ.ql=0∧σ.T=[Yx]
  else if k≤113 then Rt σ else σ.T≠[]∧σ.Q≠[]
theorem Rk.ne {k:Nat} (h:Rk S L n k σ):σ.T≠[]∧σ.Q≠[]:=by
 obtain ⟨-,-,-,-,-,-,-,-,r8⟩:=h;have hr:[Yx]≠[]:=by simp
 have ht:∀i,Vp n i≠[]:=fun i=>by simp [Vp]
 by_cases h9:Xv n≤L*64
 · rw [Z0 h9] at r8
   by_cases h0:k=0
   · rw [Z0 h0] at r8;rw [r8.1,r8.2.2.1];exact ⟨hr,hr⟩
   rw [Z1 h0] at r8
   by_cases h1:k=1
   · rw [Z0 h1] at r8;rw [r8.1,r8.2.2.1];exact ⟨hr,ht _⟩
   rw [Z1 h1] at r8
   by_cases h2:k≤112
   · rw [Z0 h2] at r8;rw [r8.T,r8.Q];exact ⟨ht _,ht _⟩
   rw [Z1 h2] at r8
   by_cases h3:k=113
   · rw [Z0 h3] at r8;rw [r8.T,r8.Q];exact ⟨ht _,ht _⟩
   rw [Z1 h3] at r8
   by_cases h4:k=114
   · rw [Z0 h4] at r8;rw [r8.1.T,r8.1.Q];exact ⟨ht _,ht _⟩
   rw [Z1 h4] at r8
   by_cases h5:k=115
   · rw [Z0 h5] at r8;rw [r8.T,r8.Q];exact ⟨ht _,ht _⟩
   rw [Z1 h5] at r8;exact r8
 rw [Z1 h9] at r8
 by_cases h4:k=114
 · rw [Z0 h4] at r8;rw [r8.1.1,r8.1.2.2.1];exact ⟨hr,hr⟩
 rw [Z1 h4] at r8
 by_cases h5:k=115
 · rw [Z0 h5] at r8;rw [r8.2.2.2,r8.1];exact ⟨hr,hr⟩
 rw [Z1 h5] at r8
 by_cases h6:k≤113
 · rw [Z0 h6] at r8;rw [r8.1,r8.2.2.1];exact ⟨hr,hr⟩
 rw [Z1 h6] at r8;exact r8
theorem Ke (h:Xv n≤L*64):i≤VC L n↔Xv n+i*Xh n≤L*64:=by
 have h0:0<Xh n:=by unfold Xh;omega
 unfold VC;rw [Nat.le_div_iff_mul_le h0];omega
theorem yX :Xh n≤Xv n:=by unfold Xh Xv;omega
structure yD (κ:Sc) (S L:Nat):Prop where
 eS:κ.S=(S:Int)
 eL:κ.L=(L:Int)
 cap:κ.cap=L*64 / 9
 c:Wp κ.S κ.L=true
theorem yD.b (h:yD κ S L):(1≤S∧S≤64)∧1≤L∧L≤64:=by
 obtain ⟨⟨h1,h2⟩,h3,h4⟩:=(Xk κ.S κ.L).1 h.c;rw [h.eS] at h1 h2;rw [h.eL] at h3 h4;omega
theorem jC (hn:n≤64):(Ye (Vp n i) j).path.size≤1048576∧(Ye (Vp n i) j).data.size≤1048576:=by
 match j with
 | 0=>exact ⟨by show Vq.size≤_;decide,by show empty.size≤_;decide⟩
 | 1 =>
  refine ⟨by show pA.size≤_;decide,?_⟩;show (xB n).size≤_;rw [Tf];omega
 | j+2=>exact ⟨by show (ByteArray.empty).size≤_;decide,by show (ByteArray.empty).size≤_;decide⟩
theorem pS :(Ye [Yx] j).path.size≤1048576∧(Ye [Yx] j).data.size≤1048576:=by
 match j with
 | 0=>exact ⟨by decide,by decide⟩
 | j+1=>exact ⟨by show (ByteArray.empty).size≤_;decide,by show (ByteArray.empty).size≤_;decide⟩
theorem IU {o:TK} (h1:o.path.size≤1048576∧o.data.size≤1048576) (h2:o.seq=false):(Ql [o] j).seq=false∧(Ql [o] j).path.size≤1048576∧(Ql [o] j).data.size≤1048576:=by
 match j with
 | 0=>exact ⟨h2,h1⟩
 | j+1=>exact ⟨rfl,by show (ByteArray.empty).size≤_;decide,by show (ByteArray.empty).size≤_;decide⟩
theorem fN (hn:n≤64):(Vr (UY [Yx] (Vp n 0)) j).nd.path.size≤1048576∧(Vr (UY [Yx] (Vp n 0)) j).nd.data.size≤1048576:=by
 rw [pU]
 match j with
 | 0=>exact ⟨by show Vq.size≤_;decide,by show empty.size≤_;decide⟩
 | 1 =>
  refine ⟨by show pA.size≤_;decide,?_⟩;show (xB n).size≤_;rw [Tf];omega
 | j+2=>exact ⟨by show (ByteArray.empty).size≤_;decide,by show (ByteArray.empty).size≤_;decide⟩
theorem fM (hn:n≤64):(Vr (UY (Vp n i) (Vp n (i+1))) j).nd.path.size≤1048576∧(Vr (UY (Vp n i) (Vp n (i+1))) j).nd.data.size≤1048576:=by
 rw [pT]
 match j with
 | 0 =>
  refine ⟨by show pA.size≤_;decide,?_⟩;show (xB n).size≤_;rw [Tf];omega
 | j+1=>exact ⟨by show (ByteArray.empty).size≤_;decide,by show (ByteArray.empty).size≤_;decide⟩
theorem pR (hn:n≤64):(opC n).path.size≤1048576∧(opC n).data.size≤1048576:=⟨by show pA.size≤_;decide,by show (xB n).size≤_;rw [Tf];omega⟩
theorem AX (hn:n≤64):(Kf n).path.size≤1048576∧(Kf n).data.size≤1048576:=⟨by show pA.size≤_;decide,by show (xB n).size≤_;rw [Tf];omega⟩
theorem Rm :Vp n i≠[]:=by simp [Vp]
theorem QK:[Yx]≠[]:=by simp
theorem mD (hn:n≤64) (hi:i≤1000):Sn (Xn (Vp n i)):=by
 intro x hx;obtain ⟨m,hm,hx⟩:=List.mem_flatMap.1 hx
 rcases Y9.1 hm with rfl | hm
 · exact P1 Cv x hx
 rcases Y9.1 hm with rfl | hm
 · exact P1 (Cw hn hi) x hx
 cases hm
theorem mC:Sn (Xn [Yx]):=by
 intro x hx;obtain ⟨m,hm,hx⟩:=List.mem_flatMap.1 hx
 rcases Y9.1 hm with rfl | hm
 · exact P1 (by decide +kernel) x hx
 cases hm
theorem my (hn:n≤64) (hi:i≤1000):∀j,j<(Vp n i).length→Wl (Ye (Vp n i) j)=true∧0<(Ye (Vp n i) j).path.size:=by
 intro j hj
 match j,hj with
 | 0,_=>exact ⟨Cv,by show 0<Vq.size;decide⟩
 | 1,_=>exact ⟨Cw hn hi,by show 0<pA.size;decide⟩
 | j+2,h=>simp [Vp] at h;omega
theorem mw:∀j,j<[Yx].length→Wl (Ye [Yx] j)=true∧0<(Ye [Yx] j).path.size:=by
 intro j hj
 match j,hj with
 | 0,_=>exact ⟨by decide +kernel,by decide⟩
 | j+1,h=>simp at h
section
variable {m:Int} {te:TypeId} {pe:Value} {S L n:Nat} {κ:Sc} {σ:Sx} {w:World}
theorem fL (Z:yD κ S L) (h:Sv κ σ w) (hgl:Gl m te pe κ w) (hn:n≤64) (hT:σ.T≠[]) (hQ:σ.Q=[Yx]) (hz:σ.zq=0) (hfs:σ.fs.length=0) (pX:σ.ql=0) (hfl:σ.full.length≤4096) (vo vn:Value) (pa:ByteArray) (ho:JZ w vo [opC n]) (CA:Pg κ vo) (V:∀q,vo.ownBlock=some q→q<w.heap.size) :
    Calls Tryz.prog 14 #[.pointer (some ⟨κ.sB,0,none⟩),.agg #[.int .i64 1,vo,.bool false,.string pa,vn]] w fun e w'=>e=.returned (.string (if L*64<σ.full.length - σ.off+Xv n then tl wE [8] else tl wQ [1]))∧Gw κ w w'∧∃ σ',σ'=(if L*64<σ.full.length - σ.off+Xv n then σ else { σ with Q:=Vp n 0,zq:=1,fs:=σ.fs++[fr (Va 1 (UY [Yx] (Vp n 0)))],ql:=Xv n })∧Sv κ σ' w':=by
 have hA:CD σ.Q [opC n] ((σ.zq:Int)+1)=⟨0,0,1,[[47,97]],UY [Yx] (Vp n 0)⟩:=by rw [hQ,hz];exact jL hn
 have hb:=Z.b;refine (Hc κ σ w h hgl hT (by rw [hQ];exact QK) vo vn pa [opC n] ho CA V (fun i=>(IU (pR hn) rfl).1) (by simp) (fun i=>(IU (pR hn) rfl).2) (by rw [hQ];exact fun i=>pS) (by omega) _ hA ⟨by show (0:Int)≤0;decide,by show (0:Int)<1000;decide⟩ ⟨by show (0:Int)≤1;decide,by show (1:Int)<1000000;decide⟩ (fun i=>fN hn) (fun _=>by show 0<(Va 1 _).length∧(Va 1 _).length≤2000;rw [A7 hn];omega) (by rw [Z.eL];omega) hfl (by omega) (fun _ _=>by rw [hfs,Z.cap];omega)).mono ?_;have e:CC κ σ ⟨0,0,1,[[47,97]],UY [Yx] (Vp n 0)⟩=(if L*64<σ.full.length - σ.off+Xv n then tl wE [8] else tl wQ [1],if L*64<σ.full.length - σ.off+Xv n then σ else { σ with Q:=Vp n 0,zq:=1,fs:=σ.fs++[fr (Va 1 (UY [Yx] (Vp n 0)))],ql:=Xv n }):=by
  unfold CC
  simp only [ne_eq,not_true_eq_false,WW,jE hn,Z.eL,pX,Za,hQ,jG hn]
  by_cases h9:L*64<σ.full.length - σ.off+Xv n
  · rw [Z0 (by omega),Z0 h9,Z0 h9];rfl
  rw [Z1 (by omega),Z1 h9,Z1 h9];rfl
 rw [e];exact fun _ _ h=>h
theorem jB (Z:yD κ S L) (h:Sv κ σ w) (hgl:Gl m te pe κ w) (hn:n≤64) (i:Nat) (hi:i≤900) (hT:σ.T≠[]) (hQ:σ.Q=Vp n i) (hz:σ.zq=i+1) (hfs:σ.fs.length*Xh n=σ.ql) (pX:σ.ql≤4096) (hfl:σ.full.length≤4096) (vo vn:Value) (pa:ByteArray) (ho:JZ w vo [Kf n]) (CA:Pg κ vo) (V:∀q,vo.ownBlock=some q→q<w.heap.size) :
    Calls Tryz.prog 14 #[.pointer (some ⟨κ.sB,0,none⟩),.agg #[.int .i64 1,vo,.bool false,.string pa,vn]] w fun e w'=>e=.returned (.string (if L*64<σ.full.length - σ.off+(σ.ql+Xh n) then tl wE [8] else tl wQ [i+2]))∧Gw κ w w'∧∃ σ',σ'=(if L*64<σ.full.length - σ.off+(σ.ql+Xh n) then σ else { σ with Q:=Vp n (i+1),zq:=i+2,fs:=σ.fs++[fr (Va ((i:Int)+2) (UY (Vp n i) (Vp n (i+1))))],ql:=σ.ql+Xh n })∧Sv κ σ' w':=by
 have hA:CD σ.Q [Kf n] ((σ.zq:Int)+1)=⟨0,0,(i:Int)+2,[[47,97]],UY (Vp n i) (Vp n (i+1))⟩:=by
  rw [hQ,hz,show (((i+1:Nat):Int)+1)=(i:Int)+2 by omega];exact jK hn hi
 have hb:=Z.b;have hroom:(((σ.full.length - σ.off)+(σ.ql+(fr (Va ((i:Int)+2) (UY (Vp n i) (Vp n (i+1))))).length):Nat):Int)≤κ.L*64→σ.fs.length<κ.cap:=by
  rw [mF hn hi,Z.eL,Z.cap];intro h9;have h8:(σ.fs.length+1)*Xh n≤L*64:=by rw [Tr,Uw,hfs];omega
  have h7:9≤Xh n:=by unfold Xh;omega
  have h6:(σ.fs.length+1)*9≤(σ.fs.length+1)*Xh n:=Nat.mul_le_mul_left _ h7;omega
 refine (Hc κ σ w h hgl hT (by rw [hQ];exact Rm) vo vn pa [Kf n] ho CA V (fun i=>(IU (AX hn) rfl).1) (by simp) (fun i=>(IU (AX hn) rfl).2) (by rw [hQ];exact fun i=>jC hn) (by omega) _ hA ⟨by show (0:Int)≤0;decide,by show (0:Int)<1000;decide⟩ ⟨by show 0≤(i:Int)+2;omega,by show (i:Int)+2<1000000;omega⟩ (fun j=>fM hn) (fun _=>by show 0<(Va ((i:Int)+2) _).length∧(Va ((i:Int)+2) _).length≤2000;rw [A6 hn hi];omega) (by rw [Z.eL];omega) hfl pX (fun _=>hroom)).mono ?_;have e:CC κ σ ⟨0,0,(i:Int)+2,[[47,97]],UY (Vp n i) (Vp n (i+1))⟩=(if L*64<σ.full.length - σ.off+(σ.ql+Xh n) then tl wE [8] else tl wQ [i+2],if L*64<σ.full.length - σ.off+(σ.ql+Xh n) then σ else { σ with Q:=Vp n (i+1),zq:=i+2,fs:=σ.fs++[fr (Va ((i:Int)+2) (UY (Vp n i) (Vp n (i+1))))],ql:=σ.ql+Xh n }):=by
  have e1:((i:Int)+2).toNat=i+2:=by omega
  unfold CC
  simp only [ne_eq,not_true_eq_false,WW,mF hn hi,Z.eL,hQ,jF hn hi,e1]
  by_cases h9:L*64<σ.full.length - σ.off+(σ.ql+Xh n)
  · rw [Z0 (by omega),Z0 h9,Z0 h9];rfl
  rw [Z1 (by omega),Z1 h9,Z1 h9];rfl
 rw [e];exact fun _ _ h=>h
theorem fK (Z:yD κ S L) (h:Sv κ σ w) (hgl:Gl m te pe κ w) (hn:n≤64) (hT:σ.T≠[]) (hQ:σ.Q=[Yx]) (hz:σ.zq=0) (pX:σ.ql≤4096) (hfl:σ.full.length≤4096) (vo vn:Value) (pa:ByteArray) (ho:JZ w vo [Kf n]) (CA:Pg κ vo) (V:∀q,vo.ownBlock=some q→q<w.heap.size) :
    Calls Tryz.prog 14 #[.pointer (some ⟨κ.sB,0,none⟩),.agg #[.int .i64 1,vo,.bool false,.string pa,vn]] w fun e w'=>e=.returned (.string (tl wE [2]))∧Gw κ w w'∧∃ σ',σ'=σ∧Sv κ σ' w':=by
 have hA:CD σ.Q [Kf n] ((σ.zq:Int)+1)=⟨2,0,0,[],[]⟩:=by rw [hQ,hz];exact jJ hn
 have hb:=Z.b;refine (Hc κ σ w h hgl hT (by rw [hQ];exact QK) vo vn pa [Kf n] ho CA V (fun i=>(IU (AX hn) rfl).1) (by simp) (fun i=>(IU (AX hn) rfl).2) (by rw [hQ];exact fun i=>pS) (by omega) _ hA ⟨by decide,by decide⟩ ⟨by decide,by decide⟩ (fun i=>⟨by show (ByteArray.empty).size≤_;decide,by show (ByteArray.empty).size≤_;decide⟩) (fun e=>by cases e) (by rw [Z.eL];omega) hfl pX (fun e=>by cases e)).mono ?_;rw [show CC κ σ ⟨2,0,0,[],[]⟩=(tl wE [2],σ) from rfl];exact fun _ _ h=>h
end
theorem mv {c:Prop} [Decidable c] {τ:Sx} (h1:σ.T≠[]∧σ.Q≠[]) (h2:τ.T≠[]∧τ.Q≠[]):(if c then σ else τ).T≠[]∧(if c then σ else τ).Q≠[]:=by
 by_cases h:c
 · rw [Z0 h];exact h1
 rw [Z1 h];exact h2
def lx (S L n k:Nat) (κ:Sc) (w:World) (e:Ending) (w':World):Prop :=
 e=.returned (.string (VY S L n k))∧Gw κ w w'∧∃ σ',Rk S L n (k+1) σ'∧Sv κ σ' w'
section
variable {m:Int} {te:TypeId} {pe:Value} {S L n k:Nat} {κ:Sc} {σ:Sx} {w:World}
theorem jA (Z:yD κ S L) (h:Sv κ σ w) (hgl:Gl m te pe κ w) (hn:n≤64) (hR:Rk S L n k σ) (hk:k=0) (vo vn:Value) (pa:ByteArray) (ho:JZ w vo [opC n]) (CA:Pg κ vo) (V:∀q,vo.ownBlock=some q→q<w.heap.size) :
    Calls Tryz.prog 14 #[.pointer (some ⟨κ.sB,0,none⟩),.agg #[.int .i64 1,vo,.bool false,.string pa,vn]] w (lx S L n k κ w):=by
 subst hk;obtain ⟨r0,r1,r2,r3,r4,r5,r6,r7,r8⟩:=hR;have hb:=Z.b;have rt:Rt σ:=by
  by_cases h9:Xv n≤L*64
  · rw [Z0 h9,Z0 rfl] at r8;exact r8
  rw [Z1 h9,Z1 (by decide),Z1 (by decide),Z0 (by decide)] at r8;exact r8
 obtain ⟨t1,t2,t3,t4,t5,t6,t7⟩:=rt;refine (fL Z h hgl hn (by rw [t1];exact QK) t3 t4 (by rw [t5];rfl) t6 (r7 (by omega)) vo vn pa ho CA V).mono ?_;have z0:σ.full.length - σ.off+Xv n=Xv n:=by rw [t7];simp
 rw [z0];rintro e w' ⟨rfl,g,σ',rfl,v⟩
 by_cases h9:Xv n≤L*64
 · rw [Z1 (by omega)] at v ⊢
   refine ⟨by unfold VY;rw [Z0 h9,Z0 rfl],g,_,?_,v⟩;refine ⟨fun _=>r0 (by omega),fun _=>r1 (by omega),fun _=>r2 (by omega),fun _=>r3 (by omega),fun _=>r4 (by omega),fun _=>r5 (by omega),fun e=>by omega,fun _=>r7 (by omega),?_⟩;rw [Z0 h9,Z1 (by omega),Z0 rfl];refine ⟨t1,t2,rfl,rfl,by rw [t5];rfl,?_,rfl,t7⟩;show (σ.fs++[fr (Va 1 (UY [Yx] (Vp n 0)))]).flatten.length=Xv n;rw [t5]
   simpa using jE hn
 rw [Z0 (by omega)] at v ⊢;refine ⟨by unfold VY;rw [Z1 h9,Z0 rfl],g,_,?_,v⟩;refine ⟨fun _=>r0 (by omega),fun _=>r1 (by omega),fun _=>r2 (by omega),fun _=>r3 (by omega),fun _=>r4 (by omega),fun _=>r5 (by omega),fun e=>by omega,fun _=>r7 (by omega),?_⟩;rw [Z1 h9,Z1 (by omega),Z1 (by omega),Z0 (by omega)];exact ⟨t1,t2,t3,t4,t5,t6,t7⟩
theorem pQ (Z:yD κ S L) (h:Sv κ σ w) (hgl:Gl m te pe κ w) (hn:n≤64) (hR:Rk S L n k σ) (hk:(2≤k∧k<112)∨k=115) (vo vn:Value) (pa:ByteArray) (ho:JZ w vo [Kf n]) (CA:Pg κ vo) (V:∀q,vo.ownBlock=some q→q<w.heap.size) :
    Calls Tryz.prog 14 #[.pointer (some ⟨κ.sB,0,none⟩),.agg #[.int .i64 1,vo,.bool false,.string pa,vn]] w (lx S L n k κ w):=by
 obtain ⟨r0,r1,r2,r3,r4,r5,r6,r7,r8⟩:=hR;have hb:=Z.b;have hfl:=r7 (by omega)
 by_cases h9:Xv n≤L*64
 · rw [Z0 h9,Z1 (by omega),Z1 (by omega)] at r8
   have hem:=yX (n:=n)
   rcases hk with ⟨k2,k3⟩ | rfl
   · rw [Z0 (by omega)] at r8
     have hf1:=Ke (L:=L) (n:=n) (i:=min (k - 2) (VC L n)) h9;have hf2:=Ke (L:=L) (n:=n) (i:=min (k - 2) (VC L n)+1) h9;have hf3:=hf1.1 (UR _ _);have hq1:σ.ql=min (k - 2) (VC L n)*Xh n:=by have:=r8.ql;rwa [XY] at this
     have hfs:σ.fs.length=min (k - 2) (VC L n):=by have:=r8.fs;rwa [XY] at this
     have hln:=r8.ln;rw [Tr,Uw] at hf2;refine (jB Z h hgl hn (min (k - 2) (VC L n)) (by omega) (by rw [r8.T];exact Rm) r8.Q r8.zq (by rw [hfs,hq1]) (by omega) hfl vo vn pa ho CA V).mono ?_;rintro e w' ⟨rfl,g,σ',rfl,v⟩;rw [hln,hq1] at v ⊢
     by_cases h8:k - 2<VC L n
     · have hm:min (k - 2) (VC L n)=k - 2:=YC (by omega)
       rw [hm] at v hf2 hf3 hfs hq1 ⊢;have:=hf2.1 (by omega);rw [Z1 (by omega)] at v ⊢;refine ⟨by unfold VY;rw [Z0 h9,Z1 (by omega),Z1 (by omega),Z0 (by omega),Z0 h8,show k - 2+2=k by omega],g,_,?_,v⟩;refine ⟨fun e=>by omega,fun _=>r1 (by omega),fun _=>r2 (by omega),fun _=>r3 (by omega),fun _=>r4 (by omega),fun _=>r5 (by omega),fun e=>by omega,fun _=>hfl,?_⟩;rw [Z0 h9,Z1 (by omega),Z1 (by omega),Z0 (by omega),YC (by omega)];have e1:k+1 - 2=k - 2+1:=by omega
       have uV:=r8.fl;rw [e1];refine ⟨rfl,rfl,r8.T,r8.zf,Zu _,by show (σ.fs++[_]).length=_;simp [hfs],?_,?_,hln⟩
       · show (σ.fs++[_]).flatten.length=(k - 2)*Xh n+Xh n
         rw [List.flatten_append,ZZ,uV,hq1]
         simpa using mF hn (by omega)
       show (k - 2)*Xh n+Xh n=(k - 2+1 - 0)*Xh n;rw [XY,Tr,Uw]
     have hm:min (k - 2) (VC L n)=VC L n:=Nat.min_eq_right (by omega);rw [hm] at v hf2 hf3 hfs hq1 ⊢;have:¬Xv n+(VC L n*Xh n+Xh n)≤L*64:=fun e=>by have:=hf2.2 e;omega
     rw [Z0 (by omega)] at v ⊢;refine ⟨by unfold VY;rw [Z0 h9,Z1 (by omega),Z1 (by omega),Z0 (by omega),Z1 h8],g,_,?_,v⟩;refine ⟨fun e=>by omega,fun _=>r1 (by omega),fun _=>r2 (by omega),fun _=>r3 (by omega),fun _=>r4 (by omega),fun _=>r5 (by omega),fun e=>by omega,fun _=>hfl,?_⟩;rw [Z0 h9,Z1 (by omega),Z1 (by omega),Z0 (by omega),show min (k+1 - 2) (VC L n)=min (k - 2) (VC L n) by omega];exact r8
   rw [Z1 (by omega),Z1 (by omega),Z1 (by omega),Z0 rfl] at r8;have hf2:=Ke (L:=L) (n:=n) (i:=VZ L n+1) h9;rw [Tr,Uw] at hf2;have hln:=r8.ln;have hq1:σ.ql=0:=by have:=r8.ql;rwa [Wf,Xg] at this
   have hfs:σ.fs.length=0:=by have:=r8.fs;rwa [Wf] at this
   have ht:VZ L n≤110:=VV _ _;refine (jB Z h hgl hn (VZ L n) (by omega) (by rw [r8.T];exact Rm) r8.Q r8.zq (by rw [hfs,hq1,Xg]) (by omega) hfl vo vn pa ho CA V).mono ?_;rintro e w' ⟨rfl,g,σ',rfl,v⟩;rw [hln,hq1] at v ⊢;refine ⟨?_,g,_,?_,v⟩
   · have ea:VY S L n 115=if 47+n≤S*64∨110<VC L n then tl wQ [VZ L n+2] else tl wE [8]:=by
      unfold VY;rw [Z0 h9]
      rfl
     rw [ea];clear v
     by_cases h8:47+n≤S*64
     · rw [Z0 h8,Z1 (show ¬L*64<0+(0+Xh n) by omega),Z0 (.inl h8)]
     rw [Z1 h8]
     by_cases h7:110<VC L n
     · have:=hf2.1 (by unfold VZ;omega)
       rw [Z1 (by omega),Z0 (.inr h7)]
     have:¬Xv n+(VZ L n*Xh n+Xh n)≤L*64:=fun e=>by have:=hf2.2 e;unfold VZ at this;omega
     rw [Z0 (by omega),Z1 (by omega)]
   refine ⟨fun e=>by omega,fun e=>by omega,fun e=>by omega,fun e=>by omega,fun e=>by omega,fun e=>by omega,fun e=>by omega,fun e=>by omega,?_⟩;rw [Z0 h9,Z1 (by omega),Z1 (by omega),Z1 (by omega),Z1 (by omega),Z1 (by omega),Z1 (by omega)];exact mv (by rw [r8.T,r8.Q];exact ⟨Rm,Rm⟩) ⟨by show σ.T≠[];rw [r8.T];exact Rm,Rm⟩
 rw [Z1 h9] at r8;have hq:σ.Q=[Yx]∧σ.zq=0∧σ.ql=0∧σ.T=[Yx]:=by
  rcases hk with ⟨k2,k3⟩ | rfl
  · rw [Z1 (by omega),Z1 (by omega),Z0 (by omega)] at r8
    exact ⟨r8.2.2.1,r8.2.2.2.1,r8.2.2.2.2.2.1,r8.1⟩
  rw [Z1 (by omega),Z0 rfl] at r8;exact r8
 obtain ⟨q1,q2,q3,q4⟩:=hq;refine (fK Z h hgl hn (by rw [q4];exact QK) q1 q2 (by omega) hfl vo vn pa ho CA V).mono ?_;rintro e w' ⟨rfl,g,σ',rfl,v⟩;refine ⟨?_,g,_,?_,v⟩
 · unfold VY
   rw [Z1 h9,Z1 (by omega),Z1 (by omega),Z1 (by omega),Z1 (by omega)]
 refine ⟨fun e=>by omega,fun _=>r1 (by omega),fun _=>r2 (by omega),fun _=>r3 (by omega),fun _=>r4 (by omega),fun _=>r5 (by omega),fun e=>by omega,fun _=>hfl,?_⟩;rw [Z1 h9]
 rcases hk with ⟨k2,k3⟩ | rfl
 · rw [Z1 (by omega),Z1 (by omega),Z0 (by omega)] at r8 ⊢
   exact r8
 rw [Z1 (by omega),Z1 (by omega),Z1 (by omega),q1,q4];exact ⟨QK,QK⟩
end
section
variable {m:Int} {te:TypeId} {pe:Value} {S L n k:Nat} {κ:Sc} {σ:Sx} {w:World}
theorem pP (Z:yD κ S L) (h:Sv κ σ w) (hgl:Gl m te pe κ w) (hn:n≤64) (hR:Rk S L n k σ) (hk:k=1∨k=112) (vo vn:Value) (mu:Bool) (pa:ByteArray) :
    Calls Tryz.prog 14 #[.pointer (some ⟨κ.sB,0,none⟩),.agg #[.int .i64 2,vo,.bool mu,.string pa,vn]] w (lx S L n k κ w):=by
 obtain ⟨r0,r1,r2,r3,r4,r5,r6,r7,r8⟩:=hR;have hb:=Z.b;have hfl:=r7 (by omega);obtain ⟨i1,i2,i3⟩:=(r3 (by omega)).2
 by_cases h9:Xv n≤L*64
 · rw [Z0 h9,Z1 (by omega)] at r8
   rcases hk with rfl | rfl
   · rw [Z0 rfl] at r8
     obtain ⟨t1,t2,t3,t4,t5,t6,t7,t8⟩:=r8;have hk0:=r0 (by omega);refine (Kg κ σ w h hgl (by rw [t1];exact QK) (by rw [t3];exact Rm) vo vn mu pa (by omega) (by omega) i3 (by rw [t8,t6,Z.eL];simp;omega) Z.c (by omega) (by omega) (by omega) (.inr (r4 (by omega)))).mono ?_;rw [t5,t4];rintro e w' ⟨rfl,g,σ',rfl,v⟩;refine ⟨by unfold VY;rw [Z0 h9,Z1 (by omega),Z0 rfl];rfl,g,_,?_,v⟩;refine ⟨fun e=>by omega,fun _=>by show σ.k+66≤66;omega,fun _=>by show σ.k+66≤132;omega,fun _=>⟨by show σ.k+66≤133;omega,i1,i2,i3⟩,fun _=>r4 (by omega),fun _=>r5 (by omega),fun e=>by omega,fun _=>by show (σ.full++σ.fs.flatten).length≤4096;rw [t8,Zd,t6];omega,?_⟩;rw [Z0 h9,Z1 (by omega),Z1 (by omega),Z0 (by omega),show min (1+1 - 2) (VC L n)=0 by omega];refine ⟨t3,rfl,t3,rfl,YR,rfl,rfl,by show 0=(0 - 0)*Xh n;simp,?_⟩;show (σ.full++σ.fs.flatten).length - σ.off=Xv n;rw [t8,Zd,t6,i3];rfl
   rw [Z1 (by omega),Z0 (by omega),show min (112 - 2) (VC L n)=VZ L n from rfl] at r8;have hk0:=r1 (by omega);have ht:VZ L n≤110:=VV _ _;have hf:=(Ke (L:=L) (n:=n) (i:=VZ L n) h9).1 (UR _ _);have hq1:σ.ql=VZ L n*Xh n:=by have:=r8.ql;rwa [XY] at this
   have hfs:σ.fs.length=VZ L n:=by have:=r8.fs;rwa [XY] at this
   have hln:σ.full.length=Xv n:=by have:=r8.ln;rwa [i3,XY] at this
   have ea:VY S L n 112=tl wF [VZ L n,VZ L n+1]:=by unfold VY;rw [Z0 h9];rfl
   by_cases h8:σ.fs=[]
   · have h7:VZ L n=0:=by rw [←hfs,h8];rfl
     rw [h7] at r8 ea;refine (Kh κ σ w h hgl (by rw [r8.T];exact Rm) (by rw [r8.Q];exact Rm) vo vn mu pa h8 (by rw [r8.zf];omega)).mono ?_;rw [r8.zf];rintro e w' ⟨rfl,g,σ',rfl,v⟩;refine ⟨by rw [ea];rfl,g,_,?_,v⟩;refine ⟨fun e=>by omega,fun e=>by omega,fun _=>by omega,fun _=>r3 (by omega),fun _=>r4 (by omega),fun _=>r5 (by omega),fun e=>by omega,fun _=>hfl,?_⟩;rw [Z0 h9,Z1 (by omega),Z1 (by omega),Z1 (by omega),Z0 rfl,h7,Xg];exact r8
   refine (Kg κ σ w h hgl (by rw [r8.T];exact Rm) (by rw [r8.Q];exact Rm) vo vn mu pa (List.length_pos_iff.2 h8) (by omega) i3 (by rw [r8.fl,hq1,hln,Z.eL];omega) Z.c (by omega) (by omega) (by rw [r8.zq];omega) (.inr (r4 (by omega)))).mono ?_;rw [hfs,r8.zq];rintro e w' ⟨rfl,g,σ',rfl,v⟩;refine ⟨by rw [ea];rfl,g,_,?_,v⟩;have e1:(σ.full++σ.fs.flatten).length=Xv n+VZ L n*Xh n:=by rw [ZZ,r8.fl,hq1,hln]
   refine ⟨fun e=>by omega,fun e=>by omega,fun _=>by show σ.k+66≤132;omega,fun _=>⟨by show σ.k+66≤133;omega,i1,i2,i3⟩,fun _=>r4 (by omega),fun _=>r5 (by omega),fun e=>by omega,fun _=>by show (σ.full++σ.fs.flatten).length≤4096;omega,?_⟩;rw [Z0 h9,Z1 (by omega),Z1 (by omega),Z1 (by omega),Z0 rfl];refine ⟨r8.Q,rfl,r8.Q,rfl,YR,by show 0=VZ L n - VZ L n;omega,rfl,by show 0=(VZ L n - VZ L n)*Xh n;rw [Wf,Xg],?_⟩;show (σ.full++σ.fs.flatten).length - σ.off=_;rw [e1,i3,XY]
 rw [Z1 h9,Z1 (by omega),Z1 (by omega),Z0 (by omega)] at r8;obtain ⟨t1,t2,t3,t4,t5,t6,t7⟩:=r8;refine (Kh κ σ w h hgl (by rw [t1];exact QK) (by rw [t3];exact QK) vo vn mu pa t5 (by omega)).mono ?_;rw [t2];rintro e w' ⟨rfl,g,σ',rfl,v⟩;refine ⟨by unfold VY;rw [Z1 h9,Z1 (by omega),Z0 hk];rfl,g,_,?_,v⟩;refine ⟨fun e=>by omega,fun _=>r1 (by omega),fun _=>r2 (by omega),fun _=>r3 (by omega),fun _=>r4 (by omega),fun _=>r5 (by omega),fun e=>by omega,fun _=>hfl,?_⟩;rw [Z1 h9,Z1 (by omega),Z1 (by omega),Z0 (by omega)];exact ⟨t1,t2,t3,t4,t5,t6,t7⟩
theorem jz (Z:yD κ S L) (h:Sv κ σ w) (hgl:Gl m te pe κ w) (hn:n≤64) (hR:Rk S L n k σ) (hk:k=113) (vo vn:Value) (mu:Bool) (pa:ByteArray) :
    Calls Tryz.prog 14 #[.pointer (some ⟨κ.sB,0,none⟩),.agg #[.int .i64 6,vo,.bool mu,.string pa,vn]] w (lx S L n k κ w):=by
 subst hk;obtain ⟨r0,r1,r2,r3,r4,r5,r6,r7,r8⟩:=hR;have hb:=Z.b;have hfl:=r7 (by omega);have hk0:=r2 (by omega);obtain ⟨i1,i2,i3⟩:=(r3 (by omega)).2;have ht:VZ L n≤110:=VV _ _
 by_cases h9:Xv n≤L*64
 · rw [Z0 h9,Z1 (by omega),Z1 (by omega),Z1 (by omega),Z0 rfl] at r8
   refine (Eq κ σ w h hgl (by rw [r8.T];exact Rm) (by rw [r8.Q];exact Rm) vo vn mu pa (by omega) (r4 (by omega)) (by rw [r8.zf];omega) hfl).mono ?_;rw [r8.zf,i3,XY];rintro e w' ⟨rfl,g,σ',⟨pB,rfl⟩,v⟩;refine ⟨by unfold VY;rw [Z0 h9];rfl,g,_,?_,v⟩;refine ⟨fun e=>by omega,fun e=>by omega,fun e=>by omega,fun _=>⟨by show σ.k+1≤133;omega,i1,i2,rfl⟩,fun e=>by omega,fun _=>rfl,fun _=>rfl,fun _=>hfl,?_⟩;rw [Z0 h9,Z1 (by omega),Z1 (by omega),Z1 (by omega),Z1 (by omega),Z0 rfl];exact ⟨⟨r8.Q,r8.zq,r8.T,rfl,r8.le,r8.fs,r8.fl,r8.ql,by have:=r8.ln;rwa [i3] at this⟩,pB,rfl⟩
 rw [Z1 h9,Z1 (by omega),Z1 (by omega),Z0 (by omega)] at r8;obtain ⟨t1,t2,t3,t4,t5,t6,t7⟩:=r8;refine (Eq κ σ w h hgl (by rw [t1];exact QK) (by rw [t3];exact QK) vo vn mu pa (by omega) (r4 (by omega)) (by omega) hfl).mono ?_;have t9:σ.full.length - σ.off=0:=by rw [t7];simp
 rw [t2,t9];rintro e w' ⟨rfl,g,σ',⟨pB,rfl⟩,v⟩;refine ⟨by unfold VY;rw [Z1 h9];rfl,g,_,?_,v⟩;refine ⟨fun e=>by omega,fun e=>by omega,fun e=>by omega,fun _=>⟨by show σ.k+1≤133;omega,i1,i2,i3⟩,fun e=>by omega,fun _=>rfl,fun _=>rfl,fun _=>hfl,?_⟩;rw [Z1 h9,Z0 rfl];exact ⟨⟨t1,rfl,t3,t4,t5,t6,t7⟩,pB,rfl⟩
theorem jy (Z:yD κ S L) (h:Sv κ σ w) (hgl:Gl m te pe κ w) (hn:n≤64) (hR:Rk S L n k σ) (hk:k=114) (vo vn:Value) (mu:Bool) (pa:ByteArray) (mQ:Rd .i64 w vn [1000]) :
    Calls Tryz.prog 14 #[.pointer (some ⟨κ.sB,0,none⟩),.agg #[.int .i64 7,vo,.bool mu,.string pa,vn]] w (lx S L n k κ w):=by
 subst hk;obtain ⟨r0,r1,r2,r3,r4,r5,r6,r7,r8⟩:=hR;have hb:=Z.b;have hfl:=r7 (by omega);have hem:=r5 (by omega);have hpw:=r6 rfl;obtain ⟨hk0,i1,i2,i3⟩:=r3 (by omega);have ht:VZ L n≤110:=VV _ _
 by_cases h9:Xv n≤L*64
 · rw [Z0 h9,Z1 (by omega),Z1 (by omega),Z1 (by omega),Z1 (by omega),Z0 rfl] at r8
   obtain ⟨r8,pB,hsn⟩:=r8;have hf:=(Ke (L:=L) (n:=n) (i:=VZ L n) h9).1 (UR _ _);have hfs:σ.fs=[]:=by have:=r8.fs;rw [Wf] at this;exact List.length_eq_zero_iff.1 this
   have hln:σ.full.length=Xv n+VZ L n*Xh n:=by have:=r8.ln;rwa [i3,XY] at this
   have hok:=my (n:=n) (i:=VZ L n) hn (by omega);have hs:=qK (n:=n) (i:=VZ L n);have ea:VY S L n 114=if 47+n≤S*64 then tl wL [VZ L n+1] else wU:=by unfold VY;rw [Z0 h9];rfl
   have ec:(((Xn (Vp n (VZ L n))).length:Int)≤κ.S*64)=(47+n≤S*64):=by rw [hs,Z.eS];exact propext ⟨fun h=>by omega,fun h=>by omega⟩
   refine (Ep κ σ w h hgl (by rw [r8.T];exact Rm) (by rw [r8.Q];exact Rm) vo vn mu pa mQ pB _ _ hsn hem (by rw [r8.T];simp [Vp]) (by rw [r8.T];exact fun j hj=>(hok j hj).1) (by rw [r8.T];exact fun j hj=>(hok j hj).2) (by rw [r8.T,hs];omega) (by rw [r8.T];exact mD hn (by omega)) hfs hpw i1 i2 i3 YR (by rw [hln,Z.eL];omega) (by omega) (by omega) Z.c).mono ?_;rw [r8.T]
   simp only [ec]
   rintro e w' ⟨rfl,g,σ',⟨l,r,rfl⟩,v⟩;refine ⟨by rw [ea];rfl,g,_,?_,v⟩
   by_cases h8:47+n≤S*64
   · rw [Z0 h8]
     refine ⟨fun e=>by omega,fun e=>by omega,fun e=>by omega,fun e=>by omega,fun e=>by omega,fun e=>by omega,fun e=>by omega,fun _=>hfl,?_⟩;rw [Z0 h9,Z1 (by omega),Z1 (by omega),Z1 (by omega),Z1 (by omega),Z1 (by omega),Z0 rfl,Z0 h8];exact ⟨r8.Q,r8.zq,rfl,r8.zf,r8.le,r8.fs,r8.fl,r8.ql,by show σ.full.length - σ.full.length=0;omega⟩
   rw [Z1 h8];refine ⟨fun e=>by omega,fun e=>by omega,fun e=>by omega,fun e=>by omega,fun e=>by omega,fun e=>by omega,fun e=>by omega,fun _=>hfl,?_⟩;rw [Z0 h9,Z1 (by omega),Z1 (by omega),Z1 (by omega),Z1 (by omega),Z1 (by omega),Z0 rfl,Z1 h8];exact ⟨r8.Q,r8.zq,rfl,r8.zf,r8.le,r8.fs,r8.fl,r8.ql,r8.ln⟩
 rw [Z1 h9,Z0 rfl] at r8;obtain ⟨⟨t1,t2,t3,t4,t5,t6,t7⟩,pB,hsn⟩:=r8;have hok:=mw;have hs:=yY;have ec:((Xn [Yx]).length:Int)≤κ.S*64:=by rw [hs,Z.eS];omega
 refine (Ep κ σ w h hgl (by rw [t1];exact QK) (by rw [t3];exact QK) vo vn mu pa mQ pB _ _ hsn hem (by rw [t1];simp) (by rw [t1];exact fun j hj=>(hok j hj).1) (by rw [t1];exact fun j hj=>(hok j hj).2) (by rw [t1,hs];omega) (by rw [t1];exact mC) t5 hpw i1 i2 i3 (Zu _) (by rw [t7,Z.eL];simp;omega) (by omega) (by omega) Z.c).mono ?_;rw [t1]
 simp only [ec,Vo]
 rintro e w' ⟨rfl,g,σ',⟨l,r,rfl⟩,v⟩;refine ⟨by unfold VY;rw [Z1 h9];rfl,g,_,?_,v⟩;refine ⟨fun e=>by omega,fun e=>by omega,fun e=>by omega,fun e=>by omega,fun e=>by omega,fun e=>by omega,fun e=>by omega,fun _=>hfl,?_⟩;rw [Z1 h9,Z1 (by omega),Z0 rfl];exact ⟨t3,t4,t6,rfl⟩
theorem yW (Z:yD κ S L) (h:Sv κ σ w) (hgl:Gl m te pe κ w) (hn:n≤64) (hR:Rk S L n k σ) (hn1:1≤n) (hk:k<116) (vo vn:Value) (W0:World) (l:Ln) (hl:TQ ((Qt n).getD k ⟨#[]⟩)=l) (hb0:Zi W0 w) (h0:Sv κ σ W0) (ho:RQ 159 w W0.heap.size vo l.ops) (hnn:Own .i64 2 w W0.heap.size vn l.nums) :
    Calls Tryz.prog 14 #[.pointer (some ⟨κ.sB,0,none⟩),.agg #[.int .i64 l.kind,vo,.bool l.RJ,.string l.path,vn]] w (lx S L n k κ w):=by
 have Mu:Pg κ vo:=by
  intro q hq;have hge:=(ZT ho q hq).1;obtain ⟨vd,made,YL,a1,-⟩:=h0.dk;obtain ⟨vt,vq,cp,b1,-,-,-,-,-,b7,-⟩:=h0.mm;obtain ⟨Lv,s,r,c1,-⟩:=h0.ch;have z1:=a1.lt;have z2:=b1.lt;have z3:=(Z3.1 c1).1;have z4:κ.lb<W0.heap.size:=(b7.lt κ.lb rfl).2;refine ⟨by omega,by omega,by omega,by omega,fun hx=>?_⟩;have:=(h0.fx q hx).1;omega
 have V:∀q,vo.ownBlock=some q→q<w.heap.size:=fun q hq=>(ZT ho q hq).2
 rw [uy n k hk] at hl
 by_cases e0:k=0
 · rw [Z0 e0,qI hn1 hn] at hl
   subst hl;exact jA Z h hgl hn hR e0 vo vn _ ho.rd Mu V
 rw [Z1 e0] at hl
 by_cases e1:k=1
 · rw [Z0 e1,AY] at hl
   subst hl;exact pP Z h hgl hn hR (.inl e1) vo vn _ _
 rw [Z1 e1] at hl
 by_cases e2:k<112
 · rw [Z0 e2,AZ hn1 hn] at hl
   subst hl;exact pQ Z h hgl hn hR (.inl (by omega)) vo vn _ ho.rd Mu V
 rw [Z1 e2] at hl
 by_cases e3:k=112
 · rw [Z0 e3,AY] at hl
   subst hl;exact pP Z h hgl hn hR (.inr e3) vo vn _ _
 rw [Z1 e3] at hl
 by_cases e4:k=113
 · rw [Z0 e4,qH] at hl
   subst hl;exact jz Z h hgl hn hR e4 vo vn _ _
 rw [Z1 e4] at hl
 by_cases e5:k=114
 · rw [Z0 e5,qG] at hl
   subst hl;exact jy Z h hgl hn hR e5 vo vn _ _ (Own.rd hnn)
 rw [Z1 e5,AZ hn1 hn] at hl;subst hl;exact pQ Z h hgl hn hR (.inr (by omega)) vo vn _ ho.rd Mu V
end
end
section
open Go.RowKit Go.Shelf
variable {ys:List Int} {L S i j n o pB z:Nat} {κ:Sc} {σ:Sx} {vE:Value} {W w:World}
theorem Cu (W:World) (x:Nat):Rd .u8 (W.alloc (.cells #[.int .u8 (x:Int)] 5)) (.slice (some ⟨W.heap.size,0,none⟩) 1 1) [(x:Int)]:=by
 refine ⟨_,_,rfl,YR,by unfold maxLen;omega,.inr ⟨W.heap.size,0,rfl,by simp,fun i hi=>?_⟩⟩;have:i=0:=by simp at hi;omega
 subst this
 simp
theorem ux (w:World) (n:Nat) (hn:n<10) :
    Calls Tryz.prog 15 #[.int .i64 (n:Int)] w fun e w'=>∃s:ByteArray,e=.returned (.string s)∧s=strOfNums [48+(n:Int)]∧Zi w w':=by
 have h0:¬(n:Int)<0:=by omega
 have h1:(n:Int)<10:=by omega
 have hcv:=To (Cu w (48+n));rw [show ((48+n:Nat):Int)=48+(n:Int) by omega] at hcv;have B0:Hid (Zi w (w.alloc (.cells #[.int .u8 (48+(n:Int))] 5))):=Yy.alloc YR _
 go_enter Tryz.func15,Tryz.ntmps15
 go_wp2;go_ret;exact ⟨_,rfl,rfl,B0.out⟩
theorem uw (w:World) (a d:Nat) (sa:ByteArray) (ha:a<1000000) (ha1:1≤a) (hd:d<10) (hz:sa.size≤1000) (hc:∀W,Calls Tryz.prog 15 #[.int .i64 (a:Int)] W fun e w'=>∃s:ByteArray,e=.returned (.string s)∧s=sa∧Zi W w') :
    Calls Tryz.prog 15 #[.int .i64 (10*(a:Int)+(d:Int))] w fun e w'=>∃s:ByteArray,e=.returned (.string s)∧s=sa++strOfNums [48+(d:Int)]∧Zi w w':=by
 have h0:¬10*(a:Int)+(d:Int)<0:=by omega
 have h1:¬10*(a:Int)+(d:Int)<10:=by omega
 have hq:IntKind.i64.wrap ((10*(a:Int)+(d:Int)).tdiv 10)=(a:Int):=by
  rw [UF (by omega),Zq];omega
 have hr:(10*(a:Int)+(d:Int)).tmod 10=(d:Int):=by
  rw [Int.tmod_eq_emod_of_nonneg (by omega)];omega
 have hw1:IntKind.i64.wrap (48+(d:Int))=48+(d:Int):=by
  rw [Zq];omega
 have hw2:IntKind.u8.wrap (48+(d:Int))=48+(d:Int):=by
  rw [IntKind.wrap_u8];omega
 have HC:=ZU hc;clear hc;have hsn:(strOfNums [48+(d:Int)]).size=1:=by rw [strOfNums_size];rfl
 go_enter Tryz.func15,Tryz.ntmps15
 go_wp2_with fail
 have B0:Hid (Zi w w.drew):=below_drewN' w 1;refine ZX (S:=fun _=>True) (by kernel_rfl) trivial (fun Z9=>?_);generalize w.drew=m0 at *;refine Zf (.int .i64 (10*(a:Int)+(d:Int))) (by kernel_rfl) (fun _=>id) Z9 (fun w9 ZQ=>by (clear ZQ;go_simp;try (first | with_reducible rfl | assumption))) ?_;refine Zf (.int .i64 (a:Int)) (by kernel_rfl) (fun _=>id) Z9 (fun w9 ZQ=>by (clear ZQ;go_simp;try (first | with_reducible rfl | assumption))) ?_;refine Yp 3 (.int .i64 (10*(a:Int)+(d:Int))) rfl (by kernel_rfl) (fun _=>id) Z9 (fun w9 ZQ=>by (clear ZQ;go_simp;try (first | with_reducible rfl | assumption))) ?_;refine Yp 4 (.int .i64 (d:Int)) rfl (by kernel_rfl) (fun _=>id) Z9 (fun w9 ZQ=>by (clear ZQ;go_simp;try (first | with_reducible rfl | assumption))) ?_;refine Yp 5 (.int .i64 (48+(d:Int))) rfl (by kernel_rfl) (fun _=>id) Z9 (fun w9 ZQ=>by (clear ZQ;go_simp;try (first | with_reducible rfl | assumption))) ?_;refine Yp 6 (.int .u8 (48+(d:Int))) rfl (by kernel_rfl) (fun _=>id) Z9 (fun w9 ZQ=>by (clear ZQ;go_simp;try (first | with_reducible rfl | assumption))) ?_;refine QG 2 7 rfl rfl (by kernel_rfl) (fun K hK=>?_) (fun K hK=>?_)
 · go_simp
   refine (HC.out m0).mono ?_;rintro e m1 ⟨s9,rfl,I3,bN⟩;have HE:=ZU I3
   replace I3:s9.size≤1000:=by rw [I3];exact hz
   replace B0:=ZU (WD B0.out bN)
   refine hK.out _ _ trivial (fun YA=>?_);clear hK K YA bN;refine YS 7 rfl (by kernel_rfl) (fun K hK=>?_);have bN:Zi m1 (m1.alloc (.cells #[.int .u8 (48+(d:Int))] 5)):=Yy.alloc YR _;have R:=Cu m1 (48+d);rw [show ((48+d:Nat):Int)=48+(d:Int) by omega] at R;have R0:=ZU R;clear R
   replace B0:=ZU (WD B0.out bN)
   go_simp;refine hK.out _ _ trivial (fun YA=>?_);clear hK K YA bN;generalize m1.alloc _=m2 at *;generalize m1.heap.size=bb at *;refine YS 8 rfl (by kernel_rfl) (fun K hK=>?_);have hcv:=To R0.out;go_simp;refine hK.out _ _ trivial (fun YA=>?_);clear hK K YA hcv;refine Zf (.string (s9++strOfNums [48+(d:Int)])) (by kernel_rfl) (fun _=>id) Z9 (fun w9 ZQ=>by (clear ZQ;go_simp;try (first | with_reducible rfl | omega))) ?_;refine Zf (.string (s9++strOfNums [48+(d:Int)])) (by kernel_rfl) (fun _=>id) Z9 (fun w9 ZQ=>by (clear ZQ;go_simp;try (first | with_reducible rfl | assumption))) ?_;refine ZR (by kernel_rfl) ?_ _
   try simp only [Act.put,WV,WU,WT]
   go_wp2;go_ret;refine ⟨_,rfl,?_,B0.out⟩;rw [HE.out]
 have bN:Zi m0 (m0.alloc (.cells #[.int .u8 (48+(d:Int))] 5)):=Yy.alloc YR _;have R:=Cu m0 (48+d);rw [show ((48+d:Nat):Int)=48+(d:Int) by omega] at R;have R0:=ZU R;clear R
 replace B0:=ZU (WD B0.out bN)
 go_simp;refine hK.out _ _ trivial (fun YA=>?_);clear hK K YA bN;generalize m0.alloc _=m4 at *;generalize m0.heap.size=bb at *;refine QG 2 8 rfl rfl (by kernel_rfl) (fun K hK=>?_) (fun K hK=>?_)
 · go_simp
   refine (HC.out m4).mono ?_;rintro e m5 ⟨s9,rfl,I3,bN⟩;have HE:=ZU I3
   replace I3:s9.size≤1000:=by rw [I3];exact hz
   replace B0:=ZU (WD B0.out bN)
   replace R0:=ZU (R0.out.below bN)
   refine hK.out _ _ trivial (fun YA=>?_);clear hK K YA bN;refine YS 8 rfl (by kernel_rfl) (fun K hK=>?_);have hcv:=To R0.out;go_simp;refine hK.out _ _ trivial (fun YA=>?_);clear hK K YA hcv;refine Zf (.string (s9++strOfNums [48+(d:Int)])) (by kernel_rfl) (fun _=>id) Z9 (fun w9 ZQ=>by (clear ZQ;go_simp;try (first | with_reducible rfl | omega))) ?_;refine Zf (.string (s9++strOfNums [48+(d:Int)])) (by kernel_rfl) (fun _=>id) Z9 (fun w9 ZQ=>by (clear ZQ;go_simp;try (first | with_reducible rfl | assumption))) ?_;refine ZR (by kernel_rfl) ?_ _
   try simp only [Act.put,WV,WU,WT]
   go_wp2;go_ret;refine ⟨_,rfl,?_,B0.out⟩;rw [HE.out]
 have hcv:=To R0.out;go_simp;refine hK.out _ _ trivial (fun YA=>?_);clear hK K YA hcv;refine YS 2 rfl (by kernel_rfl) (fun K hK=>?_);go_simp;refine (HC.out m4).mono ?_;rintro e m8 ⟨s9,rfl,I3,bN⟩;have HE:=ZU I3
 replace I3:s9.size≤1000:=by rw [I3];exact hz
 replace B0:=ZU (WD B0.out bN)
 refine hK.out _ _ trivial (fun YA=>?_);clear hK K YA bN;refine Zf (.string (s9++strOfNums [48+(d:Int)])) (by kernel_rfl) (fun _=>id) Z9 (fun w9 ZQ=>by (clear ZQ;go_simp;try (first | with_reducible rfl | omega))) ?_;refine Zf (.string (s9++strOfNums [48+(d:Int)])) (by kernel_rfl) (fun _=>id) Z9 (fun w9 ZQ=>by (clear ZQ;go_simp;try (first | with_reducible rfl | assumption))) ?_;refine ZR (by kernel_rfl) ?_ _
 try simp only [Act.put,WV,WU,WT]
 go_wp2;go_ret;refine ⟨_,rfl,?_,B0.out⟩;rw [HE.out]
def Ct (n:Nat):ByteArray:=strOfNums (QC n)
theorem mt:∀n:Nat,n<10→strOfNums [48+(n:Int)]=Ct n:=by decide +kernel
theorem mr:∀n:Nat,n<200→10≤n→Ct (n / 10)++strOfNums [48+((n % 10:Nat):Int)]=Ct n:=by decide +kernel
theorem uu:∀n:Nat,n<200→(Ct n).size≤3:=by decide +kernel
theorem yV (w:World) (n:Nat) (hn:n<200) :
    Calls Tryz.prog 15 #[.int .i64 (n:Int)] w fun e w'=>∃s:ByteArray,e=.returned (.string s)∧s=Ct n∧Zi w w':=by
 induction n using Nat.strongRecOn generalizing w with
 | ind n ih =>
  by_cases h:n<10
  · rw [←mt n h];exact ux w n h
  have:=uw w (n / 10) (n % 10) (Ct (n / 10)) (by omega) (by omega) (by omega) (by have:=uu (n / 10) (by omega);omega) (fun W=>ih (n / 10) (by omega) W (by omega));rw [show 10*((n / 10:Nat):Int)+((n % 10:Nat):Int)=(n:Int) by omega,mr n hn (by omega)] at this;exact this
theorem OQ (a b:List Int):strOfNums (a++b)=strOfNums a++strOfNums b:=by
 apply WM;rw [Yd];unfold strOfNums
 simp
theorem Cs (s:ByteArray) (z:Nat):tl s [z]=s++(⟨#[32]⟩++Ct z):=by
 unfold tl VS;rw [WY,UU,YD,OQ,show U0 s=bI s from rfl,Fp,show ((32:Int) :: QC z)=[32]++QC z from rfl,OQ]
 rfl
theorem Mq (w:World) (s:ByteArray) (b off cap:Nat) (z:Nat) (hc:w.cell? ⟨b,off,none⟩=some (.int .i64 (z:Int))) (hz:z<200) (hs:s.size≤1000) :
    Calls Tryz.prog 8 #[.string s,.slice (some ⟨b,off,none⟩) 1 cap] w (Wj w (.string (tl s [z]))):=by
 have HD:=ZU (yV w z hz);have hz3:=uu z hz;have HE:=ZU (Cs s z);have hb:=ZG w _ hc;generalize tl s [z]=t at *;generalize Ct z=d at *
 go_enter Tryz.func8,Tryz.ntmps8
 go_wp2_with fail
 go_loopw [0,5] (fun v0 v5 wr=>(v0=.string s∧v5=.int .i64 0∧wr=w)∨(v0=.string t∧v5=.int .i64 1∧Hid (Zi w wr))) (fun _ v _=>(1 - intOf v).toNat)
 case atStart=>exact .inl ⟨rfl,rfl,rfl⟩
 case round =>
  rcases hrel with ⟨rfl,rfl,rfl⟩ | ⟨rfl,rfl,HB⟩
  · go_wp2_with fail
    refine HD.out.mono ?_;rintro e w2 ⟨s9,rfl,I3,b2⟩;have B2:=ZU b2;have h9:s9.size≤3:=by rw [I3];exact hz3
    have HT:Hid (s++(⟨#[32]⟩++s9)=t):=by show _=_;rw [I3];exact HE.out.symm
    have h32:(⟨#[32]⟩++s9:ByteArray).size=1+s9.size:=by rw [VX];rfl
    clear b2 I3 hc
    go_wp2_with fail
    exact ⟨.inr ⟨by rw [HT.out],by go_num,B2⟩,by simp [intOf]⟩
  go_wp2;go_ret;exact ⟨rfl,HB.out⟩
def jx (w:World) (v:Value) (ls:List ByteArray):Prop :=
 ∃ao cap,v=.slice ao ls.length cap∧ls.length≤cap∧cap≤maxLen∧(ls=[]∨∃b off,ao=some ⟨b,off,none⟩∧b<w.heap.size∧∀i,i<ls.length→w.cell? ⟨b,off+i,none⟩=some (.string (ls.getD i ⟨#[]⟩)))
def XI (ls:List ByteArray):List Int:=ls.flatMap fun s=>U0 s++[10]
theorem Cq (w:World) (v:Value) (ls:List ByteArray) (h:jx w v ls) (hn:ls.length≤1000000) (hl:(XI ls).length≤1000000) :
    Calls Tryz.prog 7 #[v] w fun e w'=>∃v',e=.returned v'∧Ul w' w.heap.size v' (XI ls)∧Zi w w':=by
 obtain ⟨ao,cp,rfl,h1,h2,h3⟩:=h;have HR:=ZU h3;have HL:=ZU hl;have O0:Hid (Ul (w.alloc (.cells #[] 5)) w.heap.size (.slice (some ⟨w.heap.size,0,none⟩) 0 0) []):=EP (w:=w) (base:=w.heap.size) (cap:=0) (xs:=[]) (T:=#[]) YR YR (Zu _) rfl;have B0:Hid (Zi w (w.alloc (.cells #[] 5))):=Yy.alloc YR _;clear h3 hl
 go_enter Tryz.func7,Tryz.ntmps7
 go_wp2_with fail
 generalize w.alloc _=w1 at *
 go_loopw [3,4] (fun v3 v4 wr=>∃i:Nat,v4=.int .i64 (i:Int)∧i≤ls.length∧Hid (Ul wr w.heap.size v3 (XI (ls.take i)))∧Hid (Zi w wr)) (fun _ v _=>((ls.length:Int) - intOf v).toNat)
 case atStart=>exact ⟨0,rfl,Zu _,O0,B0⟩
 case round =>
  obtain ⟨i,rfl,hi,OH,BH⟩:=hrel
  by_cases hc:i<ls.length
  · obtain ⟨b,off,rfl,hb,hcl⟩:=HR.out.resolve_left (fun e=>by rw [e] at hc;simp at hc)
    have hci:=(BH.out.cell (p:=⟨b,off+i,none⟩) hb).trans (hcl i hc);have hst:XI (ls.take (i+1))=(XI (ls.take i)++U0 (ls.getD i ⟨#[]⟩))++[10]:=by
     unfold XI;rw [YW hc,XZ]
     simp [List.getD,hc]
    have hle:(XI (ls.take (i+1))).length≤1000000:=by
     refine ZJ ?_ HL.out;unfold XI
     conv=>rhs;rw [←YQ (i+1) ls,XZ,ZZ]
     omega
    rw [hst,ZZ,ZZ,Wq] at hle;have HST:=ZU hst;have sB:=BH.out.size;clear hcl hst;generalize ls.getD i ⟨#[]⟩=t at *;have lX:=ZU hle;clear hle
    go_wp2_with (at_builtin;go_must (refine Rr rfl _ _ rfl w.heap.size _ (XI (ls.take i)) t rfl rfl OH.out sB (by have:=lX.out;omega) ?_))
    intro v2 w2 o2 g2;have O2:Hid (Ul (w2.alloc (.cells #[.int .u8 10] 5)) w.heap.size v2 (XI (ls.take i)++U0 t)):=o2.below ((Below.refl w2.heap.size w2).alloc YR _);have b2:=BH.out.grown g2 sB OH.out.lt;have s2:=b2.size;have B2:Hid (Zi w (w2.alloc (.cells #[.int .u8 10] 5))):=b2.alloc s2 _;clear o2 g2 OH BH sB b2
    go_wp2_with (at_builtin;go_must (refine PT rfl _ _ rfl w.heap.size _ (XI (ls.take i)++U0 t) [10] ⟨w2.heap.size,0,none⟩ 1 1 rfl rfl rfl O2.out (by simp;omega) (by have:=lX.out;rw [ZZ,Wq];simp at this ⊢;omega) (XW _ _ _) ?_))
    intro v3 w3 o3 g3;have O3:=ZU o3;have B3:=ZU (B2.out.grown g3 (by simp;omega) O2.out.lt);clear o3 g3 O2 B2
    go_wp2_with fail
    refine ⟨⟨i+1,by go_num,by omega,?_,B3⟩,by simp [intOf];omega⟩;show Ul _ _ _ _;rw [HST.out,ZO];exact O3.out
  have hie:i=ls.length:=by omega
  subst hie;rw [Xp] at OH;go_wp2;go_ret;exact ⟨_,rfl,OH.out,BH.out⟩
def pO (ls:List ByteArray):ByteArray:=UG (ls.flatMap fun s=>s.data.toList++[10])
theorem ur (ls:List ByteArray):bI (pO ls)=XI ls:=by
 unfold bI pO XI;rw [Qy,List.map_flatMap]
 congr 1
 funext s
 rw [Y6]
 rfl
theorem AW:∀(ls:List ByteArray),(∀s ∈ ls,(10:UInt8) ∉ s.data.toList)→(RK 10 [] (pO ls).data.toList).map UG=ls++[⟨#[]⟩]
 | [],_=>rfl
 | s :: ls,h=>by
  have e:(pO (s :: ls)).data.toList=s.data.toList++10 :: (pO ls).data.toList:=by
   unfold pO;rw [Qy,Qy,WY,ZO]
   rfl
  rw [e,Rh _ _ _ (h s (YO ..)),Yl,AW ls (fun t ht=>h t (Zp _ ht)),Zd,Ny]
  rfl
theorem Rq.DL {lo:Nat} {v:Value} {L:List ByteArray} (h:Rq w lo v L):jx w v L:=by
 have h':=h
 rcases h.2 with ⟨rfl,h9⟩ | ⟨g,cap,cur,rfl,h1,h2,h3,h4,h5,h6⟩
 · refine ⟨none,0,by rw [h9],by omega,Zu _,.inl (Zg h9)⟩
 refine ⟨_,cap,rfl,h3,h4,.inr ⟨g,0,rfl,(Z3.1 h2).1,fun i hi=>?_⟩⟩;rw [Za,Wv h' i (by omega),Yo,ZF hi,List.getD,ZF hi]
 rfl
theorem Ek (w:World) (v:Value) (b:ByteArray) (ls:List ByteArray) (h:Rd .u8 w v (bI b)) (h0:0<b.size) (hs:b.size≤1048576) (hls:(RK 10 [] b.data.toList).map UG=ls++[⟨#[]⟩]) :
    Calls Tryz.prog 5 #[v] w fun e w'=>∃v',e=.returned v'∧Rq w' w.heap.size v' ls∧Zi w w':=by
 obtain ⟨B,o,cap,rfl,hBl⟩:∃B o cap,v=.slice (some ⟨B,o,none⟩) b.size cap∧B<w.heap.size:=by
  obtain ⟨ao,cp,rfl,h1,h2,h3⟩:=h
  rcases h3 with h3 | ⟨b',o',rfl,hl,-⟩
  · have:=QT b;rw [h3] at this;simp at this;omega
  exact ⟨b',o',cp,by rw [QT],hl⟩
 obtain ⟨iq,sd,hq0,sc,rZ⟩:=YN Tryz.xH;have HR:=ZU h;have ol:=ZU hls;obtain ⟨hcc,hcm⟩:b.size≤cap∧cap≤maxLen:=by
  obtain ⟨ao,cp,e,h1,h2,-⟩:=h
  injection e with e1 e2 e3
  subst e3;rw [QT] at h1;exact ⟨h1,h2⟩
 have HC:Hid (∀W,Zi w W→∀i (hi:i<b.size),W.cell? ⟨B,o+i,none⟩=some (.int .u8 ((b[i]'hi).toNat:Int))):=fun W hb i hi=>by
  obtain ⟨ao,cp,e,h1,h2,h3⟩:=HR.out.below hb
  rcases h3 with h3 | ⟨b',o',e',hl,hc⟩
  · have:=QT b;rw [h3] at this;simp at this;omega
  injection e with e1
  rw [e'] at e1
  injection e1 with e1
  injection e1 with e1 e2
  subst e1 e2;rw [hc i (by rw [QT];exact hi),oC b i hi]
 unfold maxLen at hcm;clear h hls
 go_enter Tryz.func5,Tryz.ntmps5
 go_wp2_with fail
 have B0:Hid (Zi w (w.alloc (.cells #[] 9))):=Yy.alloc YR _;have O0:Hid (Rq (w.alloc (.cells #[] 9)) w.heap.size (.slice (some ⟨w.heap.size,0,none⟩) 0 0) []):=Rq.nil w w.heap.size YR;generalize w.alloc _=w1 at *
 go_loopw [3,4,5] (fun v5 v6 v7 wr=>∃(i fr:Nat) (D:List ByteArray) (g co:Nat),v5=.slice (some ⟨g,0,none⟩) D.length co∧v6=.int .i64 (fr:Int)∧v7=.int .i64 (i:Int)∧fr≤i∧i≤b.size∧D.length≤i∧Hid (Rq wr w.heap.size (.slice (some ⟨g,0,none⟩) D.length co) D)∧Hid (Zi w wr)∧Hid ((RK 10 [] b.data.toList).map UG=D++(RK 10 ((b.data.toList.drop fr).take (i - fr)) (b.data.toList.drop i)).map UG)) (fun _ _ i _=>b.size - (intOf i).toNat)
 case atStart=>exact ⟨0,0,[],w.heap.size,0,rfl,rfl,rfl,YR,Zu _,YR,O0,B0,by show _=_;simp⟩
 case round =>
  obtain ⟨i,fr,D,g,co,rfl,rfl,rfl,hfi,hi,ZI,HO,HB,HE⟩:=hrel;clear O0 B0;have sB:=HB.out.size
  by_cases hlt:i<b.size
  · have Rj:(i:Int)<(b.size:Int):=by omega
    have hc:=HC.out wr HB.out i hlt
    by_cases P:b[i]=10
    · have hq:(((b[i].toNat:Nat):Int) == 10)=true:=by rw [P];rfl
      have hE2:(RK 10 [] b.data.toList).map UG=(D++[UG ((b.data.toList.drop fr).take (i - fr))])++(RK 10 ((b.data.toList.drop (i+1)).take (i+1 - (i+1))) (b.data.toList.drop (i+1))).map UG:=by
       rw [HE.out,drop_at b i hlt,P,NA]
       simp
      have HE2:=ZU hE2;have hcv:(convert 22 9 (.slice (some ⟨B,o+fr,none⟩) (i - fr) (cap - fr))).run Tryz.prog wr=.ok (.string (UG ((b.data.toList.drop fr).take (i - fr)))) wr:=by
       rw [←xI];exact To (oB (HR.out.below HB.out) fr (i - fr) (by omega))
      have hfc:fr<cap:=by omega
      have ZK:(fr:Int)≤(i:Int):=by omega
      clear hE2 HE P;generalize UG ((b.data.toList.drop fr).take (i - fr))=yN at *;have OR:Hid (wr.ownsRow w.heap.size 9 1 (.slice (some ⟨g,0,none⟩) D.length co) D.length (D.map Value.string)):=HO.out
      go_wp2_with (at_builtin;go_must (refine wpList_append_lies _ rfl _ _ 26 rfl w.heap.size 9 iq (.string ByteArray.empty) 1 16 Tryz.underlying26 sd hq0 sc rZ rfl (by decide) _ _ _ rfl (OR.out.alloc _) ⟨wr.heap.size,0,none⟩ 1 1 [.string yN] rfl rfl (XW _ _ _) (by intro u hu;simp at hu;subst hu;rfl) (by decide) ?c3 ?c4 ?c5 _ rfl ?_))
      case c3=>unfold maxLen;omega
      case c4=>omega
      case c5=>first | omega | (simp;omega)
      intro g5 k5 w5 Rb hg5 MJ Nv;have O5:Hid (Rq w5 w.heap.size (.slice (some ⟨g5,0,none⟩) (D++[yN]).length k5) (D++[yN])):=by
       show World.ownsRow _ _ _ _ _ _ _;rw [ZZ,Y6];exact Rb
      have B5:Hid (Zi w w5):=(HB.out.alloc sB _).grown hg5 (by simp;omega) (fun q hq=>(ZT OR.out q hq).1);clear Rb hg5 MJ Nv OR HO HB hcv hc
      go_wp2_with fail
      exact ⟨⟨i+1,i+1,D++[yN],g5,k5,by rw [ZZ];rfl,by go_num,by go_num,YR,hlt,by rw [ZZ];simp;omega,O5,B5,HE2⟩,by simp [intOf];omega⟩
    have hq:(((b[i].toNat:Nat):Int) == 10)=false:=VU (fun e=>P (Uj (by show b[i].toNat=10;omega)));have hE2:(RK 10 [] b.data.toList).map UG=D++(RK 10 ((b.data.toList.drop fr).take (i+1 - fr)) (b.data.toList.drop (i+1))).map UG:=by
     rw [HE.out,drop_at b i hlt,Nz P,si b fr i hfi hlt]
    have HE2:=ZU hE2;clear hE2 HE P
    go_wp2_with fail
    exact ⟨⟨i+1,fr,D,g,co,rfl,rfl,by go_num,by omega,hlt,by omega,HO,HB,HE2⟩,by simp [intOf];omega⟩
  have hin:i=b.size:=by omega
  have hE2:D=ls∧fr=b.size:=by
   have hd:b.data.toList.drop b.size=[]:=XS (by rw [Tx];exact YR);have e:=HE.out;rw [hin,hd,ND,ol.out] at e;have e1:=List.append_inj' e (by simp);refine ⟨e1.1.symm,?_⟩;have e2:(⟨#[]⟩:ByteArray)=UG ((b.data.toList.drop fr).take (b.size - fr)):=by simpa using e1.2
   have e3:=ZM (fun x:ByteArray=>x.data.toList.length) e2
   simp only [Qy,Zw,ZS,Tx] at e3
   rw [Y7] at e3;omega
  obtain ⟨rfl,hfe⟩:=hE2;have Rj:¬(i:Int)<(b.size:Int):=by omega
  have mR:¬(fr:Int)<(b.size:Int):=by omega
  clear HE ol hin hfe;go_wp2;go_ret;exact ⟨_,rfl,HO.out,HB.out⟩
end
end Go.Proofs.YtpmjnbmkippaiaaGreatDoor


