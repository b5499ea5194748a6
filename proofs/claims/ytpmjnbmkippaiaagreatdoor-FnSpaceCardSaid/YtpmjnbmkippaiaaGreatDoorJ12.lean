import Derived.Test.YtpmjnbmkippaiaaGreatDoorJ11
import Derived.Lib.ParseIntB
set_option maxRecDepth 100000
set_option maxHeartbeats 16000000
set_option linter.unusedVariables false
set_option linter.unusedSimpArgs false
namespace Go.Proofs.YtpmjnbmkippaiaaGreatDoor
section
open Go.RowKit Go.Conc
structure Em (κ:Sc) (σ:Sx) (w:World) (pB z o:Nat) (vE:Value) (ys:List Int) (W:World):Prop where
 sv:Sv κ { σ with em:=true } W
 gw:Gw κ w W
 pb:∃x2,St W pB [.int .i64 (z:Int),.int .i64 (o:Int),x2,vE]
 ow:Own .u8 5 W w.heap.size vE ys
theorem Em.below {κ:Sc} {σ:Sx} {w:World} {pB z o:Nat} {vE:Value} {ys:List Int} {W W':World} (h:Em κ σ w pB z o vE ys W) (hb:ZX W W'):Em κ σ w pB z o vE ys W':=by
 obtain ⟨x2,p⟩:=h.pb;exact ⟨h.sv.below hb,h.gw.trans (Gs.ZV hb).gw,⟨x2,p.below hb⟩,h.ow.below hb⟩
theorem Em.cells {κ:Sc} {σ:Sx} {w:World} {pB z o:Nat} {vE:Value} {ys:List Int} {W:World} (h:Em κ σ w pB z o vE ys W):W.cell? ⟨κ.sB,0,none⟩=some (.pointer (some ⟨κ.mB,0,none⟩))∧W.cell? ⟨κ.sB,1,none⟩=some (.int .i64 κ.S)∧W.cell? ⟨κ.sB,2,none⟩=some (.int .i64 κ.L)∧W.cell? ⟨pB,0,none⟩=some (.int .i64 (z:Int))∧W.cell? ⟨pB,3,none⟩=some vE∧W.cell? ⟨κ.mB,7,none⟩=some (.int .i64 σ.b)∧κ.mB<W.heap.size:=by
 obtain ⟨x2,p⟩:=h.pb;obtain ⟨vd,made,ZQ,a1,-⟩:=h.sv.dk;obtain ⟨vt,vq,cp,b1,-⟩:=h.sv.mm;exact ⟨a1.cl 0 _ rfl,a1.cl 1 _ rfl,a1.cl 2 _ rfl,p.cl 0 _ rfl,p.cl 3 _ rfl,b1.cl 7 _ rfl,b1.lt⟩
def dV (κ:Sc) (σ:Sx) (w:World) (z o:Nat) (e:Ending) (w':World):Prop :=
 Gw κ w w'∧∃l r,(((Zi σ.T).length:Int)≤κ.S*64∧e=.returned (.string (strOfNums (Yx ⟨#[115,101,97,108,101,100]⟩ [z])))∧Sv κ { σ with k:=σ.k+135,g:=2,b:=1,s:=(z:Int),l:=l,r:=r,off:=o,sn:=none,em:=true,pw:=none } w')∨(κ.S*64<((Zi σ.T).length:Int)∧e=.returned (.string ⟨#[115,110,97,112,102,117,108,108]⟩)∧Sv κ { σ with sn:=none,em:=true } w')
theorem wm (κ:Sc) (σ:Sx) (w:World) (h:Sv κ σ w) (pB z o:Nat) (hsn:σ.sn=some (pB,z,o)) (hem:σ.em=false) (hT0:0<σ.T.length) (iC:σ.T.length≤1000) (fF:∀i,i<σ.T.length→YL (ZC σ.T i)=true) (fE:∀i,i<σ.T.length→0<(ZC σ.T i).path.size) (fC:(Zi σ.T).length≤100000) (hTy:Wm (Zi σ.T)) (hQ:σ.Q≠[]) (hfs:σ.fs=[])
    (hpw : σ.pw = none) (hg : σ.g = 1) (hb : σ.b = 0) (hoff : σ.off = 0) (ho : o ≤ σ.full.length) (hfl : (σ.full.length : Int) ≤ κ.L * 64) (hz : z < 1000000) (hk : σ.k ≤ 1000) (hc : YO κ.S κ.L = true) (htab : ∀ W, Gw κ w W → TF W) (I : ∀ W, Gw κ w W → Lib.TabIs Tryz.prog W "internal/strconv.uint64pow10" .u64 Lib.pow10Tab) :
    Calls Tryz.prog 77 #[.pointer (some ⟨κ.sB,0,none⟩),.int .i64 1000] w (dV κ σ w z o):=by
 obtain ⟨⟨hS1,hS2⟩,hL1,hL2⟩:=(Zg κ.S κ.L).1 hc;obtain ⟨vt,vq,cp,b1,b2,-,-,b5,-⟩:=h.mm;obtain ⟨vd,made,ZQ,a1,-⟩:=h.dk;obtain ⟨p1,p2,p3,p4,p5,p6⟩:=h.sn _ hsn
 replace p2:=zG p2
 have hpb:=p1.2 hem;have hap:=P9 b2 (List.length_pos_iff.1 hT0) hpb;obtain ⟨ta,tc,rfl,ht1,ht2⟩:=b2.len;obtain ⟨tb,tO,rfl⟩:∃tb tO,ta=some ⟨tb,tO,none⟩:=by
  obtain ⟨ao,fQ,e9,-,-,h9⟩:=b2
  simp only [Y4] at e9
  rcases h9 with h9 | ⟨b,off,e8,-⟩
  · rw [h9] at hT0;simp at hT0
  exact ⟨b,off,e9.1.trans e8⟩
 have c0:=a1.cl 0 _ rfl;have m12:=b1.cl 12 _ rfl;rw [hsn] at m12;have m0:=b1.cl 0 _ rfl;have q2:w.cell? ⟨pB,2,none⟩=some (.string ⟨#[]⟩):=cell_of hpb 2;obtain ⟨lo1,lo2⟩:=AX fE;have lY:=Z3 (MI w pB _ σ.T q2 b2 iC lo1 lo2);have HV:=Z3 h;have jT:=Z3 hap;have P:=Z3 hpb;have HB2:=Z3 b2;unfold maxLen at ht2;clear a1 b1 b2 b5 hap hpb h
 go_enter Tryz.func77,Tryz.ntmps77
 go_wp2_with fail
 refine lY.out.mono ?_;rintro e w1 ⟨rfl,r1⟩;have R1:=Z3 r1;have q3:w1.cell? ⟨pB,3,none⟩=some (.slice none 0 0):=(r1.cell (p:=⟨pB,3,none⟩) p1.lt).trans (cell_of P.out 3);have H:St w1 pB [.int .i64 (z:Int),.int .i64 (o:Int),.string ⟨#[]⟩,.slice none 0 0]:=by
  have e:w1.heap[pB]?=_:=(r1.block _ p1.lt).trans P.out;refine ⟨ZL p1.lt r1.size,fun j=>by simp [World.frozen?,e],fun j v hv=>?_⟩;rw [cell_of e];simpa using hv
 have G:=Z3 (wM w1 pB _ _ _ σ.T H (HB2.out.below r1) iC jT.out fF (by show (Zi σ.T).length≤1000000;omega));have hmin:¬(1000:Int)<(σ.T.length:Int):=by omega
 clear lY r1 H c0 m12 m0 q2;have Pw:(min (1000:Int) (σ.T.length:Int)).toNat=σ.T.length:=by omega
 go_wp2_with fail
 try rw [Pw]
 clear Pw hmin;refine G.out.mono ?_;rintro e w2 ⟨rfl,l2,v2,st2,O,g2⟩;have V:Em κ σ w pB z o v2 (Zi σ.T) w2:=by
  obtain ⟨V2,G2⟩:=(HV.out.below R1.out).rR hsn hem (List.length_pos_iff.1 hT0) hQ hfs g2;exact ⟨V2,(Gs.ZV R1.out).gw.trans G2,⟨_,st2⟩,Own.mono O R1.out.size⟩
 obtain ⟨ea,ec,rfl⟩:=Own.slice O;have V:=Z3 V;clear G jT HB2 P st2 O g2 R1 q3;have U:Hid (Em κ σ w pB z o (.slice ea (Zi σ.T).length ec) (Zi σ.T) w2.drew):=V.out.below (below_drewN' w2 1);clear V;obtain ⟨ys,hys⟩:∃y,y=Zi σ.T:=⟨_,rfl⟩;have tH:=Z3 hys;rw [←hys] at U fC hTy;clear hys;have e7:σ.T.flatMap Yi=ys:=tH.out.symm
 try rw [e7]
 clear e7
 go_wp2_with fail
 rename_i KK Kv;obtain ⟨fi,hfi⟩:∃f:Int,f=VJ κ.S κ.L 1 false:=⟨_,rfl⟩;have hfin:0≤fi∧fi≤100000:=by rw [hfi];unfold VJ;simp;omega
 have lA:Hid (∀W,Em κ σ w pB z o (.slice ea ys.length ec) ys W→Calls Tryz.prog 123 #[.pointer (some ⟨κ.sB,0,none⟩)] W (YI W (.int .i64 1))):=fun W hW=>by
  have k7:=hW.cells.2.2.2.2.2.1;rw [hb] at k7;exact Sk W κ.sB κ.mB 0 (by decide) hW.cells.1 k7
 have uG:Hid (∀W,Calls Tryz.prog 49 #[.agg #[.int .i64 κ.S,.int .i64 κ.L],.int .i64 1] W (YI W (.agg #[.int .i64 fi,.int .i64 κ.S]))):=fun W=>by
  have h9:=Ws W κ.S κ.L 1 hc (by decide);rw [←hfi] at h9;exact h9
 clear hfi;have REST:Hid (∀(b9:Nat) (u10 u11 u12 u13 u14 u15 u16 u17 u18 u19 u20 u21 u22 u23 u24 u25 u26 u27 u28 u29 u30 u31 u32 u33 u34 u35 u36 u37 u38 u39 u40 u41 u42 u43 u44 u45 u46 u47 u48 u49 u50:Value) (W:World),Em κ σ w pB z o (.slice ea ys.length ec) ys W→W.heap[b9]?=some (.cells #[.int .i64 fi,.int .i64 κ.S] 111 (0,0))→KK { tmps:=#[.pointer (some ⟨κ.sB,0,none⟩),.int .i64 1000,undef,undef,.string ⟨#[]⟩,.pointer (some ⟨pB,0,none⟩),.slice (some ⟨tb,tO,none⟩) σ.T.length tc,.slice (some ⟨tb,tO,none⟩) σ.T.length tc,.int .i64 0,.pointer (some ⟨b9,0,none⟩),u10,u11,u12,u13,u14,u15,u16,u17,u18,u19,u20,u21,u22,u23,u24,u25,u26,u27,u28,u29,u30,u31,u32,u33,u34,u35,u36,u37,u38,u39,u40,u41,u42,u43,u44,u45,u46,u47,u48,u49,u50,undef,undef,undef,undef,undef,undef,undef,undef,undef,undef,undef,undef,undef,undef,undef,undef,undef,undef,undef,undef,undef,undef,undef,undef,undef,undef,undef,undef,undef,undef,undef,undef,undef,undef,undef,undef,undef,undef,undef,undef,undef],defers:=[] } W):=by
  intro b9 u10 u11 u12 u13 u14 u15 u16 u17 u18 u19 u20 u21 u22 u23 u24 u25 u26 u27 u28 u29 u30 u31 u32 u33 u34 u35 u36 u37 u38 u39 u40 u41 u42 u43 u44 u45 u46 u47 u48 u49 u50 W hW ST;refine Kv _ _ ?_;clear U lA uG Kv;have HW:=Z3 hW;have H9:=Z3 ST;have S9:Hid (Em κ σ w pB z o (.slice ea ys.length ec) ys W.drew):=HW.out.below (below_drewN' W 1);have G9:Hid (W.drew.heap[b9]?=some (.cells #[.int .i64 fi,.int .i64 κ.S] 111 (0,0))):=((below_drewN' W 1).block b9 (Yh.mp ST).1).trans ST;clear hW ST HW H9
  go_wp2_with fail
  refine ZH (S:=fun W=>W.cell? ⟨pB,3,none⟩=some (.slice ea ys.length ec)∧W.heap[b9]?=some (.cells #[.int .i64 fi,.int .i64 κ.S] 111 (0,0))) (by kernel_rfl) ⟨S9.out.cells.2.2.2.2.1,G9.out⟩ (fun Z9=>?_);generalize W.drew=w4 at *
  iterate 7 (refine ZW ?_ Z9 ?_ ?_;rotate_left;· intro w9 Z0;have k0:=Z0.1;have k1:w9.cell? ⟨b9,1,none⟩=some (.int .i64 κ.S):=cell_of Z0.2 1;clear Z0;go_simp;try with_reducible rfl)
  refine ZW (.int .i64 (κ.S*64)) Z9 ?_ ?_
  · intro w9 Z0;have k0:=Z0.1;have k1:w9.cell? ⟨b9,1,none⟩=some (.int .i64 κ.S):=cell_of Z0.2 1;clear Z0;go_simp;rw [XK];omega
  refine ZW ?_ Z9 ?_ ?_
  rotate_left
  · intro w9 Z0;have k0:=Z0.1;have k1:w9.cell? ⟨b9,1,none⟩=some (.int .i64 κ.S):=cell_of Z0.2 1;clear Z0;go_simp;try with_reducible rfl
  refine ZP (by kernel_rfl) ?_ _
  try simp only [Act.put,Y8,Y7,Y6]
  clear Z9
  by_cases hbig:κ.S*64<(ys.length:Int)
  · obtain ⟨k0,-,-,-,-,-,km⟩:=S9.out.cells
    obtain ⟨fP,fO,qy,m4,-⟩:=S9.out.sv.mm;have m12:=m4.cl 12 _ rfl;have f12:=m4.fz 12;have FZ:=Z3 S9.out.sv.nu;have GW:=Z3 S9.out.gw;clear m4 S9 G9
    go_wp2_with fail
    go_ret;refine ⟨GW.out.trans FZ.out.2.gw,0,0,.inr ⟨by rw [←tH.out];exact hbig,rfl,FZ.out.1⟩⟩
  go_wp2_with fail
  have l8:Hid (w4.drew.cell? ⟨κ.sB,0,none⟩=some (.pointer (some ⟨κ.mB,0,none⟩))):=S9.out.cells.1;have E5:Hid (Em κ σ w pB z o (.slice ea ys.length ec) ys w4.drew):=S9.out.below (below_drewN' w4 1);have G5:Hid (w4.drew.heap[b9]?=some (.cells #[.int .i64 fi,.int .i64 κ.S] 111 (0,0))):=((below_drewN' w4 1).block b9 (Yh.mp G9.out).1).trans G9.out;clear S9 G9;refine ZH (S:=fun W=>W.cell? ⟨pB,3,none⟩=some (.slice ea ys.length ec)∧W.heap[b9]?=some (.cells #[.int .i64 fi,.int .i64 κ.S] 111 (0,0))) (by kernel_rfl) ⟨E5.out.cells.2.2.2.2.1,G5.out⟩ (fun Z9=>?_);generalize w4.drew=w5 at *;refine ZW ?_ Z9 ?_ ?_
  rotate_left
  · intro w9 Z0;have k0:=Z0.1;have k1:w9.cell? ⟨b9,0,none⟩=some (.int .i64 fi):=cell_of Z0.2 0;have k2:w9.cell? ⟨b9,1,none⟩=some (.int .i64 κ.S):=cell_of Z0.2 1;clear Z0;go_simp;try with_reducible rfl
  refine ZW (.agg #[.int .i64 fi,.int .i64 κ.S]) Z9 ?_ ?_
  · intro w9 Z0;have k0:=Z0.1;have k1:w9.cell? ⟨b9,0,none⟩=some (.int .i64 fi):=cell_of Z0.2 0;have k2:w9.cell? ⟨b9,1,none⟩=some (.int .i64 κ.S):=cell_of Z0.2 1;clear Z0;go_simp;try with_reducible rfl
  iterate 5 (refine ZW ?_ Z9 ?_ ?_;rotate_left;· intro w9 Z0;have k0:=Z0.1;have k1:w9.cell? ⟨b9,0,none⟩=some (.int .i64 fi):=cell_of Z0.2 0;have k2:w9.cell? ⟨b9,1,none⟩=some (.int .i64 κ.S):=cell_of Z0.2 1;clear Z0;go_simp;try with_reducible rfl)
  refine ZU 7 rfl (fun K hK=>?_);obtain ⟨v0,hv0,q0⟩:=E5.out.sv.pq;have N:Ph none w5 κ.sB (.pointer (some ⟨κ.mB,0,none⟩)) κ.S κ.L v0 σ.k w5:=by
   have q9:=q0;rw [show ({ σ with em:=true }:Sx).pw=none from hpw] at q9;exact q9
  obtain ⟨hs1,hs2,hs3,hs4⟩:=HV.out.jV;have J:∀q,(Value.slice ea ys.length ec).ownBlock=some q→w.heap.size≤q:=fun q hq=>(ZD E5.out.ow q hq).1
  have F:Hid (Calls Tryz.prog 113 #[.pointer (some ⟨κ.sB,0,none⟩),.agg #[.int .i64 fi,.int .i64 κ.S],.slice ea ys.length ec,.int .i64 0] w5 fun e w'=>e=.returned (.tuple #[])∧Ph none w5 κ.sB (.pointer (some ⟨κ.mB,0,none⟩)) κ.S κ.L v0 (σ.k+65) w'∧KW κ.sB w5 w'):=QU fi κ.S _ ys 0 N (by omega) hfin (fun W hW=>Vo E5.out.ow.rd hW.size (fun q hq hl=>hW.block q hl (fun e=>by have:=J q hq;omega) (by simp))) (by omega) (Zu _);obtain ⟨eG,eF,fI,m5,-,-,-,-,-,t,l6⟩:=E5.out.sv.mm;obtain ⟨x2,R⟩:=E5.out.pb;have E:σ.full.length≤fI:=by
   obtain ⟨_,_,e9,h9,-⟩:=t.rd.len
   simp only [Y4] at e9
   have e8:=e9.2.2;have h8:σ.full.length≤_:=h9;omega
  have D:Hid (∀w6,Ph none w5 κ.sB (.pointer (some ⟨κ.mB,0,none⟩)) κ.S κ.L v0 (σ.k+65) w6→Calls Tryz.prog 124 #[.pointer (some ⟨κ.sB,0,none⟩),.pointer (some ⟨pB,0,none⟩)] w6 fun e w'=>e=.returned (.tuple #[])∧Gs κ w5 w'∧∃l r,Sv κ { σ with k:=σ.k+65+70,g:=2,b:=1,s:=(z:Int),l:=l,r:=r,off:=o,sn:=none,em:=true,pw:=none } w'):=fun w6 X =>
   ws κ { σ with em:=true } w5 w6 v0 (σ.k+65) pB z o _ eG eF fI ys ⟨N.more (by omega),m5,⟨x2,R⟩,E5.out.ow.rd,t⟩ X E5.out.sv hv0 (Ne.symm p2) (Ne.symm p3) (fun e=>by have:=J _ e;omega) hpw hg hb hoff ho (by show σ.full.length≤4096;omega) E hTy (by omega) (by omega) hc hz (fun W hW=>htab W (E5.out.gw.trans hW.gw))
  have C:=Z3 E5.out.gw;have n:Hid (∀W,Gs κ w5 W→W.cell? ⟨pB,0,none⟩=some (.int .i64 (z:Int))):=fun W hW=>(Zj (w:=w5) (a:=⟨pB,0,none⟩) (hW.block pB R.lt p2 p3 p4 p5)).trans (R.cl 0 _ rfl)
  clear q0 N m5 t l6 R E5 G5 J;go_simp;refine F.out.mono ?_;rintro e w6 ⟨rfl,X,k6⟩;have hN:w6.cell? ⟨pB,3,none⟩=some (.slice ea ys.length ec)∧w6.heap[b9]?=some (.cells #[.int .i64 fi,.int .i64 κ.S] 111 (0,0)):=by
   have oD:=X.gb.1;have hpl:=YJ w5 _ Z9.1;refine ⟨(Zj (w:=w5) (a:=⟨pB,3,none⟩) (oD.block pB hpl p2 (by simp))).trans Z9.1,(k6.block b9 (Yh.mp Z9.2).1 (fun e=>?_) (fun cs z' e=>?_)).trans Z9.2⟩
   · have c9:=cell_of Z9.2 0
     rw [e] at c9;have:=(l8.out).symm.trans c9
     simp at this
   rw [Z9.2] at e
   injection e with e
   injection e with _ e2
   exact absurd e2 (by decide)
  refine hK.out _ _ hN (fun ZM=>?_);clear hK K ZM Z9 hN F k6;refine ZP (by kernel_rfl) ?_ _
  try simp only [Act.put,Y8,Y7,Y6]
  have B:=Z3 (D.out _ X);clear D X
  go_wp2_with fail
  refine B.out.mono ?_;rintro e w7 ⟨rfl,g7,m,r7,v7⟩;have z7:=n.out _ g7;have TT:=Tf w7 ⟨#[115,101,97,108,101,100]⟩ z (by decide) hz (I _ (C.out.trans g7.gw));have V7:=Z3 v7;have G7:=Z3 (C.out.trans g7.gw);clear B g7 v7 n
  go_wp2_with fail
  refine TT.mono ?_;rintro e w8 ⟨rfl,b8⟩;clear TT z7;go_wp2;go_ret;refine ⟨G7.out.trans (Gs.ZV b8).gw,m,r7,.inl ⟨by rw [←tH.out];omega,rfl,?_⟩⟩;have e9:σ.k+65+70=σ.k+135:=by omega
  have v8:=V7.out.below b8;rw [e9] at v8;exact v8
 refine ZH (S:=Em κ σ w pB z o (.slice ea ys.length ec) ys) (by kernel_rfl) U.out (fun Z9=>?_);clear U Kv;generalize w2.drew=w3 at *
 iterate 5 (refine ZW ?_ Z9 ?_ ?_;rotate_left;· intro w9 Z0;obtain ⟨k0,k1,k2,-⟩:=Z0.cells;clear Z0;go_simp;try with_reducible rfl)
 refine UY 5 7 rfl rfl (fun K hK=>?_) (fun K hK=>?_)
 · skip
   go_simp;refine (lA.out _ Z9).mono ?_;rintro e w4 ⟨rfl,b8⟩;have hN:=Z9.below b8;refine hK.out _ _ hN (fun ZM=>?_);clear hK K ZM Z9 b8;have Z9:=hN;clear hN;refine UY 6 7 rfl rfl (fun K hK=>?_) (fun K hK=>?_)
   · skip
     go_simp;refine (uG.out _).mono ?_;rintro e w5 ⟨rfl,b8⟩;have hN:=Z9.below b8;refine hK.out _ _ hN (fun ZM=>?_);clear hK K ZM Z9 b8;have Z9:=hN;clear hN;refine ZU 7 rfl (fun K hK=>?_);have hH2:=Z9;go_simp;have bA:ZX w5 (w5.alloc (.cells #[.int .i64 0,.int .i64 0] 111)):=ZJ.alloc ZT _;have hN:=Z9.below bA;refine hK.out _ _ hN (fun ZM=>?_);clear hK K ZM Z9 hN bA;refine ZU 8 rfl (fun K hK=>?_);have X5:=St.new w5 #[.int .i64 0,.int .i64 0] 111;have t0:=X5.cl 0 _ rfl;have t1:=X5.cl 1 _ rfl;have f0:=X5.fz 0;have f1:=X5.fz 1;clear X5;go_simp;have bB:ZX w5 (w5.alloc (.cells #[.int .i64 fi,.int .i64 κ.S] 111)):=ZJ.alloc ZT _;have hN:=hH2.below bB;refine hK.out _ _ hN (fun ZM=>?_);clear hK K ZM t0 t1 f0 f1;refine ZP (by kernel_rfl) ?_ _
     try simp only [Act.put,Y8,Y7,Y6]
     exact REST.out w5.heap.size _ _ _ _ _ _ _ _ _ _ _ _ _ _ _ _ _ _ _ _ _ _ _ _ _ _ _ _ _ _ _ _ _ _ _ _ _ _ _ _ _ _ hN (Y9 w5 _)
   skip
   go_simp;have bA:ZX w4 (w4.alloc (.cells #[.int .i64 0,.int .i64 0] 111)):=ZJ.alloc ZT _;have hN:=Z9.below bA;refine hK.out _ _ hN (fun ZM=>?_);have X5:Hid ((w4.alloc (.cells #[.int .i64 0,.int .i64 0] 111)).heap[w4.heap.size]?=some (.cells #[.int .i64 0,.int .i64 0] 111 (0,0))):=Y9 w4 _;have EF:=Z3 Z9;have BA:=Z3 bA;clear hK K ZM Z9 bA;have Z9:=hN;clear hN;obtain ⟨b9,ST⟩:∃b,b=w4.heap.size:=⟨_,rfl⟩;rw [←ST] at X5;have Z:b9<(w4.alloc (.cells #[.int .i64 0,.int .i64 0] 111)).heap.size:=by simp [ST]
   rw [←ST];have JE:=Z3 ST;clear ST;generalize w4.alloc _=w5 at *;refine ZU 6 rfl (fun K hK=>?_);go_simp;refine (uG.out _).mono ?_;rintro e w6 ⟨rfl,b8⟩;have hN:=Z9.below b8;refine hK.out _ _ hN (fun ZM=>?_);have X6:Hid (w6.heap[b9]?=some (.cells #[.int .i64 0,.int .i64 0] 111 (0,0))):=(b8.block _ Z).trans X5.out;have Y:b9<w6.heap.size:=ZL Z b8.size;have BB:=Z3 (YV BA.out b8);clear X5 BA Z b8;have X5:=X6;have BA:=BB;have Z:=Y;clear X6 BB Y;clear hK K ZM Z9;have Z9:=hN;clear hN;refine ZU 8 rfl (fun K hK=>?_);have t0:w6.cell? ⟨b9,0,none⟩=some (.int .i64 0):=cell_of X5.out 0;have t1:w6.cell? ⟨b9,1,none⟩=some (.int .i64 0):=cell_of X5.out 1;have f0:w6.frozen? ⟨b9,0,none⟩=false:=by simp [World.frozen?,X5.out]
   have f1:w6.frozen? ⟨b9,1,none⟩=false:=by simp [World.frozen?,X5.out]
   have X7:=Z3 (Vt.set (Vt.set X5.out 0 (.int .i64 fi)) 1 (.int .i64 κ.S));have b7:Hid (ZX w4 ((w6.setCell ⟨b9,0,none⟩ (.int .i64 fi)).setCell ⟨b9,1,none⟩ (.int .i64 κ.S))):=by
    show Below _ _ _
    iterate 2 refine Below.setCell ?_ (Jt JE.out.symm) _
    exact BA.out
   clear Z9;go_simp;have hN:=EF.out.below b7.out;refine hK.out _ _ hN (fun ZM=>?_);clear hK K ZM t0 t1 f0 f1;refine ZP (by kernel_rfl) ?_ _
   try simp only [Act.put,Y8,Y7,Y6]
   exact REST.out b9 _ _ _ _ _ _ _ _ _ _ _ _ _ _ _ _ _ _ _ _ _ _ _ _ _ _ _ _ _ _ _ _ _ _ _ _ _ _ _ _ _ _ hN X7.out
 skip
 go_simp;have bA:ZX w3 (w3.alloc (.cells #[.int .i64 0,.int .i64 0] 111)):=ZJ.alloc ZT _;have hN:=Z9.below bA;refine hK.out _ _ hN (fun ZM=>?_);have X5:Hid ((w3.alloc (.cells #[.int .i64 0,.int .i64 0] 111)).heap[w3.heap.size]?=some (.cells #[.int .i64 0,.int .i64 0] 111 (0,0))):=Y9 w3 _;have EF:=Z3 Z9;have BA:=Z3 bA;clear hK K ZM Z9 bA;have Z9:=hN;clear hN;obtain ⟨b9,ST⟩:∃b,b=w3.heap.size:=⟨_,rfl⟩;rw [←ST] at X5;have Z:b9<(w3.alloc (.cells #[.int .i64 0,.int .i64 0] 111)).heap.size:=by simp [ST]
 rw [←ST];have JE:=Z3 ST;clear ST;generalize w3.alloc _=w4 at *;refine ZU 5 rfl (fun K hK=>?_);go_simp;refine (lA.out _ Z9).mono ?_;rintro e w5 ⟨rfl,b8⟩;have hN:=Z9.below b8;refine hK.out _ _ hN (fun ZM=>?_);have X6:Hid (w5.heap[b9]?=some (.cells #[.int .i64 0,.int .i64 0] 111 (0,0))):=(b8.block _ Z).trans X5.out;have Y:b9<w5.heap.size:=ZL Z b8.size;have BB:=Z3 (YV BA.out b8);clear X5 BA Z b8;have X5:=X6;have BA:=BB;have Z:=Y;clear X6 BB Y;clear hK K ZM Z9;have Z9:=hN;clear hN;refine ZU 6 rfl (fun K hK=>?_);go_simp;refine (uG.out _).mono ?_;rintro e w6 ⟨rfl,b8⟩;have hN:=Z9.below b8;refine hK.out _ _ hN (fun ZM=>?_);have X6:Hid (w6.heap[b9]?=some (.cells #[.int .i64 0,.int .i64 0] 111 (0,0))):=(b8.block _ Z).trans X5.out;have Y:b9<w6.heap.size:=ZL Z b8.size;have BB:=Z3 (YV BA.out b8);clear X5 BA Z b8;have X5:=X6;have BA:=BB;have Z:=Y;clear X6 BB Y;clear hK K ZM Z9;have Z9:=hN;clear hN;refine ZU 8 rfl (fun K hK=>?_);have t0:w6.cell? ⟨b9,0,none⟩=some (.int .i64 0):=cell_of X5.out 0;have t1:w6.cell? ⟨b9,1,none⟩=some (.int .i64 0):=cell_of X5.out 1;have f0:w6.frozen? ⟨b9,0,none⟩=false:=by simp [World.frozen?,X5.out]
 have f1:w6.frozen? ⟨b9,1,none⟩=false:=by simp [World.frozen?,X5.out]
 have X7:=Z3 (Vt.set (Vt.set X5.out 0 (.int .i64 fi)) 1 (.int .i64 κ.S));have b7:Hid (ZX w3 ((w6.setCell ⟨b9,0,none⟩ (.int .i64 fi)).setCell ⟨b9,1,none⟩ (.int .i64 κ.S))):=by
  show Below _ _ _
  iterate 2 refine Below.setCell ?_ (Jt JE.out.symm) _
  exact BA.out
 clear Z9;go_simp;have hN:=EF.out.below b7.out;refine hK.out _ _ hN (fun ZM=>?_);clear hK K ZM t0 t1 f0 f1;refine ZP (by kernel_rfl) ?_ _
 try simp only [Act.put,Y8,Y7,Y6]
 exact REST.out b9 _ _ _ _ _ _ _ _ _ _ _ _ _ _ _ _ _ _ _ _ _ _ _ _ _ _ _ _ _ _ _ _ _ _ _ _ _ _ _ _ _ _ hN X7.out
end
section
open Go.RowKit Go.Shelf
def No (c:UInt8):Bool:=decide (48≤c.toNat) && decide (c.toNat≤57)
theorem QJ (c:UInt8):No c=true↔48≤c.toNat∧c.toNat≤57:=by unfold No;simp
def wl (acc:Nat) (l:List UInt8):Nat:=l.foldl (fun a c=>a*10+(c.toNat - 48)) acc
theorem Dd (acc:Nat):wl acc []=acc:=by unfold wl;exact List.foldl_nil
theorem Ha (acc:Nat) (c:UInt8) (r:List UInt8):wl acc (c :: r)=wl (acc*10+(c.toNat - 48)) r:=by unfold wl;exact Jz ..
theorem EB:∀(l:List UInt8) (acc:Nat),l.all No=true→wl acc l<(acc+1)*10 ^ l.length
 | [],acc,_=>by simp [Dd]
 | c :: r,acc,h=>by
  simp only [FU,Yg] at h
  have hc:=(QJ c).1 h.1;have:=EB r (acc*10+(c.toNat - 48)) h.2;rw [Ha];refine ZL this ?_;rw [Yr,Jr,Nat.mul_comm (10 ^ r.length) 10,←Nat.mul_assoc];exact Nat.mul_le_mul_right _ (by omega)
def G0 (l:List UInt8):Option Int :=
 if l.length=0∨9<l.length∨(l.head?=some 48∧1<l.length) then none
 else if l.all No=true then some (wl 0 l:Nat) else none
def WC (l:List UInt8):Option Int :=
 if 1<l.length∧l.head?=some 45 then (if l.tail.head?=some 48∨l.tail.head?=some 45 then none else (G0 l.tail).map fun v=>-v) else G0 l
theorem wk:∀(l:List UInt8) (acc M:Nat),(acc+1)*10 ^ l.length≤1000000000→1000000000≤M→Lib.parseUintM M acc l=if l.all No=true then .ok (wl acc l) else Lib.parseUintB 64 []
 | [],acc,M,_,_=>by simp [Lib.parseUintM,Dd]
 | c :: r,acc,M,h,hM=>by
  have hp:1≤10 ^ r.length:=Nat.pos_of_ne_zero (by simp);have e:(acc+1)*10 ^ (c :: r).length=((acc+1)*10)*10 ^ r.length:=by
   rw [Yr,Jr,Nat.mul_comm (10 ^ r.length) 10,←Nat.mul_assoc]
  rw [e] at h;have h1:(acc+1)*10≤1000000000:=ZF (Nat.le_mul_of_pos_right _ hp) h;unfold Lib.parseUintM
  by_cases hc:48≤c.toNat∧c.toNat≤57
  · rw [ZZ hc,Z1 (by omega),Z1 (by omega)]
    rw [wk r _ M (ZF (Nat.mul_le_mul_right _ (by omega)) h) hM]
    simp only [FU,(QJ c).2 hc,Qv,Ha]
  rw [Z1 hc];have:No c=false:=by
   cases hd:No c with
   | false=>rfl
   | true=>exact absurd ((QJ c).1 hd) hc
  simp [this]
  rfl
theorem np (r:List UInt8):Lib.parseIntB 64 (45 :: r)=match Lib.parseUintB 64 r with | .range=>.range | .ok u=>if 9223372036854775808<u then .range else .ok (-(u:Int)) | _=>Lib.parseIntB 64 []:=by
 have e45:(45:UInt8).toNat=45:=rfl;unfold Lib.parseIntB
 simp [e45]
 cases Lib.parseUintB 64 r <;> rfl
theorem nj (c:UInt8) (r:List UInt8) (h:c.toNat≠43) (h2:c.toNat≠45):Lib.parseIntB 64 (c :: r)=match Lib.parseUintB 64 (c :: r) with | .range=>.range | .ok u=>if 9223372036854775808≤u then .range else .ok (u:Int) | _=>Lib.parseIntB 64 []:=by
 unfold Lib.parseIntB
 simp [h,h2]
 cases Lib.parseUintB 64 (c :: r) <;> rfl
theorem AS {l d:List UInt8} (hd:d=if l.head?=some 45 then l.tail else l) (h0:l≠[48]) :
    (d=[]∨9<d.length∨(∃c,d.head?=some c∧(c.toNat<49∨57<c.toNat))→WC l=none) ∧
    (d≠[]→d.length≤9→(∀c,d.head?=some c→49≤c.toNat∧c.toNat≤57)→Lib.parseIntB 64 l=match WC l with | some v=>.ok v | none=>Lib.parseIntB 64 []):=by
 have key:∀x:List UInt8,x≠[48]→(x=[]∨9<x.length∨(∃c,x.head?=some c∧(c.toNat<49∨57<c.toNat)))→G0 x=none:=by
  intro x hx h;unfold G0
  rcases h with rfl | h | ⟨c,hc,h⟩
  · simp
  · rw [ZZ (by omega)]
  by_cases h9:x.length=0∨9<x.length∨(x.head?=some 48∧1<x.length)
  · rw [ZZ h9]
  rw [Z1 h9,Z1];intro hall
  cases x with
  | nil=>simp at hc
  | cons y r =>
   simp only [List.head?_cons,Zo] at hc
   subst hc
   simp only [FU,Yg] at hall
   have hy:=(QJ y).1 hall.1;have A:y=48:=DY (by show y.toNat=48;omega);subst A
   cases r with
   | nil=>exact hx rfl
   | cons z r=>exact h9 (.inr (.inr ⟨rfl,by simp⟩))
 have ui:∀x:List UInt8,x≠[]→x.length≤9→(∀c,x.head?=some c→49≤c.toNat∧c.toNat≤57)→G0 x=(if x.all No=true then some (wl 0 x:Int) else none)∧Lib.parseUintB 64 x=(if x.all No=true then .ok (wl 0 x) else Lib.parseUintB 64 []):=by
  intro x hx hl hc;refine ⟨?_,?_⟩
  · unfold G0
    rw [Z1];rintro (h | h | ⟨h,-⟩)
    · exact hx (TN h)
    · omega
    have:=hc _ h;have e:(48:UInt8).toNat=48:=rfl;omega
  unfold Lib.parseUintB;rw [Z1 hx];refine wk x 0 _ ?_ (by decide);have:10 ^ x.length≤10 ^ 9:=Js (by omega) hl;omega
 by_cases hm:l.head?=some 45
 · rw [ZZ hm] at hd
   subst hd
   cases l with
   | nil=>simp at hm
   | cons c r =>
    simp only [List.head?_cons,Zo] at hm
    subst hm
    simp only [List.tail_cons]
    cases r with
    | nil=>exact ⟨fun _=>by decide,fun h=>absurd rfl h⟩
    | cons c r =>
     have e1:WC (45 :: c :: r)=(if c=48∨c=45 then none else (G0 (c :: r)).map fun v=>-v):=by
      unfold WC;simp
     refine ⟨fun h=>?_,fun h1 h2 h3=>?_⟩
     · rw [e1]
       by_cases hc:c=48∨c=45
       · rw [ZZ hc]
       rw [Z1 hc,key (c :: r) (fun e=>hc (.inl (by injection e))) h]
       rfl
     have hc:=h3 c rfl;have e48:(48:UInt8).toNat=48:=rfl;have e45:(45:UInt8).toNat=45:=rfl;rw [e1,Z1 (by rintro (rfl | rfl) <;> omega)];obtain ⟨d1,d2⟩:=ui (c :: r) h1 h2 h3;rw [np,d1,d2]
     by_cases ha:(c :: r).all No=true
     · rw [ZZ ha,ZZ ha]
       have:=EB (c :: r) 0 ha;have h9:10 ^ (c :: r).length≤10 ^ 9:=Js (by omega) h2
       simp only [zE]
       rw [Z1 (by omega)]
     rw [Z1 ha,Z1 ha]
     rfl
 rw [Z1 hm] at hd;subst hd;have e1:WC d=G0 d:=by
  unfold WC;rw [Z1 (fun h=>hm h.2)]
 refine ⟨fun h=>by rw [e1];exact key d h0 h,fun h1 h2 h3=>?_⟩;obtain ⟨d1,d2⟩:=ui d h1 h2 h3;rw [e1,d1]
 cases d with
 | nil=>exact absurd rfl h1
 | cons c r =>
  have hc:=h3 c rfl;rw [nj c r (by omega) (by omega),d2]
  by_cases ha:(c :: r).all No=true
  · rw [ZZ ha,ZZ ha]
    have:=EB (c :: r) 0 ha;have h9:10 ^ (c :: r).length≤10 ^ 9:=Js (by omega) h2;show (if 9223372036854775808≤wl 0 (c :: r) then _ else _)=_;rw [Z1 (by omega)]
  rw [Z1 ha,Z1 ha]
  rfl
theorem WW (b:ByteArray):b.data.toList.length=b.size:=by rw [Gd];rfl
theorem EA (b:ByteArray) (i:Nat) (h:i<b.size):b.data.toList[i]?=some b[i]:=by
 rw [Array.getElem?_toList];exact lu h
theorem rO (b:ByteArray) (h:0<b.size):b.data.toList.head?=some b[0]:=by
 rw [List.head?_eq_getElem?];exact EA b 0 h
def GZ (w:World) (b:ByteArray) (e:Ending) (w':World):Prop:=∃v ok,e=.returned (.tuple #[.int .i64 v,.bool ok])∧ZX w w'∧ok=(WC b.data.toList).isSome∧∀x,WC b.data.toList=some x→v=x
theorem GZ.no {w w':World} {b:ByteArray} {v:Int} (h:WC b.data.toList=none) (hb:ZX w w'):GZ w b (.returned (.tuple #[.int .i64 v,.bool false])) w':=⟨v,false,rfl,hb,by rw [h];rfl,fun x hx=>by rw [h] at hx;cases hx⟩
end
end Go.Proofs.YtpmjnbmkippaiaaGreatDoor


