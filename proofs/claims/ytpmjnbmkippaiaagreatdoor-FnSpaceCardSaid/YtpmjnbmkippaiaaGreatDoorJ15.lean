import Derived.Test.YtpmjnbmkippaiaaGreatDoorJ14
set_option maxRecDepth 100000
set_option maxHeartbeats 16000000
set_option linter.all false
namespace Go.Proofs.YtpmjnbmkippaiaaGreatDoor
open Go.RowKit Go.Conc
variable {ys:List Int} {cp k o pB z:Nat} {κ:Sc} {σ:Sx} {v0 vE vq vt:Value} {W w0:World}
structure Sl (κ:Sc) (σ:Sx) (w0:World) (v0:Value) (pB z o:Nat) (vE vt vq:Value) (cp:Nat) (ys:List Int) (k:Nat) (W:World):Prop where
 ph:Ph none w0 κ.sB (.pointer (some ⟨κ.mB,0,none⟩)) κ.S κ.L v0 k W
 mm:St W κ.mB (yG κ σ vt vq cp)
 pb:∃x2,St W pB [.int .i64 (z:Int),.int .i64 (o:Int),x2,vE]
 rd:Rd .u8 W vE ys
 lg:UI W (.slice (some ⟨κ.lb,κ.lo,none⟩) σ.full.length cp) σ.full
theorem Sl.below {W':World} (h:Sl κ σ w0 v0 pB z o vE vt vq cp ys k W) (hb:Zi W W'):Sl κ σ w0 v0 pB z o vE vt vq cp ys k W':=by
 obtain ⟨x2,p⟩:=h.pb;exact ⟨h.ph.below hb,h.mm.below hb,⟨x2,p.below hb⟩,h.rd.below hb,h.lg.below hb⟩
theorem Sl.next {k':Nat} (h0:Sl κ σ w0 v0 pB z o vE vt vq cp ys k w0) (hne:κ.sB≠κ.mB∧κ.sB≠κ.lb∧κ.sB≠pB) (hE:vE.ownBlock≠some κ.sB) (h:Ph none w0 κ.sB (.pointer (some ⟨κ.mB,0,none⟩)) κ.S κ.L v0 k' W):Sl κ σ w0 v0 pB z o vE vt vq cp ys k' W:=by
 obtain ⟨x2,p⟩:=h0.pb;have hg:=h.gb.1.gb;have hb:∀q,q<w0.heap.size→q≠κ.sB→W.heap[q]?=w0.heap[q]?:=fun q hq hn=>hg.block q hq (fun e=>hn (by injection e))
 exact ⟨h,Wo h0.mm hg.size (hb _ h0.mm.lt hne.1.symm),⟨x2,Wo p hg.size (hb _ p.lt hne.2.2.symm)⟩,Rg h0.rd hg.size (fun q hq hl=>hb q hl (fun e=>hE (by rw [←e];exact hq))),UI.kept h0.lg hg (.inr (by simp [Value.ownBlock];exact fun e=>hne.2.1 e.symm))⟩
theorem Sl.cells (h:Sl κ σ w0 v0 pB z o vE vt vq cp ys k W) :
    W.cell? ⟨κ.sB,0,none⟩=some (.pointer (some ⟨κ.mB,0,none⟩))∧W.cell? ⟨κ.sB,1,none⟩=some (.int .i64 κ.S)∧W.cell? ⟨κ.sB,2,none⟩=some (.int .i64 κ.L)∧W.cell? ⟨pB,0,none⟩=some (.int .i64 (z:Int))∧W.cell? ⟨pB,1,none⟩=some (.int .i64 (o:Int))∧W.cell? ⟨pB,3,none⟩=some vE∧κ.sB<W.heap.size∧pB<W.heap.size:=by
 obtain ⟨x2,p⟩:=h.pb;obtain ⟨vd,vp,made,YL,ps,dv,s1,-⟩:=h.ph;exact ⟨s1.cl 0 _ rfl,s1.cl 1 _ rfl,s1.cl 2 _ rfl,p.cl 0 _ rfl,p.cl 1 _ rfl,p.cl 3 _ rfl,s1.lt,p.lt⟩
theorem uH (κ:Sc) (σ:Sx) (w0 w:World) (v0:Value) (k pB z o:Nat) (vE vt vq:Value) (cp:Nat) (ys:List Int) (h0:Sl κ σ w0 v0 pB z o vE vt vq cp ys k w0) (h:Ph none w0 κ.sB (.pointer (some ⟨κ.mB,0,none⟩)) κ.S κ.L v0 k w) (hV:Sv κ σ w0) (hv0:Pg κ v0) (D:κ.sB≠pB) (Zx:κ.mB≠pB) (hE:vE.ownBlock≠some κ.sB)
    (hpw:σ.pw=none) (hg:σ.g=1) (hb:σ.b=0) (hoff:σ.off=0) (ho:o≤σ.full.length) (hfl:σ.full.length≤4096) (hcp:σ.full.length≤cp) (hy:Sn ys) (hyl:ys.length≤4096) (hk:k≤5000) (hc:Wp κ.S κ.L=true) (hz:z<1000000) (htab:∀W,Gs κ w0 W→Po W) :
    Calls Tryz.prog 124 #[.pointer (some ⟨κ.sB,0,none⟩),.pointer (some ⟨pB,0,none⟩)] w fun e w'=>e=.returned (.tuple #[])∧Gs κ w0 w'∧∃l r,Sv κ { σ with k:=k+70,g:=2,b:=1,s:=(z:Int),l:=l,r:=r,off:=o,sn:=none,pw:=none } w':=by
 obtain ⟨⟨hS1,hS2⟩,hL1,hL2⟩:=(Xk κ.S κ.L).1 hc;have hne:=hV.ne;have S0:=ZU (h0.next ⟨hne.1,hne.2.2.1,D⟩ hE h);have Of:Hid (∀k' W,Ph none w0 κ.sB (.pointer (some ⟨κ.mB,0,none⟩)) κ.S κ.L v0 k' W→Sl κ σ w0 v0 pB z o vE vt vq cp ys k' W):=fun k' W hW=>h0.next ⟨hne.1,hne.2.2.1,D⟩ hE hW
 have nD:Hid (∀k' W,Ph none w0 κ.sB (.pointer (some ⟨κ.mB,0,none⟩)) κ.S κ.L v0 k' W→Gs κ w0 W):=fun k' W hW=>Gs.I1 hW.gb.1.gb (.inl rfl)
 obtain ⟨ea,ec,rfl,-⟩:=h0.rd.len;have HV:=ZU hV;obtain ⟨Z,I⟩:∃c:Int,c=((4294967295 - No 4294967295 ys:Nat):Int):=⟨_,rfl⟩;have kj:Hid (0≤Z∧Z≤4294967295):=by show _∧_;rw [I];omega
 have pZ:Hid (∀W,Sl κ σ w0 v0 pB z o (.slice ea ys.length ec) vt vq cp ys k W→Calls Tryz.prog 48 #[.slice ea ys.length ec] W fun e w'=>e=.returned (.int .i64 Z)∧w'=W):=fun W hW=>by
  rw [I];exact Pn W _ ys hW.rd hy (by omega) (htab _ (Gs.I1 hW.ph.gb.1.gb (.inl rfl)))
 have ly:Hid (∀W,Sl κ σ w0 v0 pB z o (.slice ea ys.length ec) vt vq cp ys k W→Calls Tryz.prog 123 #[.pointer (some ⟨κ.sB,0,none⟩)] W (Wj W (.int .i64 1))):=fun W hW=>by
  have h9:=On W κ.sB κ.mB 0 (by decide) hW.cells.1 (by have:=hW.mm.cl 7 _ rfl;rw [hb] at this;exact this);exact h9
 clear h h0 hV I
 go_enter Tryz.func124,Tryz.ntmps124
 go_wp2_with fail
 have S1:Hid (Sl κ σ w0 v0 pB z o (.slice ea ys.length ec) vt vq cp ys k w.drew):=S0.out.below (below_drewN' w 1);clear S0;rename_i KK Hq;have REST:Hid (∀(b4:Nat) (u8 u9 u10 u11 u12 u13 u14 u15 u16 u17 u18 u19 u20 u21 u22 u23 u24 u25 u26 u27 u28 u29 u30 u31 u32 u33:Value) (W:World),Sl κ σ w0 v0 pB z o (.slice ea ys.length ec) vt vq cp ys k W→b4≠κ.sB→b4≠κ.mB→w0.heap.size≤b4→W.heap[b4]?=some (.cells #[.int .i64 2,.int .i64 1,.int .i64 (z:Int),.int .i64 (ys.length:Int),.int .i64 Z] 60 (0,0))→KK { tmps:=#[.pointer (some ⟨κ.sB,0,none⟩),.pointer (some ⟨pB,0,none⟩),undef,undef,.pointer (some ⟨b4,0,none⟩),undef,undef,undef,u8,u9,u10,u11,u12,u13,u14,u15,u16,u17,u18,u19,u20,u21,u22,u23,u24,u25,u26,u27,u28,u29,u30,u31,u32,u33,undef,undef,undef,undef,undef,undef,undef,undef,undef,undef,undef,undef,undef,undef,undef,undef,undef,undef,undef,undef,undef,undef,undef,undef,undef,undef,undef,undef,undef,undef,undef,undef,undef,undef,undef,undef,undef,undef,undef,undef,undef,undef,undef,undef,undef,undef,undef,undef,undef,undef,undef,undef,undef,undef,undef,undef,undef,undef,undef,undef,undef,undef,undef,undef,undef,undef,undef],defers:=[] } W):=by
  intro b4 u8 u9 u10 u11 u12 u13 u14 u15 u16 u17 u18 u19 u20 u21 u22 u23 u24 u25 u26 u27 u28 u29 u30 u31 u32 u33 W hW hb1 hb2 hb3 hb4;refine Hq _ _ ?_;have HW:=ZU hW;have H4:=ZU hb4;have B:=(Z3.mp hb4).1;clear hW hb4
  go_wp2_with fail
  obtain ⟨lo,hlo⟩:∃x,x=κ.lo+(if o=cp then 0 else o):=⟨_,rfl⟩;have H:=ZU hlo;have S2:Hid (Sl κ σ w0 v0 pB z o (.slice ea ys.length ec) vt vq cp ys k W.drew):=HW.out.below (below_drewN' W 1);have H5:Hid (W.drew.heap[b4]?=some (.cells #[.int .i64 2,.int .i64 1,.int .i64 (z:Int),.int .i64 (ys.length:Int),.int .i64 Z] 60 (0,0))):=((below_drewN' W 1).block b4 B).trans H4.out;clear HW H4 hlo B;refine ZX (S:=Sl κ σ w0 v0 pB z o (.slice ea ys.length ec) vt vq cp ys k) (by kernel_rfl) S2.out (fun Z9=>?_);generalize W.drew=w2 at *
  iterate 11 (refine Zf ?_ (by kernel_rfl) (fun _=>id) Z9 ?_ ?_;rotate_left;· intro w9 ZQ;obtain ⟨k0,-,-,k3,k4,k5,-,-⟩:=ZQ.cells;have k11:=ZQ.mm.cl 11 _ rfl;simp only [hoff,Si,Yj,XY] at k11;clear ZQ;go_simp;try with_reducible rfl)
  refine Zf (.slice (some ⟨κ.lb,lo,none⟩) (σ.full.length - o) (cp - o)) (by kernel_rfl) (fun _=>id) Z9 ?Dd ?_
  case Dd =>
   intro w9 ZQ;clear ZQ;have e9:=H.out
   by_cases e8:o=cp
   · rw [Z0 e8] at e9
     rw [Yj] at e9;subst e9;subst e8;go_simp
   rw [Z1 e8] at e9;subst e9;go_simp;exact fun e=>absurd e.symm e8
  refine Zf ?_ (by kernel_rfl) (fun _=>id) Z9 ?_ ?_
  rotate_left
  · intro w9 ZQ;clear ZQ;go_simp;try with_reducible rfl
  refine ZR (by kernel_rfl) ?_ _
  try simp only [Act.put,WV,WU,WT]
  clear Z9
  go_wp2_with fail
  rename_i ZE T;obtain ⟨fi,hfi⟩:∃f:Int,f=Rx κ.S κ.L 1 true:=⟨_,rfl⟩;have hfin:0≤fi∧fi≤100000:=by rw [hfi];exact uM hc (by decide)
  have Ow:Hid (∀W,Calls Tryz.prog 79 #[.agg #[.int .i64 κ.S,.int .i64 κ.L],.int .i64 1] W (Wj W (.agg #[.int .i64 fi,.int .i64 κ.L]))):=fun W=>by
   have h9:=RF W κ.S κ.L 1 hc (by decide);rw [←hfi] at h9;exact h9
  have S3:Hid (Sl κ σ w0 v0 pB z o (.slice ea ys.length ec) vt vq cp ys k w2.drew):=S2.out.below (below_drewN' w2 1);have H6:Hid (w2.drew.heap[b4]?=some (.cells #[.int .i64 2,.int .i64 1,.int .i64 (z:Int),.int .i64 (ys.length:Int),.int .i64 Z] 60 (0,0))):=((below_drewN' w2 1).block b4 (Z3.mp H5.out).1).trans H5.out;clear S2 H5 hfi;have R:Hid (∀(b6:Nat) (u34 u35 u36 u37 u38 u39 u40 u41 u42 u43 u44 u45 u46 u47 u48 u49 u50 u51 u52:Value) (W:World),Sl κ σ w0 v0 pB z o (.slice ea ys.length ec) vt vq cp ys k W→W.heap[b4]?=some (.cells #[.int .i64 2,.int .i64 1,.int .i64 (z:Int),.int .i64 (ys.length:Int),.int .i64 Z] 60 (0,0))→b6≠κ.sB→W.heap[b6]?=some (.cells #[.int .i64 fi,.int .i64 κ.L] 111 (0,0))→ZE { tmps:=#[.pointer (some ⟨κ.sB,0,none⟩),.pointer (some ⟨pB,0,none⟩),undef,undef,.pointer (some ⟨b4,0,none⟩),.slice (some ⟨κ.lb,lo,none⟩) (σ.full.length - o) (cp - o),.pointer (some ⟨b6,0,none⟩),undef,u8,u9,u10,u11,u12,u13,u14,u15,u16,u17,u18,u19,u20,u21,u22,u23,u24,u25,u26,u27,u28,u29,u30,u31,u32,u33,u34,u35,u36,u37,u38,u39,u40,u41,u42,u43,u44,u45,u46,u47,u48,u49,u50,u51,u52,undef,undef,undef,undef,undef,undef,undef,undef,undef,undef,undef,undef,undef,undef,undef,undef,undef,undef,undef,undef,undef,undef,undef,undef,undef,undef,undef,undef,undef,undef,undef,undef,undef,undef,undef,undef,undef,undef,undef,undef,undef,undef,undef,undef,undef,undef,undef,undef],defers:=[] } W):=by
   intro b6 u34 u35 u36 u37 u38 u39 u40 u41 u42 u43 u44 u45 u46 u47 u48 u49 u50 u51 u52 W hW hb4 hb6 G;refine T _ _ ?_;clear S3 H6 Ow T;have ZD:W.cell? ⟨b6,1,none⟩=some (.int .i64 κ.L):=cell_of G 1;have Dr:Hid (∀k' W',Sl κ σ w0 v0 pB z o (.slice ea ys.length ec) vt vq cp ys (k') W'→Rd .u8 W' (.slice (some ⟨κ.lb,lo,none⟩) (σ.full.length - o) (cp - o)) (σ.full.drop o)):=fun k' W' hW'=>by
    have h9:=hW'.lg.rd;have e9:=H.out
    by_cases e8:o=cp
    · have e1:σ.full.length - o=0:=by omega
      have e2:σ.full.drop o=[]:=XS (by omega);rw [e1,e2];exact vT _ _ _ (by obtain ⟨_,_,_,h8,h7⟩:=h9.len;omega)
    rw [Z1 e8] at e9;have h8:=rD h9 rfl κ.lb κ.lo rfl o ho;rw [e9];exact h8
   have qd:Hid (∀(X Y:World) (q:Nat) (cs:Array Value) (t:TypeId),t≠132→KW κ.sB X Y→q≠κ.sB→X.heap[q]?=some (.cells cs t (0,0))→Y.heap[q]?=some (.cells cs t (0,0))):=fun X Y q cs t ht hk hq hx=>(hk.block q (Z3.mp hx).1 hq (fun cs' z' e=>by rw [hx] at e;injection e with e;injection e with _ e2;exact ht e2)).trans hx
   have HW:=ZU hW;have H4:=ZU hb4;have H7:=ZU G;clear hW hb4 G
   go_wp2_with fail
   clear ZD
   go_loopw [55] (fun v wr=>∃i:Nat,v=.int .i64 (i:Int)∧(i:Int)≤κ.L∧Hid (Sl κ σ w0 v0 pB z o (.slice ea ys.length ec) vt vq cp ys (k+i) wr)∧Hid (wr.heap[b4]?=some (.cells #[.int .i64 2,.int .i64 1,.int .i64 (z:Int),.int .i64 (ys.length:Int),.int .i64 Z] 60 (0,0)))∧Hid (wr.heap[b6]?=some (.cells #[.int .i64 fi,.int .i64 κ.L] 111 (0,0)))) (fun v _=>(κ.L - intOf v).toNat)
   case atStart=>exact ⟨0,rfl,by omega,HW,H4,H7⟩
   case round =>
    clear HW H4 H7;obtain ⟨i,rfl,hi,HW,H4,H7⟩:=hrel
    by_cases hlt:(i:Int)<κ.L
    · go_wp2_with fail
      have S3:Hid (Sl κ σ w0 v0 pB z o (.slice ea ys.length ec) vt vq cp ys (k+i) wr.drew):=HW.out.below (below_drewN' wr 1);have H5:Hid (wr.drew.heap[b4]?=some (.cells #[.int .i64 2,.int .i64 1,.int .i64 (z:Int),.int .i64 (ys.length:Int),.int .i64 Z] 60 (0,0))):=((below_drewN' wr 1).block b4 (Z3.mp H4.out).1).trans H4.out;have H8:Hid (wr.drew.heap[b6]?=some (.cells #[.int .i64 fi,.int .i64 κ.L] 111 (0,0))):=((below_drewN' wr 1).block b6 (Z3.mp H7.out).1).trans H7.out;clear HW H4 H7;refine ZX (S:=fun W=>W.heap[b6]?=some (.cells #[.int .i64 fi,.int .i64 κ.L] 111 (0,0))) (by kernel_rfl) H8.out (fun Z9=>?_);generalize wr.drew=w4 at *
      iterate 4 (refine Zf ?_ (by kernel_rfl) (fun _=>id) Z9 ?_ ?_;rotate_left;· intro w9 ZQ;have k1:w9.cell? ⟨b6,0,none⟩=some (.int .i64 fi):=cell_of ZQ 0;clear ZQ;go_simp;try with_reducible rfl)
      refine Zf (.int .i64 (fi+(i:Int))) (by kernel_rfl) (fun _=>id) Z9 ?_ ?_
      · intro w9 ZQ;have k1:w9.cell? ⟨b6,0,none⟩=some (.int .i64 fi):=cell_of ZQ 0;clear ZQ;go_simp;rw [Zq];omega
      iterate 2 (refine Zf ?_ (by kernel_rfl) (fun _=>id) Z9 ?_ ?_;rotate_left;· intro w9 ZQ;have k1:w9.cell? ⟨b6,0,none⟩=some (.int .i64 fi):=cell_of ZQ 0;clear ZQ;go_simp;try with_reducible rfl)
      refine YS 7 rfl (by kernel_rfl) (fun K hK=>?_);go_simp;refine (L7 w4 _ (σ.full.drop o) i (Dr.out _ _ S3.out) (by rw [ZS];omega) (by omega)).mono ?_;rintro e w5 ⟨⟨C,hC,rfl⟩,b5⟩;have S5:=ZU (S3.out.below b5);have H6:Hid (w5.heap[b4]?=some (.cells #[.int .i64 2,.int .i64 1,.int .i64 (z:Int),.int .i64 (ys.length:Int),.int .i64 Z] 60 (0,0))):=(b5.block b4 (Z3.mp H5.out).1).trans H5.out;have hN:w5.heap[b6]?=some (.cells #[.int .i64 fi,.int .i64 κ.L] 111 (0,0)):=(b5.block b6 (Z3.mp Z9).1).trans Z9;refine hK.out _ _ hN (fun YA=>?_);clear hK K YA Z9 S3 H5 H8 b5;refine YS 8 rfl (by kernel_rfl) (fun K hK=>?_);go_simp;refine (Hn (fi+(i:Int)) C S5.out.ph (by omega) hC).mono ?_;rintro e w6 ⟨rfl,p6,k6⟩;have ZB:=ZU (Of.out _ _ p6);have H7:=ZU (qd.out _ _ b4 _ _ (by decide) k6 hb1 H6.out);have A:=qd.out _ _ b6 _ _ (by decide) k6 hb6 hN;refine hK.out _ _ A (fun YA=>?_);clear hK K YA S5 H6 hN p6 k6;refine ZR (by kernel_rfl) ?_ _
      try simp only [Act.put,WV,WU,WT]
      go_wp2
      go_roundw
      case rel=>exact ⟨i+1,by go_num,by omega,ZB,H7,A⟩
      case measure=>simp [intOf];omega
    have hie:(i:Int)=κ.L:=by omega
    have SY:=ZU (Ho HW.out.ph (by omega))
    go_wp2_with fail
    refine SY.out.mono ?_;rintro e w7 ⟨rfl,p7,k7⟩;have P7:Hid (Ph none w0 κ.sB (.pointer (some ⟨κ.mB,0,none⟩)) κ.S κ.L v0 (k+i+1) w7.drew):=p7.ph.below (below_drewN' w7 1);have e4:=qd.out _ _ b4 _ _ (by decide) k7 hb1 H4.out;have H5:Hid (w7.drew.heap[b4]?=some (.cells #[.int .i64 2,.int .i64 1,.int .i64 (z:Int),.int .i64 (ys.length:Int),.int .i64 Z] 60 (0,0))):=((below_drewN' w7 1).block b4 (Z3.mp e4).1).trans e4;clear SY p7 k7 HW H4 H7 e4;obtain ⟨Q,P⟩:∃s,s=sup 2 1 (z:Int) (ys.length:Int) Z:=⟨_,rfl⟩;have ZA:Hid (∀W,Calls Tryz.prog 52 #[.int .i64 2] W fun e w'=>e=.returned (.int .i64 0)∧w'=W):=fun W=>CV W 2 (by decide)
    have qW:Hid (Q.length=64):=by
     have:=kj.out;rw [P];show _=_;unfold sup;rw [Z0 (by unfold PG;simp;omega)];exact Lt _ _ _ _ _
    have tL:Hid (∀W,Calls Tryz.prog 53 #[.agg #[.int .i64 2,.int .i64 1,.int .i64 (z:Int),.int .i64 (ys.length:Int),.int .i64 Z]] W fun e w'=>∃g c,e=.returned (.slice (some ⟨g,0,none⟩) 64 c)∧Own .u8 5 w' W.heap.size (.slice (some ⟨g,0,none⟩) 64 c) Q∧Zi W w'):=fun W=>by
     refine (Qv W 2 1 (z:Int) (ys.length:Int) Z).mono ?_;rintro e w' ⟨v',rfl,o',b'⟩;rw [←P] at o';obtain ⟨g,c,rfl,-,-⟩:=o'.pos qW.out (by omega);exact ⟨g,c,rfl,o',b'⟩
    clear P
    go_wp2_with fail
    refine ZX (S:=fun W=>W.heap[b4]?=some (.cells #[.int .i64 2,.int .i64 1,.int .i64 (z:Int),.int .i64 (ys.length:Int),.int .i64 Z] 60 (0,0))) (by kernel_rfl) H5.out (fun Z9=>?_);generalize w7.drew=w8 at *
    iterate 3 (refine Zf ?_ (by kernel_rfl) (fun _=>id) Z9 ?_ ?_;rotate_left;· intro w9 ZQ;have k1:w9.cell? ⟨b4,0,none⟩=some (.int .i64 2):=cell_of ZQ 0;have k2:w9.cell? ⟨b4,1,none⟩=some (.int .i64 1):=cell_of ZQ 1;have k3:w9.cell? ⟨b4,2,none⟩=some (.int .i64 (z:Int)):=cell_of ZQ 2;have k4:w9.cell? ⟨b4,3,none⟩=some (.int .i64 (ys.length:Int)):=cell_of ZQ 3;have k5:w9.cell? ⟨b4,4,none⟩=some (.int .i64 Z):=cell_of ZQ 4;clear ZQ;go_simp;try with_reducible rfl)
    refine Yp 4 (.agg #[.int .i64 2,.int .i64 1,.int .i64 (z:Int),.int .i64 (ys.length:Int),.int .i64 Z]) rfl (by kernel_rfl) (fun _=>id) Z9 ?hy24 ?_
    case hy24 =>
     intro w9 ZQ;have k1:w9.cell? ⟨b4,0,none⟩=some (.int .i64 2):=cell_of ZQ 0;have k2:w9.cell? ⟨b4,1,none⟩=some (.int .i64 1):=cell_of ZQ 1;have k3:w9.cell? ⟨b4,2,none⟩=some (.int .i64 (z:Int)):=cell_of ZQ 2;have k4:w9.cell? ⟨b4,3,none⟩=some (.int .i64 (ys.length:Int)):=cell_of ZQ 3;have k5:w9.cell? ⟨b4,4,none⟩=some (.int .i64 Z):=cell_of ZQ 4;clear ZQ;go_simp
     try with_reducible rfl
    refine YS 3 rfl (by kernel_rfl) (fun K hK=>?_);go_simp;refine (ZA.out _).mono ?_;rintro e wX ⟨rfl,hX⟩;rw [hX];clear hX wX;refine hK.out _ _ Z9 (fun YA=>?_);clear hK K YA;refine YS 5 rfl (by kernel_rfl) (fun K hK=>?_);go_simp;refine (tL.out _).mono ?_;rintro e Jg ⟨g9,c9,rfl,o9,b10⟩;have y:=ZU (P7.out.below b10);have hN:Jg.heap[b4]?=some (.cells #[.int .i64 2,.int .i64 1,.int .i64 (z:Int),.int .i64 (ys.length:Int),.int .i64 Z] 60 (0,0)):=(b10.block b4 (Z3.mp Z9).1).trans Z9;have RG:Hid (Jg.rangeAt g9 0 (Q.map (Value.int .u8))):=fun j v hj=>by have:=Ys o9 rfl j v hj;rw [YY] at this;exact this
    refine hK.out _ _ hN (fun YA=>?_);clear hK K YA Z9 P7 o9 b10 H5;have Z9:=hN;clear hN;refine Zf (.pointer (some ⟨g9,0,none⟩)) (by kernel_rfl) (fun _=>id) Z9 ?_ ?_
    · intro w9 ZQ;clear ZQ;have eN:=uY g9 c9 w9;go_simp
    refine YS 7 rfl (by kernel_rfl) (fun K hK=>?_);rw [Z0 (by rfl)];refine wp_load_mid 117 _ rfl g9 0 rfl (Q.map (Value.int .u8)) _ RG.out Tryz.underlying117 rfl (Wh _ (by rw [Zl];exact qW.out)) ?_;refine hK.out _ _ Z9 (fun YA=>?_);clear hK K YA;refine YS 8 rfl (by kernel_rfl) (fun K hK=>?_);go_simp;refine (Hn 0 Q y.out (by omega) qW.out).mono ?_;rintro e gC ⟨rfl,u,k11⟩;have n:=ZU u;have hN:=qd.out _ _ b4 _ _ (by decide) k11 hb1 Z9;have tQ:=ZU hN;refine hK.out _ _ hN (fun YA=>?_);clear hK K YA Z9 hN y RG u k11;refine ZR (by kernel_rfl) ?_ _
    try simp only [Act.put,WV,WU,WT]
    have SY:=ZU (Ho n.out (by omega))
    go_wp2_with fail
    refine SY.out.mono ?_;rintro e tP ⟨rfl,O,k12⟩;have e4:=qd.out _ _ b4 _ _ (by decide) k12 hb1 tQ.out;obtain ⟨m,-⟩:=HV.out.ended hv0 (by rw [hpw];exact O) (.inl hpw);have d:Gs κ w0 tP:=Gs.I1 O.ph.gb.1.gb (.inl rfl);have Z':=Of.out _ _ O.ph;have b13:=below_drewN' tP 1;have tN:Hid (tP.drew.heap[b4]?=some (.cells #[.int .i64 2,.int .i64 1,.int .i64 (z:Int),.int .i64 (ys.length:Int),.int .i64 Z] 60 (0,0))):=(b13.block b4 (Z3.mp e4).1).trans e4;have Z8:Hid (Sv κ { σ with k:=k+i+1+1+1,pw:=none } tP.drew):=m.below b13;have Z7:Hid (Gs κ w0 tP.drew):=d.trans (Gs.YZ b13);have N:Hid (Sl κ σ w0 v0 pB z o (.slice ea ys.length ec) vt vq cp ys (k+i+1+1+1) tP.drew):=Z'.below b13;have c0:=N.out.cells.1;clear SY O k12 e4 m d Z' b13 n tQ
    go_wp2_with fail
    refine ZX (S:=fun W=>W.cell? ⟨κ.sB,0,none⟩=some (.pointer (some ⟨κ.mB,0,none⟩))∧W.heap[b4]?=some (.cells #[.int .i64 2,.int .i64 1,.int .i64 (z:Int),.int .i64 (ys.length:Int),.int .i64 Z] 60 (0,0))) (by kernel_rfl) ⟨c0,tN.out⟩ (fun Z9=>?_);clear c0;generalize tP.drew=gB at *
    iterate 12 (refine Zf ?_ (by kernel_rfl) (fun _=>id) Z9 ?_ ?_;rotate_left;· intro w9 ZQ;have k0:=ZQ.1;have k1:w9.cell? ⟨b4,0,none⟩=some (.int .i64 2):=cell_of ZQ.2 0;have k2:w9.cell? ⟨b4,1,none⟩=some (.int .i64 1):=cell_of ZQ.2 1;have k3:w9.cell? ⟨b4,2,none⟩=some (.int .i64 (z:Int)):=cell_of ZQ.2 2;have k4:w9.cell? ⟨b4,3,none⟩=some (.int .i64 (ys.length:Int)):=cell_of ZQ.2 3;have k5:w9.cell? ⟨b4,4,none⟩=some (.int .i64 Z):=cell_of ZQ.2 4;clear ZQ;go_simp;try with_reducible rfl)
    refine Zf (.agg #[.int .i64 2,.int .i64 1,.int .i64 (z:Int),.int .i64 (ys.length:Int),.int .i64 Z]) (by kernel_rfl) (fun _=>id) Z9 ?_ ?_
    · intro w9 ZQ;have k0:=ZQ.1;have k1:w9.cell? ⟨b4,0,none⟩=some (.int .i64 2):=cell_of ZQ.2 0;have k2:w9.cell? ⟨b4,1,none⟩=some (.int .i64 1):=cell_of ZQ.2 1;have k3:w9.cell? ⟨b4,2,none⟩=some (.int .i64 (z:Int)):=cell_of ZQ.2 2;have k4:w9.cell? ⟨b4,3,none⟩=some (.int .i64 (ys.length:Int)):=cell_of ZQ.2 3;have k5:w9.cell? ⟨b4,4,none⟩=some (.int .i64 Z):=cell_of ZQ.2 4;clear ZQ;go_simp;try with_reducible rfl
    iterate 3 (refine Zf ?_ (by kernel_rfl) (fun _=>id) Z9 ?_ ?_;rotate_left;· intro w9 ZQ;have k0:=ZQ.1;have k1:w9.cell? ⟨b4,0,none⟩=some (.int .i64 2):=cell_of ZQ.2 0;have k2:w9.cell? ⟨b4,1,none⟩=some (.int .i64 1):=cell_of ZQ.2 1;have k3:w9.cell? ⟨b4,2,none⟩=some (.int .i64 (z:Int)):=cell_of ZQ.2 2;have k4:w9.cell? ⟨b4,3,none⟩=some (.int .i64 (ys.length:Int)):=cell_of ZQ.2 3;have k5:w9.cell? ⟨b4,4,none⟩=some (.int .i64 Z):=cell_of ZQ.2 4;clear ZQ;go_simp;try with_reducible rfl)
    have V:=ZU N.out.mm;have Zz:=ZU Z9;have Zy:b4≠κ.mB:=hb2;have U:Hid (∀(W:World) (j:Nat) (v:Value),(W.cell? ⟨κ.sB,0,none⟩=some (.pointer (some ⟨κ.mB,0,none⟩))∧W.heap[b4]?=some (.cells #[.int .i64 2,.int .i64 1,.int .i64 (z:Int),.int .i64 (ys.length:Int),.int .i64 Z] 60 (0,0)))→((W.setCell ⟨κ.mB,j,none⟩ v).cell? ⟨κ.sB,0,none⟩=some (.pointer (some ⟨κ.mB,0,none⟩))∧(W.setCell ⟨κ.mB,j,none⟩ v).heap[b4]?=some (.cells #[.int .i64 2,.int .i64 1,.int .i64 (z:Int),.int .i64 (ys.length:Int),.int .i64 Z] 60 (0,0)))):=fun W j v h=>⟨(ZP (w:=W) (a:=⟨κ.sB,0,none⟩) (Below.heap_setCell W ⟨κ.mB,j,none⟩ v κ.sB hne.1)).trans h.1,(Below.heap_setCell W ⟨κ.mB,j,none⟩ v b4 Zy).trans h.2⟩
    have M:=ZU (((((V.out.set 6 (.int .i64 2)).set 7 (.int .i64 1)).set 8 (.int .i64 (z:Int))).set 9 (.int .i64 (ys.length:Int))).set 10 (.int .i64 Z));have hN:=U.out _ 10 (.int .i64 Z) (U.out _ 9 (.int .i64 (ys.length:Int)) (U.out _ 8 (.int .i64 (z:Int)) (U.out _ 7 (.int .i64 1) (U.out _ 6 (.int .i64 2) Z9))));have HN:=ZU hN;have FIN:Hid (∀W,W=(((((((gB.setCell ⟨κ.mB,6,none⟩ (.int .i64 2)).setCell ⟨κ.mB,7,none⟩ (.int .i64 1)).setCell ⟨κ.mB,8,none⟩ (.int .i64 (z:Int))).setCell ⟨κ.mB,9,none⟩ (.int .i64 (ys.length:Int))).setCell ⟨κ.mB,10,none⟩ (.int .i64 Z))).setCell ⟨κ.mB,11,none⟩ (.slice (some ⟨κ.lb,lo,none⟩) (σ.full.length - o) (cp - o))).setCell ⟨κ.mB,12,none⟩ (.pointer none)→Gs κ w0 W∧∃l r,Sv κ { σ with k:=k+70,g:=2,b:=1,s:=(z:Int),l:=l,r:=r,off:=o,sn:=none,pw:=none } W):=fun W hW=>by
     have h9:=Z8.out.mM (cp:=cp) (g:=2) (b:=1) (s:=(z:Int)) (l:=(ys.length:Int)) (r:=Z) o (by show σ.off+o≤σ.full.length;omega) (fun iU ke cp' h'=>by
      have e1:=h'.cl 11 _ rfl;have e2:=N.out.mm.cl 11 _ rfl;rw [e1] at e2
      simp only [hoff,Si,Yj,XY,ZK,ZC] at e2
      exact e2.2.2)
     simp only [hoff,Za] at h9
     rw [←H.out] at h9;rw [hW];refine ⟨Z7.out.trans h9.2,(ys.length:Int),Z,?_⟩;obtain ⟨v1,v2,v3,v4,v5,v6,v7⟩:=h9.1;obtain ⟨vd,made,YL,a1,a2,a3,a4,a5⟩:=v3;exact ⟨v1,v2,⟨vd,made,YL,a1,a2,a3,⟨a4.1,by have:=a4.2;show made≤((k+70:Nat):Int);have Zw:made≤((k+i+1+1+1:Nat):Int):=this;omega⟩,a5⟩,v4,v5,(fun p hp=>by cases hp),v7⟩
    clear hN;refine YS 16 rfl (by kernel_rfl) (fun K hK=>?_);have t6:=V.out.cl 6 _ rfl;have t7:=V.out.cl 7 _ rfl;have t8:=V.out.cl 8 _ rfl;have t9:=V.out.cl 9 _ rfl;have t10:=V.out.cl 10 _ rfl;have f6:=V.out.fz 6;have f7:=V.out.fz 7;have f8:=V.out.fz 8;have f9:=V.out.fz 9;have f10:=V.out.fz 10;go_simp;refine hK.out _ _ HN.out (fun YA=>?_);clear hK K YA Z9 t6 t7 t8 t9 t10 f6 f7 f8 f9 f10 V N Z8 Z7 tN Zz;have Z9:=HN.out;clear HN;generalize (((((gB.setCell _ _).setCell _ _).setCell _ _).setCell _ _).setCell _ _)=fA at *
    iterate 2 (refine Zf ?_ (by kernel_rfl) (fun _=>id) Z9 ?_ ?_;rotate_left;· intro w9 ZQ;have k0:=ZQ.1;have k1:w9.cell? ⟨b4,0,none⟩=some (.int .i64 2):=cell_of ZQ.2 0;have k2:w9.cell? ⟨b4,1,none⟩=some (.int .i64 1):=cell_of ZQ.2 1;have k3:w9.cell? ⟨b4,2,none⟩=some (.int .i64 (z:Int)):=cell_of ZQ.2 2;have k4:w9.cell? ⟨b4,3,none⟩=some (.int .i64 (ys.length:Int)):=cell_of ZQ.2 3;have k5:w9.cell? ⟨b4,4,none⟩=some (.int .i64 Z):=cell_of ZQ.2 4;clear ZQ;go_simp;try with_reducible rfl)
    refine YS 19 rfl (by kernel_rfl) (fun K hK=>?_);have t11:=M.out.cl 11 _ rfl;have f11:=M.out.fz 11;have E:=ZU (M.out.set 11 (.slice (some ⟨κ.lb,lo,none⟩) (σ.full.length - o) (cp - o)));go_simp;have hN:=U.out _ 11 (.slice (some ⟨κ.lb,lo,none⟩) (σ.full.length - o) (cp - o)) Z9;refine hK.out _ _ hN (fun YA=>?_);clear hK K YA Z9 t11 f11 M;have Z9:=hN;clear hN;generalize fA.setCell _ _=eV at *
    iterate 2 (refine Zf ?_ (by kernel_rfl) (fun _=>id) Z9 ?_ ?_;rotate_left;· intro w9 ZQ;have k0:=ZQ.1;have k1:w9.cell? ⟨b4,0,none⟩=some (.int .i64 2):=cell_of ZQ.2 0;have k2:w9.cell? ⟨b4,1,none⟩=some (.int .i64 1):=cell_of ZQ.2 1;have k3:w9.cell? ⟨b4,2,none⟩=some (.int .i64 (z:Int)):=cell_of ZQ.2 2;have k4:w9.cell? ⟨b4,3,none⟩=some (.int .i64 (ys.length:Int)):=cell_of ZQ.2 3;have k5:w9.cell? ⟨b4,4,none⟩=some (.int .i64 Z):=cell_of ZQ.2 4;clear ZQ;go_simp;try with_reducible rfl)
    refine YS 22 rfl (by kernel_rfl) (fun K hK=>?_);have t12:=E.out.cl 12 _ rfl;have f12:=E.out.fz 12;go_simp;have hN:=U.out _ 12 (.pointer none) Z9;refine hK.out _ _ hN (fun YA=>?_);clear hK K YA Z9 t12 f12 E hN;refine ZR (by kernel_rfl) ?_ _
    try simp only [Act.put,WV,WU,WT]
    have F:=FIN.out _ rfl;exact ⟨rfl,_,by kernel_rfl,rfl,F⟩
  refine ZX (S:=fun W=>Sl κ σ w0 v0 pB z o (.slice ea ys.length ec) vt vq cp ys k W∧W.heap[b4]?=some (.cells #[.int .i64 2,.int .i64 1,.int .i64 (z:Int),.int .i64 (ys.length:Int),.int .i64 Z] 60 (0,0))) (by kernel_rfl) ⟨S3.out,H6.out⟩ (fun Z9=>?_);have hz3:w0.heap.size≤w2.drew.heap.size:=S3.out.ph.gb.1.size;clear S3 H6 T;generalize w2.drew=w3 at *
  iterate 6 (refine Zf ?_ (by kernel_rfl) (fun _=>id) Z9 ?_ ?_;rotate_left;· intro w9 ZQ;obtain ⟨-,k1,k2,-⟩:=ZQ.1.cells;have k7:w9.cell? ⟨b4,1,none⟩=some (.int .i64 1):=cell_of ZQ.2 1;clear ZQ;go_simp;try with_reducible rfl)
  refine QG 6 7 rfl rfl (by kernel_rfl) (fun K hK=>?_) (fun K hK=>?_)
  · go_simp
    refine (Ow.out _).mono ?_;rintro e w4 ⟨rfl,b9⟩;have hN:Sl κ σ w0 v0 pB z o (.slice ea ys.length ec) vt vq cp ys k w4∧w4.heap[b4]?=some (.cells #[.int .i64 2,.int .i64 1,.int .i64 (z:Int),.int .i64 (ys.length:Int),.int .i64 Z] 60 (0,0)):=⟨Z9.1.below b9,(b9.block b4 (Z3.mp Z9.2).1).trans Z9.2⟩;refine hK.out _ _ hN (fun YA=>?_);clear hK K YA Z9;refine YS 7 rfl (by kernel_rfl) (fun K hK=>?_);go_simp;have bA:Zi w4 (w4.alloc (.cells #[.int .i64 0,.int .i64 0] 111)):=Yy.alloc YR _;refine hK.out _ _ ⟨hN.1.below bA,(bA.block b4 (Z3.mp hN.2).1).trans hN.2⟩ (fun YA=>?_);clear hK K YA;refine YS 8 rfl (by kernel_rfl) (fun K hK=>?_);have X5:=St.new w4 #[.int .i64 0,.int .i64 0] 111;have t0:=X5.cl 0 _ rfl;have t1:=X5.cl 1 _ rfl;have f0:=X5.fz 0;have f1:=X5.fz 1;clear X5 bA;go_simp;have bB:Zi w4 (w4.alloc (.cells #[.int .i64 fi,.int .i64 κ.L] 111)):=Yy.alloc YR _;have J:=hN.1.cells.2.2.2.2.2.2.1;have e4:=(bB.block b4 (Z3.mp hN.2).1).trans hN.2;refine hK.out _ _ ⟨hN.1.below bB,e4⟩ (fun YA=>?_);clear hK K YA t0 t1 f0 f1;refine ZR (by kernel_rfl) ?_ _
    try simp only [Act.put,WV,WU,WT]
    exact R.out w4.heap.size _ _ _ _ _ _ _ _ _ _ _ _ _ _ _ _ _ _ _ _ (hN.1.below bB) e4 (by omega) (Zs w4 _)
  go_simp;have bA:Zi w3 (w3.alloc (.cells #[.int .i64 0,.int .i64 0] 111)):=Yy.alloc YR _;have hN:Sl κ σ w0 v0 pB z o (.slice ea ys.length ec) vt vq cp ys k (w3.alloc (.cells #[.int .i64 0,.int .i64 0] 111))∧(w3.alloc (.cells #[.int .i64 0,.int .i64 0] 111)).heap[b4]?=some (.cells #[.int .i64 2,.int .i64 1,.int .i64 (z:Int),.int .i64 (ys.length:Int),.int .i64 Z] 60 (0,0)):=⟨Z9.1.below bA,(bA.block b4 (Z3.mp Z9.2).1).trans Z9.2⟩;refine hK.out _ _ hN (fun YA=>?_);have J:=Z9.1.cells.2.2.2.2.2.2.1;have Cy:=ZU Z9;have X5:Hid ((w3.alloc (.cells #[.int .i64 0,.int .i64 0] 111)).heap[w3.heap.size]?=some (.cells #[.int .i64 0,.int .i64 0] 111 (0,0))):=Zs w3 _;have BA:=ZU bA;clear hK K YA Z9 bA;obtain ⟨b6,hb6⟩:∃b,b=w3.heap.size:=⟨_,rfl⟩;rw [←hb6] at X5;have Z6:b6<(w3.alloc (.cells #[.int .i64 0,.int .i64 0] 111)).heap.size:=by simp [hb6]
  rw [←hb6];have Z5:=ZU hb6;clear hb6;generalize w3.alloc _=w4 at *;refine YS 6 rfl (by kernel_rfl) (fun K hK=>?_);go_simp;refine (Ow.out _).mono ?_;rintro e w5 ⟨rfl,b9⟩;have yE:Sl κ σ w0 v0 pB z o (.slice ea ys.length ec) vt vq cp ys k w5∧w5.heap[b4]?=some (.cells #[.int .i64 2,.int .i64 1,.int .i64 (z:Int),.int .i64 (ys.length:Int),.int .i64 Z] 60 (0,0)):=⟨hN.1.below b9,(b9.block b4 (Z3.mp hN.2).1).trans hN.2⟩;have B5:=ZU (WD BA.out b9);have X6:Hid (w5.heap[b6]?=some (.cells #[.int .i64 0,.int .i64 0] 111 (0,0))):=(b9.block _ Z6).trans X5.out;refine hK.out _ _ yE (fun YA=>?_);clear hK K YA hN b9 X5 BA;refine YS 8 rfl (by kernel_rfl) (fun K hK=>?_);have t0:w5.cell? ⟨b6,0,none⟩=some (.int .i64 0):=cell_of X6.out 0;have t1:w5.cell? ⟨b6,1,none⟩=some (.int .i64 0):=cell_of X6.out 1;have f0:w5.frozen? ⟨b6,0,none⟩=false:=by simp [World.frozen?,X6.out]
  have f1:w5.frozen? ⟨b6,1,none⟩=false:=by simp [World.frozen?,X6.out]
  have X7:=ZU (Ro.set (Ro.set X6.out 0 (.int .i64 fi)) 1 (.int .i64 κ.L));have b8:Hid (Zi w3 ((w5.setCell ⟨b6,0,none⟩ (.int .i64 fi)).setCell ⟨b6,1,none⟩ (.int .i64 κ.L))):=by
   show Below _ _ _
   iterate 2 refine Below.setCell ?_ (U5 Z5.out.symm) _
   exact B5.out
  clear yE;go_simp;have hN:=Cy.out.1.below b8.out;have e4:=(b8.out.block b4 (Z3.mp Cy.out.2).1).trans Cy.out.2;refine hK.out _ _ ⟨hN,e4⟩ (fun YA=>?_);clear hK K YA t0 t1 f0 f1;refine ZR (by kernel_rfl) ?_ _
  try simp only [Act.put,WV,WU,WT]
  have e6:=Z5.out;exact R.out b6 _ _ _ _ _ _ _ _ _ _ _ _ _ _ _ _ _ _ _ _ hN e4 (by omega) X7.out
 have hz0:w0.heap.size≤w.drew.heap.size:=S1.out.ph.gb.1.size;refine ZX (S:=Sl κ σ w0 v0 pB z o (.slice ea ys.length ec) vt vq cp ys k) (by kernel_rfl) S1.out (fun Z9=>?_);clear S1 Hq;generalize w.drew=w1 at *
 iterate 8 (refine Zf ?_ (by kernel_rfl) (fun _=>id) Z9 ?_ ?_;rotate_left;· intro w9 ZQ;obtain ⟨k0,-,-,k3,k4,k5,-,-⟩:=ZQ.cells;have k6:=ZQ.mm.cl 6 _ rfl;rw [hg] at k6;clear ZQ;go_simp;try with_reducible rfl)
 refine Zf (.int .i64 2) (by kernel_rfl) (fun _=>id) Z9 ?_ ?_
 · intro w9 ZQ;obtain ⟨k0,-,-,k3,k4,k5,-,-⟩:=ZQ.cells;have k6:=ZQ.mm.cl 6 _ rfl;rw [hg] at k6;clear ZQ;go_simp;rfl
 refine Zf ?_ (by kernel_rfl) (fun _=>id) Z9 ?_ ?_
 rotate_left
 · intro w9 ZQ;obtain ⟨k0,-,-,k3,k4,k5,-,-⟩:=ZQ.cells;have k6:=ZQ.mm.cl 6 _ rfl;rw [hg] at k6;clear ZQ;go_simp;try with_reducible rfl
 refine Yp 11 ?v62 rfl (by kernel_rfl) (fun _=>id) Z9 ?Z4 ?_
 case Z4 =>
  intro w9 ZQ;obtain ⟨k0,-,-,k3,k4,k5,-,-⟩:=ZQ.cells;have k6:=ZQ.mm.cl 6 _ rfl;rw [hg] at k6;clear ZQ;go_simp
  try with_reducible rfl
 refine Yp 12 ?v63 rfl (by kernel_rfl) (fun _=>id) Z9 ?Z2 ?_
 case Z2 =>
  intro w9 ZQ;obtain ⟨k0,-,-,k3,k4,k5,-,-⟩:=ZQ.cells;have k6:=ZQ.mm.cl 6 _ rfl;rw [hg] at k6;clear ZQ;go_simp
  try with_reducible rfl
 refine Yp 13 ?v64 rfl (by kernel_rfl) (fun _=>id) Z9 ?ZZ ?_
 case ZZ =>
  intro w9 ZQ;obtain ⟨k0,-,-,k3,k4,k5,-,-⟩:=ZQ.cells;have k6:=ZQ.mm.cl 6 _ rfl;rw [hg] at k6;clear ZQ;go_simp
  try with_reducible rfl
 refine Yp 14 ?v65 rfl (by kernel_rfl) (fun _=>id) Z9 ?ZY ?_
 case ZY =>
  intro w9 ZQ;obtain ⟨k0,-,-,k3,k4,k5,-,-⟩:=ZQ.cells;have k6:=ZQ.mm.cl 6 _ rfl;rw [hg] at k6;clear ZQ;go_simp
  try with_reducible rfl
 refine Yp 15 ?v66 rfl (by kernel_rfl) (fun _=>id) Z9 ?ZW ?_
 case ZW =>
  intro w9 ZQ;obtain ⟨k0,-,-,k3,k4,k5,-,-⟩:=ZQ.cells;have k6:=ZQ.mm.cl 6 _ rfl;rw [hg] at k6;clear ZQ;go_simp
  try with_reducible rfl
 refine Yp 16 ?v67 rfl (by kernel_rfl) (fun _=>id) Z9 ?ZV ?_
 case ZV =>
  intro w9 ZQ;obtain ⟨k0,-,-,k3,k4,k5,-,-⟩:=ZQ.cells;have k6:=ZQ.mm.cl 6 _ rfl;rw [hg] at k6;clear ZQ;go_simp
  try with_reducible rfl
 refine Yp 17 ?v68 rfl (by kernel_rfl) (fun _=>id) Z9 ?ZT ?_
 case ZT =>
  intro w9 ZQ;obtain ⟨k0,-,-,k3,k4,k5,-,-⟩:=ZQ.cells;have k6:=ZQ.mm.cl 6 _ rfl;rw [hg] at k6;clear ZQ;go_simp
  try with_reducible rfl
 refine Yp 18 ?v69 rfl (by kernel_rfl) (fun _=>id) Z9 ?ZO ?_
 case ZO =>
  intro w9 ZQ;obtain ⟨k0,-,-,k3,k4,k5,-,-⟩:=ZQ.cells;have k6:=ZQ.mm.cl 6 _ rfl;rw [hg] at k6;clear ZQ;go_simp
  try with_reducible rfl
 refine Yp 19 ?v70 rfl (by kernel_rfl) (fun _=>id) Z9 ?ZN ?_
 case ZN =>
  intro w9 ZQ;obtain ⟨k0,-,-,k3,k4,k5,-,-⟩:=ZQ.cells;have k6:=ZQ.mm.cl 6 _ rfl;rw [hg] at k6;clear ZQ;go_simp
  try with_reducible rfl
 refine Yp 20 ?v71 rfl (by kernel_rfl) (fun _=>id) Z9 ?ZM ?_
 case ZM =>
  intro w9 ZQ;obtain ⟨k0,-,-,k3,k4,k5,-,-⟩:=ZQ.cells;have k6:=ZQ.mm.cl 6 _ rfl;rw [hg] at k6;clear ZQ;go_simp
  try with_reducible rfl
 refine Yp 21 ?v72 rfl (by kernel_rfl) (fun _=>id) Z9 ?ZL ?_
 case ZL =>
  intro w9 ZQ;obtain ⟨k0,-,-,k3,k4,k5,-,-⟩:=ZQ.cells;have k6:=ZQ.mm.cl 6 _ rfl;rw [hg] at k6;clear ZQ;go_simp
  try with_reducible rfl
 refine Yp 22 ?v73 rfl (by kernel_rfl) (fun _=>id) Z9 ?ZJ ?_
 case ZJ =>
  intro w9 ZQ;obtain ⟨k0,-,-,k3,k4,k5,-,-⟩:=ZQ.cells;have k6:=ZQ.mm.cl 6 _ rfl;rw [hg] at k6;clear ZQ;go_simp
  try with_reducible rfl
 refine Yp 23 ?v74 rfl (by kernel_rfl) (fun _=>id) Z9 ?ZI ?_
 case ZI =>
  intro w9 ZQ;obtain ⟨k0,-,-,k3,k4,k5,-,-⟩:=ZQ.cells;have k6:=ZQ.mm.cl 6 _ rfl;rw [hg] at k6;clear ZQ;go_simp
  try with_reducible rfl
 refine QG 10 26 rfl rfl (by kernel_rfl) (fun K hK=>?_) (fun K hK=>?_)
 · skip
   go_simp;refine (ly.out _ Z9).mono ?_;rintro e w2 ⟨rfl,b9⟩;have hN:=Z9.below b9;have Zv:w1.heap.size≤w2.heap.size:=b9.size;refine hK.out _ _ hN (fun YA=>?_);clear hK K YA Z9;have Z9:=hN;refine QG 24 26 rfl rfl (by kernel_rfl) (fun K hK=>?_) (fun K hK=>?_)
   · skip
     go_simp;refine (pZ.out _ Z9).mono ?_;rintro e w9 ⟨rfl,h9⟩;rw [h9];clear h9 w9;refine hK.out _ _ Z9 (fun YA=>?_);clear hK K YA;refine Zf (.agg #[.int .i64 2,.int .i64 1,.int .i64 (z:Int),.int .i64 (ys.length:Int),.int .i64 Z]) (by kernel_rfl) (fun _=>id) Z9 ?_ ?_
     · intro w9 ZQ;clear ZQ;go_simp;try with_reducible rfl
     refine YS 26 rfl (by kernel_rfl) (fun K hK=>?_);have hH2:=Z9;go_simp;have bA:Zi w2 (w2.alloc (.cells #[.int .i64 0,.int .i64 0,.int .i64 0,.int .i64 0,.int .i64 0] 60)):=Yy.alloc YR _;have hN:=Z9.below bA;refine hK.out _ _ hN (fun YA=>?_);clear hK K YA;clear Z9 hN bA;refine YS 27 rfl (by kernel_rfl) (fun K hK=>?_);have X5:=St.new w2 #[.int .i64 0,.int .i64 0,.int .i64 0,.int .i64 0,.int .i64 0] 60;have t0:=X5.cl 0 _ rfl;have t1:=X5.cl 1 _ rfl;have t2:=X5.cl 2 _ rfl;have t3:=X5.cl 3 _ rfl;have t4:=X5.cl 4 _ rfl;have f0:=X5.fz 0;have f1:=X5.fz 1;have f2:=X5.fz 2;have f3:=X5.fz 3;have f4:=X5.fz 4;clear X5;go_simp;have bB:Zi w2 (w2.alloc (.cells #[.int .i64 2,.int .i64 1,.int .i64 (z:Int),.int .i64 (ys.length:Int),.int .i64 Z] 60)):=Yy.alloc YR _;have ZH:=hH2.mm.lt;have J:=hH2.cells.2.2.2.2.2.2.1;have hN:=hH2.below bB;refine hK.out _ _ hN (fun YA=>?_);clear hK K YA t0 t1 t2 t3 t4 f0 f1 f2 f3 f4;refine ZR (by kernel_rfl) ?_ _
     try simp only [Act.put,WV,WU,WT]
     exact REST.out w2.heap.size _ _ _ _ _ _ _ _ _ _ _ _ _ _ _ _ _ _ _ _ _ _ _ _ _ _ _ hN (by omega) (by omega) (by omega) (Zs w2 _)
   skip
   have hH2:=Z9;go_simp;have bA:Zi w2 (w2.alloc (.cells #[.int .i64 0,.int .i64 0,.int .i64 0,.int .i64 0,.int .i64 0] 60)):=Yy.alloc YR _;have hN:=Z9.below bA;refine hK.out _ _ hN (fun YA=>?_);clear hK K YA;clear Z9;have Z9:=hN;clear hN bA;refine YS 24 rfl (by kernel_rfl) (fun K hK=>?_);go_simp;refine (pZ.out _ Z9).mono ?_;rintro e w9 ⟨rfl,h9⟩;rw [h9];clear h9 w9;refine hK.out _ _ Z9 (fun YA=>?_);clear hK K YA;refine Yp 25 (.agg #[.int .i64 2,.int .i64 1,.int .i64 (z:Int),.int .i64 (ys.length:Int),.int .i64 Z]) rfl (by kernel_rfl) (fun _=>id) Z9 ?ZG ?_
   case ZG =>
    intro w9 ZQ;clear ZQ;go_simp
    try with_reducible rfl
   clear Z9;refine YS 27 rfl (by kernel_rfl) (fun K hK=>?_);have X5:=St.new w2 #[.int .i64 0,.int .i64 0,.int .i64 0,.int .i64 0,.int .i64 0] 60;have t0:=X5.cl 0 _ rfl;have t1:=X5.cl 1 _ rfl;have t2:=X5.cl 2 _ rfl;have t3:=X5.cl 3 _ rfl;have t4:=X5.cl 4 _ rfl;have f0:=X5.fz 0;have f1:=X5.fz 1;have f2:=X5.fz 2;have f3:=X5.fz 3;have f4:=X5.fz 4;clear X5;go_simp;have bB:Zi w2 (w2.alloc (.cells #[.int .i64 2,.int .i64 1,.int .i64 (z:Int),.int .i64 (ys.length:Int),.int .i64 Z] 60)):=Yy.alloc YR _;have ZH:=hH2.mm.lt;have J:=hH2.cells.2.2.2.2.2.2.1;have hN:=hH2.below bB;refine hK.out _ _ hN (fun YA=>?_);clear hK K YA t0 t1 t2 t3 t4 f0 f1 f2 f3 f4;refine ZR (by kernel_rfl) ?_ _
   try simp only [Act.put,WV,WU,WT]
   exact REST.out w2.heap.size _ _ _ _ _ _ _ _ _ _ _ _ _ _ _ _ _ _ _ _ _ _ _ _ _ _ _ hN (by omega) (by omega) (by omega) (Zs w2 _)
 skip
 go_simp;have bA:Zi w1 (w1.alloc (.cells #[.int .i64 0,.int .i64 0,.int .i64 0,.int .i64 0,.int .i64 0] 60)):=Yy.alloc YR _;have hN:=Z9.below bA;refine hK.out _ _ hN (fun YA=>?_);clear hK K YA;have ZH:=Z9.mm.lt;have J:=Z9.cells.2.2.2.2.2.2.1;have Cy:=ZU Z9;have BA:=ZU bA;clear Z9 bA;have Z9:=hN;clear hN;have X5:Hid ((w1.alloc (.cells #[.int .i64 0,.int .i64 0,.int .i64 0,.int .i64 0,.int .i64 0] 60)).heap[w1.heap.size]?=some (.cells #[.int .i64 0,.int .i64 0,.int .i64 0,.int .i64 0,.int .i64 0] 60 (0,0))):=Zs w1 _;obtain ⟨b4,hb4⟩:∃b,b=w1.heap.size:=⟨_,rfl⟩;rw [←hb4] at X5;have If:b4<(w1.alloc (.cells #[.int .i64 0,.int .i64 0,.int .i64 0,.int .i64 0,.int .i64 0] 60)).heap.size:=by simp [hb4]
 rw [←hb4];have nO:=ZU hb4;clear hb4;generalize w1.alloc _=w2 at *;refine YS 10 rfl (by kernel_rfl) (fun K hK=>?_);go_simp;refine (ly.out _ Z9).mono ?_;rintro e w3 ⟨rfl,b9⟩;have hN:=Z9.below b9;have B3:=ZU (WD BA.out b9);have X6:Hid (w3.heap[b4]?=some (.cells #[.int .i64 0,.int .i64 0,.int .i64 0,.int .i64 0,.int .i64 0] 60 (0,0))):=(b9.block _ If).trans X5.out;refine hK.out _ _ hN (fun YA=>?_);clear hK K YA Z9 b9 X5;have Z9:=hN;clear hN;refine YS 24 rfl (by kernel_rfl) (fun K hK=>?_);go_simp;refine (pZ.out _ Z9).mono ?_;rintro e w9 ⟨rfl,h9⟩;rw [h9];clear h9 w9;refine hK.out _ _ Z9 (fun YA=>?_);clear hK K YA;refine Yp 25 (.agg #[.int .i64 2,.int .i64 1,.int .i64 (z:Int),.int .i64 (ys.length:Int),.int .i64 Z]) rfl (by kernel_rfl) (fun _=>id) Z9 ?ZF ?_
 case ZF =>
  intro w9 ZQ;clear ZQ;go_simp
  try with_reducible rfl
 refine YS 27 rfl (by kernel_rfl) (fun K hK=>?_);have hc4:=fun j=>cell_of X6.out j
 have t0:w3.cell? ⟨b4,0,none⟩=some (.int .i64 0):=hc4 0;have t1:w3.cell? ⟨b4,1,none⟩=some (.int .i64 0):=hc4 1;have t2:w3.cell? ⟨b4,2,none⟩=some (.int .i64 0):=hc4 2;have t3:w3.cell? ⟨b4,3,none⟩=some (.int .i64 0):=hc4 3;have t4:w3.cell? ⟨b4,4,none⟩=some (.int .i64 0):=hc4 4;have ff:∀j,w3.frozen? ⟨b4,j,none⟩=false:=fun j=>by simp [World.frozen?,X6.out]
 have f0:=ff 0;have f1:=ff 1;have f2:=ff 2;have f3:=ff 3;have f4:=ff 4;clear hc4 ff;have X7:=ZU (Ro.set (Ro.set (Ro.set (Ro.set (Ro.set X6.out 0 (.int .i64 2)) 1 (.int .i64 1)) 2 (.int .i64 (z:Int))) 3 (.int .i64 (ys.length:Int))) 4 (.int .i64 Z));have b8:Hid (Zi w1 (((((w3.setCell ⟨b4,0,none⟩ (.int .i64 2)).setCell ⟨b4,1,none⟩ (.int .i64 1)).setCell ⟨b4,2,none⟩ (.int .i64 (z:Int))).setCell ⟨b4,3,none⟩ (.int .i64 (ys.length:Int))).setCell ⟨b4,4,none⟩ (.int .i64 Z))):=by
  show Below _ _ _
  iterate 5 refine Below.setCell ?_ (U5 nO.out.symm) _
  exact B3.out
 clear Z9;go_simp;have hN:=Cy.out.below b8.out;refine hK.out _ _ hN (fun YA=>?_);clear hK K YA t0 t1 t2 t3 t4 f0 f1 f2 f3 f4;refine ZR (by kernel_rfl) ?_ _
 try simp only [Act.put,WV,WU,WT]
 have e4:=nO.out;exact REST.out b4 _ _ _ _ _ _ _ _ _ _ _ _ _ _ _ _ _ _ _ _ _ _ _ _ _ _ _ hN (by omega) (by omega) (by omega) X7.out
 end Go.Proofs.YtpmjnbmkippaiaaGreatDoor


