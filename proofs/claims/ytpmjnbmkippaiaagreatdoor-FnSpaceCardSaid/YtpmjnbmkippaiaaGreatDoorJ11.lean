import Derived.Test.YtpmjnbmkippaiaaGreatDoorJ10
set_option maxRecDepth 100000
set_option maxHeartbeats 16000000
set_option linter.unusedVariables false
set_option linter.unusedSimpArgs false
namespace Go.Proofs.YtpmjnbmkippaiaaGreatDoor
open Go.RowKit Go.Shelf
variable {C9 L S c:Int} {D:List Int} {Bd Bs N b base cap g:Nat} {x y:Value} {W W' w:World}
def Ke (W:World) (b:Nat) (c:Int):Prop:=b<W.heap.size∧W.cell? ⟨b,0,none⟩=some (.int .i64 1)∧W.cell? ⟨b,1,none⟩=some (.int .i64 0)∧W.cell? ⟨b,2,none⟩=some (.int .i64 0)∧W.cell? ⟨b,3,none⟩=some (.int .i64 23)∧W.cell? ⟨b,4,none⟩=some (.int .i64 c)
theorem Ke.below (h:Ke W b c) (hb:ZX W W'):Ke W' b c :=
 ⟨ZL h.1 hb.size,(hb.cell (p:=⟨b,0,none⟩) h.1).trans h.2.1,(hb.cell (p:=⟨b,1,none⟩) h.1).trans h.2.2.1,(hb.cell (p:=⟨b,2,none⟩) h.1).trans h.2.2.2.1,(hb.cell (p:=⟨b,3,none⟩) h.1).trans h.2.2.2.2.1,(hb.cell (p:=⟨b,4,none⟩) h.1).trans h.2.2.2.2.2⟩
theorem Ke.other (h:Ke W b c) (hg:W.grownBy W' (some g)) (hn:b≠g):Ke W' b c:=by
 have hbl:=hg.block b h.1 (fun e=>hn (by simpa using e));exact ⟨ZL h.1 hg.size,(Zj (a:=⟨b,0,none⟩) hbl).trans h.2.1,(Zj (a:=⟨b,1,none⟩) hbl).trans h.2.2.1,(Zj (a:=⟨b,2,none⟩) hbl).trans h.2.2.2.1,(Zj (a:=⟨b,3,none⟩) hbl).trans h.2.2.2.2.1,(Zj (a:=⟨b,4,none⟩) hbl).trans h.2.2.2.2.2⟩
theorem RJ (h:Ya W b x y) (hg:W.grownBy W' (some g)) (hn:b≠g):Ya W' b x y:=by
 have hbl:=hg.block b h.1 (fun e=>hn (by simpa using e));exact ⟨ZL h.1 hg.size,(Zj (a:=⟨b,0,none⟩) hbl).trans h.2.1,(Zj (a:=⟨b,1,none⟩) hbl).trans h.2.2⟩
theorem EC (h:WI W b x y) (hg:W.grownBy W' (some g)) (hn:b≠g):WI W' b x y:=by
 have hbl:=hg.block b h.1.1 (fun e=>hn (by simpa using e));exact ⟨RJ h.1 hg hn,(SD (a:=⟨b,0,none⟩) hbl).trans h.2.1,(SD (a:=⟨b,1,none⟩) hbl).trans h.2.2⟩
theorem Dc.other (h:Dc w S L W) (hg:W.grownBy W' (some g)) (hn:w.heap.size+2≤g):Dc w S L W' :=
 ⟨h.1.grown hg (by have:=h.lt;omega) (fun q hq=>by simp at hq;omega),RJ h.2.1 hg (by omega),EC h.2.2 hg (by omega)⟩
def Kd (w:World) (S L:Int) (Bd Bs g N cap:Nat) (C9:Int) (W:World):Prop :=
 Hid (Dc w S L W∧Ya W Bd (.slice (some ⟨g,0,none⟩) N cap) (.slice none 0 0)∧Ke W Bs C9)∧W.cell? ⟨w.heap.size,0,none⟩=some (.int .i64 S)∧W.cell? ⟨w.heap.size,1,none⟩=some (.int .i64 L) ∧
  W.cell? ⟨Bd,0,none⟩=some (.slice (some ⟨g,0,none⟩) N cap)∧W.cell? ⟨Bd,1,none⟩=some (.slice none 0 0) ∧
  W.cell? ⟨Bs,0,none⟩=some (.int .i64 1)∧W.cell? ⟨Bs,1,none⟩=some (.int .i64 0)∧W.cell? ⟨Bs,2,none⟩=some (.int .i64 0)∧W.cell? ⟨Bs,3,none⟩=some (.int .i64 23)∧W.cell? ⟨Bs,4,none⟩=some (.int .i64 C9)
theorem Kd.mk (h1:Dc w S L W) (h2:Ya W Bd (.slice (some ⟨g,0,none⟩) N cap) (.slice none 0 0)) (h3:Ke W Bs C9):Kd w S L Bd Bs g N cap C9 W :=
 ⟨⟨h1,h2,h3⟩,h1.2.1.2.1,h1.2.1.2.2,h2.2.1,h2.2.2,h3.2⟩
theorem Kd.below (h:Kd w S L Bd Bs g N cap C9 W) (hb:ZX W W'):Kd w S L Bd Bs g N cap C9 W' :=
 Kd.mk (h.1.out.1.below hb) (h.1.out.2.1.below hb) (h.1.out.2.2.below hb)
theorem Kd.other (h:Kd w S L Bd Bs g N cap C9 W) (hg:W.grownBy W' (some g)) (h1:w.heap.size+2≤g) (h2:Bd≠g) (h3:Bs≠g):Kd w S L Bd Bs g N cap C9 W' :=
 Kd.mk (h.1.out.1.other hg h1) (RJ h.1.out.2.1 hg h2) (h.1.out.2.2.other hg h3)
theorem Hb {C:List Int} {off:Nat} {cur:List Value} (ho:Own .u8 5 W base (.slice (some ⟨g,0,none⟩) N cap) D) (hD:D.length=N) (hgb:W.heap[g]?=some (.cells cur.toArray 5 (0,0))) (hoff:off+C.length≤N)
    (hg:W'.heap[g]?=some (.cells (splice cur off (C.map (Value.int .u8))).toArray 5 (0,0))):Own .u8 5 W' base (.slice (some ⟨g,0,none⟩) N cap) (splice D off C):=by
 rcases ho.2 with ⟨h,-⟩ | ⟨g',cap',cur',e,hb,h2,h3,h4,h5,h6⟩
 · simp at h
 simp only [Y4,Zo,JB] at e
 obtain ⟨⟨rfl,-⟩,-,rfl⟩:=e;rw [hgb] at h2
 simp only [Zo,Obj.cells.injEq] at h2
 obtain ⟨rfl,-⟩:=h2;rw [hD] at h3 h6;rw [WV] at h5 h6;have hcl:cur.length=cap:=by simpa using h5
 have hl:(splice D off C).length=N:=by rw [length_splice _ _ _ (by omega),hD]
 refine ⟨by rw [XJ,hl];omega,.inr ⟨g,cap,_,by rw [hl],hb,hg,by rw [hl];exact h3,h4,?_,?_⟩⟩
 · rw [Zm,length_splice _ _ _ (by rw [XJ];omega),hcl,WV]
 rw [hl,WV,Sb,←h6];apply CH;intro j;rw [XI _ _ _ (by rw [XU,XJ];simp;omega),CE]
 by_cases hj:j<N
 · rw [ZZ hj,XI _ _ _ (by rw [XJ];omega)]
   simp only [FO hj]
 rw [Z1 hj,Z1 (by omega),Z1 (by rw [XJ];omega),CE,Z1 hj]
theorem EB (w:World):Calls Tryz.prog 52 #[.int .i64 1] w fun e w'=>e=.returned (.int .i64 ((1:Nat):Int))∧w'=w:=by
 go_enter Tryz.func52,Tryz.ntmps52
 go_wp2;go_ret;exact ⟨rfl,rfl⟩
theorem wm (g c:Nat) (W:World):(Instr.arrayAt 117 (.slice (some ⟨g,0,none⟩) 64 c)).run Tryz.prog W=.ok (.pointer (some ⟨g,0,none⟩)) W:=by kernel_rfl
theorem AS (ho:Own .u8 5 W base (.slice (some ⟨g,0,none⟩) N cap) D):∃cur:List Value,W.heap[g]?=some (.cells cur.toArray 5 (0,0))∧cur.length=cap:=by
 rcases ho.2 with ⟨h,-⟩ | ⟨g',cap',cur,e,-,h2,h3,h4,h5,h6⟩
 · simp at h
 simp only [Y4,Zo,JB] at e
 obtain ⟨⟨rfl,-⟩,-,rfl⟩:=e;exact ⟨cur.toList,by simpa using h2,by simpa using h5⟩
theorem Np (w:World) (S L:Int) (hc:YO S L=true) (hT:TF w) (h0:0<w.heap.size) :
    Calls Tryz.prog 20 #[.agg #[.int .i64 S,.int .i64 L]] w fun e w'=>∃v',e=.returned (.agg #[v',.slice none 0 0])∧Own .u8 5 w' (w.heap.size+2) v' (Lx (Lw S L))∧ZX w w':=by
 have HC:Hid (YO S L=true):=hc;have HT:Hid (TF w):=hT;have H0:Hid (0<w.heap.size):=h0;obtain ⟨hk1,hk2,hk3⟩:=P8 hc;obtain ⟨⟨hS1,hS2⟩,hL1,hL2⟩:=(Zg S L).1 hc;have HK:Hid (2+2*(S+L)=((Lw S L:Nat):Int)):=hk1;have R:Hid (∀W,Calls Tryz.prog 44 #[.int .i64 (2+2*(S+L))] W fun e w'=>∃g cap,e=.returned (.agg #[.slice (some ⟨g,0,none⟩) (Lw S L*64) cap,.slice none 0 0])∧Own .u8 5 w' W.heap.size (.slice (some ⟨g,0,none⟩) (Lw S L*64) cap) (zeros (Lw S L*64))∧(Lw S L*64≤cap∧cap≤maxLen)∧ZX W w'):=by
  intro W;rw [HK.out];refine (Po W _).mono ?_;rintro e w' ⟨v',rfl,o,b⟩;have hn:pv ((Lw S L:Nat):Int)=Lw S L*64:=by unfold pv;rw [ZZ (by omega)];rfl
  rw [hn] at o
  rcases o.row with ⟨rfl,hz⟩ | ⟨g,c,rfl,hg,h1,h2⟩
  · have:=ZR List.length hz;rw [Zh] at this;simp at this;omega
  rw [Zh] at o h1 ⊢;exact ⟨g,c,rfl,o,⟨h1,h2⟩,b⟩
 obtain ⟨l,hl⟩:∃l:Nat,(l:Int)=S:=⟨S.toNat,by omega⟩;have hl1:1≤l:=by omega
 have kG:Hid (∀W,Calls Tryz.prog 49 #[.agg #[.int .i64 S,.int .i64 L],.int .i64 0] W (YI W (.agg #[.int .i64 ((2:Nat):Int),.int .i64 (l:Int)]))):=by
  intro W;have:=Ws W S L 0 HC.out ⟨by omega,by omega⟩;unfold VJ LM at this;rw [hl]
  simpa using this
 obtain ⟨N,hN⟩:∃N,N=Lw S L*64:=⟨_,rfl⟩;have G:(2+l)*64≤N:=by omega
 have Q:N≤1048576:=by omega
 have HN:Hid (N=Lw S L*64):=hN;rw [←hN] at R;clear hN hc hT h0 hk1 hl
 go_enter Tryz.func20,Tryz.ntmps20
 go_wp2_with fail
 have F0:Hid (Dc w S L ((w.alloc (.cells #[.int .i64 S,.int .i64 L] 25)).alloc (.cells #[.slice none 0 0,.slice none 0 0] 52))):=Dc.new _ _ _;generalize (w.alloc _).alloc _=w0 at *;refine (VE _ S L).mono ?_;rintro e w1 ⟨rfl,b1⟩;rw [HC.out];have F1:=Z3 (F0.out.below b1);clear b1 F0;obtain ⟨-,x0,x1⟩:=F1.out.2.1
 go_wp2_with fail
 refine (Tl _ S L hS1 hS2 hL1 hL2).mono ?_;rintro e w2 ⟨rfl,b2⟩;have F2:=Z3 (F1.out.below b2);clear b2 F1 x0 x1
 go_wp2_with fail
 refine (R.out _).mono ?_;rintro e w3 ⟨g,cap,rfl,o3,⟨hNc,hcm⟩,b3⟩;have F3:=Z3 (F2.out.below b3);have O3:Hid (Own .u8 5 w3 w2.heap.size (.slice (some ⟨g,0,none⟩) N cap) (zeros N)):=o3;have s2:=F2.out.lt;have hg2:w.heap.size+2≤g:=ZF s2 (o3.lt g rfl).1;have hg3:g<w3.heap.size:=(o3.lt g rfl).2;clear o3 b3 F2
 go_wp2_with fail
 have BA:Hid (ZX w3 (w3.alloc (.cells #[(.slice (some ⟨g,0,none⟩) N cap),.slice none 0 0] 52))):=ZJ.alloc ZT _;have V:Hid (Ya (w3.alloc (.cells #[(.slice (some ⟨g,0,none⟩) N cap),.slice none 0 0] 52)) w3.heap.size (.slice (some ⟨g,0,none⟩) N cap) (.slice none 0 0)):=Ya.new _ _ _ _;generalize w3.alloc _=wd at *;obtain ⟨Bd,Z⟩:∃Bd,Bd=w3.heap.size:=⟨_,rfl⟩;have Fd:=Z3 (F3.out.below BA.out);have r:Hid (Own .u8 5 wd (w.heap.size+2) (.slice (some ⟨g,0,none⟩) N cap) (zeros N)):=(O3.out.below BA.out).mono s2;have hBd:Bd≠g:=by omega
 rw [←Z] at V;refine (Pf _).mono ?_;rintro e w4 ⟨rfl,LL,b4⟩;have N4:Hid (Wx w4 (.slice (some ⟨wd.heap.size+1,0,none⟩) 1 1) [ZI]):=wu LL;have F4:=Z3 (Fd.out.below b4);have O4:=Z3 (r.out.below b4);have X4:=Z3 (V.out.below b4);have s:g<w4.heap.size:=(O4.out.lt g rfl).2;clear b4 LL Fd r V BA F3 O3;rw [←Z];clear Z
 go_wp2_with fail
 refine (Ip _ _ [ZI] N4.out rO).mono ?_;rintro e w5 ⟨v5,rfl,o5,b5⟩;have U:Own .u8 5 w5 w4.heap.size v5 I0:=o5;obtain ⟨g4,c4,hv5⟩:=Hc U (by rw [WX];omega);rw [WX] at hv5;subst hv5;have B:Hid (Own .u8 5 w5 w4.heap.size (.slice (some ⟨g4,0,none⟩) 23 c4) I0):=U;have F5:=Z3 (F4.out.below b5);have O5:=Z3 (O4.out.below b5);have X5:=Z3 (X4.out.below b5);have i:=b5.size;clear o5 U b5 N4 F4 O4 X4
 go_wp2_with fail
 refine (TC _ _ I0 B.out.rd wt (by rw [WX];omega) (HT.out.below H0.out F5.out.1)).mono ?_;rintro e wq ⟨rfl,hwq⟩;rw [hwq];clear hwq;have uM:Hid (∀W,Calls Tryz.prog 53 #[.agg #[.int .i64 1,.int .i64 0,.int .i64 0,.int .i64 23,.int .i64 ((4294967295 - Rp 4294967295 I0:Nat):Int)]] W fun e w'=>∃g c,e=.returned (.slice (some ⟨g,0,none⟩) 64 c)∧Own .u8 5 w' W.heap.size (.slice (some ⟨g,0,none⟩) 64 c) Pu∧ZX W w'):=by
  intro W;refine (UL W 1 0 0 23 _).mono ?_;rintro e w' ⟨v,rfl,o,b⟩;have o':Own .u8 5 w' W.heap.size v Pu:=o;obtain ⟨g,c,hv⟩:=Hc o' (by rw [Xx];omega);rw [Xx] at hv;subst hv;exact ⟨g,c,rfl,o',b⟩
 generalize ((4294967295 - Rp 4294967295 I0:Nat):Int)=C9 at *
 go_wp2_with fail
 have BA:Hid (ZX w5 (w5.alloc (.cells #[.int .i64 1,.int .i64 0,.int .i64 0,.int .i64 23,.int .i64 C9] 60))):=ZJ.alloc ZT _;have T:Hid (Ke (w5.alloc (.cells #[.int .i64 1,.int .i64 0,.int .i64 0,.int .i64 23,.int .i64 C9] 60)) w5.heap.size C9):=⟨by simp,by simp,by simp,by simp,by simp,by simp⟩;generalize w5.alloc _=w6 at *;obtain ⟨Bs,X⟩:∃Bs,Bs=w5.heap.size:=⟨_,rfl⟩;have P:Bs≠g:=by omega
 rw [←X] at T ⊢;have bP:ZX w6 w6.drew:=below_drewN' w6 1;have H:Hid (Kd w S L Bd Bs g N cap C9 w6.drew):=Kd.mk ((F5.out.below BA.out).below bP) ((X5.out.below BA.out).below bP) (T.out.below bP);have OP:Hid (Own .u8 5 w6.drew (w.heap.size+2) (.slice (some ⟨g,0,none⟩) N cap) (zeros N)):=(O5.out.below BA.out).below bP;have n:Hid (Own .u8 5 w6.drew w4.heap.size (.slice (some ⟨g4,0,none⟩) 23 c4) I0):=(B.out.below BA.out).below bP;clear bP BA T X5 O5 B F5 X;refine ZH (S:=Kd w S L Bd Bs g N cap C9) (by kernel_rfl) (H.out) (fun Z9=>?_);generalize w6.drew=p6 at *
 iterate 3 (refine ZW ?_ (by kernel_rfl) (fun _=>id) Z9 ?_ ?_;rotate_left;· intro w9 Z0;obtain ⟨-,k0,k1,k2,k3,k4,k5,k6,k7,k8⟩:=Z0;go_simp;try with_reducible rfl)
 refine ZG 4 ?v4 rfl (by kernel_rfl) (fun _=>id) Z9 ?hy4 ?_
 case hy4=>intro w9 Z0;obtain ⟨-,k0,k1,k2,k3,k4,k5,k6,k7,k8⟩:=Z0;go_simp;try with_reducible rfl
 refine ZG 5 ?v5 rfl (by kernel_rfl) (fun _=>id) Z9 ?FE ?_
 case FE=>intro w9 Z0;obtain ⟨-,k0,k1,k2,k3,k4,k5,k6,k7,k8⟩:=Z0;go_simp;try with_reducible rfl
 refine ZG 7 ?v6 rfl (by kernel_rfl) (fun _=>id) Z9 ?tV ?_
 case tV=>intro w9 Z0;obtain ⟨-,k0,k1,k2,k3,k4,k5,k6,k7,k8⟩:=Z0;go_simp;try with_reducible rfl
 refine ZU 3 rfl (by kernel_rfl) (fun K hK=>?_);go_simp;refine (kG.out _).mono ?_;rintro e F ⟨rfl,b6⟩;have A:Hid (Kd w S L Bd Bs g N cap C9 F):=Z9.below b6;have O6:=Z3 (OP.out.below b6);have m:=Z3 (n.out.below b6);clear b6 OP n;clear Z9;refine hK.out _ _ (A.out) (fun Z9=>?_);clear hK K;refine ZU 6 rfl (by kernel_rfl) (fun K hK=>?_);go_simp;refine (U8 _ g N cap 2 l G hl1 hNc Q).mono ?_;rintro e w7 ⟨rfl,b7⟩;have z:=Z3 (A.out.below b7);have O7:=Z3 (O6.out.below b7);have k:=Z3 (m.out.below b7);clear b7 O6 m A;obtain ⟨cur,hgb,TV⟩:=AS O7.out;have N7:Hid (∀j u,(I0.map (Value.int .u8))[j]?=some u→w7.cell? ((⟨g4,0,none⟩:Addr).add j)=some u):=Ud k.out rfl;have lf:Hid (w7.heap[g]?=some (.cells cur.toArray 5 (0,0))):=hgb;have O:Hid (cur.length=cap):=TV;clear hgb TV;clear Z9;refine hK.out _ _ (z.out) (fun Z9=>?_);clear hK K;refine ZU 8 rfl (by kernel_rfl) (fun K hK=>?_);refine VF rfl (.tmp 26) (.tmp 27) 22 22 rfl 5 Tryz.underlying22 yS _ _ _ _ _ _ rfl rfl g 128 cur 5 lf.out (I0.map (Value.int .u8)) (by rw [XJ,WX];exact (Wh (show 23≤l*64 by omega)).symm) (fun _=>⟨rfl,⟨g4,0,none⟩,rfl,N7.out⟩) (by rw [XJ,WX,O.out];omega) (Wf _ _) ?_;intro w8 kr M;have t:Hid (Kd w S L Bd Bs g N cap C9 w8):=z.out.other M.out hg2 hBd P;have O8:Hid (Own .u8 5 w8 (w.heap.size+2) (.slice (some ⟨g,0,none⟩) N cap) (splice (zeros N) 128 I0)):=Hb O7.out (Zh _) lf.out (by rw [WX];omega) kr.out;clear kr M O7 k N7 lf O z;clear Z9;refine hK.out _ _ (t.out) (fun Z9=>?_);clear hK K;refine ZP (by kernel_rfl) ?_ _
 try simp only [Act.put,Y8,Y7,Y6]
 clear Z9
 go_wp2_with fail
 have lZ:Hid (∀W,Own .u8 5 W (w.heap.size+2) (.slice (some ⟨g,0,none⟩) N cap) (splice (zeros N) 128 I0)→Calls Tryz.prog 51 #[(.slice (some ⟨g,0,none⟩) N cap),.int .i64 ((1:Nat):Int),.agg (Pu.map (Value.int .u8)).toArray] W fun e w'=>e=.returned (.tuple #[])∧Own .u8 5 w' (w.heap.size+2) (.slice (some ⟨g,0,none⟩) N cap) (Lx (Lw S L))∧W.grownBy w' (some g)):=by
  intro W hW;have hlz:(splice (zeros N) 128 I0).length=N:=by rw [length_splice _ _ _ (by rw [Zh,WX];omega),Zh]
  refine (Rj W (w.heap.size+2) g N cap 1 (splice (zeros N) 128 I0) Pu hW hlz Xx (by omega) Q).mono ?_;rintro e w' ⟨rfl,o,hg⟩;rw [show 1*64=64 from rfl,HN.out,ws _ (by omega)] at o;rw [HN.out];exact ⟨rfl,o,hg⟩
 have bP:ZX w8 w8.drew:=below_drewN' w8 1;have H:Hid (Kd w S L Bd Bs g N cap C9 w8.drew):=t.out.below bP;have OP:Hid (Own .u8 5 w8.drew (w.heap.size+2) (.slice (some ⟨g,0,none⟩) N cap) (splice (zeros N) 128 I0)):=O8.out.below bP;clear bP O8 t;refine ZH (S:=Kd w S L Bd Bs g N cap C9) (by kernel_rfl) (H.out) (fun Z9=>?_);generalize w8.drew=p8 at *
 iterate 4 (refine ZW ?_ (by kernel_rfl) (fun _=>id) Z9 ?_ ?_;rotate_left;· intro w9 Z0;obtain ⟨-,k0,k1,k2,k3,k4,k5,k6,k7,k8⟩:=Z0;go_simp;try with_reducible rfl)
 refine ZG 5 ?v11 rfl (by kernel_rfl) (fun _=>id) Z9 ?NH ?_
 case NH=>intro w9 Z0;obtain ⟨-,k0,k1,k2,k3,k4,k5,k6,k7,k8⟩:=Z0;go_simp;try with_reducible rfl
 refine ZU 4 rfl (by kernel_rfl) (fun K hK=>?_);go_simp;refine (EB _).mono ?_;rintro e wq ⟨rfl,hwq⟩;rw [hwq];clear hwq;clear Z9;refine hK.out _ _ (H.out) (fun Z9=>?_);clear hK K;refine ZU 6 rfl (by kernel_rfl) (fun K hK=>?_);go_simp;refine (uM.out _).mono ?_;rintro e J ⟨g9,c9,rfl,o9,b9⟩;have F9:Hid (Kd w S L Bd Bs g N cap C9 J):=Z9.below b9;have O9:=Z3 (OP.out.below b9);have RG:Hid (J.rangeAt g9 0 (Pu.map (Value.int .u8))):=fun j v hj=>by have:=Ud o9 rfl j v hj;rw [Sg] at this;exact this
 clear o9 b9 OP;clear Z9;refine hK.out _ _ (F9.out) (fun Z9=>?_);clear hK K;refine ZW (.pointer (some ⟨g9,0,none⟩)) (by kernel_rfl) (fun _=>id) Z9 ?_ ?_
 · intro w9 Z0;have dW:=wm g9 c9 w9;go_simp
 refine ZU 8 rfl (by kernel_rfl) (fun K hK=>?_);rw [ZZ (by rfl)];refine wp_load_mid 117 _ rfl g9 0 rfl (Pu.map (Value.int .u8)) _ RG.out Tryz.underlying117 rfl (YH _ (by rw [XJ,Xx])) ?_;clear Z9;refine hK.out _ _ (F9.out) (fun Z9=>?_);clear hK K;refine ZU 9 rfl (by kernel_rfl) (fun K hK=>?_);go_simp;refine (lZ.out _ O9.out).mono ?_;rintro e LE ⟨rfl,I,g10⟩;have Y:Hid (Kd w S L Bd Bs g N cap C9 LE):=F9.out.other g10 hg2 hBd P;have E:Hid (Own .u8 5 LE (w.heap.size+2) (.slice (some ⟨g,0,none⟩) N cap) (Lx (Lw S L))):=I;clear I g10 O9 F9 RG;clear Z9;refine hK.out _ _ (Y.out) (fun Z9=>?_);clear hK K;refine ZP (by kernel_rfl) ?_ _
 try simp only [Act.put,Y8,Y7,Y6]
 clear Z9;obtain ⟨-,-,-,k2,k3,-⟩:=Y.out;have zr:=Y.out.1.out.1.2.2.1.1;obtain ⟨⟨-,d0,d1⟩,f0,f1⟩:=Y.out.1.out.1.2.2;go_wp2;refine ZS (v:=.agg #[(.slice (some ⟨g,0,none⟩) N cap),.slice none 0 0]) (by simp [results,Tryz.results20,go_sem,d0,d1]) rfl ⟨_,rfl,?_,?_⟩
 · repeat (first | exact E.out | refine Own.Yk ?_ (show w.heap.size+1<w.heap.size+2 by omega) _)
 repeat (first | exact Y.out.1.out.1.1 | refine Below.setCell ?_ (by simp) _)
end Go.Proofs.YtpmjnbmkippaiaaGreatDoor


