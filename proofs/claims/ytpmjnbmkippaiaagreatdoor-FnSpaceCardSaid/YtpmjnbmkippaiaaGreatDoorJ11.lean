import Derived.Test.YtpmjnbmkippaiaaGreatDoorJ10
set_option maxRecDepth 100000
set_option maxHeartbeats 16000000
set_option linter.unusedVariables false
set_option linter.unusedSimpArgs false
namespace Go.Proofs.YtpmjnbmkippaiaaGreatDoor
open Go.RowKit Go.Shelf
variable {C9 L S c:Int} {D:List Int} {Bd Bs N b base cap g:Nat} {x y:Value} {W W' w:World}
def Hm (W:World) (b:Nat) (c:Int):Prop:=b<W.heap.size∧W.cell? ⟨b,0,none⟩=some (.int .i64 1)∧W.cell? ⟨b,1,none⟩=some (.int .i64 0)∧W.cell? ⟨b,2,none⟩=some (.int .i64 0)∧W.cell? ⟨b,3,none⟩=some (.int .i64 23)∧W.cell? ⟨b,4,none⟩=some (.int .i64 c)
theorem Hm.below (h:Hm W b c) (hb:Zi W W'):Hm W' b c :=
 ⟨ZY h.1 hb.size,(hb.cell (p:=⟨b,0,none⟩) h.1).trans h.2.1,(hb.cell (p:=⟨b,1,none⟩) h.1).trans h.2.2.1,(hb.cell (p:=⟨b,2,none⟩) h.1).trans h.2.2.2.1,(hb.cell (p:=⟨b,3,none⟩) h.1).trans h.2.2.2.2.1,(hb.cell (p:=⟨b,4,none⟩) h.1).trans h.2.2.2.2.2⟩
theorem Hm.other (h:Hm W b c) (hg:W.grownBy W' (some g)) (hn:b≠g):Hm W' b c:=by
 have hbl:=hg.block b h.1 (fun e=>hn (by simpa using e));exact ⟨ZY h.1 hg.size,(ZP (a:=⟨b,0,none⟩) hbl).trans h.2.1,(ZP (a:=⟨b,1,none⟩) hbl).trans h.2.2.1,(ZP (a:=⟨b,2,none⟩) hbl).trans h.2.2.2.1,(ZP (a:=⟨b,3,none⟩) hbl).trans h.2.2.2.2.1,(ZP (a:=⟨b,4,none⟩) hbl).trans h.2.2.2.2.2⟩
theorem Oa (h:Vg W b x y) (hg:W.grownBy W' (some g)) (hn:b≠g):Vg W' b x y:=by
 have hbl:=hg.block b h.1 (fun e=>hn (by simpa using e));exact ⟨ZY h.1 hg.size,(ZP (a:=⟨b,0,none⟩) hbl).trans h.2.1,(ZP (a:=⟨b,1,none⟩) hbl).trans h.2.2⟩
theorem CH (h:SU W b x y) (hg:W.grownBy W' (some g)) (hn:b≠g):SU W' b x y:=by
 have hbl:=hg.block b h.1.1 (fun e=>hn (by simpa using e));exact ⟨Oa h.1 hg hn,(Yq (a:=⟨b,0,none⟩) hbl).trans h.2.1,(Yq (a:=⟨b,1,none⟩) hbl).trans h.2.2⟩
theorem Bc.other (h:Bc w S L W) (hg:W.grownBy W' (some g)) (hn:w.heap.size+2≤g):Bc w S L W' :=
 ⟨h.1.grown hg (by have:=h.lt;omega) (fun q hq=>by simp at hq;omega),Oa h.2.1 hg (by omega),CH h.2.2 hg (by omega)⟩
def Hl (w:World) (S L:Int) (Bd Bs g N cap:Nat) (C9:Int) (W:World):Prop :=
 Hid (Bc w S L W∧Vg W Bd (.slice (some ⟨g,0,none⟩) N cap) (.slice none 0 0)∧Hm W Bs C9)∧W.cell? ⟨w.heap.size,0,none⟩=some (.int .i64 S)∧W.cell? ⟨w.heap.size,1,none⟩=some (.int .i64 L) ∧
  W.cell? ⟨Bd,0,none⟩=some (.slice (some ⟨g,0,none⟩) N cap)∧W.cell? ⟨Bd,1,none⟩=some (.slice none 0 0) ∧
  W.cell? ⟨Bs,0,none⟩=some (.int .i64 1)∧W.cell? ⟨Bs,1,none⟩=some (.int .i64 0)∧W.cell? ⟨Bs,2,none⟩=some (.int .i64 0)∧W.cell? ⟨Bs,3,none⟩=some (.int .i64 23)∧W.cell? ⟨Bs,4,none⟩=some (.int .i64 C9)
theorem Hl.mk (h1:Bc w S L W) (h2:Vg W Bd (.slice (some ⟨g,0,none⟩) N cap) (.slice none 0 0)) (h3:Hm W Bs C9):Hl w S L Bd Bs g N cap C9 W :=
 ⟨⟨h1,h2,h3⟩,h1.2.1.2.1,h1.2.1.2.2,h2.2.1,h2.2.2,h3.2⟩
theorem Hl.below (h:Hl w S L Bd Bs g N cap C9 W) (hb:Zi W W'):Hl w S L Bd Bs g N cap C9 W' :=
 Hl.mk (h.1.out.1.below hb) (h.1.out.2.1.below hb) (h.1.out.2.2.below hb)
theorem Hl.other (h:Hl w S L Bd Bs g N cap C9 W) (hg:W.grownBy W' (some g)) (h1:w.heap.size+2≤g) (h2:Bd≠g) (h3:Bs≠g):Hl w S L Bd Bs g N cap C9 W' :=
 Hl.mk (h.1.out.1.other hg h1) (Oa h.1.out.2.1 hg h2) (h.1.out.2.2.other hg h3)
theorem EU {C:List Int} {off:Nat} {cur:List Value} (ho:Own .u8 5 W base (.slice (some ⟨g,0,none⟩) N cap) D) (hD:D.length=N) (hgb:W.heap[g]?=some (.cells cur.toArray 5 (0,0))) (hoff:off+C.length≤N)
    (hg:W'.heap[g]?=some (.cells (splice cur off (C.map (Value.int .u8))).toArray 5 (0,0))):Own .u8 5 W' base (.slice (some ⟨g,0,none⟩) N cap) (splice D off C):=by
 rcases ho.2 with ⟨h,-⟩ | ⟨g',cap',cur',e,hb,h2,h3,h4,h5,h6⟩
 · simp at h
 simp only [ZC,ZK,Ym] at e
 obtain ⟨⟨rfl,-⟩,-,rfl⟩:=e;rw [hgb] at h2
 simp only [ZK,Obj.cells.injEq] at h2
 obtain ⟨rfl,-⟩:=h2;rw [hD] at h3 h6;rw [Yr] at h5 h6;have hcl:cur.length=cap:=by simpa using h5
 have hl:(splice D off C).length=N:=by rw [length_splice _ _ _ (by omega),hD]
 refine ⟨by rw [Zl,hl];omega,.inr ⟨g,cap,_,by rw [hl],hb,hg,by rw [hl];exact h3,h4,?_,?_⟩⟩
 · rw [ZI,length_splice _ _ _ (by rw [Zl];omega),hcl,Yr]
 rw [hl,Yr,Om,←h6];apply Wn;intro j;rw [UN _ _ _ (by rw [Zw,Zl];simp;omega),WJ]
 by_cases hj:j<N
 · rw [Z0 hj,UN _ _ _ (by rw [Zl];omega)]
   simp only [XP hj]
 rw [Z1 hj,Z1 (by omega),Z1 (by rw [Zl];omega),WJ,Z1 hj]
theorem CG (w:World):Calls Tryz.prog 52 #[.int .i64 1] w fun e w'=>e=.returned (.int .i64 ((1:Nat):Int))∧w'=w:=by
 go_enter Tryz.func52,Tryz.ntmps52
 go_wp2;go_ret;exact ⟨rfl,rfl⟩
theorem uV (g c:Nat) (W:World):(Instr.arrayAt 117 (.slice (some ⟨g,0,none⟩) 64 c)).run Tryz.prog W=.ok (.pointer (some ⟨g,0,none⟩)) W:=by kernel_rfl
theorem zh (ho:Own .u8 5 W base (.slice (some ⟨g,0,none⟩) N cap) D):∃cur:List Value,W.heap[g]?=some (.cells cur.toArray 5 (0,0))∧cur.length=cap:=by
 rcases ho.2 with ⟨h,-⟩ | ⟨g',cap',cur,e,-,h2,h3,h4,h5,h6⟩
 · simp at h
 simp only [ZC,ZK,Ym] at e
 obtain ⟨⟨rfl,-⟩,-,rfl⟩:=e;exact ⟨cur.toList,by simpa using h2,by simpa using h5⟩
theorem Ks (w:World) (S L:Int) (hc:Wp S L=true) (hT:PJ w) (h0:0<w.heap.size) :
    Calls Tryz.prog 20 #[.agg #[.int .i64 S,.int .i64 L]] w fun e w'=>∃v',e=.returned (.agg #[v',.slice none 0 0])∧Own .u8 5 w' (w.heap.size+2) v' (I1 (IZ S L))∧Zi w w':=by
 have HC:Hid (Wp S L=true):=hc;have HT:Hid (PJ w):=hT;have H0:Hid (0<w.heap.size):=h0;obtain ⟨hk1,hk2,hk3⟩:=Mz hc;obtain ⟨⟨hS1,hS2⟩,hL1,hL2⟩:=(Xk S L).1 hc;have HK:Hid (2+2*(S+L)=((IZ S L:Nat):Int)):=hk1;have R:Hid (∀W,Calls Tryz.prog 44 #[.int .i64 (2+2*(S+L))] W fun e w'=>∃g cap,e=.returned (.agg #[.slice (some ⟨g,0,none⟩) (IZ S L*64) cap,.slice none 0 0])∧Own .u8 5 w' W.heap.size (.slice (some ⟨g,0,none⟩) (IZ S L*64) cap) (zeros (IZ S L*64))∧(IZ S L*64≤cap∧cap≤maxLen)∧Zi W w'):=by
  intro W;rw [HK.out];refine (LY W _).mono ?_;rintro e w' ⟨v',rfl,o,b⟩;have hn:o0 ((IZ S L:Nat):Int)=IZ S L*64:=by unfold o0;rw [Z0 (by omega)];rfl
  rw [hn] at o
  rcases o.row with ⟨rfl,hz⟩ | ⟨g,c,rfl,hg,h1,h2⟩
  · have:=ZM List.length hz;rw [Xl] at this;simp at this;omega
  rw [Xl] at o h1 ⊢;exact ⟨g,c,rfl,o,⟨h1,h2⟩,b⟩
 obtain ⟨l,hl⟩:∃l:Nat,(l:Int)=S:=⟨S.toNat,by omega⟩;have hl1:1≤l:=by omega
 have kE:Hid (∀W,Calls Tryz.prog 49 #[.agg #[.int .i64 S,.int .i64 L],.int .i64 0] W (Wj W (.agg #[.int .i64 ((2:Nat):Int),.int .i64 (l:Int)]))):=by
  intro W;have:=Sr W S L 0 HC.out ⟨by omega,by omega⟩;unfold Ry Jg at this;rw [hl]
  simpa using this
 obtain ⟨N,hN⟩:∃N,N=IZ S L*64:=⟨_,rfl⟩;have G:(2+l)*64≤N:=by omega
 have Q:N≤1048576:=by omega
 have HN:Hid (N=IZ S L*64):=hN;rw [←hN] at R;clear hN hc hT h0 hk1 hl
 go_enter Tryz.func20,Tryz.ntmps20
 go_wp2_with fail
 have F0:Hid (Bc w S L ((w.alloc (.cells #[.int .i64 S,.int .i64 L] 25)).alloc (.cells #[.slice none 0 0,.slice none 0 0] 52))):=Bc.new _ _ _;generalize (w.alloc _).alloc _=w0 at *;refine (Rs _ S L).mono ?_;rintro e w1 ⟨rfl,b1⟩;rw [HC.out];have F1:=ZU (F0.out.below b1);clear b1 F0;obtain ⟨-,x0,x1⟩:=F1.out.2.1
 go_wp2_with fail
 refine (Pr _ S L hS1 hS2 hL1 hL2).mono ?_;rintro e w2 ⟨rfl,b2⟩;have F2:=ZU (F1.out.below b2);clear b2 F1 x0 x1
 go_wp2_with fail
 refine (R.out _).mono ?_;rintro e w3 ⟨g,cap,rfl,o3,⟨hNc,hcm⟩,b3⟩;have F3:=ZU (F2.out.below b3);have O3:Hid (Own .u8 5 w3 w2.heap.size (.slice (some ⟨g,0,none⟩) N cap) (zeros N)):=o3;have s2:=F2.out.lt;have hg2:w.heap.size+2≤g:=ZJ s2 (o3.lt g rfl).1;have hg3:g<w3.heap.size:=(o3.lt g rfl).2;clear o3 b3 F2
 go_wp2_with fail
 have BA:Hid (Zi w3 (w3.alloc (.cells #[(.slice (some ⟨g,0,none⟩) N cap),.slice none 0 0] 52))):=Yy.alloc YR _;have V:Hid (Vg (w3.alloc (.cells #[(.slice (some ⟨g,0,none⟩) N cap),.slice none 0 0] 52)) w3.heap.size (.slice (some ⟨g,0,none⟩) N cap) (.slice none 0 0)):=Vg.new _ _ _ _;generalize w3.alloc _=wd at *;obtain ⟨Bd,Z⟩:∃Bd,Bd=w3.heap.size:=⟨_,rfl⟩;have Fd:=ZU (F3.out.below BA.out);have r:Hid (Own .u8 5 wd (w.heap.size+2) (.slice (some ⟨g,0,none⟩) N cap) (zeros N)):=(O3.out.below BA.out).mono s2;have hBd:Bd≠g:=by omega
 rw [←Z] at V;refine (LP _).mono ?_;rintro e w4 ⟨rfl,Jf,b4⟩;have N4:Hid (SK w4 (.slice (some ⟨wd.heap.size+1,0,none⟩) 1 1) [Yx]):=uY Jf;have F4:=ZU (Fd.out.below b4);have O4:=ZU (r.out.below b4);have X4:=ZU (V.out.below b4);have s:g<w4.heap.size:=(O4.out.lt g rfl).2;clear b4 Jf Fd r V BA F3 O3;rw [←Z];clear Z
 go_wp2_with fail
 refine (FJ _ _ [Yx] N4.out qU).mono ?_;rintro e w5 ⟨v5,rfl,o5,b5⟩;have U:Own .u8 5 w5 w4.heap.size v5 I0:=o5;obtain ⟨g4,c4,hv5⟩:=EV U (by rw [Tu];omega);rw [Tu] at hv5;subst hv5;have B:Hid (Own .u8 5 w5 w4.heap.size (.slice (some ⟨g4,0,none⟩) 23 c4) I0):=U;have F5:=ZU (F4.out.below b5);have O5:=ZU (O4.out.below b5);have X5:=ZU (X4.out.below b5);have i:=b5.size;clear o5 U b5 N4 F4 O4 X4
 go_wp2_with fail
 refine (PI _ _ I0 B.out.rd uX (by rw [Tu];omega) (HT.out.below H0.out F5.out.1)).mono ?_;rintro e wq ⟨rfl,hwq⟩;rw [hwq];clear hwq;have tM:Hid (∀W,Calls Tryz.prog 53 #[.agg #[.int .i64 1,.int .i64 0,.int .i64 0,.int .i64 23,.int .i64 ((4294967295 - NS 4294967295 I0:Nat):Int)]] W fun e w'=>∃g c,e=.returned (.slice (some ⟨g,0,none⟩) 64 c)∧Own .u8 5 w' W.heap.size (.slice (some ⟨g,0,none⟩) 64 c) L5∧Zi W w'):=by
  intro W;refine (Qw W 1 0 0 23 _).mono ?_;rintro e w' ⟨v,rfl,o,b⟩;have o':Own .u8 5 w' W.heap.size v L5:=o;obtain ⟨g,c,hv⟩:=EV o' (by rw [UI];omega);rw [UI] at hv;subst hv;exact ⟨g,c,rfl,o',b⟩
 generalize ((4294967295 - NS 4294967295 I0:Nat):Int)=C9 at *
 go_wp2_with fail
 have BA:Hid (Zi w5 (w5.alloc (.cells #[.int .i64 1,.int .i64 0,.int .i64 0,.int .i64 23,.int .i64 C9] 60))):=Yy.alloc YR _;have T:Hid (Hm (w5.alloc (.cells #[.int .i64 1,.int .i64 0,.int .i64 0,.int .i64 23,.int .i64 C9] 60)) w5.heap.size C9):=⟨by simp,by simp,by simp,by simp,by simp,by simp⟩;generalize w5.alloc _=w6 at *;obtain ⟨Bs,X⟩:∃Bs,Bs=w5.heap.size:=⟨_,rfl⟩;have P:Bs≠g:=by omega
 rw [←X] at T ⊢;have bP:Zi w6 w6.drew:=below_drewN' w6 1;have H:Hid (Hl w S L Bd Bs g N cap C9 w6.drew):=Hl.mk ((F5.out.below BA.out).below bP) ((X5.out.below BA.out).below bP) (T.out.below bP);have OP:Hid (Own .u8 5 w6.drew (w.heap.size+2) (.slice (some ⟨g,0,none⟩) N cap) (zeros N)):=(O5.out.below BA.out).below bP;have n:Hid (Own .u8 5 w6.drew w4.heap.size (.slice (some ⟨g4,0,none⟩) 23 c4) I0):=(B.out.below BA.out).below bP;clear bP BA T X5 O5 B F5 X;refine ZX (S:=Hl w S L Bd Bs g N cap C9) (by kernel_rfl) (H.out) (fun Z9=>?_);generalize w6.drew=p6 at *
 iterate 3 (refine Zf ?_ (by kernel_rfl) (fun _=>id) Z9 ?_ ?_;rotate_left;· intro w9 ZQ;obtain ⟨-,k0,k1,k2,k3,k4,k5,k6,k7,k8⟩:=ZQ;go_simp;try with_reducible rfl)
 refine Yp 4 ?v4 rfl (by kernel_rfl) (fun _=>id) Z9 ?hy4 ?_
 case hy4=>intro w9 ZQ;obtain ⟨-,k0,k1,k2,k3,k4,k5,k6,k7,k8⟩:=ZQ;go_simp;try with_reducible rfl
 refine Yp 5 ?v5 rfl (by kernel_rfl) (fun _=>id) Z9 ?DN ?_
 case DN=>intro w9 ZQ;obtain ⟨-,k0,k1,k2,k3,k4,k5,k6,k7,k8⟩:=ZQ;go_simp;try with_reducible rfl
 refine Yp 7 ?v6 rfl (by kernel_rfl) (fun _=>id) Z9 ?sU ?_
 case sU=>intro w9 ZQ;obtain ⟨-,k0,k1,k2,k3,k4,k5,k6,k7,k8⟩:=ZQ;go_simp;try with_reducible rfl
 refine YS 3 rfl (by kernel_rfl) (fun K hK=>?_);go_simp;refine (kE.out _).mono ?_;rintro e F ⟨rfl,b6⟩;have A:Hid (Hl w S L Bd Bs g N cap C9 F):=Z9.below b6;have O6:=ZU (OP.out.below b6);have m:=ZU (n.out.below b6);clear b6 OP n;clear Z9;refine hK.out _ _ (A.out) (fun Z9=>?_);clear hK K;refine YS 6 rfl (by kernel_rfl) (fun K hK=>?_);go_simp;refine (QR _ g N cap 2 l G hl1 hNc Q).mono ?_;rintro e w7 ⟨rfl,b7⟩;have z:=ZU (A.out.below b7);have O7:=ZU (O6.out.below b7);have k:=ZU (m.out.below b7);clear b7 O6 m A;obtain ⟨cur,hgb,PQ⟩:=zh O7.out;have N7:Hid (∀j u,(I0.map (Value.int .u8))[j]?=some u→w7.cell? ((⟨g4,0,none⟩:Addr).add j)=some u):=Ys k.out rfl;have kZ:Hid (w7.heap[g]?=some (.cells cur.toArray 5 (0,0))):=hgb;have O:Hid (cur.length=cap):=PQ;clear hgb PQ;clear Z9;refine hK.out _ _ (z.out) (fun Z9=>?_);clear hK K;refine YS 8 rfl (by kernel_rfl) (fun K hK=>?_);refine Ru rfl (.tmp 26) (.tmp 27) 22 22 rfl 5 Tryz.underlying22 xZ _ _ _ _ _ _ rfl rfl g 128 cur 5 kZ.out (I0.map (Value.int .u8)) (by rw [Zl,Tu];exact (YC (show 23≤l*64 by omega)).symm) (fun _=>⟨rfl,⟨g4,0,none⟩,rfl,N7.out⟩) (by rw [Zl,Tu,O.out];omega) (Yi _ _) ?_;intro w8 kp M;have t:Hid (Hl w S L Bd Bs g N cap C9 w8):=z.out.other M.out hg2 hBd P;have O8:Hid (Own .u8 5 w8 (w.heap.size+2) (.slice (some ⟨g,0,none⟩) N cap) (splice (zeros N) 128 I0)):=EU O7.out (Xl _) kZ.out (by rw [Tu];omega) kp.out;clear kp M O7 k N7 kZ O z;clear Z9;refine hK.out _ _ (t.out) (fun Z9=>?_);clear hK K;refine ZR (by kernel_rfl) ?_ _
 try simp only [Act.put,WV,WU,WT]
 clear Z9
 go_wp2_with fail
 have lR:Hid (∀W,Own .u8 5 W (w.heap.size+2) (.slice (some ⟨g,0,none⟩) N cap) (splice (zeros N) 128 I0)→Calls Tryz.prog 51 #[(.slice (some ⟨g,0,none⟩) N cap),.int .i64 ((1:Nat):Int),.agg (L5.map (Value.int .u8)).toArray] W fun e w'=>e=.returned (.tuple #[])∧Own .u8 5 w' (w.heap.size+2) (.slice (some ⟨g,0,none⟩) N cap) (I1 (IZ S L))∧W.grownBy w' (some g)):=by
  intro W hW;have hlz:(splice (zeros N) 128 I0).length=N:=by rw [length_splice _ _ _ (by rw [Xl,Tu];omega),Xl]
  refine (NO W (w.heap.size+2) g N cap 1 (splice (zeros N) 128 I0) L5 hW hlz UI (by omega) Q).mono ?_;rintro e w' ⟨rfl,o,hg⟩;rw [show 1*64=64 from rfl,HN.out,uW _ (by omega)] at o;rw [HN.out];exact ⟨rfl,o,hg⟩
 have bP:Zi w8 w8.drew:=below_drewN' w8 1;have H:Hid (Hl w S L Bd Bs g N cap C9 w8.drew):=t.out.below bP;have OP:Hid (Own .u8 5 w8.drew (w.heap.size+2) (.slice (some ⟨g,0,none⟩) N cap) (splice (zeros N) 128 I0)):=O8.out.below bP;clear bP O8 t;refine ZX (S:=Hl w S L Bd Bs g N cap C9) (by kernel_rfl) (H.out) (fun Z9=>?_);generalize w8.drew=p8 at *
 iterate 4 (refine Zf ?_ (by kernel_rfl) (fun _=>id) Z9 ?_ ?_;rotate_left;· intro w9 ZQ;obtain ⟨-,k0,k1,k2,k3,k4,k5,k6,k7,k8⟩:=ZQ;go_simp;try with_reducible rfl)
 refine Yp 5 ?v11 rfl (by kernel_rfl) (fun _=>id) Z9 ?KI ?_
 case KI=>intro w9 ZQ;obtain ⟨-,k0,k1,k2,k3,k4,k5,k6,k7,k8⟩:=ZQ;go_simp;try with_reducible rfl
 refine YS 4 rfl (by kernel_rfl) (fun K hK=>?_);go_simp;refine (CG _).mono ?_;rintro e wq ⟨rfl,hwq⟩;rw [hwq];clear hwq;clear Z9;refine hK.out _ _ (H.out) (fun Z9=>?_);clear hK K;refine YS 6 rfl (by kernel_rfl) (fun K hK=>?_);go_simp;refine (tM.out _).mono ?_;rintro e J ⟨g9,c9,rfl,o9,b9⟩;have F9:Hid (Hl w S L Bd Bs g N cap C9 J):=Z9.below b9;have O9:=ZU (OP.out.below b9);have RG:Hid (J.rangeAt g9 0 (L5.map (Value.int .u8))):=fun j v hj=>by have:=Ys o9 rfl j v hj;rw [YY] at this;exact this
 clear o9 b9 OP;clear Z9;refine hK.out _ _ (F9.out) (fun Z9=>?_);clear hK K;refine Zf (.pointer (some ⟨g9,0,none⟩)) (by kernel_rfl) (fun _=>id) Z9 ?_ ?_
 · intro w9 ZQ;have dW:=uV g9 c9 w9;go_simp
 refine YS 8 rfl (by kernel_rfl) (fun K hK=>?_);rw [Z0 (by rfl)];refine wp_load_mid 117 _ rfl g9 0 rfl (L5.map (Value.int .u8)) _ RG.out Tryz.underlying117 rfl (Wi _ (by rw [Zl,UI])) ?_;clear Z9;refine hK.out _ _ (F9.out) (fun Z9=>?_);clear hK K;refine YS 9 rfl (by kernel_rfl) (fun K hK=>?_);go_simp;refine (lR.out _ O9.out).mono ?_;rintro e I9 ⟨rfl,I,g10⟩;have Y:Hid (Hl w S L Bd Bs g N cap C9 I9):=F9.out.other g10 hg2 hBd P;have E:Hid (Own .u8 5 I9 (w.heap.size+2) (.slice (some ⟨g,0,none⟩) N cap) (I1 (IZ S L))):=I;clear I g10 O9 F9 RG;clear Z9;refine hK.out _ _ (Y.out) (fun Z9=>?_);clear hK K;refine ZR (by kernel_rfl) ?_ _
 try simp only [Act.put,WV,WU,WT]
 clear Z9;obtain ⟨-,-,-,k2,k3,-⟩:=Y.out;have zr:=Y.out.1.out.1.2.2.1.1;obtain ⟨⟨-,d0,d1⟩,f0,f1⟩:=Y.out.1.out.1.2.2;go_wp2;refine ZW (v:=.agg #[(.slice (some ⟨g,0,none⟩) N cap),.slice none 0 0]) (by simp [results,Tryz.results20,go_sem,d0,d1]) rfl ⟨_,rfl,?_,?_⟩
 · repeat (first | exact E.out | refine Own.VA ?_ (show w.heap.size+1<w.heap.size+2 by omega) _)
 repeat (first | exact Y.out.1.out.1.1 | refine Below.setCell ?_ (by simp) _)
end Go.Proofs.YtpmjnbmkippaiaaGreatDoor


