import Derived.Test.YtpmjnbmkippaiaaGreatDoorJ04
import Derived.Lib.AppendZeros
set_option maxRecDepth 100000
set_option maxHeartbeats 16000000
set_option linter.unusedVariables false
set_option linter.unusedSimpArgs false
namespace Go.Proofs.YtpmjnbmkippaiaaGreatDoor
open Go.RowKit Go.Shelf
variable {L S b c g l s:Int} {ps:List (Int × List Int)} {ys zs:List Int} {R ns:List Nd} {B ca cb dl k lo n:Nat} {ao bo:Option Addr} {row:Option Nat} {e:TypeId} {u v v1 v2 vt:Value} {W W' w w':World}
def PV (v:Value):Prop:=∀n c,v=.slice none n c→n=0∧c=0
theorem XU.qe (h:XU e w lo v ns):PV v:=by
 intro n c hv
 rcases h.2 with ⟨rfl,_⟩ | ⟨g,cap,cur,rfl,_⟩
 · simp only [ZC,Q0] at hv
   exact ⟨hv.1.symm,hv.2.symm⟩
 simp at hv
theorem An {L j:Nat} (h:(YE (R.take L))[j]?=some u):(YE R)[j]?=some u:=by
 have e:YE R=YE (R.take L)++YE (R.drop L):=by rw [←Wc,YQ]
 rw [e,Zy (Zh.1 h).1];exact h
theorem SK.KS {c:Nat} (h:SK w (.slice ao R.length c) R):∀ad,ao=some ad→∀j u,(YE R)[j]?=some u→w.cell? (ad.add j)=some u:=by
 obtain ⟨oY,c',e,-,-,h3⟩:=h
 simp only [ZC] at e
 obtain ⟨rfl,-,rfl⟩:=e;intro ad had j u hu
 rcases h3 with rfl | ⟨b,o,rfl,hb,hc⟩
 · simp [YE] at hu
 obtain rfl:=Zc had;have hj:j<R.length*7:=by have:=(Zh.1 hu).1;rw [Xw] at this;exact this
 have h7:j % 7<7:=Wg _ (by decide);have hr:=NA R (j / 7) (j % 7) (by omega) h7;rw [show j / 7*7+j % 7=j by omega,hu] at hr;have hcc:=hc (j / 7) (by omega);rw [YY];have e:o+j=o+j / 7*7+j % 7:=by omega
 rw [e];clear e hu hj;generalize j % 7=r at *
 match r,h7 with
 | 0,_=>rw [Yj,hcc.c0];exact hr.symm
 | 1,_=>rw [hcc.c1];exact hr.symm
 | 2,_=>rw [hcc.c2];exact hr.symm
 | 3,_=>rw [hcc.c3];exact hr.symm
 | 4,_=>rw [hcc.c4];exact hr.symm
 | 5,_=>rw [hcc.c5];exact hr.symm
 | 6,_=>rw [hcc.c6];exact hr.symm
theorem KQ (R:List Nd):∀u ∈ YE R,u.oneCell'=true:=by
 intro u hu;unfold YE at hu;obtain ⟨n,_,hn⟩:=List.mem_flatMap.1 hu;exact Pb n u hn
theorem wT (ao:Option Addr) (n c L:Nat) (h1:L≤n) (h2:n≤c) (W:World):(Instr.slice 61 (.slice ao n c) none (some (.int .i64 (L:Int))) none).run Tryz.prog W=.ok (.slice ao L c) W:=by
 have h:(0:Int)≤(L:Int):=by omega
 have h':(L:Int)≤(c:Int):=by omega
 have he:Tryz.prog.elem 61=147:=by kernel_rfl
 rw [run_slice_h W 61 ao n c (by rw [he];exact Tryz.underlying61) .i64 (L:Int) h h',he];go_simp
theorem wR (ao:Option Addr) (n c L:Nat) (h1:L≤n) (W:World):(Instr.slice 61 (.slice ao n c) (some (.int .i64 (L:Int))) none none).run Tryz.prog W=.ok (.slice (if c=L then ao else ao.map (·.add (L*7))) (n - L) (c - L)) W:=by
 have h:(0:Int)≤(L:Int):=by omega
 have h':(L:Int)≤(n:Int):=by omega
 have he:Tryz.prog.elem 61=147:=by kernel_rfl
 rw [run_slice_l W 61 ao n c (by rw [he];exact Tryz.underlying61) .i64 (L:Int) h h',he];go_simp
theorem KP {c:Nat} (h:SK w (.slice ao R.length c) R) (hn:PV (.slice ao R.length c)) (L:Nat) (hL:L≤R.length) :
    ∃a2,(∀W,(Instr.slice 61 (.slice ao R.length c) (some (.int .i64 (L:Int))) none none).run Tryz.prog W=.ok (.slice a2 (R.length - L) (c - L)) W)∧SK w (.slice a2 (R.length - L) (c - L)) (R.drop L)∧PV (.slice a2 (R.length - L) (c - L)):=by
 obtain ⟨oY,c',e,h1,h2,h3⟩:=h
 simp only [ZC] at e
 obtain ⟨rfl,-,rfl⟩:=e;refine ⟨if c=L then ao else ao.map (·.add (L*7)),wR ao _ c L hL,⟨_,_,by rw [ZS],by rw [ZS];omega,by omega,?_⟩,?_⟩
 · rcases h3 with rfl | ⟨b,o,rfl,hb,hc⟩
   · exact .inl (by simp)
   by_cases hcl:c=L
   · exact .inl (Xx (by omega))
   refine .inr ⟨b,o+L*7,by rw [Z1 hcl,Sy,YY],hb,fun i hi=>?_⟩;rw [ZS] at hi;have:=hc (L+i) (by omega);have e1:Ye (R.drop L) i=Ye R (L+i):=by unfold Ye;simp [List.getD]
   rw [e1,show o+L*7+i*7=o+(L+i)*7 by omega];exact this
 intro n' c2 hv
 simp only [ZC] at hv
 obtain ⟨ha,rfl,rfl⟩:=hv;have hao:ao=none:=by
  by_cases hcl:c=L
  · rw [Z0 hcl] at ha;exact ha
  rw [Z1 hcl] at ha;simpa using ha
 subst hao;have:=hn _ _ rfl;omega
theorem wP (ns:List Nd) (es:List Ef):(LJ ns es).2.length≤ns.length:=by
 have:∀(es:List Ef) (st:List Nd × List Nd),(es.foldl Ea st).2.length≤st.2.length:=by
  intro es
  induction es with
  | nil=>exact fun st=>YR
  | cons e es ih =>
   intro st;rw [WS];refine ZJ (ih _) ?_;unfold Ea;rw [ZS];omega
 exact this es ([],ns)
theorem Nt.grown {g:Nat} {n:Ef} (h:Nt w B n) (hg:w.grownBy w' (some g)) (hne:B≠g):Nt w' B n:=by
 have e:=hg.block B h.lt (by simpa using hne);have cc:∀i,w'.cell? ⟨B,i,none⟩=w.cell? ⟨B,i,none⟩:=fun i=>by simp [World.cell?,e]
 have hs:=hg.size;exact ⟨ZY h.lt hs,(cc _).trans h.c0,(cc _).trans h.c1,(cc _).trans h.c2,(cc _).trans h.c3,(cc _).trans h.c4,(cc _).trans h.c5,(cc _).trans h.c6,(cc _).trans h.c7⟩
structure iJ (w:World) (g C:Nat) (st:List Nd × List Nd) (v:Value) (z:Int) (vx:Value) (vo vr:Value) (W:World):Prop where
 own:W.ownsRow (w.heap.size+3) 147 7 vo st.1.length (YE st.1)
 head:vo=.slice (some ⟨g,0,none⟩) st.1.length C
 rest:SK w vr st.2
 nil:PV vr
 below:Below w.heap.size w W
 box:tI w.heap.size v z vx W
theorem JX (w:World) (v:Value) (ns:List Nd) (z:Int) (vx:Value) (es:List Ef) (h:SK w v ns) (hnil:PV v) (hx:Gf w vx es)
    (hsz:∀i,(Ye ns i).path.size≤1048576∧(Ye ns i).data.size≤1048576) (hsx:∀i,(Vr es i).nd.path.size≤1048576∧(Vr es i).nd.data.size≤1048576) :
    Calls Tryz.prog 128 #[.agg #[v],.agg #[.int .i64 z,vx]] w fun e w'=>∃v',e=.returned (.agg #[v'])∧XU 147 w' w.heap.size v' (PO ns z es)∧Below w.heap.size w w':=by
 obtain ⟨i0,hi,hz0,hz1,hz2⟩:=YM Tryz.Mi;obtain ⟨ao,ca,rfl,_,_⟩:=h.len;obtain ⟨xo,cx,rfl,_,_⟩:=hx.len;have HR:=ZU h;have HX:=ZU hx;have HN:=ZU hnil;have HZ:=ZU hsz;have rV:=ZU hsx;have B0:Hid (Below w.heap.size w (((w.alloc (.cells #[.slice ao ns.length ca] 63)).alloc (.cells #[.int .i64 z,.slice xo es.length cx] 192)).alloc (.cells #[.slice none 0 0] 63))):=((Yy.alloc YR _).alloc (by simp) _).alloc (by simp;omega) _;have X0:Hid (tI w.heap.size (.slice ao ns.length ca) z (.slice xo es.length cx) (((w.alloc (.cells #[.slice ao ns.length ca] 63)).alloc (.cells #[.int .i64 z,.slice xo es.length cx] 192)).alloc (.cells #[.slice none 0 0] 63))):=tI.new _ _ _ _;clear h hx hsz hsx hnil
 go_enter Tryz.func128,Tryz.ntmps128
 go_wp2_with fail
 generalize ((w.alloc _).alloc _).alloc _=w0 at *;refine (UL _ _ ns (HR.out.below B0.out) HZ.out).mono ?_;rintro e w1 ⟨rfl,b1⟩;have B1:=ZU (WD B0.out b1);have X1:=ZU (X0.out.below b1 X0.out.size);clear b1 X0 B0
 by_cases hok:WE ns=true
 rotate_left
 · have hok':WE ns=false:=by simpa using hok
   have HT:Hid (PO ns z es=[]):=by show _=_;unfold PO;rw [hok'];rfl
   rw [hok'];clear hok hok';have c0:=X1.out.r.cell;have f0:=X1.out.r.frozen;go_wp2;refine ZW (v:=.agg #[.slice none 0 0]) (by simp [results,Tryz.results128,go_sem,c0]) rfl ⟨_,rfl,(by rw [HT.out];exact ZH _ _ _ _),?_⟩
   repeat (first | exact B1.out | refine Below.setCell ?_ (by simp;try omega) _)
 rw [hok];have YU:=X1.out.x.cells
 go_wp2_with fail
 clear YU;refine (Pv _ _ _ es (HX.out.below B1.out) rV.out).mono ?_;rintro e w2 ⟨rfl,b2⟩;have B2:=ZU (WD B1.out b2);have X2:=ZU (X1.out.below b2 X1.out.size);clear b2 X1 B1
 by_cases qh:Tl z es=true
 rotate_left
 · have U:Tl z es=false:=by simpa using qh
   have HT:Hid (PO ns z es=[]):=by show _=_;unfold PO;rw [U];simp
   rw [U];clear qh U hok;have c0:=X2.out.r.cell;have f0:=X2.out.r.frozen;go_wp2;refine ZW (v:=.agg #[.slice none 0 0]) (by simp [results,Tryz.results128,go_sem,c0]) rfl ⟨_,rfl,(by rw [HT.out];exact ZH _ _ _ _),?_⟩
   repeat (first | exact B2.out | refine Below.setCell ?_ (by simp;try omega) _)
 have hn1:=Oh hok;have he1:=(FO qh).2;have HT:Hid (PO ns z es=BI ns es):=by show _=_;unfold PO;rw [hok,qh];rfl
 have HA:=ZU (K0 hok);have HE:=ZU (xm (FO qh).1);rw [qh];clear hok qh;have ct:=X2.out.t.cell;obtain ⟨y0,y1⟩:=X2.out.x.cells;have s2:=X2.out.size;generalize hen:es.length=n at *;have HP:=ZU hen;clear hen;generalize hnn:ns.length=m at *;have HM:=ZU hnn;clear hnn
 go_wp2_with (at_make;go_must (refine Vh _ rfl _ _ 61 rfl (w.heap.size+3) 147 i0 (.agg #[.string ByteArray.empty,.string ByteArray.empty,.int .i64 0,.int .i64 0,.int .i64 0,.int .i64 0,.int .i64 0]) 7 Tryz.underlying61 hi hz0 hz1 _ _ _ (m+n) rfl rfl ?c0 ?b2 ?b3 ?b4 ?_))
 case c0=>omega
 case b2=>rw [hz2];omega
 case b3=>unfold maxLen;omega
 case b4=>exact s2
 intro w3 ho3 hg3;have BG:=ZU (Yy.grown hg3 YR (fun q hq=>by simp at hq));have S3:Hid (iJ w w2.heap.size (m+n) (LJ ns (es.take 0)) (.slice ao m ca) z (.slice xo n cx) (.slice (some ⟨w2.heap.size,0,none⟩) 0 (m+n)) (.slice ao m ca) w3):=⟨ho3,rfl,HR.out,HN.out,WD B2.out BG.out,X2.out.below BG.out s2⟩;clear ho3 hg3 BG ct y0 y1;have ct:=S3.out.box.t.cell;obtain ⟨y0,y1⟩:=S3.out.box.x.cells;generalize hg:w2.heap.size=g at *;clear X2 B2 hg;go_wp2
 go_loopw [5,6,33] (fun vo vr vk wr=>∃k:Nat,k≤n∧vk=.int .i64 k∧Hid (iJ w g (m+n) (LJ ns (es.take k)) (.slice ao m ca) z (.slice xo n cx) vo vr wr)) (fun _ _ i _=>n - (intOf i).toNat)
 case atStart=>exact ⟨0,Zu _,rfl,S3⟩
 case round =>
  clear ct y0 y1 S3;obtain ⟨k,hk,rfl,HS⟩:=hrel;obtain ⟨A,R,X⟩:∃A R,LJ ns (es.take k)=(A,R):=⟨_,_,rfl⟩;have hlen:A.length+R.length≤m+k:=by
   have:=BC ns es k;rw [X,HM.out] at this;exact this
  have hrl:R.length≤m:=by
   have:=wP ns (es.take k);rw [X,HM.out] at this;exact this
  have ZD:Hid (Asc R):=by
   have:=sc HA.out (es.take k);rw [X] at this;exact this
  have Am:=ZU X;rw [X] at HS;clear X;obtain ⟨Z5,hd0,J,Z4,HB0,Z6⟩:=HS.out;obtain ⟨ro,rc,h6,hr1,hr2⟩:=J.len;have OW:Hid (XU 147 wr (w.heap.size+3) (.slice (some ⟨g,0,none⟩) A.length (m+n)) A):=by rw [hd0] at Z5;exact Z5
  have RR:Hid (SK w (.slice ro R.length rc) R):=by rw [h6] at J;exact J
  have NN:Hid (PV (.slice ro R.length rc)):=by rw [h6] at Z4;exact Z4
  have HB:=ZU HB0;have ot:=ZU Z6;have hr1':R.length≤rc:=hr1
  replace hd0:u5=.slice (some ⟨g,0,none⟩) A.length (m+n):=hd0
  replace h6:u6=.slice ro R.length rc:=h6
  subst hd0 h6;clear Z5 J Z4 HB0 Z6 HS hr1 hr2;have sB:=HB.out.size;have hgl:=(ZT OW.out g rfl).2
  by_cases hlt:k<n
  · have Rj:(k:Int)<(n:Int):=by omega
    obtain ⟨b,o,hao,hb,hc⟩:∃b o,xo=some ⟨b,o,none⟩∧b<w.heap.size∧PD w b (o+k*8) (Vr es k):=by
     obtain ⟨oY,cap',e',-,-,h3⟩:=HX.out
     simp only [ZC] at e'
     obtain ⟨rfl,-,-⟩:=e'
     rcases h3 with h3 | ⟨b,o,rfl,hb,hc⟩
     · have:=HP.out;rw [h3] at this;simp at this;omega
     exact ⟨b,o,rfl,hb,hc k (by rw [HP.out];exact hlt)⟩
    subst hao;obtain ⟨c0,c1,c2,c3,c4,c5,c6,c7⟩:=hc.below HB.out hb;clear hc;have ZB:Hid (LJ ns (es.take (k+1))=Ea (A,R) (Vr es k)):=by
     show _=_;rw [←Am.out];exact FM ns es k (by rw [HP.out];exact hlt)
    clear Am
    go_wp2_with fail
    clear c0 c1 c2 c3 c4 c5 c6 c7;generalize Vr es k=f at *;have BA:Hid (Below wr.heap.size wr (wr.alloc (.cells #[.bool f.del,.string f.nd.path,.string f.nd.data,.int .i64 f.nd.XT,.int .i64 f.nd.XQ,.int .i64 f.nd.cz,.int .i64 f.nd.mz,.int .i64 f.nd.pz] 249))):=Yy.alloc YR _;have EX:Hid (Nt (wr.alloc (.cells #[.bool f.del,.string f.nd.path,.string f.nd.data,.int .i64 f.nd.XT,.int .i64 f.nd.XQ,.int .i64 f.nd.cz,.int .i64 f.nd.mz,.int .i64 f.nd.pz] 249)) wr.heap.size f):=Nt.new _ _ _;generalize wr.alloc _=wA at *;generalize hB:wr.heap.size=B at *;have HG:Hid (B≠g):=by show _≠_;omega
    have Zx:=ZU (OW.out.below (hB ▸ BA.out));have B1:=ZU (HB.out.trans (BA.out.mono sB));have X1:=ZU (ot.out.below BA.out (by omega));clear OW HB ot BA hB;obtain ⟨L,hL⟩:∃L,L=Tx R f.nd.path:=⟨_,rfl⟩;have I:L≤R.length:=by rw [hL];exact Of _ _
    have Zv:Hid (Low R f.nd.path L):=by rw [hL];exact BM R _ ZD.out
    have HS2:Hid (LJ ns (es.take (k+1))=(A++R.take L++(if f.del then [] else [f.nd]),R.drop (L+if Nx R f.nd.path L then 1 else 0))):=by
     show _=_;rw [ZB.out,hL]
     rfl
    have Zt:Hid (Nx R f.nd.path L=true→L<R.length):=by
     intro hh;unfold Nx at hh
     simp only [ZA,Zj] at hh
     exact hh.1
    clear ZB hL;refine (P9 wA _ R f.nd.path L (RR.out.below B1.out) (by omega) Zv.out).mono ?_;rintro e w4 ⟨rfl,b4⟩;have Zp:=ZU (Zx.out.below b4);have B4:=ZU (WD B1.out b4);have X4:=ZU (X1.out.below b4 X1.out.size);have E4:=ZU (EX.out.below b4);clear b4 Zx B1 X1 EX;have hs1:=wT ro R.length rc L I hr1'
    go_wp2_with (at_builtin;go_must (refine wpList_append_fits_any _ rfl _ _ 61 rfl (w.heap.size+3) 147 i0 7 Tryz.underlying61 hi hz1 g A.length (m+n) (YE A) rfl Zp.out ro L rc (YE (R.take L)) rfl ?n1 ?n2 ?n3 ?n4 ?n5 ?_))
    case n1=>rw [Xw,Zw];omega
    case n2=>exact fun e=>by have:=NN.out R.length rc (by rw [e]);omega
    case n3=>exact fun ad had j u hu=>(RR.out.below B4.out).KS ad had j u (An hu)
    case n4=>exact KQ _
    case n5=>omega
    intro w5 Rb hg5;have Y:Hid (XU 147 w5 (w.heap.size+3) (.slice (some ⟨g,0,none⟩) (A.length+L) (m+n)) (A++R.take L)):=by
     show World.ownsRow _ _ _ _ _ _ _;rw [ZZ,Zw,YC I,Wc];exact Rb
    have B5:=ZU (B4.out.grown hg5 B4.out.size (fun q hq=>by simp only [ZK] at hq;omega));have X5:=ZU (X4.out.below ((Below.refl (w.heap.size+3) w4).grown hg5 X4.out.size (fun q hq=>by simp only [ZK] at hq;omega)) YR);have E5:=ZU (E4.out.grown hg5 HG.out);have G5:=(ZT Y.out g rfl).2;clear Rb hg5 Zp B4 X4 E4 hs1;obtain ⟨a2,hs2,r2,n2⟩:=KP RR.out NN.out L I;have R2:=ZU r2;have N2:=ZU n2;clear r2 n2;obtain ⟨e0,e1,e2,e3,e4,e5,e6,e7⟩:=E5.out.all;obtain ⟨vr,Rn,hw⟩:∃vr Rn,(Rn=R.drop (L+if Nx R f.nd.path L then 1 else 0)∧Hid (SK w vr Rn)∧Hid (PV vr))∧((Nx R f.nd.path L=false∧vr=.slice a2 (R.length - L) (rc - L))∨(Nx R f.nd.path L=true∧∀W,(Instr.slice 61 (.slice a2 (R.length - L) (rc - L)) (some (.int .i64 1)) none none).run Tryz.prog W=.ok vr W)):=by
     cases hf:Nx R f.nd.path L with
     | false=>exact ⟨_,_,⟨rfl,R2,N2⟩,.inl ⟨rfl,rfl⟩⟩
     | true =>
      have hl:=Zt.out hf;have YT:SK w (.slice a2 (R.drop L).length (rc - L)) (R.drop L):=by rw [ZS];exact R2.out
      have YP:PV (.slice a2 (R.drop L).length (rc - L)):=by rw [ZS];exact N2.out
      obtain ⟨a3,hs3,r3,n3⟩:=KP YT YP 1 (by rw [ZS];omega);rw [ZS] at hs3 r3 n3;rw [Yc] at r3;exact ⟨_,_,⟨rfl,r3,n3⟩,.inr ⟨rfl,hs3⟩⟩
    obtain ⟨⟨kU,R3,N3⟩,hw⟩:=hw;have AA:Hid (LJ ns (es.take (k+1))=(A++R.take L++(if f.del then [] else [f.nd]),Rn)):=by rw [kU];exact HS2.out
    have ND:Hid ((A++R.take L).length=A.length+L):=by show _=_;rw [ZZ,Zw,YC I]
    clear HS2 kU
    cases hdel:f.del with
    | true =>
     rw [hdel] at e0;have S9:Hid (iJ w g (m+n) (LJ ns (es.take (k+1))) (.slice ao m ca) z (.slice (some ⟨b,o,none⟩) n cx) (.slice (some ⟨g,0,none⟩) (A.length+L) (m+n)) vr w5):=by
      have e9:LJ ns (es.take (k+1))=(A++R.take L,Rn):=by rw [AA.out,hdel];simp
      rw [e9];exact ⟨Y.out,by rw [ND.out],R3.out,N3.out,B5.out,X5.out⟩
     clear AA ND Y R3 N3 B5 X5 R2 N2
     rcases hw with ⟨hf,rfl⟩ | ⟨hf,hs3⟩
     · rw [hf]
       go_wp2;exact ⟨⟨k+1,by omega,by go_num,S9⟩,by simp [intOf];omega⟩
     rw [hf];go_wp2;exact ⟨⟨k+1,by omega,by go_num,S9⟩,by simp [intOf];omega⟩
    | false =>
     rw [hdel] at e0;have FIN:Hid (∀w',w'.ownsRow (w.heap.size+3) 147 7 (.slice (some ⟨g,0,none⟩) (A.length+L+1) (m+n)) (A.length+L+1) (YE (A++R.take L)++Uu f.nd)→∀t,(w5.alloc (.cells #[.string f.nd.path,.string f.nd.data,.int .i64 f.nd.XT,.int .i64 f.nd.XQ,.int .i64 f.nd.cz,.int .i64 f.nd.mz,.int .i64 f.nd.pz] t)).grownBy w' (some g)→Hid (iJ w g (m+n) (LJ ns (es.take (k+1))) (.slice ao m ca) z (.slice (some ⟨b,o,none⟩) n cx) (.slice (some ⟨g,0,none⟩) (A.length+L+1) (m+n)) vr w')):=by
      intro w' how t hgw;have e9:LJ ns (es.take (k+1))=(A++R.take L++[f.nd],Rn):=by rw [AA.out,hdel];simp
      have el:(A++R.take L++[f.nd]).length=A.length+L+1:=by rw [ZZ,ND.out];rfl
      rw [e9];have hb3:=((Below.refl (w.heap.size+3) w5).alloc X5.out.size _).grown hgw (by have:=X5.out.size;simp;omega) (fun q hq=>by simp only [ZK] at hq;omega);refine ⟨?_,?_,R3.out,N3.out,B5.out.trans (hb3.mono (by omega)),X5.out.below hb3 YR⟩
      · show World.ownsRow _ _ _ _ _ (A++R.take L++[f.nd]).length (YE (A++R.take L++[f.nd]))
        rw [el,FT];exact how
      show _=Value.slice _ (A++R.take L++[f.nd]).length _;rw [el]
     have OR:Hid (w5.ownsRow (w.heap.size+3) 147 7 (.slice (some ⟨g,0,none⟩) (A.length+L) (m+n)) (A.length+L) (YE (A++R.take L))):=by
      have:=Y.out;unfold XU at this;rw [ND.out] at this;exact this
     clear AA ND Y R3 N3 R2 N2
     rcases hw with ⟨hf,rfl⟩ | ⟨hf,hs3⟩
     · rw [hf]
       go_wp2_with (at_builtin;go_must (refine WG _ rfl _ _ 61 rfl (w.heap.size+3) 147 i0 7 Tryz.underlying61 hi hz1 g (A.length+L) (m+n) _ rfl (OR.out.alloc _) ⟨w5.heap.size,0,none⟩ 1 1 (Uu f.nd) rfl rfl (Qn w5 f.nd _) (Pb f.nd) ?q1 ?_))
       case q1=>omega
       intro w6 T oq;have S9:=FIN.out w6 T _ oq;clear FIN OR T oq e0 e1 e2 e3 e4 e5 e6 e7;go_wp2;exact ⟨⟨k+1,by omega,by go_num,S9⟩,by simp [intOf];omega⟩
     rw [hf]
     go_wp2_with (at_builtin;go_must (refine WG _ rfl _ _ 61 rfl (w.heap.size+3) 147 i0 7 Tryz.underlying61 hi hz1 g (A.length+L) (m+n) _ rfl (OR.out.alloc _) ⟨w5.heap.size,0,none⟩ 1 1 (Uu f.nd) rfl rfl (Qn w5 f.nd _) (Pb f.nd) ?q2 ?_))
     case q2=>have:=Zt.out hf;omega
     intro w6 T oq;have S9:=FIN.out w6 T _ oq;clear FIN OR T oq e0 e1 e2 e3 e4 e5 e6 e7;go_wp2;exact ⟨⟨k+1,by omega,by go_num,S9⟩,by simp [intOf];omega⟩
  have hkn:k=n:=by omega
  subst hkn;have HF:Hid (A++R=PO ns z es):=by
   have:=rZ HA.out HE.out HP.out;rw [Am.out] at this;rw [HT.out];exact this
  clear Am
  go_wp2_with (at_builtin;go_must (refine wpList_append_fits_any _ rfl _ _ 61 rfl (w.heap.size+3) 147 i0 7 Tryz.underlying61 hi hz1 g A.length (m+k) (YE A) rfl OW.out ro R.length rc (YE R) rfl ?m1 ?m2 ?m3 ?m4 ?m5 ?_))
  case m1=>rw [Xw]
  case m2=>exact fun e=>NN.out R.length rc (by rw [e])
  case m3=>exact fun ad had j u hu=>(RR.out.below HB.out).KS ad had j u hu
  case m4=>exact KQ _
  case m5=>omega
  intro w5 Rb hg5;have Y:Hid (XU 147 w5 (w.heap.size+3) (.slice (some ⟨g,0,none⟩) (A.length+R.length) (m+k)) (PO ns z es)):=by
   rw [←HF.out];show World.ownsRow _ _ _ _ _ _ _;rw [ZZ,Wc];exact Rb
  have B5:=ZU (HB.out.grown hg5 HB.out.size (fun q hq=>by simp only [ZK] at hq;omega));have X5:=ZU (ot.out.below ((Below.refl (w.heap.size+3) wr).grown hg5 ot.out.size (fun q hq=>by simp only [ZK] at hq;omega)) YR);clear Rb hg5 OW HB ot;have c0:=X5.out.r.cell;have f0:=X5.out.r.frozen;go_wp2;refine ZW (v:=.agg #[.slice (some ⟨g,0,none⟩) (A.length+R.length) (m+k)]) (by simp [results,Tryz.results128,go_sem,c0]) rfl ⟨_,rfl,?_,?_⟩
  · refine XU.mono ?_ (show w.heap.size≤w.heap.size+3 by omega)
    repeat (first | exact Y.out | refine XU.VA ?_ (by simp;try omega) _)
  repeat (first | exact B5.out | refine Below.setCell ?_ (by simp;try omega) _)
theorem Du (w:World) (ao:Option Addr) (cap:Nat) (ns:List Nd) (h:SK w (.slice ao ns.length cap) ns) (hn:ns.length≤1000) :
    Calls Tryz.prog 166 #[.slice ao ns.length cap] w fun e w'=>∃v',e=.returned v'∧XU 147 w' w.heap.size v' ns∧Zi w w':=by
 obtain ⟨i0,hi,hz0,hz1,hz2⟩:=YM Tryz.Mi;have q22:∀(w:World) (a:Option Addr) (n c n' c':Nat),(binOp .eql 61 (.slice a n c) (.slice none n' c')).run Tryz.prog w=.ok (.bool a.isNone) w:=fun w a n c n' c'=>U7 w _ _ a n c n' c' Tryz.underlying61
 have HE:Hid ((w.alloc (.cells #[] 147)).ownsRow w.heap.size 147 7 (.slice (some ⟨w.heap.size,0,none⟩) 0 0) 0 []):=WX w #[] 0 YR (Zu _) rfl;have HB:Hid (Zi w (w.alloc (.cells #[] 147))):=Yy.alloc YR _;have HR:=ZU h
 cases ao with
 | none =>
  have hx:ns=[]:=by
   obtain ⟨a',c',e,-,-,h3⟩:=h
   simp only [ZC] at e
   rcases h3 with h3 | ⟨b,o,e2,_⟩
   · exact h3
   rw [←e.1] at e2;cases e2
  subst hx;clear h HR
  go_enter Tryz.func166,Tryz.ntmps166
  go_wp2;go_ret;exact ⟨_,rfl,ZH _ _ _ _,Yy⟩
 | some a =>
  have lf:Hid (∀j u,(YE ns)[j]?=some u→(w.alloc (.cells #[] 147)).cell? (a.add j)=some u):=fun j u hu=>(HR.out.below HB.out).KS a rfl j u hu
  clear h;generalize hl:ns.length=m at *;have HL:=ZU hl;clear hl
  go_enter Tryz.func166,Tryz.ntmps166
  go_wp2_with (at_builtin;go_must (refine Yn _ rfl _ _ 61 rfl w.heap.size 147 i0 _ 7 72 Tryz.underlying61 hi hz0 hz1 hz2 rfl (by decide) _ _ _ rfl HE.out a m cap (YE ns) rfl ?c0 lf.out (KQ _) ?c3 ?c4 ?c5 ?_))
  case c0=>rw [Xw,HL.out]
  case c3=>unfold maxLen;omega
  case c4=>omega
  case c5=>simp
  intro v2 w2 ho2 hg2 _;have DR:Hid (XU 147 w2 w.heap.size v2 ns):=by
   show World.ownsRow _ _ _ _ _ _ _;rw [HL.out];exact ho2
  have HG2:=ZU (HB.out.grown hg2 (by simp) (by intro q hq;simp [Value.ownBlock] at hq;omega));clear ho2 hg2;go_wp2;go_ret;exact ⟨_,rfl,DR.out,HG2.out⟩
attribute [local go_sem] Yv
section
variable {P:Program} (w:World)
theorem Dt (m:Nat):(Builtin.zeroCells (Value.int .u8 0).cells m).toList=List.replicate m (Value.int .u8 0):=by
 apply Tb
 · simp [Builtin.zeroCells,Value.cells]
 intro j h1 h2
 simp [Builtin.zeroCells,Value.cells,Nat.mod_one]
theorem Pt (base:Nat) (t tn ty e:TypeId) (i:TypeInfo) (k kn:IntKind) (ht:P.underlying t=some (.slice e)) (htn:P.underlying tn=some (.int kn)) (hi:P.info? e=some i) (hz:i.zero=some (.int .u8 0))
    (hsize:i.size=1) (hby:i.bytes=1) (g n cap:Nat) (xs:List Value) (hown:w.ownsRow base e 1 (.slice (some ⟨g,0,none⟩) n cap) n xs) (m:Nat) (h0:0<m) (hm:n+m≤1048576) (hbase:base≤w.heap.size) :
    ∃v' w',(Builtin.append_ #[t,tn] ty #[.slice (some ⟨g,0,none⟩) n cap,.int k m]).run P w=.ok v' w'∧w'.ownsRow base e 1 v' (n+m) (xs++List.replicate m (Value.int .u8 0))∧w.grownBy w' (some g):=by
 have hxl:xs.length=n:=by simpa using hown.1
 have hlen:(xs++List.replicate m (Value.int .u8 0)).length=(n+m)*1:=by rw [ZZ,hxl,XJ,Yr]
 have hw:IntKind.i64.wrap (m:Int)=m:=by rw [Zq];omega
 have h63':¬(9223372036854775807<((n:Int)+(m:Int))):=by omega
 have h48i:¬(281474976710656<(m:Int)):=by omega
 have hneg:¬((m:Int)<0):=by omega
 have hns:¬(m=0):=by omega
 have hcells:=Dt m;have hone:∀u ∈ List.replicate m (Value.int .u8 0),u.oneCell'=true:=by intro u hu;rw [Ug hu];rfl
 rcases hown.2 with ⟨h1,-⟩ | ⟨g',cap',cur,h1,hbg,hg,hnc,hcm,hcs,htake⟩
 · simp at h1
 simp only [ZC,ZK,Ym,VB] at h1
 obtain ⟨rfl,-,rfl⟩:=h1
 by_cases hroom:n+m≤cap
 · have hcs':cur.size=cap:=by simpa using hcs
   have hst:=TB P g n e (List.replicate m (Value.int .u8 0)) 0 cur w hg (by simp;omega) hone
   simp only [Yj,XJ] at hst
   refine ⟨.slice (some ⟨g,0,none⟩) (n+m) cap,w.setRow g (cur.toList.take n++List.replicate m (Value.int .u8 0)++cur.toList.drop (n+m)).toArray,?_,⟨hlen,.inr ⟨g,cap,_,rfl,hbg,WB w g cur _ e _ hg,hroom,hcm,?_,?_⟩⟩,⟨rfl,rfl,rfl,by simp,fun k _ hk=>Ua w g k _ (fun e=>hk (by simp [e]))⟩⟩
   · simp [Builtin.append_,Ya ht,Ya htn,sizeOf,typeInfo,zeroValue,hi,hz,hsize,hby,asInt,asIntOf,hw,hneg,hns,h48i,hroom,hcells,YY,hst]
   · simp only [ZI,ZZ,Zw,ZS,YJ,XJ]
     omega
   have ht':cur.toList.take n=xs:=by simpa using htake
   rw [ht',←hlen];exact W8
 have holds:=hown.cells (g:=g) rfl;have hn:=hroom;have h48':¬(281474976710656<Builtin.nextslicecap (n+m) cap):=by
  have:=U2 (need:=n+m) (old:=cap) (bytes:=1) (by omega) (by omega);omega
 have hfo:=Vt (P:=P) w.drew 1 n ⟨g,0,none⟩ n cap xs (by omega) (by simpa using holds);have hge:=Tq w (n+m) cap e;have hcm2:=We w (n+m) cap e (by unfold maxLen;omega);refine ⟨.slice (some ⟨w.heap.size,0,none⟩) (n+m) (grownCap w (n+m) cap e),w.drew.alloc (.cells (xs.toArray++(Builtin.zeroCells (Value.int .u8 0).cells m)++Builtin.zeroCells (Value.int .u8 0).cells (grownCap w (n+m) cap e - (n+m))) e),?_,⟨hlen,.inr ⟨w.heap.size,_,_,rfl,hbase,Zs w.drew _,hge,hcm2,?_,?_⟩⟩,⟨rfl,rfl,rfl,by simp,fun k hk _=>Below.heap_alloc w.drew _ k hk⟩⟩
 · simp [Builtin.append_,Ya ht,Ya htn,sizeOf,typeInfo,zeroValue,hi,hz,hsize,hby,asInt,asIntOf,hw,hneg,hns,h48i,hn,h63',h48',Question.forced,hfo,newRow,grownCap]
 · have hz1:(Value.int IntKind.u8 0).cells.size=1:=rfl
   simp only [TJ,ZI,TN,hz1,hxl]
   omega
 simp only [Vx,ZO,hcells]
 rw [←ZO,←hlen];exact W8
theorem OL {ops:Array Oper} {rest:List Oper} {o:Oper} {a:Act} {Q:Exit→Act→World→Prop} (hgd:o.guard=none) (sl x:Operand) (t tn:TypeId)
    (ho:o.op=.call { callee:=.builtin .append,args:=#[sl,x],argTypes:=#[t,tn] })
    (base:Nat) (e:TypeId) (i:TypeInfo) (k kn:IntKind) (ht:P.underlying t=some (.slice e)) (htn:P.underlying tn=some (.int kn)) (hi:P.info? e=some i) (hz:i.zero=some (.int .u8 0))
    (hsize:i.size=1) (hby:i.bytes=1) (g n cap:Nat) (xs:List Value) (hs:a.eval sl=.slice (some ⟨g,0,none⟩) n cap) (hown:w.ownsRow base e 1 (.slice (some ⟨g,0,none⟩) n cap) n xs) (m:Nat) (hx:a.eval x=.int k m)
    (h0:0<m) (hm:n+m≤1048576) (hbase:base≤w.heap.size)
    (h:∀v' w',w'.ownsRow base e 1 v' (n+m) (xs++List.replicate m (Value.int .u8 0))→w.grownBy w' (some g)→wpList P ops Q rest (a.put o.dst v') w'):wpList P ops Q (o :: rest) a w:=by
 obtain ⟨v',w',hr,h2,h3⟩:=Pt (P:=P) w base t tn o.type e i k kn ht htn hi hz hsize hby g n cap xs hown m h0 hm hbase;exact Lib.wpList_append_run w hgd sl x t tn ho _ _ hs hx v' w' hr (h v' w' h2 h3)
end
theorem If (w:World) (s:Int) :
    Calls Tryz.prog 143 #[.int .i64 s] w fun e w'=>e=.returned (.bool (decide (0≤s∧s≤2147483647)))∧w'=w:=by
 by_cases h1:0≤s
 · by_cases h2:s≤2147483647
   · go_enter Tryz.func143,Tryz.ntmps143
     go_wp2;go_ret;exact ⟨Wt (by simp;omega),rfl⟩
   go_enter Tryz.func143,Tryz.ntmps143
   go_wp2;go_ret;exact ⟨Wt (by simp;omega),rfl⟩
 go_enter Tryz.func143,Tryz.ntmps143
 go_wp2;go_ret;exact ⟨Wt (by simp;omega),rfl⟩
theorem Vm (w:World) (base:Nat) (v:Value) (xs:List Int) (N n:Nat) (h:Own .u8 5 w base v xs) (hb:base≤w.heap.size) (hl:xs.length≤1048576) (hn:n≤8) :
    Calls Tryz.prog 96 #[v,.int .i64 N,.int .i64 n] w fun e w'=>∃v',e=.returned v'∧Own .u8 5 w' base v' (xs++Xo N n)∧Below base w w':=by
 obtain ⟨i0,hi,hz0,hz1,hz2⟩:=YM Tryz.QZ;have HO:=ZU h;clear h
 go_enter Tryz.func96,Tryz.ntmps96
 go_wp2
 go_loopw [0,7] (fun vi vl wr=>∃(k:Nat) (z:Int),k≤n∧vl=.int .i64 z∧z+1+(k:Int)=(n:Int)∧Hid (Own .u8 5 wr base vi (xs++Xo (N / 2 ^ (8*(n - k))) k))∧Hid (Below base w wr)) (fun _ i _=>((intOf i)+1).toNat)
 case atStart=>exact ⟨0,(n:Int) - 1,Zu _,rfl,by omega,by show Own _ _ _ _ _ _;unfold Xo;rw [YD];exact HO.out,Yy⟩
 case round =>
  obtain ⟨k,z,hk,rfl,hz,HW,HB⟩:=hrel;have sB:=HB.out.size
  by_cases hz0':0≤z
  · obtain ⟨l,rfl⟩:∃l:Nat,z=(l:Int):=⟨z.toNat,by omega⟩
    have ek:l≤7:=by omega
    have HST:Hid (Xo (N / 2 ^ (8*(n - k))) k++[((N / 2 ^ (8*l) % 256:Nat):Int)]=Xo (N / 2 ^ (8*(n - (k+1)))) (k+1)):=by
     show _=_;rw [show n - k=l+1 by omega,show n - (k+1)=l by omega];exact Jo N l k
    obtain ⟨ys,hys⟩:∃ys,ys=xs++Xo (N / 2 ^ (8*(n - k))) k:=⟨_,rfl⟩;have su:=ZU hys;have HW1:Hid (wr.ownsRow base 5 1 u0 ys.length (ys.map (Value.int .u8))):=by rw [hys];exact HW.out
    have hyl:ys.length≤1048600:=by rw [hys,ZZ,Xd];omega
    clear hys HW;have HV:Hid ((N:Int) / 2 ^ (8*l) % 256=((N / 2 ^ (8*l) % 256:Nat):Int)):=by show _=_;rw [NU];rfl
    go_wp2_with (at_builtin;go_must (refine Yn _ rfl _ _ 22 rfl base 5 i0 (.int .u8 0) 1 1 Tryz.underlying22 hi hz0 hz1 hz2 rfl (by decide) _ _ _ rfl (WP HW1.out _) ⟨wr.heap.size,0,none⟩ 1 1 [.int .u8 ((N:Int) / 2 ^ (8*l) % 256)] rfl rfl (XW _ _ _) (by intro u hu;simp at hu;subst hu;rfl) ?c3 ?c4 ?c5 ?_))
    case c3=>unfold maxLen;omega
    case c4=>omega
    case c5=>simp;omega
    intro v2 w2 ho2 hg2 _;have DR:Hid (Own .u8 5 w2 base v2 (xs++Xo (N / 2 ^ (8*(n - (k+1)))) (k+1))):=by
     rw [HV.out] at ho2;refine QY (q:=ys.length+1) (ys:=ys++[((N / 2 ^ (8*l) % 256:Nat):Int)]) (by simp) ?_ (by rw [Y6];exact ho2);rw [←HST.out,←ZO,←su.out]
    have HB2:=ZU ((HB.out.alloc (by omega) _).grown hg2 (by simp;omega) (fun q hq=>(ZT HW1.out q hq).1));clear ho2 hg2 HW1 HB;go_wp2;exact ⟨⟨k+1,(l:Int) - 1,by omega,by go_num,by omega,DR,HB2⟩,by simp [intOf]⟩
  have hkn:k=n:=by omega
  subst hkn;have eh:=hz0';go_wp2;go_ret;refine ⟨_,rfl,?_,HB.out⟩;have:=HW.out;rw [Wf,Q3,Nat.pow_zero,Nat.div_one] at this;exact this
theorem KO (w:World) (g b s l c:Int) :
    Calls Tryz.prog 95 #[.agg #[.int .i64 g,.int .i64 b,.int .i64 s,.int .i64 l,.int .i64 c]] w (Wj w (.bool (PC g b s l c))):=by
 go_enter Tryz.func95,Tryz.ntmps95
 go_wp2
 all_goals
  go_ret;refine ⟨Wt ?_,Yy.alloc YR _⟩;unfold PC;rw [SJ]
  simp only [ZA,Vl,Zj,Yu,false_iff]
  omega
theorem wO {k:IntKind} {xs:List Int} (h:Own k e w lo v xs) (h0:0<xs.length):∃g c,v=.slice (some ⟨g,0,none⟩) xs.length c:=by
 rcases h.2 with ⟨rfl,h1⟩ | ⟨g,cap,cur,rfl,-⟩
 · omega
 exact ⟨g,cap,rfl⟩
def qd (w:World) (k:Nat) (g b s l c:Int):Prop :=
 k<w.heap.size∧w.cell? ⟨k,0,none⟩=some (.int .i64 g)∧w.cell? ⟨k,1,none⟩=some (.int .i64 b)∧w.cell? ⟨k,2,none⟩=some (.int .i64 s)∧w.cell? ⟨k,3,none⟩=some (.int .i64 l)∧w.cell? ⟨k,4,none⟩=some (.int .i64 c)
theorem qd.new (w:World) (g b s l c:Int) (t:TypeId):qd (w.alloc (.cells #[.int .i64 g,.int .i64 b,.int .i64 s,.int .i64 l,.int .i64 c] t)) w.heap.size g b s l c :=
 ⟨by simp,(by go_simp),(by go_simp),(by go_simp),(by go_simp),(by go_simp)⟩
theorem qd.below (h:qd w k g b s l c) (hb:Below B w w') (hk:k<B):qd w' k g b s l c:=by
 obtain ⟨h0,h1,h2,h3,h4,h5⟩:=h;exact ⟨ZY h0 hb.size,(hb.cell (p:=⟨k,0,none⟩) hk).trans h1,(hb.cell (p:=⟨k,1,none⟩) hk).trans h2,(hb.cell (p:=⟨k,2,none⟩) hk).trans h3,(hb.cell (p:=⟨k,3,none⟩) hk).trans h4,(hb.cell (p:=⟨k,4,none⟩) hk).trans h5⟩
theorem Ie (w:World) (g b s l c:Int) (h:PC g b s l c=false) :
    Calls Tryz.prog 53 #[.agg #[.int .i64 g,.int .i64 b,.int .i64 s,.int .i64 l,.int .i64 c]] w fun e w'=>∃v',e=.returned v'∧Own .u8 5 w' w.heap.size v' []∧Zi w w':=by
 have H:=ZU h;clear h
 go_enter Tryz.func53,Tryz.ntmps53
 go_wp2_with fail
 refine (KO _ g b s l c).mono ?_;rintro e w1 ⟨rfl,b1⟩;rw [H.out];have B1:=ZU ((Yy.alloc YR _).trans (b1.mono (by simp)));clear b1;go_wp2;go_ret;exact ⟨_,rfl,ZH _ _ _ _,B1.out⟩
theorem JW (w:World) (g b s l c:Nat) (h:PC g b s l c=true) :
    Calls Tryz.prog 53 #[.agg #[.int .i64 g,.int .i64 b,.int .i64 s,.int .i64 l,.int .i64 c]] w fun e w'=>∃v',e=.returned v'∧Own .u8 5 w' w.heap.size v' (Ay g b s l c)∧Zi w w':=by
 obtain ⟨i0,hi,hz0,hz1,hz2⟩:=YM Tryz.QZ;have H:=ZU h;clear h
 go_enter Tryz.func53,Tryz.ntmps53
 go_wp2_with fail
 refine (KO _ g b s l c).mono ?_;rintro e w1 ⟨rfl,b1⟩;rw [H.out];have X1:=ZU ((qd.new w g b s l c _).below b1 (by simp));have B1:=ZU ((Yy.alloc YR _).trans (b1.mono (by simp)));have s1:w.heap.size+1≤w1.heap.size:=by have:=b1.size;simpa using this
 clear b1;have O1:Hid (Own .u8 5 w1 (w.heap.size+1) (.slice none 0 0) []):=ZH _ _ _ _;obtain ⟨-,x0,x1,x2,x3,x4⟩:=X1.out
 go_wp2_with fail
 refine (Vm _ (w.heap.size+1) _ ([]) g 8 O1.out s1 (by simp) (by omega)).mono ?_;rintro e w2 ⟨v2,rfl,o2,b2⟩;have X2:=ZU (X1.out.below b2 (by omega));have B2:=ZU (B1.out.trans (b2.mono (by omega)));have s2:=ZJ s1 b2.size;have O2:=ZU o2;clear x0 x1 x2 x3 x4 o2 b2 X1 B1 O1;obtain ⟨-,x0,x1,x2,x3,x4⟩:=X2.out
 go_wp2_with fail
 refine (Vm _ (w.heap.size+1) _ ([]++Xo g 8) b 1 O2.out s2 (by simp [Xd]) (by omega)).mono ?_;rintro e w3 ⟨v3,rfl,o3,b3⟩;have X3:=ZU (X2.out.below b3 (by omega));have B3:=ZU (B2.out.trans (b3.mono (by omega)));have s3:=ZJ s2 b3.size;have O3:=ZU o3;clear x0 x1 x2 x3 x4 o3 b3 X2 B2 O2;obtain ⟨-,x0,x1,x2,x3,x4⟩:=X3.out
 go_wp2_with fail
 refine (Vm _ (w.heap.size+1) _ ([]++Xo g 8++Xo b 1) s 4 O3.out s3 (by simp [Xd]) (by omega)).mono ?_;rintro e w4 ⟨v4,rfl,o4,b4⟩;have X4:=ZU (X3.out.below b4 (by omega));have B4:=ZU (B3.out.trans (b4.mono (by omega)));have s4:=ZJ s3 b4.size;have O4:=ZU o4;clear x0 x1 x2 x3 x4 o4 b4 X3 B3 O3;obtain ⟨-,x0,x1,x2,x3,x4⟩:=X4.out
 go_wp2_with fail
 refine (Vm _ (w.heap.size+1) _ ([]++Xo g 8++Xo b 1++Xo s 4) l 4 O4.out s4 (by simp [Xd]) (by omega)).mono ?_;rintro e w5 ⟨v5,rfl,o5,b5⟩;have X5:=ZU (X4.out.below b5 (by omega));have B5:=ZU (B4.out.trans (b5.mono (by omega)));have s5:=ZJ s4 b5.size;have O5:=ZU o5;clear x0 x1 x2 x3 x4 o5 b5 X4 B4 O4;obtain ⟨-,x0,x1,x2,x3,x4⟩:=X5.out
 go_wp2_with fail
 refine (Vm _ (w.heap.size+1) _ ([]++Xo g 8++Xo b 1++Xo s 4++Xo l 4) c 4 O5.out s5 (by simp [Xd]) (by omega)).mono ?_;rintro e w6 ⟨v6,rfl,o6,b6⟩;have X6:=ZU (X5.out.below b6 (by omega));have B6:=ZU (B5.out.trans (b6.mono (by omega)));have s6:=ZJ s5 b6.size;have O6:=ZU o6;clear x0 x1 x2 x3 x4 o6 b6 X5 B5 O5;have Z:([]++Xo g 8++Xo b 1++Xo s 4++Xo l 4++Xo c 4).length=21:=by simp [Xd]
 obtain ⟨g6,c6,hv6⟩:=wO O6.out (by rw [Z];omega);rw [Z] at hv6;subst hv6;have ZN:Hid (w6.ownsRow (w.heap.size+1) 5 1 (.slice (some ⟨g6,0,none⟩) 21 c6) 21 (([]++Xo g 8++Xo b 1++Xo s 4++Xo l 4++Xo c 4).map (Value.int .u8))):=by have:=O6.out;unfold Own at this;rw [Z] at this;exact this
 clear O6 Z;generalize Zg:([]++Xo g 8++Xo b 1++Xo s 4++Xo l 4++Xo c 4)=L6 at *;have ZM:=ZU Zg;clear Zg;obtain ⟨-,x0,x1,x2,x3,x4⟩:=X6.out
 go_wp2_with (at_builtin;go_must (refine OL _ rfl _ _ 22 3 rfl (w.heap.size+1) 5 i0 .i64 .i64 Tryz.underlying22 Tryz.underlying3 hi hz0 hz1 hz2 g6 21 c6 _ rfl ZN.out 35 rfl (by omega) (by omega) s6 ?_))
 intro v7 w7 Y' Y9;have b7:=Yy.grown Y9 s6 (fun q hq=>by injection hq with hq;subst hq;exact (ZT ZN.out _ rfl).1);have O7:Hid (Own .u8 5 w7 (w.heap.size+1) v7 (L6++List.replicate 35 0)):=QY (q:=21+35) (by rw [←ZM.out];simp [Xd]) rfl (by rw [Y6,Uf];exact Y');have X7:=ZU (X6.out.below b7 (by omega));have B7:=ZU (B6.out.trans (b7.mono (by omega)));have s7:=ZJ s6 b7.size;clear x0 x1 x2 x3 x4 Y' Y9 b7 X6 B6 ZN;obtain ⟨-,x0,x1,x2,x3,x4⟩:=X7.out
 go_wp2_with fail
 refine (Vm _ (w.heap.size+1) _ (L6++List.replicate 35 0) g 8 O7.out s7 (by rw [←ZM.out];simp [Xd]) (by omega)).mono ?_;rintro e w8 ⟨v8,rfl,o8,b8⟩;have B8:=ZU (B7.out.trans (b8.mono (by omega)));have O8:Hid (Own .u8 5 w8 w.heap.size v8 (Ay g b s l c)):=by
  have h8:=o8.mono (show w.heap.size≤w.heap.size+1 by omega);rw [←ZM.out,Zd] at h8;exact h8
 clear o8 b8;go_wp2;go_ret;exact ⟨_,rfl,O8.out,B8.out⟩
theorem Aj (h:PC g b s l c=true):∃g' b' s' l' c':Nat,g=g'∧b=b'∧s=s'∧l=l'∧c=c':=by
 unfold PC at h
 simp only [ZA,Vl,Zj] at h
 exact ⟨g.toNat,b.toNat,s.toNat,l.toNat,c.toNat,by omega,by omega,by omega,by omega,by omega⟩
theorem Qw (w:World) (g b s l c:Int) :
    Calls Tryz.prog 53 #[.agg #[.int .i64 g,.int .i64 b,.int .i64 s,.int .i64 l,.int .i64 c]] w fun e w'=>∃v',e=.returned v'∧Own .u8 5 w' w.heap.size v' (sup g b s l c)∧Zi w w':=by
 unfold sup
 by_cases h:PC g b s l c=true
 · rw [Z0 h]
   obtain ⟨g,b,s,l,c,rfl,rfl,rfl,rfl,rfl⟩:=Aj h;exact JW w g b s l c h
 rw [Z1 h];exact Ie w g b s l c (by simpa using h)
attribute [local go_sem] Yv
theorem MW.other {b:Nat} {x0 x1 x2 x3:Value} (h:MW W b x0 x1 x2 x3) (hg:W.grownBy W' row) (hne:some b≠row):MW W' b x0 x1 x2 x3:=by
 have hbl:=hg.block b h.1 hne;exact ⟨ZY h.1 hg.size,⟨(ZP (a:=⟨b,0,none⟩) hbl).trans h.2.1.1,(ZP (a:=⟨b,1,none⟩) hbl).trans h.2.1.2.1,(ZP (a:=⟨b,2,none⟩) hbl).trans h.2.1.2.2.1,(ZP (a:=⟨b,3,none⟩) hbl).trans h.2.1.2.2.2⟩,
  (Yq (a:=⟨b,0,none⟩) hbl).trans h.2.2.1,(Yq (a:=⟨b,1,none⟩) hbl).trans h.2.2.2.1,(Yq (a:=⟨b,2,none⟩) hbl).trans h.2.2.2.2.1,(Yq (a:=⟨b,3,none⟩) hbl).trans h.2.2.2.2.2⟩
theorem Bz.other (h:Bz w vt W) (hg:W.grownBy W' row) (hr:∀r,row=some r→w.heap.size+2≤r):Bz w vt W' :=
 ⟨h.1.grown hg (by have:=h.2.1;omega) (fun q e=>by have:=hr q e;omega),ZJ h.2.1 hg.size,(ZP (a:=⟨w.heap.size,0,none⟩) (hg.block w.heap.size (by have:=h.2.1;omega) (fun e=>by have:=hr _ e.symm;omega))).trans h.2.2.1,h.2.2.2.other hg (fun e=>by have:=hr _ e.symm;omega)⟩
theorem XU.Vz (h:XU 147 W lo v ns) (hg:W.grownBy W' row) (hr:∀r,row=some r→∃o:Obj,W.heap[r]?=some o∧o.isCells=false):XU 147 W' lo v ns:=VD h hg hr
def Wp (S L:Int):Bool:=decide (1≤S∧S≤64) && decide (1≤L∧L≤64)
def KN (S L:Int) (dl:Nat) (ps:List (Int × List Int)):Bool:=Wp S L && (QX dl ps && decide (((dl / 64:Nat):Int)=2+2*(S+L)))
def Ry (S L Xc:Int) (log:Bool):Int:=2+Xc*(S+L)+if log then S else 0
def Jg (S L:Int) (log:Bool):Int:=if log then L else S
def FF (S L:Int) (dl:Nat) (ps:List (Int × List Int)) (Xc:Int):Bool:=KN S L dl ps && decide (0≤Xc∧Xc≤1)
def Me (D:List Int) (f l:Nat):List Int:=(D.drop (f*64)).take (l*64)
def gV (YN:List Int) (ps:List (Int × List Int)) (S L Xc:Int) (log:Bool):List Int :=
 if FF S L YN.length ps Xc then Me (MT YN ps) (Ry S L Xc log).toNat (Jg S L log).toNat else []
theorem Xk (S L:Int):Wp S L=true↔(1≤S∧S≤64)∧1≤L∧L≤64:=by unfold Wp;simp only [ZA,Zj]
theorem RK (S L:Int) (dl:Nat) (ps:List (Int × List Int)):KN S L dl ps=true↔Wp S L=true∧QX dl ps=true∧((dl / 64:Nat):Int)=2+2*(S+L):=by
 unfold KN;simp only [ZA,Zj]
theorem KM {YN:List Int} (h:QX YN.length ps=true):(MT YN ps).length=YN.length:=by
 unfold MT;rw [Z0 h];exact NR _ _ _ h _ YR
theorem Oe (D:List Int) (f l:Nat) (h:(f+l)*64≤D.length):(Me D f l).length=l*64:=by
 unfold Me;rw [Zw,ZS];omega
theorem Oy (w:World) (S:Int) :
    Calls Tryz.prog 16 #[.int .i64 S] w fun e w'=>e=.returned (.bool (decide (1≤S∧S≤64)))∧w'=w:=by
 by_cases h1:1≤S
 · by_cases h2:S≤64
   · go_enter Tryz.func16,Tryz.ntmps16
     go_wp2;go_ret;exact ⟨Wt (by first | rfl | (symm;rw [Zj];exact ⟨h1,h2⟩)),rfl⟩
   have d2:decide (S≤64)=false:=by simpa using h2
   go_enter Tryz.func16,Tryz.ntmps16
   go_wp2;go_ret;exact ⟨Wt (by first | rfl | (symm;rw [Xq];omega)),rfl⟩
 have d1:decide (1≤S)=false:=by simpa using h1
 go_enter Tryz.func16,Tryz.ntmps16
 go_wp2;go_ret;exact ⟨Wt (by first | rfl | (symm;rw [Xq];omega)),rfl⟩
theorem Rs (w:World) (S L:Int) :
    Calls Tryz.prog 9 #[.agg #[.int .i64 S,.int .i64 L]] w (Wj w (.bool (Wp S L))):=by
 have B0:Hid (Zi w (w.alloc (.cells #[.int .i64 S,.int .i64 L] 25))):=Yy.alloc YR _;obtain ⟨t,ht⟩:∃t,t=decide (1≤S∧S≤64):=⟨_,rfl⟩;obtain ⟨u,hu⟩:∃u,u=decide (1≤L∧L≤64):=⟨_,rfl⟩;have H:Hid (Wp S L=(t && u)):=by show _=_;rw [ht,hu];rfl
 have V1:Hid (∀W,Calls Tryz.prog 16 #[.int .i64 S] W fun e w'=>e=.returned (.bool t)∧w'=W):=fun W=>by rw [ht];exact Oy W S
 have V2:Hid (∀W,Calls Tryz.prog 16 #[.int .i64 L] W fun e w'=>e=.returned (.bool u)∧w'=W):=fun W=>by rw [hu];exact Oy W L
 clear ht hu
 go_enter Tryz.func9,Tryz.ntmps9
 go_wp2_with fail
 cases t with
 | true =>
  refine (V1.out _).mono ?_;rintro e w1 ⟨rfl,rfl⟩
  go_wp2_with fail
  refine (V2.out _).mono ?_;rintro e w1 ⟨rfl,rfl⟩;go_wp2;go_ret;exact ⟨Wt (by rw [H.out];simp),B0.out⟩
 | false =>
  refine (V1.out _).mono ?_;rintro e w1 ⟨rfl,rfl⟩;go_wp2;go_ret;exact ⟨Wt (by rw [H.out];simp),B0.out⟩
theorem Ps (w:World) (S L:Int) (hS:1≤S) (hS2:S≤64) (hL:1≤L) (hL2:L≤64) :
    Calls Tryz.prog 92 #[.agg #[.int .i64 S,.int .i64 L]] w (Wj w (.int .i64 (S+L))):=by
 have B0:Hid (Zi w (w.alloc (.cells #[.int .i64 S,.int .i64 L] 25))):=Yy.alloc YR _
 go_enter Tryz.func92,Tryz.ntmps92
 go_wp2;go_ret;exact ⟨rfl,B0.out⟩
theorem Pr (w:World) (S L:Int) (hS:1≤S) (hS2:S≤64) (hL:1≤L) (hL2:L≤64) :
    Calls Tryz.prog 45 #[.agg #[.int .i64 S,.int .i64 L]] w (Wj w (.int .i64 (2+2*(S+L)))):=by
 have B0:Hid (Zi w (w.alloc (.cells #[.int .i64 S,.int .i64 L] 25))):=Yy.alloc YR _
 go_enter Tryz.func45,Tryz.ntmps45
 go_wp2_with fail
 refine (Ps _ S L hS hS2 hL hL2).mono ?_;rintro e w1 ⟨rfl,b1⟩;have B1:=ZU (WD B0.out b1);clear b1 B0;go_wp2;go_ret;exact ⟨rfl,B1.out⟩
def RJ (w:World) (ao bo:Option Addr) (dl ca n cb:Nat) (S L:Int) (W:World):Prop :=
 Hid (Zi w W∧Vg W w.heap.size (.slice ao dl ca) (.slice bo n cb)∧Vg W (w.heap.size+1) (.int .i64 S) (.int .i64 L)) ∧
  W.cell? ⟨w.heap.size,0,none⟩=some (.slice ao dl ca)∧W.cell? ⟨w.heap.size,1,none⟩=some (.slice bo n cb)∧W.cell? ⟨w.heap.size+1,0,none⟩=some (.int .i64 S)∧W.cell? ⟨w.heap.size+1,1,none⟩=some (.int .i64 L)
theorem RJ.mk (h1:Zi w W) (h2:Vg W w.heap.size (.slice ao dl ca) (.slice bo n cb)) (h3:Vg W (w.heap.size+1) (.int .i64 S) (.int .i64 L)):RJ w ao bo dl ca n cb S L W :=
 ⟨⟨h1,h2,h3⟩,h2.2.1,h2.2.2,h3.2.1,h3.2.2⟩
theorem RJ.below (h:RJ w ao bo dl ca n cb S L W) (hb:Zi W W'):RJ w ao bo dl ca n cb S L W' :=
 RJ.mk (h.1.out.1.trans (hb.mono h.1.out.1.size)) (h.1.out.2.1.below hb) (h.1.out.2.2.below hb)
theorem Ox (w:World) (ao bo:Option Addr) (dl ca n cb:Nat) (ps:List (Int × List Int)) (S L:Int) (hp:J8 w (.slice bo n cb) ps) (hl:ps.length=n) (hd1:dl≤1048576) (hn:n≤1048576) (Lm:∀i,(pD ps i).length≤1048576) :
    Calls Tryz.prog 36 #[.agg #[.slice ao dl ca,.slice bo n cb],.agg #[.int .i64 S,.int .i64 L]] w (Wj w (.bool (KN S L dl ps))):=by
 have HP:=ZU hp;have HL:=ZU hl;have AE:=ZU Lm;have B0:Hid (Zi w ((w.alloc (.cells #[.slice ao dl ca,.slice bo n cb] 52)).alloc (.cells #[.int .i64 S,.int .i64 L] 25))):=(Yy.alloc YR _).alloc (by simp) _;have XD:Hid (Vg ((w.alloc (.cells #[.slice ao dl ca,.slice bo n cb] 52)).alloc (.cells #[.int .i64 S,.int .i64 L] 25)) w.heap.size (.slice ao dl ca) (.slice bo n cb)):=(Vg.new w _ _ _).below (Yy.alloc YR _);have XC:Hid (Vg ((w.alloc (.cells #[.slice ao dl ca,.slice bo n cb] 52)).alloc (.cells #[.int .i64 S,.int .i64 L] 25)) (w.heap.size+1) (.int .i64 S) (.int .i64 L)):=by
  have:=Vg.new (w.alloc (.cells #[.slice ao dl ca,.slice bo n cb] 52)) (.int .i64 S) (.int .i64 L) 25;show Vg _ _ _ _
  simpa using this
 obtain ⟨t,ht⟩:∃t,t=Wp S L:=⟨_,rfl⟩;obtain ⟨u,hu⟩:∃u,u=QX dl ps:=⟨_,rfl⟩;have H:Hid (KN S L dl ps=(t && (u && decide (((dl / 64:Nat):Int)=2+2*(S+L))))):=by show _=_;rw [ht,hu];rfl
 have HB:Hid (t=true→(1≤S∧S≤64)∧1≤L∧L≤64):=fun e=>(Xk S L).1 (ht ▸ e)
 have Q:Hid (∀W W',RJ w ao bo dl ca n cb S L W→Zi W W'→RJ w ao bo dl ca n cb S L W'):=fun W W' h1 h4=>h1.below h4
 have V1:Hid (∀W,Calls Tryz.prog 9 #[.agg #[.int .i64 S,.int .i64 L]] W (Wj W (.bool t))):=fun W=>by rw [ht];exact Rs W S L
 have V2:Hid (∀W,RJ w ao bo dl ca n cb S L W→Calls Tryz.prog 80 #[.agg #[.slice ao dl ca,.slice bo n cb]] W (Wj W (.bool u))):=fun W hW=>by rw [hu];exact Qy W ao bo dl ca n cb ps (HP.out.below hW.1.out.1) HL.out hd1 hn AE.out
 clear ht hu hp hl Lm
 go_enter Tryz.func36,Tryz.ntmps36
 go_wp2_with fail
 have S0:=ZU (RJ.mk B0.out XD.out XC.out);clear B0 XD XC;generalize (w.alloc _).alloc _=w0 at *
 cases t with
 | false =>
  refine ZX (S:=RJ w ao bo dl ca n cb S L) (by kernel_rfl) (S0.out.below (below_drewN' w0 1)) (fun Z9=>?_);refine Zf ?_ (by kernel_rfl) (fun _=>id) Z9 ?_ ?_
  rotate_left
  · intro w9 ZQ;obtain ⟨-,k0,k1,k2,k3⟩:=ZQ;go_simp;try with_reducible rfl
  refine YS 1 rfl (by kernel_rfl) (fun K hK=>?_);go_simp;refine (V1.out _).mono ?_;rintro e w1 ⟨rfl,b1⟩;have hN1:=Q.out _ _ Z9 b1;clear b1;clear Z9;refine hK.out _ _ (hN1) (fun Z9=>?_);clear hK K;refine Zf ?_ (by kernel_rfl) (fun _=>id) Z9 ?_ ?_
  rotate_left
  · intro w9 ZQ;obtain ⟨-,k0,k1,k2,k3⟩:=ZQ;go_simp;try with_reducible rfl
  iterate 2 (refine J7 (by kernel_rfl) (fun _=>id) Z9 ?_)
  iterate 2 (refine Zf ?_ (by kernel_rfl) (fun _=>id) Z9 ?_ ?_;rotate_left;· intro w9 ZQ;obtain ⟨-,k0,k1,k2,k3⟩:=ZQ;go_simp;try with_reducible rfl)
  iterate 5 (refine J7 (by kernel_rfl) (fun _=>id) Z9 ?_)
  iterate 2 (refine Zf ?_ (by kernel_rfl) (fun _=>id) Z9 ?_ ?_;rotate_left;· intro w9 ZQ;obtain ⟨-,k0,k1,k2,k3⟩:=ZQ;go_simp;try with_reducible rfl)
  refine ZR (by kernel_rfl) ?_ _
  try simp only [Act.put,WV,WU,WT]
  have BE:=Z9.1;clear Z9;go_wp2;go_ret;exact ⟨Wt (by rw [H.out];simp <;> rfl),BE.out.1⟩
 | true =>
  obtain ⟨⟨hS1,hS2⟩,hL1,hL2⟩:=HB.out rfl
  cases u with
  | false =>
   refine ZX (S:=RJ w ao bo dl ca n cb S L) (by kernel_rfl) (S0.out.below (below_drewN' w0 1)) (fun Z9=>?_);refine Zf ?_ (by kernel_rfl) (fun _=>id) Z9 ?_ ?_
   rotate_left
   · intro w9 ZQ;obtain ⟨-,k0,k1,k2,k3⟩:=ZQ;go_simp;try with_reducible rfl
   refine YS 1 rfl (by kernel_rfl) (fun K hK=>?_);go_simp;refine (V1.out _).mono ?_;rintro e w1 ⟨rfl,b1⟩;have hN1:=Q.out _ _ Z9 b1;clear b1;clear Z9;refine hK.out _ _ (hN1) (fun Z9=>?_);clear hK K
   iterate 2 (refine Zf ?_ (by kernel_rfl) (fun _=>id) Z9 ?_ ?_;rotate_left;· intro w9 ZQ;obtain ⟨-,k0,k1,k2,k3⟩:=ZQ;go_simp;try with_reducible rfl)
   refine YS 4 rfl (by kernel_rfl) (fun K hK=>?_);go_simp;refine (V2.out _ Z9).mono ?_;rintro e w2 ⟨rfl,b2⟩;have tG:=Q.out _ _ Z9 b2;clear b2;clear Z9;refine hK.out _ _ (tG) (fun Z9=>?_);clear hK K
   iterate 2 (refine Zf ?_ (by kernel_rfl) (fun _=>id) Z9 ?_ ?_;rotate_left;· intro w9 ZQ;obtain ⟨-,k0,k1,k2,k3⟩:=ZQ;go_simp;try with_reducible rfl)
   iterate 5 (refine J7 (by kernel_rfl) (fun _=>id) Z9 ?_)
   iterate 2 (refine Zf ?_ (by kernel_rfl) (fun _=>id) Z9 ?_ ?_;rotate_left;· intro w9 ZQ;obtain ⟨-,k0,k1,k2,k3⟩:=ZQ;go_simp;try with_reducible rfl)
   refine ZR (by kernel_rfl) ?_ _
   try simp only [Act.put,WV,WU,WT]
   have BE:=Z9.1;clear Z9;go_wp2;go_ret;exact ⟨Wt (by rw [H.out];simp <;> rfl),BE.out.1⟩
  | true =>
   refine ZX (S:=RJ w ao bo dl ca n cb S L) (by kernel_rfl) (S0.out.below (below_drewN' w0 1)) (fun Z9=>?_);refine Zf ?_ (by kernel_rfl) (fun _=>id) Z9 ?_ ?_
   rotate_left
   · intro w9 ZQ;obtain ⟨-,k0,k1,k2,k3⟩:=ZQ;go_simp;try with_reducible rfl
   refine YS 1 rfl (by kernel_rfl) (fun K hK=>?_);go_simp;refine (V1.out _).mono ?_;rintro e w1 ⟨rfl,b1⟩;have hN1:=Q.out _ _ Z9 b1;clear b1;clear Z9;refine hK.out _ _ (hN1) (fun Z9=>?_);clear hK K
   iterate 2 (refine Zf ?_ (by kernel_rfl) (fun _=>id) Z9 ?_ ?_;rotate_left;· intro w9 ZQ;obtain ⟨-,k0,k1,k2,k3⟩:=ZQ;go_simp;try with_reducible rfl)
   refine YS 4 rfl (by kernel_rfl) (fun K hK=>?_);go_simp;refine (V2.out _ Z9).mono ?_;rintro e w2 ⟨rfl,b2⟩;have tG:=Q.out _ _ Z9 b2;clear b2;clear Z9;refine hK.out _ _ (tG) (fun Z9=>?_);clear hK K
   iterate 3 (refine Zf ?_ (by kernel_rfl) (fun _=>id) Z9 ?_ ?_;rotate_left;· intro w9 ZQ;obtain ⟨-,k0,k1,k2,k3⟩:=ZQ;go_simp;try with_reducible rfl)
   refine Yp 9 ?v49 rfl (by kernel_rfl) (fun _=>id) Z9 ?Y8 ?_
   case Y8=>intro w9 ZQ;obtain ⟨-,k0,k1,k2,k3⟩:=ZQ;go_simp;try with_reducible rfl
   refine YS 8 rfl (by kernel_rfl) (fun K hK=>?_);go_simp;refine (Ss _ ao dl ca _ hd1).mono ?_;rintro e w3 ⟨rfl,b3⟩;have Y7:=Q.out _ _ Z9 b3;clear b3;clear Z9;refine hK.out _ _ (Y7) (fun Z9=>?_);clear hK K;refine YS 10 rfl (by kernel_rfl) (fun K hK=>?_);go_simp;refine (Pr _ S L hS1 hS2 hL1 hL2).mono ?_;rintro e w4 ⟨rfl,b4⟩;have Jf:=Q.out _ _ Z9 b4;clear b4;clear Z9;refine hK.out _ _ (Jf) (fun Z9=>?_);clear hK K
   iterate 3 (refine Zf ?_ (by kernel_rfl) (fun _=>id) Z9 ?_ ?_;rotate_left;· intro w9 ZQ;obtain ⟨-,k0,k1,k2,k3⟩:=ZQ;go_simp;try with_reducible rfl)
   refine ZR (by kernel_rfl) ?_ _
   try simp only [Act.put,WV,WU,WT]
   have BE:=Z9.1;clear Z9;go_wp2;go_ret;exact ⟨Wt (by rw [H.out];simp <;> rfl),BE.out.1⟩
theorem Nr (S L:Int) (dl:Nat) (ps:List (Int × List Int)) (Xc:Int):FF S L dl ps Xc=true↔KN S L dl ps=true∧0≤Xc∧Xc≤1:=by
 unfold FF;simp only [ZA,Zj]
theorem kF {Xc:Int} {log:Bool} (h:FF S L dl ps Xc=true) :
    ∃f l:Nat,Ry S L Xc log=f∧Jg S L log=l∧2≤f∧1≤l∧l≤64∧f+l≤dl / 64∧(f+l)*64≤dl∧dl / 64≤258:=by
 obtain ⟨h1,h2,h3⟩:=(Nr ..).1 h;obtain ⟨hc,hv,hn⟩:=(RK ..).1 h1;obtain ⟨⟨hS1,hS2⟩,hL1,hL2⟩:=(Xk S L).1 hc;have hm:=((Su _ _).1 hv).1;have hb:Xc=0∨Xc=1:=by omega
 refine ⟨(Ry S L Xc log).toNat,(Jg S L log).toNat,?_⟩;unfold Ry Jg
 rcases hb with rfl | rfl <;> cases log <;> simp <;> omega
theorem RJ.lt (h:RJ w ao bo dl ca n cb S L W):w.heap.size+2≤W.heap.size:=h.1.out.2.2.1
theorem RJ.new (w:World) (ao bo:Option Addr) (dl ca n cb:Nat) (S L:Int) (t1 t2:TypeId):RJ w ao bo dl ca n cb S L ((w.alloc (.cells #[.slice ao dl ca,.slice bo n cb] t1)).alloc (.cells #[.int .i64 S,.int .i64 L] t2)):=by
 refine RJ.mk ((Yy.alloc YR _).alloc (by simp) _) ((Vg.new w _ _ _).below (Yy.alloc YR _)) ?_;have:=Vg.new (w.alloc (.cells #[.slice ao dl ca,.slice bo n cb] t1)) (.int .i64 S) (.int .i64 L) t2
 simpa using this
structure Qm where
 g:Int
 b:Int
 s:Int
 l:Int
 c:Int
def rU (ys:List Int):Qm:=⟨nG ys,nB ys,nS ys,nL ys,nC ys⟩
def Id (S:Int) (ys:List Int):Bool:=decide (OB ys) && decide (nL ys≤S*64)
structure By where
 code:Int
 sp:Qm
 zx:Int
 ns:List Nd
 used:Int
 ops:Int
 YN:List Int
 ps:List (Int × List Int)
def om (code:Int):By:=⟨code,⟨0,0,0,0,0⟩,0,[],0,0,[],[]⟩
def Nq (log:List Int) (e:Nat):List Int:=log.take e++zeros (log.length - (log.take e).length)
def QS (f:Int) (log want:List Int) (b:Nat):Nat→List (Int × List Int)
 | 0=>[]
 | n+1=>(if blk log b=blk want b then [] else [(f+b,blk want b)])++QS f log want (b+1) n
def qb (r:By) (vt v1 v2:Value):Array Value:=#[.int .i64 r.code,.int .i64 r.sp.g,.int .i64 r.sp.b,.int .i64 r.sp.s,.int .i64 r.sp.l,.int .i64 r.sp.c,.int .i64 r.zx,vt,.int .i64 r.used,.int .i64 r.ops,v1,v2]
def D8 (W:World) (b:Nat) (r:By) (vt v1 v2:Value):Prop:=W.heap[b]?=some (.cells (qb r vt v1 v2) 65 (0,0))
theorem D8.lt {b:Nat} {r:By} (h:D8 W b r vt v1 v2):b<W.heap.size:=(Z3.1 h).1
theorem D8.below {b:Nat} {r:By} (h:D8 W b r vt v1 v2) (hb:Zi W W'):D8 W' b r vt v1 v2:=(hb.block _ h.lt).trans h
theorem D8.new (W:World) (r:By) (vt v1 v2:Value):D8 (W.alloc (.cells (qb r vt v1 v2) 65)) W.heap.size r vt v1 v2:=Zs W _
theorem D8.cells {b:Nat} {r:By} (h:D8 W b r vt v1 v2):W.cell? ⟨b,0,none⟩=some (.int .i64 r.code)∧W.cell? ⟨b,1,none⟩=some (.int .i64 r.sp.g)∧W.cell? ⟨b,2,none⟩=some (.int .i64 r.sp.b)∧W.cell? ⟨b,3,none⟩=some (.int .i64 r.sp.s)∧W.cell? ⟨b,4,none⟩=some (.int .i64 r.sp.l)∧W.cell? ⟨b,5,none⟩=some (.int .i64 r.sp.c)∧W.cell? ⟨b,6,none⟩=some (.int .i64 r.zx)∧W.cell? ⟨b,7,none⟩=some vt∧W.cell? ⟨b,8,none⟩=some (.int .i64 r.used)∧W.cell? ⟨b,9,none⟩=some (.int .i64 r.ops)∧W.cell? ⟨b,10,none⟩=some v1∧W.cell? ⟨b,11,none⟩=some v2:=by
 refine ⟨?_,?_,?_,?_,?_,?_,?_,?_,?_,?_,?_,?_⟩ <;> (rw [cell_of h];rfl)
theorem Je {R:List Int} (h:Own .u8 5 w lo u R):Se w lo w.heap.size u (.slice none 0 0) R [] (fun _=>.slice none 0 0) :=
 ⟨h,⟨ZH _ _ _ _,fun i hi=>by simp at hi,fun i j hi=>by simp at hi,fun i hi=>by simp at hi⟩,fun g hg=>(h.lt g hg).2,fun g hg=>by simp [Value.ownBlock] at hg,fun i hi=>by simp at hi,.inl rfl,fun i hi=>by simp at hi⟩
theorem Ql (older:List PanicEntry) (w:World) :
    CallsD Tryz.prog 173 #[] (.panicking ({ v:=.iface 296 (.agg #[]),recovered:=false } :: older)) w fun e u' w' =>
     e=.returned (.tuple #[])∧u'=.panicking ({ v:=.iface 296 (.agg #[]),recovered:=true } :: older)∧Zi w w':=by
 refine UA Tryz.func173 rfl fun c₀ cs hu=>?_
 apply TM
 simp [wpOpsS,go_sem,recoverD,hu,Tryz.ntmps173]
 refine (BQ w).mono ?_;rintro e w' ⟨rfl,bw⟩
 simp_all [bodyPostS,results,Tryz.results173]
theorem KJ (w:World) :
    CallsD Tryz.prog 173 #[] .returning w fun e u' w'=>e=.returned (.tuple #[])∧u'=.returning∧w'=w:=by
 refine UA Tryz.func173 rfl fun c₀ cs hu=>?_
 apply TM
 simp [wpOpsS,go_sem,recoverD,hu,Tryz.ntmps173]
 refine (BR w).mono ?_;rintro e w' ⟨rfl,rfl⟩
 cases c₀
 simp_all [bodyPostS,results,Tryz.results173]
def zeroV:Value:=.agg #[.bool false,.int .i64 0,.int .i64 0,.int .i64 0,.int .i64 0,.int .i64 0]
def Zr (W:World) (k:Nat):Prop :=
 W.cell? ⟨k,0,none⟩=some (.bool false)∧W.cell? ⟨k,1,none⟩=some (.int .i64 0)∧W.cell? ⟨k,2,none⟩=some (.int .i64 0)∧W.cell? ⟨k,3,none⟩=some (.int .i64 0)∧W.cell? ⟨k,4,none⟩=some (.int .i64 0)∧W.cell? ⟨k,5,none⟩=some (.int .i64 0)
theorem Zr.same (h:Zr W k) (he:∀j,W'.cell? ⟨k,j,none⟩=W.cell? ⟨k,j,none⟩):Zr W' k:=by
 obtain ⟨h0,h1,h2,h3,h4,h5⟩:=h;exact ⟨(he 0).trans h0,(he 1).trans h1,(he 2).trans h2,(he 3).trans h3,(he 4).trans h4,(he 5).trans h5⟩
def DS (w W:World) (zs:List Int) (g b s l c:Int):Prop :=
 RS w W (w.heap.size+1) zs∧Zr W w.heap.size∧qd W (w.heap.size+1+1) g b s l c∧(∀j,W.frozen? ⟨w.heap.size+1+1,j,none⟩=false)∧∀j,W.frozen? ⟨w.heap.size,j,none⟩=false
theorem DS.below (h:DS w W zs g b s l c):Zi w W:=h.1.2.2.2.1
theorem DS.number {zs':List Int} {v':Value} {q:Nat} (h:DS w W zs g b s l c) (hr:RS w ((W.setCell ⟨w.heap.size+1,0,none⟩ v').drewN q) (w.heap.size+1) zs'):DS w ((W.setCell ⟨w.heap.size+1,0,none⟩ v').drewN q) zs' g b s l c:=by
 obtain ⟨-,hz,hx,hf,hf0⟩:=h;refine ⟨hr,?_,?_,?_,?_⟩
 · exact Zr.same hz (fun j=>ZV _ _ _ _ (by intro e;injection e with e;omega))
 · obtain ⟨x0,x1,x2,x3,x4,x5⟩:=hx
   have e:∀j,((W.setCell ⟨w.heap.size+1,0,none⟩ v').drewN q).cell? ⟨w.heap.size+1+1,j,none⟩=W.cell? ⟨w.heap.size+1+1,j,none⟩:=fun j=>ZV _ _ _ _ (by intro e;injection e with e;omega)
   exact ⟨by show _<(W.setCell _ _).heap.size;simpa using x0,(e 0).trans x1,(e 1).trans x2,(e 2).trans x3,(e 3).trans x4,(e 4).trans x5⟩
 · intro j;show (W.setCell _ _).frozen? _=false;rw [Zb];exact hf j
 intro j;show (W.setCell _ _).frozen? _=false;rw [Zb];exact hf0 j
theorem DS.put {g' b' s' l' c':Int} (i:Nat) (z:Int) (h:DS w W zs g b s l c)
    (hx:qd (W.setCell ⟨w.heap.size+1+1,i,none⟩ (.int .i64 z)) (w.heap.size+1+1) g' b' s' l' c'):DS w (W.setCell ⟨w.heap.size+1+1,i,none⟩ (.int .i64 z)) zs g' b' s' l' c':=by
 obtain ⟨⟨r1,r2,r3,r4,v,r5,r6⟩,hz,-,hf,hf0⟩:=h;refine ⟨⟨r1,by simpa using r2,by rw [Zb];exact r3,r4.setCell (by show _≤w.heap.size+1+1;omega) _,v,?_,r6⟩,?_,hx,?_,?_⟩
 · rw [ZV _ _ _ _ (by intro e;injection e with e;omega)];exact r5
 · exact Zr.same hz (fun j=>ZV _ _ _ _ (by intro e;injection e with e;omega))
 · intro j;rw [Zb];exact hf j
 intro j;rw [Zb];exact hf0 j
theorem DS.oB (z:Int) (h:DS w W zs g b s l c):DS w (W.setCell ⟨w.heap.size+1+1,0,none⟩ (.int .i64 z)) zs z b s l c:=by
 obtain ⟨x0,x1,x2,x3,x4,x5⟩:=h.2.2.1;exact h.put 0 z ⟨by simpa using x0,Zk _ _ _ x1,(ZV _ _ _ _ (by intro e;injection e with _ e;omega)).trans x2,(ZV _ _ _ _ (by intro e;injection e with _ e;omega)).trans x3,(ZV _ _ _ _ (by intro e;injection e with _ e;omega)).trans x4,(ZV _ _ _ _ (by intro e;injection e with _ e;omega)).trans x5⟩
theorem DS.oA (z:Int) (h:DS w W zs g b s l c):DS w (W.setCell ⟨w.heap.size+1+1,1,none⟩ (.int .i64 z)) zs g z s l c:=by
 obtain ⟨x0,x1,x2,x3,x4,x5⟩:=h.2.2.1;exact h.put 1 z ⟨by simpa using x0,(ZV _ _ _ _ (by intro e;injection e with _ e;omega)).trans x1,Zk _ _ _ x2,(ZV _ _ _ _ (by intro e;injection e with _ e;omega)).trans x3,(ZV _ _ _ _ (by intro e;injection e with _ e;omega)).trans x4,(ZV _ _ _ _ (by intro e;injection e with _ e;omega)).trans x5⟩
theorem DS.oz (z:Int) (h:DS w W zs g b s l c):DS w (W.setCell ⟨w.heap.size+1+1,2,none⟩ (.int .i64 z)) zs g b z l c:=by
 obtain ⟨x0,x1,x2,x3,x4,x5⟩:=h.2.2.1;exact h.put 2 z ⟨by simpa using x0,(ZV _ _ _ _ (by intro e;injection e with _ e;omega)).trans x1,(ZV _ _ _ _ (by intro e;injection e with _ e;omega)).trans x2,Zk _ _ _ x3,(ZV _ _ _ _ (by intro e;injection e with _ e;omega)).trans x4,(ZV _ _ _ _ (by intro e;injection e with _ e;omega)).trans x5⟩
theorem DS.oy (z:Int) (h:DS w W zs g b s l c):DS w (W.setCell ⟨w.heap.size+1+1,3,none⟩ (.int .i64 z)) zs g b s z c:=by
 obtain ⟨x0,x1,x2,x3,x4,x5⟩:=h.2.2.1;exact h.put 3 z ⟨by simpa using x0,(ZV _ _ _ _ (by intro e;injection e with _ e;omega)).trans x1,(ZV _ _ _ _ (by intro e;injection e with _ e;omega)).trans x2,(ZV _ _ _ _ (by intro e;injection e with _ e;omega)).trans x3,Zk _ _ _ x4,(ZV _ _ _ _ (by intro e;injection e with _ e;omega)).trans x5⟩
theorem DS.ox (z:Int) (h:DS w W zs g b s l c):DS w (W.setCell ⟨w.heap.size+1+1,4,none⟩ (.int .i64 z)) zs g b s l z:=by
 obtain ⟨x0,x1,x2,x3,x4,x5⟩:=h.2.2.1;exact h.put 4 z ⟨by simpa using x0,(ZV _ _ _ _ (by intro e;injection e with _ e;omega)).trans x1,(ZV _ _ _ _ (by intro e;injection e with _ e;omega)).trans x2,(ZV _ _ _ _ (by intro e;injection e with _ e;omega)).trans x3,(ZV _ _ _ _ (by intro e;injection e with _ e;omega)).trans x4,Zk _ _ _ x5⟩
theorem DS.start (w:World) (ao:Option Addr) (ys:List Int) (cap:Nat) (h:Rd .u8 w (.slice ao ys.length cap) ys) :
    DS w (((w.alloc (.cells #[.bool false,.int .i64 0,.int .i64 0,.int .i64 0,.int .i64 0,.int .i64 0] 97)).alloc (.cells #[.slice ao ys.length cap] 256)).alloc (.cells #[.int .i64 0,.int .i64 0,.int .i64 0,.int .i64 0,.int .i64 0] 60)) ys 0 0 0 0 0:=by
 refine ⟨⟨by omega,by simp,(by go_simp),((Yy.alloc YR _).alloc (by simp) _).alloc (by simp;omega) _,_,(by go_simp),h⟩,⟨(by go_simp),(by go_simp),(by go_simp),(by go_simp),(by go_simp),(by go_simp)⟩,⟨by simp,(by go_simp),(by go_simp),(by go_simp),(by go_simp),(by go_simp)⟩,fun j=>(by go_simp),fun j=>(by go_simp)⟩
theorem Qk (h:ys.length<21):Iq ys=zeroV:=by
 unfold Iq;rw [Z1 (fun h'=>by have:=h'.1;omega)];rfl
theorem DS.keep (h:DS w W zs g b s l c) (hb:Zi W W'):DS w W' zs g b s l c:=by
 have hs:=h.2.2.1.1;obtain ⟨hr,hz,hx,hf,hf0⟩:=h;exact ⟨hr.keep hb hr.2.1,Zr.same hz (fun j=>hb.cell (p:=⟨w.heap.size,j,none⟩) (by show w.heap.size<_;omega)),hx.below hb hs,fun j=>(hb.frozen (p:=⟨w.heap.size+1+1,j,none⟩) hs).trans (hf j),fun j=>(hb.frozen (p:=⟨w.heap.size,j,none⟩) (by show w.heap.size<_;omega)).trans (hf0 j)⟩
theorem rT (g b s l c:Int):Sn (sup g b s l c):=by
 unfold sup
 split
 · unfold Ay
   intro x hx
   simp only [Y4] at hx
   rcases hx with (((((hx | hx) | hx) | hx) | hx) | hx) | hx
   · exact Tm _ _ x hx
   · exact Tm _ _ x hx
   · exact Tm _ _ x hx
   · exact Tm _ _ x hx
   · exact Tm _ _ x hx
   · have:=Ug hx;omega
   exact Tm _ _ x hx
 intro x hx;cases hx
theorem wrap_small (h:Sn ys) (n:Nat) (hn:n≤4):wrap64 ((Uh (ys.take n):Nat):Int)=((Uh (ys.take n):Nat):Int):=by
 have hb:=(MO (ys.take n).length (ys.take n) rfl (fun x hx=>h x (Xa hx))).2;have h1:256 ^ (ys.take n).length≤256 ^ 4:=Wx (by omega) (by rw [Zw];omega);have h2:Uh (ys.take n)<4294967296:=ZY hb h1;unfold wrap64;omega
theorem ol (h:Sn ys) (hl:21≤ys.length) {z0 z1 z2 z3 z4:Int} (h0:z0=wrap64 ((Uh (ys.take 8):Nat):Int)) (h1:z1=wrap64 ((Uh ((ys.drop 8).take 1):Nat):Int))
    (h2:z2=wrap64 ((Uh ((ys.drop 9).take 4):Nat):Int)) (h3:z3=wrap64 ((Uh ((ys.drop 13).take 4):Nat):Int)) (h4:z4=wrap64 ((Uh ((ys.drop 17).take 4):Nat):Int)) :
    Iq ys=if sup z0 z1 z2 z3 z4=ys then .agg #[.bool true,.int .i64 z0,.int .i64 z1,.int .i64 z2,.int .i64 z3,.int .i64 z4] else zeroV:=by
 have hd:∀k,Sn (ys.drop k):=fun k x hx=>h x (XV hx)
 rw [wrap_small (hd 8) 1 (by omega)] at h1;rw [wrap_small (hd 9) 4 (by omega)] at h2;rw [wrap_small (hd 13) 4 (by omega)] at h3;rw [wrap_small (hd 17) 4 (by omega)] at h4;have e0:z0=nG ys:=h0;have e1:z1=nB ys:=h1;have e2:z2=nS ys:=h2;have e3:z3=nL ys:=h3;have e4:z4=nC ys:=h4;rw [e0,e1,e2,e3,e4];unfold Iq
 by_cases hs:sup (nG ys) (nB ys) (nS ys) (nL ys) (nC ys)=ys
 · rw [Z0 hs,Z0 (show OB ys from ⟨Aw hs (fun e=>by rw [e] at hl;simp at hl),hs⟩)]
 rw [Z1 hs,Z1 (show ¬OB ys from fun h=>hs h.2)];rfl
theorem FE (w:World) (v:Value) (ys:List Int) (h:Rd .u8 w v ys) (hby:Sn ys) :
    Calls Tryz.prog 132 #[v] w fun e w'=>e=.returned (Iq ys)∧Zi w w':=by
 obtain ⟨ao,cap,rfl,-,-⟩:=h.len;have HR:=ZU h;have Lc:=ZU hby
 have D0:=ZU (DS.start w ao ys cap h);clear h hby
 have hm:=eM
 go_enter_defers Tryz.func132,Tryz.ntmps132
 go_wp2_with fail
 generalize (((w.alloc _).alloc _).alloc _)=W0 at *
 by_cases hl0:8≤ys.length
 rotate_left
 · refine (VG w _ (w.heap.size+1) 8 (ys) D0.out.1 (by omega)).mono ?_
   rintro e W ⟨rfl,rfl⟩;refine XE (f:=173) (args:=#[]) (by simp) (by simp [go_sem]) ?_;refine (Ql [] _).mono ?_;rintro e u' w2 ⟨rfl,rfl,b2⟩;have Z2:=Zr.same D0.out.2.1 (fun q=>b2.cell (p:=⟨w.heap.size,q,none⟩) (by have:=D0.out.1.2.1;show w.heap.size<_;omega));obtain ⟨z0,z1,z2,z3,z4,z5⟩:=Z2;rw [Qk (by omega)];have B2:=D0.out.below.trans (b2.mono D0.out.below.size)
   simp [Leaves,settle,results,Tryz.results132,go_sem,z0,z1,z2,z3,z4,z5,B2,zeroV]
 refine (Vc w _ (w.heap.size+1) 8 (ys) D0.out.1 (by omega) (by omega) (by omega) (Lc.out)).mono ?_;rintro e W ⟨rfl,hr,v',q,rfl⟩;have G:Hid (DS w ((W0.setCell ⟨w.heap.size+1,0,none⟩ v').drewN q) (ys.drop 8) 0 0 0 0 0):=by
  have:=D0.out.number hr;exact this
 clear hr;generalize (W0.setCell _ _).drewN q=V0 at *;obtain ⟨z0,hz0⟩:∃z,z=(wrap64 ((Uh ((ys).take 8):Nat):Int)):=⟨_,rfl⟩;rw [←hz0];have HZ0:=ZU hz0;clear hz0 D0;obtain ⟨y0,y1,y2,y3,y4,y5⟩:=G.out.2.2.1;have yf:=G.out.2.2.2.1 0;have D1:=ZU (G.out.oB z0)
 go_wp2_with fail
 clear y0 y1 y2 y3 y4 y5 yf G;generalize V0.setCell _ _=W1 at *
 by_cases hl1:9≤ys.length
 rotate_left
 · refine (VG w _ (w.heap.size+1) 1 (ys.drop 8) D1.out.1 (by rw [ZS];omega)).mono ?_
   rintro e W ⟨rfl,rfl⟩;refine XE (f:=173) (args:=#[]) (by simp) (by simp [go_sem]) ?_;refine (Ql [] _).mono ?_;rintro e u' w2 ⟨rfl,rfl,b2⟩;have Z2:=Zr.same D1.out.2.1 (fun q=>b2.cell (p:=⟨w.heap.size,q,none⟩) (by have:=D1.out.1.2.1;show w.heap.size<_;omega));obtain ⟨z0,z1,z2,z3,z4,z5⟩:=Z2;rw [Qk (by omega)];have B2:=D1.out.below.trans (b2.mono D1.out.below.size)
   simp [Leaves,settle,results,Tryz.results132,go_sem,z0,z1,z2,z3,z4,z5,B2,zeroV]
 refine (Vc w _ (w.heap.size+1) 1 (ys.drop 8) D1.out.1 (by rw [ZS];omega) (by omega) (by omega) (fun x hx=>Lc.out x (XV hx))).mono ?_;rintro e W ⟨rfl,hr,v',q,rfl⟩;have F:Hid (DS w ((W1.setCell ⟨w.heap.size+1,0,none⟩ v').drewN q) (ys.drop 9) z0 0 0 0 0):=by
  have:=D1.out.number hr;rw [Yc] at this;exact this
 clear hr;generalize (W1.setCell _ _).drewN q=V1 at *;obtain ⟨z1,hz1⟩:∃z,z=(wrap64 ((Uh ((ys.drop 8).take 1):Nat):Int)):=⟨_,rfl⟩;rw [←hz1];have HZ1:=ZU hz1;clear hz1 D1;obtain ⟨y0,y1,y2,y3,y4,y5⟩:=F.out.2.2.1;have yf:=F.out.2.2.2.1 1;have D2:=ZU (F.out.oA z1)
 go_wp2_with fail
 clear y0 y1 y2 y3 y4 y5 yf F;generalize V1.setCell _ _=W2 at *
 by_cases hl2:13≤ys.length
 rotate_left
 · refine (VG w _ (w.heap.size+1) 4 (ys.drop 9) D2.out.1 (by rw [ZS];omega)).mono ?_
   rintro e W ⟨rfl,rfl⟩;refine XE (f:=173) (args:=#[]) (by simp) (by simp [go_sem]) ?_;refine (Ql [] _).mono ?_;rintro e u' w2 ⟨rfl,rfl,b2⟩;have Z2:=Zr.same D2.out.2.1 (fun q=>b2.cell (p:=⟨w.heap.size,q,none⟩) (by have:=D2.out.1.2.1;show w.heap.size<_;omega));obtain ⟨z0,z1,z2,z3,z4,z5⟩:=Z2;rw [Qk (by omega)];have B2:=D2.out.below.trans (b2.mono D2.out.below.size)
   simp [Leaves,settle,results,Tryz.results132,go_sem,z0,z1,z2,z3,z4,z5,B2,zeroV]
 refine (Vc w _ (w.heap.size+1) 4 (ys.drop 9) D2.out.1 (by rw [ZS];omega) (by omega) (by omega) (fun x hx=>Lc.out x (XV hx))).mono ?_;rintro e W ⟨rfl,hr,v',q,rfl⟩;have E:Hid (DS w ((W2.setCell ⟨w.heap.size+1,0,none⟩ v').drewN q) (ys.drop 13) z0 z1 0 0 0):=by
  have:=D2.out.number hr;rw [Yc] at this;exact this
 clear hr;generalize (W2.setCell _ _).drewN q=V2 at *;obtain ⟨z2,hz2⟩:∃z,z=(wrap64 ((Uh ((ys.drop 9).take 4):Nat):Int)):=⟨_,rfl⟩;rw [←hz2];have HZ2:=ZU hz2;clear hz2 D2;obtain ⟨y0,y1,y2,y3,y4,y5⟩:=E.out.2.2.1;have yf:=E.out.2.2.2.1 2;have D3:=ZU (E.out.oz z2)
 go_wp2_with fail
 clear y0 y1 y2 y3 y4 y5 yf E;generalize V2.setCell _ _=W3 at *
 by_cases hl3:17≤ys.length
 rotate_left
 · refine (VG w _ (w.heap.size+1) 4 (ys.drop 13) D3.out.1 (by rw [ZS];omega)).mono ?_
   rintro e W ⟨rfl,rfl⟩;refine XE (f:=173) (args:=#[]) (by simp) (by simp [go_sem]) ?_;refine (Ql [] _).mono ?_;rintro e u' w2 ⟨rfl,rfl,b2⟩;have Z2:=Zr.same D3.out.2.1 (fun q=>b2.cell (p:=⟨w.heap.size,q,none⟩) (by have:=D3.out.1.2.1;show w.heap.size<_;omega));obtain ⟨z0,z1,z2,z3,z4,z5⟩:=Z2;rw [Qk (by omega)];have B2:=D3.out.below.trans (b2.mono D3.out.below.size)
   simp [Leaves,settle,results,Tryz.results132,go_sem,z0,z1,z2,z3,z4,z5,B2,zeroV]
 refine (Vc w _ (w.heap.size+1) 4 (ys.drop 13) D3.out.1 (by rw [ZS];omega) (by omega) (by omega) (fun x hx=>Lc.out x (XV hx))).mono ?_;rintro e W ⟨rfl,hr,v',q,rfl⟩;have d:Hid (DS w ((W3.setCell ⟨w.heap.size+1,0,none⟩ v').drewN q) (ys.drop 17) z0 z1 z2 0 0):=by
  have:=D3.out.number hr;rw [Yc] at this;exact this
 clear hr;generalize (W3.setCell _ _).drewN q=V3 at *;obtain ⟨z3,hz3⟩:∃z,z=(wrap64 ((Uh ((ys.drop 13).take 4):Nat):Int)):=⟨_,rfl⟩;rw [←hz3];have HZ3:=ZU hz3;clear hz3 D3;obtain ⟨y0,y1,y2,y3,y4,y5⟩:=d.out.2.2.1;have yf:=d.out.2.2.2.1 3;have D4:=ZU (d.out.oy z3)
 go_wp2_with fail
 clear y0 y1 y2 y3 y4 y5 yf d;generalize V3.setCell _ _=W4 at *
 by_cases hl4:21≤ys.length
 rotate_left
 · refine (VG w _ (w.heap.size+1) 4 (ys.drop 17) D4.out.1 (by rw [ZS];omega)).mono ?_
   rintro e W ⟨rfl,rfl⟩;refine XE (f:=173) (args:=#[]) (by simp) (by simp [go_sem]) ?_;refine (Ql [] _).mono ?_;rintro e u' w2 ⟨rfl,rfl,b2⟩;have Z2:=Zr.same D4.out.2.1 (fun q=>b2.cell (p:=⟨w.heap.size,q,none⟩) (by have:=D4.out.1.2.1;show w.heap.size<_;omega));obtain ⟨z0,z1,z2,z3,z4,z5⟩:=Z2;rw [Qk (by omega)];have B2:=D4.out.below.trans (b2.mono D4.out.below.size)
   simp [Leaves,settle,results,Tryz.results132,go_sem,z0,z1,z2,z3,z4,z5,B2,zeroV]
 refine (Vc w _ (w.heap.size+1) 4 (ys.drop 17) D4.out.1 (by rw [ZS];omega) (by omega) (by omega) (fun x hx=>Lc.out x (XV hx))).mono ?_;rintro e W ⟨rfl,hr,v',q,rfl⟩;have Z':Hid (DS w ((W4.setCell ⟨w.heap.size+1,0,none⟩ v').drewN q) (ys.drop 21) z0 z1 z2 z3 0):=by
  have:=D4.out.number hr;rw [Yc] at this;exact this
 clear hr;generalize (W4.setCell _ _).drewN q=V4 at *;obtain ⟨z4,qk⟩:∃z,z=(wrap64 ((Uh ((ys.drop 17).take 4):Nat):Int)):=⟨_,rfl⟩;rw [←qk];have ig:=ZU qk;clear qk D4;obtain ⟨y0,y1,y2,y3,y4,y5⟩:=Z'.out.2.2.1;have yf:=Z'.out.2.2.2.1 4;have D5:=ZU (Z'.out.ox z4)
 go_wp2_with fail
 clear y0 y1 y2 y3 y4 y5 yf Z';generalize V4.setCell _ _=W5 at *;have Z8:=ZU (ol Lc.out hl4 HZ0.out HZ1.out HZ2.out HZ3.out ig.out);refine (Qw _ z0 z1 z2 z3 z4).mono ?_;rintro e W6 ⟨v6,rfl,o6,b6⟩;have s5:=D5.out.1.2.1;have YL:=D5.out.2.2.1.1;have D6:=ZU (D5.out.keep b6);have O6:=ZU o6;have Ai:=ZU (HR.out.below D6.out.below);clear o6 b6 D5
 go_wp2_with fail
 refine (Lz _ _ _ (sup z0 z1 z2 z3 z4) ys O6.out.rd Ai.out (rT _ _ _ _ _) Lc.out).mono ?_;rintro e W7 ⟨rfl,rfl⟩;obtain ⟨y0,y1,y2,y3,y4,y5⟩:=D6.out.2.2.1;obtain ⟨x0,x1,x2,x3,x4,x5⟩:=D6.out.2.1;have f0:=D6.out.2.2.2.2 0;have f1:=D6.out.2.2.2.2 1;have f2:=D6.out.2.2.2.2 2;have f3:=D6.out.2.2.2.2 3;have f4:=D6.out.2.2.2.2 4;have f5:=D6.out.2.2.2.2 5;have BB:=ZU D6.out.below
 by_cases hd:sup z0 z1 z2 z3 z4=ys
 · have O:Hid (Iq ys=.agg #[.bool true,.int .i64 z0,.int .i64 z1,.int .i64 z2,.int .i64 z3,.int .i64 z4]):=by show _=_;rw [Z8.out,Z0 hd]
   rw [Zm hd];clear hd Z8;go_wp2;refine XE (f:=173) (args:=#[]) (by simp) (by simp [go_sem]) ?_;refine (KJ _).mono ?_;rintro e u' w2 ⟨rfl,rfl,rfl⟩;rw [O.out];have BW:=(((((BB.out.setCell (p:=⟨w.heap.size,0,none⟩) YR (.bool true)).setCell (p:=⟨w.heap.size,1,none⟩) YR (.int .i64 z0)).setCell (p:=⟨w.heap.size,2,none⟩) YR (.int .i64 z1)).setCell (p:=⟨w.heap.size,3,none⟩) YR (.int .i64 z2)).setCell (p:=⟨w.heap.size,4,none⟩) YR (.int .i64 z3)).setCell (p:=⟨w.heap.size,5,none⟩) YR (.int .i64 z4)
   simp [Leaves,settle,results,Tryz.results132,go_sem,x0,x1,x2,x3,x4,x5,BW]
 have O:Hid (Iq ys=zeroV):=by show _=_;rw [Z8.out,Z1 hd]
 rw [Zo hd];clear hd Z8;go_wp2;refine XE (f:=173) (args:=#[]) (by simp) (by simp [go_sem]) ?_;refine (KJ _).mono ?_;rintro e u' w2 ⟨rfl,rfl,rfl⟩;rw [O.out];have BW:=(((((BB.out.setCell (p:=⟨w.heap.size,0,none⟩) YR (.bool false)).setCell (p:=⟨w.heap.size,1,none⟩) YR (.int .i64 0)).setCell (p:=⟨w.heap.size,2,none⟩) YR (.int .i64 0)).setCell (p:=⟨w.heap.size,3,none⟩) YR (.int .i64 0)).setCell (p:=⟨w.heap.size,4,none⟩) YR (.int .i64 0)).setCell (p:=⟨w.heap.size,5,none⟩) YR (.int .i64 0)
 simp [Leaves,settle,results,Tryz.results132,go_sem,x0,x1,x2,x3,x4,x5,BW,zeroV]
def PN (w:World) (S L:Int) (W:World):Prop :=
 Hid (Zi w W∧Vg W w.heap.size (.int .i64 S) (.int .i64 L)∧∃x y,SU W (w.heap.size+1) x y)∧W.cell? ⟨w.heap.size,0,none⟩=some (.int .i64 S)∧W.cell? ⟨w.heap.size,1,none⟩=some (.int .i64 L)
theorem PN.below (h:PN w S L W) (hb:Zi W W'):PN w S L W':=by
 obtain ⟨x,y,hx⟩:=h.1.out.2.2;exact ⟨⟨h.1.out.1.trans (hb.mono h.1.out.1.size),h.1.out.2.1.below hb,x,y,hx.below hb⟩,(h.1.out.2.1.below hb).2.1,(h.1.out.2.1.below hb).2.2⟩
theorem PN.new (w:World) (S L:Int) (t1 t2:TypeId):PN w S L ((w.alloc (.cells #[.int .i64 S,.int .i64 L] t1)).alloc (.cells #[.int .i64 0,.int .i64 0] t2)):=by
 have h1:=(Vg.new w (.int .i64 S) (.int .i64 L) t1).below (Yy.alloc YR (.cells #[.int .i64 0,.int .i64 0] t2));have h2:=SU.new (w.alloc (.cells #[.int .i64 S,.int .i64 L] t1)) (.int .i64 0) (.int .i64 0) t2;exact ⟨⟨(Yy.alloc YR _).alloc (by simp) _,h1,_,_,by simpa using h2⟩,h1.2.1,h1.2.2⟩
theorem SU.stored {b:Nat} {x y:Value} (h:SU W b x y) (u v:Value):SU ((W.setCell ⟨b,0,none⟩ u).setCell ⟨b,1,none⟩ v) b u v:=by
 obtain ⟨⟨z,c0,c1⟩,f0,f1⟩:=h;exact ⟨⟨by simpa using z,by go_simp,by go_simp⟩,by simpa using f0,by simpa using f1⟩
theorem PN.stored (h:PN w S L W) (u v:Value):Vg ((W.setCell ⟨w.heap.size+1,0,none⟩ u).setCell ⟨w.heap.size+1,1,none⟩ v) (w.heap.size+1) u v:=by
 obtain ⟨x,y,hx⟩:=h.1.out.2.2;exact (hx.stored u v).1
theorem PN.store (h:PN w S L W) (u v:Value):PN w S L ((W.setCell ⟨w.heap.size+1,0,none⟩ u).setCell ⟨w.heap.size+1,1,none⟩ v):=by
 obtain ⟨x,y,hx⟩:=h.1.out.2.2;have hb:Below (w.heap.size+1) W ((W.setCell ⟨w.heap.size+1,0,none⟩ u).setCell ⟨w.heap.size+1,1,none⟩ v):=by
  refine Below.setCell (Below.setCell Yy ?_ _) ?_ _ <;> exact YR
 have b1:=h.1.out.2.1;have b2:Vg ((W.setCell ⟨w.heap.size+1,0,none⟩ u).setCell ⟨w.heap.size+1,1,none⟩ v) w.heap.size (.int .i64 S) (.int .i64 L):=⟨ZY b1.1 hb.size,(hb.cell (p:=⟨w.heap.size,0,none⟩) (by show w.heap.size<_;omega)).trans b1.2.1,(hb.cell (p:=⟨w.heap.size,1,none⟩) (by show w.heap.size<_;omega)).trans b1.2.2⟩;exact ⟨⟨h.1.out.1.trans (hb.mono (by omega)),b2,u,v,hx.stored u v⟩,b2.2.1,b2.2.2⟩
theorem Sr (w:World) (S L Xc:Int) (hc:Wp S L=true) (hb:0≤Xc∧Xc≤1) :
    Calls Tryz.prog 49 #[.agg #[.int .i64 S,.int .i64 L],.int .i64 Xc] w (Wj w (.agg #[.int .i64 (Ry S L Xc false),.int .i64 (Jg S L false)])):=by
 obtain ⟨⟨hS1,hS2⟩,hL1,hL2⟩:=(Xk S L).1 hc;clear hc;have hb':Xc=0∨Xc=1:=by omega
 have HA:Hid (Ry S L Xc false=2+Xc*(S+L)∧Jg S L false=S):=by unfold Ry Jg;exact ⟨by simp,rfl⟩
 have hm:0≤Xc*(S+L)∧Xc*(S+L)≤128:=by rcases hb' with rfl | rfl <;> omega
 rw [HA.out.1,HA.out.2]
 go_enter Tryz.func49,Tryz.ntmps49
 go_wp2_with fail
 have F0:Hid (PN w S L ((w.alloc (.cells #[.int .i64 S,.int .i64 L] 25)).alloc (.cells #[.int .i64 0,.int .i64 0] 111))):=PN.new _ _ _ _ _;generalize (w.alloc _).alloc _=w0 at *;refine ZX (S:=PN w S L) (by kernel_rfl) (F0.out.below (below_drewN' w0 1)) (fun Z9=>?_)
 iterate 2 (refine Zf ?_ (by kernel_rfl) (fun _=>id) Z9 ?_ ?_;rotate_left;· intro w9 ZQ;obtain ⟨-,k0,k1⟩:=ZQ;go_simp;try with_reducible rfl)
 refine Yp 5 ?v11 rfl (by kernel_rfl) (fun _=>id) Z9 ?KI ?_
 case KI=>intro w9 ZQ;obtain ⟨-,k0,k1⟩:=ZQ;go_simp;try with_reducible rfl
 refine Yp 6 ?v12 rfl (by kernel_rfl) (fun _=>id) Z9 ?Ds ?_
 case Ds=>intro w9 ZQ;obtain ⟨-,k0,k1⟩:=ZQ;go_simp;try with_reducible rfl
 refine YS 2 rfl (by kernel_rfl) (fun K hK=>?_);go_simp;refine (Ps _ S L hS1 hS2 hL1 hL2).mono ?_;rintro e w2 ⟨rfl,b2⟩;have F2:=ZU (Z9.below b2);clear b2;clear Z9;refine hK.out _ _ (F2.out) (fun Z9=>?_);clear hK K;refine Yp 3 (.int .i64 (Xc*(S+L))) rfl (by kernel_rfl) (fun _=>id) Z9 ?oh ?_
 case oh =>
  intro w9 ZQ;go_simp
  try (rw [Zq];omega)
 refine Yp 4 (.int .i64 (2+Xc*(S+L))) rfl (by kernel_rfl) (fun _=>id) Z9 ?oe ?_
 case oe =>
  intro w9 ZQ;go_simp
  try (rw [Zq];omega)
 refine Zf ?_ (by kernel_rfl) (fun _=>id) Z9 ?_ ?_
 rotate_left
 · intro w9 ZQ;obtain ⟨-,k0,k1⟩:=ZQ;go_simp;try with_reducible rfl
 refine YS 8 rfl (by kernel_rfl) (fun K hK=>?_);obtain ⟨x9,y9,ZL⟩:=F2.out.1.out.2.2;obtain ⟨⟨z9,d0,d1⟩,f0,f1⟩:=ZL;go_simp;have F3:Hid (PN w S L ((w2.setCell ⟨w.heap.size+1,0,none⟩ (.int .i64 (2+Xc*(S+L)))).setCell ⟨w.heap.size+1,1,none⟩ (.int .i64 S))):=F2.out.store _ _;have X3:Hid (Vg ((w2.setCell ⟨w.heap.size+1,0,none⟩ (.int .i64 (2+Xc*(S+L)))).setCell ⟨w.heap.size+1,1,none⟩ (.int .i64 S)) (w.heap.size+1) (.int .i64 (2+Xc*(S+L))) (.int .i64 S)):=F2.out.stored _ _;clear d0 d1 f0 f1 z9 F2;generalize ((w2.setCell _ _).setCell _ _)=w3 at *;clear Z9;refine hK.out _ _ (F3.out) (fun Z9=>?_);clear hK K;refine ZR (by kernel_rfl) ?_ _
 try simp only [Act.put,WV,WU,WT]
 clear Z9;obtain ⟨-,d0,d1⟩:=X3.out;go_wp2;refine ZW (v:=.agg #[.int .i64 (2+Xc*(S+L)),.int .i64 S]) (by simp [results,Tryz.results49,go_sem,d0,d1]) rfl ⟨rfl,F3.out.1.out.1⟩
theorem FC (x y:Value) (W:World):(Instr.field 52 (.agg #[x,y]) 0).run Tryz.prog W=.ok x W:=by kernel_rfl
theorem Ah (x y:Value) (W:World):(Instr.field 111 (.agg #[x,y]) 0).run Tryz.prog W=.ok x W:=by kernel_rfl
theorem RI (w:World) (S L Xc:Int) (hc:Wp S L=true) (hb:0≤Xc∧Xc≤1) :
    Calls Tryz.prog 79 #[.agg #[.int .i64 S,.int .i64 L],.int .i64 Xc] w (Wj w (.agg #[.int .i64 (Ry S L Xc true),.int .i64 (Jg S L true)])):=by
 obtain ⟨⟨hS1,hS2⟩,hL1,hL2⟩:=(Xk S L).1 hc;have HC:Hid (Wp S L=true∧0≤Xc∧Xc≤1):=⟨hc,hb⟩;clear hc;have hb':Xc=0∨Xc=1:=by omega
 have HA:Hid (Ry S L Xc true=Ry S L Xc false+S∧Jg S L true=L):=by unfold Ry Jg;exact ⟨by simp,rfl⟩
 have hm:2≤Ry S L Xc false∧Ry S L Xc false≤130:=by unfold Ry;rcases hb' with rfl | rfl <;> simp <;> omega
 rw [HA.out.1,HA.out.2];have kE:Hid (∀W,Calls Tryz.prog 49 #[.agg #[.int .i64 S,.int .i64 L],.int .i64 Xc] W (Wj W (.agg #[.int .i64 (Ry S L Xc false),.int .i64 (Jg S L false)]))):=fun W=>Sr W S L Xc HC.out.1 HC.out.2
 generalize Ry S L Xc false=q at *;generalize Jg S L false=q2 at *;clear hb hb'
 go_enter Tryz.func79,Tryz.ntmps79
 go_wp2_with fail
 have F0:Hid (PN w S L ((w.alloc (.cells #[.int .i64 S,.int .i64 L] 25)).alloc (.cells #[.int .i64 0,.int .i64 0] 111))):=PN.new _ _ _ _ _;generalize (w.alloc _).alloc _=w0 at *;refine ZX (S:=PN w S L) (by kernel_rfl) (F0.out.below (below_drewN' w0 1)) (fun Z9=>?_)
 iterate 2 (refine Zf ?_ (by kernel_rfl) (fun _=>id) Z9 ?_ ?_;rotate_left;· intro w9 ZQ;obtain ⟨-,k0,k1⟩:=ZQ;go_simp;try with_reducible rfl)
 refine Yp 4 ?v18 rfl (by kernel_rfl) (fun _=>id) Z9 ?Y5 ?_
 case Y5=>intro w9 ZQ;obtain ⟨-,k0,k1⟩:=ZQ;go_simp;try with_reducible rfl
 refine Yp 5 ?v19 rfl (by kernel_rfl) (fun _=>id) Z9 ?Y3 ?_
 case Y3=>intro w9 ZQ;obtain ⟨-,k0,k1⟩:=ZQ;go_simp;try with_reducible rfl
 refine Yp 7 ?v20 rfl (by kernel_rfl) (fun _=>id) Z9 ?Y2 ?_
 case Y2=>intro w9 ZQ;obtain ⟨-,k0,k1⟩:=ZQ;go_simp;try with_reducible rfl
 refine Yp 8 ?v21 rfl (by kernel_rfl) (fun _=>id) Z9 ?Y1 ?_
 case Y1=>intro w9 ZQ;obtain ⟨-,k0,k1⟩:=ZQ;go_simp;try with_reducible rfl
 refine YS 2 rfl (by kernel_rfl) (fun K hK=>?_);go_simp;refine (kE.out _).mono ?_;rintro e w2 ⟨rfl,b2⟩;have F2:=ZU (Z9.below b2);clear b2;clear Z9;refine hK.out _ _ (F2.out) (fun Z9=>?_);clear hK K;refine Yp 3 (.int .i64 q) rfl (by kernel_rfl) (fun _=>id) Z9 ?Y0 ?_
 case Y0 =>
  intro w9 ZQ;have eK:=Ah (.int .i64 q) (.int .i64 q2) w9;go_simp
 refine Yp 6 (.int .i64 (q+S)) rfl (by kernel_rfl) (fun _=>id) Z9 ?YZ ?_
 case YZ =>
  intro w9 ZQ;go_simp
  try (rw [Zq];omega)
 refine Zf ?_ (by kernel_rfl) (fun _=>id) Z9 ?_ ?_
 rotate_left
 · intro w9 ZQ;obtain ⟨-,k0,k1⟩:=ZQ;go_simp;try with_reducible rfl
 refine YS 10 rfl (by kernel_rfl) (fun K hK=>?_);obtain ⟨x9,y9,ZL⟩:=F2.out.1.out.2.2;obtain ⟨⟨z9,d0,d1⟩,f0,f1⟩:=ZL;go_simp;have F3:Hid (PN w S L ((w2.setCell ⟨w.heap.size+1,0,none⟩ (.int .i64 (q+S))).setCell ⟨w.heap.size+1,1,none⟩ (.int .i64 L))):=F2.out.store _ _;have X3:Hid (Vg ((w2.setCell ⟨w.heap.size+1,0,none⟩ (.int .i64 (q+S))).setCell ⟨w.heap.size+1,1,none⟩ (.int .i64 L)) (w.heap.size+1) (.int .i64 (q+S)) (.int .i64 L)):=F2.out.stored _ _;clear d0 d1 f0 f1 z9 F2;generalize ((w2.setCell _ _).setCell _ _)=w3 at *;clear Z9;refine hK.out _ _ (F3.out) (fun Z9=>?_);clear hK K;refine ZR (by kernel_rfl) ?_ _
 try simp only [Act.put,WV,WU,WT]
 clear Z9;obtain ⟨-,d0,d1⟩:=X3.out;go_wp2;refine ZW (v:=.agg #[.int .i64 (q+S),.int .i64 L]) (by simp [results,Tryz.results79,go_sem,d0,d1]) rfl ⟨rfl,F3.out.1.out.1⟩
theorem QR (w:World) (g N C f l:Nat) (hfl:(f+l)*64≤N) (hl1:1≤l) (hN:N≤C) (Y7:N≤1048576) :
    Calls Tryz.prog 50 #[.agg #[.int .i64 (f:Int),.int .i64 (l:Int)],.slice (some ⟨g,0,none⟩) N C] w (Wj w (.slice (some ⟨g,f*64,none⟩) (l*64) (C - f*64))):=by
 have B0:Hid (Zi w (w.alloc (.cells #[.int .i64 (f:Int),.int .i64 (l:Int)] 111))):=Yy.alloc YR _;have hne:¬C=f*64:=by omega
 have HE:Hid ((f+l)*64 - f*64=l*64):=by show _=_;omega
 go_enter Tryz.func50,Tryz.ntmps50
 go_wp2;go_ret;rw [HE.out];exact ⟨rfl,B0.out⟩
theorem Md (w:World) (v1 v2:Value) (YN:List Int) (ps:List (Int × List Int)) (hd:Rd .u8 w v1 YN) (hp:J8 w v2 ps) (hdl:YN.length≤1048576) (hn:ps.length≤1048576) (Lm:∀i,(pD ps i).length≤1048576) :
    Calls Tryz.prog 38 #[.agg #[v1,v2]] w fun e w'=>∃u,e=.returned u∧Own .u8 5 w' w.heap.size u (MT YN ps)∧Zi w w':=by
 obtain ⟨va,ca,rfl,-⟩:=hd.len;obtain ⟨vb,cb,rfl,-⟩:=id hp;have HD:=ZU hd;have HP:=ZU hp;have AE:=ZU Lm;have B0:Hid (Zi w (w.alloc (.cells #[.slice va YN.length ca,.slice vb ps.length cb] 52))):=Yy.alloc YR _;clear hd hp Lm
 go_enter Tryz.func38,Tryz.ntmps38
 go_wp2_with fail
 generalize w.alloc _=w0 at *;refine (NF _ _ _ YN ps (HD.out.below B0.out) (HP.out.below B0.out) hdl hn AE.out).mono ?_;rintro e w1 ⟨u,rfl,o1,b1⟩;have O1:=ZU (o1.mono B0.out.size);have B1:=ZU (WD B0.out b1);clear o1 b1 B0;have eK:=FC u (.slice none 0 0) w1;go_wp2;go_ret;exact ⟨_,rfl,O1.out,B1.out⟩
def kD (S:Int) (ys:List Int):Value:=if OB ys∧nL ys≤S*64 then .agg #[.bool true,.int .i64 (nG ys),.int .i64 (nB ys),.int .i64 (nS ys),.int .i64 (nL ys),.int .i64 (nC ys)] else .agg #[.bool false,.int .i64 0,.int .i64 0,.int .i64 0,.int .i64 0,.int .i64 0]
theorem rS (S:Int) (hS:1≤S) (ys:List Int):∃(gg:Bool) (x0 x1 x2 x3 x4:Int),Iq ys=.agg #[.bool gg,.int .i64 x0,.int .i64 x1,.int .i64 x2,.int .i64 x3,.int .i64 x4]∧kD S ys=if S*64<x3 then .agg #[.bool false,.int .i64 0,.int .i64 0,.int .i64 0,.int .i64 0,.int .i64 0] else .agg #[.bool gg,.int .i64 x0,.int .i64 x1,.int .i64 x2,.int .i64 x3,.int .i64 x4]:=by
 unfold Iq kD
 by_cases h:OB ys
 · rw [Z0 h]
   refine ⟨_,_,_,_,_,_,rfl,?_⟩
   by_cases h2:nL ys≤S*64
   · rw [Z0 ⟨h,h2⟩,Z1 (by omega)]
   rw [Z1 (fun hh=>h2 hh.2),Z0 (by omega)]
 rw [Z1 h];refine ⟨_,_,_,_,_,_,rfl,?_⟩;rw [Z1 (fun hh=>h hh.1),Z1 (by omega)]
theorem U1 (b:Nat):∀(vs:List Value) (o:Nat) (w:World),(w.setCells b o vs).heap.size=w.heap.size
 | [],_,_=>rfl
 | v :: r,o,w=>by rw [World.setCells,U1 b r];simp
theorem wN {V:List Int} (hV:V.length=64) {b:Nat} (h:W.rangeAt b 0 (V.map (Value.int .u8))) (hb:b<W.heap.size):Rd .u8 W (.slice (some ⟨b,0,none⟩) 64 64) V:=by
 refine ⟨_,_,by rw [hV],by omega,by unfold maxLen;omega,.inr ⟨b,0,rfl,hb,fun i hi=>?_⟩⟩;exact (show W.cell? ⟨b,0+i,none⟩=_ from h i (.int .u8 (V.getD i 0)) (by rw [Yo,List.getD,ZF hi];rfl))
theorem Ic (w:World) (b i g co N C:Nat) (S:Int) (cont:List Int) (c0:w.cell? ⟨b,0,none⟩=some (.int .i64 S)) (c6:w.cell? ⟨b,6,none⟩=some (.slice (some ⟨g,co,none⟩) N C)) (hlt:b<w.heap.size) (hr:Rd .u8 w (.slice (some ⟨g,co,none⟩) N C) cont) (hby:Sn cont) (hN:cont.length=N) (hi:(i+1)*64≤N) (Bw:N≤1048576) (hS:1≤S∧S≤64) :
    Calls Tryz.prog 84 #[.pointer (some ⟨b,0,none⟩),.int .i64 (i:Int)] w (Wj w (kD S (blk cont i))):=by
 have kC:Hid (∀W,Zi w W→Calls Tryz.prog 108 #[.slice (some ⟨g,co,none⟩) N C,.int .i64 (i:Int)] W (Wj W (.agg ((blk cont i).map (Value.int .u8)).toArray))):=fun W hW=>Mk W g co N C i cont (hr.below hW) hN hi Bw
 have Lc:Hid (Sn (blk cont i)):=fun y hy=>hby y (XV (Xa hy))
 have ZG:Hid ((blk cont i).length=64):=by show _=_;unfold blk;simp;omega
 have B0:Hid (Zi w (w.alloc (.cells #[.bool false,.int .i64 0,.int .i64 0,.int .i64 0,.int .i64 0,.int .i64 0] 97))):=Yy.alloc YR _;have R0:Hid (St (w.alloc (.cells #[.bool false,.int .i64 0,.int .i64 0,.int .i64 0,.int .i64 0,.int .i64 0] 97)) w.heap.size [.bool false,.int .i64 0,.int .i64 0,.int .i64 0,.int .i64 0,.int .i64 0]):=St.new w _ _;have k6:=(B0.out.cell (p:=⟨b,6,none⟩) hlt).trans c6;have oV:=ZU c0;have ZQ:IntKind.i64.wrap (S*64)=S*64:=by rw [Zq];omega
 generalize blk cont i=ys at *;clear hr c0 c6
 go_enter Tryz.func84,Tryz.ntmps84
 go_wp2_with fail
 generalize w.alloc _=w0 at *;refine (kC.out _ B0.out).mono ?_;rintro e w1 ⟨rfl,b1⟩;have GQ:Hid (∀v ∈ (ys.map (Value.int .u8)),v.oneCell'=true):=Yi _ _;have HX:Hid ((ys.map (Value.int .u8)).length=64):=by show _=_;rw [Zl];exact ZG.out
 have B1:=ZU (WD B0.out b1);have R1:=ZU (R0.out.below b1);clear b1 B0 R0 k6 kC;obtain ⟨V,hV⟩:∃V,V=ys.map (Value.int .u8):=⟨_,rfl⟩;rw [←hV] at HX GQ ⊢;have HV:=ZU hV;clear hV
 go_wp2_with (refine UO rfl 117 _ _ rfl w1.heap.size 0 V.toArray rfl rfl ?s1 ?s2 ?s3 ?_)
 case s1 =>
  have e:V.toArray.size=64:=by rw [ZI];exact HX.out
  rw [e];exact Vn _ _ _ _ rfl
 case s2=>rw [ZI];exact Wi _ HX.out
 case s3=>exact XL GQ.out
 generalize hW2:World.setCells _ _ _ _=w2;have B2:Hid (Zi w1 w2):=by subst hW2;exact below_setCells YR _ _ _ (Yy.alloc YR _)
 have YX:Hid (w2.rangeAt w1.heap.size 0 V):=by
  subst hW2;exact Yf _ _ _ _ (Vn _ _ _ _ (by rw [HX.out];rfl))
 have hs2:w1.heap.size<w2.heap.size:=by subst hW2;rw [U1,YF];omega
 clear hW2 GQ;refine (FE w2 _ ys (wN ZG.out (by rw [←HV.out];exact YX.out) hs2) Lc.out).mono ?_;rintro e w3 ⟨rfl,b3⟩;obtain ⟨gg,x0,x1,x2,x3,x4,hdec,hgs⟩:=rS S hS.1 ys;rw [hdec];have od:=ZU hgs;have B3:=ZU ((WD B1.out B2.out).trans (b3.mono (by have:=B1.out.size;have:=B2.out.size;omega)));have R3:=ZU ((R1.out.below B2.out).below b3);have hs3:=R3.out.lt;clear b3 B1 B2 YX HX HV R1 hs2 hdec hgs ZG Lc
 go_wp2_with fail
 have X4:Hid (St (w3.alloc (.cells #[.bool gg,.int .i64 x0,.int .i64 x1,.int .i64 x2,.int .i64 x3,.int .i64 x4] 97)) w3.heap.size [.bool gg,.int .i64 x0,.int .i64 x1,.int .i64 x2,.int .i64 x3,.int .i64 x4]):=St.new _ _ _;have ZE:Hid (Zi w3 (w3.alloc (.cells #[.bool gg,.int .i64 x0,.int .i64 x1,.int .i64 x2,.int .i64 x3,.int .i64 x4] 97))):=Yy.alloc YR _;generalize w3.alloc _=w4 at *;have B4:=ZU (WD B3.out ZE.out);have R4:=ZU (R3.out.below ZE.out);have k0:=(B4.out.cell (p:=⟨b,0,none⟩) hlt).trans oV.out;have y4:=X4.out.cl 4 _ rfl;clear B3 ZE R3
 go_quiet (fail)
 clear k0 y4;have y0:=X4.out.cl 0 _ rfl;have y1:=X4.out.cl 1 _ rfl;have y2:=X4.out.cl 2 _ rfl;have y3:=X4.out.cl 3 _ rfl;have y4:=X4.out.cl 4 _ rfl;have y5:=X4.out.cl 5 _ rfl;have t0:=R4.out.cl 0 _ rfl;have t1:=R4.out.cl 1 _ rfl;have t2:=R4.out.cl 2 _ rfl;have t3:=R4.out.cl 3 _ rfl;have t4:=R4.out.cl 4 _ rfl;have t5:=R4.out.cl 5 _ rfl;have f0:=R4.out.fz 0;have f1:=R4.out.fz 1;have f2:=R4.out.fz 2;have f3:=R4.out.fz 3;have f4:=R4.out.fz 4;have f5:=R4.out.fz 5
 by_cases hx:S*64<x3
 · go_wp2
   have SE:Hid (St (((((((w4.drewN nq).setCell ⟨w.heap.size,0,none⟩ (.bool false)).setCell ⟨w.heap.size,1,none⟩ (.int .i64 0)).setCell ⟨w.heap.size,2,none⟩ (.int .i64 0)).setCell ⟨w.heap.size,3,none⟩ (.int .i64 0)).setCell ⟨w.heap.size,4,none⟩ (.int .i64 0)).setCell ⟨w.heap.size,5,none⟩ (.int .i64 0)) w.heap.size [.bool false,.int .i64 0,.int .i64 0,.int .i64 0,.int .i64 0,.int .i64 0]):=(((((((R4.out.below (below_drewN' w4 nq)).set 0 (.bool false)).set 1 (.int .i64 0)).set 2 (.int .i64 0)).set 3 (.int .i64 0)).set 4 (.int .i64 0)).set 5 (.int .i64 0));have BE:Hid (Zi w (((((((w4.drewN nq).setCell ⟨w.heap.size,0,none⟩ (.bool false)).setCell ⟨w.heap.size,1,none⟩ (.int .i64 0)).setCell ⟨w.heap.size,2,none⟩ (.int .i64 0)).setCell ⟨w.heap.size,3,none⟩ (.int .i64 0)).setCell ⟨w.heap.size,4,none⟩ (.int .i64 0)).setCell ⟨w.heap.size,5,none⟩ (.int .i64 0))):=by
    iterate 6 refine Below.setCell ?_ (by show w.heap.size≤w.heap.size;exact YR) _
    exact B4.out.trans ((below_drewN' w4 nq).mono B4.out.size)
   clear y0 t0 f0 y1 t1 f1 y2 t2 f2 y3 t3 f3 y4 t4 f4 y5 t5 f5;generalize (((((((w4.drewN nq).setCell _ _).setCell _ _).setCell _ _).setCell _ _).setCell _ _).setCell _ _)=wE at *;have e0:=SE.out.cl 0 _ rfl;have e1:=SE.out.cl 1 _ rfl;have e2:=SE.out.cl 2 _ rfl;have e3:=SE.out.cl 3 _ rfl;have e4:=SE.out.cl 4 _ rfl;have e5:=SE.out.cl 5 _ rfl;exact ZW (v:=.agg #[.bool false,.int .i64 0,.int .i64 0,.int .i64 0,.int .i64 0,.int .i64 0]) (by simp [results,Tryz.results84,go_sem,e0,e1,e2,e3,e4,e5]) rfl ⟨by rw [od.out,Z0 hx],BE.out⟩
 go_wp2;have SE:Hid (St (((((((w4.drewN nq).setCell ⟨w.heap.size,0,none⟩ (.bool gg)).setCell ⟨w.heap.size,1,none⟩ (.int .i64 x0)).setCell ⟨w.heap.size,2,none⟩ (.int .i64 x1)).setCell ⟨w.heap.size,3,none⟩ (.int .i64 x2)).setCell ⟨w.heap.size,4,none⟩ (.int .i64 x3)).setCell ⟨w.heap.size,5,none⟩ (.int .i64 x4)) w.heap.size [.bool gg,.int .i64 x0,.int .i64 x1,.int .i64 x2,.int .i64 x3,.int .i64 x4]):=(((((((R4.out.below (below_drewN' w4 nq)).set 0 (.bool gg)).set 1 (.int .i64 x0)).set 2 (.int .i64 x1)).set 3 (.int .i64 x2)).set 4 (.int .i64 x3)).set 5 (.int .i64 x4));have BE:Hid (Zi w (((((((w4.drewN nq).setCell ⟨w.heap.size,0,none⟩ (.bool gg)).setCell ⟨w.heap.size,1,none⟩ (.int .i64 x0)).setCell ⟨w.heap.size,2,none⟩ (.int .i64 x1)).setCell ⟨w.heap.size,3,none⟩ (.int .i64 x2)).setCell ⟨w.heap.size,4,none⟩ (.int .i64 x3)).setCell ⟨w.heap.size,5,none⟩ (.int .i64 x4))):=by
  iterate 6 refine Below.setCell ?_ (by show w.heap.size≤w.heap.size;exact YR) _
  exact B4.out.trans ((below_drewN' w4 nq).mono B4.out.size)
 clear y0 t0 f0 y1 t1 f1 y2 t2 f2 y3 t3 f3 y4 t4 f4 y5 t5 f5;generalize (((((((w4.drewN nq).setCell _ _).setCell _ _).setCell _ _).setCell _ _).setCell _ _).setCell _ _)=wE at *;have e0:=SE.out.cl 0 _ rfl;have e1:=SE.out.cl 1 _ rfl;have e2:=SE.out.cl 2 _ rfl;have e3:=SE.out.cl 3 _ rfl;have e4:=SE.out.cl 4 _ rfl;have e5:=SE.out.cl 5 _ rfl;exact ZW (v:=.agg #[.bool gg,.int .i64 x0,.int .i64 x1,.int .i64 x2,.int .i64 x3,.int .i64 x4]) (by simp [results,Tryz.results84,go_sem,e0,e1,e2,e3,e4,e5]) rfl ⟨by rw [od.out,Z1 (by omega)],BE.out⟩
def p9 (im:List Int) (c:Int):Option (List Nd):=if ((4294967295 - NS 4294967295 im:Nat):Int)=c then FX im else none
def wM (w:World) (o:Option (List Nd)) (e:Ending) (w':World):Prop :=
 Zi w w'∧((o=none∧e=.returned (.agg #[.bool false,.slice none 0 0]))∨∃ns v,o=some ns∧e=.returned (.agg #[.bool true,v])∧XU 147 w' w.heap.size v ns)
structure tE (w:World) (xg xb xs xl xc:Int) (W:World):Prop where
 WC:Zi w W
 sx:St W w.heap.size [.int .i64 xg,.int .i64 xb,.int .i64 xs,.int .i64 xl,.int .i64 xc]
 sr:St W (w.heap.size+1) [.bool false,.slice none 0 0]
theorem tE.below {xg xb xs xl xc:Int} (h:tE w xg xb xs xl xc W) (hb:Zi W W'):tE w xg xb xs xl xc W' :=
 ⟨h.WC.trans (hb.mono h.WC.size),h.sx.below hb,h.sr.below hb⟩
theorem tE.new (w:World) (xg xb xs xl xc:Int):tE w xg xb xs xl xc ((w.alloc (.cells #[.int .i64 xg,.int .i64 xb,.int .i64 xs,.int .i64 xl,.int .i64 xc] 60)).alloc (.cells #[.bool false,.slice none 0 0] 135)):=by
 refine ⟨(Yy.alloc YR _).alloc (by simp) _,(St.new w _ _).below (Yy.alloc YR _),?_⟩;have h9:=St.new (w.alloc (.cells #[.int .i64 xg,.int .i64 xb,.int .i64 xs,.int .i64 xl,.int .i64 xc] 60)) #[.bool false,.slice none 0 0] 135;rw [YF] at h9;exact h9
theorem Ag (w:World) (b g N C ln:Nat) (S L xg xb xs xl xc:Int) (cont:List Int) (c0:w.cell? ⟨b,0,none⟩=some (.int .i64 S)) (c1:w.cell? ⟨b,1,none⟩=some (.int .i64 L)) (c6:w.cell? ⟨b,6,none⟩=some (.slice (some ⟨g,0,none⟩) N C)) (hlt:b<w.heap.size) (hr:Rd .u8 w (.slice (some ⟨g,0,none⟩) N C) cont) (hby:Sn cont) (hN:cont.length=N) (Bw:N≤1048576) (hc:Wp S L=true) (wK:2+2*(S+L)≤((N / 64:Nat):Int)) (hb:0≤xb∧xb≤1) (hl:xl=(ln:Int)) (hls:xl≤S*64) (ht:PJ w) (h0:0<w.heap.size) :
    Calls Tryz.prog 85 #[.pointer (some ⟨b,0,none⟩),.agg #[.int .i64 xg,.int .i64 xb,.int .i64 xs,.int .i64 xl,.int .i64 xc]] w (wM w (p9 ((Me cont (Ry S L xb false).toNat S.toNat).take ln) xc)):=by
 obtain ⟨⟨hS1,hS2⟩,hL1,hL2⟩:=(Xk S L).1 hc;obtain ⟨sn,rfl⟩:∃sn:Nat,S=(sn:Int):=⟨S.toNat,by omega⟩;rw [Ze];obtain ⟨f,hf⟩:∃f:Nat,Ry (sn:Int) L xb false=(f:Int):=⟨(Ry (sn:Int) L xb false).toNat,by
  have hk:xb=0∨xb=1:=by omega
  unfold Ry
  rcases hk with rfl | rfl <;> simp <;> omega⟩
 have kB:(f+sn)*64≤N:=by
  have hk:xb=0∨xb=1:=by omega
  unfold Ry at hf;have h2:N / 64*64≤N:=Nat.div_mul_le_self _ _
  rcases hk with rfl | rfl <;> simp at hf <;> omega
 have lM:N≤C:=by
  obtain ⟨a8,c8,h8,h7,h6⟩:=hr.len
  simp only [ZC] at h8
  obtain ⟨-,h5,rfl⟩:=h8;omega
 have YO:C≤9223372036854775807:=by
  obtain ⟨a8,c8,h8,h7,h6⟩:=hr.len
  simp only [ZC] at h8
  obtain ⟨-,h5,rfl⟩:=h8;unfold maxLen at h6;omega
 rw [hf,Ze];have YW:(Me cont f sn).take ln=(cont.drop (f*64)).take ln:=by
  unfold Me;rw [U6,YC (by omega)]
 rw [YW];have HR:Hid (∀W,Zi w W→Rd .u8 W (.slice (some ⟨g,f*64,none⟩) ln (C - f*64)) ((cont.drop (f*64)).take ln)):=by
  intro W hW;have h9:=Rd.part (hr.below hW) hN (f*64) ln (by omega);rw [Za] at h9;exact h9
 have Lc:Hid (Sn ((cont.drop (f*64)).take ln)):=fun y hy=>hby y (XV (Xa hy))
 have Z7:Hid (((cont.drop (f*64)).take ln).length≤1048576):=by
  show _≤_;have:=List.length_take_le ln (cont.drop (f*64));omega
 have S0:Hid (tE w xg xb xs xl xc ((w.alloc (.cells #[.int .i64 xg,.int .i64 xb,.int .i64 xs,.int .i64 xl,.int .i64 xc] 60)).alloc (.cells #[.bool false,.slice none 0 0] 135))):=tE.new _ _ _ _ _ _;have tD:Hid (∀W,Calls Tryz.prog 49 #[.agg #[.int .i64 (sn:Int),.int .i64 L],.int .i64 xb] W (Wj W (.agg #[.int .i64 (f:Int),.int .i64 (sn:Int)]))):=by
  intro W;have h9:=Sr W (sn:Int) L xb hc hb;rw [hf,show Jg (sn:Int) L false=(sn:Int) from rfl] at h9;exact h9
 have yI:Hid (∀W,Calls Tryz.prog 50 #[.agg #[.int .i64 (f:Int),.int .i64 (sn:Int)],.slice (some ⟨g,0,none⟩) N C] W (Wj W (.slice (some ⟨g,f*64,none⟩) (sn*64) (C - f*64)))):=fun W=>QR W g N C f sn kB (by omega) lM Bw
 have SR:Hid (w.cell? ⟨b,0,none⟩=some (.int .i64 (sn:Int))∧w.cell? ⟨b,1,none⟩=some (.int .i64 L)∧w.cell? ⟨b,6,none⟩=some (.slice (some ⟨g,0,none⟩) N C)):=⟨c0,c1,c6⟩;have nZ:Hid (∀W,Zi w W→PJ W):=fun W hW=>ht.below h0 hW
 have hlc:(ln:Int)≤((C - f*64:Nat):Int):=by omega
 have gU:=ZU hl;have YK:ln≤sn*64:=by omega
 clear hr c0 c1 c6 ht hc YW hf hby hl;have YI:sn*64≤C - f*64:=by omega
 have hcm:C - f*64≤9223372036854775807:=by omega
 clear kB lM YO wK hN Bw;generalize (cont.drop (f*64)).take ln=IM at *;generalize C - f*64=c9 at *;generalize f*64=fo at *;generalize hM:sn*64=M at *;clear hM
 go_enter Tryz.func85,Tryz.ntmps85
 go_wp2_with fail
 generalize (w.alloc _).alloc _=w0 at *;have Sd:=ZU (S0.out.below (below_drewN' w0 1));refine ZX (S:=tE w xg xb xs xl xc) (by kernel_rfl) (Sd.out) (fun Z9=>?_)
 iterate 6 (refine Zf ?_ (by kernel_rfl) (fun _=>id) Z9 ?_ ?_;rotate_left;· intro w9 ZQ;have k0:=(ZQ.WC.cell (p:=⟨b,0,none⟩) hlt).trans SR.out.1;have k1:=(ZQ.WC.cell (p:=⟨b,1,none⟩) hlt).trans SR.out.2.1;have k6:=(ZQ.WC.cell (p:=⟨b,6,none⟩) hlt).trans SR.out.2.2;have x0:=ZQ.sx.cl 0 _ rfl;have x1:=ZQ.sx.cl 1 _ rfl;have x2:=ZQ.sx.cl 2 _ rfl;have x3:=ZQ.sx.cl 3 _ rfl;have x4:=ZQ.sx.cl 4 _ rfl;clear ZQ;go_simp;try with_reducible rfl)
 refine Yp 7 ?v7 rfl (by kernel_rfl) (fun _=>id) Z9 ?sS ?_
 case sS =>
  intro w9 ZQ;have k0:=(ZQ.WC.cell (p:=⟨b,0,none⟩) hlt).trans SR.out.1;have k1:=(ZQ.WC.cell (p:=⟨b,1,none⟩) hlt).trans SR.out.2.1;have k6:=(ZQ.WC.cell (p:=⟨b,6,none⟩) hlt).trans SR.out.2.2;have x0:=ZQ.sx.cl 0 _ rfl;have x1:=ZQ.sx.cl 1 _ rfl;have x2:=ZQ.sx.cl 2 _ rfl;have x3:=ZQ.sx.cl 3 _ rfl;have x4:=ZQ.sx.cl 4 _ rfl;clear ZQ;go_simp
  try with_reducible rfl
 refine Yp 8 ?v8 rfl (by kernel_rfl) (fun _=>id) Z9 ?rR ?_
 case rR =>
  intro w9 ZQ;have k0:=(ZQ.WC.cell (p:=⟨b,0,none⟩) hlt).trans SR.out.1;have k1:=(ZQ.WC.cell (p:=⟨b,1,none⟩) hlt).trans SR.out.2.1;have k6:=(ZQ.WC.cell (p:=⟨b,6,none⟩) hlt).trans SR.out.2.2;have x0:=ZQ.sx.cl 0 _ rfl;have x1:=ZQ.sx.cl 1 _ rfl;have x2:=ZQ.sx.cl 2 _ rfl;have x3:=ZQ.sx.cl 3 _ rfl;have x4:=ZQ.sx.cl 4 _ rfl;clear ZQ;go_simp
  try with_reducible rfl
 refine Yp 9 ?v9 rfl (by kernel_rfl) (fun _=>id) Z9 ?nY ?_
 case nY =>
  intro w9 ZQ;have k0:=(ZQ.WC.cell (p:=⟨b,0,none⟩) hlt).trans SR.out.1;have k1:=(ZQ.WC.cell (p:=⟨b,1,none⟩) hlt).trans SR.out.2.1;have k6:=(ZQ.WC.cell (p:=⟨b,6,none⟩) hlt).trans SR.out.2.2;have x0:=ZQ.sx.cl 0 _ rfl;have x1:=ZQ.sx.cl 1 _ rfl;have x2:=ZQ.sx.cl 2 _ rfl;have x3:=ZQ.sx.cl 3 _ rfl;have x4:=ZQ.sx.cl 4 _ rfl;clear ZQ;go_simp
  try with_reducible rfl
 refine Yp 10 (.slice (some ⟨g,0,none⟩) N C) rfl (by kernel_rfl) (fun _=>id) Z9 ?Dr ?_
 case Dr =>
  intro w9 ZQ;have k0:=(ZQ.WC.cell (p:=⟨b,0,none⟩) hlt).trans SR.out.1;have k1:=(ZQ.WC.cell (p:=⟨b,1,none⟩) hlt).trans SR.out.2.1;have k6:=(ZQ.WC.cell (p:=⟨b,6,none⟩) hlt).trans SR.out.2.2;have x0:=ZQ.sx.cl 0 _ rfl;have x1:=ZQ.sx.cl 1 _ rfl;have x2:=ZQ.sx.cl 2 _ rfl;have x3:=ZQ.sx.cl 3 _ rfl;have x4:=ZQ.sx.cl 4 _ rfl;clear ZQ;go_simp
 refine Yp 12 ?v11 rfl (by kernel_rfl) (fun _=>id) Z9 ?KI ?_
 case KI =>
  intro w9 ZQ;have k0:=(ZQ.WC.cell (p:=⟨b,0,none⟩) hlt).trans SR.out.1;have k1:=(ZQ.WC.cell (p:=⟨b,1,none⟩) hlt).trans SR.out.2.1;have k6:=(ZQ.WC.cell (p:=⟨b,6,none⟩) hlt).trans SR.out.2.2;have x0:=ZQ.sx.cl 0 _ rfl;have x1:=ZQ.sx.cl 1 _ rfl;have x2:=ZQ.sx.cl 2 _ rfl;have x3:=ZQ.sx.cl 3 _ rfl;have x4:=ZQ.sx.cl 4 _ rfl;clear ZQ;go_simp
  try with_reducible rfl
 refine Yp 13 (.int .i64 (ln:Int)) rfl (by kernel_rfl) (fun _=>id) Z9 ?Ds ?_
 case Ds =>
  intro w9 ZQ;have k0:=(ZQ.WC.cell (p:=⟨b,0,none⟩) hlt).trans SR.out.1;have k1:=(ZQ.WC.cell (p:=⟨b,1,none⟩) hlt).trans SR.out.2.1;have k6:=(ZQ.WC.cell (p:=⟨b,6,none⟩) hlt).trans SR.out.2.2;have x0:=ZQ.sx.cl 0 _ rfl;have x1:=ZQ.sx.cl 1 _ rfl;have x2:=ZQ.sx.cl 2 _ rfl;have x3:=ZQ.sx.cl 3 _ rfl;have x4:=ZQ.sx.cl 4 _ rfl;rw [gU.out] at x3;clear ZQ;go_simp
 refine YS 6 rfl (by kernel_rfl) (fun K hK=>?_);go_simp;refine (tD.out _).mono ?_;rintro e w1 ⟨rfl,b1⟩;have N1:=Z9.below b1;clear b1;refine hK.out _ _ N1 (fun YA=>?_);clear hK K Z9;have Z9:=YA;clear YA;refine YS 11 rfl (by kernel_rfl) (fun K hK=>?_);go_simp;refine (yI.out _).mono ?_;rintro e w2 ⟨rfl,b2⟩;have N2:=Z9.below b2;clear b2;refine hK.out _ _ N2 (fun YA=>?_);clear hK K Z9;have Z9:=YA;clear YA
 iterate 2 (refine Zf ?_ (by kernel_rfl) (fun _=>id) Z9 ?_ ?_;rotate_left;· intro w9 ZQ;have k0:=(ZQ.WC.cell (p:=⟨b,0,none⟩) hlt).trans SR.out.1;have k1:=(ZQ.WC.cell (p:=⟨b,1,none⟩) hlt).trans SR.out.2.1;have k6:=(ZQ.WC.cell (p:=⟨b,6,none⟩) hlt).trans SR.out.2.2;have x0:=ZQ.sx.cl 0 _ rfl;have x1:=ZQ.sx.cl 1 _ rfl;have x2:=ZQ.sx.cl 2 _ rfl;have x3:=ZQ.sx.cl 3 _ rfl;have x4:=ZQ.sx.cl 4 _ rfl;clear ZQ;go_simp;try with_reducible rfl)
 refine ZR (by kernel_rfl) ?_ _
 try simp only [Act.put,WV,WU,WT]
 have S2:=ZU N2;clear Z9 tD yI S0 Sd N1 N2;have kA:Hid (∀W,tE w xg xb xs xl xc W→Calls Tryz.prog 48 #[.slice (some ⟨g,fo,none⟩) ln c9] W fun e w'=>e=.returned (.int .i64 ((4294967295 - NS 4294967295 IM:Nat):Int))∧w'=W):=fun W hW=>PI W _ IM (HR.out W hW.WC) Lc.out (by have:=Z7.out;omega) (nZ.out W hW.WC)
 obtain ⟨cr,hcr⟩:∃cr:Int,cr=((4294967295 - NS 4294967295 IM:Nat):Int):=⟨_,rfl⟩;rw [←hcr] at kA;have wJ:Hid (p9 IM xc=if cr=xc then FX IM else none):=by show _=_;unfold p9;rw [←hcr]
 clear hcr
 go_wp2_with fail
 have Sd:=ZU (S2.out.below (below_drewN' w2 1));refine ZX (S:=tE w xg xb xs xl xc) (by kernel_rfl) (Sd.out) (fun Z9=>?_);refine Zf ?_ (by kernel_rfl) (fun _=>id) Z9 ?_ ?_
 rotate_left
 · intro w9 ZQ;have k0:=(ZQ.WC.cell (p:=⟨b,0,none⟩) hlt).trans SR.out.1;have k1:=(ZQ.WC.cell (p:=⟨b,1,none⟩) hlt).trans SR.out.2.1;have k6:=(ZQ.WC.cell (p:=⟨b,6,none⟩) hlt).trans SR.out.2.2;have x0:=ZQ.sx.cl 0 _ rfl;have x1:=ZQ.sx.cl 1 _ rfl;have x2:=ZQ.sx.cl 2 _ rfl;have x3:=ZQ.sx.cl 3 _ rfl;have x4:=ZQ.sx.cl 4 _ rfl;clear ZQ;go_simp;try with_reducible rfl
 refine Yp 2 ?v16 rfl (by kernel_rfl) (fun _=>id) Z9 ?nX ?_
 case nX =>
  intro w9 ZQ;have k0:=(ZQ.WC.cell (p:=⟨b,0,none⟩) hlt).trans SR.out.1;have k1:=(ZQ.WC.cell (p:=⟨b,1,none⟩) hlt).trans SR.out.2.1;have k6:=(ZQ.WC.cell (p:=⟨b,6,none⟩) hlt).trans SR.out.2.2;have x0:=ZQ.sx.cl 0 _ rfl;have x1:=ZQ.sx.cl 1 _ rfl;have x2:=ZQ.sx.cl 2 _ rfl;have x3:=ZQ.sx.cl 3 _ rfl;have x4:=ZQ.sx.cl 4 _ rfl;clear ZQ;go_simp
  try with_reducible rfl
 refine Yp 3 (.int .i64 xc) rfl (by kernel_rfl) (fun _=>id) Z9 ?YV ?_
 case YV =>
  intro w9 ZQ;have k0:=(ZQ.WC.cell (p:=⟨b,0,none⟩) hlt).trans SR.out.1;have k1:=(ZQ.WC.cell (p:=⟨b,1,none⟩) hlt).trans SR.out.2.1;have k6:=(ZQ.WC.cell (p:=⟨b,6,none⟩) hlt).trans SR.out.2.2;have x0:=ZQ.sx.cl 0 _ rfl;have x1:=ZQ.sx.cl 1 _ rfl;have x2:=ZQ.sx.cl 2 _ rfl;have x3:=ZQ.sx.cl 3 _ rfl;have x4:=ZQ.sx.cl 4 _ rfl;clear ZQ;go_simp
 refine YS 1 rfl (by kernel_rfl) (fun K hK=>?_);go_simp;refine (kA.out _ Z9).mono ?_;rintro e w3 ⟨rfl,rfl⟩;have N3:=Z9;refine hK.out _ _ N3 (fun YA=>?_);clear hK K Z9;have Z9:=YA;clear YA;refine Zf ?_ (by kernel_rfl) (fun _=>id) Z9 ?_ ?_
 rotate_left
 · intro w9 ZQ;have k0:=(ZQ.WC.cell (p:=⟨b,0,none⟩) hlt).trans SR.out.1;have k1:=(ZQ.WC.cell (p:=⟨b,1,none⟩) hlt).trans SR.out.2.1;have k6:=(ZQ.WC.cell (p:=⟨b,6,none⟩) hlt).trans SR.out.2.2;have x0:=ZQ.sx.cl 0 _ rfl;have x1:=ZQ.sx.cl 1 _ rfl;have x2:=ZQ.sx.cl 2 _ rfl;have x3:=ZQ.sx.cl 3 _ rfl;have x4:=ZQ.sx.cl 4 _ rfl;clear ZQ;go_simp;try with_reducible rfl
 refine ZR (by kernel_rfl) ?_ _
 try simp only [Act.put,WV,WU,WT]
 have S3:=ZU N3;clear Z9 N3 kA S2 Sd nZ SR;generalize w2.drew=w3 at *
 by_cases he:cr=xc
 · have hbq:(cr != xc)=false:=by rw [he];simp
   rw [Z0 he] at wJ;rw [hbq];have s3:=S3.out.WC.size;have O:=ZU (In w3 _ IM (HR.out _ S3.out.WC) Lc.out Z7.out);clear HR Lc Z7 he hbq
   go_wp2_with fail
   refine (O.out).mono ?_;intro e w4 hd;obtain ⟨b4,hd⟩:=hd;have S4:=ZU (S3.out.below b4);have t0:=S4.out.sr.cl 0 _ rfl;have t1:=S4.out.sr.cl 1 _ rfl;have f0:=S4.out.sr.fz 0;have f1:=S4.out.sr.fz 1
   rcases hd with ⟨hn0,rfl⟩ | ⟨ns,v,hs0,rfl,o4⟩
   · unfold qj
     go_wp2;have SE:Hid (St ((w4.setCell ⟨w.heap.size+1,0,none⟩ (.bool false)).setCell ⟨w.heap.size+1,1,none⟩ (.slice none 0 0)) (w.heap.size+1) [.bool false,.slice none 0 0]):=(S4.out.sr.set 0 (.bool false)).set 1 (.slice none 0 0);have BE:Hid (Zi w ((w4.setCell ⟨w.heap.size+1,0,none⟩ (.bool false)).setCell ⟨w.heap.size+1,1,none⟩ (.slice none 0 0))):=(S4.out.WC.setCell (by show w.heap.size≤w.heap.size+1;omega) _).setCell (by show w.heap.size≤w.heap.size+1;omega) _;clear t0 t1 f0 f1;generalize (w4.setCell _ _).setCell _ _=wE at *;have e0:=SE.out.cl 0 _ rfl;have e1:=SE.out.cl 1 _ rfl;exact ZW (v:=.agg #[.bool false,.slice none 0 0]) (by simp [results,Tryz.results85,go_sem,e0,e1]) rfl ⟨BE.out,.inl ⟨wJ.out.trans hn0,rfl⟩⟩
   obtain ⟨va,vc,rfl⟩:=XU.QU o4;go_wp2;have SE:Hid (St ((w4.setCell ⟨w.heap.size+1,0,none⟩ (.bool true)).setCell ⟨w.heap.size+1,1,none⟩ (.slice va ns.length vc)) (w.heap.size+1) [.bool true,.slice va ns.length vc]):=(S4.out.sr.set 0 (.bool true)).set 1 (.slice va ns.length vc);have BE:Hid (Zi w ((w4.setCell ⟨w.heap.size+1,0,none⟩ (.bool true)).setCell ⟨w.heap.size+1,1,none⟩ (.slice va ns.length vc))):=(S4.out.WC.setCell (by show w.heap.size≤w.heap.size+1;omega) _).setCell (by show w.heap.size≤w.heap.size+1;omega) _;have OE:Hid (XU 147 ((w4.setCell ⟨w.heap.size+1,0,none⟩ (.bool true)).setCell ⟨w.heap.size+1,1,none⟩ (.slice va ns.length vc)) w.heap.size (.slice va ns.length vc) ns):=by
    have hne:(Value.slice va ns.length vc).ownBlock=none∨(Value.slice va ns.length vc).ownBlock≠some (w.heap.size+1):=.inr (fun e=>by have:=(ZT o4 _ e).1;have:=S3.out.sr.lt;omega);have o5:=XU.mono o4 s3;exact Zn (Zn o5 (grownBy_set w4 w4 (w.heap.size+1) 0 (.bool true) (Zz _ _)) hne) (grownBy_set _ _ (w.heap.size+1) 1 _ (Zz _ _)) hne
   clear t0 t1 f0 f1 o4;generalize (w4.setCell _ _).setCell _ _=wE at *;have e0:=SE.out.cl 0 _ rfl;have e1:=SE.out.cl 1 _ rfl;exact ZW (v:=.agg #[.bool true,.slice va ns.length vc]) (by simp [results,Tryz.results85,go_sem,e0,e1]) rfl ⟨BE.out,.inr ⟨ns,_,wJ.out.trans hs0,rfl,OE.out⟩⟩
 have hbq:(cr != xc)=true:=by simpa using he
 rw [Z1 he] at wJ;rw [hbq];have t0:=S3.out.sr.cl 0 _ rfl;have t1:=S3.out.sr.cl 1 _ rfl;have f0:=S3.out.sr.fz 0;have f1:=S3.out.sr.fz 1;clear HR Lc Z7 he hbq;go_wp2;have SE:Hid (St ((w3.setCell ⟨w.heap.size+1,0,none⟩ (.bool false)).setCell ⟨w.heap.size+1,1,none⟩ (.slice none 0 0)) (w.heap.size+1) [.bool false,.slice none 0 0]):=(S3.out.sr.set 0 (.bool false)).set 1 (.slice none 0 0);have BE:Hid (Zi w ((w3.setCell ⟨w.heap.size+1,0,none⟩ (.bool false)).setCell ⟨w.heap.size+1,1,none⟩ (.slice none 0 0))):=(S3.out.WC.setCell (by show w.heap.size≤w.heap.size+1;omega) _).setCell (by show w.heap.size≤w.heap.size+1;omega) _;clear t0 t1 f0 f1;generalize (w3.setCell _ _).setCell _ _=wE at *;have e0:=SE.out.cl 0 _ rfl;have e1:=SE.out.cl 1 _ rfl;exact ZW (v:=.agg #[.bool false,.slice none 0 0]) (by simp [results,Tryz.results85,go_sem,e0,e1]) rfl ⟨BE.out,.inl ⟨wJ.out,rfl⟩⟩
structure tC (w:World) (vt:Value) (W:World):Prop where
 WC:Zi w W
 sx:St W w.heap.size [vt]
theorem tC.below (h:tC w vt W) (hb:Zi W W'):tC w vt W' :=
 ⟨h.WC.trans (hb.mono h.WC.size),h.sx.below hb⟩
theorem tC.new (w:World) (vt:Value):tC w vt ((w.alloc (.cells #[vt] 63)).alloc (.cells #[.slice none 0 0,.int .i64 0,.int .i64 0,.int .i64 0] 99))∧St ((w.alloc (.cells #[vt] 63)).alloc (.cells #[.slice none 0 0,.int .i64 0,.int .i64 0,.int .i64 0] 99)) (w.heap.size+1) [.slice none 0 0,.int .i64 0,.int .i64 0,.int .i64 0]:=by
 refine ⟨⟨(Yy.alloc YR _).alloc (by simp) _,(St.new w _ _).below (Yy.alloc YR _)⟩,?_⟩;have h9:=St.new (w.alloc (.cells #[vt] 63)) #[.slice none 0 0,.int .i64 0,.int .i64 0,.int .i64 0] 99;rw [YF] at h9;exact h9
end Go.Proofs.YtpmjnbmkippaiaaGreatDoor


